/- Own work: contracts of the program's functions, part 2: W9 W10 W11 W12 D6 W13 W14 W15 W16. -/
import Derived.Test.YtokklnjoalkjaaaGreatDoorA1
import Derived.Laws.ResultCell

set_option maxHeartbeats 16000000
set_option maxRecDepth 200000
set_option linter.unusedVariables false
set_option linter.unusedSimpArgs false
namespace Go.Proofs.YtokklnjoalkjaaaGreatDoor
open Go.RowKit
structure Only (g:Nat) (w w':World):Prop where
 os:w'.os=w.os
 tape:w'.tape=w.tape
 output:w'.output=w.output
 size:w'.heap.size=w.heap.size
 block:∀ k,k≠g→w'.heap[k]?=w.heap[k]?
theorem Only.refl (g:Nat) (w:World):Only g w w:=⟨rfl,rfl,rfl,rfl,fun _ _=>rfl⟩
theorem Only.trans {g:Nat} {a b c:World} (h:Only g a b) (k:Only g b c):Only g a c:=⟨k.os.trans h.os,k.tape.trans h.tape,k.output.trans h.output,k.size.trans h.size,fun i hi=>(k.block i hi).trans (h.block i hi)⟩
theorem Only.drewN (g:Nat) (w:World) (n:Nat):Only g w (w.drewN n):=⟨rfl,rfl,rfl,rfl,fun _ _=>rfl⟩
theorem Only.set {g:Nat} {w wr:World} (h:Only g w wr) (o:Nat) (u:Value):Only g w (wr.setCell ⟨g,o,none⟩ u) :=
 h.trans ⟨rfl,rfl,rfl,by simp[World.setCell],fun k hk=>Below.heap_setCell _ _ _ _ hk⟩
theorem Only.cell {g:Nat} {w wr:World} (h:Only g w wr) {p:Addr} {u:Value} (hp:p.block≠g) (hc:w.cell? p=some u):wr.cell? p=some u:=(World.cell?_of_block (w:=w) (h.block p.block hp)).trans hc
theorem Only.below {g B:Nat} {w wr:World} (h:Only g w wr) (hg:B≤g):Below B w wr:=⟨h.os,h.tape,h.output,by rw[h.size];exact Nat.le_refl _,fun k hk=>h.block k (by omega)⟩
def RowGe (w:World) (b N:Nat) (f:Nat→Value):Prop:=∃ c:Array Value,w.heap[b]?=some (.cells c 68 (0,0))∧N≤c.size∧∀ i,i<N→c[i]?=some (f i)
theorem RowGe.cell {w:World} {b N:Nat} {f:Nat→Value} (h:RowGe w b N f) {i:Nat} (hi:i<N):w.cell? ⟨b,i,none⟩=some (f i):=by
 obtain⟨c,hb,_,hc⟩:=h
 simp[World.cell?,hb,hc i hi]
theorem RowGe.frozen {w:World} {b N:Nat} {f:Nat→Value} (h:RowGe w b N f) (i:Nat):w.frozen? ⟨b,i,none⟩=false:=by
 obtain⟨c,hb,_,_⟩:=h
 simp[World.frozen?,hb]
theorem RowGe.congr {w:World} {b N:Nat} {f g:Nat→Value} (h:RowGe w b N f) (e:∀ i,i<N→f i=g i):RowGe w b N g:=by
 obtain⟨c,hb,hn,hc⟩:=h
 exact⟨c,hb,hn,fun i hi=>by rw[hc i hi,e i hi]⟩
theorem RowGe.of_block {w w':World} {b N:Nat} {f:Nat→Value} (h:RowGe w b N f) (e:w'.heap[b]?=w.heap[b]?):RowGe w' b N f:=by
 obtain⟨c,hb,hn,hc⟩:=h
 exact⟨c,e.trans hb,hn,hc⟩
theorem RowGe.of {w:World} {b n N:Nat} {f:Nat→Value} (h:w.rowIs b 68 n f) (hN:N≤n):RowGe w b N f:=by
 obtain⟨c,hb,hn,hc⟩:=h
 exact⟨c,hb,by omega,fun i hi=>hc i (by omega)⟩
theorem RowGe.set {w:World} {b N:Nat} {f:Nat→Value} (h:RowGe w b N f) (i:Nat) (v:Value):RowGe (w.setCell ⟨b,i,none⟩ v) b N (fun j=>if j=i then v else f j):=by
 obtain⟨c,hb,hn,hc⟩:=h
 refine⟨c.setIfInBounds i v,?_,by simpa using hn,fun j hj=>?_⟩
 ·simp[World.setCell,Array.getElem?_modify,hb]
 ·rw[Array.getElem?_setIfInBounds]
  by_cases e:j=i
  ·subst e
   simp
   omega
  ·rw[if_neg (fun h=>e h.symm)]
   show c[j]?=some (if j=i then v else f j)
   rw[if_neg e]
   exact hc j hj
structure In (g:Nat) (w wr:World) (N:Nat) (f:Nat→Nat):Prop where
 only:Only g w wr
 row:RowGe wr g N (fun i=>.int .u32 (f i:Nat))
theorem In.cell {g:Nat} {w wr:World} {N:Nat} {f:Nat→Nat} (h:In g w wr N f) {i:Nat} (hi:i<N):wr.cell? ⟨g,i,none⟩=some (.int .u32 (f i:Nat)):=h.row.cell hi
theorem In.frozen {g:Nat} {w wr:World} {N:Nat} {f:Nat→Nat} (h:In g w wr N f) (i:Nat):wr.frozen? ⟨g,i,none⟩=false:=h.row.frozen i
theorem In.set {g:Nat} {w wr:World} {N:Nat} {f:Nat→Nat} (h:In g w wr N f) (i d:Nat):In g w (wr.setCell ⟨g,i,none⟩ (.int .u32 (d:Nat))) N (fun j=>if j=i then d else f j) :=
 ⟨h.only.set _ _,(h.row.set i _).congr (fun j _=>by split <;> rfl)⟩
theorem In.congr {g:Nat} {w wr:World} {N:Nat} {f f':Nat→Nat} (h:In g w wr N f) (e:∀ i,i<N→f i=f' i):In g w wr N f':=⟨h.only,h.row.congr (fun i hi=>by rw[e i hi])⟩
def put (off j z:Nat) (f:Nat→Nat):Nat→Nat:=fun s=>if off≤s∧s<off+j then dg z (s - off)else f s
theorem put_zero (off z:Nat) (f:Nat→Nat) (s:Nat):put off 0 z f s=f s:=if_neg (by omega)
theorem In.put {g:Nat} {w wr:World} {N off j z:Nat} {f:Nat→Nat} (h:In g w wr N (put off j z f)) {q:Int} (hq:q=(dg z j:Nat)):In g w (wr.setCell ⟨g,off+j,none⟩ (.int .u32 q)) N (put off (j+1) z f):=by
 subst hq
 refine(h.set (off+j) _).congr fun s hs=>?_
 unfold YtokklnjoalkjaaaGreatDoor.put
 by_cases e:s=off+j
 ·subst e
  rw[if_pos rfl,if_pos (by omega),Nat.add_sub_cancel_left]
 ·rw[if_neg e]
  by_cases e2:off≤s∧s<off+j
  ·rw[if_pos e2,if_pos (by omega)]
  ·rw[if_neg e2,if_neg (by omega)]
theorem put_past {off j z s:Nat} {f:Nat→Nat} (h:off+j≤s):put off j z f s=f s:=if_neg (by omega)
theorem c177_1 (g off cap N n r d bb ob cb:Nat) (bo:Option Addr) (f:Nat→Nat) (w:World) (hn:n≤35184372088832) (hb:0<n→bo=some ⟨bb,ob,none⟩) (hbg:bb≠g) (hd:d<B^n)
  (hcb:∀ i,i<n→w.cell? ⟨bb,ob+i,none⟩=some (.int .u32 (dg d i:Nat))) (hN:off+n+1≤N) (hI:In g w w N f) (hf:∀ j,j≤n→f (off+j)=dg r j) :
  Calls Tryz.prog 168 #[.slice (some ⟨g,off,none⟩) (n+1:Nat) cap,.slice bo n cb] w fun e w'=>e=.returned (.tuple #[])∧In g w w' N (put off (n+1) (r+d) f):=by
 have HD:Hid (d<B^n):=hd
 clear hd
 go_enter Tryz.func168,Tryz.ntmps168
 go_wp2
 go_loopw [4,9] (fun c i wr=>∃ j:Nat,j≤n∧c=.int .u32 (addc r d j:Nat)∧i=.int .i64 j∧In g w wr N (put off j (r+d) f)) (fun _ i _=>n - (intOf i).toNat)
 case atStart=>exact⟨0,Nat.zero_le _,by rw[addc_zero];rfl,rfl,hI.congr fun s _=>(put_zero ..).symm⟩
 case round =>
  obtain⟨j,hj,rfl,rfl,hM⟩:=hrel
  have g2:=hM.cell (i:=off+j) (by omega)
  have g3:=hM.frozen (off+j)
  rw[put_past (by omega),hf j hj] at g2
  by_cases hjn:j<n
  ·obtain rfl:=hb (by omega)
   have g1:=hM.only.cell hbg (hcb j hjn)
   have hji:(j:Int)<(n:Int):=by omega
   have k188:=fun w=>c188 (dg_lt r j) (dg_lt d j) (addc_le r d j) w
   have e1:(dg r j+dg d j+addc r d j) % B=dg (r+d) j:=by rw[dg_add];congr 1;omega
   have e2:(dg r j+dg d j+addc r d j) / B=addc r d (j+1):=by rw[addc_succ];congr 1;omega
   rw[e1,e2] at k188
   have HM:Hid (In g w wr N (put off j (r+d) f)):=hM
   generalize dg r j=x at *
   generalize dg d j=y at *
   generalize addc r d j=c at *
   generalize hs:dg (r+d) j=s at *
   generalize hc:addc r d (j+1)=c' at *
   have HS:Hid (dg (r+d) j=s∧addc r d (j+1)=c'):=⟨hs,hc⟩
   clear hM hcb hI hf e1 e2 hs hc
   go_wp2_with (first|(go_at_call 178;refine(k188 _).mono ?_;rintro e w' ⟨rfl,rfl⟩))
   exact⟨⟨j+1,by omega,by rw[HS.out.2],by simp,HM.out.put (by rw[HS.out.1])⟩,by simp[intOf];omega⟩
  ·obtain rfl:j=n:=by omega
   have hx:=dg_lt r j
   have hc:=addc_le r d j
   have HM:Hid (In g w wr N (put off j (r+d) f)):=hM
   have HE:Hid (dg (r+d) j=(dg r j+addc r d j) % B):=(by rw[dg_add,dg_of_lt HD.out];congr 1;omega:dg (r+d) j=(dg r j+addc r d j) % B)
   generalize dg r j=x at *
   generalize addc r d j=c at *
   clear hM hcb hI hf hx
   go_wp2
   go_end0
   exact⟨rfl,HM.out.put (by rw[HE.out];unfold B;omega)⟩
theorem c176_1 (g off cap N n r d t bb ob cb:Nat) (bo:Option Addr) (f:Nat→Nat) (w:World) (hn:n≤35184372088832) (hb:0<n→bo=some ⟨bb,ob,none⟩) (hbg:bb≠g) (hd:d<B^n) (ht:t<B) (hr:r<B^(n+1))
  (hcb:∀ i,i<n→w.cell? ⟨bb,ob+i,none⟩=some (.int .u32 (dg d i:Nat))) (hN:off+n+1≤N) (hI:In g w w N f) (hf:∀ j,j≤n→f (off+j)=dg r j) :
  Calls Tryz.prog 167 #[.slice (some ⟨g,off,none⟩) (n+1:Nat) cap,.slice bo n cb,.int .u32 t] w fun e w'=>e=.returned (.bool (decide (r<d*t)))∧In g w w' N (put off (n+1) (wsub r (d*t) (n+1)) f):=by
 have HD:Hid (d<B^n∧t<B∧r<B^(n+1)):=⟨hd,ht,hr⟩
 clear hd ht hr
 go_enter Tryz.func167,Tryz.ntmps167
 go_wp2
 go_loopw [7,8,13] (fun c b i wr=>∃ j:Nat,j≤n∧c=.int .u64 (mulc d t j:Nat)∧b=.int .u32 (subb r (d*t) j:Nat)∧i=.int .i64 j∧In g w wr N (put off j (wsub r (d*t) (n+1)) f)) (fun _ _ i _=>n - (intOf i).toNat)
 case atStart=>exact⟨0,Nat.zero_le _,by rw[mulc_zero];rfl,by rw[subb_zero];rfl,rfl,hI.congr fun s _=>(put_zero ..).symm⟩
 case round =>
  obtain⟨j,hj,rfl,rfl,rfl,hM⟩:=hrel
  have g2:=hM.cell (i:=off+j) (by omega)
  have g3:=hM.frozen (off+j)
  rw[put_past (by omega),hf j hj] at g2
  have k174:=fun w=>c174 (dg_lt r j) (dg_lt (d*t) j) (subb_le r (d*t) j) w
  have e1:(dg r j+B+B - dg (d*t) j - subb r (d*t) j) % B=dg (wsub r (d*t) (n+1)) j:=(dg_wsub (by omega)).symm
  have e2:=(subb_succ r (d*t) j).symm
  rw[e1,e2] at k174
  have HM:Hid (In g w wr N (put off j (wsub r (d*t) (n+1)) f)):=hM
  have hcl:=mulc_le d t j
  by_cases hjn:j<n
  ·obtain rfl:=hb (by omega)
   have g1:=hM.only.cell hbg (hcb j hjn)
   have hji:(j:Int)<(n:Int):=by omega
   have hw:IntKind.u64.wrap ((mulc d t j:Nat)+IntKind.u64.wrap (IntKind.u64.wrap ((dg d j:Nat):Int)*IntKind.u64.wrap (t:Int)))=((mulc d t j+dg d j*t:Nat):Int):=by
    have:=mac_fits (c:=mulc d t j) (f:=0) (d:=t) (e:=dg d j) (by have:=HD.out.2.1;omega) (by unfold B;omega) HD.out.2.1 (dg_lt _ _)
    rw[wrap_d (dg_lt _ _),wrap_d HD.out.2.1,←Int.natCast_mul]
    generalize dg d j*t=m at *
    rw[IntKind.wrap_u64,IntKind.wrap_u64]
    omega
   have h1:((mulc d t j+dg d j*t:Nat):Int) % 4294967296=(dg (d*t) j:Nat):=by rw[dg_mul];unfold B;omega
   have h2:((mulc d t j+dg d j*t:Nat):Int) / 4294967296=(mulc d t (j+1):Nat):=by rw[mulc_succ];unfold B;omega
   generalize hQ:mulc d t j+dg d j*t=Q at *
   generalize dg r j=x at *
   generalize dg (d*t) j=y at *
   generalize dg d j=dj at *
   generalize mulc d t j=c at *
   generalize subb r (d*t) j=b at *
   generalize hs:dg (wsub r (d*t) (n+1)) j=s at *
   generalize hc:subb r (d*t) (j+1)=b' at *
   generalize hc2:mulc d t (j+1)=c' at *
   have HS:Hid (dg (wsub r (d*t) (n+1)) j=s∧subb r (d*t) (j+1)=b'∧mulc d t (j+1)=c'):=⟨hs,hc,hc2⟩
   clear hM hcb hI hf e1 e2 hs hc hc2 hQ hcl
   go_wp2_with (first|(go_at_call 172;simp only[hw,h1];refine(k174 _).mono ?_;rintro e w' ⟨rfl,rfl⟩))
   exact⟨⟨j+1,by omega,by rw[HS.out.2.2],by rw[HS.out.2.1],by simp,HM.out.put (by rw[HS.out.1])⟩,by simp[intOf];omega⟩
  ·obtain rfl:j=n:=by omega
   have h1:((mulc d t j:Nat):Int) % 4294967296=(dg (d*t) j:Nat):=by rw[dg_mul,dg_of_lt HD.out.1];unfold B;omega
   have hfin:subb r (d*t) (j+1)=if r<d*t then 1 else 0:=by
    unfold subb
    have hm:d*t<B^(j+1):=by rw[Bpow_succ];exact Nat.mul_lt_mul_of_lt_of_le HD.out.1 (Nat.le_of_lt HD.out.2.1) B_pos
    rw[Nat.mod_eq_of_lt HD.out.2.2,Nat.mod_eq_of_lt hm]
   have hfin2:(((subb r (d*t) (j+1):Nat):Int) != 0)=decide (r<d*t):=by rw[hfin];by_cases h:r<d*t <;> simp[h]
   generalize dg r j=x at *
   generalize dg (d*t) j=y at *
   generalize mulc d t j=c at *
   generalize subb r (d*t) j=b at *
   generalize hs:dg (wsub r (d*t) (j+1)) j=s at *
   generalize subb r (d*t) (j+1)=b' at *
   have HS:Hid (dg (wsub r (d*t) (j+1)) j=s):=hs
   have HB:Hid (((b':Int) != 0)=decide (r<d*t)):=hfin2
   clear hM hcb hI hf e1 e2 hs hcl hfin hfin2
   go_wp2_with (first|(go_at_call 172;simp only[h1];refine(k174 _).mono ?_;rintro e w' ⟨rfl,rfl⟩))
   go_ret
   exact⟨congrArg Ending.returned (congrArg Value.bool HB.out),HM.out.put (by rw[HS.out])⟩
theorem two_digits' {d0 d1:Nat} (h0:d0<B) (h1:d1<B):bits .or .u64 (IntKind.u64.wrap (IntKind.u64.wrap (d1:Int)*4294967296)) (IntKind.u64.wrap (d0:Int))=((d0+d1*B:Nat):Int):=by
 have e:IntKind.u64.wrap (IntKind.u64.wrap (d1:Int)*4294967296)=((d1*B:Nat):Int):=by
  rw[wrap_d h1,IntKind.wrap_u64];unfold B at *; omega
 rw[wrap_d h0,e,u64_or_nat _ _ (by unfold B at *; omega) (by unfold B at *; omega),or_add (p:=32) (by rw[←B_two];exact Nat.mul_mod_left ..) h0,Nat.add_comm]
theorem wrap_quo {H d:Nat} (h:H<18446744073709551616):IntKind.u64.wrap ((H:Int) / (d:Int))=((H / d:Nat):Int):=by
 have h2:=Nat.div_le_self H d
 rw[←Int.natCast_ediv]
 generalize H / d=T at *
 rw[IntKind.wrap_u64]
 omega
theorem min_end {T:Nat} (h:4294967295<(T:Int)):(4294967295:Int)=((min T 4294967295:Nat):Int):=by omega
theorem min_end3 {T:Nat} (h:(T:Int)≤4294967295):(T:Int)=((min T 4294967295:Nat):Int):=by omega
theorem c175_1 (g off cap bb ob cb r1 r0 d0:Nat) (w:World) (h0:r0<B) (h1:r1<B) (hd:d0<B) (hd0:d0≠0)
  (g1:w.cell? ⟨g,off+1,none⟩=some (.int .u32 (r1:Nat))) (g0:w.cell? ⟨g,off,none⟩=some (.int .u32 (r0:Nat))) (gd:w.cell? ⟨bb,ob,none⟩=some (.int .u32 (d0:Nat))) :
  Calls Tryz.prog 166 #[.slice (some ⟨g,off,none⟩) 2 cap,.slice (some ⟨bb,ob,none⟩) 1 cb] w fun e w'=>e=.returned (.int .u32 (min ((r0+r1*B) / d0) 4294967295:Nat))∧∃ n,w'=w.drewN n:=by
 have e1:=two_digits' h0 h1
 have e2:=wrap_d hd
 have hdz:((d0:Int)==0)=false:=by simp;exact hd0
 have hHb:r0+r1*B<18446744073709551616:=by unfold B at *; omega
 generalize hH:r0+r1*B=H at *
 have e3:IntKind.u64.wrap ((H:Int) / (d0:Int))=((H / d0:Nat):Int):=wrap_quo hHb
 generalize H / d0=T at *
 clear hH h0 h1 hHb hd
 go_enter Tryz.func166,Tryz.ntmps166
 go_wp2
 go_quiet (fail)
 go_wp2
 ·go_ret
  exact⟨congrArg Ending.returned (congrArg (Value.int IntKind.u32) (min_end (by assumption))),nq,rfl⟩
 ·go_ret
  exact⟨congrArg Ending.returned (congrArg (Value.int IntKind.u32) (min_end3 (by assumption))),nq,rfl⟩
def Gu (H d1 d0 r0 q t l:Nat):Prop:=t*d1+l=H∧q≤t∧t<B∧q*(d1*B+d0)≤H*B+r0
theorem gu_more {H d1 d0 r0 q t l:Nat} (h:Gu H d1 d0 r0 q t l) (hc:r0+l*B<t*d0):Gu H d1 d0 r0 q (t - 1) (l+d1)∧0<t:=by
 obtain⟨h1,h2,h3,h4⟩:=h
 have ht:0<t:=Nat.pos_of_ne_zero fun e=>by subst e;simp at hc
 have hlt:q*(d1*B+d0)<t*(d1*B+d0):=by
  have:t*(d1*B+d0)=t*d1*B+t*d0:=by grind
  rw[←h1] at h4
  have e:(t*d1+l)*B=t*d1*B+l*B:=by grind
  omega
 have hq:q<t:=Nat.lt_of_mul_lt_mul_right hlt
 refine⟨⟨?_,by omega,by omega,h4⟩,ht⟩
 have:t*d1=(t - 1)*d1+d1:=by
  have:=Nat.add_mul (t - 1) 1 d1
  rw[show t - 1+1=t by omega,Nat.one_mul] at this
  exact this
 omega
theorem gu_end {H d1 d0 r0 q t l:Nat} (h:Gu H d1 d0 r0 q t l) (hc:t*d0≤r0+l*B):q≤t∧t<B∧t*(d1*B+d0)≤H*B+r0:=by
 obtain⟨h1,h2,h3,h4⟩:=h
 refine⟨h2,h3,?_⟩
 have:t*(d1*B+d0)=t*d1*B+t*d0:=by grind
 rw[←h1]
 have e:(t*d1+l)*B=t*d1*B+l*B:=by grind
 omega
theorem c175_2 (g off cap bb ob cb k r2 r1 r0 d1 d0 q T:Nat) (w:World) (hk:k≤35184372088832) (h2:r2<B) (h1:r1<B) (h0:r0<B) (hd1:d1<B) (hd1z:d1≠0) (hd0:d0<B)
  (hT:(r1+r2*B) / d1=T) (hTT:T≤4294967295) (hG:Gu (r1+r2*B) d1 d0 r0 q T (r1+r2*B - T*d1))
  (g2:w.cell? ⟨g,off+(k+2),none⟩=some (.int .u32 (r2:Nat))) (g1:w.cell? ⟨g,off+(k+1),none⟩=some (.int .u32 (r1:Nat))) (g0:w.cell? ⟨g,off+k,none⟩=some (.int .u32 (r0:Nat)))
  (f1:w.cell? ⟨bb,ob+(k+1),none⟩=some (.int .u32 (d1:Nat))) (f0:w.cell? ⟨bb,ob+k,none⟩=some (.int .u32 (d0:Nat))) :
  Calls Tryz.prog 166 #[.slice (some ⟨g,off,none⟩) (k+3:Nat) cap,.slice (some ⟨bb,ob,none⟩) (k+2:Nat) cb] w fun e w'=>(∃ t:Nat,e=.returned (.int .u32 t)∧q≤t∧t<B∧t*(d1*B+d0)≤(r1+r2*B)*B+r0)∧∃ n,w'=w.drewN n:=by
 have e1:=two_digits' h1 h2
 have e2:=wrap_d hd1
 have hdz:((d1:Int)==0)=false:=by simp;exact hd1z
 have hHb:r1+r2*B<18446744073709551616:=by unfold B at *; omega
 generalize hH:r1+r2*B=H at *
 have e3:IntKind.u64.wrap ((H:Int) / (d1:Int))=((H / d1:Nat):Int):=wrap_quo hHb
 rw[hT] at e3
 have hm:T*d1≤H:=by have:=hG.1;omega
 have e4:IntKind.u64.wrap ((T:Int)*(d1:Int))=((T*d1:Nat):Int):=by
  rw[IntKind.wrap_u64]
  generalize hg:T*d1=m at *
  have:(T:Int)*(d1:Int)=(m:Int):=by rw[←hg];exact(Int.natCast_mul _ _).symm
  rw[this];omega
 have e5:IntKind.u64.wrap ((H:Int) - ((T*d1:Nat):Int))=((H - T*d1:Nat):Int):=by
  rw[IntKind.wrap_u64];omega
 have HB:Hid (r0<B∧d0<B∧d1<B∧H<18446744073709551616):=⟨h0,hd0,hd1,hHb⟩
 have HG:Hid (Gu H d1 d0 r0 q T (H - T*d1)):=hG
 have htt:(T:Int)≤4294967295:=by omega
 have hk1:((k:Int)+2==1)=false:=by simp;omega
 generalize T*d1=M at *
 generalize hL:H - M=L at *
 clear hH h0 h1 h2 hHb hd1 hd0 hT hG hm hL
 go_enter Tryz.func166,Tryz.ntmps166
 go_wp2
 go_quiet (fail)
 go_wp2
 clear e1 e2 e3 e4 e5
 go_loopw [8,9] (fun a b wr=>∃ t l n:Nat,a=.int .u64 t∧b=.int .u64 l∧wr=w.drewN n∧Hid (Gu H d1 d0 r0 q t l)) (fun a _ _=>(intOf a).toNat)
 case atStart=>exact⟨_,L,nq,rfl,rfl,rfl,HG⟩
 case round =>
  obtain⟨t,l,n,rfl,rfl,rfl,hg⟩:=hrel
  obtain⟨b1,b2,b3,b4⟩:=HB.out
  have hl:l≤H:=by have:=hg.out.1;omega
  have HW:Hid (∃ d',w.drewN n=w.drewN d'):=⟨n,rfl⟩
  have x0:(w.drewN n).cell? ⟨g,off+k,none⟩=some (.int .u32 (r0:Nat)):=g0
  have y0:(w.drewN n).cell? ⟨bb,ob+k,none⟩=some (.int .u32 (d0:Nat)):=f0
  generalize w.drewN n=wd at *
  have i1:(l:Int)<4294967296→bits .or .u64 (IntKind.u64.wrap ((l:Int)*4294967296)) (IntKind.u64.wrap (r0:Int))=((r0+l*B:Nat):Int):=fun h=>by
   have:=two_digits' (d1:=l) b1 (by unfold B;omega)
   rw[wrap_d (by unfold B;omega)] at this
   exact this
  have i2:IntKind.u64.wrap ((t:Int)*IntKind.u64.wrap (d0:Int))=((t*d0:Nat):Int):=by
   have:=mac_fits (c:=0) (f:=0) (d:=d0) (e:=t) (by unfold B;omega) (by unfold B;omega) b2 hg.out.2.2.1
   rw[wrap_d b2,←Int.natCast_mul,IntKind.wrap_u64]
   generalize t*d0=m at *
   omega
  by_cases hlB:(l:Int)<4294967296
  ·have i1:=i1 hlB
   have i3:bits .or .u64 ((l:Int)*4294967296) (IntKind.u64.wrap (r0:Int))=((r0+l*B:Nat):Int):=by
    rw[←i1,show IntKind.u64.wrap ((l:Int)*4294967296)=(l:Int)*4294967296 by rw[IntKind.wrap_u64];omega]
   have HC:Hid (r0+l*B<t*d0∨¬ r0+l*B<t*d0):=Nat.lt_or_ge _ _ |>.imp id Nat.not_lt.2
   have hgm:=fun h=>gu_more hg.out h
   have hge:=fun h=>gu_end hg.out h
   generalize r0+l*B=P2 at *
   generalize t*d0=P1 at *
   have HGM:Hid (P2<P1→Gu H d1 d0 r0 q (t - 1) (l+d1)∧0<t):=hgm
   have HGE:Hid (P1≤P2→q≤t∧t<B∧t*(d1*B+d0)≤H*B+r0):=hge
   have s1:IntKind.u64.wrap ((l:Int)+(d1:Int))=((l+d1:Nat):Int):=by rw[IntKind.wrap_u64];unfold B at *; omega
   have s2:t<B:=hg.out.2.2.1
   have HS:Hid (t<B):=s2
   have HS1:Hid (IntKind.u64.wrap ((l:Int)+(d1:Int))=((l+d1:Nat):Int)):=s1
   clear hgm hge g0 g1 g2 f0 f1 HG s1 s2 b1 b2 b3 b4 hl hg
   by_cases hc:P2<P1
   ·have hci:(P2:Int)<(P1:Int):=by omega
    go_wp2
    go_quiet (fail)
    have HC2:Hid (P2<P1):=hc
    clear hlB i1 i2 i3 hci hc
    go_wp2
    obtain⟨d',e⟩:=HW.out
    obtain⟨hg,ht0⟩:=HGM.out HC2.out
    have hts:=HS.out
    rw[HS1.out]
    refine⟨⟨t - 1,l+d1,_,?_,rfl,by rw[e];exact World.drewN_drewN ..,hg⟩,?_⟩
    ·congr 1
     unfold B at hts
     first|omega|(rw[IntKind.wrap_u64];omega)
    ·unfold B at hts
     simp only[intOf]
     first|omega|(rw[IntKind.wrap_u64];omega)
   ·have hci:¬ (P2:Int)<(P1:Int):=by omega
    go_wp2
    go_quiet (fail)
    have HC2:Hid (¬ P2<P1):=hc
    clear hlB i1 i2 i3 hci hc
    go_wp2
    go_ret
    obtain⟨d',e⟩:=HW.out
    have HE:=HGE.out (by have:=HC2.out;omega)
    have ht:=HE.2.1
    refine⟨⟨t,congrArg Ending.returned (congrArg (Value.int IntKind.u32) ?_),HE⟩,_,by rw[e];exact World.drewN_drewN ..⟩
    unfold B at ht
    omega
  ·have hlB':decide ((l:Int)<4294967296)=false:=by simpa using hlB
   have HE:Hid (q≤t∧t<B∧t*(d1*B+d0)≤H*B+r0):=gu_end hg.out (by
    have h5:t*d0≤B*B:=Nat.mul_le_mul (Nat.le_of_lt hg.out.2.2.1) (Nat.le_of_lt b2)
    have h6:B*B≤l*B:=Nat.mul_le_mul_right _ (by unfold B;omega)
    omega)
   clear i1 b1 b2 b3 b4 hl hg
   go_wp2
   go_quiet (fail)
   go_wp2
   go_ret
   obtain⟨d',e⟩:=HW.out
   have ht:=HE.out.2.1
   refine⟨⟨t,congrArg Ending.returned (congrArg (Value.int IntKind.u32) ?_),HE.out⟩,_,by rw[e];exact World.drewN_drewN ..⟩
   unfold B at ht
   omega
theorem c175_3 (g off cap bb ob cb k r2 r1 r0 d1 d0 q T:Nat) (w:World) (hk:k≤35184372088832) (h2:r2<B) (h1:r1<B) (h0:r0<B) (hd1:d1<B) (hd1z:d1≠0) (hd0:d0<B)
  (hT:(r1+r2*B) / d1=T) (hTT:4294967295<T) (hG:Gu (r1+r2*B) d1 d0 r0 q 4294967295 (r1+r2*B - 4294967295*d1))
  (g2:w.cell? ⟨g,off+(k+2),none⟩=some (.int .u32 (r2:Nat))) (g1:w.cell? ⟨g,off+(k+1),none⟩=some (.int .u32 (r1:Nat))) (g0:w.cell? ⟨g,off+k,none⟩=some (.int .u32 (r0:Nat)))
  (f1:w.cell? ⟨bb,ob+(k+1),none⟩=some (.int .u32 (d1:Nat))) (f0:w.cell? ⟨bb,ob+k,none⟩=some (.int .u32 (d0:Nat))) :
  Calls Tryz.prog 166 #[.slice (some ⟨g,off,none⟩) (k+3:Nat) cap,.slice (some ⟨bb,ob,none⟩) (k+2:Nat) cb] w fun e w'=>(∃ t:Nat,e=.returned (.int .u32 t)∧q≤t∧t<B∧t*(d1*B+d0)≤(r1+r2*B)*B+r0)∧∃ n,w'=w.drewN n:=by
 have e1:=two_digits' h1 h2
 have e2:=wrap_d hd1
 have hdz:((d1:Int)==0)=false:=by simp;exact hd1z
 have hHb:r1+r2*B<18446744073709551616:=by unfold B at *; omega
 generalize hH:r1+r2*B=H at *
 have e3:IntKind.u64.wrap ((H:Int) / (d1:Int))=((H / d1:Nat):Int):=wrap_quo hHb
 rw[hT] at e3
 have hm:4294967295*d1≤H:=by have:=hG.1;omega
 have e4:IntKind.u64.wrap ((4294967295:Int)*(d1:Int))=((4294967295*d1:Nat):Int):=by
  rw[IntKind.wrap_u64]
  generalize hg:4294967295*d1=m at *
  have:(4294967295:Int)*(d1:Int)=(m:Int):=by rw[←hg];exact(Int.natCast_mul _ _).symm
  rw[this];omega
 have e5:IntKind.u64.wrap ((H:Int) - ((4294967295*d1:Nat):Int))=((H - 4294967295*d1:Nat):Int):=by
  rw[IntKind.wrap_u64];omega
 have HB:Hid (r0<B∧d0<B∧d1<B∧H<18446744073709551616):=⟨h0,hd0,hd1,hHb⟩
 have HG:Hid (Gu H d1 d0 r0 q 4294967295 (H - 4294967295*d1)):=hG
 have htt:(4294967295:Int)<(T:Int):=by omega
 have hk1:((k:Int)+2==1)=false:=by simp;omega
 generalize 4294967295*d1=M at *
 generalize hL:H - M=L at *
 clear hH h0 h1 h2 hHb hd1 hd0 hT hG hm hL
 go_enter Tryz.func166,Tryz.ntmps166
 go_wp2
 go_quiet (fail)
 go_wp2
 clear e1 e2 e3 e4 e5
 go_loopw [8,9] (fun a b wr=>∃ t l n:Nat,a=.int .u64 t∧b=.int .u64 l∧wr=w.drewN n∧Hid (Gu H d1 d0 r0 q t l)) (fun a _ _=>(intOf a).toNat)
 case atStart=>exact⟨_,L,nq,rfl,rfl,rfl,HG⟩
 case round =>
  obtain⟨t,l,n,rfl,rfl,rfl,hg⟩:=hrel
  obtain⟨b1,b2,b3,b4⟩:=HB.out
  have hl:l≤H:=by have:=hg.out.1;omega
  have HW:Hid (∃ d',w.drewN n=w.drewN d'):=⟨n,rfl⟩
  have x0:(w.drewN n).cell? ⟨g,off+k,none⟩=some (.int .u32 (r0:Nat)):=g0
  have y0:(w.drewN n).cell? ⟨bb,ob+k,none⟩=some (.int .u32 (d0:Nat)):=f0
  generalize w.drewN n=wd at *
  have i1:(l:Int)<4294967296→bits .or .u64 (IntKind.u64.wrap ((l:Int)*4294967296)) (IntKind.u64.wrap (r0:Int))=((r0+l*B:Nat):Int):=fun h=>by
   have:=two_digits' (d1:=l) b1 (by unfold B;omega)
   rw[wrap_d (by unfold B;omega)] at this
   exact this
  have i2:IntKind.u64.wrap ((t:Int)*IntKind.u64.wrap (d0:Int))=((t*d0:Nat):Int):=by
   have:=mac_fits (c:=0) (f:=0) (d:=d0) (e:=t) (by unfold B;omega) (by unfold B;omega) b2 hg.out.2.2.1
   rw[wrap_d b2,←Int.natCast_mul,IntKind.wrap_u64]
   generalize t*d0=m at *
   omega
  by_cases hlB:(l:Int)<4294967296
  ·have i1:=i1 hlB
   have i3:bits .or .u64 ((l:Int)*4294967296) (IntKind.u64.wrap (r0:Int))=((r0+l*B:Nat):Int):=by
    rw[←i1,show IntKind.u64.wrap ((l:Int)*4294967296)=(l:Int)*4294967296 by rw[IntKind.wrap_u64];omega]
   have HC:Hid (r0+l*B<t*d0∨¬ r0+l*B<t*d0):=Nat.lt_or_ge _ _ |>.imp id Nat.not_lt.2
   have hgm:=fun h=>gu_more hg.out h
   have hge:=fun h=>gu_end hg.out h
   generalize r0+l*B=P2 at *
   generalize t*d0=P1 at *
   have HGM:Hid (P2<P1→Gu H d1 d0 r0 q (t - 1) (l+d1)∧0<t):=hgm
   have HGE:Hid (P1≤P2→q≤t∧t<B∧t*(d1*B+d0)≤H*B+r0):=hge
   have s1:IntKind.u64.wrap ((l:Int)+(d1:Int))=((l+d1:Nat):Int):=by rw[IntKind.wrap_u64];unfold B at *; omega
   have s2:t<B:=hg.out.2.2.1
   have HS:Hid (t<B):=s2
   have HS1:Hid (IntKind.u64.wrap ((l:Int)+(d1:Int))=((l+d1:Nat):Int)):=s1
   clear hgm hge g0 g1 g2 f0 f1 HG s1 s2 b1 b2 b3 b4 hl hg
   by_cases hc:P2<P1
   ·have hci:(P2:Int)<(P1:Int):=by omega
    go_wp2
    go_quiet (fail)
    have HC2:Hid (P2<P1):=hc
    clear hlB i1 i2 i3 hci hc
    go_wp2
    obtain⟨d',e⟩:=HW.out
    obtain⟨hg,ht0⟩:=HGM.out HC2.out
    have hts:=HS.out
    rw[HS1.out]
    refine⟨⟨t - 1,l+d1,_,?_,rfl,by rw[e];exact World.drewN_drewN ..,hg⟩,?_⟩
    ·congr 1
     unfold B at hts
     first|omega|(rw[IntKind.wrap_u64];omega)
    ·unfold B at hts
     simp only[intOf]
     first|omega|(rw[IntKind.wrap_u64];omega)
   ·have hci:¬ (P2:Int)<(P1:Int):=by omega
    go_wp2
    go_quiet (fail)
    have HC2:Hid (¬ P2<P1):=hc
    clear hlB i1 i2 i3 hci hc
    go_wp2
    go_ret
    obtain⟨d',e⟩:=HW.out
    have HE:=HGE.out (by have:=HC2.out;omega)
    have ht:=HE.2.1
    refine⟨⟨t,congrArg Ending.returned (congrArg (Value.int IntKind.u32) ?_),HE⟩,_,by rw[e];exact World.drewN_drewN ..⟩
    unfold B at ht
    omega
  ·have hlB':decide ((l:Int)<4294967296)=false:=by simpa using hlB
   have HE:Hid (q≤t∧t<B∧t*(d1*B+d0)≤H*B+r0):=gu_end hg.out (by
    have h5:t*d0≤B*B:=Nat.mul_le_mul (Nat.le_of_lt hg.out.2.2.1) (Nat.le_of_lt b2)
    have h6:B*B≤l*B:=Nat.mul_le_mul_right _ (by unfold B;omega)
    omega)
   clear i1 b1 b2 b3 b4 hl hg
   go_wp2
   go_quiet (fail)
   go_wp2
   go_ret
   obtain⟨d',e⟩:=HW.out
   have ht:=HE.out.2.1
   refine⟨⟨t,congrArg Ending.returned (congrArg (Value.int IntKind.u32) ?_),HE.out⟩,_,by rw[e];exact World.drewN_drewN ..⟩
   unfold B at ht
   omega
theorem top_eq {x n:Nat} (h:x<B^(n+1)):x / B^n=dg x n:=by
 rw[top_split,Nat.div_eq_of_lt h,Nat.zero_mul,Nat.zero_add]
theorem quo_lt {x n:Nat} (x':Nat) (h:x / B^n=x'):x'*B^n≤x∧x<(x'+1)*B^n:=by
 subst h
 refine⟨Nat.div_mul_le_self ..,?_⟩
 rw[Nat.add_mul,Nat.one_mul]
 exact Nat.lt_div_mul_add (Bpow_pos n)
theorem c175 {g off cap bb ob cb n r d:Nat} {w:World} (hn:n≤35184372088832) (hn0:0<n) (hr:r<B^(n+1)) (hd:d<B^n) (hd1:B^(n - 1)≤d) (hrd:r<d*B)
  (hcr:∀ j,j≤n→w.cell? ⟨g,off+j,none⟩=some (.int .u32 (dg r j:Nat))) (hcb:∀ i,i<n→w.cell? ⟨bb,ob+i,none⟩=some (.int .u32 (dg d i:Nat))) :
  Calls Tryz.prog 166 #[.slice (some ⟨g,off,none⟩) (n+1:Nat) cap,.slice (some ⟨bb,ob,none⟩) n cb] w fun e w'=>(∃ t:Nat,e=.returned (.int .u32 t)∧r / d≤t∧t<B∧(t - 1)*d≤r)∧∃ k,w'=w.drewN k:=by
 have hdp:0<d:=Nat.lt_of_lt_of_le (Bpow_pos _) hd1
 have hq:r / d<B:=(Nat.div_lt_iff_lt_mul hdp).2 (by rw[Nat.mul_comm];exact hrd)
 have hqd:r / d*d≤r:=Nat.div_mul_le_self ..
 by_cases hn1:n=1
 ·subst hn1
  have e0:d=dg d 0:=by rw[dg_zero,Nat.mod_eq_of_lt (by simpa using hd)]
  have er:r=dg r 0+dg r 1*B:=by
   have h1:=top_split r 0
   have h2:=top_eq (n:=1) hr
   simp at h1 h2
   rw[h2] at h1
   omega
  have h:=c175_1 g off cap bb ob cb (dg r 1) (dg r 0) (dg d 0) w (dg_lt _ _) (dg_lt _ _) (dg_lt _ _) (by omega) (hcr 1 (by omega)) (by have:=hcr 0 (by omega);rwa [Nat.add_zero] at this) (by have:=hcb 0 (by omega);rwa [Nat.add_zero] at this)
  rw[←e0,←er,show min (r / d) 4294967295=r / d from Nat.min_eq_left (by unfold B at hq;exact Nat.le_of_lt_succ hq)] at h
  refine h.mono ?_
  rintro e w' ⟨rfl,hw⟩
  exact⟨⟨r / d,rfl,Nat.le_refl _,hq,Nat.le_trans (Nat.mul_le_mul_right _ (Nat.sub_le ..)) hqd⟩,hw⟩
 ·obtain⟨k,rfl⟩:∃ k,n=k+2:=⟨n - 2,by omega⟩
  have t2:=top_eq (n:=k+2) hr
  have t1:r / B^(k+1)=dg r (k+1)+dg r (k+2)*B:=by rw[top_split,t2];omega
  have t0:r / B^k=(dg r (k+1)+dg r (k+2)*B)*B+dg r k:=by rw[top_split,t1]
  have s1:d / B^(k+1)=dg d (k+1):=top_eq hd
  have s0:d / B^k=dg d (k+1)*B+dg d k:=by rw[top_split,s1]
  obtain⟨u1,u2⟩:=quo_lt _ t1
  obtain⟨v1,v2⟩:=quo_lt _ t0
  obtain⟨x1,x2⟩:=quo_lt _ s1
  obtain⟨y1,y2⟩:=quo_lt _ s0
  have hd1z:dg d (k+1)≠0:=by
   intro e
   rw[e] at x2
   simp at x2 hd1
   omega
  have q1:r / d*dg d (k+1)≤dg r (k+1)+dg r (k+2)*B:=guess_ge hqd u2 x1 (Bpow_pos _)
  have q0:r / d*(dg d (k+1)*B+dg d k)≤(dg r (k+1)+dg r (k+2)*B)*B+dg r k:=guess_ge hqd v2 y1 (Bpow_pos _)
  have q2:r / d≤(dg r (k+1)+dg r (k+2)*B) / dg d (k+1):=(Nat.le_div_iff_mul_le (by omega)).2 q1
  have hBm:B*B^k≤d:=by rw[Nat.mul_comm,←Bpow_succ];simpa using hd1
  have fin:∀ e w',((∃ t:Nat,e=Ending.returned (.int .u32 t)∧r / d≤t∧t<B∧t*(dg d (k+1)*B+dg d k)≤(dg r (k+1)+dg r (k+2)*B)*B+dg r k)∧∃ n,w'=w.drewN n) →
    (∃ t:Nat,e=.returned (.int .u32 t)∧r / d≤t∧t<B∧(t - 1)*d≤r)∧∃ k,w'=w.drewN k:=by
   rintro e w' ⟨⟨t,rfl,a1,a2,a3⟩,hw⟩
   exact⟨⟨t,rfl,a1,a2,guess_le a3 a2 v1 y2 hBm (Bpow_pos _)⟩,hw⟩
  have c2:=hcr (k+2) (by omega)
  have c1:=hcr (k+1) (by omega)
  have c0:=hcr k (by omega)
  have f1:=hcb (k+1) (by omega)
  have f0:=hcb k (by omega)
  have hm:(dg r (k+1)+dg r (k+2)*B) / dg d (k+1)*dg d (k+1)≤dg r (k+1)+dg r (k+2)*B:=Nat.div_mul_le_self ..
  by_cases hT:(dg r (k+1)+dg r (k+2)*B) / dg d (k+1)≤4294967295
  ·refine(c175_2 g off cap bb ob cb k _ _ _ _ _ (r / d) _ w (by omega) (dg_lt _ _) (dg_lt _ _) (dg_lt _ _) (dg_lt _ _) hd1z (dg_lt _ _) rfl hT ⟨by omega,q2,by unfold B at *; omega,q0⟩ c2 c1 c0 f1 f0).mono fin
  ·have hm2:4294967295*dg d (k+1)≤dg r (k+1)+dg r (k+2)*B:=Nat.le_trans (Nat.mul_le_mul_right _ (by omega)) hm
   refine(c175_3 g off cap bb ob cb k _ _ _ _ _ (r / d) _ w (by omega) (dg_lt _ _) (dg_lt _ _) (dg_lt _ _) (dg_lt _ _) hd1z (dg_lt _ _) rfl (by omega) ⟨by omega,by unfold B at *; omega,by unfold B;omega,q0⟩ c2 c1 c0 f1 f0).mono fin
theorem put_put (off j z z':Nat) (f:Nat→Nat) (s:Nat):put off j z (put off j z' f) s=put off j z f s:=by
 unfold put
 by_cases h:off≤s∧s<off+j
 ·rw[if_pos h,if_pos h]
 ·rw[if_neg h,if_neg h,if_neg h]
theorem put_mod (off j z z':Nat) (f:Nat→Nat) (h:z % B^j=z' % B^j) (s:Nat):put off j z f s=put off j z' f s:=by
 unfold put
 by_cases h2:off≤s∧s<off+j
 ·rw[if_pos h2,if_pos h2,←dg_mod (x:=z) (n:=j) (by omega),h,dg_mod (by omega)]
 ·rw[if_neg h2,if_neg h2]
theorem c148 {g off cap bb ob cb n r d N:Nat} {f:Nat→Nat} {w:World} (hn:n≤35184372088832) (hn0:0<n) (hr:r<B^(n+1)) (hd:d<B^n) (hd1:B^(n - 1)≤d) (hrd:r<d*B) (hbg:bb≠g)
  (hcb:∀ i,i<n→w.cell? ⟨bb,ob+i,none⟩=some (.int .u32 (dg d i:Nat))) (hN:off+n+1≤N) (hrow:RowGe w g N (fun i=>.int .u32 (f i:Nat))) (hf:∀ j,j≤n→f (off+j)=dg r j) :
  Calls Tryz.prog 138 #[.slice (some ⟨g,off,none⟩) (n+1:Nat) cap,.slice (some ⟨bb,ob,none⟩) n cb] w fun e w'=>e=.returned (.int .u32 (r / d:Nat))∧In g w w' N (put off (n+1) (r % d) f):=by
 have hdp:0<d:=Nat.lt_of_lt_of_le (Bpow_pos _) hd1
 have k175:Calls Tryz.prog 166 #[.slice (some ⟨g,off,none⟩) (n+1:Nat) cap,.slice (some ⟨bb,ob,none⟩) n cb] w fun e w'=>(∃ t:Nat,e=.returned (.int .u32 t)∧r / d≤t∧t<B∧(t - 1)*d≤r)∧∃ k,w'=w.drewN k :=
  c175 hn hn0 hr hd hd1 hrd (fun j hj=>by rw[hrow.cell (by omega),hf j hj]) hcb
 have k176:∀ t k,t<B→Calls Tryz.prog 167 #[.slice (some ⟨g,off,none⟩) (n+1:Nat) cap,.slice (some ⟨bb,ob,none⟩) n cb,.int .u32 t] (w.drewN k) fun e w'=>e=.returned (.bool (decide (r<d*t)))∧In g (w.drewN k) w' N (put off (n+1) (wsub r (d*t) (n+1)) f) :=
  fun t k ht=>c176_1 g off cap N n r d t bb ob cb (some ⟨bb,ob,none⟩) f (w.drewN k) hn (fun _=>rfl) hbg hd ht hr hcb hN ⟨Only.refl _ _,hrow⟩ hf
 have k177:∀ (z:Nat) (w1 w2:World),In g w1 w2 N (put off (n+1) z f)→(∀ i,i<n→w2.cell? ⟨bb,ob+i,none⟩=some (.int .u32 (dg d i:Nat))) →
   Calls Tryz.prog 168 #[.slice (some ⟨g,off,none⟩) (n+1:Nat) cap,.slice (some ⟨bb,ob,none⟩) n cb] w2 fun e w'=>e=.returned (.tuple #[])∧In g w2 w' N (put off (n+1) (z+d) (put off (n+1) z f)) :=
  fun z w1 w2 h hc=>c177_1 g off cap N n z d bb ob cb (some ⟨bb,ob,none⟩) _ w2 hn (fun _=>rfl) hbg hd hc hN ⟨Only.refl _ _,h.row⟩ (fun j hj=>by unfold put;rw[if_pos (by omega),Nat.add_sub_cancel_left])
 have HF1:∀ t,r / d≤t→d*t≤r→r / d=t∧wsub r (d*t) (n+1)=r % d:=fun t h1 h2=>by
  have h3:t≤r / d:=(Nat.le_div_iff_mul_le hdp).2 (by rw[Nat.mul_comm];exact h2)
  have h4:t=r / d:=by omega
  subst h4
  refine⟨rfl,?_⟩
  rw[wsub_of_le hr h2]
  have:=Nat.div_add_mod r d
  omega
 have HF2:∀ t,t<B→(t - 1)*d≤r→r<d*t→r / d=t - 1∧(wsub r (d*t) (n+1)+d) % B^(n+1)=r % d % B^(n+1):=fun t ht h1 h2=>by
  have ht0:0<t:=Nat.pos_of_ne_zero fun e=>by subst e;simp at h2
  have e1:d*t=(t - 1)*d+d:=by
   have:=Nat.add_mul (t - 1) 1 d
   rw[show t - 1+1=t by omega,Nat.one_mul] at this
   rw[Nat.mul_comm];exact this
  have h3:r / d=t - 1:=by
   rw[Nat.div_eq_iff hdp]
   omega
  refine⟨h3,?_⟩
  have hm:d*t<B^(n+1):=by rw[Bpow_succ];exact Nat.mul_lt_mul_of_lt_of_le hd (Nat.le_of_lt ht) B_pos
  have h5:=Nat.div_add_mod r d
  rw[h3,Nat.mul_comm] at h5
  have h6:wsub r (d*t) (n+1)=r+B^(n+1) - d*t:=by
   unfold wsub
   rw[Nat.mod_eq_of_lt hm,Nat.mod_eq_of_lt (by omega)]
  rw[h6,show r+B^(n+1) - d*t+d=r % d+B^(n+1) by omega,Nat.add_mod_right]
 have hcbk:∀ k w2 z,In g (w.drewN k) w2 N (put off (n+1) z f)→∀ i,i<n→w2.cell? ⟨bb,ob+i,none⟩=some (.int .u32 (dg d i:Nat)):=fun k w2 z h i hi=>h.only.cell (p:=⟨bb,ob+i,none⟩) hbg (hcb i hi)
 have H1:Hid (∀ t,r / d≤t→d*t≤r→r / d=t∧wsub r (d*t) (n+1)=r % d):=HF1
 have H2:Hid (∀ t,t<B→(t - 1)*d≤r→r<d*t→r / d=t - 1∧(wsub r (d*t) (n+1)+d) % B^(n+1)=r % d % B^(n+1)):=HF2
 clear HF1 HF2 hrow hf hcb
 go_enter Tryz.func138,Tryz.ntmps138
 go_wp2_with fail
 refine k175.mono ?_
 rintro e w1 ⟨⟨t,rfl,ht1,ht2,ht3⟩,k,rfl⟩
 have k6:=k176 t k ht2
 have HT:Hid (r / d≤t∧t<B∧(t - 1)*d≤r):=⟨ht1,ht2,ht3⟩
 clear k175 k176 ht1 ht2 ht3
 by_cases hlt:r<d*t
 ·have hdec:decide (r<d*t)=true:=decide_eq_true hlt
  rw[hdec] at k6
  have HL:Hid (r<d*t):=hlt
  generalize hz:wsub r (d*t) (n+1)=z at *
  have HZ:Hid (wsub r (d*t) (n+1)=z):=hz
  clear hlt hdec hz
  go_wp2_with fail
  refine k6.mono ?_
  rintro e w2 ⟨rfl,hI⟩
  have k7:=k177 z _ w2 hI (hcbk k w2 z hI)
  have HI:Hid (In g (w.drewN k) w2 N (put off (n+1) z f)):=hI
  clear k6 k177 hcbk hI
  go_wp2_with fail
  refine k7.mono ?_
  rintro e w3 ⟨rfl,hI3⟩
  have HI3:Hid (In g w2 w3 N (put off (n+1) (z+d) (put off (n+1) z f))):=hI3
  clear k7 hI3
  go_wp2
  go_ret
  obtain⟨a1,a2,a3⟩:=HT.out
  obtain⟨b1,b2⟩:=H2.out t a2 a3 HL.out
  have ht0:0<t:=Nat.pos_of_ne_zero fun e=>by have:=HL.out;rw[e] at this;simp at this
  refine⟨congrArg Ending.returned (congrArg (Value.int IntKind.u32) ?_),?_,HI3.out.row.congr fun i hi=>?_⟩
  ·rw[b1]
   unfold B at a2
   omega
  ·exact((Only.drewN g w k).trans HI.out.only).trans HI3.out.only
  ·rw[put_put,put_mod _ _ _ (r % d) _ (by rw[←HZ.out];exact b2)]
 ·have hdec:decide (r<d*t)=false:=decide_eq_false hlt
  rw[hdec] at k6
  have HL:Hid (¬ r<d*t):=hlt
  generalize hz:wsub r (d*t) (n+1)=z at *
  have HZ:Hid (wsub r (d*t) (n+1)=z):=hz
  clear hlt hdec hz
  go_wp2_with fail
  refine k6.mono ?_
  rintro e w2 ⟨rfl,hI⟩
  have HI:Hid (In g (w.drewN k) w2 N (put off (n+1) z f)):=hI
  clear k6 k177 hcbk hI
  go_wp2
  go_ret
  obtain⟨a1,a2,a3⟩:=HT.out
  obtain⟨b1,b2⟩:=H1.out t a1 (by have:=HL.out;omega)
  rw[b1]
  refine⟨rfl,(Only.drewN g w k).trans HI.out.only,HI.out.row.congr fun i hi=>?_⟩
  rw[←b2,HZ.out]
def cells (x n:Nat):List Value:=(List.range n).map fun i=>Value.int .u32 (dg x i:Nat)
theorem cells_length (x n:Nat):(cells x n).length=n:=by simp[cells]
theorem cells_get {x n i:Nat} (h:i<n):(cells x n)[i]?=some (.int .u32 (dg x i:Nat)):=by simp[cells,h]
theorem Own.row {w:World} {base:Nat} {v:Value} {x:Nat} (h:Own w base v x):w.ownsRow base 68 1 v (dlen x) (cells x (dlen x)):=by
 rcases h with ⟨rfl,rfl⟩|⟨g,cap,f,rfl,hb,h1,h2,⟨c,hc,hs,hf⟩,h4⟩
 ·rw[dlen_zero];exact World.ownsRow_nil ..
 ·refine⟨by rw[cells_length];omega,.inr ⟨g,cap,c,rfl,hb,hc,h1,by unfold maxLen;omega,by omega,?_⟩⟩
  apply List.ext_getElem?
  intro i
  rw[Nat.mul_one,List.getElem?_take]
  by_cases hi:i<dlen x
  ·rw[if_pos hi,cells_get hi,Array.getElem?_toList,hf i (by omega),h4 i hi]
  ·rw[if_neg hi,List.getElem?_eq_none (by rw[cells_length];omega)]
theorem row_of {w:World} {base:Nat} {v:Value} {x:Nat} (h:w.ownsRow base 68 1 v (dlen x+1) (cells x (dlen x) ++ [.int .u32 0])) :
  ∃ g cap f,v=.slice (some ⟨g,0,none⟩) (dlen x+1) cap∧base≤g∧dlen x+1≤cap∧cap≤maxLen∧w.rowIs g 68 cap f∧∀ i,i<dlen x+1→f i=.int .u32 (dg x i:Nat):=by
 rcases h.2 with ⟨_,h0⟩|⟨g,cap,c,hv,hb,hc,h1,h2,h3,h4⟩
 ·omega
 ·refine⟨g,cap,fun i=>(c[i]?).getD undef,hv,hb,h1,h2,⟨c,hc,by omega,fun i hi=>?_⟩,fun i hi=>?_⟩
  ·simp only[]
   rw[Array.getElem?_eq_getElem (by omega)];rfl
  ·have h5:(cells x (dlen x) ++ [Value.int .u32 0])[i]?=c[i]?:=by
    rw[←h4,Nat.mul_one,List.getElem?_take,if_pos hi,Array.getElem?_toList]
   show(c[i]?).getD undef=_
   rw[←h5]
   by_cases e:i<dlen x
   ·rw[List.getElem?_append_left (by rw[cells_length];exact e),cells_get e];rfl
   ·have:i=dlen x:=by omega
    subst this
    rw[List.getElem?_append_right (by rw[cells_length];exact Nat.le_refl _),cells_length,dg_past (Nat.le_refl _)]
    simp
theorem norm_len {y n:Nat} (hn:dlen y=n+1):dlen (y*2^(32 - bl (dg y n)))=n+1∧B^n≤y*2^(32 - bl (dg y n)):=by
 have hy0:y≠0:=fun e=>by subst e;rw[dlen_zero] at hn;omega
 have h1:=lt_dlen y
 rw[hn] at h1
 have h2:=le_dlen hy0
 rw[hn,Nat.add_sub_cancel] at h2
 have h3:=top_eq h1
 obtain⟨h4,h5⟩:=quo_lt _ h3
 have h6:=lt_bl (dg y n)
 have h7:=bl_le32 (dg_lt y n)
 have hb:2^bl (dg y n)*2^(32 - bl (dg y n))=B:=two_le h7
 have h8:y*2^(32 - bl (dg y n))<B^(n+1):=by
  have h9:y<2^bl (dg y n)*B^n:=Nat.lt_of_lt_of_le h5 (Nat.mul_le_mul_right _ h6)
  have h10:=Nat.mul_lt_mul_of_pos_right h9 (Nat.two_pow_pos (32 - bl (dg y n)))
  rw[Bpow_succ,←hb]
  calc _<_:=h10
   _=_:=by grind
 have h11:B^n≤y*2^(32 - bl (dg y n)):=Nat.le_trans h2 (Nat.le_mul_of_pos_right _ (Nat.two_pow_pos _))
 exact⟨dlen_eq h8 (.inr (by rw[Nat.add_sub_cancel];exact h11)),h11⟩
theorem c100_0 {u v:Value} {x y:Nat} {w:World} (h1:Is w u x) (h2:Is w v y) (hx:dlen x≤35184372088832) (hy:dlen y≤35184372088832) (hlt:x<y) :
  Calls Tryz.prog 98 #[u,v] w fun e w'=>e=.returned (.tuple #[.slice none 0 0,.bool (decide (x % y=0))])∧∃ d,w'=w.drewN d:=by
 have k:=c129 h1 h2 hx hy
 obtain⟨ao,cap,rfl,-,-,-⟩:=h1
 have e1:cmpI x y = -1:=by unfold cmpI;rw[if_pos (by omega)]
 rw[e1] at k
 have e2:((dlen x:Int)==0)=decide (x % y=0):=by
  rw[Nat.mod_eq_of_lt hlt]
  by_cases h:x=0
  ·subst h;simp[dlen_zero]
  ·have:=fun e=>h (dlen_eq_zero.1 e)
   simp[h];omega
 generalize decide (x % y=0)=r at *
 generalize dlen x=n at *
 clear e1
 go_enter Tryz.func98,Tryz.ntmps98
 go_wp2_with fail
 refine k.mono ?_
 rintro e w1 ⟨rfl,d,rfl⟩
 clear k
 go_wp2
 go_ret2
 exact⟨rfl,d,rfl⟩
structure Dv (w wr:World) (gr go gd n K x y i:Nat):Prop where
 below:Bw w wr
 rest:RowGe wr gr (n+K+1) (fun t=>.int .u32 (dg (x % (y*B^i)) t:Nat))
 out:wr.rowIs go 68 K (fun t=>.int .u32 (if i≤t then dg (x / y) t else 0:Nat))
 dig:∀ j,j<n+1→wr.cell? ⟨gd,j,none⟩=some (.int .u32 (dg y j:Nat))
theorem div_low (x y j:Nat):x % (y*B^(j+1)) % B^j+B^j*(x % (y*B^(j+1)) / B^j % y)=x % (y*B^j):=by
 rw[←Nat.mod_mul,Nat.mul_comm (B^j) y]
 have:y*B^(j+1)=y*B^j*B:=by rw[Bpow_succ,Nat.mul_assoc]
 rw[this,Nat.mod_mul_right_mod]
theorem div_dig (x y j:Nat):x % (y*B^(j+1)) / B^j / y=dg (x / y) j:=by
 have:y*B^(j+1)=y*B^j*B:=by rw[Bpow_succ,Nat.mul_assoc]
 rw[Nat.div_div_eq_div_mul,Nat.mul_comm (B^j) y,this,Nat.mod_mul_right_div_self,dg,Nat.div_div_eq_div_mul]
theorem div_r {x y j n:Nat} (hy0:0<y) (hy:y<B^(n+1)):x % (y*B^(j+1)) / B^j<y*B∧x % (y*B^(j+1)) / B^j<B^(n+1+1)∧x % (y*B^(j+1))<B^(j+(n+1+1)):=by
 have h0:x % (y*B^(j+1))<y*B^(j+1):=Nat.mod_lt _ (Nat.mul_pos hy0 (Bpow_pos _))
 have h1:x % (y*B^(j+1)) / B^j<y*B:=(Nat.div_lt_iff_lt_mul (Bpow_pos j)).2 (by rw[Nat.mul_assoc,Nat.mul_comm B,←Bpow_succ];exact h0)
 have h2:y*B≤B^(n+1+1):=by rw[Bpow_succ (n+1)];exact Nat.mul_le_mul_right _ (Nat.le_of_lt hy)
 refine⟨h1,by omega,?_⟩
 have h3:y*B^(j+1)≤B^(j+(n+1+1)):=by
  rw[show j+(n+1+1)=(n+1)+(j+1) by omega,Nat.pow_add B (n+1)]
  exact Nat.mul_le_mul_right _ (Nat.le_of_lt hy)
 omega
theorem div_step {w wr w':World} {gr go gd n K x y j:Nat} {q:Int} (hV:Dv w wr gr go gd n K x y (j+1)) (hy0:0<y) (hy:y<B^(n+1)) (hbr:w.heap.size≤gr) (hbo:w.heap.size≤go) (h1:gr≠go) (h2:gd≠gr) (h3:gd≠go) (hj:j<K)
  (hI:In gr wr w' (n+K+1) (put j (n+1+1) (x % (y*B^(j+1)) / B^j % y) (fun t=>dg (x % (y*B^(j+1))) t))) (hq:q=(x % (y*B^(j+1)) / B^j / y:Nat)) :
  (∃ i:Nat,i≤K∧Value.int .i64 ((j:Int) - 1)=Value.int .i64 ((i:Int) - 1)∧Dv w (w'.setCell ⟨go,j,none⟩ (.int .u32 q)) gr go gd n K x y i) ∧
  (intOf (Value.int .i64 ((j:Int) - 1))+1).toNat<(intOf (Value.int .i64 (j:Int))+1).toNat:=by
 obtain⟨r1,r2,r3⟩:=div_r (x:=x) (j:=j) hy0 hy
 refine⟨⟨j,by omega,rfl,?_,?_,?_,fun t ht=>?_⟩,by simp[intOf]⟩
 ·exact(hV.below.trans (hI.only.below hbr)).setCell hbo _
 ·refine(hI.row.of_block (Below.heap_setCell _ _ _ _ h1)).congr fun t ht=>?_
  congr 2
  rw[←div_low x y j]
  generalize x % (y*B^(j+1))=R at *
  unfold put
  by_cases e:j≤t∧t<j+(n+1+1)
  ·rw[if_pos e]
   obtain⟨s,rfl⟩:∃ s,t=j+s:=⟨t - j,by omega⟩
   rw[Nat.add_sub_cancel_left,←dg_div,Nat.add_mul_div_left _ _ (Bpow_pos j),Nat.div_eq_of_lt (Nat.mod_lt _ (Bpow_pos j)),Nat.zero_add]
  ·rw[if_neg e]
   show dg R t=_
   by_cases e2:t<j
   ·rw[←dg_mod (x:=R) e2,←dg_mod (x:=R % B^j+_) e2,Nat.add_mul_mod_self_left,Nat.mod_mod]
   ·have h5:R % B^j+B^j*(R / B^j % y)≤R:=by
     have:=Nat.mod_add_div R (B^j)
     have:=Nat.mul_le_mul_left (B^j) (Nat.mod_le (R / B^j) y)
     omega
    have h6:B^(j+(n+1+1))≤B^t:=Nat.pow_le_pow_right B_pos (by omega)
    rw[dg_of_lt (by omega),dg_of_lt (by omega)]
 ·refine((hV.out.of_block (hI.only.block go (Ne.symm h1))).set j _).congr fun t ht=>?_
  by_cases e:t=j
  ·subst e
   rw[if_pos rfl,if_pos (Nat.le_refl _),hq,div_dig]
  ·rw[if_neg e]
   by_cases e2:j+1≤t
   ·rw[if_pos e2,if_pos (by omega)]
   ·rw[if_neg e2,if_neg (by omega)]
 ·rw[World.cell?_setCell_other _ _ _ _ (fun e=>by have:=congrArg Addr.block e;simp at this;omega)]
  exact hI.only.cell (p:=⟨gd,t,none⟩) h2 (hV.dig t ht)
theorem c100_1 {u v:Value} {x y:Nat} {w:World} (h1:Is w u x) (h2:Is w v y) (hx:dlen x≤17592186044416) (hy:dlen y≤17592186044416) (hy0:y≠0) (hle:y≤x) :
  Calls Tryz.prog 98 #[u,v] w fun e w'=>∃ q,e=.returned (.tuple #[q,.bool (decide (x % y=0))])∧Own w' w.heap.size q (x / y)∧Bw w w':=by
 have k129:=c129 h1 h2 (by omega) (by omega)
 have e1:¬ cmpI x y<0:=by unfold cmpI;rw[if_neg (by omega)];split <;> omega
 generalize cmpI x y=cv at *
 have hnp:=dlen_pos hy0
 obtain⟨n,hn⟩:∃ n,dlen y=n+1:=⟨_,hnp⟩
 have H1:Hid (Is w u x):=h1
 have H2:Hid (Is w v y):=h2
 obtain⟨bo,cb,rfl,b1,b2,bb,ob,b3,b4⟩:=h2
 rw[hn] at b3 b4 k129 H2 ⊢
 obtain rfl:=b3 (by omega)
 have g1:=b4 n (by omega)
 have k147:=fun w=>c147 (dg y n) (dg_lt _ _) w
 have htz:32 - bl (dg y n)≤32:=by omega
 generalize hsp:32 - bl (dg y n)=sp at *
 have HNL:Hid (dlen (y*2^sp)=n+1∧B^n≤y*2^sp):=by rw[←hsp];exact norm_len hn
 have hnb:n≤17592186044416:=by omega
 have HXY:Hid (y≤x∧y≠0∧dlen x≤17592186044416∧dlen y≤17592186044416):=⟨hle,hy0,hx,hy⟩
 generalize dg y n=top at *
 clear b3 b4 h1 hnp
 go_enter Tryz.func98,Tryz.ntmps98
 go_wp2_with fail
 refine k129.mono ?_
 rintro e w1 ⟨rfl,d,rfl⟩
 clear k129
 go_wp2_with fail
 refine(k147 _).mono ?_
 rintro e w1 ⟨rfl,rfl⟩
 clear k147 e1 hsp g1 b1 b2 hn hle hy0 hx hy
 go_wp2_with fail
 refine(c109 (w:=w.drewN d) H2.out sp (by have:=HXY.out.2.2.2;omega) (by omega)).mono ?_
 rintro e w2 ⟨vd,rfl,hOd,hB2⟩
 have hIu:Is w2 u x:=Is.later (w:=w.drewN d) H1.out hB2
 go_wp2_with fail
 refine(c109 hIu sp (by have:=HXY.out.2.2.1;omega) (by omega)).mono ?_
 rintro e w3 ⟨vm,rfl,hOm,hB3⟩
 have hDD:∃ gd capd,vd=.slice (some ⟨gd,0,none⟩) (n+1) capd∧gd<w2.heap.size∧w.heap.size≤gd∧∀ i,i<n+1→w3.cell? ⟨gd,i,none⟩=some (.int .u32 (dg (y*2^sp) i:Nat)):=by
  rcases hOd with ⟨_,h0⟩|⟨g,cap,f,rfl,hb,h1,h2,h3,h4⟩
  ·have:=HNL.out.1
   rw[h0,dlen_zero] at this
   omega
  ·rw[HNL.out.1] at h1 h4 ⊢
   exact⟨g,cap,rfl,h3.lt,hb,fun i hi=>(hB3.cell (p:=⟨g,i,none⟩) h3.lt).trans (by rw[h3.cell (by omega),h4 i hi])⟩
 obtain⟨gd,capd,rfl,hgd2,hgdw,hD3⟩:=hDD
 have hB13:Bw w w3:=Below.trans (b:=w2) (Below.trans (b:=w.drewN d) ⟨rfl,rfl,rfl,Nat.le_refl _,fun _ _=>rfl⟩ hB2) (hB3.mono hB2.size)
 have hOw:=hOm.row
 have hLx:dlen (x*2^sp)≤17592186044420:=by have:=shl_len (x:=x) (k:=sp) rfl;have:=HXY.out.2.2.1;omega
 generalize hx':x*2^sp=x' at *
 generalize hy':y*2^sp=y' at *
 have HX':Hid (x*2^sp=x'∧y*2^sp=y'):=⟨hx',hy'⟩
 have hbase:w2.heap.size≤w3.heap.size:=hB3.size
 clear hOd hB2 hIu hB3 hx' hy' hOm
 obtain⟨i0,hi,hz0,hz1,hz2⟩:=info_parts Tryz.info68
 go_wp2_with (at_builtin;refine wpList_append_own _ rfl _ _ 37 rfl w2.heap.size 68 i0 (.int .u32 0) 1 4 Tryz.underlying37 hi hz0 hz1 hz2 rfl (by decide) _ _ _ rfl (hOw.alloc _) ⟨w3.heap.size,0,none⟩ 1 1 [.int .u32 0] rfl rfl ?c1 ?c2 ?c3 ?c4 ?c5 ?_)
 case c1=>exact(cell_one_new _ _ _)
 case c2=>intro u hu;simp at hu;subst hu;rfl
 case c3=>unfold maxLen;omega
 case c4=>omega
 case c5=>simp;omega
 intro v' w4 hown4 hgrow _
 obtain⟨gr,capr,F,rfl,hgr,hLr,hcapr,hrow,hF⟩:=row_of hown4
 have hvm:∀ k,vm.ownBlock=some k→w2.heap.size≤k:=fun k hk=>(hOw.lt k hk).1
 have hB4:Bw w w4:=Below.grown (hB13.alloc (by have:=hB13.size;omega) _) hgrow (by have:=hB13.size;simp;omega) (fun k hk=>by have:=hvm k hk;omega)
 have hD4:∀ i,i<n+1→w4.cell? ⟨gd,i,none⟩=some (.int .u32 (dg y' i:Nat)):=fun i hi =>
  hgrow.cell (a:=⟨gd,i,none⟩) (by rw[World.cell?_alloc_old _ _ _ (by show gd≠w3.heap.size;omega)];exact hD3 i hi) (fun e=>by have:=hvm gd e.symm;omega)
 have hsz4:w3.heap.size+1≤w4.heap.size:=by have:=hgrow.size;simpa using this
 obtain⟨K,hK⟩:∃ K,dlen x'=n+K:=⟨dlen x' - n,by
  have h1:y'≤x':=by rw[←HX'.out.1,←HX'.out.2];exact Nat.mul_le_mul_right _ HXY.out.1
  have:=dlen_mono h1
  rw[HNL.out.1] at this
  omega⟩
 have hK1:1≤K:=by
  have h1:y'≤x':=by rw[←HX'.out.1,←HX'.out.2];exact Nat.mul_le_mul_right _ HXY.out.1
  have:=dlen_mono h1
  rw[HNL.out.1] at this
  omega
 have HK:Hid (dlen x'=n+K):=hK
 rw[hK] at hLr hF hLx ⊢
 have hmk:=run_make_row' (P:=Tryz.prog) 37 68 (.int .u32 0) 4 Tryz.underlying37 Tryz.info68 rfl .i64 .i64 K (by omega) (by omega)
 have eK:(K:Int)=(n:Int)+K+1 - (n+1):=by omega
 rw[eK] at hmk
 have hDv:Dv w (w4.alloc (.cells (madeCells #[.int .u32 0] K) 68)) gr w4.heap.size gd n K x' y' K:=by
  refine⟨hB4.alloc (by have:=hB4.size;omega) _,?_,?_,fun j hj=>?_⟩
  ·refine((RowGe.of hrow hLr).congr fun i hi=>?_).of_block (Below.heap_alloc _ _ _ hrow.lt)
   rw[hF i hi,Nat.mod_eq_of_lt]
   have h1:=lt_dlen x'
   rw[HK.out,Nat.pow_add] at h1
   exact Nat.lt_of_lt_of_le h1 (Nat.mul_le_mul_right _ HNL.out.2)
  ·refine(World.rowIs_made w4 _ K 68).congr fun i hi=>?_
   rw[if_neg (by omega)];rfl
  ·rw[World.cell?_alloc_old _ _ _ (by show gd≠w4.heap.size;omega)];exact hD4 j hj
 have HDv:Hid (Dv w (w4.alloc (.cells (madeCells #[.int .u32 0] K) 68)) gr w4.heap.size gd n K x' y' K):=hDv
 have hne:gr<w4.heap.size:=hrow.lt
 have HF:Hid (w.heap.size≤gr):=(by have:=hB4.size;omega:w.heap.size≤gr)
 have HG:Hid (w.heap.size≤w4.heap.size):=hB4.size
 clear hown4 hgrow hOw hD3 hB13 hvm hK hF hi hz0 hz1 hz2 hrow hDv eK hB4 hD4
 go_wp2
 clear hmk
 generalize w4.heap.size=go at *
 generalize w4.alloc (.cells (madeCells #[.int .u32 0] K) 68)=w5 at *
 go_loopw [9] (fun c wr=>∃ i:Nat,i≤K∧c=.int .i64 ((i:Int) - 1)∧Dv w wr gr go gd n K x' y' i) (fun c _=>(intOf c+1).toNat)
 case atStart=>exact⟨K,Nat.le_refl _,rfl,HDv.out⟩
 case round =>
  obtain⟨i,hi,rfl,hV⟩:=hrel
  by_cases hi0:i=0
  ·subst hi0
   have hB:=hV.below
   have hq0:x'<y'*B^K:=by
    have h1:=lt_dlen x'
    rw[HK.out,Nat.pow_add] at h1
    exact Nat.lt_of_lt_of_le h1 (Nat.mul_le_mul_right _ HNL.out.2)
   have hqL:dlen (x' / y')≤K:=(dlen_le _ _).2 ((Nat.div_lt_iff_lt_mul (Nat.lt_of_lt_of_le (Bpow_pos n) HNL.out.2)).2 (by rw[Nat.mul_comm];exact hq0))
   have hrL:dlen (x' % y')≤n+K+1:=by
    have h1:=dlen_mono (Nat.le_of_lt (Nat.mod_lt x' (Nat.lt_of_lt_of_le (Bpow_pos n) HNL.out.2)))
    rw[HNL.out.1] at h1
    omega
   have hAo:At wr (some ⟨go,0,none⟩) K (x' / y'):=⟨go,0,fun _=>rfl,fun i hi=>by rw[Nat.zero_add,hV.out.cell hi,if_pos (Nat.zero_le _)]⟩
   have hAr:At wr (some ⟨gr,0,none⟩) (n+K+1) (x' % y'):=⟨gr,0,fun _=>rfl,fun i hi=>by rw[Nat.zero_add,hV.rest.cell hi,Nat.pow_zero,Nat.mul_one]⟩
   have HO:Hid (Own wr w.heap.size (.slice (some ⟨go,0,none⟩) (dlen (x / y)) K) (x / y)∧Bw w wr):=by
    have e:x' / y'=x / y:=by rw[←HX'.out.1,←HX'.out.2];exact Nat.mul_div_mul_right _ _ (Nat.two_pow_pos _)
    rw[e] at hqL
    exact⟨.inr ⟨go,K,_,rfl,HG.out,hqL,by omega,hV.out,fun i hi=>by rw[if_pos (Nat.zero_le _),e]⟩,hB⟩
   have HE:Hid (dlen (x' / y')=dlen (x / y)∧((dlen (x' % y'):Int)==0)=decide (x % y=0)):=by
    have e:x' / y'=x / y:=by rw[←HX'.out.1,←HX'.out.2];exact Nat.mul_div_mul_right _ _ (Nat.two_pow_pos _)
    have e2:x' % y'=x % y*2^sp:=by rw[←HX'.out.1,←HX'.out.2];exact Nat.mul_mod_mul_right ..
    refine⟨by rw[e],?_⟩
    rw[e2]
    by_cases h:x % y=0
    ·rw[h];simp[dlen_zero]
    ·have h1:x % y*2^sp≠0:=Nat.ne_of_gt (Nat.mul_pos (by omega) (Nat.two_pow_pos _))
     have:=fun e=>h1 (dlen_eq_zero.1 e)
     simp[h];omega
   clear hV hB hq0
   generalize hdq:dlen (x' / y')=dq at *
   generalize hdr:dlen (x' % y')=dr at *
   have k62a:Calls Tryz.prog 139 #[.slice (some ⟨go,0,none⟩) K K] wr fun e w'=>e=.returned (.slice (some ⟨go,0,none⟩) dq K)∧w'=wr:=by
    rw[←hdq];exact c62 _ _ _ (x' / y') _ (by omega) (Nat.le_refl _) (by omega) hAo
   have k62b:Calls Tryz.prog 139 #[.slice (some ⟨gr,0,none⟩) (n+K+1) capr] wr fun e w'=>e=.returned (.slice (some ⟨gr,0,none⟩) dr capr)∧w'=wr:=by
    rw[←hdr];exact c62 _ _ _ (x' % y') _ (by omega) hLr (by omega) hAr
   clear hAo hAr hdq hdr
   go_wp2_with fail
   refine k62a.mono ?_
   rintro e w6 ⟨rfl,rfl⟩
   clear k62a
   go_wp2_with fail
   refine k62b.mono ?_
   rintro e w6 ⟨rfl,rfl⟩
   clear k62b
   go_wp2
   go_ret2
   refine⟨.slice (some ⟨go,0,none⟩) dq K,?_,?_⟩
   ·rw[←HE.out.2];rfl
   ·rw[HE.out.1];exact HO.out
  ·obtain⟨j,rfl⟩:∃ j,i=j+1:=⟨i - 1,by omega⟩
   rw[show((j+1:Nat):Int) - 1=(j:Int) by omega]
   have hyl:y'<B^(n+1):=by rw[←HNL.out.1];exact lt_dlen y'
   have hyp:0<y':=Nat.lt_of_lt_of_le (Bpow_pos n) HNL.out.2
   obtain⟨r1,r2,r3⟩:=div_r (x:=x') (j:=j) hyp hyl
   have eL:j+(n+1)+1 - j=n+1+1:=by omega
   have k148:Calls Tryz.prog 138 #[.slice (some ⟨gr,j,none⟩) (j+(n+1)+1 - j) (capr - j),.slice (some ⟨gd,0,none⟩) (n+1) capd] wr fun e w' =>
     e=.returned (.int .u32 (x' % (y'*B^(j+1)) / B^j / y':Nat))∧In gr wr w' (n+K+1) (put j (n+1+1) (x' % (y'*B^(j+1)) / B^j % y') (fun t=>dg (x' % (y'*B^(j+1))) t)):=by
    rw[eL]
    exact c148 (by omega) (by omega) r2 hyl (by rw[Nat.add_sub_cancel];exact HNL.out.2) r1 (by omega) (fun i hi=>by rw[Nat.zero_add];exact hV.dig i hi) (by omega) hV.rest (fun t ht=>(dg_div _ _ _).symm)
   have HV:Hid (Dv w wr gr go gd n K x' y' (j+1)):=hV
   have g3:=hV.out.frozen j
   have g2:=hV.out.cell (i:=j) (by omega)
   clear hV r1 r2 r3 eL hyl hyp
   have HQ:Hid (x' % (y'*B^(j+1)) / B^j / y'=x' % (y'*B^(j+1)) / B^j / y'):=(rfl:_=_)
   go_wp2_with fail
   refine k148.mono ?_
   rintro e w6 ⟨rfl,hI⟩
   have g3':w6.frozen? ⟨go,j,none⟩=false:=(World.frozen?_of_block (w:=wr) (hI.only.block go (by omega))).trans g3
   have g2':=hI.only.cell (p:=⟨go,j,none⟩) (by show go≠gr;omega) g2
   have HI:Hid (In gr wr w6 (n+K+1) (put j (n+1+1) (x' % (y'*B^(j+1)) / B^j % y') (fun t=>dg (x' % (y'*B^(j+1))) t))):=hI
   clear k148 hI g2 g3
   generalize hqv:x' % (y'*B^(j+1)) / B^j / y'=qv at *
   have HQV:Hid (x' % (y'*B^(j+1)) / B^j / y'=qv):=hqv
   clear hqv HQ
   go_wp2
   exact div_step HV.out (Nat.lt_of_lt_of_le (Bpow_pos n) HNL.out.2) (by rw[←HNL.out.1];exact lt_dlen y') HF.out HG.out (by omega) (by omega) (by omega) (by omega) HI.out (by rw[HQV.out])
theorem c100 {u v:Value} {x y:Nat} {w:World} (h1:Is w u x) (h2:Is w v y) (hx:dlen x≤17592186044416) (hy:dlen y≤17592186044416) (hy0:y≠0) :
  Calls Tryz.prog 98 #[u,v] w fun e w'=>∃ q,e=.returned (.tuple #[q,.bool (decide (x % y=0))])∧Own w' w.heap.size q (x / y)∧Bw w w':=by
 by_cases h:x<y
 ·refine(c100_0 h1 h2 (by omega) (by omega) h).mono ?_
  rintro e w' ⟨rfl,d,rfl⟩
  exact⟨_,rfl,.inl ⟨rfl,Nat.div_eq_of_lt h⟩,⟨rfl,rfl,rfl,Nat.le_refl _,fun _ _=>rfl⟩⟩
 ·exact c100_1 h1 h2 hx hy hy0 (by omega)
end Go.Proofs.YtokklnjoalkjaaaGreatDoor
namespace Go.Proofs.YtokklnjoalkjaaaGreatDoor
theorem four_pow (k:Nat):4^k=2^(2*k):=by rw[Nat.pow_mul]
def Rt (x c e a:Nat):Prop:=e≤c∧(a - 1)*(a - 1)<x / 4^(c - e)∧x / 4^(c - e)<(a+1)*(a+1)
theorem rt_start {x c:Nat} (hx:x≠0) (hc:(bl x - 1) / 2=c):Rt x c 0 1∧4^c≤x:=by
 have h1:=lt_bl x
 have h2:=le_bl hx
 have h3:4^c≤x:=by
  rw[four_pow]
  exact Nat.le_trans (Nat.pow_le_pow_right (by omega) (by omega)) h2
 have h4:x<4^c*4:=by
  have:2^bl x≤2^(2*c+2):=Nat.pow_le_pow_right (by omega) (by omega)
  rw[four_pow]
  have e:2^(2*c)*4=2^(2*c+2):=by rw[Nat.pow_add]
  omega
 refine⟨⟨Nat.zero_le _,?_,?_⟩,h3⟩
 ·rw[Nat.sub_zero];exact Nat.div_pos h3 (Nat.pow_pos (by omega))
 ·rw[Nat.sub_zero];exact(Nat.div_lt_iff_lt_mul (Nat.pow_pos (by omega))).2 (by omega)
theorem rt_step {x c s a:Nat} (h:Rt x c (c / 2^(s+1)) a) (hx:4^c≤x) (hs:2^s≤c) :
  Rt x c (c / 2^s) (a*2^(c / 2^s - c / 2^(s+1) - 1)+x / 2^(2*c - c / 2^(s+1) - c / 2^s+1) / a):=by
 have hd1:1≤c / 2^s:=Nat.div_pos hs (Nat.two_pow_pos s)
 have he:c / 2^(s+1)=c / 2^s / 2:=by rw[Nat.pow_succ,Nat.div_div_eq_div_mul]
 have hdc:c / 2^s≤c:=Nat.div_le_self ..
 rw[he] at h ⊢
 generalize c / 2^s=d at *
 obtain⟨h0,h1,h2⟩:=h
 have e1:x / 4^(c - d) / 4^(d - d / 2)=x / 4^(c - d / 2):=by
  rw[Nat.div_div_eq_div_mul,←Nat.pow_add];congr 2;omega
 have e2:x / 4^(c - d) / 2^(d - d / 2+1)=x / 2^(2*c - d / 2 - d+1):=by
  rw[four_pow,Nat.div_div_eq_div_mul,←Nat.pow_add];congr 2;omega
 have h3:4^(d / 2)≤x / 4^(c - d) / 4^(d - d / 2):=by
  rw[e1,Nat.le_div_iff_mul_le (Nat.pow_pos (by omega)),←Nat.pow_add,show d / 2+(c - d / 2)=c by omega]
  exact hx
 have:=root_step (a:=a) (e:=d / 2) (k:=d - d / 2) (m:=x / 4^(c - d)) h3 (by omega) (by omega) (by rw[e1];exact h1) (by rw[e1];exact h2)
 rw[e2] at this
 exact⟨hdc,this⟩
theorem rt_le {x c e a:Nat} (h:Rt x c e a):a≤x+1:=by
 have h1:(a - 1)*(a - 1)<x:=Nat.lt_of_lt_of_le h.2.1 (Nat.div_le_self ..)
 by_cases h0:a≤1
 ·omega
 ·have:(a - 1)*1≤(a - 1)*(a - 1):=Nat.mul_le_mul_left _ (by omega)
  omega
theorem rt_pos {x c e a:Nat} (h:Rt x c e a) (hx:4^c≤x):a≠0:=by
 intro e0
 subst e0
 obtain⟨h0,h1,h2⟩:=h
 have h1':0<x / 4^(c - e):=h1
 have h2':x / 4^(c - e)<1:=h2
 omega
theorem dlen_succ_le (x:Nat):dlen (x+1)≤dlen x+1:=by
 rw[dlen_le,Bpow_succ]
 have h1:=lt_dlen x
 have:B^dlen x*2≤B^dlen x*B:=Nat.mul_le_mul_left _ (by unfold B;omega)
 have:=Bpow_pos (dlen x)
 omega
end Go.Proofs.YtokklnjoalkjaaaGreatDoor
namespace Go.Proofs.YtokklnjoalkjaaaGreatDoor
open Go.RowKit
theorem c181 (x:Nat) (hx:x<18446744073709551616) (w:World) :
  Calls Tryz.prog 171 #[.int .u64 x] w fun e w'=>e=.returned (.int .i64 (bl x:Nat))∧w'=w:=by
 rw[bl_bitLen]
 obtain⟨X,hX⟩:∃ X:Int,X=(x:Int):=⟨_,rfl⟩
 rw[←hX]
 have hX0:0≤X:=by omega
 have hX1:Hid (X<18446744073709551616):=(by omega:X<18446744073709551616)
 have hX':Hid (X=(x:Int)):=hX
 clear hX hx
 go_enter Tryz.func171,Tryz.ntmps171
 go_wp2
 all_goals go_ret
 all_goals (refine⟨congrArg Ending.returned (congrArg (Value.int IntKind.i64) ?_),rfl⟩)
 all_goals have h1:=hX1.out
 all_goals have h2:=hX'.out
 all_goals clear hX1 hX'
 all_goals subst h2
 all_goals rw[len8tab_get]
 ·exact len_fin x 56 72057594037927936 _ (by decide) (by decide) (by omega) (by omega) (by omega)
 ·exact len_fin x 48 281474976710656 _ (by decide) (by decide) (by omega) (by omega) (by omega)
 ·exact len_fin x 40 1099511627776 _ (by decide) (by decide) (by omega) (by omega) (by omega)
 ·exact len_fin x 32 4294967296 _ (by decide) (by decide) (by omega) (by omega) (by omega)
 ·exact len_fin x 24 16777216 _ (by decide) (by decide) (by omega) (by omega) (by omega)
 ·exact len_fin x 16 65536 _ (by decide) (by decide) (by omega) (by omega) (by omega)
 ·exact len_fin x 8 256 _ (by decide) (by decide) (by omega) (by omega) (by omega)
 ·exact len_fin0 x (by omega)
theorem c156 (x:Nat) (hx:x<18446744073709551616) (w:World) :
  Calls Tryz.prog 145 #[.int .u64 x] w fun e w'=>e=.returned (.int .i64 (bl x:Nat))∧w'=w:=by
 have k:=c181 x hx
 clear hx
 generalize bl x=b at *
 go_enter Tryz.func145,Tryz.ntmps145
 go_wp2_with (first|(go_at_call 171;refine(k _).mono ?_;rintro e w' ⟨rfl,rfl⟩))
 go_ret
 exact⟨rfl,rfl⟩
theorem dlen_mul_le (a b:Nat):dlen (a*b)≤dlen a+dlen b:=by
 rw[dlen_le,Nat.pow_add]
 exact Nat.mul_lt_mul_of_lt_of_le (lt_dlen a) (Nat.le_of_lt (lt_dlen b)) (Bpow_pos _)
theorem c112_0 (ao:Option Addr) (cap:Nat) (w:World):Calls Tryz.prog 104 #[.slice ao 0 cap] w fun e w'=>e=.returned (.tuple #[.slice none 0 0,.bool true])∧w'=w:=by
 go_enter Tryz.func104,Tryz.ntmps104
 go_wp2
 go_ret2
 exact⟨rfl,rfl⟩
theorem c112_1 {ao:Option Addr} {cap x n:Nat} {w:World} (h:Is w (.slice ao n cap) x) (hn:dlen x=n) (hx:dlen x≤1000000000) (hx0:x≠0) :
  Calls Tryz.prog 104 #[.slice ao n cap] w fun e w'=>∃ q r,e=.returned (.tuple #[q,.bool (decide (r*r=x))])∧Own w' w.heap.size q r∧r*r≤x∧x<(r+1)*(r+1)∧Bw w w':=by
 have k74:=c74 h (by omega)
 have hb1:1≤bl x:=by have:=lt_bl x;exact Nat.pos_of_ne_zero fun e=>by rw[e] at this;simp at this;omega
 have hb2:bl x≤32000000000:=by have:=bl_top hx0;have:=bl_le32 (dg_lt x (dlen x - 1));omega
 obtain⟨c,hc⟩:∃ c,(bl x - 1) / 2=c:=⟨_,rfl⟩
 have hn0:((n:Int)==0)=false:=by
  have:dlen x≠0:=fun e=>hx0 (dlen_eq_zero.1 e)
  simp;omega
 have hq:((bl x:Int) - 1).tdiv 2=(c:Int):=by rw[Int.tdiv_eq_ediv_of_nonneg (by omega)];omega
 obtain⟨hR0,hX4⟩:=rt_start hx0 hc
 have hcb:c≤32000000000:=by omega
 have k156:=fun w=>c156 c (by omega) w
 have hlc:bl c≤64:=(bl_le c 64).2 (by omega)
 have HR:Hid (Rt x c 0 1∧4^c≤x∧x≠0∧dlen x≤1000000000∧c<2^bl c∧(c≠0→2^(bl c - 1)≤c)):=⟨hR0,hX4,hx0,hx,lt_bl c,le_bl⟩
 have H:Hid (Is w (.slice ao n cap) x):=h
 generalize bl x=bx at *
 generalize hbc:bl c=bc at *
 have HBC:Hid (bl c=bc):=hbc
 clear hR0 hX4 hx0 hx h hn hc hbc
 go_enter Tryz.func104,Tryz.ntmps104
 go_wp2_with fail
 refine k74.mono ?_
 rintro e w1 ⟨rfl,rfl⟩
 clear k74
 go_wp2_with fail
 refine(c57 1 _ (by omega)).mono ?_
 rintro e w2 ⟨v1,rfl,hO1,hB1⟩
 go_wp2_with fail
 refine(k156 _).mono ?_
 rintro e w3 ⟨rfl,rfl⟩
 clear k156
 have HO1:Hid (Own w3 w1.heap.size v1 1∧Bw w1 w3):=⟨hO1,hB1⟩
 clear hO1 hB1
 go_wp2
 go_loopw [5,6,7] (fun v k i wr=>∃ (s a:Nat),v=v∧k=.int .i64 (c / 2^s:Nat)∧i=.int .i64 ((s:Int) - 1)∧s≤bc∧Own wr w1.heap.size v a∧Hid (Rt x c (c / 2^s) a)∧Bw w1 wr) (fun _ _ i _=>(intOf i+1).toNat)
 case atStart =>
  have e0:c / 2^bc=0:=Nat.div_eq_of_lt HR.out.2.2.2.2.1
  exact⟨bc,1,rfl,by rw[e0];rfl,rfl,Nat.le_refl _,HO1.out.1,(by rw[e0];exact HR.out.1:Rt x c (c / 2^bc) 1),HO1.out.2⟩
 case round =>
  obtain⟨s,a,-,rfl,rfl,hs,hO,hR,hB⟩:=hrel
  clear HO1
  by_cases hs0:s=0
  ·subst hs0
   have hR2:(a - 1)*(a - 1)<x∧x<(a+1)*(a+1):=by
    have h1:=hR.out
    simp only[Nat.pow_zero,Nat.div_one,Rt,Nat.sub_self] at h1
    exact h1.2
   have ha0:a≠0:=rt_pos hR.out HR.out.2.1
   have hla:dlen a≤1000000001:=by have:=dlen_mono (rt_le hR.out);have:=dlen_succ_le x;have:=HR.out.2.2.2.1;omega
   have hlx:=HR.out.2.2.2.1
   have HR2:Hid ((a - 1)*(a - 1)<x∧x<(a+1)*(a+1)):=hR2
   have HIx:Hid (Is wr (.slice ao n cap) x):=Is.later H.out hB
   have HB:Hid (Bw w1 wr):=hB
   have hla2:dlen (a*a)≤2000000002:=by have:=dlen_mul_le a a;omega
   clear hR hR2 hB
   generalize c / 2^0=c0 at *
   go_wp2_with fail
   refine(c143 hO.is hO.is (by omega) (by omega)).mono ?_
   rintro e w4 ⟨v2,rfl,hO4,hB4⟩
   have hA4:=hO.later hB4
   have k129:=c129 hO4.is (HIx.out.later hB4) (by omega) (by omega)
   have HB4:Hid (Bw w1 w4):=HB.out.trans (hB4.mono HB.out.size)
   have HA4:Hid (Own w4 w1.heap.size u5 a):=hA4
   clear hO4 hB4 hA4 hO
   by_cases hgt:x<a*a
   ·have ec:cmpI ((a*a:Nat):Int) (x:Int)=1:=by unfold cmpI;rw[if_neg (by omega),if_pos (by omega)]
    rw[ec] at k129
    go_wp2_with fail
    refine k129.mono ?_
    rintro e w5 ⟨rfl,dd,rfl⟩
    clear k129
    have h1:Is (w4.drewN dd) u5 a:=HA4.out.is
    go_wp2_with fail
    refine(c57 1 (w4.drewN dd) (by omega)).mono ?_
    rintro e w6 ⟨v6,rfl,hO6,hB6⟩
    have h6:=h1.later hB6
    go_wp2_with fail
    refine(c138 h6 hO6.is (by omega) (by omega)).mono ?_
    rintro e w7 ⟨v7,rfl,hO7,hB7⟩
    have hBB:Bw w1 w7:=HB4.out.trans (Below.trans (b:=w4.drewN dd) ⟨rfl,rfl,rfl,Nat.le_refl _,fun _ _=>rfl⟩ ((below_step hB6 hB7).mono HB4.out.size))
    have HF:Hid (Own w7 w1.heap.size v7 (a - 1)∧Bw w1 w7):=⟨hO7.mono (by have:=HB4.out.size;have:=hB6.size;simp at this;omega),hBB⟩
    have HG:Hid (x<a*a):=hgt
    clear hO6 hB6 h6 hO7 hB7 hBB h1 hgt ec
    go_wp2
    go_ret2
    have hr:=HR2.out
    refine⟨v7,a - 1,?_,HF.out.1,by omega,?_,HF.out.2⟩
    ·rw[decide_eq_false (by omega)];rfl
    ·rw[show a - 1+1=a by omega];exact HG.out
   ·have ec:¬ 0<cmpI ((a*a:Nat):Int) (x:Int):=by
     unfold cmpI
     by_cases h:a*a=x
     ·rw[if_neg (by omega),if_neg (by omega)];omega
     ·rw[if_pos (by omega)];omega
    have ed:(cmpI ((a*a:Nat):Int) (x:Int)==0)=decide (a*a=x):=by
     unfold cmpI
     by_cases h:a*a=x
     ·rw[if_neg (by omega),if_neg (by omega),decide_eq_true h];rfl
     ·rw[if_pos (by omega),decide_eq_false h];rfl
    generalize cmpI ((a*a:Nat):Int) (x:Int)=far at *
    have HE:Hid ((far==0)=decide (a*a=x)):=ed
    have HG:Hid (a*a≤x):=(by omega:a*a≤x)
    clear ed hgt
    go_wp2_with fail
    refine k129.mono ?_
    rintro e w5 ⟨rfl,dd,rfl⟩
    clear k129
    go_wp2
    go_ret2
    refine⟨u5,a,?_,HA4.out,HG.out,HR2.out.2,HB4.out.trans ⟨rfl,rfl,rfl,Nat.le_refl _,fun _ _=>rfl⟩⟩
    rw[←HE.out];rfl
  ·obtain⟨t,rfl⟩:∃ t,s=t+1:=⟨s - 1,by omega⟩
   have e1:((t+1:Nat):Int) - 1=(t:Int):=by omega
   rw[e1]
   clear e1
   have ht64:t<64:=by omega
   have hsh:(c:Int) / 2^t=((c / 2^t:Nat):Int):=by rw[cast_pow,Int.natCast_ediv]
   generalize hd:c / 2^t=d at *
   generalize he:c / 2^(t+1)=e at *
   have hc1:c≠0:=fun e0=>by
    have h1:=HBC.out
    rw[e0] at h1
    have:bl 0=0:=rfl
    omega
   have ht2:2^t≤c:=Nat.le_trans (Nat.pow_le_pow_right (by omega) (by omega)) (HR.out.2.2.2.2.2 hc1)
   have hde:e=d / 2:=by rw[←he,←hd,Nat.pow_succ,Nat.div_div_eq_div_mul]
   have hd1:1≤d:=by rw[←hd];exact Nat.div_pos ht2 (Nat.two_pow_pos t)
   have hdc:d≤c:=by rw[←hd];exact Nat.div_le_self ..
   have hstep:Rt x c d (a*2^(d - e - 1)+x / 2^(2*c - e - d+1) / a):=by
    have:=rt_step (s:=t) (by rw[he];exact hR.out) HR.out.2.1 ht2
    rw[he,hd] at this
    exact this
   have HS:Hid (Rt x c d (a*2^(d - e - 1)+x / 2^(2*c - e - d+1) / a)∧c / 2^t=d):=⟨hstep,hd⟩
   have q1:wrap64 (wrap64 (wrap64 (2*(c:Int) - (e:Int)) - (d:Int))+1)=((2*c - e - d+1:Nat):Int):=by unfold wrap64;omega
   have q2:wrap64 (wrap64 ((d:Int) - (e:Int)) - 1)=((d - e - 1:Nat):Int):=by unfold wrap64;omega
   have ha0:a≠0:=rt_pos hR.out HR.out.2.1
   have hla:dlen a≤1000000001:=by have:=dlen_mono (rt_le hR.out);have:=dlen_succ_le x;have:=HR.out.2.2.2.1;omega
   have hlx:=HR.out.2.2.2.1
   have b1:2*c - e - d+1≤64000000001:=by omega
   have b2:d - e - 1≤32000000000:=by omega
   have hl2:dlen (a*2^(d - e - 1))≤2000000003:=by have:=shl_len (x:=a) (k:=d - e - 1) rfl;omega
   generalize 2*c - e - d+1=k1 at *
   generalize d - e - 1=k2 at *
   have HIx:Hid (Is wr (.slice ao n cap) x):=Is.later H.out hB
   have HIa:Hid (Own wr w1.heap.size u5 a):=hO
   have HB:Hid (Bw w1 wr):=hB
   clear hstep hd he hde hd1 hdc ht2 hc1 hR hO hB
   go_wp2_with fail
   rw[q1]
   refine(c120 HIx.out k1 (by omega) (by omega)).mono ?_
   rintro e w4 ⟨v2,rfl,hO4,hB4⟩
   have hA4:=HIa.out.later hB4
   have hdv:dlen (x / 2^k1)≤1000000000:=Nat.le_trans (dlen_mono (Nat.div_le_self ..)) hlx
   go_wp2_with fail
   refine(c100 hO4.is hA4.is (by omega) (by omega) ha0).mono ?_
   rintro e w5 ⟨v3,rfl,hO5,hB5⟩
   have hA5:=hA4.later hB5
   have hB45:=below_step hB4 hB5
   clear hO4 hA4 hB4 hB5
   go_wp2_with fail
   rw[q2]
   refine(c109 hA5.is k2 (by omega) (by omega)).mono ?_
   rintro e w6 ⟨v4,rfl,hO6,hB6⟩
   have hQ6:=hO5.later hB6
   have hB46:=below_step hB45 hB6
   have hdq:dlen (x / 2^k1 / a)≤1000000000:=Nat.le_trans (dlen_mono (Nat.div_le_self ..)) hdv
   clear hO5 hA5 hB45 hB6
   go_wp2_with fail
   refine(c122 hO6.is hQ6.is (by omega) (by omega)).mono ?_
   rintro e w7 ⟨v5,rfl,hO7,hB7⟩
   have hsz:=hB46.size
   have HO7:Hid (Own w7 w1.heap.size v5 (a*2^k2+x / 2^k1 / a)):=hO7.mono (by have:=HB.out.size;omega)
   have HB7:Hid (Bw w1 w7):=HB.out.trans ((below_step hB46 hB7).mono HB.out.size)
   clear hO6 hQ6 hB46 hB7 hO7
   go_wp2
   exact⟨⟨t,_,trivial,by rw[HS.out.2],rfl,by omega,HO7.out,(by rw[HS.out.2];exact HS.out.1:Rt x c (c / 2^t) _),HB7.out⟩,by simp[intOf]⟩
theorem c112 {v:Value} {x:Nat} {w:World} (h:Is w v x) (hx:dlen x≤1000000000) :
  Calls Tryz.prog 104 #[v] w fun e w'=>∃ q r,e=.returned (.tuple #[q,.bool (decide (r*r=x))])∧Own w' w.heap.size q r∧r*r≤x∧x<(r+1)*(r+1)∧Bw w w':=by
 have h':=h
 obtain⟨ao,cap,rfl,-,-,-⟩:=h'
 by_cases h0:x=0
 ·subst h0
  rw[dlen_zero]
  refine(c112_0 ao cap w).mono ?_
  rintro e w' ⟨rfl,rfl⟩
  exact⟨_,0,rfl,.inl ⟨rfl,rfl⟩,by omega,by omega,Below.refl _ _⟩
 ·exact c112_1 h rfl hx h0
theorem Is.trim {w:World} {v:Value} {x:Nat} (h:Is w v x) (hx:dlen x≤35184372088832):Calls Tryz.prog 139 #[v] w fun e w'=>e=.returned v∧w'=w:=by
 obtain⟨ao,cap,rfl,h1,h2,h3⟩:=h
 exact c62 ao _ cap x w (Nat.le_refl _) h1 (by omega) h3
theorem Is.alloc {w:World} {v:Value} {x:Nat} (h:Is w v x) (o:Obj):Is (w.alloc o) v x:=h.later ((Below.refl _ _).alloc (Nat.le_refl _) _)
theorem store3 {w:World} {g:Nat} {a b c:Value} (a' b' c':Value) (h:w.heap[g]?=some (.cells #[a,b,c] 45 (0,0))) :
  (((w.setCell ⟨g,0,none⟩ a').setCell ⟨g,1,none⟩ b').setCell ⟨g,2,none⟩ c').heap[g]?=some (.cells #[a',b',c'] 45 (0,0)):=by
 simp[World.setCell,Array.getElem?_modify,h]
theorem box_cells {w:World} {g:Nat} {a b c:Value} (h:w.heap[g]?=some (.cells #[a,b,c] 45 (0,0))) :
  (w.cell? ⟨g,0,none⟩=some a∧w.cell? ⟨g,1,none⟩=some b∧w.cell? ⟨g,2,none⟩=some c)∧(w.frozen? ⟨g,0,none⟩=false∧w.frozen? ⟨g,1,none⟩=false∧w.frozen? ⟨g,2,none⟩=false):=by
 simp[World.cell?,World.frozen?,h]
theorem box_later {w w':World} {g:Nat} {o:Obj} {B:Nat} (h:w.heap[g]?=some o) (hb:Below B w w') (hg:g<B):w'.heap[g]?=some o:=(hb.block g hg).trans h
theorem below_store3 {B:Nat} {w w':World} {g:Nat} (h:Below B w w') (hg:B≤g) (a b c:Value):Below B w (((w'.setCell ⟨g,0,none⟩ a).setCell ⟨g,1,none⟩ b).setCell ⟨g,2,none⟩ c) :=
 ((h.setCell hg _).setCell hg _).setCell hg _
theorem own_store3 {w:World} {base g x:Nat} {v:Value} (h:Own w base v x) (hg:g<base) (a b c:Value):Own (((w.setCell ⟨g,0,none⟩ a).setCell ⟨g,1,none⟩ b).setCell ⟨g,2,none⟩ c) base v x:=by
 rcases h with h|⟨g',cap,f,h0,h1,h2,h3,h4,h5⟩
 ·exact .inl h
 ·exact .inr ⟨g',cap,f,h0,h1,h2,h3,((h4.setOther (by show g'≠g;omega) _).setOther (by show g'≠g;omega) _).setOther (by show g'≠g;omega) _,h5⟩
theorem Tryz.info45:(Tryz.prog.info? 45).map (·.size)=some 3:=by kernel_rfl
theorem c56_0 (neg:Bool) (ao:Option Addr) (cap:Nat) (e:Int) (w:World) (h:Is w (.slice ao 0 cap) 0) :
  Calls Tryz.prog 126 #[.bool neg,.slice ao 0 cap,.int .i64 e] w fun e w'=>e=.returned (.agg #[.bool false,.slice none 0 0,.int .i64 0])∧Bw w w':=by
 have k:=(h.alloc (.cells #[.bool false,.slice none 0 0,.int .i64 0] 45)).trim (by rw[dlen_zero];omega)
 have HB:Hid (Below w.heap.size w (w.alloc (.cells #[.bool false,.slice none 0 0,.int .i64 0] 45))):=(Below.refl _ _).alloc (Nat.le_refl _) _
 clear h
 go_enter Tryz.func126,Tryz.ntmps126
 go_wp2_with fail
 refine k.mono ?_
 rintro e w1 ⟨rfl,rfl⟩
 go_wp2
 refine bodyPost_ret (results_cell_row rfl _ _ w.heap.size 45 #[.bool false,.slice none 0 0,.int .i64 0] (0,0) _ rfl (heap_alloc_new _ _) Tryz.underlying45 rfl Tryz.info45) rfl ?_
 exact⟨rfl,HB.out⟩
theorem c56_1 (neg:Bool) (ao:Option Addr) (n cap x:Nat) (e:Int) (w:World) (h:Is w (.slice ao n cap) x) (hn:dlen x=n) (hx:dlen x≤1000000000) (hx0:x≠0) (hT:Tab32 w) (he : -4611686018427387904≤e∧e≤4611686018427387904) :
  Calls Tryz.prog 126 #[.bool neg,.slice ao n cap,.int .i64 e] w fun r w'=>∃ v,r=.returned (.agg #[.bool neg,v,.int .i64 (e+tz x)])∧Own w' w.heap.size v (x / 2^tz x)∧Bw w w':=by
 obtain⟨w0,hw0⟩:∃ w0,w0=w.alloc (.cells #[.bool false,.slice none 0 0,.int .i64 0] 45):=⟨_,rfl⟩
 have hB0:Bw w w0:=by rw[hw0];exact(Below.refl _ _).alloc (Nat.le_refl _) _
 have h0:=h.later hB0
 have hT0:=hT.later hB0
 have k62:=h0.trim (by omega)
 have k119:=c119 h0 (by omega) hx0 hT0
 have htz:tz x≤32000000000:=by
  have h1:=(tz_spec _ x (Nat.le_refl _) hx0)
  have h2:2^tz x≤x:=by
   have h3:1≤x / 2^tz x:=Nat.pos_of_ne_zero fun e0=>by have:=h1.2;rw[e0] at this;simp at this
   have:=Nat.mul_le_mul_left (2^tz x) h3
   omega
  have h4:=lt_bl x
  have h5:tz x<bl x:=Nat.lt_of_not_le fun h6=>by
   have:=Nat.pow_le_pow_right (n:=2) (by omega) h6
   omega
  have:=bl_top hx0
  have:=bl_le32 (dg_lt x (dlen x - 1))
  omega
 have k120:=c120 h0 (tz x) (by omega) (by omega)
 have hn0:((n:Int)==0)=false:=by
  have:dlen x≠0:=fun e=>hx0 (dlen_eq_zero.1 e)
  simp;omega
 have HH:Hid (w0.heap[w.heap.size]?=some (.cells #[.bool false,.slice none 0 0,.int .i64 0] 45 (0,0))):=(by rw[hw0];exact heap_alloc_new _ _:w0.heap[w.heap.size]?=some (.cells #[.bool false,.slice none 0 0,.int .i64 0] 45 (0,0)))
 have HB0:Hid (Bw w w0):=hB0
 have HX:Hid (w0.heap.size=w.heap.size+1):=(by rw[hw0];simp:w0.heap.size=w.heap.size+1)
 generalize htzx:tz x=t at *
 have HTZ:Hid (tz x=t):=htzx
 obtain⟨he1,he2⟩:=he
 clear h h0 hT hT0 hn hx0 hx hB0 htzx
 go_enter Tryz.func126,Tryz.ntmps126
 go_wp2_with fail
 rw[←hw0]
 clear hw0
 refine k62.mono ?_
 rintro e w1 ⟨rfl,rfl⟩
 clear k62
 go_wp2_with fail
 refine k119.mono ?_
 rintro e w2 ⟨rfl,rfl⟩
 clear k119
 go_wp2_with fail
 refine k120.mono ?_
 rintro e w3 ⟨v,rfl,hO,hB⟩
 obtain⟨va,vc,rfl,-,-,-⟩:=hO.is
 generalize dlen (x / 2^t)=vl at *
 have HH3:Hid (w3.heap[w.heap.size]?=some (.cells #[.bool false,.slice none 0 0,.int .i64 0] 45 (0,0))):=box_later HH.out hB (by have:=HX.out;omega)
 obtain⟨⟨a1,a2,a3⟩,a4,a5,a6⟩:=box_cells HH3.out
 have HO:Hid (Own w3 w2.heap.size (.slice va vl vc) (x / 2^t)):=hO
 have HB:Hid (Bw w2 w3):=hB
 clear k120 hO hB
 go_wp2
 refine bodyPost_ret (results_cell_row rfl _ _ w.heap.size 45 #[.bool neg,.slice va vl vc,.int .i64 (e+t)] (0,0) _ rfl (store3 _ _ _ HH3.out) Tryz.underlying45 rfl Tryz.info45) rfl ?_
 have hx:=HX.out
 exact⟨_,rfl,(own_store3 HO.out (by omega) _ _ _).mono (by omega),below_store3 (HB0.out.trans (HB.out.mono (by omega))) (Nat.le_refl _) _ _ _⟩
def NumV (neg:Bool) (v:Value) (e:Int):Value:=.agg #[.bool neg,v,.int .i64 e]
def Nrm (w':World) (base:Nat) (a:Value) (neg:Bool) (x:Nat) (e:Int):Prop :=
 (x=0∧a=NumV false (.slice none 0 0) 0)∨(x≠0∧∃ v,a=NumV neg v (e+tz x)∧Own w' base v (x / 2^tz x))
theorem c56 {neg:Bool} {m:Value} {x:Nat} {e:Int} {w:World} (h:Is w m x) (hx:dlen x≤1000000000) (hT:Tab32 w) (he : -4611686018427387904≤e∧e≤4611686018427387904) :
  Calls Tryz.prog 126 #[.bool neg,m,.int .i64 e] w fun r w'=>∃ a,r=.returned a∧Nrm w' w.heap.size a neg x e∧Bw w w':=by
 have h':=h
 obtain⟨ao,cap,rfl,-,-,-⟩:=h'
 by_cases h0:x=0
 ·subst h0
  rw[dlen_zero] at h ⊢
  refine(c56_0 neg ao cap e w h).mono ?_
  rintro r w' ⟨rfl,hb⟩
  exact⟨_,rfl,.inl ⟨rfl,rfl⟩,hb⟩
 ·refine(c56_1 neg ao _ cap x e w h rfl hx h0 hT he).mono ?_
  rintro r w' ⟨v,rfl,ho,hb⟩
  exact⟨_,rfl,.inr ⟨h0,v,rfl,ho⟩,hb⟩
theorem c18_0 (neg:Bool) (ao:Option Addr) (cap:Nat) (e:Int) (w:World) :
  Calls Tryz.prog 128 #[.agg #[.bool neg,.slice ao 0 cap,.int .i64 e]] w fun r w'=>r=.returned (.bool (e==0 && !neg))∧w'=w.alloc (.cells #[.bool neg,.slice ao 0 cap,.int .i64 e] 45):=by
 by_cases he:e=0
 ·subst he
  go_enter Tryz.func128,Tryz.ntmps128
  go_wp2
  go_ret
  exact⟨by simp,rfl⟩
 ·have he':(e==0)=false:=by simp;exact he
  go_enter Tryz.func128,Tryz.ntmps128
  go_wp2
  go_ret
  exact⟨by simp[he'],rfl⟩
theorem c18_1 (neg:Bool) (b o m cap p q:Nat) (e:Int) (w:World) (g1:w.cell? ⟨b,o+m,none⟩=some (.int .u32 q)) (g0:w.cell? ⟨b,o,none⟩=some (.int .u32 p)) (hm:m≤35184372088832) :
  Calls Tryz.prog 128 #[.agg #[.bool neg,.slice (some ⟨b,o,none⟩) (m+1) cap,.int .i64 e]] w fun r w'=>r=.returned (.bool (decide (m+1≤2048)&&(q != 0)&&(p % 2==1)&&decide (-65536≤e)&&decide (e≤65536)))∧w'=w.alloc (.cells #[.bool neg,.slice (some ⟨b,o,none⟩) (m+1) cap,.int .i64 e] 45):=by
 have f1:∀ ob,(w.alloc ob).cell? ⟨b,o+m,none⟩=some (.int .u32 q):=fun ob=>World.cell?_alloc_old w ob _ (Nat.ne_of_lt (World.block_lt_of_cell? _ _ g1)) ▸ g1
 have f0:∀ ob,(w.alloc ob).cell? ⟨b,o,none⟩=some (.int .u32 p):=fun ob=>World.cell?_alloc_old w ob _ (Nat.ne_of_lt (World.block_lt_of_cell? _ _ g0)) ▸ g0
 have hbm:=World.block_lt_of_cell? _ _ g1
 generalize hans:(decide (m+1≤2048)&&(q != 0)&&(p % 2==1)&&decide (-65536≤e)&&decide (e≤65536))=ans
 have HA:Hid (ans=(decide (m+1≤2048)&&(q != 0)&&(p % 2==1)&&decide (-65536≤e)&&decide (e≤65536))):=hans.symm
 clear hans
 go_enter Tryz.func128,Tryz.ntmps128
 go_wp2
 all_goals go_ret
 all_goals refine⟨congrArg Ending.returned (congrArg Value.bool ?_),rfl⟩
 all_goals rw[HA.out]
 all_goals clear HA g1 g0 f1 f0
 all_goals go_light
 all_goals (rw[Bool.eq_iff_iff];simp;omega)
def okN (neg:Bool) (n z:Nat) (e:Int):Bool :=
 if n=0 then(e==0 && !neg)else decide (n≤2048)&&(dg z (n - 1) != 0)&&(dg z 0 % 2==1)&&decide (-65536≤e)&&decide (e≤65536)
theorem c18 {neg:Bool} {ao:Option Addr} {n cap z:Nat} {e:Int} {w:World} (h:At w ao n z) (hn:n≤35184372088832) :
  Calls Tryz.prog 128 #[.agg #[.bool neg,.slice ao n cap,.int .i64 e]] w fun r w'=>r=.returned (.bool (okN neg n z e))∧w'=w.alloc (.cells #[.bool neg,.slice ao n cap,.int .i64 e] 45):=by
 unfold okN
 by_cases h0:n=0
 ·subst h0
  exact c18_0 neg ao cap e w
 ·obtain⟨b,o,h1,h2⟩:=h
  obtain rfl:=h1 (by omega)
  obtain⟨m,rfl⟩:∃ m,n=m+1:=⟨n - 1,by omega⟩
  rw[if_neg h0,Nat.add_sub_cancel]
  exact c18_1 neg b o m cap _ _ e w (h2 m (by omega)) (by have:=h2 0 (by omega);rwa [Nat.add_zero] at this) (by omega)
theorem c67 (g k:Nat) (ng:Nat→Bool) (ao:Nat→Option Addr) (n cap z:Nat→Nat) (e:Nat→Int) (w:World) (hk:k≤3)
  (h0:∀ i,i<k→w.cell? ⟨g,i*3,none⟩=some (.bool (ng i))) (h1:∀ i,i<k→w.cell? ⟨g,i*3+1,none⟩=some (.slice (ao i) (n i) (cap i))) (h2:∀ i,i<k→w.cell? ⟨g,i*3+2,none⟩=some (.int .i64 (e i)))
  (hA:∀ i,i<k→At w (ao i) (n i) (z i)) (hn:∀ i,i<k→n i≤35184372088832) :
  Calls Tryz.prog 90 #[.slice (some ⟨g,0,none⟩) k k] w fun r w'=>r=.returned (.bool (decide (∀ i,i<k→okN (ng i) (n i) (z i) (e i)=true)))∧Bw w w':=by
 generalize hans:decide (∀ i,i<k→okN (ng i) (n i) (z i) (e i)=true)=ans
 have HA:Hid (ans=decide (∀ i,i<k→okN (ng i) (n i) (z i) (e i)=true)):=hans.symm
 clear hans
 go_enter Tryz.func90,Tryz.ntmps90
 go_wp2
 go_loopw [7] (fun i wr=>∃ j:Nat,j≤k∧i=.int .i64 j∧Hid (Bw w wr)∧Hid (∀ i,i<j→okN (ng i) (n i) (z i) (e i)=true)) (fun i _=>k - (intOf i).toNat)
 case atStart=>exact⟨0,Nat.zero_le _,rfl,Below.refl _ _,(fun i hi=>absurd hi (Nat.not_lt_zero _):∀ i,i<0→okN (ng i) (n i) (z i) (e i)=true)⟩
 case round =>
  obtain⟨j,hj,rfl,hB,hok⟩:=hrel
  by_cases hjk:j<k
  ·have a0:wr.cell? ⟨g,j*3,none⟩=some (.bool (ng j)):=(hB.out.cell (World.block_lt_of_cell? _ _ (h0 j hjk))).trans (h0 j hjk)
   have a1:wr.cell? ⟨g,j*3+1,none⟩=some (.slice (ao j) (n j) (cap j)):=(hB.out.cell (World.block_lt_of_cell? _ _ (h1 j hjk))).trans (h1 j hjk)
   have a2:wr.cell? ⟨g,j*3+2,none⟩=some (.int .i64 (e j)):=(hB.out.cell (World.block_lt_of_cell? _ _ (h2 j hjk))).trans (h2 j hjk)
   have hg:g<wr.heap.size:=World.block_lt_of_cell? _ _ a0
   have hji:(j:Int)<(k:Int):=by omega
   have HAj:Hid (At wr (ao j) (n j) (z j)∧n j≤35184372088832):=⟨(hA j hjk).later hB.out,hn j hjk⟩
   clear h0 h1 h2 hA hn
   have k18:=c18 (neg:=ng j) (cap:=cap j) (e:=e j) (HAj.out.1.later ((Below.refl wr.heap.size wr).alloc (Nat.le_refl _) (.cells #[.bool (ng j),.slice (ao j) (n j) (cap j),.int .i64 (e j)] 45))) HAj.out.2
   generalize hokj:okN (ng j) (n j) (z j) (e j)=okj at *
   have HOK:Hid (okN (ng j) (n j) (z j) (e j)=okj):=hokj
   clear hokj
   go_wp2_with fail
   refine k18.mono ?_
   rintro r w1 ⟨rfl,hw1⟩
   have HB1:Hid (Bw w w1):=by
    rw[hw1]
    have h1:=hB.out.size
    exact(hB.out.alloc h1 _).alloc (by simp;omega) _
   clear hw1 k18
   cases okj
   ·go_wp2
    go_ret
    refine⟨congrArg Ending.returned (congrArg Value.bool ?_),HB1.out⟩
    rw[HA.out,decide_eq_false]
    intro h
    have:=h j hjk
    rw[HOK.out] at this
    exact absurd this (by decide)
   ·go_wp2
    exact⟨⟨j+1,by omega,by simp,HB1,(fun i hi=>by
     by_cases e1:i=j
     ·subst e1;exact HOK.out
     ·exact hok.out i (by omega):∀ i,i<j+1→okN (ng i) (n i) (z i) (e i)=true)⟩,by simp[intOf];omega⟩
  ·obtain rfl:j=k:=by omega
   clear h0 h1 h2 hA hn
   go_wp2
   go_ret
   refine⟨congrArg Ending.returned (congrArg Value.bool ?_),hB.out⟩
   rw[HA.out,decide_eq_true hok.out]
theorem results_cell_tmp_row {P:Program} {fn:Func} {p u:Tmp} {ty:TypeId} (h:fn.results = #[.cell p ty,.tmp u]) (tmps:Array Value) (w:World) (g:Nat) (t:TypeId) (cs:Array Value) (fr:Nat×Nat) (d:TypeDesc)
  (hp:tmps.getD p undef=.pointer (some ⟨g,0,none⟩)) (hg:w.heap[g]?=some (.cells cs t fr))
  (hu:P.underlying ty=some d) (hd:(match d with | .struct _ | .array _ _=>true|_=>false)=true) (hi:(P.info? ty).map (·.size)=some cs.size) :
  (results fn tmps).run P w=.ok (.tuple #[.agg cs,tmps.getD u undef]) w:=by
 rw[results_cell_tmp h,hp]
 simp[asAddr,run_loadVar_row w g t ty cs fr d hg hu hd hi,Result.andThen]
theorem blk_mid (w:World) (a b c:Obj):(((w.alloc a).alloc b).alloc c).heap[w.heap.size+1]?=some b:=by
 rw[Below.heap_alloc _ _ _ (by simp)]
 have:=heap_alloc_new (w.alloc a) b
 simpa using this
def Nil:Value:=NumV false (.slice none 0 0) 0
theorem c63 {neg:Bool} {ao:Option Addr} {n cap z:Nat} {e:Int} {w:World} (h:At w ao n z) (hn:n≤35184372088832) :
  Calls Tryz.prog 123 #[.agg #[.bool neg,.slice ao n cap,.int .i64 e]] w fun r w' =>
   r=.returned (.tuple #[if okN neg n z e then .agg #[.bool neg,.slice ao n cap,.int .i64 e] else Nil,.int .i64 (if okN neg n z e then 0 else 2)])∧Bw w w':=by
 have hB:Below w.heap.size w ((w.alloc (.cells #[.bool neg,.slice ao n cap,.int .i64 e] 45)).alloc (.cells #[.bool false,.slice none 0 0,.int .i64 0] 45)):=((Below.refl _ _).alloc (Nat.le_refl _) _).alloc (by simp) _
 have k18:=c18 (neg:=neg) (cap:=cap) (e:=e) (h.later hB) hn
 cases hok:okN neg n z e
 ·rw[hok] at k18
  have HB:Hid (Below w.heap.size w ((w.alloc (.cells #[.bool neg,.slice ao n cap,.int .i64 e] 45)).alloc (.cells #[.bool false,.slice none 0 0,.int .i64 0] 45))):=hB
  clear hok hB h
  go_enter Tryz.func123,Tryz.ntmps123
  go_wp2_with fail
  refine k18.mono ?_
  rintro r w1 ⟨rfl,rfl⟩
  clear k18
  go_wp2
  refine bodyPost_ret (results_cell_tmp_row rfl _ _ (w.heap.size+1) 45 #[.bool false,.slice none 0 0,.int .i64 0] (0,0) _ rfl (blk_mid _ _ _ _) Tryz.underlying45 rfl Tryz.info45) rfl ?_
  exact⟨rfl,(((Below.refl _ _).alloc (Nat.le_refl _) _).alloc (by simp) _).alloc (by simp;omega) _⟩
 ·rw[hok] at k18
  have HB:Hid (Below w.heap.size w ((w.alloc (.cells #[.bool neg,.slice ao n cap,.int .i64 e] 45)).alloc (.cells #[.bool false,.slice none 0 0,.int .i64 0] 45))):=hB
  clear hok hB h
  go_enter Tryz.func123,Tryz.ntmps123
  go_wp2_with fail
  refine k18.mono ?_
  rintro r w1 ⟨rfl,rfl⟩
  clear k18
  go_wp2
  refine bodyPost_ret (results_cell_tmp_row rfl _ _ (w.heap.size+1) 45 #[.bool neg,.slice ao n cap,.int .i64 e] (0,0) _ rfl (blk_mid _ _ _ _) Tryz.underlying45 rfl Tryz.info45) rfl ?_
  exact⟨rfl,(((Below.refl _ _).alloc (Nat.le_refl _) _).alloc (by simp) _).alloc (by simp;omega) _⟩
end Go.Proofs.YtokklnjoalkjaaaGreatDoor
