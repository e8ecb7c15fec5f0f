/- Own work: contracts of the program's functions, part 9: DV4 RV3 RV4 RW2 V1 V2 E2 V3 E3 V4 RC4 W42 W44 RC5 RD1 L5 L6 G3 W43 L7 L8 RE1 RE3. -/
import Derived.Test.YtcdkkpjilgmncaaGreatDoorA8
import Derived.Test.YtcdkkpjilgmncaaGreatDoorA7
import Derived.Test.YtcdkkpjilgmncaaGreatDoorA3
import Derived.Test.YtcdkkpjilgmncaaGreatDoorA5
import Derived.Test.YtcdkkpjilgmncaaGreatDoorA6
import Derived.Laws.AppendOwnNone
import Derived.Test.YtcdkkpjilgmncaaGreatDoorA4
import Derived.Deep.CutRange

set_option maxHeartbeats 16000000
set_option maxRecDepth 200000
set_option linter.unusedVariables false
set_option linter.unusedSimpArgs false
namespace Go.Proofs.YtcdkkpjilgmncaaGreatDoor
theorem bl_lt_iff {x n:Nat}:bl x≤n↔x<2^n:=bl_le x n
theorem B_pow (n:Nat):B^n=2^(32*n):=by rw[show B=2^32 by rfl,←Nat.pow_mul]
theorem shift_of {y n p S:Nat} (hy:y≠0) (hn:dlen y=n) (hp:p=(bl y - 1) % 32) (hS:S+p+1=32):bl y+S=32*n∧1≤bl y∧2^(32*n - 1)≤y*2^S∧y*2^S<2^(32*n)∧S<32:=by
 have ht:=bl_top hy
 have hd:=dg_top hy
 have hlt:=dg_lt y (dlen y - 1)
 have hn1:1≤n:=by
  rcases Nat.eq_zero_or_pos n with h|h
  ·rw[h] at hn;exact absurd (dlen_eq_zero.1 hn) hy
  ·exact h
 rw[hn] at ht hd hlt
 have h32:bl (dg y (n - 1))≤32:=bl_lt_iff.2 (by rw[←show B=2^32 by rfl];exact hlt)
 have h1:1≤bl (dg y (n - 1)):=by
  rcases Nat.eq_zero_or_pos (bl (dg y (n - 1)))with h|h
  ·have:=bl_lt_iff.1 (Nat.le_of_eq h)
   rw[Nat.pow_zero] at this
   omega
  ·exact h
 have e:bl y+S=32*n:=by omega
 have hle:=le_bl hy
 have hlb:=lt_bl y
 refine⟨e,by omega,?_,?_,by omega⟩
 ·have:2^(bl y - 1)*2^S≤y*2^S:=Nat.mul_le_mul_right _ hle
  rw[←Nat.pow_add,show bl y - 1+S=32*n - 1 by omega] at this
  exact this
 ·have:y*2^S<2^bl y*2^S:=Nat.mul_lt_mul_of_pos_right hlb (Nat.two_pow_pos _)
  rw[←Nat.pow_add,e] at this
  exact this
theorem div_facts {x y na nb M p S:Nat} (hy:y≠0) (hx:x≠0) (hnb:dlen y=nb) (hna:dlen x=na) (hab:nb+M=na) (hn2:2≤nb) (hp:p=(bl y - 1) % 32) (hS:S+p+1=32) :
  dlen (y*2^S)=nb∧B≤2*dg (y*2^S) (nb - 1)∧x*2^S<y*2^S*B^(M+1)∧0<dlen (x*2^S)∧dlen (x*2^S)≤na+1:=by
 obtain⟨e,h1,hlo,hhi,hS32⟩:=shift_of hy hnb hp hS
 have hx2:=lt_dlen x
 rw[hna] at hx2
 have hlen:dlen (y*2^S)=nb:=by
  have a:dlen (y*2^S)≤nb:=(dlen_le _ _).2 (by rw[B_pow];exact hhi)
  have b:¬ dlen (y*2^S)≤nb - 1:=fun h=>by
   have:=(dlen_le _ _).1 h
   rw[B_pow] at this
   have h2:2^(32*(nb - 1))≤2^(32*nb - 1):=Nat.pow_le_pow_right (by omega) (by omega)
   omega
  omega
 have h2S:2^S≤2^31:=Nat.pow_le_pow_right (by omega) (by omega)
 have hY:x*2^S<B^na*2^31:=Nat.lt_of_lt_of_le (Nat.mul_lt_mul_of_pos_right hx2 (Nat.two_pow_pos _)) (Nat.mul_le_mul_left _ h2S)
 refine⟨hlen,?_,?_,?_,?_⟩
 ·have h3:dg (y*2^S) (nb - 1)=y*2^S / B^(nb - 1):=by
   unfold dg
   rw[Nat.mod_eq_of_lt]
   refine(Nat.div_lt_iff_lt_mul (Nat.pow_pos B_pos)).2 ?_
   rw[Nat.mul_comm B,←Nat.pow_succ,show(nb - 1).succ=nb by omega,B_pow]
   exact hhi
  have h4:2^31≤y*2^S / B^(nb - 1):=by
   refine(Nat.le_div_iff_mul_le (Nat.pow_pos B_pos)).2 ?_
   rw[B_pow,←Nat.pow_add,show 31+32*(nb - 1)=32*nb - 1 by omega]
   exact hlo
  rw[h3]
  have:B=2*2^31:=by rfl
  omega
 ·refine Nat.lt_of_lt_of_le hY ?_
  have:2^(32*nb - 1)*B^(M+1)≤y*2^S*B^(M+1):=Nat.mul_le_mul_right _ hlo
  refine Nat.le_trans (Nat.le_of_eq ?_) this
  rw[B_pow,B_pow,←Nat.pow_add,←Nat.pow_add]
  congr 1;omega
 ·refine Nat.pos_of_ne_zero fun h=>?_
  have:=dlen_eq_zero.1 h
  rcases Nat.mul_eq_zero.1 this with h|h
  ·exact hx h
  ·have:=Nat.two_pow_pos S;omega
 ·refine(dlen_le _ _).2 (Nat.lt_of_lt_of_le hY ?_)
  rw[Nat.pow_succ]
  exact Nat.mul_le_mul_left _ (by unfold B;omega)
theorem quo_shift {x y S:Nat}:x*2^S / (y*2^S)=x / y:=Nat.mul_div_mul_right _ _ (Nat.two_pow_pos S)
theorem rem_shift {x y S:Nat}:x*2^S % (y*2^S) / 2^S=x % y:=by
 rw[Nat.mul_mod_mul_right,Nat.mul_div_cancel _ (Nat.two_pow_pos S)]
end Go.Proofs.YtcdkkpjilgmncaaGreatDoor
namespace Go.Proofs.YtcdkkpjilgmncaaGreatDoor
open Go.RowKit
theorem cell_new1 (w:World) (u:Value):(w.alloc (.cells #[u] 60)).cell? ⟨w.heap.size,0+0,none⟩=some u:=by
 have h:=heap_alloc_new w (.cells #[u] 60)
 unfold World.cell?
 simp only[h,Nat.add_zero]
 rfl
theorem rdiv_0 (ba oa na ca:Nat) (vb:Value) (x y:Nat) (w:World) (hna0:0<na) (hna:na≤100000000) (hx:dlen x=na) (hlt:x<y) (hca:∀ i,i<na→w.cell? ⟨ba,oa+i,none⟩=some (.int .u32 (dg x i:Nat)))
  (kO:Calls Tryz.prog 96 #[.slice (some ⟨ba,oa,none⟩) na ca,vb] w fun e w'=>e=.returned (.int .i64 (cmpI x y))∧∃ d,w'=w.drewN d) :
  Calls Tryz.prog 112 #[.slice (some ⟨ba,oa,none⟩) na ca,vb] w fun e w'=>∃ q r,e=.returned (.tuple #[q,r])∧Ir w' q 0∧Ir w' r x∧Bw w w':=by
 have hc:cmpI x y = -1:=by unfold cmpI;rw[if_pos (by omega)]
 rw[hc] at kO
 have HX:Hid (dlen x=na):=hx
 have HCA:Hid (∀ i,i<na→w.cell? ⟨ba,oa+i,none⟩=some (.int .u32 (dg x i:Nat))):=hca
 clear hx hc hlt hca
 go_enter Tryz.func112,Tryz.ntmps112
 go_wp2_with fail
 refine kO.mono ?_
 rintro r w1 ⟨rfl,d,hd⟩
 have HB1:Hid (Bw w w1):=(hd ▸ ⟨rfl,rfl,rfl,Nat.le_refl _,fun _ _=>rfl⟩:Bw w w1)
 have HN:Hid (∀ j u,(cells x na)[j]?=some u→(w1.alloc (Obj.cells (madeCells #[Value.int IntKind.u32 0] 0) 60)).cell? ((⟨ba,oa,none⟩:Addr).add j)=some u):=news_cells HCA.out (HB1.out.alloc HB1.out.size _)
 have hOM:(w1.alloc (Obj.cells (madeCells #[Value.int IntKind.u32 0] 0) 60)).ownsRow w1.heap.size 60 1 (.slice (some ⟨w1.heap.size,0,none⟩) 0 0) 0 []:=World.ownsRow_made w1 _ 0 (Nat.le_refl _) (by unfold maxLen;omega) (by simp[madeCells])
 have hmk:=run_make_row' (P:=Tryz.prog) 25 60 (.int .u32 0) 4 Tryz.underlying25 Tryz.info60 rfl .i64 .i64 0 (by omega) (by omega) w1
 rw[show((0:Nat):Int)=0 from rfl] at hmk
 obtain⟨i0,hi0,hz0,hz1,hz2⟩:=info_parts Tryz.info60
 clear kO hd
 go_wp2_with (at_builtin;refine wpList_append_own _ rfl _ _ 25 rfl w1.heap.size 60 i0 (.int .u32 0) 1 4 Tryz.underlying25 hi0 hz0 hz1 hz2 rfl (by decide) _ 0 [] rfl hOM ⟨ba,oa,none⟩ na ca (cells x na) rfl (by rw[cells_length,Nat.mul_one]) HN.out cells_one (by unfold maxLen;omega) (by omega) (by simp) ?_)
 intro v' w4 hown hgrow _
 obtain⟨ao',cap',rfl,hc',hA⟩:=at_of_row hown
 have HR:Hid (At w4 ao' na x∧na≤cap'∧Bw w w4):=⟨hA,hc',HB1.out.trans ((Below.grown ((Below.refl w1.heap.size w1).alloc (Nat.le_refl _) _) hgrow (by simp) (fun k hk=>by simp[Value.ownBlock] at hk;omega)).mono HB1.out.size)⟩
 have k40:=r40 ao' na cap' x w4 (by rw[HX.out];exact Nat.le_refl _) hc' (by omega) hA
 clear hown hgrow hA HN hOM hmk hi0 hz0 hz1 hz2
 go_wp2_with fail
 refine k40.mono ?_
 rintro r w5 ⟨rfl,rfl⟩
 clear k40
 go_wp2
 refine bodyPost_ret (results_tmp2 rfl _ _ _) rfl ?_
 exact⟨_,_,rfl,Ir.nil _ _ _,⟨ao',cap',rfl,by rw[HX.out];exact HR.out.2.1,by rw[HX.out];exact HR.out.1⟩,HR.out.2.2⟩
theorem rdiv_1 (va:Value) (bb ob cb:Nat) (x y:Nat) (w:World) (hge:¬ x<y) (hyB:y<B) (hcb:w.cell? ⟨bb,ob,none⟩=some (.int .u32 (y:Nat)))
  (kO:Calls Tryz.prog 96 #[va,.slice (some ⟨bb,ob,none⟩) 1 cb] w fun e w'=>e=.returned (.int .i64 (cmpI x y))∧∃ d,w'=w.drewN d)
  (kS:∀ d,Calls Tryz.prog 138 #[va,.int .u32 (y:Nat)] (w.drewN d) fun e w'=>∃ v,e=.returned (.tuple #[v,.int .u32 (x % y:Nat)])∧Own w' (w.drewN d).heap.size v (x / y)∧Below (w.drewN d).heap.size (w.drewN d) w') (hy0:0<y) :
  Calls Tryz.prog 112 #[va,.slice (some ⟨bb,ob,none⟩) 1 cb] w fun e w'=>∃ q r,e=.returned (.tuple #[q,r])∧Ir w' q (x / y)∧Ir w' r (x % y)∧Bw w w':=by
 have hc:¬ cmpI x y<0:=by unfold cmpI;rw[if_neg (by omega)];split <;> omega
 have HR:Hid (x % y<B):=(Nat.lt_trans (Nat.mod_lt _ hy0) hyB:x % y<B)
 generalize cmpI (x:Int) (y:Int)=c at *
 go_enter Tryz.func112,Tryz.ntmps112
 go_wp2_with fail
 refine kO.mono ?_
 rintro r w1 ⟨rfl,d,rfl⟩
 have k:=kS d
 have hcb':(w.drewN d).cell? ⟨bb,ob,none⟩=some (.int .u32 (y:Nat)):=hcb
 have HBd:Hid (Below w.heap.size w (w.drewN d)):=(⟨rfl,rfl,rfl,Nat.le_refl _,fun _ _=>rfl⟩:Below w.heap.size w (w.drewN d))
 generalize w.drewN d=w1 at *
 clear kO kS hcb
 go_wp2_with fail
 refine k.mono ?_
 rintro r w2 ⟨v,rfl,hO,hB2⟩
 have HB2:Hid (Bw w w2∧Own w2 w1.heap.size v (x / y)):=⟨HBd.out.trans (hB2.mono HBd.out.size),hO⟩
 obtain⟨q,hq⟩:∃ q,q=x % y:=⟨_,rfl⟩
 rw[←hq] at HR ⊢
 have HQ:Hid (q=x % y):=hq
 obtain⟨W,hW⟩:∃ W,W=w2.alloc (.cells #[.int .u32 (q:Nat)] 60):=⟨_,rfl⟩
 have hBW:Bw w2 W:=by rw[hW];exact(Below.refl _ _).alloc (Nat.le_refl _) _
 have hA:At W (some ⟨w2.heap.size,0,none⟩) 1 q:=⟨w2.heap.size,0,fun _=>rfl,fun i hi=>by
  obtain rfl:i=0:=by omega
  rw[hW,dg_zero,Nat.mod_eq_of_lt HR.out]
  exact cell_new1 w2 _⟩
 have hL:dlen q≤1:=(dlen_le 1 q).2 (by rw[Nat.pow_one];exact HR.out)
 have k40:=r40 (some ⟨w2.heap.size,0,none⟩) 1 1 q W hL (Nat.le_refl _) (by omega) hA
 have HE:Hid (At W (some ⟨w2.heap.size,0,none⟩) (dlen q) q∧dlen q≤1∧Bw w2 W):=⟨at_short hA hL,hL,hBW⟩
 clear k hO hB2 hA hL hBW hq
 go_wp2_with fail
 rw[←hW]
 clear hW
 refine k40.mono ?_
 rintro r w5 ⟨rfl,rfl⟩
 clear k40
 go_wp2
 refine bodyPost_ret (results_tmp2 rfl _ _ _) rfl ?_
 have hB:=HB2.out.1.trans (HE.out.2.2.mono HB2.out.1.size)
 exact⟨_,_,rfl,(HB2.out.2.is.ir).later HE.out.2.2,by rw[←HQ.out];exact⟨_,_,rfl,HE.out.2.1,HE.out.1⟩,hB⟩
theorem rdivide {u v:Value} {x y:Nat} {w:World} (hu:Ir w u x) (hv:Ir w v y) (hx0:x≠0) (hy0:y≠0) (hx:dlen x≤100000000) (hy:dlen y≤100000000) :
  Calls Tryz.prog 112 #[u,v] w fun e w'=>∃ q r,e=.returned (.tuple #[q,r])∧Ir w' q (x / y)∧Ir w' r (x % y)∧Bw w w':=by
 have kO:=rord hu hv (by omega) (by omega)
 have hxp:0<dlen x:=Nat.pos_of_ne_zero fun e=>hx0 (dlen_eq_zero.1 e)
 have hyp:0<dlen y:=Nat.pos_of_ne_zero fun e=>hy0 (dlen_eq_zero.1 e)
 obtain⟨ao,ca,rfl,a1,ba,oa,a3,a4⟩:=id hu
 obtain⟨bo,cb,rfl,b1,bb,ob,b3,b4⟩:=id hv
 obtain rfl:=a3 hxp
 obtain rfl:=b3 hyp
 by_cases hlt:x<y
 ·rw[Nat.div_eq_of_lt hlt,Nat.mod_eq_of_lt hlt]
  exact rdiv_0 ba oa (dlen x) ca _ x y w hxp hx rfl hlt a4 kO
 ·by_cases h1:dlen y=1
  ·have hyB:y<B:=by have:=lt_dlen y;rw[h1,Nat.pow_one] at this;exact this
   have c0:=b4 0 hyp
   rw[dg_zero,Nat.mod_eq_of_lt hyB,Nat.add_zero] at c0
   rw[h1] at kO ⊢
   exact rdiv_1 _ bb ob cb x y w hlt hyB c0 kO (fun d=>rsingle (hu.later ⟨rfl,rfl,rfl,Nat.le_refl _,fun _ _=>rfl⟩) hx0 (by omega) (by omega) hyB) (by omega)
  ·obtain⟨M,hM⟩:∃ M,dlen y+M=dlen x:=⟨dlen x - dlen y,by have:=dlen_mono (show y≤x by omega);omega⟩
   obtain⟨p,hp⟩:∃ p,p=(bl y - 1) % 32:=⟨_,rfl⟩
   obtain⟨S,hS⟩:∃ S,S+p+1=32:=⟨31 - p,by omega⟩
   obtain⟨f1,f2,f3,f4,f5⟩:=div_facts hy0 hx0 rfl rfl hM (by omega) hp hS
   obtain⟨-,hb1,-,-,hS32⟩:=shift_of hy0 rfl hp hS
   have hbl:=bl_le_dlen y
   have hc:¬ cmpI x y<0:=by unfold cmpI;rw[if_neg (by omega)];split <;> omega
   have hpm:((bl y:Int) - 1).tmod 32=(p:Int):=by
    rw[Int.tmod_eq_emod_of_nonneg (by omega)];omega
   have:=rdiv_2 (some ⟨ba,oa,none⟩) (some ⟨bb,ob,none⟩) (dlen x) (dlen y) ca cb x y p S (bl y) (x*2^S) (y*2^S) M w hx hy (by omega) hM hS32 (by omega) hpm (by omega) hb1 f4 f5 f1 f2 f3
    (fun W hW=>(rord (hu.later hW) (hv.later hW) (by omega) (by omega)).mono fun r w' ⟨e1,d,e2⟩=>⟨e1,by rw[e2];exact⟨rfl,rfl,rfl,Nat.le_refl _,fun _ _=>rfl⟩⟩) hc
    (fun W hW=>by
     obtain⟨_,_,e,_,b',o',h5,h6⟩:=hv.later hW
     simp only[Value.slice.injEq] at e
     obtain⟨e,-,-⟩:=e
     subst e
     have:=h5 hyp
     simp only[Option.some.injEq,Addr.mk.injEq] at this
     obtain⟨rfl,rfl,-⟩:=this
     exact r42 bb ob (dlen y) cb y W hyp (by omega) rfl h6)
    (fun W hW=>rup (hv.later hW) S (by omega) (by omega)) (fun W hW=>rup (hu.later hW) S (by omega) (by omega))
   rw[quo_shift,rem_shift] at this
   exact this
theorem cmp_eq {x y:Nat}:(cmpI (x:Int) (y:Int)==0)=decide (x=y):=by
 unfold cmpI
 by_cases h:x=y
 ·subst h;simp
 ·rw[decide_eq_false h]
  by_cases h2:(x:Int)<(y:Int)
  ·rw[if_pos h2];rfl
  ·rw[if_neg h2,if_pos (by omega)];rfl
theorem rlessN_1 (na nb:Bool) (ua va:Option Addr) (un uc vn vc:Nat) (ea eb:Int) (nc:Bool) (xa:Option Addr) (xn xc:Nat) (ec:Int) (s:Bool) (z:Nat) (e:Int) (w:World) (kM:∀ W,Calls Tryz.prog 20 #[.agg #[.bool nb,.slice va vn vc,.int .i64 eb]] W fun r w'=>r=.returned (.agg #[.bool nc,.slice xa xn xc,.int .i64 ec])∧Bw W w')
  (kA:∀ W,Bw w W→Calls Tryz.prog 52 #[.agg #[.bool na,.slice ua un uc,.int .i64 ea],.agg #[.bool nc,.slice xa xn xc,.int .i64 ec]] W fun r w'=>∃ a,r=.returned a∧NC w' W.heap.size a s z e∧Bw W w') :
  Calls Tryz.prog 55 #[.agg #[.bool na,.slice ua un uc,.int .i64 ea],.agg #[.bool nb,.slice va vn vc,.int .i64 eb]] w fun r w'=>∃ a,r=.returned a∧NC w' w.heap.size a s z e∧Bw w w':=by
 have HKM:Hid _:=kM
 have HKA:Hid _:=kA
 clear kM kA
 obtain⟨W,hW⟩:∃ W,W=((w.alloc (.cells #[.bool na,.slice ua un uc,.int .i64 ea] 27)).alloc (.cells #[.bool nb,.slice va vn vc,.int .i64 eb] 27)).alloc (.cells #[.bool false,.slice none 0 0,.int .i64 0] 27):=⟨_,rfl⟩
 obtain⟨hA,hBb,hC,hsz,hBW⟩:=boxes3 _ _ _ hW
 have HH:Hid ((W.heap[w.heap.size]?=some (.cells #[.bool na,.slice ua un uc,.int .i64 ea] 27 (0,0))∧W.heap[w.heap.size+1]?=some (.cells #[.bool nb,.slice va vn vc,.int .i64 eb] 27 (0,0))∧W.heap[w.heap.size+1+1]?=some (.cells #[.bool false,.slice none 0 0,.int .i64 0] 27 (0,0)))∧W.heap.size=w.heap.size+1+1+1∧Bw w W):=⟨⟨hA,hBb,hC⟩,hsz,hBW⟩
 obtain⟨⟨a0,a1,a2⟩,-⟩:=box_cells29 hA
 obtain⟨⟨b0,b1,b2⟩,-⟩:=box_cells29 hBb
 clear hA hBb hC hsz hBW
 have kM:∀ w4,Bw W w4→Calls Tryz.prog 20 #[.agg #[.bool nb,.slice va vn vc,.int .i64 eb]] w4 fun r w'=>r=.returned (.agg #[.bool nc,.slice xa xn xc,.int .i64 ec])∧Bw W w':=fun w4 hb=>(HKM.out w4).mono fun r w' ⟨e1,o2⟩=>⟨e1,hb.trans (o2.mono hb.size)⟩
 have kA:∀ w5,Bw W w5→Calls Tryz.prog 52 #[.agg #[.bool na,.slice ua un uc,.int .i64 ea],.agg #[.bool nc,.slice xa xn xc,.int .i64 ec]] w5 fun r w'=>∃ s' ao n cap ex,r=.returned (.agg #[.bool s',.slice ao n cap,.int .i64 ex])∧Hid (NC w' W.heap.size (.agg #[.bool s',.slice ao n cap,.int .i64 ex]) s z e)∧Bw W w'∧Hid (w'.heap[w.heap.size+1+1]?=some (.cells #[.bool false,.slice none 0 0,.int .i64 0] 27 (0,0))) ∧
   (w'.cell? ⟨w.heap.size+1+1,0,none⟩=some (.bool false)∧w'.cell? ⟨w.heap.size+1+1,1,none⟩=some (.slice none 0 0)∧w'.cell? ⟨w.heap.size+1+1,2,none⟩=some (.int .i64 0))∧(w'.frozen? ⟨w.heap.size+1+1,0,none⟩=false∧w'.frozen? ⟨w.heap.size+1+1,1,none⟩=false∧w'.frozen? ⟨w.heap.size+1+1,2,none⟩=false):=by
  intro w5 hb
  refine(HKA.out w5 (HH.out.2.2.trans (hb.mono HH.out.2.2.size))).mono ?_
  rintro r w6 ⟨A,rfl,hN,hb6⟩
  obtain⟨s',ao,n,cap,ex,rfl⟩:=hN.shape
  have hb16:Bw W w6:=hb.trans (hb6.mono hb.size)
  have hblk:=box_later HH.out.1.2.2 hb16 (by have:=HH.out.2.1;omega)
  obtain⟨f1,f2⟩:=box_cells29 hblk
  exact⟨s',ao,n,cap,ex,rfl,hN.mono hb.size,hb16,hblk,f1,f2⟩
 have HK:Hid (∀ w',Bw W w'→((w'.cell? ⟨w.heap.size,0,none⟩=some (.bool na)∧w'.cell? ⟨w.heap.size,1,none⟩=some (.slice ua un uc)∧w'.cell? ⟨w.heap.size,2,none⟩=some (.int .i64 ea))∧(w'.cell? ⟨w.heap.size+1,0,none⟩=some (.bool nb)∧w'.cell? ⟨w.heap.size+1,1,none⟩=some (.slice va vn vc)∧w'.cell? ⟨w.heap.size+1,2,none⟩=some (.int .i64 eb)))):=fun w' hb=>⟨(box_cells29 (box_later HH.out.1.1 hb (by have:=HH.out.2.1;omega))).1,(box_cells29 (box_later HH.out.1.2.1 hb (by have:=HH.out.2.1;omega))).1⟩
 have HK2:Hid (∀ w',Below (w.heap.size+1+1) W w'→((w'.cell? ⟨w.heap.size,0,none⟩=some (.bool na)∧w'.cell? ⟨w.heap.size,1,none⟩=some (.slice ua un uc)∧w'.cell? ⟨w.heap.size,2,none⟩=some (.int .i64 ea))∧(w'.cell? ⟨w.heap.size+1,0,none⟩=some (.bool nb)∧w'.cell? ⟨w.heap.size+1,1,none⟩=some (.slice va vn vc)∧w'.cell? ⟨w.heap.size+1,2,none⟩=some (.int .i64 eb)))):=fun w' hb=>⟨(box_cells29 (box_later HH.out.1.1 hb (by omega))).1,(box_cells29 (box_later HH.out.1.2.1 hb (by omega))).1⟩
 have HS2:Hid (w.heap.size+1+1≤W.heap.size):=(by have:=HH.out.2.1;omega:w.heap.size+1+1≤W.heap.size)
 have hBR:Bw W W.drew:=(Below.refl _ _).drew
 go_enter Tryz.func55,Tryz.ntmps55
 go_upto_region 1 with fail
 rw[←hW]
 clear hW
 go_region_held3 (fun w'=>((w'.cell? ⟨w.heap.size,0,none⟩=some (.bool na)∧w'.cell? ⟨w.heap.size,1,none⟩=some (.slice ua un uc)∧w'.cell? ⟨w.heap.size,2,none⟩=some (.int .i64 ea))∧(w'.cell? ⟨w.heap.size+1,0,none⟩=some (.bool nb)∧w'.cell? ⟨w.heap.size+1,1,none⟩=some (.slice va vn vc)∧w'.cell? ⟨w.heap.size+1,2,none⟩=some (.int .i64 eb)))) (first|(with_reducible assumption)|exact⟨⟨a0,a1,a2⟩,b0,b1,b2⟩|(refine HK.out _ ?_;with_reducible assumption)|(refine HK2.out _ (below_store3 (Below.mono hb6 HS2.out) (Nat.le_refl _) _ _ _))|go_keep)
  (first|(go_at_call 20;refine(kM _ (by first|(with_reducible assumption)|exact hBR)).mono ?_;rintro r w5 ⟨rfl,hb5⟩)|(go_at_call 52;refine(kA _ (by first|(with_reducible assumption)|exact hBR)).mono ?_;rintro r w6 ⟨s6,ao6,n6,cap6,ex6,rfl,hN6,hb6,hblk6,⟨x1,x2,x3⟩,x4,x5,x6⟩))
 all_goals (have HF:Hid (Bw W w6):=hb6;clear hb5 hb6 kM kA x1 x2 x3 x4 x5 x6 a0 a1 a2 b0 b1 b2 HK HK2 hBR;go_wp2;refine bodyPost_ret (results_cell_row rfl _ _ (w.heap.size+1+1) 27 #[.bool s6,.slice ao6 n6 cap6,.int .i64 ex6] (0,0) _ rfl (store3_29 _ _ _ hblk6.out) Tryz.underlying27 rfl Tryz.info27) rfl ?_;exact⟨_,rfl,(hN6.out.store (by have:=HH.out.2.1;omega) _ _ _).mono HH.out.2.2.size,below_store3 (HH.out.2.2.trans (HF.out.mono HH.out.2.2.size)) (by omega) _ _ _⟩)
theorem cn_odd {s:Bool} {x:Nat} {e:Int} (h:x % 2=1):cn s x e=(s,x,e):=by
 unfold cn
 rw[if_neg (by omega),tz_odd h,Nat.pow_zero,Nat.div_one]
 simp
theorem rone (place:Int) (w:World) (hp1 : -4000000≤place) (hp2:place≤4000000) :
  Calls Tryz.prog 113 #[.int .i64 place] w fun r w'=>∃ g,r=.returned (.agg #[.bool false,.slice (some ⟨g,0,none⟩) 1 1,.int .i64 (-place)])∧w.heap.size≤g∧At w' (some ⟨g,0,none⟩) 1 1∧Bw w w':=by
 go_enter Tryz.func113,Tryz.ntmps113
 go_wp2
 obtain⟨W,hW⟩:∃ W,W=(w.alloc (.cells #[.bool false,.slice (some ⟨w.heap.size+1,0,none⟩) 1 1,.int .i64 (-place)] 27)).alloc (.cells #[.int .u32 1] 60):=⟨_,rfl⟩
 have hA:W.heap[w.heap.size]?=some (.cells #[.bool false,.slice (some ⟨w.heap.size+1,0,none⟩) 1 1,.int .i64 (-place)] 27 (0,0)):=by
  rw[hW,Below.heap_alloc _ _ _ (by simp)];exact heap_alloc_new _ _
 have hC:W.cell? ⟨w.heap.size+1,0,none⟩=some (.int .u32 1):=by
  have h:=cell_new1 (w.alloc (.cells #[.bool false,.slice (some ⟨w.heap.size+1,0,none⟩) 1 1,.int .i64 (-place)] 27)) (.int .u32 1)
  rw[←hW,Nat.add_zero] at h
  have hs:(w.alloc (.cells #[.bool false,.slice (some ⟨w.heap.size+1,0,none⟩) 1 1,.int .i64 (-place)] 27)).heap.size=w.heap.size+1:=by simp
  rw[hs] at h
  exact h
 have hBW:Bw w W:=by rw[hW];exact((Below.refl _ _).alloc (Nat.le_refl _) _).alloc (by simp) _
 rw[←hW]
 refine bodyPost_ret (results_cell_row rfl _ _ w.heap.size 27 #[.bool false,.slice (some ⟨w.heap.size+1,0,none⟩) 1 1,.int .i64 (-place)] (0,0) _ rfl hA Tryz.underlying27 rfl Tryz.info27) rfl ?_
 refine⟨w.heap.size+1,rfl,by omega,⟨w.heap.size+1,0,fun _=>rfl,fun i hi=>?_⟩,hBW⟩
 obtain rfl:i=0:=by omega
 rw[dg_zero,show 1 % B=1 by rfl]
 exact hC
theorem rless_one {ao va:Option Addr} {cap vc q:Nat} {place:Int} {w:World} (ho:Arg w ao (dlen (cn true q (-place)).2.1) cap (cn true q (-place)).2.1) (h1:At w va 1 1) (hvc:1≤vc) (hp1 : -1000000≤place) (hp2:place≤1000000) (hq:dlen q≤30000) :
  Calls Tryz.prog 55 #[.agg #[.bool (cn true q (-place)).1,.slice ao (dlen (cn true q (-place)).2.1) cap,.int .i64 (cn true q (-place)).2.2],.agg #[.bool false,.slice va 1 vc,.int .i64 (-place)]] w fun r w'=>∃ a,r=.returned a∧NC w' w.heap.size a true (q+1) (-place)∧Bw w w':=by
 have d1:dlen 1=1:=by rw[dlen_pos (by omega),show 1 / B=0 by rfl,dlen_zero]
 have hA1:Arg w va (dlen 1) vc 1:=⟨fun h=>by rw[d1] at h;omega,by rw[d1];exact h1,by rw[d1];exact hvc,by rw[d1];omega⟩
 refine rlessN_1 _ false ao va _ cap 1 vc _ (-place) true va 1 vc (-place) true (q+1) (-place) w (fun W=>rminus_1 false va 1 vc (-place) W (by omega) rfl) (fun W hW=>?_)
 have htz:tz q≤32*30000:=by
  by_cases h0:q=0
  ·rw[h0];exact Nat.le_trans (Nat.le_of_eq (by rw[tz];rfl)) (Nat.zero_le _)
  ·have h2:=(tz_spec q q (Nat.le_refl _) h0).1
   have h3:2^tz q≤q:=by
    have h4:0<q / 2^tz q:=by
     rcases Nat.eq_zero_or_pos (q / 2^tz q)with h|h
     ·rw[h,Nat.mul_zero] at h2;omega
     ·exact h
    exact Nat.le_trans (Nat.le_mul_of_pos_right _ h4) (Nat.le_of_eq h2)
   have h5:=lt_bl q
   have h6:=bl_le_dlen q
   have h7:tz q<bl q:=(Nat.pow_lt_pow_iff_right (by omega)).1 (Nat.lt_of_le_of_lt h3 h5)
   omega
 have hcn:cn (cn true q (-place)).1 (cn true q (-place)).2.1 (cn true q (-place)).2.2=(cn true q (-place)):=by
  by_cases h0:q=0
  ·unfold cn;rw[if_pos h0,if_pos rfl]
  ·have h2:=(tz_spec q q (Nat.le_refl _) h0).2
   have:cn true q (-place)=(true,q / 2^tz q,-place+tz q):=by unfold cn;rw[if_neg h0]
   rw[this]
   exact cn_odd h2
 have he : -2000000≤(cn true q (-place)).2.2∧(cn true q (-place)).2.2≤2000000:=by
  by_cases h0:q=0
  ·unfold cn;rw[if_pos h0];exact⟨by decide,by decide⟩
  ·unfold cn;rw[if_neg h0];exact⟨by simp only;omega,by simp only;omega⟩
 have hl:dlen (cn true q (-place)).2.1≤300000:=by
  by_cases h0:q=0
  ·unfold cn;rw[if_pos h0,dlen_zero];omega
  ·unfold cn;rw[if_neg h0];exact Nat.le_trans (dlen_mono (Nat.div_le_self _ _)) (by omega)
 have:=rplusG (na:=(cn true q (-place)).1) (nb:=true) (ea:=(cn true q (-place)).2.2) (eb := -place) (ho.later hW) (hA1.later hW) hcn (cn_odd rfl) he.1 he.2 (by omega) (by omega) hl (by rw[d1];omega)
 have hs:sumN (cn true q (-place)).1 (cn true q (-place)).2.1 (cn true q (-place)).2.2 true 1 (-place)=(true,q+1,-place):=by
  by_cases h0:q=0
  ·subst h0
   unfold cn;rw[if_pos rfl];unfold sumN;rw[if_pos rfl]
  ·have h2:=tz_spec q q (Nat.le_refl _) h0
   have e1:cn true q (-place)=(true,q / 2^tz q,-place+tz q):=by unfold cn;rw[if_neg h0]
   have h3:q / 2^tz q≠0:=by omega
   rw[e1]
   unfold sumN
   simp only
   rw[if_neg h3,if_neg (by omega),if_pos trivial,show min (-place+(tz q:Int)) (-place) = -place by omega,show(-place+(tz q:Int) - -place).toNat=tz q by omega,show(-place - -place).toNat=0 by omega,Nat.pow_zero,Nat.mul_one,Nat.mul_comm,h2.1]
 rw[hs,d1] at this
 exact this
end Go.Proofs.YtcdkkpjilgmncaaGreatDoor
namespace Go.Proofs.YtcdkkpjilgmncaaGreatDoor
open Go.RowKit Go.Fl64
theorem of_parts (a m:Nat) (ha:a<18446744073709551616) (hf:mag a<9218868437227405312) (hm:Ie.sM a=(m:Int)) :
  (m=0∧Ie.mant a=0)∨(m≠0∧Ie.mant a≠0∧neg a=neg a∧m / 2^tz m=Ie.mant a / 2^tz (Ie.mant a)∧Ie.sE a+(tz m:Int)=Ie.lp a+(tz (Ie.mant a):Int)):=by
 unfold Ie.sM at hm
 unfold Ie.sE
 rw[if_neg (by omega)] at hm ⊢
 by_cases h0:mag a=0
 ·rw[if_pos h0] at hm
  exact .inl ⟨by omega,by unfold Ie.mant;rw[if_pos (by omega)];exact h0⟩
 ·rw[if_neg h0] at hm ⊢
  have hb:=Ie.mant_bound a
  have hne:=Ie.mant_ne h0
  have hct:Lib.ctz 64 (Ie.mant a)=tz (Ie.mant a):=tz_ctz hne (by omega)
  rw[hct] at hm ⊢
  have e1:m=Ie.mant a / 2^tz (Ie.mant a):=by
   have:((Ie.mant a / 2^tz (Ie.mant a):Nat):Int)=(m:Int):=by rw[←hm];simp
   omega
  obtain⟨h1,h2⟩:=tz_spec _ (Ie.mant a) (Nat.le_refl _) hne
  rw[←e1] at h2
  have e2:tz m=0:=tz_odd h2
  refine .inr ⟨by intro e;rw[e] at h2;simp at h2,hne,rfl,?_,?_⟩
  ·rw[e2,←e1];simp
  ·rw[e2];simp
end Go.Proofs.YtcdkkpjilgmncaaGreatDoor
namespace Go.Proofs.YtcdkkpjilgmncaaGreatDoor
open Go.RowKit
theorem neg_no (na:Bool) (ua:Option Addr) (un uc:Nat) (ea:Int) (w:World)
  (k43:∀ W g,Bw w W→W.heap[g]?=some (.cells #[.bool na,.slice ua un uc,.int .i64 ea] 28 (0,0))→Calls Tryz.prog 44 #[.slice (some ⟨g,0,none⟩) 1 1] W fun r w'=>r=.returned (.bool false)∧Bw W w') :
  Calls Tryz.prog 15 #[.agg #[.bool na,.slice ua un uc,.int .i64 ea]] w fun r w'=>r=.returned (.agg #[.bool false,.slice none 0 0,.int .i64 0])∧Bw w w':=by
 obtain⟨W,hW⟩:∃ W,W=(w.alloc (.cells #[.bool na,.slice ua un uc,.int .i64 ea] 28)).alloc (.cells #[.bool false,.slice none 0 0,.int .i64 0] 28):=⟨_,rfl⟩
 have hBW:Bw w W:=by rw[hW];exact((Below.refl _ _).alloc (Nat.le_refl _) _).alloc (by simp) _
 have hbB:W.heap[w.heap.size+1]?=some (.cells #[.bool false,.slice none 0 0,.int .i64 0] 28 (0,0)):=by
  have:=heap_alloc_new (w.alloc (.cells #[.bool na,.slice ua un uc,.int .i64 ea] 28)) (.cells #[.bool false,.slice none 0 0,.int .i64 0] 28)
  rw[hW];simpa using this
 have hsz:W.heap.size=w.heap.size+1+1:=by rw[hW];simp
 have k1:=k43 (W.alloc (.cells #[.bool na,.slice ua un uc,.int .i64 ea] 28)) (w.heap.size+1+1) (hBW.alloc hBW.size _) (by rw[←hsz];exact heap_alloc_new _ _)
 have HX:Hid (Bw w W∧W.heap.size=w.heap.size+1+1∧W.heap[w.heap.size+1]?=some (.cells #[.bool false,.slice none 0 0,.int .i64 0] 28 (0,0))):=⟨hBW,hsz,hbB⟩
 clear hBW hsz hbB k43
 go_enter Tryz.func15,Tryz.ntmps15
 go_wp2_with fail
 rw[←hW]
 clear hW
 refine k1.mono ?_
 rintro r w1 ⟨rfl,hb1⟩
 have HB1:Hid (Bw W w1):=((Below.refl W.heap.size W).alloc (Nat.le_refl _) _).trans (hb1.mono (by simp))
 have HC:Hid (w1.heap[w.heap.size+1]?=some (.cells #[.bool false,.slice none 0 0,.int .i64 0] 28 (0,0))):=box_later HX.out.2.2 HB1.out (by have:=HX.out.2.1;omega)
 obtain⟨⟨x1,x2,x3⟩,x4,x5,x6⟩:=box_cells HC.out
 clear k1 hb1
 go_wp2
 refine bodyPost_ret (results_cell_row rfl _ _ (w.heap.size+1) 28 #[.bool false,.slice none 0 0,.int .i64 0] (0,0) _ rfl (store3 _ _ _ HC.out) Tryz.underlying28 rfl Tryz.info28) rfl ?_
 obtain⟨q1,q2,-⟩:=HX.out
 exact⟨rfl,below_store3 (q1.trans (HB1.out.mono q1.size)) (by omega) _ _ _⟩
theorem negw_1 (na:Bool) (ua:Option Addr) (un uc x:Nat) (ea:Int) (nn:Bool) (w:World)
  (k43:∀ W g,Bw w W→W.heap[g]?=some (.cells #[.bool na,.slice ua un uc,.int .i64 ea] 28 (0,0))→Calls Tryz.prog 44 #[.slice (some ⟨g,0,none⟩) 1 1] W fun r w'=>r=.returned (.bool true)∧Bw W w')
  (kN:∀ W,Bw w W→Calls Tryz.prog 45 #[.agg #[.bool na,.slice ua un uc,.int .i64 ea]] W fun r w'=>∃ v,r=.returned (.agg #[.bool nn,v,.int .i64 ea])∧Own w' W.heap.size v x∧Bw W w') :
  Calls Tryz.prog 15 #[.agg #[.bool na,.slice ua un uc,.int .i64 ea]] w fun r w'=>∃ v,r=.returned (.agg #[.bool nn,v,.int .i64 ea])∧Own w' w.heap.size v x∧Bw w w':=by
 obtain⟨W,hW⟩:∃ W,W=(w.alloc (.cells #[.bool na,.slice ua un uc,.int .i64 ea] 28)).alloc (.cells #[.bool false,.slice none 0 0,.int .i64 0] 28):=⟨_,rfl⟩
 have hBW:Bw w W:=by rw[hW];exact((Below.refl _ _).alloc (Nat.le_refl _) _).alloc (by simp) _
 have hbA:W.heap[w.heap.size]?=some (.cells #[.bool na,.slice ua un uc,.int .i64 ea] 28 (0,0)):=by
  rw[hW,Below.heap_alloc _ _ _ (by simp)];exact heap_alloc_new _ _
 have hbB:W.heap[w.heap.size+1]?=some (.cells #[.bool false,.slice none 0 0,.int .i64 0] 28 (0,0)):=by
  have:=heap_alloc_new (w.alloc (.cells #[.bool na,.slice ua un uc,.int .i64 ea] 28)) (.cells #[.bool false,.slice none 0 0,.int .i64 0] 28)
  rw[hW];simpa using this
 have hsz:W.heap.size=w.heap.size+1+1:=by rw[hW];simp
 have k1:=k43 (W.alloc (.cells #[.bool na,.slice ua un uc,.int .i64 ea] 28)) (w.heap.size+1+1) (hBW.alloc hBW.size _) (by rw[←hsz];exact heap_alloc_new _ _)
 have HX:Hid (Bw w W∧W.heap.size=w.heap.size+1+1∧W.heap[w.heap.size]?=some (.cells #[.bool na,.slice ua un uc,.int .i64 ea] 28 (0,0))∧W.heap[w.heap.size+1]?=some (.cells #[.bool false,.slice none 0 0,.int .i64 0] 28 (0,0))):=⟨hBW,hsz,hbA,hbB⟩
 have HKN:Hid _:=kN
 clear hBW hsz hbA hbB k43 kN
 go_enter Tryz.func15,Tryz.ntmps15
 go_wp2_with fail
 rw[←hW]
 clear hW
 refine k1.mono ?_
 rintro r w1 ⟨rfl,hb1⟩
 have HB1:Hid (Bw W w1):=((Below.refl W.heap.size W).alloc (Nat.le_refl _) _).trans (hb1.mono (by simp))
 have HW1:Hid (Bw w w1):=HX.out.1.trans (HB1.out.mono HX.out.1.size)
 obtain⟨⟨a0,a1,a2⟩,-⟩:=box_cells (box_later HX.out.2.2.1 HB1.out (by have:=HX.out.2.1;omega))
 have k2:=HKN.out w1 HW1.out
 clear k1 hb1
 go_wp2_with fail
 refine k2.mono ?_
 rintro r w2 ⟨v,rfl,ho,hb2⟩
 obtain⟨ao,cap,rfl,-,-,-⟩:=ho.is
 generalize dlen x=n2 at *
 have HC:Hid (w2.heap[w.heap.size+1]?=some (.cells #[.bool false,.slice none 0 0,.int .i64 0] 28 (0,0))):=box_later HX.out.2.2.2 (HB1.out.trans (hb2.mono HB1.out.size)) (by have:=HX.out.2.1;omega)
 have HF:Hid (Own w2 w1.heap.size (.slice ao n2 cap) x∧Bw w w2∧w.heap.size+1<w1.heap.size):=⟨ho,HW1.out.trans (hb2.mono HW1.out.size),by have:=HB1.out.size;have:=HX.out.2.1;omega⟩
 obtain⟨⟨x1,x2,x3⟩,x4,x5,x6⟩:=box_cells HC.out
 clear k2 ho hb2 a0 a1 a2
 go_wp2
 refine bodyPost_ret (results_cell_row rfl _ _ (w.heap.size+1) 28 #[.bool nn,.slice ao n2 cap,.int .i64 ea] (0,0) _ rfl (store3 _ _ _ HC.out) Tryz.underlying28 rfl Tryz.info28) rfl ?_
 exact⟨_,rfl,(own_store3 HF.out.1 HF.out.2.2 _ _ _).mono (by have:=HF.out.2.2;omega),below_store3 HF.out.2.1 (by omega) _ _ _⟩
theorem negw_ok {na:Bool} {ua:Option Addr} {uc x:Nat} {ea:Int} {w:World} (h1:Is w (.slice ua (dlen x) uc) x) (hx:dlen x≤1000000) (hoka:okN na (dlen x) x ea=true) :
  Calls Tryz.prog 15 #[.agg #[.bool na,.slice ua (dlen x) uc,.int .i64 ea]] w fun r w'=>∃ v,r=.returned (.agg #[.bool (!na&&decide (0<dlen x)),v,.int .i64 ea])∧Own w' w.heap.size v x∧Bw w w' :=
 negw_1 na ua _ uc x ea _ w (fun W g hW hg=>by
  have:=maybe1 hg (h1.later hW) (by omega)
  rw[hoka] at this
  exact this) (fun W hW=>neg_ok (h1.later hW) (by omega))
theorem sub_no (na nb:Bool) (ua va:Option Addr) (un uc vn vc:Nat) (ea eb:Int) (w:World)
  (k67:∀ W g,Bw w W→W.heap[g]?=some (.cells #[.bool na,.slice ua un uc,.int .i64 ea,.bool nb,.slice va vn vc,.int .i64 eb] 28 (0,0))→Calls Tryz.prog 44 #[.slice (some ⟨g,0,none⟩) 2 2] W fun r w'=>r=.returned (.bool false)∧Bw W w') :
  Calls Tryz.prog 87 #[NumV na (.slice ua un uc) ea,NumV nb (.slice va vn vc) eb] w fun r w'=>r=.returned (.tuple #[Nil,.int .i64 1])∧Bw w w':=by
 obtain⟨W,hW⟩:∃ W,W=((w.alloc (.cells #[.bool na,.slice ua un uc,.int .i64 ea] 28)).alloc (.cells #[.bool nb,.slice va vn vc,.int .i64 eb] 28)).alloc (.cells #[.bool false,.slice none 0 0,.int .i64 0] 28):=⟨_,rfl⟩
 obtain⟨hA,hBb,hC,hsz,hBW⟩:=boxes3 _ _ _ hW
 have hB4:Below w.heap.size w (W.alloc (.cells #[.bool na,.slice ua un uc,.int .i64 ea,.bool nb,.slice va vn vc,.int .i64 eb] 28)):=hBW.alloc hBW.size _
 have k1:=k67 (W.alloc (.cells #[.bool na,.slice ua un uc,.int .i64 ea,.bool nb,.slice va vn vc,.int .i64 eb] 28)) (w.heap.size+1+1+1) hB4 (by rw[←hsz];exact heap_alloc_new _ _)
 have HH:Hid (W.heap[w.heap.size+1+1]?=some (.cells #[.bool false,.slice none 0 0,.int .i64 0] 28 (0,0))∧W.heap.size=w.heap.size+1+1+1∧Bw w W∧Below W.heap.size W (W.alloc (.cells #[.bool na,.slice ua un uc,.int .i64 ea,.bool nb,.slice va vn vc,.int .i64 eb] 28))):=⟨hC,hsz,hBW,(Below.refl _ _).alloc (Nat.le_refl _) _⟩
 unfold NumV
 clear hA hBb hC hsz hBW hB4 k67
 go_enter Tryz.func87,Tryz.ntmps87
 go_wp2_with fail
 rw[←hW]
 clear hW
 refine k1.mono ?_
 rintro r w1 ⟨rfl,hB1⟩
 clear k1
 have hBW1:Bw W w1:=HH.out.2.2.2.trans (hB1.mono HH.out.2.2.2.size)
 have HC3:Hid (w1.heap[w.heap.size+1+1]?=some (.cells #[.bool false,.slice none 0 0,.int .i64 0] 28 (0,0))):=box_later HH.out.1 hBW1 (by have:=HH.out.2.1;omega)
 have HB1:Hid (Bw W w1):=hBW1
 obtain⟨⟨x1,x2,x3⟩,x4,x5,x6⟩:=box_cells HC3.out
 clear hB1 hBW1
 go_wp2
 refine bodyPost_ret (results_cell_tmp_row rfl _ _ (w.heap.size+1+1) 28 #[.bool false,.slice none 0 0,.int .i64 0] (0,0) _ rfl (store3 _ _ _ HC3.out) Tryz.underlying28 rfl Tryz.info28) rfl ?_
 obtain⟨b1,b2,b3,b4⟩:=HH.out
 exact⟨rfl,below_store3 (b3.trans (HB1.out.mono b3.size)) (by omega) _ _ _⟩
theorem shift_0 (na:Bool) (ua:Option Addr) (un uc:Nat) (ea k0:Int) (w:World) (k43:∀ W g,Bw w W→W.heap[g]?=some (.cells #[.bool na,.slice ua un uc,.int .i64 ea] 28 (0,0))→Calls Tryz.prog 44 #[.slice (some ⟨g,0,none⟩) 1 1] W fun r w'=>r=.returned (.bool false)∧Bw W w') :
  Calls Tryz.prog 141 #[.agg #[.bool na,.slice ua un uc,.int .i64 ea],.int .i64 k0] w fun r w'=>r=.returned (.tuple #[.agg #[.bool false,.slice none 0 0,.int .i64 0],.int .i64 1])∧Bw w w':=by
 obtain⟨W,hW⟩:∃ W,W=(w.alloc (.cells #[.bool na,.slice ua un uc,.int .i64 ea] 28)).alloc (.cells #[.bool false,.slice none 0 0,.int .i64 0] 28):=⟨_,rfl⟩
 have hBW:Bw w W:=by rw[hW];exact((Below.refl _ _).alloc (Nat.le_refl _) _).alloc (by simp) _
 have hbA:W.heap[w.heap.size]?=some (.cells #[.bool na,.slice ua un uc,.int .i64 ea] 28 (0,0)):=by
  rw[hW,Below.heap_alloc _ _ _ (by simp)];exact heap_alloc_new _ _
 have hbB:W.heap[w.heap.size+1]?=some (.cells #[.bool false,.slice none 0 0,.int .i64 0] 28 (0,0)):=by
  have:=heap_alloc_new (w.alloc (.cells #[.bool na,.slice ua un uc,.int .i64 ea] 28)) (.cells #[.bool false,.slice none 0 0,.int .i64 0] 28)
  rw[hW];simpa using this
 have hsz:W.heap.size=w.heap.size+1+1:=by rw[hW];simp
 have k1:=k43 (W.alloc (.cells #[.bool na,.slice ua un uc,.int .i64 ea] 28)) (w.heap.size+1+1) (hBW.alloc hBW.size _) (by rw[←hsz];exact heap_alloc_new _ _)
 have HX:Hid (Bw w W∧W.heap.size=w.heap.size+1+1∧W.heap[w.heap.size]?=some (.cells #[.bool na,.slice ua un uc,.int .i64 ea] 28 (0,0))∧W.heap[w.heap.size+1]?=some (.cells #[.bool false,.slice none 0 0,.int .i64 0] 28 (0,0))):=⟨hBW,hsz,hbA,hbB⟩
 clear hBW hsz hbA hbB k43
 go_enter Tryz.func141,Tryz.ntmps141
 go_wp2_with fail
 rw[←hW]
 clear hW
 refine k1.mono ?_
 rintro r w1 ⟨rfl,hb1⟩
 have HB1:Hid (Bw W w1):=((Below.refl W.heap.size W).alloc (Nat.le_refl _) _).trans (hb1.mono (by simp))
 have H3:Hid (w1.heap[w.heap.size]?=some (.cells #[.bool na,.slice ua un uc,.int .i64 ea] 28 (0,0))∧w1.heap[w.heap.size+1]?=some (.cells #[.bool false,.slice none 0 0,.int .i64 0] 28 (0,0))∧w.heap.size+1+1≤w1.heap.size∧Bw w w1):=⟨box_later HX.out.2.2.1 HB1.out (by have:=HX.out.2.1;omega),box_later HX.out.2.2.2 HB1.out (by have:=HX.out.2.1;omega),by have:=HB1.out.size;have:=HX.out.2.1;omega,HX.out.1.trans (HB1.out.mono HX.out.1.size)⟩
 clear k1 hb1
 obtain⟨⟨a0,a1,a2⟩,-⟩:=box_cells H3.out.1
 obtain⟨⟨x1,x2,x3⟩,x4,x5,x6⟩:=box_cells H3.out.2.1
 go_wp2
 refine bodyPost_ret (results_cell_tmp_row rfl _ _ (w.heap.size+1) 28 #[.bool false,.slice none 0 0,.int .i64 0] (0,0) _ rfl (store3 _ _ _ H3.out.2.1) Tryz.underlying28 rfl Tryz.info28) rfl ?_
 exact⟨rfl,below_store3 H3.out.2.2.2 (by omega) _ _ _⟩
theorem shift_1 (na:Bool) (ua:Option Addr) (uc:Nat) (ea k0:Int) (w:World) (k43:∀ W g,Bw w W→W.heap[g]?=some (.cells #[.bool na,.slice ua 0 uc,.int .i64 ea] 28 (0,0))→Calls Tryz.prog 44 #[.slice (some ⟨g,0,none⟩) 1 1] W fun r w'=>r=.returned (.bool true)∧Bw W w') :
  Calls Tryz.prog 141 #[.agg #[.bool na,.slice ua 0 uc,.int .i64 ea],.int .i64 k0] w fun r w'=>r=.returned (.tuple #[.agg #[.bool false,.slice none 0 0,.int .i64 0],.int .i64 0])∧Bw w w':=by
 obtain⟨W,hW⟩:∃ W,W=(w.alloc (.cells #[.bool na,.slice ua 0 uc,.int .i64 ea] 28)).alloc (.cells #[.bool false,.slice none 0 0,.int .i64 0] 28):=⟨_,rfl⟩
 have hBW:Bw w W:=by rw[hW];exact((Below.refl _ _).alloc (Nat.le_refl _) _).alloc (by simp) _
 have hbA:W.heap[w.heap.size]?=some (.cells #[.bool na,.slice ua 0 uc,.int .i64 ea] 28 (0,0)):=by
  rw[hW,Below.heap_alloc _ _ _ (by simp)];exact heap_alloc_new _ _
 have hbB:W.heap[w.heap.size+1]?=some (.cells #[.bool false,.slice none 0 0,.int .i64 0] 28 (0,0)):=by
  have:=heap_alloc_new (w.alloc (.cells #[.bool na,.slice ua 0 uc,.int .i64 ea] 28)) (.cells #[.bool false,.slice none 0 0,.int .i64 0] 28)
  rw[hW];simpa using this
 have hsz:W.heap.size=w.heap.size+1+1:=by rw[hW];simp
 have k1:=k43 (W.alloc (.cells #[.bool na,.slice ua 0 uc,.int .i64 ea] 28)) (w.heap.size+1+1) (hBW.alloc hBW.size _) (by rw[←hsz];exact heap_alloc_new _ _)
 have HX:Hid (Bw w W∧W.heap.size=w.heap.size+1+1∧W.heap[w.heap.size]?=some (.cells #[.bool na,.slice ua 0 uc,.int .i64 ea] 28 (0,0))∧W.heap[w.heap.size+1]?=some (.cells #[.bool false,.slice none 0 0,.int .i64 0] 28 (0,0))):=⟨hBW,hsz,hbA,hbB⟩
 clear hBW hsz hbA hbB k43
 go_enter Tryz.func141,Tryz.ntmps141
 go_wp2_with fail
 rw[←hW]
 clear hW
 refine k1.mono ?_
 rintro r w1 ⟨rfl,hb1⟩
 have HB1:Hid (Bw W w1):=((Below.refl W.heap.size W).alloc (Nat.le_refl _) _).trans (hb1.mono (by simp))
 have H3:Hid (w1.heap[w.heap.size]?=some (.cells #[.bool na,.slice ua 0 uc,.int .i64 ea] 28 (0,0))∧w1.heap[w.heap.size+1]?=some (.cells #[.bool false,.slice none 0 0,.int .i64 0] 28 (0,0))∧w.heap.size+1+1≤w1.heap.size∧Bw w w1):=⟨box_later HX.out.2.2.1 HB1.out (by have:=HX.out.2.1;omega),box_later HX.out.2.2.2 HB1.out (by have:=HX.out.2.1;omega),by have:=HB1.out.size;have:=HX.out.2.1;omega,HX.out.1.trans (HB1.out.mono HX.out.1.size)⟩
 clear k1 hb1
 obtain⟨⟨a0,a1,a2⟩,-⟩:=box_cells H3.out.1
 obtain⟨⟨x1,x2,x3⟩,x4,x5,x6⟩:=box_cells H3.out.2.1
 go_wp2
 refine bodyPost_ret (results_cell_tmp_row rfl _ _ (w.heap.size+1) 28 #[.bool false,.slice none 0 0,.int .i64 0] (0,0) _ rfl (store3 _ _ _ H3.out.2.1) Tryz.underlying28 rfl Tryz.info28) rfl ?_
 exact⟨rfl,below_store3 H3.out.2.2.2 (by omega) _ _ _⟩
theorem shift_2 (na:Bool) (ua:Option Addr) (un uc:Nat) (ea k0:Int) (w:World) (hn:un≤35184372088832) (hn0:((un:Int)==0)=false) (he1 : -65536≤ea) (he2:ea≤65536) (hk:k0 < -65536 - ea∨65536 - ea<k0) (k43:∀ W g,Bw w W→W.heap[g]?=some (.cells #[.bool na,.slice ua un uc,.int .i64 ea] 28 (0,0))→Calls Tryz.prog 44 #[.slice (some ⟨g,0,none⟩) 1 1] W fun r w'=>r=.returned (.bool true)∧Bw W w') :
  Calls Tryz.prog 141 #[.agg #[.bool na,.slice ua un uc,.int .i64 ea],.int .i64 k0] w fun r w'=>r=.returned (.tuple #[.agg #[.bool false,.slice none 0 0,.int .i64 0],.int .i64 2])∧Bw w w':=by
 obtain⟨W,hW⟩:∃ W,W=(w.alloc (.cells #[.bool na,.slice ua un uc,.int .i64 ea] 28)).alloc (.cells #[.bool false,.slice none 0 0,.int .i64 0] 28):=⟨_,rfl⟩
 have hBW:Bw w W:=by rw[hW];exact((Below.refl _ _).alloc (Nat.le_refl _) _).alloc (by simp) _
 have hbA:W.heap[w.heap.size]?=some (.cells #[.bool na,.slice ua un uc,.int .i64 ea] 28 (0,0)):=by
  rw[hW,Below.heap_alloc _ _ _ (by simp)];exact heap_alloc_new _ _
 have hbB:W.heap[w.heap.size+1]?=some (.cells #[.bool false,.slice none 0 0,.int .i64 0] 28 (0,0)):=by
  have:=heap_alloc_new (w.alloc (.cells #[.bool na,.slice ua un uc,.int .i64 ea] 28)) (.cells #[.bool false,.slice none 0 0,.int .i64 0] 28)
  rw[hW];simpa using this
 have hsz:W.heap.size=w.heap.size+1+1:=by rw[hW];simp
 have k1:=k43 (W.alloc (.cells #[.bool na,.slice ua un uc,.int .i64 ea] 28)) (w.heap.size+1+1) (hBW.alloc hBW.size _) (by rw[←hsz];exact heap_alloc_new _ _)
 have HX:Hid (Bw w W∧W.heap.size=w.heap.size+1+1∧W.heap[w.heap.size]?=some (.cells #[.bool na,.slice ua un uc,.int .i64 ea] 28 (0,0))∧W.heap[w.heap.size+1]?=some (.cells #[.bool false,.slice none 0 0,.int .i64 0] 28 (0,0))):=⟨hBW,hsz,hbA,hbB⟩
 clear hBW hsz hbA hbB k43
 go_enter Tryz.func141,Tryz.ntmps141
 go_wp2_with fail
 rw[←hW]
 clear hW
 refine k1.mono ?_
 rintro r w1 ⟨rfl,hb1⟩
 have HB1:Hid (Bw W w1):=((Below.refl W.heap.size W).alloc (Nat.le_refl _) _).trans (hb1.mono (by simp))
 have H3:Hid (w1.heap[w.heap.size]?=some (.cells #[.bool na,.slice ua un uc,.int .i64 ea] 28 (0,0))∧w1.heap[w.heap.size+1]?=some (.cells #[.bool false,.slice none 0 0,.int .i64 0] 28 (0,0))∧w.heap.size+1+1≤w1.heap.size∧Bw w w1):=⟨box_later HX.out.2.2.1 HB1.out (by have:=HX.out.2.1;omega),box_later HX.out.2.2.2 HB1.out (by have:=HX.out.2.1;omega),by have:=HB1.out.size;have:=HX.out.2.1;omega,HX.out.1.trans (HB1.out.mono HX.out.1.size)⟩
 clear k1 hb1
 obtain⟨⟨a0,a1,a2⟩,-⟩:=box_cells H3.out.1
 obtain⟨⟨x1,x2,x3⟩,x4,x5,x6⟩:=box_cells H3.out.2.1
 by_cases hk1:k0 < -65536 - ea
 ·clear hk
  go_wp2
  refine bodyPost_ret (results_cell_tmp_row rfl _ _ (w.heap.size+1) 28 #[.bool false,.slice none 0 0,.int .i64 0] (0,0) _ rfl (store3 _ _ _ H3.out.2.1) Tryz.underlying28 rfl Tryz.info28) rfl ?_
  exact⟨rfl,below_store3 H3.out.2.2.2 (by omega) _ _ _⟩
 ·have hk2:65536 - ea<k0:=by omega
  clear hk
  go_wp2
  refine bodyPost_ret (results_cell_tmp_row rfl _ _ (w.heap.size+1) 28 #[.bool false,.slice none 0 0,.int .i64 0] (0,0) _ rfl (store3 _ _ _ H3.out.2.1) Tryz.underlying28 rfl Tryz.info28) rfl ?_
  exact⟨rfl,below_store3 H3.out.2.2.2 (by omega) _ _ _⟩
theorem shift_3 (na:Bool) (ua:Option Addr) (un uc:Nat) (ea k0:Int) (w:World) (x:Nat) (h1:Is w (.slice ua un uc) x) (hx:dlen x≤1000000) (hn:un≤35184372088832) (hn0:((un:Int)==0)=false) (he1 : -65536≤ea) (he2:ea≤65536) (hk1:¬ k0 < -65536 - ea) (hk2:¬ 65536 - ea<k0) (k43:∀ W g,Bw w W→W.heap[g]?=some (.cells #[.bool na,.slice ua un uc,.int .i64 ea] 28 (0,0))→Calls Tryz.prog 44 #[.slice (some ⟨g,0,none⟩) 1 1] W fun r w'=>r=.returned (.bool true)∧Bw W w') :
  Calls Tryz.prog 141 #[.agg #[.bool na,.slice ua un uc,.int .i64 ea],.int .i64 k0] w fun r w'=>∃ v,r=.returned (.tuple #[.agg #[.bool na,v,.int .i64 (ea+k0)],.int .i64 0])∧Own w' w.heap.size v x∧Bw w w':=by
 obtain⟨W,hW⟩:∃ W,W=(w.alloc (.cells #[.bool na,.slice ua un uc,.int .i64 ea] 28)).alloc (.cells #[.bool false,.slice none 0 0,.int .i64 0] 28):=⟨_,rfl⟩
 have hBW:Bw w W:=by rw[hW];exact((Below.refl _ _).alloc (Nat.le_refl _) _).alloc (by simp) _
 have hbA:W.heap[w.heap.size]?=some (.cells #[.bool na,.slice ua un uc,.int .i64 ea] 28 (0,0)):=by
  rw[hW,Below.heap_alloc _ _ _ (by simp)];exact heap_alloc_new _ _
 have hbB:W.heap[w.heap.size+1]?=some (.cells #[.bool false,.slice none 0 0,.int .i64 0] 28 (0,0)):=by
  have:=heap_alloc_new (w.alloc (.cells #[.bool na,.slice ua un uc,.int .i64 ea] 28)) (.cells #[.bool false,.slice none 0 0,.int .i64 0] 28)
  rw[hW];simpa using this
 have hsz:W.heap.size=w.heap.size+1+1:=by rw[hW];simp
 have k1:=k43 (W.alloc (.cells #[.bool na,.slice ua un uc,.int .i64 ea] 28)) (w.heap.size+1+1) (hBW.alloc hBW.size _) (by rw[←hsz];exact heap_alloc_new _ _)
 have HX:Hid (Bw w W∧W.heap.size=w.heap.size+1+1∧W.heap[w.heap.size]?=some (.cells #[.bool na,.slice ua un uc,.int .i64 ea] 28 (0,0))∧W.heap[w.heap.size+1]?=some (.cells #[.bool false,.slice none 0 0,.int .i64 0] 28 (0,0))):=⟨hBW,hsz,hbA,hbB⟩
 have HI:Hid (Is w (.slice ua un uc) x∧dlen x≤1000000):=⟨h1,hx⟩
 clear h1 hx
 clear hBW hsz hbA hbB k43
 go_enter Tryz.func141,Tryz.ntmps141
 go_wp2_with fail
 rw[←hW]
 clear hW
 refine k1.mono ?_
 rintro r w1 ⟨rfl,hb1⟩
 have HB1:Hid (Bw W w1):=((Below.refl W.heap.size W).alloc (Nat.le_refl _) _).trans (hb1.mono (by simp))
 have H3:Hid (w1.heap[w.heap.size]?=some (.cells #[.bool na,.slice ua un uc,.int .i64 ea] 28 (0,0))∧w1.heap[w.heap.size+1]?=some (.cells #[.bool false,.slice none 0 0,.int .i64 0] 28 (0,0))∧w.heap.size+1+1≤w1.heap.size∧Bw w w1):=⟨box_later HX.out.2.2.1 HB1.out (by have:=HX.out.2.1;omega),box_later HX.out.2.2.2 HB1.out (by have:=HX.out.2.1;omega),by have:=HB1.out.size;have:=HX.out.2.1;omega,HX.out.1.trans (HB1.out.mono HX.out.1.size)⟩
 clear k1 hb1
 obtain⟨⟨a0,a1,a2⟩,-⟩:=box_cells H3.out.1
 obtain⟨⟨x1,x2,x3⟩,x4,x5,x6⟩:=box_cells H3.out.2.1
 have HK:Hid (∀ w',Below (w.heap.size+1) w1 w'→(w'.cell? ⟨w.heap.size,0,none⟩=some (.bool na)∧w'.cell? ⟨w.heap.size,1,none⟩=some (.slice ua un uc)∧w'.cell? ⟨w.heap.size,2,none⟩=some (.int .i64 ea))):=fun w' hb=>(box_cells (box_later H3.out.1 hb (by omega))).1
 have kC:∀ w4,Bw w1 w4→Calls Tryz.prog 89 #[.slice ua un uc] w4 fun r w'=>∃ ao n cap,r=.returned (.slice ao n cap)∧Own w' w1.heap.size (.slice ao n cap) x∧Bw w1 w':=fun w4 hb =>
  (clone_ok ((HI.out.1.later H3.out.2.2.2).later hb) (by have:=HI.out.2;omega)).mono fun r w' ⟨v,e1,o1,o2⟩=>by
   obtain⟨ao,cap,rfl,-,-,-⟩:=o1.is
   exact⟨_,_,_,e1,o1.mono hb.size,hb.trans (o2.mono hb.size)⟩
 have hBR:Bw w1 w1.drew:=(Below.refl _ _).drew
 have hBR1:Below (w.heap.size+1) w1 w1.drew:=(Below.refl _ _).drew
 have H1:Hid (w.heap.size+1≤w1.heap.size):=(by have:=H3.out.2.2.1;omega:w.heap.size+1≤w1.heap.size)
 have HZ:Hid (IntKind.i64.wrap (ea+k0)=ea+k0):=(by rw[IntKind.wrap_i64];omega:IntKind.i64.wrap (ea+k0)=ea+k0)
 go_upto_region 8 with fail
 clear x1 x2 x3 x4 x5 x6
 go_region_held3 (fun w'=>w'.cell? ⟨w.heap.size,0,none⟩=some (.bool na)∧w'.cell? ⟨w.heap.size,1,none⟩=some (.slice ua un uc)∧w'.cell? ⟨w.heap.size,2,none⟩=some (.int .i64 ea)) (first|(with_reducible assumption)|exact HK.out _ hBR1|(refine HK.out _ (Below.mono ?_ H1.out);with_reducible assumption)|(refine HK.out _ (below_store3 (Below.mono hb5 H1.out) (Nat.le_refl _) _ _ _))|go_keep)
  (first|(go_at_call 89;refine(kC _ (by first|(with_reducible assumption)|exact hBR)).mono ?_;rintro r w5 ⟨ao5,n5,cap5,rfl,ho5,hb5⟩;have hblk5:=box_later H3.out.2.1 hb5 (by have:=H3.out.2.2.1;omega);obtain⟨⟨x1,x2,x3⟩,x4,x5,x6⟩:=box_cells hblk5))
 all_goals (have HF:Hid (Bw w1 w5∧Own w5 w1.heap.size (.slice ao5 n5 cap5) x∧w5.heap[w.heap.size+1]?=some (.cells #[.bool false,.slice none 0 0,.int .i64 0] 28 (0,0))):=⟨hb5,ho5,hblk5⟩;clear ho5 hb5 hblk5 x1 x2 x3 x4 x5 x6 kC HK hBR hBR1 a0 a1 a2;(try rw[HZ.out]);go_wp2;refine bodyPost_ret (results_cell_tmp_row rfl _ _ (w.heap.size+1) 28 #[.bool na,.slice ao5 n5 cap5,.int .i64 (ea+k0)] (0,0) _ rfl (store3 _ _ _ HF.out.2.2) Tryz.underlying28 rfl Tryz.info28) rfl ?_;exact⟨_,rfl,(own_store3 HF.out.2.1 (by have:=H3.out.2.2.1;omega) _ _ _).mono (by have:=H3.out.2.2.1;omega),below_store3 (H3.out.2.2.2.trans (HF.out.1.mono H3.out.2.2.2.size)) (by omega) _ _ _⟩)
theorem okN_len {s:Bool} {n z:Nat} {e:Int} (hz:dlen z≤n) (h:okN s n z e=true):dlen z=n:=by
 refine dlen_here hz ?_
 by_cases h0:n=0
 ·exact .inl h0
 ·right
  unfold okN at h
  rw[if_neg h0] at h
  simp only[Bool.and_eq_true,bne_iff_ne,ne_eq] at h
  exact h.1.1.1.2
theorem rsgn {na:Bool} {ua:Option Addr} {un uc:Nat} {ea:Int} {w:World} (hn:un≤35184372088832) :
  Calls Tryz.prog 51 #[.agg #[.bool na,.slice ua un uc,.int .i64 ea]] w fun r w'=>r=.returned (.int .i64 (if un=0 then 0 else if na then -1 else 1))∧Bw w w':=by
 obtain⟨W,hW⟩:∃ W,W=w.alloc (.cells #[.bool na,.slice ua un uc,.int .i64 ea] 27):=⟨_,rfl⟩
 have HB:Hid (Bw w W):=(by rw[hW];exact(Below.refl _ _).alloc (Nat.le_refl _) _:Bw w W)
 by_cases h0:un=0
 ·subst h0
  rw[if_pos rfl]
  go_enter Tryz.func51,Tryz.ntmps51
  go_wp2
  go_ret
  exact⟨rfl,hW ▸ HB.out⟩
 ·have hn0:((un:Int)==0)=false:=by simp;omega
  rw[if_neg h0]
  clear h0
  cases na
  ·go_enter Tryz.func51,Tryz.ntmps51
   go_wp2
   go_ret
   exact⟨rfl,hW ▸ HB.out⟩
  ·go_enter Tryz.func51,Tryz.ntmps51
   go_wp2
   go_ret
   exact⟨rfl,hW ▸ HB.out⟩
end Go.Proofs.YtcdkkpjilgmncaaGreatDoor
namespace Go.Proofs.YtcdkkpjilgmncaaGreatDoor
open Go.RowKit Go.Fl64
end Go.Proofs.YtcdkkpjilgmncaaGreatDoor
namespace Go.Proofs.YtcdkkpjilgmncaaGreatDoor
open Go.RowKit
end Go.Proofs.YtcdkkpjilgmncaaGreatDoor
namespace Go.Proofs.YtcdkkpjilgmncaaGreatDoor
open Go.RowKit Go.Fl64
theorem lt2 {k:Nat} (h:k<2):k=0∨k=1:=by omega
def pick2 {α : Type} (a b : α):Nat → α
 | 0=>a
 | _=>b
theorem cmpI_mul {a b:Int} {c:Nat} (hc:0<c):cmpI (a*(c:Int)) (b*(c:Int))=cmpI a b:=by
 have hc':(0:Int)<(c:Int):=by omega
 unfold cmpI
 have h1:(a*(c:Int)<b*(c:Int))↔a<b:=⟨fun h=>Int.lt_of_mul_lt_mul_right h (Int.le_of_lt hc'),fun h=>Int.mul_lt_mul_of_pos_right h hc'⟩
 have h2:(b*(c:Int)<a*(c:Int))↔b<a:=⟨fun h=>Int.lt_of_mul_lt_mul_right h (Int.le_of_lt hc'),fun h=>Int.mul_lt_mul_of_pos_right h hc'⟩
 simp only[h1,h2]
theorem cmpI_neg (a b:Int):cmpI (-a) (-b) = - cmpI a b:=by
 unfold cmpI
 by_cases h1:a<b
 ·rw[if_neg (by omega),if_pos (by omega),if_pos h1];rfl
 ·by_cases h2:b<a
  ·rw[if_pos (by omega),if_neg h1,if_pos h2]
  ·rw[if_neg (by omega),if_neg (by omega),if_neg h1,if_neg h2];rfl
theorem sgI_eq (s:Bool) (x:Nat):sgI s (dlen x)=if x=0 then 0 else if s then -1 else 1:=by
 unfold sgI
 by_cases h:x=0
 ·subst h;simp[dlen_zero]
 ·rw[if_neg (fun e=>h (dlen_eq_zero.1 e)),if_neg h]
theorem ordN_vz {K:Nat} {na nb:Bool} {x y:Nat} {ea eb:Int} (h1:0≤ea+K) (h2:0≤eb+K):ordN na x ea nb y eb=cmpI (vz K na x ea) (vz K nb y eb):=by
 have hm:0≤min ea eb+(K:Int):=by omega
 have e1:vz K na x ea=vz K na (x*2^(ea - min ea eb).toNat) (min ea eb):=by
  rw[vz_shift hm,show min ea eb+((ea - min ea eb).toNat:Int)=ea by omega]
 have e2:vz K nb y eb=vz K nb (y*2^(eb - min ea eb).toNat) (min ea eb):=by
  rw[vz_shift hm,show min ea eb+((eb - min ea eb).toNat:Int)=eb by omega]
 have hx:x=0↔x*2^(ea - min ea eb).toNat=0:=by
  constructor
  ·rintro rfl;rw[Nat.zero_mul]
  ·intro h;rcases Nat.mul_eq_zero.1 h with h|h
   ·exact h
   ·have:=Nat.two_pow_pos (ea - min ea eb).toNat;omega
 have hy:y=0↔y*2^(eb - min ea eb).toNat=0:=by
  constructor
  ·rintro rfl;rw[Nat.zero_mul]
  ·intro h;rcases Nat.mul_eq_zero.1 h with h|h
   ·exact h
   ·have:=Nat.two_pow_pos (eb - min ea eb).toNat;omega
 rw[e1,e2]
 unfold ordN vz
 rw[cmpI_mul (Nat.two_pow_pos _),sgI_eq,sgI_eq]
 generalize x*2^(ea - min ea eb).toNat=X at *
 generalize y*2^(eb - min ea eb).toNat=Y at *
 by_cases x0:x=0
 ·have X0:=hx.1 x0
  rw[if_pos x0,X0]
  by_cases y0:y=0
  ·rw[if_pos y0,if_pos rfl,hy.1 y0,sv_zero,sv_zero]
   simp[cmpI]
  ·have Y0:Y≠0:=fun h=>y0 (hy.2 h)
   rw[if_neg y0,sv_zero]
   cases nb
   ·simp[sv,cmpI];omega
   ·simp[sv,cmpI];omega
 ·have X0:X≠0:=fun h=>x0 (hx.2 h)
  rw[if_neg x0]
  by_cases y0:y=0
  ·rw[if_pos y0,hy.1 y0,sv_zero]
   cases na
   ·simp[sv,cmpI];omega
   ·simp[sv,cmpI];omega
  ·have Y0:Y≠0:=fun h=>y0 (hy.2 h)
   rw[if_neg y0]
   cases na <;> cases nb
   ·simp[sv]
   ·simp[sv,cmpI];omega
   ·simp[sv,cmpI];omega
   ·simp only[if_true,sv]
    rw[cmpI_neg];omega
theorem cmp_gt {a b:Int} (h:b<a):0<cmpI a b:=by
 rcases cmpI_cases a b with ⟨h1,h2⟩|⟨h1,h2⟩|⟨h1,h2⟩ <;> omega
end Go.Proofs.YtcdkkpjilgmncaaGreatDoor
namespace Go.Proofs.YtcdkkpjilgmncaaGreatDoor
open Go.RowKit
theorem rmag_1 (na nb:Bool) (ua va:Option Addr) (un uc vn vc:Nat) (ea eb ha hb:Int) (w:World) (hn1:((un:Int)==0)=false) (hn2:((vn:Int)==0)=false)
  (hh1 : -64000000000≤ha) (hh2:ha≤64000000000) (hh3 : -64000000000≤hb) (hh4:hb≤64000000000) (hne:ha≠hb)
  (kA:∀ W,Bw w W→Calls Tryz.prog 63 #[.agg #[.bool na,.slice ua un uc,.int .i64 ea]] W fun r w'=>r=.returned (.int .i64 ha)∧Bw W w')
  (kB:∀ W,Bw w W→Calls Tryz.prog 63 #[.agg #[.bool nb,.slice va vn vc,.int .i64 eb]] W fun r w'=>r=.returned (.int .i64 hb)∧Bw W w') :
  Calls Tryz.prog 98 #[.agg #[.bool na,.slice ua un uc,.int .i64 ea],.agg #[.bool nb,.slice va vn vc,.int .i64 eb]] w fun r w'=>r=.returned (.int .i64 (ha - hb))∧Bw w w':=by
 obtain⟨W,hW⟩:∃ W,W=(w.alloc (.cells #[.bool na,.slice ua un uc,.int .i64 ea] 27)).alloc (.cells #[.bool nb,.slice va vn vc,.int .i64 eb] 27):=⟨_,rfl⟩
 obtain⟨hA,hBb,hsz,hBW⟩:=two29 _ _ hW
 have HX:Hid (Bw w W):=hBW
 have kA':∀ w4,Bw W w4→Calls Tryz.prog 63 #[.agg #[.bool na,.slice ua un uc,.int .i64 ea]] w4 fun r w'=>r=.returned (.int .i64 ha)∧Bw W w':=fun w4 h4=>(kA w4 (hBW.trans (h4.mono hBW.size))).mono fun r w' ⟨e1,o2⟩=>⟨e1,h4.trans (o2.mono h4.size)⟩
 have kB':∀ w4,Bw W w4→Calls Tryz.prog 63 #[.agg #[.bool nb,.slice va vn vc,.int .i64 eb]] w4 fun r w'=>r=.returned (.int .i64 hb)∧Bw W w':=fun w4 h4=>(kB w4 (hBW.trans (h4.mono hBW.size))).mono fun r w' ⟨e1,o2⟩=>⟨e1,h4.trans (o2.mono h4.size)⟩
 have HKA:Hid (∀ w4,Bw W w4→Calls Tryz.prog 63 #[.agg #[.bool na,.slice ua un uc,.int .i64 ea]] w4 fun r w'=>r=.returned (.int .i64 ha)∧Bw W w'):=kA'
 have HKB:Hid (∀ w4,Bw W w4→Calls Tryz.prog 63 #[.agg #[.bool nb,.slice va vn vc,.int .i64 eb]] w4 fun r w'=>r=.returned (.int .i64 hb)∧Bw W w'):=kB'
 obtain⟨⟨a0,a1,a2⟩,-⟩:=box_cells29 hA
 obtain⟨⟨b0,b1,b2⟩,-⟩:=box_cells29 hBb
 have HK:Hid (∀ w',Bw W w'→((w'.cell? ⟨w.heap.size,0,none⟩=some (.bool na)∧w'.cell? ⟨w.heap.size,1,none⟩=some (.slice ua un uc)∧w'.cell? ⟨w.heap.size,2,none⟩=some (.int .i64 ea))∧(w'.cell? ⟨w.heap.size+1,0,none⟩=some (.bool nb)∧w'.cell? ⟨w.heap.size+1,1,none⟩=some (.slice va vn vc)∧w'.cell? ⟨w.heap.size+1,2,none⟩=some (.int .i64 eb)))):=fun w' hb=>⟨(box_cells29 (box_later hA hb (by omega))).1,(box_cells29 (box_later hBb hb (by omega))).1⟩
 have HRD:Hid (∀ w',Bw W w'→Bw W w'.drew):=fun w' h=>h.trans ⟨rfl,rfl,rfl,Nat.le_refl _,fun _ _=>rfl⟩
 have hBR:Bw W W.drew:=(Below.refl _ _).drew
 have HZ:Hid (IntKind.i64.wrap (ha - hb)=ha - hb):=(by rw[IntKind.wrap_i64];omega:IntKind.i64.wrap (ha - hb)=ha - hb)
 have hne':(ha==hb)=false:=by simpa using hne
 clear kA kB hA hBb hsz hBW hne hh1 hh2 hh3 hh4
 go_enter Tryz.func98,Tryz.ntmps98
 go_upto_region 3 with fail
 rw[←hW]
 clear hW
 go_cut [24] from 25 to 29 (fun v w'=>v=.bool true∧Hid (Bw W w'))
 case first =>
  go_region_held3 (fun w'=>((w'.cell? ⟨w.heap.size,0,none⟩=some (.bool na)∧w'.cell? ⟨w.heap.size,1,none⟩=some (.slice ua un uc)∧w'.cell? ⟨w.heap.size,2,none⟩=some (.int .i64 ea))∧(w'.cell? ⟨w.heap.size+1,0,none⟩=some (.bool nb)∧w'.cell? ⟨w.heap.size+1,1,none⟩=some (.slice va vn vc)∧w'.cell? ⟨w.heap.size+1,2,none⟩=some (.int .i64 eb)))) (first|(with_reducible assumption)|exact⟨⟨a0,a1,a2⟩,b0,b1,b2⟩|(refine HK.out _ ?_;with_reducible assumption)|go_keep)
   (first|(go_at_call 63;first|(with_reducible refine(kA' _ (by first|(with_reducible assumption)|exact hBR)).mono ?_;rintro r w5 ⟨rfl,hb5⟩)|(with_reducible refine(kB' _ (by first|(with_reducible assumption)|exact hBR)).mono ?_;rintro r w6 ⟨rfl,hb6⟩)))
  all_goals go_wp2_with fail
  all_goals go_meet
  all_goals exact⟨by rw[bne,hne'];rfl,by first|exact hb6|exact hb5⟩
 case rest =>
  obtain⟨rfl,hc⟩:=hcut
  obtain⟨W2,rfl⟩:∃ W2:World,W2=wc:=⟨_,rfl⟩
  clear a0 a1 a2 b0 b1 b2 kA' kB' hBR
  obtain⟨⟨a0,a1,a2⟩,b0,b1,b2⟩:=HK.out W2 hc.out
  have hBR:Bw W W2.drew:=HRD.out _ hc.out
  have kA':=HKA.out
  have kB':=HKB.out
  go_upto_region 4 with fail
  go_region_held3 (fun w'=>((w'.cell? ⟨w.heap.size,0,none⟩=some (.bool na)∧w'.cell? ⟨w.heap.size,1,none⟩=some (.slice ua un uc)∧w'.cell? ⟨w.heap.size,2,none⟩=some (.int .i64 ea))∧(w'.cell? ⟨w.heap.size+1,0,none⟩=some (.bool nb)∧w'.cell? ⟨w.heap.size+1,1,none⟩=some (.slice va vn vc)∧w'.cell? ⟨w.heap.size+1,2,none⟩=some (.int .i64 eb)))) (first|(with_reducible assumption)|exact⟨⟨a0,a1,a2⟩,b0,b1,b2⟩|(refine HK.out _ ?_;with_reducible assumption)|go_keep)
   (first|(go_at_call 63;first|(with_reducible refine(kA' _ (by first|(with_reducible assumption)|exact hBR)).mono ?_;rintro r w5 ⟨rfl,hb5⟩)|(with_reducible refine(kB' _ (by first|(with_reducible assumption)|exact hBR)).mono ?_;rintro r w6 ⟨rfl,hb6⟩)))
  all_goals (have HL5:Hid (Bw W w5):=hb5;have HL6:Hid (Bw W w6):=hb6;clear kA' kB' HK HKA HKB a0 a1 a2 b0 b1 b2 hBR hb5 hb6;go_wp2;go_ret;first|exact⟨by rw[HZ.out];rfl,HX.out.trans (HL6.out.mono HX.out.size)⟩|exact⟨by rw[HZ.out];rfl,HX.out.trans (HL5.out.mono HX.out.size)⟩)
theorem rmag_2 (na nb:Bool) (ua va:Option Addr) (un uc vn vc X Y:Nat) (ea eb ha:Int) (w:World) (hn1:((un:Int)==0)=false) (hn2:((vn:Int)==0)=false) (hX:dlen X≤1000000) (hY:dlen Y≤1000000)
  (he1 : -4000000≤ea) (he2:ea≤4000000) (he3 : -4000000≤eb) (he4:eb≤4000000)
  (kA:∀ W,Bw w W→Calls Tryz.prog 63 #[.agg #[.bool na,.slice ua un uc,.int .i64 ea]] W fun r w'=>r=.returned (.int .i64 ha)∧Bw W w')
  (kB:∀ W,Bw w W→Calls Tryz.prog 63 #[.agg #[.bool nb,.slice va vn vc,.int .i64 eb]] W fun r w'=>r=.returned (.int .i64 ha)∧Bw W w')
  (ku:∀ W i,Bw w W→i=ea - min ea eb→Calls Tryz.prog 94 #[.slice ua un uc,.int .i64 i] W fun r w'=>∃ v,r=.returned v∧Ir w' v X∧Bw W w')
  (kv:∀ W i,Bw w W→i=eb - min ea eb→Calls Tryz.prog 94 #[.slice va vn vc,.int .i64 i] W fun r w'=>∃ v,r=.returned v∧Ir w' v Y∧Bw W w') :
  Calls Tryz.prog 98 #[.agg #[.bool na,.slice ua un uc,.int .i64 ea],.agg #[.bool nb,.slice va vn vc,.int .i64 eb]] w fun r w'=>r=.returned (.int .i64 (cmpI X Y))∧Bw w w':=by
 obtain⟨W,hW⟩:∃ W,W=(w.alloc (.cells #[.bool na,.slice ua un uc,.int .i64 ea] 27)).alloc (.cells #[.bool nb,.slice va vn vc,.int .i64 eb] 27):=⟨_,rfl⟩
 obtain⟨hA,hBb,hsz,hBW⟩:=two29 _ _ hW
 have HX:Hid (Bw w W):=hBW
 have kA':∀ w4,Bw W w4→Calls Tryz.prog 63 #[.agg #[.bool na,.slice ua un uc,.int .i64 ea]] w4 fun r w'=>r=.returned (.int .i64 ha)∧Bw W w':=fun w4 h4=>(kA w4 (hBW.trans (h4.mono hBW.size))).mono fun r w' ⟨e1,o2⟩=>⟨e1,h4.trans (o2.mono h4.size)⟩
 have kB':∀ w4,Bw W w4→Calls Tryz.prog 63 #[.agg #[.bool nb,.slice va vn vc,.int .i64 eb]] w4 fun r w'=>r=.returned (.int .i64 ha)∧Bw W w':=fun w4 h4=>(kB w4 (hBW.trans (h4.mono hBW.size))).mono fun r w' ⟨e1,o2⟩=>⟨e1,h4.trans (o2.mono h4.size)⟩
 obtain⟨i1,hi1⟩:∃ i1,i1=ea - min ea eb:=⟨_,rfl⟩
 obtain⟨i2,hi2⟩:∃ i2,i2=eb - min ea eb:=⟨_,rfl⟩
 have HKU:Hid (∀ w4,Bw W w4→Calls Tryz.prog 94 #[.slice ua un uc,.int .i64 i1] w4 fun r w'=>∃ v,r=.returned v∧Ir w' v X∧Bw W w'∧Bw w4 w'):=(fun w4 h4=>(ku w4 i1 (hBW.trans (h4.mono hBW.size)) hi1).mono fun r w' ⟨v,e1,o1,o2⟩=>⟨v,e1,o1,h4.trans (o2.mono h4.size),o2⟩:∀ w4,Bw W w4→Calls Tryz.prog 94 #[.slice ua un uc,.int .i64 i1] w4 fun r w'=>∃ v,r=.returned v∧Ir w' v X∧Bw W w'∧Bw w4 w')
 have HKV:Hid (∀ w4,Bw W w4→Calls Tryz.prog 94 #[.slice va vn vc,.int .i64 i2] w4 fun r w'=>∃ v,r=.returned v∧Ir w' v Y∧Bw W w'∧Bw w4 w'):=(fun w4 h4=>(kv w4 i2 (hBW.trans (h4.mono hBW.size)) hi2).mono fun r w' ⟨v,e1,o1,o2⟩=>⟨v,e1,o1,h4.trans (o2.mono h4.size),o2⟩:∀ w4,Bw W w4→Calls Tryz.prog 94 #[.slice va vn vc,.int .i64 i2] w4 fun r w'=>∃ v,r=.returned v∧Ir w' v Y∧Bw W w'∧Bw w4 w')
 have kO:∀ w4 p q,Ir w4 p X→Ir w4 q Y→Bw W w4→Calls Tryz.prog 96 #[p,q] w4 fun r w'=>r=.returned (.int .i64 (cmpI X Y))∧Bw W w':=fun w4 p q hp hq h4=>(rord hp hq (by omega) (by omega)).mono fun r w' ⟨e1,d,e2⟩=>⟨e1,by rw[e2];exact h4.trans ⟨rfl,rfl,rfl,Nat.le_refl _,fun _ _=>rfl⟩⟩
 have HKO:Hid _:=kO
 obtain⟨⟨a0,a1,a2⟩,-⟩:=box_cells29 hA
 obtain⟨⟨b0,b1,b2⟩,-⟩:=box_cells29 hBb
 have HK:Hid (∀ w',Bw W w'→((w'.cell? ⟨w.heap.size,0,none⟩=some (.bool na)∧w'.cell? ⟨w.heap.size,1,none⟩=some (.slice ua un uc)∧w'.cell? ⟨w.heap.size,2,none⟩=some (.int .i64 ea))∧(w'.cell? ⟨w.heap.size+1,0,none⟩=some (.bool nb)∧w'.cell? ⟨w.heap.size+1,1,none⟩=some (.slice va vn vc)∧w'.cell? ⟨w.heap.size+1,2,none⟩=some (.int .i64 eb)))):=fun w' hb=>⟨(box_cells29 (box_later hA hb (by omega))).1,(box_cells29 (box_later hBb hb (by omega))).1⟩
 have HRD:Hid (∀ w',Bw W w'→Bw W w'.drew):=fun w' h=>h.trans ⟨rfl,rfl,rfl,Nat.le_refl _,fun _ _=>rfl⟩
 have hBR:Bw W W.drew:=(Below.refl _ _).drew
 have HI:Hid (∀ i,(i=ea - min ea eb∨i=IntKind.i64.wrap (ea - min ea eb))→i=i1):=(fun i h=>by rw[IntKind.wrap_i64] at h;omega:∀ i,(i=ea - min ea eb∨i=IntKind.i64.wrap (ea - min ea eb))→i=i1)
 have HJ:Hid (∀ i,(i=eb - min ea eb∨i=IntKind.i64.wrap (eb - min ea eb))→i=i2):=(fun i h=>by rw[IntKind.wrap_i64] at h;omega:∀ i,(i=eb - min ea eb∨i=IntKind.i64.wrap (eb - min ea eb))→i=i2)
 obtain⟨c,hc⟩:∃ c,c=cmpI X Y:=⟨_,rfl⟩
 rw[←hc] at HKO ⊢
 clear kA kB ku kv kO hA hBb hsz hBW hX hY hi1 hi2 hc
 go_enter Tryz.func98,Tryz.ntmps98
 go_upto_region 3 with fail
 rw[←hW]
 clear hW
 go_cut [24] from 25 to 29 (fun v w'=>v=.bool false∧Hid (Bw W w'))
 case first =>
  go_region_held3 (fun w'=>((w'.cell? ⟨w.heap.size,0,none⟩=some (.bool na)∧w'.cell? ⟨w.heap.size,1,none⟩=some (.slice ua un uc)∧w'.cell? ⟨w.heap.size,2,none⟩=some (.int .i64 ea))∧(w'.cell? ⟨w.heap.size+1,0,none⟩=some (.bool nb)∧w'.cell? ⟨w.heap.size+1,1,none⟩=some (.slice va vn vc)∧w'.cell? ⟨w.heap.size+1,2,none⟩=some (.int .i64 eb)))) (first|(with_reducible assumption)|exact⟨⟨a0,a1,a2⟩,b0,b1,b2⟩|(refine HK.out _ ?_;with_reducible assumption)|go_keep)
   (first|(go_at_call 63;first|(with_reducible refine(kA' _ (by first|(with_reducible assumption)|exact hBR)).mono ?_;rintro r w5 ⟨rfl,hb5⟩)|(with_reducible refine(kB' _ (by first|(with_reducible assumption)|exact hBR)).mono ?_;rintro r w6 ⟨rfl,hb6⟩)))
  all_goals go_wp2_with fail
  all_goals go_meet
  all_goals exact⟨by first|rfl|simp,by first|exact hb6|exact hb5⟩
 case rest =>
  obtain⟨rfl,hc⟩:=hcut
  obtain⟨W2,rfl⟩:∃ W2:World,W2=wc:=⟨_,rfl⟩
  clear a0 a1 a2 b0 b1 b2 kA' kB' hBR
  obtain⟨⟨a0,a1,a2⟩,b0,b1,b2⟩:=HK.out W2 hc.out
  have hBR:Bw W W2.drew:=HRD.out _ hc.out
  have kU:∀ i w4,(i=ea - min ea eb∨i=IntKind.i64.wrap (ea - min ea eb))→Bw W w4→Calls Tryz.prog 94 #[.slice ua un uc,.int .i64 i] w4 fun r w'=>∃ v,r=.returned v∧Ir w' v X∧Bw W w'∧Bw w4 w':=fun i w4 hi=>by rw[HI.out i hi];exact HKU.out w4
  have kV:∀ i w4,(i=eb - min ea eb∨i=IntKind.i64.wrap (eb - min ea eb))→Bw W w4→Calls Tryz.prog 94 #[.slice va vn vc,.int .i64 i] w4 fun r w'=>∃ v,r=.returned v∧Ir w' v Y∧Bw W w'∧Bw w4 w':=fun i w4 hi=>by rw[HJ.out i hi];exact HKV.out w4
  have kO:=HKO.out
  go_upto_region 6 with fail
  go_region_held3 (fun w'=>((w'.cell? ⟨w.heap.size,0,none⟩=some (.bool na)∧w'.cell? ⟨w.heap.size,1,none⟩=some (.slice ua un uc)∧w'.cell? ⟨w.heap.size,2,none⟩=some (.int .i64 ea))∧(w'.cell? ⟨w.heap.size+1,0,none⟩=some (.bool nb)∧w'.cell? ⟨w.heap.size+1,1,none⟩=some (.slice va vn vc)∧w'.cell? ⟨w.heap.size+1,2,none⟩=some (.int .i64 eb)))) (first|(with_reducible assumption)|exact⟨⟨a0,a1,a2⟩,b0,b1,b2⟩|(refine HK.out _ ?_;with_reducible assumption)|go_keep)
   (first|(go_at_call 94;first|(with_reducible refine(kU _ _ (by first|exact .inl rfl|exact .inr rfl) (by first|(with_reducible assumption)|exact hBR)).mono ?_;rintro r w5 ⟨p5,rfl,hp5,hb5,hc5⟩)|(with_reducible refine(kV _ _ (by first|exact .inl rfl|exact .inr rfl) (by first|(with_reducible assumption)|exact hBR)).mono ?_;rintro r w6 ⟨p6,rfl,hp6,hb6,hc6⟩))|(go_at_call 96;first|(with_reducible refine(kO _ _ _ (hp5.later hc6) hp6 hb6).mono ?_;rintro r w7 ⟨rfl,hb7⟩)|(with_reducible refine(kO _ _ _ hp5 (hp6.later hc5) hb5).mono ?_;rintro r w7 ⟨rfl,hb7⟩)))
  all_goals (have HL7:Hid (Bw W w7):=hb7;clear kU kV kO HK HKU HKV HKO a0 a1 a2 b0 b1 b2 hBR hb5 hb6 hb7 hp5 hp6 hc5 hc6;go_wp2;go_ret;exact⟨rfl,HX.out.trans (HL7.out.mono HX.out.size)⟩)
theorem rmag_0 (na nb:Bool) (ua va:Option Addr) (un uc vn vc:Nat) (ea eb:Int) (w:World) (h0:un=0∨vn=0) (hn1:un≤35184372088832) (hn2:vn≤35184372088832) :
  Calls Tryz.prog 98 #[.agg #[.bool na,.slice ua un uc,.int .i64 ea],.agg #[.bool nb,.slice va vn vc,.int .i64 eb]] w fun r w'=>r=.returned (.int .i64 ((un:Int) - vn))∧Bw w w':=by
 obtain⟨W,hW⟩:∃ W,W=(w.alloc (.cells #[.bool na,.slice ua un uc,.int .i64 ea] 27)).alloc (.cells #[.bool nb,.slice va vn vc,.int .i64 eb] 27):=⟨_,rfl⟩
 obtain⟨hA,hBb,hsz,hBW⟩:=two29 _ _ hW
 have HX:Hid (Bw w W):=hBW
 obtain⟨⟨a0,a1,a2⟩,-⟩:=box_cells29 hA
 obtain⟨⟨b0,b1,b2⟩,-⟩:=box_cells29 hBb
 rw[hW] at a0 a1 a2 b0 b1 b2
 have hw:IntKind.i64.wrap ((un:Int) - vn)=(un:Int) - vn:=by rw[IntKind.wrap_i64];omega
 have HD:Hid ((un:Int) - vn=(un:Int) - vn):=rfl
 clear hA hBb hsz hBW
 by_cases hu:un=0
 ·subst hu
  clear h0
  go_enter Tryz.func98,Tryz.ntmps98
  go_wp2
  go_ret
  exact⟨by simp,hW ▸ HX.out⟩
 ·obtain rfl:vn=0:=by omega
  have hu1:((un:Int)==0)=false:=by simp;omega
  clear h0 hu
  go_enter Tryz.func98,Tryz.ntmps98
  go_wp2
  go_ret
  exact⟨by simp,hW ▸ HX.out⟩
def magI (x:Nat) (ea:Int) (y:Nat) (eb:Int):Int:=if x=0∨y=0 then(dlen x:Int) - dlen y else if(bl x:Int)+ea=bl y+eb then cmpI (x*2^(ea - min ea eb).toNat:Nat) (y*2^(eb - min ea eb).toNat:Nat) else(bl x:Int)+ea - (bl y+eb)
theorem rmag {na nb:Bool} {ua va:Option Addr} {uc vc x y:Nat} {ea eb:Int} {w:World} (h1:Arg w ua (dlen x) uc x) (h2:Arg w va (dlen y) vc y) (hx:dlen x≤400000) (hy:dlen y≤400000) (ha : -2000000≤ea∧ea≤2000000) (hb : -2000000≤eb∧eb≤2000000) :
  Calls Tryz.prog 98 #[.agg #[.bool na,.slice ua (dlen x) uc,.int .i64 ea],.agg #[.bool nb,.slice va (dlen y) vc,.int .i64 eb]] w fun r w'=>r=.returned (.int .i64 (magI x ea y eb))∧Bw w w':=by
 unfold magI
 by_cases h0:x=0∨y=0
 ·rw[if_pos h0]
  exact rmag_0 na nb ua va _ uc _ vc ea eb w (h0.imp (fun h=>by rw[h,dlen_zero]) (fun h=>by rw[h,dlen_zero])) (by omega) (by omega)
 ·rw[if_neg h0]
  have hx0:x≠0:=fun e=>h0 (.inl e)
  have hy0:y≠0:=fun e=>h0 (.inr e)
  have b1:=bl_le_dlen x
  have b2:=bl_le_dlen y
  have kA:∀ W,Bw w W→Calls Tryz.prog 63 #[.agg #[.bool na,.slice ua (dlen x) uc,.int .i64 ea]] W fun r w'=>r=.returned (.int .i64 (bl x+ea))∧Bw W w':=fun W hW=>rhigh (h1.later hW).at_ hx0 (by omega) (by omega)
  have kB:∀ W,Bw w W→Calls Tryz.prog 63 #[.agg #[.bool nb,.slice va (dlen y) vc,.int .i64 eb]] W fun r w'=>r=.returned (.int .i64 (bl y+eb))∧Bw W w':=fun W hW=>rhigh (h2.later hW).at_ hy0 (by omega) (by omega)
  by_cases ht:(bl x:Int)+ea=bl y+eb
  ·rw[if_pos ht]
   rw[←ht] at kB
   have l1:dlen (x*2^(ea - min ea eb).toNat)≤760000:=by have:=shl_len (x:=x) (k:=(ea - min ea eb).toNat) rfl;omega
   have l2:dlen (y*2^(eb - min ea eb).toNat)≤760000:=by have:=shl_len (x:=y) (k:=(eb - min ea eb).toNat) rfl;omega
   refine rmag_2 na nb ua va _ uc _ vc _ _ ea eb _ w (len_ne (n:=0) hx0) (len_ne (n:=0) hy0) (by omega) (by omega) (by omega) (by omega) (by omega) (by omega) kA kB (fun W i hW hi=>?_) (fun W i hW hi=>?_)
   ·have hik:i=(((ea - min ea eb).toNat:Nat):Int):=by omega
    rw[hik]
    exact rup ⟨ua,uc,rfl,h1.le,(h1.later hW).at_⟩ _ (by omega) (by omega)
   ·have hik:i=(((eb - min ea eb).toNat:Nat):Int):=by omega
    rw[hik]
    exact rup ⟨va,vc,rfl,h2.le,(h2.later hW).at_⟩ _ (by omega) (by omega)
  ·rw[if_neg ht]
   exact rmag_1 na nb ua va _ uc _ vc ea eb _ _ w (len_ne (n:=0) hx0) (len_ne (n:=0) hy0) (by omega) (by omega) (by omega) (by omega) ht kA kB
theorem rorder_lt (na nb:Bool) (ua va:Option Addr) (un uc vn vc:Nat) (ea eb sa sb c:Int) (w:World) (hs:sa<sb)
  (kA:∀ W,Bw w W→Calls Tryz.prog 51 #[.agg #[.bool na,.slice ua un uc,.int .i64 ea]] W fun r w'=>r=.returned (.int .i64 sa)∧Bw W w')
  (kB:∀ W,Bw w W→Calls Tryz.prog 51 #[.agg #[.bool nb,.slice va vn vc,.int .i64 eb]] W fun r w'=>r=.returned (.int .i64 sb)∧Bw W w') :
  Calls Tryz.prog 53 #[.agg #[.bool na,.slice ua un uc,.int .i64 ea],.agg #[.bool nb,.slice va vn vc,.int .i64 eb]] w fun r w'=>r=.returned (.int .i64 (-1))∧Bw w w':=by
 obtain⟨W,hW⟩:∃ W,W=(w.alloc (.cells #[.bool na,.slice ua un uc,.int .i64 ea] 27)).alloc (.cells #[.bool nb,.slice va vn vc,.int .i64 eb] 27):=⟨_,rfl⟩
 obtain⟨hA,hBb,hsz,hBW⟩:=two29 _ _ hW
 have HX:Hid (Bw w W):=hBW
 have kA':∀ w4,Bw W w4→Calls Tryz.prog 51 #[.agg #[.bool na,.slice ua un uc,.int .i64 ea]] w4 fun r w'=>r=.returned (.int .i64 sa)∧Bw W w':=fun w4 h4=>(kA w4 (hBW.trans (h4.mono hBW.size))).mono fun r w' ⟨e1,o2⟩=>⟨e1,h4.trans (o2.mono h4.size)⟩
 have kB':∀ w4,Bw W w4→Calls Tryz.prog 51 #[.agg #[.bool nb,.slice va vn vc,.int .i64 eb]] w4 fun r w'=>r=.returned (.int .i64 sb)∧Bw W w':=fun w4 h4=>(kB w4 (hBW.trans (h4.mono hBW.size))).mono fun r w' ⟨e1,o2⟩=>⟨e1,h4.trans (o2.mono h4.size)⟩
 obtain⟨⟨a0,a1,a2⟩,-⟩:=box_cells29 hA
 obtain⟨⟨b0,b1,b2⟩,-⟩:=box_cells29 hBb
 have HK:Hid (∀ w',Bw W w'→((w'.cell? ⟨w.heap.size,0,none⟩=some (.bool na)∧w'.cell? ⟨w.heap.size,1,none⟩=some (.slice ua un uc)∧w'.cell? ⟨w.heap.size,2,none⟩=some (.int .i64 ea))∧(w'.cell? ⟨w.heap.size+1,0,none⟩=some (.bool nb)∧w'.cell? ⟨w.heap.size+1,1,none⟩=some (.slice va vn vc)∧w'.cell? ⟨w.heap.size+1,2,none⟩=some (.int .i64 eb)))):=fun w' hb=>⟨(box_cells29 (box_later hA hb (by omega))).1,(box_cells29 (box_later hBb hb (by omega))).1⟩
 have HRD:Hid (∀ w',Bw W w'→Bw W w'.drew):=fun w' h=>h.trans ⟨rfl,rfl,rfl,Nat.le_refl _,fun _ _=>rfl⟩
 have hBR:Bw W W.drew:=(Below.refl _ _).drew
 have hne:(sa==sb)=false:=by simp;omega
 have hne2:(sa != sb)=true:=by simp;omega
 clear kA kB hA hBb hsz hBW 
 go_enter Tryz.func53,Tryz.ntmps53
 go_upto_region 1 with fail
 rw[←hW]
 clear hW
 go_cut [5,6] from 8 to 11 (fun u v w'=>u=.int .i64 sa∧v=.int .i64 sb∧Hid (Bw W w'))
 case first =>
  go_region_held3 (fun w'=>((w'.cell? ⟨w.heap.size,0,none⟩=some (.bool na)∧w'.cell? ⟨w.heap.size,1,none⟩=some (.slice ua un uc)∧w'.cell? ⟨w.heap.size,2,none⟩=some (.int .i64 ea))∧(w'.cell? ⟨w.heap.size+1,0,none⟩=some (.bool nb)∧w'.cell? ⟨w.heap.size+1,1,none⟩=some (.slice va vn vc)∧w'.cell? ⟨w.heap.size+1,2,none⟩=some (.int .i64 eb)))) (first|(with_reducible assumption)|exact⟨⟨a0,a1,a2⟩,b0,b1,b2⟩|(refine HK.out _ ?_;with_reducible assumption)|go_keep)
   (first|(go_at_call 51;first|(with_reducible refine(kA' _ (by first|(with_reducible assumption)|exact hBR)).mono ?_;rintro r w5 ⟨rfl,hb5⟩)|(with_reducible refine(kB' _ (by first|(with_reducible assumption)|exact hBR)).mono ?_;rintro r w6 ⟨rfl,hb6⟩)))
  all_goals go_wp2_with fail
  all_goals go_meet
  all_goals exact⟨rfl,rfl,by first|exact hb6|exact hb5⟩
 case rest =>
  obtain⟨rfl,rfl,hc⟩:=hcut
  obtain⟨W2,rfl⟩:∃ W2:World,W2=wc:=⟨_,rfl⟩
  clear a0 a1 a2 b0 b1 b2 kA' kB' hBR
  go_wp2
  go_ret;exact⟨rfl,HX.out.trans (hc.out.mono HX.out.size)⟩
theorem rorder_gt (na nb:Bool) (ua va:Option Addr) (un uc vn vc:Nat) (ea eb sa sb c:Int) (w:World) (hs:¬ sa<sb) (hn:sa≠sb)
  (kA:∀ W,Bw w W→Calls Tryz.prog 51 #[.agg #[.bool na,.slice ua un uc,.int .i64 ea]] W fun r w'=>r=.returned (.int .i64 sa)∧Bw W w')
  (kB:∀ W,Bw w W→Calls Tryz.prog 51 #[.agg #[.bool nb,.slice va vn vc,.int .i64 eb]] W fun r w'=>r=.returned (.int .i64 sb)∧Bw W w') :
  Calls Tryz.prog 53 #[.agg #[.bool na,.slice ua un uc,.int .i64 ea],.agg #[.bool nb,.slice va vn vc,.int .i64 eb]] w fun r w'=>r=.returned (.int .i64 (1))∧Bw w w':=by
 obtain⟨W,hW⟩:∃ W,W=(w.alloc (.cells #[.bool na,.slice ua un uc,.int .i64 ea] 27)).alloc (.cells #[.bool nb,.slice va vn vc,.int .i64 eb] 27):=⟨_,rfl⟩
 obtain⟨hA,hBb,hsz,hBW⟩:=two29 _ _ hW
 have HX:Hid (Bw w W):=hBW
 have kA':∀ w4,Bw W w4→Calls Tryz.prog 51 #[.agg #[.bool na,.slice ua un uc,.int .i64 ea]] w4 fun r w'=>r=.returned (.int .i64 sa)∧Bw W w':=fun w4 h4=>(kA w4 (hBW.trans (h4.mono hBW.size))).mono fun r w' ⟨e1,o2⟩=>⟨e1,h4.trans (o2.mono h4.size)⟩
 have kB':∀ w4,Bw W w4→Calls Tryz.prog 51 #[.agg #[.bool nb,.slice va vn vc,.int .i64 eb]] w4 fun r w'=>r=.returned (.int .i64 sb)∧Bw W w':=fun w4 h4=>(kB w4 (hBW.trans (h4.mono hBW.size))).mono fun r w' ⟨e1,o2⟩=>⟨e1,h4.trans (o2.mono h4.size)⟩
 obtain⟨⟨a0,a1,a2⟩,-⟩:=box_cells29 hA
 obtain⟨⟨b0,b1,b2⟩,-⟩:=box_cells29 hBb
 have HK:Hid (∀ w',Bw W w'→((w'.cell? ⟨w.heap.size,0,none⟩=some (.bool na)∧w'.cell? ⟨w.heap.size,1,none⟩=some (.slice ua un uc)∧w'.cell? ⟨w.heap.size,2,none⟩=some (.int .i64 ea))∧(w'.cell? ⟨w.heap.size+1,0,none⟩=some (.bool nb)∧w'.cell? ⟨w.heap.size+1,1,none⟩=some (.slice va vn vc)∧w'.cell? ⟨w.heap.size+1,2,none⟩=some (.int .i64 eb)))):=fun w' hb=>⟨(box_cells29 (box_later hA hb (by omega))).1,(box_cells29 (box_later hBb hb (by omega))).1⟩
 have HRD:Hid (∀ w',Bw W w'→Bw W w'.drew):=fun w' h=>h.trans ⟨rfl,rfl,rfl,Nat.le_refl _,fun _ _=>rfl⟩
 have hBR:Bw W W.drew:=(Below.refl _ _).drew
 have hne:(sa==sb)=false:=by simp;omega
 have hne2:(sa != sb)=true:=by simp;omega
 clear kA kB hA hBb hsz hBW hn
 go_enter Tryz.func53,Tryz.ntmps53
 go_upto_region 1 with fail
 rw[←hW]
 clear hW
 go_cut [5,6] from 8 to 11 (fun u v w'=>u=.int .i64 sa∧v=.int .i64 sb∧Hid (Bw W w'))
 case first =>
  go_region_held3 (fun w'=>((w'.cell? ⟨w.heap.size,0,none⟩=some (.bool na)∧w'.cell? ⟨w.heap.size,1,none⟩=some (.slice ua un uc)∧w'.cell? ⟨w.heap.size,2,none⟩=some (.int .i64 ea))∧(w'.cell? ⟨w.heap.size+1,0,none⟩=some (.bool nb)∧w'.cell? ⟨w.heap.size+1,1,none⟩=some (.slice va vn vc)∧w'.cell? ⟨w.heap.size+1,2,none⟩=some (.int .i64 eb)))) (first|(with_reducible assumption)|exact⟨⟨a0,a1,a2⟩,b0,b1,b2⟩|(refine HK.out _ ?_;with_reducible assumption)|go_keep)
   (first|(go_at_call 51;first|(with_reducible refine(kA' _ (by first|(with_reducible assumption)|exact hBR)).mono ?_;rintro r w5 ⟨rfl,hb5⟩)|(with_reducible refine(kB' _ (by first|(with_reducible assumption)|exact hBR)).mono ?_;rintro r w6 ⟨rfl,hb6⟩)))
  all_goals go_wp2_with fail
  all_goals go_meet
  all_goals exact⟨rfl,rfl,by first|exact hb6|exact hb5⟩
 case rest =>
  obtain⟨rfl,rfl,hc⟩:=hcut
  obtain⟨W2,rfl⟩:∃ W2:World,W2=wc:=⟨_,rfl⟩
  clear a0 a1 a2 b0 b1 b2 kA' kB' hBR
  go_wp2
  go_ret;exact⟨rfl,HX.out.trans (hc.out.mono HX.out.size)⟩
theorem rorder_all (na nb:Bool) (ua va:Option Addr) (un uc vn vc:Nat) (ea eb sa sb c R:Int) (w:World) (hse0:sa=sb) (hcase:Hid ((0≤sa∧(c=0∧R=0∨0<c∧R=1∨c<0∧R = -1))∨(sa<0∧(c=0∧R=0∨0<c∧R = -1∨c<0∧R=1)))) (hc3 : -90000000000≤c) (hc4:c≤90000000000)
  (kA:∀ W,Bw w W→Calls Tryz.prog 51 #[.agg #[.bool na,.slice ua un uc,.int .i64 ea]] W fun r w'=>r=.returned (.int .i64 sa)∧Bw W w')
  (kB:∀ W,Bw w W→Calls Tryz.prog 51 #[.agg #[.bool nb,.slice va vn vc,.int .i64 eb]] W fun r w'=>r=.returned (.int .i64 sb)∧Bw W w')
  (kM:∀ W,Bw w W→Calls Tryz.prog 98 #[.agg #[.bool na,.slice ua un uc,.int .i64 ea],.agg #[.bool nb,.slice va vn vc,.int .i64 eb]] W fun r w'=>r=.returned (.int .i64 c)∧Bw W w') :
  Calls Tryz.prog 53 #[.agg #[.bool na,.slice ua un uc,.int .i64 ea],.agg #[.bool nb,.slice va vn vc,.int .i64 eb]] w fun r w'=>r=.returned (.int .i64 R)∧Bw w w':=by
 obtain⟨W,hW⟩:∃ W,W=(w.alloc (.cells #[.bool na,.slice ua un uc,.int .i64 ea] 27)).alloc (.cells #[.bool nb,.slice va vn vc,.int .i64 eb] 27):=⟨_,rfl⟩
 obtain⟨hA,hBb,hsz,hBW⟩:=two29 _ _ hW
 have HX:Hid (Bw w W):=hBW
 have kA':∀ w4,Bw W w4→Calls Tryz.prog 51 #[.agg #[.bool na,.slice ua un uc,.int .i64 ea]] w4 fun r w'=>r=.returned (.int .i64 sa)∧Bw W w':=fun w4 h4=>(kA w4 (hBW.trans (h4.mono hBW.size))).mono fun r w' ⟨e1,o2⟩=>⟨e1,h4.trans (o2.mono h4.size)⟩
 have kB':∀ w4,Bw W w4→Calls Tryz.prog 51 #[.agg #[.bool nb,.slice va vn vc,.int .i64 eb]] w4 fun r w'=>r=.returned (.int .i64 sb)∧Bw W w':=fun w4 h4=>(kB w4 (hBW.trans (h4.mono hBW.size))).mono fun r w' ⟨e1,o2⟩=>⟨e1,h4.trans (o2.mono h4.size)⟩
 have kM':∀ w4,Bw W w4→Calls Tryz.prog 98 #[.agg #[.bool na,.slice ua un uc,.int .i64 ea],.agg #[.bool nb,.slice va vn vc,.int .i64 eb]] w4 fun r w'=>r=.returned (.int .i64 c)∧Bw W w':=fun w4 h4=>(kM w4 (hBW.trans (h4.mono hBW.size))).mono fun r w' ⟨e1,o2⟩=>⟨e1,h4.trans (o2.mono h4.size)⟩
 have HKM:Hid (∀ w4,Bw W w4→Calls Tryz.prog 98 #[.agg #[.bool na,.slice ua un uc,.int .i64 ea],.agg #[.bool nb,.slice va vn vc,.int .i64 eb]] w4 fun r w'=>r=.returned (.int .i64 c)∧Bw W w'):=kM'
 obtain⟨⟨a0,a1,a2⟩,-⟩:=box_cells29 hA
 obtain⟨⟨b0,b1,b2⟩,-⟩:=box_cells29 hBb
 have HK:Hid (∀ w',Bw W w'→((w'.cell? ⟨w.heap.size,0,none⟩=some (.bool na)∧w'.cell? ⟨w.heap.size,1,none⟩=some (.slice ua un uc)∧w'.cell? ⟨w.heap.size,2,none⟩=some (.int .i64 ea))∧(w'.cell? ⟨w.heap.size+1,0,none⟩=some (.bool nb)∧w'.cell? ⟨w.heap.size+1,1,none⟩=some (.slice va vn vc)∧w'.cell? ⟨w.heap.size+1,2,none⟩=some (.int .i64 eb)))):=fun w' hb=>⟨(box_cells29 (box_later hA hb (by omega))).1,(box_cells29 (box_later hBb hb (by omega))).1⟩
 have HRD:Hid (∀ w',Bw W w'→Bw W w'.drew):=fun w' h=>h.trans ⟨rfl,rfl,rfl,Nat.le_refl _,fun _ _=>rfl⟩
 have hBR:Bw W W.drew:=(Below.refl _ _).drew
 have hse:(sa==sb)=true:=by simp;omega
 have hse2:(sa != sb)=false:=by simp;omega
 have HC:Hid (-90000000000≤c∧c≤90000000000):=⟨hc3,hc4⟩
 clear kA kB kM kM' hA hBb hsz hBW hc3 hc4 hse0
 go_enter Tryz.func53,Tryz.ntmps53
 go_upto_region 1 with fail
 rw[←hW]
 clear hW
 go_cut [5,6] from 8 to 11 (fun u v w'=>u=.int .i64 sa∧v=.int .i64 sb∧Hid (Bw W w'))
 case first =>
  go_region_held3 (fun w'=>((w'.cell? ⟨w.heap.size,0,none⟩=some (.bool na)∧w'.cell? ⟨w.heap.size,1,none⟩=some (.slice ua un uc)∧w'.cell? ⟨w.heap.size,2,none⟩=some (.int .i64 ea))∧(w'.cell? ⟨w.heap.size+1,0,none⟩=some (.bool nb)∧w'.cell? ⟨w.heap.size+1,1,none⟩=some (.slice va vn vc)∧w'.cell? ⟨w.heap.size+1,2,none⟩=some (.int .i64 eb)))) (first|(with_reducible assumption)|exact⟨⟨a0,a1,a2⟩,b0,b1,b2⟩|(refine HK.out _ ?_;with_reducible assumption)|go_keep)
   (first|(go_at_call 51;first|(with_reducible refine(kA' _ (by first|(with_reducible assumption)|exact hBR)).mono ?_;rintro r w5 ⟨rfl,hb5⟩)|(with_reducible refine(kB' _ (by first|(with_reducible assumption)|exact hBR)).mono ?_;rintro r w6 ⟨rfl,hb6⟩)))
  all_goals go_wp2_with fail
  all_goals go_meet
  all_goals exact⟨rfl,rfl,by first|exact hb6|exact hb5⟩
 case rest =>
  obtain⟨rfl,rfl,hc⟩:=hcut
  obtain⟨W2,rfl⟩:∃ W2:World,W2=wc:=⟨_,rfl⟩
  clear a0 a1 a2 b0 b1 b2 kA' kB' hBR
  have kM':=HKM.out W2 hc.out
  obtain⟨⟨a0,a1,a2⟩,b0,b1,b2⟩:=HK.out W2 hc.out
  go_wp2_with fail
  refine kM'.mono ?_
  rintro r w7 ⟨rfl,hb7⟩
  have HL7:Hid (Bw W w7):=hb7
  clear kM' HK HKM a0 a1 a2 b0 b1 b2 hb7
  rcases hcase.out with ⟨hs,h⟩|⟨hs,h⟩
  ·have hs1:¬ sa<0:=by omega
   rcases h with ⟨h,rfl⟩|⟨h,rfl⟩|⟨h,rfl⟩
   ·have hc1:¬ c<0:=by omega
    have hc2:¬ 0<c:=by omega
    clear h
    go_wp2
    go_ret
    exact⟨rfl,HX.out.trans (HL7.out.mono HX.out.size)⟩
   ·have hc1:¬ c<0:=by omega
    go_wp2
    go_ret
    exact⟨rfl,HX.out.trans (HL7.out.mono HX.out.size)⟩
   ·go_wp2
    go_ret
    exact⟨rfl,HX.out.trans (HL7.out.mono HX.out.size)⟩
  ·have hcb:=HC.out
   obtain⟨d,hd⟩:∃ d,d = -c:=⟨_,rfl⟩
   have hdw:IntKind.i64.wrap d=d:=by rw[IntKind.wrap_i64];omega
   have hdn : -c=d:=hd.symm
   rcases h with ⟨h,rfl⟩|⟨h,rfl⟩|⟨h,rfl⟩
   ·have hd1:¬ d<0:=by omega
    have hd2:¬ 0<d:=by omega
    clear hd h hcb
    go_wp2
    go_ret
    exact⟨rfl,HX.out.trans (HL7.out.mono HX.out.size)⟩
   ·have hd1:d<0:=by omega
    clear hd h hcb
    go_wp2
    go_ret
    exact⟨rfl,HX.out.trans (HL7.out.mono HX.out.size)⟩
   ·have hd1:¬ d<0:=by omega
    have hd2:0<d:=by omega
    clear hd h hcb
    go_wp2
    go_ret
    exact⟨rfl,HX.out.trans (HL7.out.mono HX.out.size)⟩
end Go.Proofs.YtcdkkpjilgmncaaGreatDoor
