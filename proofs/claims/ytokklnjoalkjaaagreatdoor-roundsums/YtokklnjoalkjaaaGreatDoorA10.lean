/- Own work: contracts of the program's functions, part 10: SA8 SB1 SB2 SB3 SB4 SB5 SA9 SB6 SB7. -/
import Derived.Test.YtokklnjoalkjaaaGreatDoorA7
import Derived.Test.YtokklnjoalkjaaaGreatDoorA9
import Derived.Test.YtokklnjoalkjaaaGreatDoorA8
import Derived.Test.YtokklnjoalkjaaaGreatDoorA5
import Derived.Test.YtokklnjoalkjaaaGreatDoorA3

set_option maxHeartbeats 16000000
set_option maxRecDepth 200000
set_option linter.unusedVariables false
set_option linter.unusedSimpArgs false
namespace Go.Proofs.YtokklnjoalkjaaaGreatDoor
open Go.RowKit Go.Fl64
theorem tF_fits (a:Nat):Fits (-1074) 1025 (tF a).2.1 (tF a).2.2:=by
 refine Fits.cn (.inr ⟨(Ie.lp_bound a).1,by have:=(Ie.lp_bound a).2;omega,?_⟩)
 have h:=Ie.mant_bound a
 have h2:=(Ie.lp_bound a).2
 have:2^53≤2^(1025 - Ie.lp a).toNat:=Nat.pow_le_pow_right (by decide) (by omega)
 omega
theorem tF_ok (a:Nat):Ok (tF a):=by
 refine ok_cn (Fits.ok (lo := -1074) (hi:=1025) (.inr ⟨(Ie.lp_bound a).1,by have:=(Ie.lp_bound a).2;omega,?_⟩) (by omega) (by omega) (by omega))
 have h:=Ie.mant_bound a
 have h2:=(Ie.lp_bound a).2
 have:2^53≤2^(1025 - Ie.lp a).toNat:=Nat.pow_le_pow_right (by decide) (by omega)
 omega
theorem cn_parts (a m:Nat) (ha:a<18446744073709551616) (hf:mag a<9218868437227405312) (hm:Ie.sM a=(m:Int)):cn (neg a) m (Ie.sE a)=tF a:=by
 unfold tF cn
 rcases of_parts a m ha hf hm with ⟨h1,h2⟩|⟨h1,h2,-,h3,h4⟩
 ·rw[if_pos h1,if_pos h2]
 ·rw[if_neg h1,if_neg h2,h3,h4]
theorem exact_ok (a:Nat) (ha:a<18446744073709551616) (hf:mag a<9218868437227405312) (w:World) (hT:Tab32 w) (hI:Ie.Tab w):Calls Tryz.prog 41 #[.float .f64 a] w fun r w'=>OutA w (tF a) r w':=by
 obtain⟨m,hm,hml⟩:=sM_lt a ha
 refine exact_1 a (tF a) w fun W hW=>(of_fin a m ha W (hT.later hW) (Tab.later hI hW) hf hm).mono ?_
 rintro r w' ⟨A,rfl,hN,hb⟩
 have hp:=hN.pn
 rw[cn_parts a m ha hf hm] at hp
 obtain⟨s,ao,n,cap,e,rfl⟩:=hp.shape
 exact⟨s,ao,n,cap,e,rfl,hp,hb⟩
def tS (t1 t2:Bool×Nat×Int):Bool×Nat×Int:=cn (sumN t1.1 t1.2.1 t1.2.2 t2.1 t2.2.1 t2.2.2).1 (sumN t1.1 t1.2.1 t1.2.2 t2.1 t2.2.1 t2.2.2).2.1 (sumN t1.1 t1.2.1 t1.2.2 t2.1 t2.2.1 t2.2.2).2.2
theorem tS_fits {lo hi:Int} {t1 t2:Bool×Nat×Int} (h1:Fits lo hi t1.2.1 t1.2.2) (h2:Fits lo hi t2.2.1 t2.2.2):Fits lo (hi+1) (tS t1 t2).2.1 (tS t1 t2).2.2:=Fits.cn (Fits.sum h1 h2)
theorem tS_okR {lo hi:Int} {t1 t2:Bool×Nat×Int} (h1:Fits lo hi t1.2.1 t1.2.2) (h2:Fits lo hi t2.2.1 t2.2.2) (hb:hi+1 - lo≤65536) (hlo : -65536≤lo) (hhi:hi+1≤65536):okR (sumN t1.1 t1.2.1 t1.2.2 t2.1 t2.2.1 t2.2.2).1 (sumN t1.1 t1.2.1 t1.2.2 t2.1 t2.2.1 t2.2.2).2.1 (sumN t1.1 t1.2.1 t1.2.2 t2.1 t2.2.1 t2.2.2).2.2=true:=(Fits.sum h1 h2).ok hb hlo hhi
theorem plus_dn {t1 t2:Bool×Nat×Int} {X Y:Value} {w:World} (o1:Ok t1) (o2:Ok t2) (h1:DN w X t1) (h2:DN w Y t2):Calls Tryz.prog 34 #[X,Y] w fun r w'=>∃ A,r=.returned A∧DN w' A (tS t1 t2)∧Bw w w':=by
 obtain⟨ao,cap,rfl,a1⟩:=h1
 obtain⟨ao',cap',rfl,a2⟩:=h2
 obtain⟨f1,f2,f3,-,-⟩:=o1.facts
 obtain⟨g1,g2,g3,-,-⟩:=o2.facts
 exact(rplusG a1 a2 (cn_ok o1) (cn_ok o2) (by omega) (by omega) (by omega) (by omega) (by omega) (by omega)).mono fun r w' ⟨A,e,h,hb⟩=>⟨A,e,h.dn,hb⟩
theorem psign {t:Bool×Nat×Int} {A:Value} {w:World} (ok:Ok t) (h:PN w A t):Calls Tryz.prog 42 #[A] w fun r w'=>r=.returned (.int .i64 (sgI t.1 (dlen t.2.1)))∧Bw w w':=by
 obtain⟨ao,cap,rfl,h1⟩:=h
 obtain⟨f1,-,-,-,-⟩:=ok.facts
 exact sign_ok h1 (by omega) ok
theorem sgI_nought {s:Bool} {x:Nat}:(sgI s (dlen x)==0)=decide (x=0):=by
 unfold sgI
 by_cases h:x=0
 ·rw[if_pos (dlen_eq_zero.2 h),decide_eq_true h];rfl
 ·rw[if_neg (fun e=>h (dlen_eq_zero.1 e)),decide_eq_false h];cases s <;> rfl
theorem sig_lt {s:Bool} {n:Nat} (h:n≤9218868437227405312):sig s n<18446744073709551616:=by
 unfold sig;cases s <;> simp <;> omega
theorem tfF_lt {s:Bool} {x:Nat} {e m:Int} (hm:1≤m∧m≤3):tfF s true x e m<18446744073709551616:=by
 rw[tf_bdy hm];exact sig_lt (bdy_le _ _ _)
theorem fin_false {a:Nat}:fin a=false↔¬ mag a<9218868437227405312:=by unfold fin;simp
theorem addX_lt {a b:Nat} (ha:a<18446744073709551616) (hb:b<18446744073709551616):addX a b<18446744073709551616:=by
 unfold addX
 repeat' split
 all_goals first|exact ha|exact hb|decide
def OutF2 (W:World) (X:Nat) (r:Ending) (w':World):Prop:=∃ n,r=.returned (.float .f64 n)∧lk n X∧Bw W w'
def OutD (W:World) (X:Nat) (r:Ending) (w':World):Prop:=r=.returned (.float .f64 X)∧Bw W w'
theorem join_FAdd (a b:Nat) (m:Int) (ha:a<18446744073709551616) (hb:b<18446744073709551616) :
  ∃ X,X<18446744073709551616∧((isM m=false∨isNaN a=true∨isNaN b=true)→X=9221120237041090560) ∧
   (∀ W,Tab32 W→Ie.Tab W→Calls Tryz.prog 10 #[.float .f64 a,.float .f64 b,.int .i64 m] W fun r w'=>OutF2 W X r w') ∧
   (∀ W,Calls Tryz.prog 11 #[.float .f64 a,.float .f64 b,.int .i64 m] W fun r w'=>OutD W X r w') ∧
   (isM m=true→mag a<9218868437227405312→mag b<9218868437227405312→X=if(tS (tF a) (tF b)).2.1=0 then sig (z0 (neg a) (neg b) m) 0 else tfF (tS (tF a) (tF b)).1 true (tS (tF a) (tF b)).2.1 (tS (tF a) (tF b)).2.2 m):=by
 cases hm:isM m
 ·refine⟨9221120237041090560,by decide,fun _=>rfl,fun W _ _=>?_,fun W=>?_,fun h=>(by cases h)⟩
  ·refine(padd_no a b m W hm).mono ?_
   rintro r w' ⟨rfl,hb⟩
   exact⟨_,rfl,lk.nan (by decide) (by decide) (by decide),hb⟩
  ·refine(dadd_no a b m hm W).mono ?_
   rintro r w' ⟨rfl,hw⟩
   exact⟨rfl,hw ▸ Below.refl _ _⟩
 ·have hm':=isM_iff.1 hm
  by_cases hf:fin a=false∨fin b=false
  ·refine⟨addX a b,addX_lt ha hb,fun h=>?_,fun W _ _=>?_,fun W=>?_,fun _ h1 h2=>?_⟩
   ·unfold addX
    rcases h with h|h|h
    ·cases h
    ·rw[h,Bool.true_or,if_pos rfl]
    ·rw[h,Bool.or_true,if_pos rfl]
   ·have hrun:(∀ W,(binOp .add 22 (.float .f64 a) (.float .f64 b)).run Tryz.prog W=.ok (.float .f64 (addX a b)) W)∨∀ W,∃ n,lk n (addX a b)∧(binOp .add 22 (.float .f64 a) (.float .f64 b)).run Tryz.prog W=.ok (.float .f64 n) W.drew:=by
     rcases add_non ha hb hf with ⟨h1,h2⟩|h1
     ·refine .inr fun W=>?_
      obtain⟨n,n1,n2,hs⟩:=run_nan (P:=Tryz.prog) W .add 22 a b (by simp) h1
      exact⟨n,lk.nan n1 n2 h2,hs⟩
     ·exact .inl fun W=>run_float_arith W .add 22 .f64 a b _ h1
    by_cases hfa:mag a<9218868437227405312
    ·have hfb:¬ mag b<9218868437227405312:=by
      rcases hf with h|h
      ·exact absurd hfa (fin_false.1 h)
      ·exact fin_false.1 h
     exact padd_b a b (addX a b) m W hm (pfin_y a ha hfa) (pfin_n b hb hfb) hrun (addX_lt ha hb)
    ·exact padd_a a b (addX a b) m W hm (pfin_n a ha hfa) hrun (addX_lt ha hb)
   ·refine(dadd_non a b m ha hb hm hf W).mono ?_
    rintro r w' ⟨rfl,hw⟩
    exact⟨rfl,hw ▸ Below.refl _ _⟩
   ·rcases hf with h|h
    ·exact absurd h1 (fin_false.1 h)
    ·exact absurd h2 (fin_false.1 h)
  ·have hfa:mag a<9218868437227405312:=Nat.lt_of_not_le fun h=>hf (.inl (fin_false.2 (by omega)))
   have hfb:mag b<9218868437227405312:=Nat.lt_of_not_le fun h=>hf (.inr (fin_false.2 (by omega)))
   have hfs:=tS_fits (tF_fits a) (tF_fits b)
   have hokR:=tS_okR (tF_fits a) (tF_fits b) (by omega) (by omega) (by omega)
   have hok:Ok (tS (tF a) (tF b)):=ok_cn hokR
   obtain⟨f1,f2,f3,f4,f5⟩:=hok.facts
   have hadd:=add_op (tF_ok a) (tF_ok b) hokR
   refine⟨if(tS (tF a) (tF b)).2.1=0 then sig (z0 (neg a) (neg b) m) 0 else tfF (tS (tF a) (tF b)).1 true (tS (tF a) (tF b)).2.1 (tS (tF a) (tF b)).2.2 m,?_,fun h=>(by unfold isNaN at h;simp only[decide_eq_true_eq] at h;rcases h with h|h|h;cases h;omega;omega),fun W hT hI=>?_,fun W=>?_,fun _ _ _=>rfl⟩
   ·split
    ·exact sig_lt (by omega)
    ·exact tfF_lt hm'
   ·by_cases h0:(tS (tF a) (tF b)).2.1=0
    ·rw[if_pos h0]
     refine(padd_z a b _ m _ (tF a) (tF b) (tS (tF a) (tF b)) W hm ha hb (pfin_y a ha hfa) (pfin_y b hb hfb) (exact_ok a ha hfa W hT hI) (fun W' h=>exact_ok b hb hfb W' (hT.later h) (Tab.later hI h)) (fun W' X Y h h1 h2=>added_op hadd (hT.later h) h1 h2) (fun W' X h=>psign hok h) (by rw[sgI_nought,decide_eq_true h0]) (fun W'=>pnought _ _ m hm' W')).mono ?_
     rintro r w' ⟨rfl,hb'⟩
     exact⟨_,rfl,lk.refl (sig_lt (by omega)),hb'⟩
    ·rw[if_neg h0]
     refine(padd_r a b _ m _ (tF a) (tF b) (tS (tF a) (tF b)) W hm ha hb (pfin_y a ha hfa) (pfin_y b hb hfb) (exact_ok a ha hfa W hT hI) (fun W' h=>exact_ok b hb hfb W' (hT.later h) (Tab.later hI h)) (fun W' X Y h h1 h2=>added_op hadd (hT.later h) h1 h2) (fun W' X h=>psign hok h) (by rw[sgI_nought,decide_eq_false h0]) (fun W' X h h1=>prounded (hT.later h) hok h1 hm')).mono ?_
     rintro r w' ⟨rfl,hb'⟩
     exact⟨_,rfl,lk.refl (tfF_lt hm'),hb'⟩
   ·exact dadd_fin a b _ m (tF a) (tF b) (tS (tF a) (tF b)) W hm ha hb hfa hfb (float_dn a ha W) (fun W' h=>float_dn b hb W') (fun W' X Y h h1 h2=>plus_dn (tF_ok a) (tF_ok b) h1 h2) (fun W' X h h1=>dR h1 f5 (by omega) (by omega) (by omega) hm')
def rtK (t1 t2:Bool×Nat×Int):Nat:=(max 0 (64+(bl t2.2.1:Int) - (bl t1.2.1:Int))).toNat
def rtF (t1 t2:Bool×Nat×Int) (m:Int):Nat:=tfF (t1.1 != t2.1) (decide (t1.2.1*2^rtK t1 t2 % t2.2.1=0)) (t1.2.1*2^rtK t1 t2 / t2.2.1) (t1.2.2 - t2.2.2 - rtK t1 t2) m
theorem pratio {t1 t2:Bool×Nat×Int} {X Y:Value} {m:Int} {w:World} (hT:Tab32 w) (o1:Ok t1) (o2:Ok t2) (h1:PN w X t1) (h2:PN w Y t2) (x0:t1.2.1≠0) (y0:t2.2.1≠0) (hm:1≤m∧m≤3) :
  Calls Tryz.prog 58 #[X,Y,.int .i64 m] w fun r w'=>r=.returned (.tuple #[.float .f64 (rtF t1 t2 m),.int .i64 0])∧Bw w w':=by
 obtain⟨pa,pc,rfl,i1⟩:=h1
 obtain⟨qa,qc,rfl,i2⟩:=h2
 have f1:=o1.facts
 have f2:=o2.facts
 have bx:=bl_le_dlen t1.2.1
 have by':=bl_le_dlen t2.2.1
 have hn0:((dlen t1.2.1:Int)==0)=false:=by
  have:dlen t1.2.1≠0:=fun e=>x0 (dlen_eq_zero.1 e)
  simp;omega
 have hn1:((dlen t2.2.1:Int)==0)=false:=by
  have:dlen t2.2.1≠0:=fun e=>y0 (dlen_eq_zero.1 e)
  simp;omega
 have hk:max 0 (64+(bl t2.2.1:Int) - (bl t1.2.1:Int))=(rtK t1 t2:Int):=by unfold rtK;omega
 refine pratio_1 t1.1 t2.1 pa qa _ pc _ qc _ _ (rtK t1 t2) (bl t1.2.1) (bl t2.2.1) t1.2.2 t2.2.2 m (t1.1 != t2.1) w (rfl:(!(t1.1==t2.1))=(t1.1 != t2.1)) hT i1 i2 (by omega) (by omega) y0 (by omega) (by omega) (by omega) (by omega) (by omega) rfl rfl (by omega) (by omega) hk (by omega) hn0 hn1 (fun W' g hW' hg=>?_)
 have:=maybe2 hg (i1.later hW') (i2.later hW') (by omega) (by omega)
 rw[show okN t1.1 (dlen t1.2.1) t1.2.1 t1.2.2=true from o1,show okN t2.1 (dlen t2.2.1) t2.2.1 t2.2.2=true from o2] at this
 exact this
theorem ne_nought {a:Nat} (ha:a<18446744073709551616) (hf:mag a<9218868437227405312):(FloatKind.f64.format.order a 0 != some Ordering.eq)=decide (mag a≠0):=by
 rw[bne,ord_eq a 0 ha (by decide)]
 have na:isNaN a=false:=by unfold isNaN;simp;omega
 have nb:isNaN 0=false:=by decide
 unfold Fl64.eq
 rw[na,nb]
 have e0:stp 0=0:=by decide
 rw[e0]
 by_cases h:mag a=0
 ·have:stp a=0:=by unfold stp sgn;rw[h];simp
  simp[this,h]
 ·have:stp a≠0:=by unfold stp sgn;split <;> omega
  simp[this,h]
theorem pplain_y (a:Nat) (ha:a<18446744073709551616) (hf:mag a<9218868437227405312) (h0:mag a≠0) (w:World):Calls Tryz.prog 53 #[.float .f64 a] w fun r w'=>r=.returned (.bool true)∧w'=w:=by
 have k:=pfin_y a ha hf
 have he:=ne_nought ha hf
 rw[decide_eq_true h0] at he
 clear ha hf h0
 go_enter Tryz.func53,Tryz.ntmps53
 go_wp2_with (go_at_call 39;refine(k _).mono ?_;rintro e w' ⟨rfl,rfl⟩)
 go_ret
 exact⟨rfl,rfl⟩
theorem pdiv_r (a b F:Nat) (m:Int) (ta tb:Bool×Nat×Int) (w:World) (hm:isM m=true)
  (hfa:∀ W,Calls Tryz.prog 53 #[.float .f64 a] W fun r w'=>r=.returned (.bool true)∧w'=W)
  (hfb:∀ W,Calls Tryz.prog 53 #[.float .f64 b] W fun r w'=>r=.returned (.bool true)∧w'=W)
  (kA:Calls Tryz.prog 41 #[.float .f64 a] w fun r w'=>OutA w ta r w')
  (kB:∀ W,Bw w W→Calls Tryz.prog 41 #[.float .f64 b] W fun r w'=>OutA W tb r w')
  (kC:∀ W X Y,Bw w W→PN W X ta→PN W Y tb→Calls Tryz.prog 58 #[X,Y,.int .i64 m] W fun r w'=>r=.returned (.tuple #[.float .f64 F,.int .i64 0])∧Bw W w') :
  Calls Tryz.prog 19 #[.float .f64 a,.float .f64 b,.int .i64 m] w fun r w'=>r=.returned (.float .f64 F)∧Bw w w':=by
 have kV:=pvalid m w
 rw[hm] at kV
 have HKB:Hid _:=kB
 have HKC:Hid _:=kC
 clear kB kC
 go_enter Tryz.func19,Tryz.ntmps19
 go_wp2_with fail
 refine kV.mono ?_
 rintro r w' ⟨rfl,hw⟩
 rw[hw]
 clear hw kV
 have kN:=hfa w
 go_wp2_with fail
 refine kN.mono ?_
 rintro r w' ⟨rfl,hw⟩
 rw[hw]
 clear hw kN hfa
 have kN:=hfb w
 go_wp2_with fail
 refine kN.mono ?_
 rintro r w' ⟨rfl,hw⟩
 rw[hw]
 clear hw kN hfb
 go_wp2_with fail
 refine kA.mono ?_
 rintro r w1 ⟨s1,ao1,n1,cap1,ex1,rfl,hP1,hb1⟩
 have k2:=HKB.out w1 hb1
 clear kA
 go_wp2_with fail
 refine k2.mono ?_
 rintro r w2 ⟨s2,ao2,n2,cap2,ex2,rfl,hP2,hb2⟩
 have HB2:Hid (Bw w w2):=hb1.trans (hb2.mono hb1.size)
 have k3:=HKC.out w2 _ _ HB2.out (hP1.later hb2) hP2
 clear k2 hP1 hP2 hb1 hb2
 go_wp2_with fail
 refine k3.mono ?_
 rintro r w3 ⟨rfl,hb3⟩
 have HB3:Hid (Bw w w3):=HB2.out.trans (hb3.mono HB2.out.size)
 clear k3 hb3
 go_wp2_with fail
 go_ret
 exact⟨rfl,HB3.out⟩
theorem pdiv_ok (a b:Nat) (m:Int) (w:World) (hm:isM m=true) (hT:Tab32 w) (hI:Ie.Tab w) (ha:a<18446744073709551616) (hb:b<18446744073709551616) (hfa:mag a<9218868437227405312) (hfb:mag b<9218868437227405312) (ha0:mag a≠0) (hb0:mag b≠0) (xa:(tF a).2.1≠0) (xb:(tF b).2.1≠0) :
  Calls Tryz.prog 19 #[.float .f64 a,.float .f64 b,.int .i64 m] w fun r w'=>r=.returned (.float .f64 (rtF (tF a) (tF b) m))∧Bw w w' :=
 pdiv_r a b _ m (tF a) (tF b) w hm (pplain_y a ha hfa ha0) (pplain_y b hb hfb hb0) (exact_ok a ha hfa w hT hI) (fun W h=>exact_ok b hb hfb W (hT.later h) (Tab.later hI h)) (fun W X Y h h1 h2=>pratio (hT.later h) (tF_ok a) (tF_ok b) h1 h2 xa xb (isM_iff.1 hm))
theorem tF_ne {a:Nat} (h:mag a≠0):(tF a).2.1≠0:=by
 have h1:=Ie.mant_ne h
 unfold tF cn
 rw[if_neg h1]
 intro e
 have:=(tz_spec _ _ (Nat.le_refl _) h1).2
 simp only at e
 rw[e] at this
 simp at this
theorem sure_add:(if(tS (tF 4607182418800017408) (tF 4611686018427387904)).2.1=0 then sig (z0 (neg 4607182418800017408) (neg 4611686018427387904) 2) 0 else tfF (tS (tF 4607182418800017408) (tF 4611686018427387904)).1 true (tS (tF 4607182418800017408) (tF 4611686018427387904)).2.1 (tS (tF 4607182418800017408) (tF 4611686018427387904)).2.2 2)=4613937818241073152:=by decide +kernel
theorem sure_div3:rtF (tF 4607182418800017408) (tF 4613937818241073152) 3=4599676419421066582:=by decide +kernel
theorem sure_div1:rtF (tF 4607182418800017408) (tF 4613937818241073152) 1=4599676419421066581:=by decide +kernel
theorem phyp_r (a b F : Nat) (m : Int) (ta tb t1 t2 t3 : Bool × Nat × Int) (w : World) (hm : isM m = true)
    (hia : ∀ W, Calls Tryz.prog 62 #[.float .f64 a, .int .i64 0] W fun r w' => r = .returned (.bool false) ∧ w' = W)
    (hib : ∀ W, Calls Tryz.prog 62 #[.float .f64 b, .int .i64 0] W fun r w' => r = .returned (.bool false) ∧ w' = W)
    (hfa : ∀ W, Calls Tryz.prog 39 #[.float .f64 a] W fun r w' => r = .returned (.bool true) ∧ w' = W)
    (hfb : ∀ W, Calls Tryz.prog 39 #[.float .f64 b] W fun r w' => r = .returned (.bool true) ∧ w' = W)
    (kA : Calls Tryz.prog 41 #[.float .f64 a] w fun r w' => OutA w ta r w')
    (kB : ∀ W, Bw w W → Calls Tryz.prog 41 #[.float .f64 b] W fun r w' => OutA W tb r w')
    (kM1 : ∀ W X, Bw w W → PN W X ta → Calls Tryz.prog 54 #[X, X] W fun r w' => OutA W t1 r w')
    (kM2 : ∀ W X, Bw w W → PN W X tb → Calls Tryz.prog 54 #[X, X] W fun r w' => OutA W t2 r w')
    (kC : ∀ W X Y, Bw w W → PN W X t1 → PN W Y t2 → Calls Tryz.prog 40 #[X, Y] W fun r w' => OutA W t3 r w')
    (kR : ∀ W X, Bw w W → PN W X t3 → Calls Tryz.prog 60 #[X, .int .i64 m] W fun r w' => r = .returned (.tuple #[.float .f64 F, .int .i64 0]) ∧ Bw W w') :
    Calls Tryz.prog 23 #[.float .f64 a, .float .f64 b, .int .i64 m] w fun r w' => r = .returned (.float .f64 F) ∧ Bw w w' := by
  have kV := pvalid m w
  rw [hm] at kV
  have HKB : Hid _ := kB
  have HM1 : Hid _ := kM1
  have HM2 : Hid _ := kM2
  have HKC : Hid _ := kC
  have HKR : Hid _ := kR
  clear kB kM1 kM2 kC kR
  go_enter Tryz.func23, Tryz.ntmps23
  go_wp2_with fail
  refine kV.mono ?_
  rintro r w' ⟨rfl, hw⟩
  rw [hw]
  clear hw kV
  have kN := hia w
  go_wp2_with fail
  refine kN.mono ?_
  rintro r w' ⟨rfl, hw⟩
  rw [hw]
  clear hw kN hia
  have kN := hib w
  go_wp2_with fail
  refine kN.mono ?_
  rintro r w' ⟨rfl, hw⟩
  rw [hw]
  clear hw kN hib
  have kN := hfa w
  go_wp2_with fail
  refine kN.mono ?_
  rintro r w' ⟨rfl, hw⟩
  rw [hw]
  clear hw kN hfa
  have kN := hfb w
  go_wp2_with fail
  refine kN.mono ?_
  rintro r w' ⟨rfl, hw⟩
  rw [hw]
  clear hw kN hfb
  go_wp2_with fail
  refine kA.mono ?_
  rintro r w1 ⟨s1, ao1, n1, cap1, ex1, rfl, hP1, hb1⟩
  have k2 := HKB.out w1 hb1
  clear kA
  go_wp2_with fail
  refine k2.mono ?_
  rintro r w2 ⟨s2, ao2, n2, cap2, ex2, rfl, hP2, hb2⟩
  have HB2 : Hid (Bw w w2 ∧ PN w2 (.agg #[.bool s1, .slice ao1 n1 cap1, .int .i64 ex1]) ta ∧ PN w2 (.agg #[.bool s2, .slice ao2 n2 cap2, .int .i64 ex2]) tb) := ⟨hb1.trans (hb2.mono hb1.size), hP1.later hb2, hP2⟩
  clear k2 hP1 hP2 hb1 hb2
  obtain ⟨W, hW⟩ : ∃ W, W = (w2.alloc (.cells #[.bool s1, .slice ao1 n1 cap1, .int .i64 ex1] 45)).alloc (.cells #[.bool s2, .slice ao2 n2 cap2, .int .i64 ex2] 45) := ⟨_, rfl⟩
  have hh := two29 _ _ hW
  have HX : Hid (Bw w W ∧ W.heap[w2.heap.size]? = some (.cells #[.bool s1, .slice ao1 n1 cap1, .int .i64 ex1] 45 (0, 0)) ∧ W.heap[w2.heap.size + 1]? = some (.cells #[.bool s2, .slice ao2 n2 cap2, .int .i64 ex2] 45 (0, 0)) ∧ PN W (.agg #[.bool s1, .slice ao1 n1 cap1, .int .i64 ex1]) ta ∧ PN W (.agg #[.bool s2, .slice ao2 n2 cap2, .int .i64 ex2]) tb) := ⟨HB2.out.1.trans (hh.2.2.2.mono HB2.out.1.size), hh.1, hh.2.1, HB2.out.2.1.later hh.2.2.2, HB2.out.2.2.later hh.2.2.2⟩
  clear hh
  go_upto_region 8 with fail
  rw [← hW]
  clear hW HB2
  generalize w2.heap.size = g2 at *
  have HK : Hid (∀ w', Bw W w' → ((w'.cell? ⟨g2, 0, none⟩ = some (.bool s1) ∧ w'.cell? ⟨g2, 1, none⟩ = some (.slice ao1 n1 cap1) ∧ w'.cell? ⟨g2, 2, none⟩ = some (.int .i64 ex1)) ∧ (w'.cell? ⟨g2 + 1, 0, none⟩ = some (.bool s2) ∧ w'.cell? ⟨g2 + 1, 1, none⟩ = some (.slice ao2 n2 cap2) ∧ w'.cell? ⟨g2 + 1, 2, none⟩ = some (.int .i64 ex2))) ∧ Bw W w') := fun w' hb => ⟨⟨(box_cells (box_later HX.out.2.1 hb (lt_of_box HX.out.2.1))).1, (box_cells (box_later HX.out.2.2.1 hb (lt_of_box HX.out.2.2.1))).1⟩, hb⟩
  have hBR : Bw W W.drew := (Below.refl _ _).drew
  have km1 : ∀ w4, Bw W w4 → Calls Tryz.prog 54 #[.agg #[.bool s1, .slice ao1 n1 cap1, .int .i64 ex1], .agg #[.bool s1, .slice ao1 n1 cap1, .int .i64 ex1]] w4 fun r w' => ∃ s ao n cap e, r = .returned (.agg #[.bool s, .slice ao n cap, .int .i64 e]) ∧ PN w' (.agg #[.bool s, .slice ao n cap, .int .i64 e]) t1 ∧ Bw W w' := fun w4 hb =>
    (HM1.out w4 _ (HX.out.1.trans (hb.mono HX.out.1.size)) (HX.out.2.2.2.1.later hb)).mono fun r w' ⟨s, ao, n, cap, e, e1, o1, o2⟩ => ⟨s, ao, n, cap, e, e1, o1, hb.trans (o2.mono hb.size)⟩
  have km2 : ∀ w4, Bw W w4 → Calls Tryz.prog 54 #[.agg #[.bool s2, .slice ao2 n2 cap2, .int .i64 ex2], .agg #[.bool s2, .slice ao2 n2 cap2, .int .i64 ex2]] w4 fun r w' => ∃ s ao n cap e, r = .returned (.agg #[.bool s, .slice ao n cap, .int .i64 e]) ∧ PN w' (.agg #[.bool s, .slice ao n cap, .int .i64 e]) t2 ∧ Bw W w' ∧ Hid (Bw w4 w') := fun w4 hb =>
    (HM2.out w4 _ (HX.out.1.trans (hb.mono HX.out.1.size)) (HX.out.2.2.2.2.later hb)).mono fun r w' ⟨s, ao, n, cap, e, e1, o1, o2⟩ => ⟨s, ao, n, cap, e, e1, o1, hb.trans (o2.mono hb.size), o2⟩
  have kc : ∀ w4 X Y, Bw W w4 → PN w4 X t1 → PN w4 Y t2 → Calls Tryz.prog 40 #[X, Y] w4 fun r w' => ∃ s ao n cap e, r = .returned (.agg #[.bool s, .slice ao n cap, .int .i64 e]) ∧ PN w' (.agg #[.bool s, .slice ao n cap, .int .i64 e]) t3 ∧ Bw W w' := fun w4 X Y hb h1 h2 =>
    (HKC.out w4 _ _ (HX.out.1.trans (hb.mono HX.out.1.size)) h1 h2).mono fun r w' ⟨s, ao, n, cap, e, e1, o1, o2⟩ => ⟨s, ao, n, cap, e, e1, o1, hb.trans (o2.mono hb.size)⟩
  have kr : ∀ w4 X, Bw W w4 → PN w4 X t3 → Calls Tryz.prog 60 #[X, .int .i64 m] w4 fun r w' => r = .returned (.tuple #[.float .f64 F, .int .i64 0]) ∧ Bw W w' := fun w4 X hb h1 =>
    (HKR.out w4 _ (HX.out.1.trans (hb.mono HX.out.1.size)) h1).mono fun r w' ⟨e1, o2⟩ => ⟨e1, hb.trans (o2.mono hb.size)⟩
  obtain ⟨⟨⟨a0, a1, a2⟩, ⟨b0, b1, b2⟩⟩, -⟩ := HK.out W (Below.refl _ _)
  go_region_held3 (fun w' => ((w'.cell? ⟨g2, 0, none⟩ = some (.bool s1) ∧ w'.cell? ⟨g2, 1, none⟩ = some (.slice ao1 n1 cap1) ∧ w'.cell? ⟨g2, 2, none⟩ = some (.int .i64 ex1)) ∧ (w'.cell? ⟨g2 + 1, 0, none⟩ = some (.bool s2) ∧ w'.cell? ⟨g2 + 1, 1, none⟩ = some (.slice ao2 n2 cap2) ∧ w'.cell? ⟨g2 + 1, 2, none⟩ = some (.int .i64 ex2))) ∧ Bw W w') (first | (with_reducible assumption) | exact ⟨⟨⟨a0, a1, a2⟩, ⟨b0, b1, b2⟩⟩, hBR⟩ | (refine HK.out _ ?_; with_reducible assumption) | go_keep)
    (first | (go_at_call 54; first | (have hq := hP5; clear hq; refine (km2 _ hb5).mono ?_; rintro r w6 ⟨s6, ao6, n6, cap6, e6, rfl, hP6, hb6, hk6⟩) | (refine (km1 _ hBR).mono ?_; rintro r w5 ⟨s5, ao5, n5, cap5, e5, rfl, hP5, hb5⟩))
           | (go_at_call 40; refine (kc _ _ _ hb6 (hP5.later hk6.out) hP6).mono ?_; rintro r w7 ⟨s7, ao7, n7, cap7, e7, rfl, hP7, hb7⟩)
           | (go_at_call 60; refine (kr _ _ hb7 hP7).mono ?_; rintro r w8 ⟨rfl, hb8⟩))
  all_goals
    have HF : Hid (Bw w w8) := HX.out.1.trans (hb8.mono HX.out.1.size)
    clear hP5 hb5 hP6 hb6 hk6 hP7 hb7 hb8 km1 km2 kc kr HK hBR a0 a1 a2 b0 b1 b2
    go_wp2_with fail
    go_ret
    exact ⟨rfl, HF.out⟩
def tM (t1 t2:Bool×Nat×Int):Bool×Nat×Int:=cn (!(t1.1==t2.1)) (t1.2.1*t2.2.1) (t1.2.2+t2.2.2)
def sqK (t:Bool×Nat×Int):Nat:=if((t.2.2 - ((max 0 (128 - (bl t.2.1:Int))).toNat:Int)).tmod 2 != 0)=true then(max 0 (128 - (bl t.2.1:Int))).toNat+1 else(max 0 (128 - (bl t.2.1:Int))).toNat
theorem td2 (z:Int) (h1 : -80000≤z) (h2:z≤80000) : -40000≤z.tdiv 2∧z.tdiv 2≤40000:=by
 by_cases h:0≤z
 ·rw[Int.tdiv_eq_ediv_of_nonneg h];omega
 ·obtain⟨y,rfl⟩:∃ y,z = -y:=⟨-z,by omega⟩
  rw[Int.neg_tdiv,Int.tdiv_eq_ediv_of_nonneg (by omega)];omega
theorem psqrt {t:Bool×Nat×Int} {X:Value} {m:Int} {w:World} (hT:Tab32 w) (ok:Ok t) (h:PN w X t) (hs:t.1=false) (hm:1≤m∧m≤3) :
  Calls Tryz.prog 60 #[X,.int .i64 m] w fun r w'=>∃ q,(q*q≤t.2.1*2^sqK t∧t.2.1*2^sqK t<(q+1)*(q+1))∧r=.returned (.tuple #[.float .f64 (tfF false (decide (q*q=t.2.1*2^sqK t)) q ((t.2.2 - (sqK t:Int)).tdiv 2) m),.int .i64 0])∧Bw w w':=by
 obtain⟨pa,pc,rfl,i1⟩:=h
 have f1:=ok.facts
 have bx:=bl_le_dlen t.2.1
 rw[hs]
 obtain⟨k0',hk0⟩:∃ k0':Nat,max 0 (128 - (bl t.2.1:Int))=(k0':Int):=⟨(max 0 (128 - (bl t.2.1:Int))).toNat,by omega⟩
 have hq:(max 0 (128 - (bl t.2.1:Int))).toNat=k0':=by omega
 have hmb:∀ W' g,Bw w W'→W'.heap[g]?=some (.cells #[.bool false,.slice pa (dlen t.2.1) pc,.int .i64 t.2.2] 45 (0,0))→Calls Tryz.prog 90 #[.slice (some ⟨g,0,none⟩) 1 1] W' fun r w'=>r=.returned (.bool true)∧Bw W' w':=fun W' g hW' hg=>by
  have:=maybe1 hg (i1.later hW') (by omega)
  have ok':okN t.1 (dlen t.2.1) t.2.1 t.2.2=true:=ok
  rw[hs] at ok'
  rw[ok'] at this
  exact this
 unfold sqK
 rw[hq]
 by_cases hod:((t.2.2 - (k0':Int)).tmod 2 != 0)=true
 ·simp only[if_pos hod]
  have:=psqrt_o pa _ pc t.2.1 k0' (bl t.2.1) t.2.2 m _ w hT i1 (by omega) (by omega) (by omega) (by omega) rfl (by omega) hk0 (by omega) hod rfl (td2 _ (by omega) (by omega)).1 (td2 _ (by omega) (by omega)).2 hmb
  rw[show((k0'+1:Nat):Int)=(k0':Int)+1 by omega]
  exact this
 ·simp only[if_neg hod]
  exact psqrt_e pa _ pc t.2.1 k0' (bl t.2.1) t.2.2 m _ w hT i1 (by omega) (by omega) (by omega) (by omega) rfl (by omega) hk0 (by omega) (by simpa using hod) rfl (td2 _ (by omega) (by omega)).1 (td2 _ (by omega) (by omega)).2 hmb
theorem root_only {q q' N:Nat} (h1:q*q≤N) (h2:N<(q+1)*(q+1)) (h3:q'*q'≤N) (h4:N<(q'+1)*(q'+1)):q=q':=by
 rcases Nat.lt_trichotomy q q' with h|h|h
 ·have:(q+1)*(q+1)≤q'*q':=Nat.mul_le_mul h h
  omega
 ·exact h
 ·have:(q'+1)*(q'+1)≤q*q:=Nat.mul_le_mul h h
  omega
theorem pinf_n (a:Nat) (ha:a<18446744073709551616) (hf:mag a<9218868437227405312) (w:World):Calls Tryz.prog 62 #[.float .f64 a,.int .i64 0] w fun r w'=>r=.returned (.bool false)∧w'=w:=by
 have:=c123 a ha w
 rw[show lt 9218868437227405311 (mag a)=false by
  unfold lt
  have h1:stp 9218868437227405311=9218868437227405311:=by decide
  have h2:stp (mag a)=mag a:=by unfold stp sgn neg;rw[decide_eq_false (by omega)];unfold mag;simp
  rw[h1,h2]
  simp;omega] at this
 exact this
theorem hyp_t:tS (tM (tF 4613937818241073152) (tF 4613937818241073152)) (tM (tF 4616189618054758400) (tF 4616189618054758400))=(false,25,0):=by decide +kernel
theorem hyp_k:sqK (false,25,0)=124:=by decide +kernel
theorem hyp_f:tfF false true (5*2^62) (-62) 3=4617315517961601024:=by decide +kernel
theorem hyp_1:okR (!((tF 4613937818241073152).1==(tF 4613937818241073152).1)) ((tF 4613937818241073152).2.1*(tF 4613937818241073152).2.1) ((tF 4613937818241073152).2.2+(tF 4613937818241073152).2.2)=true:=by decide +kernel
theorem hyp_2:okR (!((tF 4616189618054758400).1==(tF 4616189618054758400).1)) ((tF 4616189618054758400).2.1*(tF 4616189618054758400).2.1) ((tF 4616189618054758400).2.2+(tF 4616189618054758400).2.2)=true:=by decide +kernel
theorem tM_ok {t1 t2:Bool×Nat×Int} (h:okR (!(t1.1==t2.1)) (t1.2.1*t2.2.1) (t1.2.2+t2.2.2)=true):Ok (tM t1 t2):=ok_cn h
theorem sure_hyp (w:World) (hT:Tab32 w) (hI:Ie.Tab w):Calls Tryz.prog 23 #[.float .f64 4613937818241073152,.float .f64 4616189618054758400,.int .i64 3] w fun r w'=>r=.returned (.float .f64 4617315517961601024)∧Bw w w':=by
 have m1:=mul_op (tF_ok 4613937818241073152) (tF_ok 4613937818241073152) hyp_1
 have m2:=mul_op (tF_ok 4616189618054758400) (tF_ok 4616189618054758400) hyp_2
 have hadd:=add_op (tM_ok hyp_1) (tM_ok hyp_2) (by decide +kernel)
 refine phyp_r _ _ _ 3 (tF 4613937818241073152) (tF 4616189618054758400) (tM (tF 4613937818241073152) (tF 4613937818241073152)) (tM (tF 4616189618054758400) (tF 4616189618054758400)) (false,25,0) w (by decide) (pinf_n _ (by decide) (by decide)) (pinf_n _ (by decide) (by decide)) (pfin_y _ (by decide) (by decide)) (pfin_y _ (by decide) (by decide)) (exact_ok _ (by decide) (by decide) w hT hI) (fun W h=>exact_ok _ (by decide) (by decide) W (hT.later h) (Tab.later hI h)) (fun W X h h1=>multiplied_op m1 (hT.later h) h1 h1) (fun W X h h1=>multiplied_op m2 (hT.later h) h1 h1) (fun W X Y h h1 h2=>?_) (fun W X h h1=>?_)
 ·have:=added_op hadd (hT.later h) h1 h2
  rw[show cn _ _ _=(false,25,0)from hyp_t] at this
  exact this
 ·refine(psqrt (t:=(false,25,0)) (hT.later h) (show okN false (dlen 25) 25 0=true by decide +kernel) h1 rfl (by omega)).mono ?_
  rintro r w' ⟨q,⟨q1,q2⟩,rfl,hb⟩
  refine⟨?_,hb⟩
  simp only[hyp_k] at q1 q2 ⊢
  have e:q=5*2^62:=root_only q1 q2 (by decide) (by decide)
  subst e
  rw[decide_eq_true (by decide:(5*2^62)*(5*2^62)=25*2^124),show((0:Int) - ((124:Nat):Int)).tdiv 2 = -62 by decide,hyp_f]
theorem pcopysign (a b:Nat) (ha:a<18446744073709551616) (hb:b<18446744073709551616) (w:World) :
  Calls Tryz.prog 111 #[.float .f64 a,.float .f64 b] w fun e w'=>e=.returned (.float .f64 (sig (neg b) (mag a)))∧w'=w:=by
 have kb:=Ie.run_bits
 have kf:=Ie.run_frombits
 go_enter Tryz.func111,Tryz.ntmps111
 go_wp2
 go_ret
 refine⟨?_,rfl⟩
 show Ending.returned (.float .f64 (bits .or .u64 (bits .andNot .u64 (a:Int) 9223372036854775808) (bits .and .u64 (b:Int) 9223372036854775808)).toNat)=_
 rw[andNot_sign a ha,and_sign b hb]
 cases neg b with
 | true=>rw[if_pos rfl,or_sign _ (mag_lt a)];rfl
 | false=>rw[if_neg (by decide),or_zero _ (mag_lt a)];rfl
theorem pwith (a b:Nat) (ha:a<18446744073709551616) (hb:b<18446744073709551616) (w:World) :
  Calls Tryz.prog 68 #[.float .f64 a,.float .f64 b] w fun e w'=>e=.returned (.float .f64 (withF a b))∧w'=w:=by
 have na:=self_ne a ha
 have nb:=self_ne b hb
 have k38:=c159 a ha
 have k39:=pcopysign a b ha hb
 unfold withF
 clear ha hb
 generalize isNaN a=x at na ⊢
 generalize isNaN b=y at nb ⊢
 generalize mag a=m at k38 k39 ⊢
 generalize sig (neg b) m=r at k39 ⊢
 cases x with
 | true =>
  simp only[if_true]
  go_enter Tryz.func68,Tryz.ntmps68
  go_wp2_with (first|(go_at_call 106;refine(k38 _).mono ?_;rintro e w' ⟨rfl,rfl⟩)|(go_at_call 111;refine(k39 _).mono ?_;rintro e w' ⟨rfl,rfl⟩))
  go_ret
  exact⟨rfl,rfl⟩
 | false =>
  cases y with
  | true =>
   simp only[if_true,if_false,Bool.false_eq_true]
   go_enter Tryz.func68,Tryz.ntmps68
   go_wp2_with (first|(go_at_call 106;refine(k38 _).mono ?_;rintro e w' ⟨rfl,rfl⟩)|(go_at_call 111;refine(k39 _).mono ?_;rintro e w' ⟨rfl,rfl⟩))
   go_ret
   exact⟨rfl,rfl⟩
  | false =>
   simp only[if_false,Bool.false_eq_true]
   go_enter Tryz.func68,Tryz.ntmps68
   go_wp2_with (first|(go_at_call 106;refine(k38 _).mono ?_;rintro e w' ⟨rfl,rfl⟩)|(go_at_call 111;refine(k39 _).mono ?_;rintro e w' ⟨rfl,rfl⟩))
   go_ret
   exact⟨rfl,rfl⟩
theorem run_even25 (w:World):(callFunc 66 #[.float .f64 4612811918334230528]).run Tryz.prog w=.ok (.value (.float .f64 4611686018427387904)) w :=
 run_callFunc_extern Tryz.func66 (e := Extern.MathFloor.toIntegral "math.RoundToEven" .even) (by kernel_rfl) (by kernel_rfl) (by kernel_rfl) (by kernel_rfl) #[.float .f64 4612811918334230528] w
theorem sure_whole (w:World):Calls Tryz.prog 27 #[.float .f64 4612811918334230528,.int .i64 2] w fun r w'=>r=.returned (.float .f64 4611686018427387904)∧w'=w:=by
 have k:=pwith 4611686018427387904 4612811918334230528 (by decide) (by decide)
 rw[show withF 4611686018427387904 4612811918334230528=4611686018427387904 by decide +kernel] at k
 have kn:=Ie.c52
 have ke:=run_even25
 go_enter Tryz.func27,Tryz.ntmps27
 go_wp2_with (first|(go_at_call 38;refine(kn _).mono ?_;rintro e w' ⟨rfl,rfl⟩)|(go_at_call 68;refine(k _).mono ?_;rintro e w' ⟨rfl,rfl⟩))
 go_ret
 exact⟨rfl,rfl⟩
def BxP (w3 wc:World) (g:Nat) (s:Bool) (ao:Option Addr) (n cap:Nat) (ex:Int) (t:Bool×Nat×Int):Prop:=wc.heap[g]?=some (.cells #[.bool s,.slice ao n cap,.int .i64 ex] 45 (0,0))∧w3.heap.size≤g∧Bw w3 wc∧PN wc (.agg #[.bool s,.slice ao n cap,.int .i64 ex]) t
theorem BxP.new {w3 w7:World} {s:Bool} {ao:Option Addr} {n cap:Nat} {ex:Int} {t:Bool×Nat×Int} (hn:PN w7 (.agg #[.bool s,.slice ao n cap,.int .i64 ex]) t) (hb:Bw w3 w7):BxP w3 (w7.alloc (.cells #[.bool s,.slice ao n cap,.int .i64 ex] 45)) w7.heap.size s ao n cap ex t :=
 ⟨heap_alloc_new _ _,hb.size,hb.alloc hb.size _,hn.later ((Below.refl _ _).alloc (Nat.le_refl _) _)⟩
theorem BxP.put {w3 w7:World} {g:Nat} {s:Bool} {ao:Option Addr} {n cap:Nat} {ex:Int} {t:Bool×Nat×Int} (hn:PN w7 (.agg #[.bool s,.slice ao n cap,.int .i64 ex]) t) (hb:Bw w3 w7) (hg:w3.heap.size≤g) (hbx:w7.heap[g]?=some (.cells #[.bool false,.slice none 0 0,.int .i64 0] 45 (0,0))) :
  BxP w3 (((w7.setCell ⟨g,0,none⟩ (.bool s)).setCell ⟨g,1,none⟩ (.slice ao n cap)).setCell ⟨g,2,none⟩ (.int .i64 ex)) g s ao n cap ex t :=
 ⟨store3 _ _ _ hbx,hg,below_store3 hb hg _ _ _,pn_store hn hbx _ _ _⟩
theorem lrest_g (s1 s2 : Bool) (ao1 ao2 : Option Addr) (n1 cap1 n2 cap2 : Nat) (ex1 ex2 c : Int) (ta tb tq tm tr tn tra tna : Bool × Nat × Int) (w : World) (hc : 0 < c)
    (hA : PN w (.agg #[.bool s1, .slice ao1 n1 cap1, .int .i64 ex1]) ta) (hB : PN w (.agg #[.bool s2, .slice ao2 n2 cap2, .int .i64 ex2]) tb)
    (kQ : ∀ W, Bw w W → Calls Tryz.prog 115 #[.agg #[.bool s1, .slice ao1 n1 cap1, .int .i64 ex1], .agg #[.bool s2, .slice ao2 n2 cap2, .int .i64 ex2], .int .i64 0] W fun r w' => ∃ s ao n cap e x, r = .returned (.tuple #[.agg #[.bool s, .slice ao n cap, .int .i64 e], .bool x, .int .i64 0]) ∧ PN w' (.agg #[.bool s, .slice ao n cap, .int .i64 e]) tq ∧ Bw W w')
    (kM : ∀ W X Y, Bw w W → PN W X tq → PN W Y tb → Calls Tryz.prog 54 #[X, Y] W fun r w' => OutA W tm r w')
    (kT1 : ∀ W X Y, Bw w W → PN W X ta → PN W Y tm → Calls Tryz.prog 116 #[X, Y] W fun r w' => OutA W tr r w')
    (kT2 : ∀ W X Y, Bw w W → PN W X tr → PN W Y tb → Calls Tryz.prog 116 #[X, Y] W fun r w' => OutA W tn r w')
    (kA1 : ∀ W X, Bw w W → PN W X tr → Calls Tryz.prog 118 #[X] W fun r w' => OutA W tra r w')
    (kA2 : ∀ W X, Bw w W → PN W X tn → Calls Tryz.prog 118 #[X] W fun r w' => OutA W tna r w')
    (kC : ∀ W X Y, Bw w W → PN W X tra → PN W Y tna → Calls Tryz.prog 117 #[X, Y] W fun r w' => r = .returned (.int .i64 c) ∧ Bw W w') :
    Calls Tryz.prog 72 #[.agg #[.bool s1, .slice ao1 n1 cap1, .int .i64 ex1], .agg #[.bool s2, .slice ao2 n2 cap2, .int .i64 ex2]] w fun r w' => OutA w tn r w' := by
  have HQ : Hid _ := kQ
  have HM : Hid _ := kM
  have HT1 : Hid _ := kT1
  have HT2 : Hid _ := kT2
  have HA1 : Hid _ := kA1
  have HA2 : Hid _ := kA2
  have HC : Hid _ := kC
  obtain ⟨W, hW⟩ : ∃ W, W = ((w.alloc (.cells #[.bool s1, .slice ao1 n1 cap1, .int .i64 ex1] 45)).alloc (.cells #[.bool s2, .slice ao2 n2 cap2, .int .i64 ex2] 45)).alloc (.cells #[.bool false, .slice none 0 0, .int .i64 0] 45) := ⟨_, rfl⟩
  obtain ⟨gA, gB, gZ, hsz, hBW⟩ := boxes3 _ _ _ hW
  have HX : Hid (Bw w W ∧ W.heap[w.heap.size]? = some (.cells #[.bool s1, .slice ao1 n1 cap1, .int .i64 ex1] 45 (0, 0)) ∧ W.heap[w.heap.size + 1]? = some (.cells #[.bool s2, .slice ao2 n2 cap2, .int .i64 ex2] 45 (0, 0)) ∧ W.heap[w.heap.size + 1 + 1]? = some (.cells #[.bool false, .slice none 0 0, .int .i64 0] 45 (0, 0)) ∧ PN w (.agg #[.bool s1, .slice ao1 n1 cap1, .int .i64 ex1]) ta ∧ PN w (.agg #[.bool s2, .slice ao2 n2 cap2, .int .i64 ex2]) tb) := ⟨hBW, gA, gB, gZ, hA, hB⟩
  obtain ⟨⟨a0, a1, a2⟩, -⟩ := box_cells gA
  obtain ⟨⟨b0, b1, b2⟩, -⟩ := box_cells gB
  have k1 := kQ W hBW
  clear kQ kM kT1 kT2 kA1 kA2 kC gA gB gZ hsz hBW hA hB
  rw [hW] at a0 a1 a2 b0 b1 b2
  go_enter Tryz.func72, Tryz.ntmps72
  go_wp2_with fail
  rw [← hW]
  clear hW a0 a1 a2 b0 b1 b2
  refine k1.mono ?_
  rintro r w1 ⟨s3, ao3, n3, cap3, ex3, xq, rfl, hP3, hb1⟩
  clear k1
  obtain ⟨W1, hW1⟩ : ∃ W1, W1 = w1.alloc (.cells #[.bool s3, .slice ao3 n3 cap3, .int .i64 ex3] 45) := ⟨_, rfl⟩
  have hbW : Bw W W1 := by rw [hW1]; exact hb1.alloc hb1.size _
  have HY : Hid (Bw w W1 ∧ W1.heap[w.heap.size]? = some (.cells #[.bool s1, .slice ao1 n1 cap1, .int .i64 ex1] 45 (0, 0)) ∧ W1.heap[w.heap.size + 1]? = some (.cells #[.bool s2, .slice ao2 n2 cap2, .int .i64 ex2] 45 (0, 0)) ∧ W1.heap[w.heap.size + 1 + 1]? = some (.cells #[.bool false, .slice none 0 0, .int .i64 0] 45 (0, 0)) ∧ PN W1 (.agg #[.bool s1, .slice ao1 n1 cap1, .int .i64 ex1]) ta ∧ PN W1 (.agg #[.bool s2, .slice ao2 n2 cap2, .int .i64 ex2]) tb ∧ W1.heap[w1.heap.size]? = some (.cells #[.bool s3, .slice ao3 n3 cap3, .int .i64 ex3] 45 (0, 0)) ∧ PN W1 (.agg #[.bool s3, .slice ao3 n3 cap3, .int .i64 ex3]) tq) :=
    ⟨HX.out.1.trans (hbW.mono HX.out.1.size), box_later HX.out.2.1 hbW (lt_of_box HX.out.2.1), box_later HX.out.2.2.1 hbW (lt_of_box HX.out.2.2.1), box_later HX.out.2.2.2.1 hbW (lt_of_box HX.out.2.2.2.1), HX.out.2.2.2.2.1.later (HX.out.1.trans (hbW.mono HX.out.1.size)), HX.out.2.2.2.2.2.later (HX.out.1.trans (hbW.mono HX.out.1.size)), by rw [hW1]; exact heap_alloc_new _ _, by rw [hW1]; exact hP3.later ((Below.refl _ _).alloc (Nat.le_refl _) _)⟩
  clear hbW hP3 hb1
  go_upto_region 2 with fail
  rw [← hW1]
  clear hW1 HX
  generalize w1.heap.size = g3 at *
  have HK : Hid (∀ w', Bw W1 w' → ((w'.cell? ⟨w.heap.size, 0, none⟩ = some (.bool s1) ∧ w'.cell? ⟨w.heap.size, 1, none⟩ = some (.slice ao1 n1 cap1) ∧ w'.cell? ⟨w.heap.size, 2, none⟩ = some (.int .i64 ex1)) ∧ (w'.cell? ⟨w.heap.size + 1, 0, none⟩ = some (.bool s2) ∧ w'.cell? ⟨w.heap.size + 1, 1, none⟩ = some (.slice ao2 n2 cap2) ∧ w'.cell? ⟨w.heap.size + 1, 2, none⟩ = some (.int .i64 ex2)) ∧ (w'.cell? ⟨g3, 0, none⟩ = some (.bool s3) ∧ w'.cell? ⟨g3, 1, none⟩ = some (.slice ao3 n3 cap3) ∧ w'.cell? ⟨g3, 2, none⟩ = some (.int .i64 ex3))) ∧ Bw W1 w') := fun w' hb => ⟨⟨(box_cells (box_later HY.out.2.1 hb (lt_of_box HY.out.2.1))).1, (box_cells (box_later HY.out.2.2.1 hb (lt_of_box HY.out.2.2.1))).1, (box_cells (box_later HY.out.2.2.2.2.2.2.1 hb (lt_of_box HY.out.2.2.2.2.2.2.1))).1⟩, hb⟩
  have hBR : Bw W1 W1.drew := (Below.refl _ _).drew
  have km : ∀ w4, Bw W1 w4 → Calls Tryz.prog 54 #[.agg #[.bool s3, .slice ao3 n3 cap3, .int .i64 ex3], .agg #[.bool s2, .slice ao2 n2 cap2, .int .i64 ex2]] w4 fun r w' => ∃ s ao n cap e, r = .returned (.agg #[.bool s, .slice ao n cap, .int .i64 e]) ∧ PN w' (.agg #[.bool s, .slice ao n cap, .int .i64 e]) tm ∧ Bw W1 w' ∧ Hid (∀ g o, w4.heap[g]? = some o → w'.heap[g]? = some o) := fun w4 hb =>
    (HM.out w4 _ _ (HY.out.1.trans (hb.mono HY.out.1.size)) (HY.out.2.2.2.2.2.2.2.later hb) (HY.out.2.2.2.2.2.1.later hb)).mono fun r w' ⟨s, ao, n, cap, e, e1, o1, o2⟩ => ⟨s, ao, n, cap, e, e1, o1, hb.trans (o2.mono hb.size), fun g o hg => box_later hg o2 (lt_of_box hg)⟩
  have kt : ∀ w4 Y, Bw W1 w4 → PN w4 Y tm → Calls Tryz.prog 116 #[.agg #[.bool s1, .slice ao1 n1 cap1, .int .i64 ex1], Y] w4 fun r w' => ∃ s ao n cap e, r = .returned (.agg #[.bool s, .slice ao n cap, .int .i64 e]) ∧ PN w' (.agg #[.bool s, .slice ao n cap, .int .i64 e]) tr ∧ Bw W1 w' ∧ Hid (∀ g o, w4.heap[g]? = some o → w'.heap[g]? = some o) := fun w4 Y hb h2 =>
    (HT1.out w4 _ _ (HY.out.1.trans (hb.mono HY.out.1.size)) (HY.out.2.2.2.2.1.later hb) h2).mono fun r w' ⟨s, ao, n, cap, e, e1, o1, o2⟩ => ⟨s, ao, n, cap, e, e1, o1, hb.trans (o2.mono hb.size), fun g o hg => box_later hg o2 (lt_of_box hg)⟩
  obtain ⟨⟨⟨a0, a1, a2⟩, ⟨b0, b1, b2⟩, ⟨c0, c1, c2⟩⟩, -⟩ := HK.out W1 (Below.refl _ _)
  go_cut [8] from 18 to 22 (fun p wx => ∃ g s ao n cap ex, p = .pointer (some ⟨g, 0, none⟩) ∧ Hid (BxP W1 wx g s ao n cap ex tr))
  case first =>
    go_region_held3 (fun w' => ((w'.cell? ⟨w.heap.size, 0, none⟩ = some (.bool s1) ∧ w'.cell? ⟨w.heap.size, 1, none⟩ = some (.slice ao1 n1 cap1) ∧ w'.cell? ⟨w.heap.size, 2, none⟩ = some (.int .i64 ex1)) ∧ (w'.cell? ⟨w.heap.size + 1, 0, none⟩ = some (.bool s2) ∧ w'.cell? ⟨w.heap.size + 1, 1, none⟩ = some (.slice ao2 n2 cap2) ∧ w'.cell? ⟨w.heap.size + 1, 2, none⟩ = some (.int .i64 ex2)) ∧ (w'.cell? ⟨g3, 0, none⟩ = some (.bool s3) ∧ w'.cell? ⟨g3, 1, none⟩ = some (.slice ao3 n3 cap3) ∧ w'.cell? ⟨g3, 2, none⟩ = some (.int .i64 ex3))) ∧ Bw W1 w') (first | (with_reducible assumption) | exact ⟨⟨⟨a0, a1, a2⟩, ⟨b0, b1, b2⟩, ⟨c0, c1, c2⟩⟩, hBR⟩ | (refine HK.out _ ?_; with_reducible assumption) | (refine HK.out _ ?_; refine Below.alloc (by with_reducible assumption) (Below.size (by with_reducible assumption)) _) | (refine HK.out _ (below_store3 (by first | (with_reducible assumption) | exact hb7.alloc hb7.size _) (by first | exact Nat.le_refl _ | exact hb5.size | exact hb7.size) _ _ _)) | go_keep)
      (first | (go_at_call 54; refine (km _ (by first | (with_reducible assumption) | exact hBR.alloc hBR.size _)).mono ?_; rintro r w5 ⟨s5, ao5, n5, cap5, ex5, rfl, ho5, hb5, hk5⟩; first | (have HBY : Hid (w5.heap[W1.heap.size]? = some (.cells #[.bool false, .slice none 0 0, .int .i64 0] 45 (0, 0))) := hk5.out _ _ (heap_alloc_new W1.drew _)) | (have HBY : Hid True := trivial))
             | (go_at_call 116; refine (kt _ _ (by first | (with_reducible assumption) | exact hb5.alloc hb5.size _) (by first | (with_reducible assumption) | exact ho5.later ((Below.refl _ _).alloc (Nat.le_refl _) _))).mono ?_; rintro r w7 ⟨s7, ao7, n7, cap7, ex7, rfl, hn7, hb7, hk7⟩; first | (have HBZ := hidOf (hk7.out _ _ HBY.out); obtain ⟨⟨x1, x2, x3⟩, x4, x5, x6⟩ := box_cells HBZ.out) | (have HBZ : Hid (w7.heap[w5.heap.size]? = some (.cells #[.bool false, .slice none 0 0, .int .i64 0] 45 (0, 0))) := hk7.out _ _ (heap_alloc_new w5 _); obtain ⟨⟨x1, x2, x3⟩, x4, x5, x6⟩ := box_cells HBZ.out) | (have HBZ : Hid True := trivial)))
    all_goals go_wp2_with fail
    all_goals go_meet
    all_goals first
      | exact ⟨_, _, _, _, _, _, rfl, BxP.new hn7 hb7⟩
      | exact ⟨_, _, _, _, _, _, rfl, BxP.put hn7 hb7 hb5.size HBZ.out⟩
      | exact ⟨_, _, _, _, _, _, rfl, BxP.put hn7 hb7 (Nat.le_refl _) HBZ.out⟩
  case rest =>
    obtain ⟨W2, rfl⟩ : ∃ W2 : World, W2 = wc := ⟨_, rfl⟩
    obtain ⟨g4, s4, ao4, n4, cap4, ex4, rfl, HR⟩ := hcut
    clear km kt HK hBR a0 a1 a2 b0 b1 b2 c0 c1 c2
    have HS : Hid (Bw w W2 ∧ W2.heap[w.heap.size + 1]? = some (.cells #[.bool s2, .slice ao2 n2 cap2, .int .i64 ex2] 45 (0, 0)) ∧ W2.heap[w.heap.size + 1 + 1]? = some (.cells #[.bool false, .slice none 0 0, .int .i64 0] 45 (0, 0)) ∧ PN W2 (.agg #[.bool s2, .slice ao2 n2 cap2, .int .i64 ex2]) tb ∧ W2.heap[g4]? = some (.cells #[.bool s4, .slice ao4 n4 cap4, .int .i64 ex4] 45 (0, 0)) ∧ PN W2 (.agg #[.bool s4, .slice ao4 n4 cap4, .int .i64 ex4]) tr) :=
      ⟨HY.out.1.trans (HR.out.2.2.1.mono HY.out.1.size), box_later HY.out.2.2.1 HR.out.2.2.1 (lt_of_box HY.out.2.2.1), box_later HY.out.2.2.2.1 HR.out.2.2.1 (lt_of_box HY.out.2.2.2.1), HY.out.2.2.2.2.2.1.later HR.out.2.2.1, HR.out.1, HR.out.2.2.2⟩
    clear HY HR
    obtain ⟨⟨b0, b1, b2⟩, -⟩ := box_cells HS.out.2.1
    obtain ⟨⟨d0, d1, d2⟩, -⟩ := box_cells HS.out.2.2.2.2.1
    have k3 := HT2.out W2 _ _ HS.out.1 HS.out.2.2.2.2.2 HS.out.2.2.2.1
    go_wp2_with fail
    refine k3.mono ?_
    rintro r w3 ⟨s5, ao5, n5, cap5, ex5, rfl, hP5, hb3⟩
    clear k3 b0 b1 b2 d0 d1 d2
    obtain ⟨W3, hW3⟩ : ∃ W3, W3 = w3.alloc (.cells #[.bool s5, .slice ao5 n5 cap5, .int .i64 ex5] 45) := ⟨_, rfl⟩
    have hbW : Bw W2 W3 := by rw [hW3]; exact hb3.alloc hb3.size _
    have HV : Hid (Bw w W3 ∧ W3.heap[w.heap.size + 1 + 1]? = some (.cells #[.bool false, .slice none 0 0, .int .i64 0] 45 (0, 0)) ∧ W3.heap[g4]? = some (.cells #[.bool s4, .slice ao4 n4 cap4, .int .i64 ex4] 45 (0, 0)) ∧ PN W3 (.agg #[.bool s4, .slice ao4 n4 cap4, .int .i64 ex4]) tr ∧ W3.heap[w3.heap.size]? = some (.cells #[.bool s5, .slice ao5 n5 cap5, .int .i64 ex5] 45 (0, 0)) ∧ PN W3 (.agg #[.bool s5, .slice ao5 n5 cap5, .int .i64 ex5]) tn) :=
      ⟨HS.out.1.trans (hbW.mono HS.out.1.size), box_later HS.out.2.2.1 hbW (lt_of_box HS.out.2.2.1), box_later HS.out.2.2.2.2.1 hbW (lt_of_box HS.out.2.2.2.2.1), HS.out.2.2.2.2.2.later hbW, by rw [hW3]; exact heap_alloc_new _ _, by rw [hW3]; exact hP5.later ((Below.refl _ _).alloc (Nat.le_refl _) _)⟩
    clear hbW hP5 hb3
    go_upto_region 4 with fail
    rw [← hW3]
    clear hW3 HS
    generalize w3.heap.size = g5 at *
    have HK : Hid (∀ w', Bw W3 w' → ((w'.cell? ⟨g4, 0, none⟩ = some (.bool s4) ∧ w'.cell? ⟨g4, 1, none⟩ = some (.slice ao4 n4 cap4) ∧ w'.cell? ⟨g4, 2, none⟩ = some (.int .i64 ex4)) ∧ (w'.cell? ⟨g5, 0, none⟩ = some (.bool s5) ∧ w'.cell? ⟨g5, 1, none⟩ = some (.slice ao5 n5 cap5) ∧ w'.cell? ⟨g5, 2, none⟩ = some (.int .i64 ex5))) ∧ Bw W3 w') := fun w' hb => ⟨⟨(box_cells (box_later HV.out.2.2.1 hb (lt_of_box HV.out.2.2.1))).1, (box_cells (box_later HV.out.2.2.2.2.1 hb (lt_of_box HV.out.2.2.2.2.1))).1⟩, hb⟩
    have hBR : Bw W3 W3.drew := (Below.refl _ _).drew
    have ka1 : ∀ w4, Bw W3 w4 → Calls Tryz.prog 118 #[.agg #[.bool s4, .slice ao4 n4 cap4, .int .i64 ex4]] w4 fun r w' => ∃ s ao n cap e, r = .returned (.agg #[.bool s, .slice ao n cap, .int .i64 e]) ∧ PN w' (.agg #[.bool s, .slice ao n cap, .int .i64 e]) tra ∧ Bw W3 w' := fun w4 hb =>
      (HA1.out w4 _ (HV.out.1.trans (hb.mono HV.out.1.size)) (HV.out.2.2.2.1.later hb)).mono fun r w' ⟨s, ao, n, cap, e, e1, o1, o2⟩ => ⟨s, ao, n, cap, e, e1, o1, hb.trans (o2.mono hb.size)⟩
    have ka2 : ∀ w4, Bw W3 w4 → Calls Tryz.prog 118 #[.agg #[.bool s5, .slice ao5 n5 cap5, .int .i64 ex5]] w4 fun r w' => ∃ s ao n cap e, r = .returned (.agg #[.bool s, .slice ao n cap, .int .i64 e]) ∧ PN w' (.agg #[.bool s, .slice ao n cap, .int .i64 e]) tna ∧ Bw W3 w' ∧ Hid (Bw w4 w') := fun w4 hb =>
      (HA2.out w4 _ (HV.out.1.trans (hb.mono HV.out.1.size)) (HV.out.2.2.2.2.2.later hb)).mono fun r w' ⟨s, ao, n, cap, e, e1, o1, o2⟩ => ⟨s, ao, n, cap, e, e1, o1, hb.trans (o2.mono hb.size), o2⟩
    have kc : ∀ w4 X Y, Bw W3 w4 → PN w4 X tra → PN w4 Y tna → Calls Tryz.prog 117 #[X, Y] w4 fun r w' => r = .returned (.int .i64 c) ∧ Bw W3 w' := fun w4 X Y hb h1 h2 =>
      (HC.out w4 _ _ (HV.out.1.trans (hb.mono HV.out.1.size)) h1 h2).mono fun r w' ⟨e1, o2⟩ => ⟨e1, hb.trans (o2.mono hb.size)⟩
    obtain ⟨⟨⟨d0, d1, d2⟩, ⟨e0, e1, e2⟩⟩, -⟩ := HK.out W3 (Below.refl _ _)
    go_region_held3 (fun w' => ((w'.cell? ⟨g4, 0, none⟩ = some (.bool s4) ∧ w'.cell? ⟨g4, 1, none⟩ = some (.slice ao4 n4 cap4) ∧ w'.cell? ⟨g4, 2, none⟩ = some (.int .i64 ex4)) ∧ (w'.cell? ⟨g5, 0, none⟩ = some (.bool s5) ∧ w'.cell? ⟨g5, 1, none⟩ = some (.slice ao5 n5 cap5) ∧ w'.cell? ⟨g5, 2, none⟩ = some (.int .i64 ex5))) ∧ Bw W3 w') (first | (with_reducible assumption) | exact ⟨⟨⟨d0, d1, d2⟩, ⟨e0, e1, e2⟩⟩, hBR⟩ | (refine HK.out _ ?_; with_reducible assumption) | go_keep)
      (first | (go_at_call 118; first | (have hq := hP6; clear hq; refine (ka2 _ hb6).mono ?_; rintro r w7 ⟨s7, ao7, n7, cap7, ex7, rfl, hP7, hb7, hk7⟩) | (refine (ka1 _ hBR).mono ?_; rintro r w6 ⟨s6, ao6, n6, cap6, ex6, rfl, hP6, hb6⟩))
             | (go_at_call 117; refine (kc _ _ _ hb7 (hP6.later hk7.out) hP7).mono ?_; rintro r w8 ⟨rfl, hb8⟩))
    all_goals
      have HF : Hid (Bw w w8 ∧ w8.heap[w.heap.size + 1 + 1]? = some (.cells #[.bool false, .slice none 0 0, .int .i64 0] 45 (0, 0)) ∧ PN w8 (.agg #[.bool s5, .slice ao5 n5 cap5, .int .i64 ex5]) tn ∧ w8.heap[g5]? = some (.cells #[.bool s5, .slice ao5 n5 cap5, .int .i64 ex5] 45 (0, 0))) := ⟨HV.out.1.trans (hb8.mono HV.out.1.size), box_later HV.out.2.1 hb8 (lt_of_box HV.out.2.1), HV.out.2.2.2.2.2.later hb8, box_later HV.out.2.2.2.2.1 hb8 (lt_of_box HV.out.2.2.2.2.1)⟩
      clear hP6 hb6 hP7 hb7 hk7 hb8 ka1 ka2 kc HK hBR d0 d1 d2 e0 e1 e2
      obtain ⟨⟨e0, e1, e2⟩, -⟩ := box_cells HF.out.2.2.2
      obtain ⟨⟨z0, z1, z2⟩, z3, z4, z5⟩ := box_cells HF.out.2.1
      go_wp2_with fail
      refine bodyPost_ret (results_cell_row rfl _ _ (w.heap.size + 1 + 1) 45 #[.bool s5, .slice ao5 n5 cap5, .int .i64 ex5] (0, 0) _ rfl (store3 _ _ _ HF.out.2.1) Tryz.underlying45 rfl Tryz.info45) rfl ?_
      exact ⟨_, _, _, _, _, rfl, pn_store HF.out.2.2.1 HF.out.2.1 _ _ _, below_store3 HF.out.1 (by omega) _ _ _⟩
theorem psub_1 (a b X:Nat) (m:Int) (w:World) (hb:b<18446744073709551616) (k:Calls Tryz.prog 10 #[.float .f64 a,.float .f64 (ngt b),.int .i64 m] w fun r w'=>OutF2 w X r w') :
  Calls Tryz.prog 12 #[.float .f64 a,.float .f64 b,.int .i64 m] w fun r w'=>OutF2 w X r w':=by
 have hn:∀ w,(Op.unary UnOp.neg (.float .f64 b)).run Tryz.prog w=.ok (.float .f64 (ngt b)) w:=fun w=>by rw[←negF b hb];rfl
 go_enter Tryz.func12,Tryz.ntmps12
 go_wp2_with fail
 refine k.mono ?_
 rintro r w1 ⟨n,rfl,h1,h2⟩
 have HB:Hid (lk n X∧Bw w w1):=⟨h1,h2⟩
 clear k h1 h2
 go_wp2_with fail
 go_ret
 exact⟨_,rfl,HB.out.1,HB.out.2⟩
theorem dsub_1 (a b X:Nat) (m:Int) (w:World) (hb:b<18446744073709551616) (hn:isNaN b=true→X=9221120237041090560) (k:Calls Tryz.prog 11 #[.float .f64 a,.float .f64 (ngt b),.int .i64 m] w fun r w'=>OutD w X r w') :
  Calls Tryz.prog 13 #[.float .f64 a,.float .f64 b,.int .i64 m] w fun r w'=>OutD w X r w':=by
 have kn:=Ie.dnan b hb w
 have kt:=Ie.dturned b hb w
 have HN:Hid (isNaN b=true→X=9221120237041090560):=hn
 clear hb hn
 cases h:isNaN b
 ·rw[h] at kn
  go_enter Tryz.func13,Tryz.ntmps13
  go_wp2_with fail
  refine kn.mono ?_
  rintro r w' ⟨rfl,hw⟩
  rw[hw]
  clear hw kn w'
  go_wp2_with fail
  refine kt.mono ?_
  rintro r w' ⟨rfl,hw⟩
  rw[hw]
  clear hw kt w'
  go_wp2_with fail
  refine k.mono ?_
  rintro r w1 ⟨rfl,h2⟩
  have HB:Hid (Bw w w1):=h2
  clear k h2
  go_wp2_with fail
  go_ret
  exact⟨rfl,HB.out⟩
 ·rw[h] at kn
  have kN:=Ie.dnot w
  go_enter Tryz.func13,Tryz.ntmps13
  go_wp2_with fail
  refine kn.mono ?_
  rintro r w' ⟨rfl,hw⟩
  rw[hw]
  clear hw kn w'
  go_wp2_with fail
  refine kN.mono ?_
  rintro r w' ⟨rfl,hw⟩
  rw[hw]
  clear hw kN w'
  go_wp2_with fail
  go_ret
  rw[HN.out h]
  exact⟨rfl,Below.refl _ _⟩
theorem join_FSub (a b:Nat) (m:Int) (ha:a<18446744073709551616) (hb:b<18446744073709551616) :
  ∃ X,X<18446744073709551616 ∧
   (∀ W,Tab32 W→Ie.Tab W→Calls Tryz.prog 12 #[.float .f64 a,.float .f64 b,.int .i64 m] W fun r w'=>OutF2 W X r w') ∧
   (∀ W,Calls Tryz.prog 13 #[.float .f64 a,.float .f64 b,.int .i64 m] W fun r w'=>OutD W X r w'):=by
 obtain⟨X,h1,h2,h3,h4,-⟩:=join_FAdd a (ngt b) m ha (ngt_lt hb)
 have e:isNaN (ngt b)=isNaN b:=by unfold isNaN;rw[ngt_mag hb]
 refine⟨X,h1,fun W hT hI=>psub_1 a b X m W hb (h3 W hT hI),fun W=>dsub_1 a b X m W hb (fun h=>h2 (.inr (.inr (by rw[e];exact h)))) (h4 W)⟩
theorem lsame_ok {n X:Nat} (h:lk n X) (hX:X<18446744073709551616) (w:World):Calls Tryz.prog 9 #[.float .f64 n,.float .f64 X] w fun r w'=>r=.returned (.bool true)∧w'=w:=by
 have:=Ie.lsame n X h.1 hX w
 rw[h.2] at this
 exact this
theorem lawS_1 (a b X Y:Nat) (m v:Int) (w:World) (hX:X<18446744073709551616) (hY:Y<18446744073709551616)
  (k1:∀ W,Bw w W→Calls Tryz.prog 10 #[.float .f64 a,.float .f64 b,.int .i64 m] W fun r w'=>OutF2 W X r w')
  (k2:∀ W,Calls Tryz.prog 11 #[.float .f64 a,.float .f64 b,.int .i64 m] W fun r w'=>OutD W X r w')
  (k3:∀ W,Bw w W→Calls Tryz.prog 12 #[.float .f64 a,.float .f64 b,.int .i64 m] W fun r w'=>OutF2 W Y r w')
  (k4:∀ W,Calls Tryz.prog 13 #[.float .f64 a,.float .f64 b,.int .i64 m] W fun r w'=>OutD W Y r w')
  (k5:∀ W,Calls Tryz.prog 14 #[.int .i64 m] W fun r w'=>r=.returned (.int .i64 v)∧w'=W)
  (k6:∀ W,Calls Tryz.prog 15 #[.int .i64 m] W fun r w'=>r=.returned (.int .i64 v)∧w'=W)
  (k7:∀ W,Bw w W→Calls Tryz.prog 16 #[] W fun r w'=>r=.returned (.bool true)∧Bw W w') :
  Calls Tryz.prog 3 #[.float .f64 a,.float .f64 b,.int .i64 m] w fun r w'=>r=.returned (.bool true)∧Bw w w':=by
 have tv:(v==v)=true:=by simp
 have HXY:Hid (X<18446744073709551616∧Y<18446744073709551616):=⟨hX,hY⟩
 have H2:Hid _:=k2
 have H3:Hid _:=k3
 have H4:Hid _:=k4
 have H5:Hid _:=k5
 have H6:Hid _:=k6
 have H7:Hid _:=k7
 have kk:=k1 w (Below.refl _ _)
 clear hX hY k1 k2 k3 k4 k5 k6 k7
 go_enter Tryz.func3,Tryz.ntmps3
 go_wp2_with fail
 refine kk.mono ?_
 rintro r w1 ⟨n1,rfl,l1,hb1⟩
 have HB1:Hid (lk n1 X∧Bw w w1):=⟨l1,hb1⟩
 clear kk l1 hb1
 have kk:=H2.out w1
 go_wp2_with fail
 refine kk.mono ?_
 rintro r w2 ⟨rfl,hb2⟩
 have HB2:Hid (Bw w w2):=HB1.out.2.trans (hb2.mono HB1.out.2.size)
 clear kk hb2
 have kk:=lsame_ok HB1.out.1 HXY.out.1 w2
 go_wp2_with fail
 refine kk.mono ?_
 rintro r w' ⟨rfl,hw⟩
 rw[hw]
 clear hw kk w' HB1
 have kk:=H3.out w2 HB2.out
 go_wp2_with fail
 refine kk.mono ?_
 rintro r w3 ⟨n3,rfl,l3,hb3⟩
 have HB3:Hid (lk n3 Y∧Bw w w3):=⟨l3,HB2.out.trans (hb3.mono HB2.out.size)⟩
 clear kk l3 hb3
 have kk:=H4.out w3
 go_wp2_with fail
 refine kk.mono ?_
 rintro r w4 ⟨rfl,hb4⟩
 have HB4:Hid (Bw w w4):=HB3.out.2.trans (hb4.mono HB3.out.2.size)
 clear kk hb4
 have kk:=lsame_ok HB3.out.1 HXY.out.2 w4
 go_wp2_with fail
 refine kk.mono ?_
 rintro r w' ⟨rfl,hw⟩
 rw[hw]
 clear hw kk w' HB3
 have kk:=H5.out w4
 go_wp2_with fail
 refine kk.mono ?_
 rintro r w' ⟨rfl,hw⟩
 rw[hw]
 clear hw kk w'
 have kk:=H6.out w4
 go_wp2_with fail
 refine kk.mono ?_
 rintro r w' ⟨rfl,hw⟩
 rw[hw]
 clear hw kk w'
 have kk:=H7.out w4 HB4.out
 go_wp2_with fail
 refine kk.mono ?_
 rintro r w5 ⟨rfl,hb5⟩
 have HB5:Hid (Bw w w5):=HB4.out.trans (hb5.mono HB4.out.size)
 clear kk hb5
 go_wp2_with fail
 go_ret
 exact⟨rfl,HB5.out⟩
theorem pabs {t:Bool×Nat×Int} {A:Value} {w:World} (ok:Ok t) (h:PN w A t):Calls Tryz.prog 118 #[A] w fun r w'=>OutA w (false,t.2.1,t.2.2) r w':=by
 obtain⟨ao,cap,rfl,h1⟩:=h
 obtain⟨f1,-,-,-,-⟩:=ok.facts
 refine(abs_ok (ea:=t.2.2) h1 (by omega) ok).mono ?_
 rintro r w' ⟨v,rfl,ho,hb⟩
 obtain⟨ao',cap',rfl,h2,h3,h4⟩:=ho.is
 exact⟨_,_,_,_,_,rfl,⟨ao',cap',rfl,ao',cap',rfl,h2,h3,h4⟩,hb⟩
theorem pcmp {t1 t2:Bool×Nat×Int} {X Y:Value} {w:World} (o1:Ok t1) (o2:Ok t2) (h1:PN w X t1) (h2:PN w Y t2):Calls Tryz.prog 117 #[X,Y] w fun r w'=>r=.returned (.int .i64 (ordN t1.1 t1.2.1 t1.2.2 t2.1 t2.2.1 t2.2.2))∧Bw w w':=by
 obtain⟨ao,cap,rfl,i1⟩:=h1
 obtain⟨ao',cap',rfl,i2⟩:=h2
 obtain⟨f1,f2,f3,-,-⟩:=o1.facts
 obtain⟨g1,g2,g3,-,-⟩:=o2.facts
 exact cmp_ok i1 i2 (by omega) (by omega) (by omega) (by omega) o1 o2
theorem tF5:tF 4617315517961601024=(false,5,0):=by decide +kernel
theorem tF3:tF 4613937818241073152=(false,3,0):=by decide +kernel
theorem okT5:Ok (false,5,0):=by rw[←tF5];exact tF_ok _
theorem okT3:Ok (false,3,0):=by rw[←tF3];exact tF_ok _
theorem okT1:Ok (false,1,0):=(by decide +kernel:okN false (dlen 1) 1 0=true)
theorem okT1n:Ok (true,1,0):=(by decide +kernel:okN true (dlen 1) 1 0=true)
theorem okT2:Ok (false,1,1):=(by decide +kernel:okN false (dlen 1) 1 1=true)
theorem sure_least (s1 s2:Bool) (ao1 ao2:Option Addr) (n1 cap1 n2 cap2:Nat) (ex1 ex2:Int) (w:World) (hT:Tab32 w) (h1:PN w (.agg #[.bool s1,.slice ao1 n1 cap1,.int .i64 ex1]) (false,5,0)) (h2:PN w (.agg #[.bool s2,.slice ao2 n2 cap2,.int .i64 ex2]) (false,3,0)) :
  Calls Tryz.prog 72 #[.agg #[.bool s1,.slice ao1 n1 cap1,.int .i64 ex1],.agg #[.bool s2,.slice ao2 n2 cap2,.int .i64 ex2]] w fun r w'=>OutA w (true,1,0) r w':=by
 have m1:=mul_op okT1 okT3 (by decide +kernel)
 have u1:=sub_op okT5 okT3 (by decide +kernel)
 have u2:=sub_op okT2 okT3 (by decide +kernel)
 rw[show cn (!((false,(1:Nat),(0:Int)).1==(false,(3:Nat),(0:Int)).1)) ((false,(1:Nat),(0:Int)).2.1*(false,(3:Nat),(0:Int)).2.1) ((false,(1:Nat),(0:Int)).2.2+(false,(3:Nat),(0:Int)).2.2)=(false,3,0) by decide +kernel] at m1
 refine lrest_g s1 s2 ao1 ao2 n1 cap1 n2 cap2 ex1 ex2 1 (false,5,0) (false,3,0) (false,1,0) (false,3,0) (false,1,1) (true,1,0) (false,1,1) (false,1,0) w (by decide) h1 h2 (fun W h=>?_) (fun W X Y h p q=>multiplied_op m1 (hT.later h) p q) (fun W X Y h p q=>?_) (fun W X Y h p q=>?_) (fun W X h p=>pabs okT2 p) (fun W X h p=>pabs okT1n p) (fun W X Y h p q=>?_)
 ·obtain⟨ao,cap,e1,i1⟩:=h1.later h
  obtain⟨ao',cap',e2,i2⟩:=h2.later h
  rw[e1,e2]
  have k:=c44 (na:=false) (nb:=false) (ea:=0) (eb:=0) (place:=0) i1 i2 (hT.later h) (by decide) (by have:=okT5.facts;omega) (by have:=okT3.facts;omega) okT5 okT3 (by omega) (by omega) (by omega) 5 3 (by decide) (by decide)
  rw[show(if(false != false) && !(decide (5 % 3=0))then 5 / 3+1 else 5 / 3)=1 by decide] at k
  refine Calls.mono k ?_
  intro r w' hh
  obtain⟨s,a,n,c,e,q1,q2,q3⟩:=held3_pn hh (by decide +kernel)
  rw[show cn (false != false) 1 (-0)=(false,1,0) by decide +kernel] at q2
  exact⟨s,a,n,c,e,_,q1,q2,q3⟩
 ·have:=taken_op u1 (hT.later h) p q
  rw[show cn _ _ _=(false,1,1) by decide +kernel] at this
  exact this
 ·have:=taken_op u2 (hT.later h) p q
  rw[show cn _ _ _=(true,1,0) by decide +kernel] at this
  exact this
 ·have:=pcmp okT2 okT1 p q
  rw[show ordN _ _ _ _ _ _=1 by decide +kernel] at this
  exact this
theorem sure_rest (w:World) (hT:Tab32 w) (hI:Ie.Tab w):Calls Tryz.prog 29 #[.float .f64 4617315517961601024,.float .f64 4613937818241073152] w fun r w'=>r=.returned (.float .f64 13830554455654793216)∧Bw w w':=by
 have e1:(FloatKind.f64.format.order 4617315517961601024 4617315517961601024 != some Ordering.eq)=false:=by decide +kernel
 have e2:(FloatKind.f64.format.order 4613937818241073152 4613937818241073152 != some Ordering.eq)=false:=by decide +kernel
 have e3:(FloatKind.f64.format.order 4613937818241073152 0==some Ordering.eq)=false:=by decide +kernel
 have e4:(FloatKind.f64.format.order 13830554455654793216 0==some Ordering.eq)=false:=by decide +kernel
 have i1:=pinf_n 4617315517961601024 (by decide) (by decide) w
 have i2:=pinf_n 4613937818241073152 (by decide) (by decide) w
 have kA:=exact_ok 4617315517961601024 (by decide) (by decide) w hT hI
 rw[tF5] at kA
 have HKB:Hid (∀ W,Bw w W→Calls Tryz.prog 41 #[.float .f64 4613937818241073152] W fun r w'=>OutA W (false,3,0) r w'):=fun W h=>by
  have:=exact_ok 4613937818241073152 (by decide) (by decide) W (hT.later h) (Tab.later hI h)
  rw[tF3] at this
  exact this
 have HT:Hid (Tab32 w):=hT
 clear hT hI
 go_enter Tryz.func29,Tryz.ntmps29
 go_wp2_with fail
 refine i1.mono ?_
 rintro r w' ⟨rfl,hw⟩
 rw[hw]
 clear hw i1 w'
 go_wp2_with fail
 refine i2.mono ?_
 rintro r w' ⟨rfl,hw⟩
 rw[hw]
 clear hw i2 w'
 go_wp2_with fail
 refine kA.mono ?_
 rintro r w1 ⟨s1,ao1,n1,cap1,ex1,rfl,hP1,hb1⟩
 have k2:=HKB.out w1 hb1
 clear kA
 go_wp2_with fail
 refine k2.mono ?_
 rintro r w2 ⟨s2,ao2,n2,cap2,ex2,rfl,hP2,hb2⟩
 have HB2:Hid (Bw w w2):=hb1.trans (hb2.mono hb1.size)
 have k3:=sure_least _ _ _ _ _ _ _ _ _ _ w2 (HT.out.later HB2.out) (hP1.later hb2) hP2
 clear k2 hP1 hP2 hb1 hb2
 go_wp2_with fail
 refine k3.mono ?_
 rintro r w3 ⟨s3,ao3,n3,cap3,ex3,rfl,hP3,hb3⟩
 have HB3:Hid (Bw w w3):=HB2.out.trans (hb3.mono HB2.out.size)
 have k4:=prounded (m:=2) (HT.out.later HB3.out) okT1n hP3 (by omega)
 rw[show tfF (true,(1:Nat),(0:Int)).1 true (true,(1:Nat),(0:Int)).2.1 (true,(1:Nat),(0:Int)).2.2 2=13830554455654793216 by decide +kernel] at k4
 clear k3 hP3 hb3
 go_wp2_with fail
 refine k4.mono ?_
 rintro r w4 ⟨rfl,hb4⟩
 have HB4:Hid (Bw w w4):=HB3.out.trans (hb4.mono HB3.out.size)
 clear k4 hb4
 go_wp2_with fail
 go_ret
 exact⟨rfl,HB4.out⟩
theorem sure_add_ok (w:World) (hT:Tab32 w) (hI:Ie.Tab w):Calls Tryz.prog 10 #[.float .f64 4607182418800017408,.float .f64 4611686018427387904,.int .i64 2] w fun r w'=>r=.returned (.float .f64 4613937818241073152)∧Bw w w':=by
 obtain⟨a,ea⟩:∃ a,a=4607182418800017408:=⟨_,rfl⟩
 obtain⟨b,eb⟩:∃ b,b=4611686018427387904:=⟨_,rfl⟩
 have e:=sure_add
 rw[←ea,←eb] at e ⊢
 have ha:a<18446744073709551616:=by omega
 have hb:b<18446744073709551616:=by omega
 have hfa:mag a<9218868437227405312:=by rw[ea];decide
 have hfb:mag b<9218868437227405312:=by rw[eb];decide
 have hokR:=tS_okR (tF_fits a) (tF_fits b) (by omega) (by omega) (by omega)
 have hok:Ok (tS (tF a) (tF b)):=ok_cn hokR
 have hadd:=add_op (tF_ok a) (tF_ok b) hokR
 have h0:(tS (tF a) (tF b)).2.1≠0:=by rw[ea,eb];decide +kernel
 rw[if_neg h0] at e
 refine(padd_r a b _ 2 _ (tF a) (tF b) (tS (tF a) (tF b)) w (by decide) ha hb (pfin_y a ha hfa) (pfin_y b hb hfb) (exact_ok a ha hfa w hT hI) (fun W' h=>exact_ok b hb hfb W' (hT.later h) (Tab.later hI h)) (fun W' X Y h h1 h2=>added_op hadd (hT.later h) h1 h2) (fun W' X h=>psign hok h) (by rw[sgI_nought,decide_eq_false h0]) (fun W' X h h1=>prounded (hT.later h) hok h1 (by omega))).mono ?_
 rintro r w' ⟨rfl,hb'⟩
 exact⟨by rw[e],hb'⟩
theorem sure_ok (w:World) (hT:Tab32 w) (hI:Ie.Tab w):Calls Tryz.prog 16 #[] w fun r w'=>r=.returned (.bool true)∧Bw w w':=by
 have e1:(FloatKind.f64.format.order 4613937818241073152 4613937818241073152==some Ordering.eq)=true:=by decide +kernel
 have e2:(FloatKind.f64.format.order 4599676419421066582 4599676419421066581==some Ordering.gt)=true:=by decide +kernel
 have e3:(FloatKind.f64.format.order 4617315517961601024 4617315517961601024==some Ordering.eq)=true:=by decide +kernel
 have e4:(FloatKind.f64.format.order 4611686018427387904 4611686018427387904==some Ordering.eq)=true:=by decide +kernel
 have e5:(FloatKind.f64.format.order 13830554455654793216 13830554455654793216==some Ordering.eq)=true:=by decide +kernel
 have HT:Hid (∀ W,Bw w W→Tab32 W∧Ie.Tab W):=fun W h=>⟨hT.later h,Tab.later hI h⟩
 have kk:=sure_add_ok w hT hI
 clear hT hI
 go_enter Tryz.func16,Tryz.ntmps16
 go_wp2_with fail
 refine kk.mono ?_
 rintro r w1 ⟨rfl,hb1⟩
 have HB1:Hid (Bw w w1):=hb1
 clear kk hb1
 have kk:=pdiv_ok 4607182418800017408 4613937818241073152 3 w1 (by decide) (HT.out w1 HB1.out).1 (HT.out w1 HB1.out).2 (by decide) (by decide) (by decide) (by decide) (by decide) (by decide) (tF_ne (by decide)) (tF_ne (by decide))
 rw[sure_div3] at kk
 go_wp2_with fail
 refine kk.mono ?_
 rintro r w2 ⟨rfl,hb2⟩
 have HB2:Hid (Bw w w2):=HB1.out.trans (hb2.mono HB1.out.size)
 clear kk hb2
 have kk:=pdiv_ok 4607182418800017408 4613937818241073152 1 w2 (by decide) (HT.out w2 HB2.out).1 (HT.out w2 HB2.out).2 (by decide) (by decide) (by decide) (by decide) (by decide) (by decide) (tF_ne (by decide)) (tF_ne (by decide))
 rw[sure_div1] at kk
 go_wp2_with fail
 refine kk.mono ?_
 rintro r w3 ⟨rfl,hb3⟩
 have HB3:Hid (Bw w w3):=HB2.out.trans (hb3.mono HB2.out.size)
 clear kk hb3
 have kk:=sure_hyp w3 (HT.out w3 HB3.out).1 (HT.out w3 HB3.out).2
 go_wp2_with fail
 refine kk.mono ?_
 rintro r w4 ⟨rfl,hb4⟩
 have HB4:Hid (Bw w w4):=HB3.out.trans (hb4.mono HB3.out.size)
 clear kk hb4
 have kk:=pvalid 3 w4
 rw[show isM 3=true by decide] at kk
 go_wp2_with fail
 refine kk.mono ?_
 rintro r w' ⟨rfl,hw⟩
 rw[hw]
 clear hw kk w'
 have kk:=pvalid 0 w4
 rw[show isM 0=false by decide] at kk
 go_wp2_with fail
 refine kk.mono ?_
 rintro r w' ⟨rfl,hw⟩
 rw[hw]
 clear hw kk w'
 have kk:=sure_whole w4
 go_wp2_with fail
 refine kk.mono ?_
 rintro r w' ⟨rfl,hw⟩
 rw[hw]
 clear hw kk w'
 have kk:=sure_rest w4 (HT.out w4 HB4.out).1 (HT.out w4 HB4.out).2
 go_wp2_with fail
 refine kk.mono ?_
 rintro r w5 ⟨rfl,hb5⟩
 have HB5:Hid (Bw w w5):=HB4.out.trans (hb5.mono HB4.out.size)
 clear kk hb5
 go_wp2_with fail
 go_ret
 exact⟨rfl,HB5.out⟩
theorem roundSums_ok (a b:Nat) (m:Int) (w:World) (ha:a<18446744073709551616) (hb:b<18446744073709551616) (hT:Tab32 w) (hI:Ie.Tab w) :
  Calls Tryz.prog 3 #[.float .f64 a,.float .f64 b,.int .i64 m] w fun r w'=>r=.returned (.bool true)∧Bw w w':=by
 obtain⟨X,x1,-,x3,x4,-⟩:=join_FAdd a b m ha hb
 obtain⟨Y,y1,y3,y4⟩:=join_FSub a b m ha hb
 exact lawS_1 a b X Y m _ w x1 y1 (fun W h=>x3 W (hT.later h) (Tab.later hI h)) x4 (fun W h=>y3 W (hT.later h) (Tab.later hI h)) y4 (pvalid m) (dvalid m) (fun W h=>sure_ok W (hT.later h) (Tab.later hI h))
end Go.Proofs.YtokklnjoalkjaaaGreatDoor
