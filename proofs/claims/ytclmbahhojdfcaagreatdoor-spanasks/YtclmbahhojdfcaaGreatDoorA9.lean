/- Own work: contracts of the program's functions, part 9: SNE SNF SNG SNH. -/
import Derived.Test.YtclmbahhojdfcaaGreatDoorA8
import Derived.Test.YtclmbahhojdfcaaGreatDoorA7
import Derived.Test.YtclmbahhojdfcaaGreatDoorA6
import Derived.Laws.StructEq

set_option maxHeartbeats 16000000
set_option maxRecDepth 200000
set_option linter.unusedVariables false
set_option linter.unusedSimpArgs false
namespace Go.Proofs.YtclmbahhojdfcaaGreatDoor
open Go.RowKit Go.Fl64
attribute [local go_sem] run_store_flt
def OutN8 (W:World) (t:Bool×Nat×Int) (r:Ending) (w':World):Prop:=∃ s ao n cap e,r=.returned (.tuple #[.agg #[.bool s,.slice ao n cap,.int .i64 e],.int .i64 0])∧PN w' (.agg #[.bool s,.slice ao n cap,.int .i64 e]) t∧Bw W w'
def tSh (t:Bool×Nat×Int) (k:Int):Bool×Nat×Int:=if t.2.1=0 then(false,0,0) else(t.1,t.2.1,t.2.2+k)
theorem pshift {t:Bool×Nat×Int} {A:Value} {k0:Int} {w:World} (ok:Ok t) (h:PN w A t) (hk1:¬ k0 < -65536 - t.2.2) (hk2:¬ 65536 - t.2.2<k0) :
  Calls Tryz.prog 84 #[A,.int .i64 k0] w fun r w'=>OutN8 w (tSh t k0) r w':=by
 obtain⟨pa,pc,rfl,i1⟩:=h
 obtain⟨f1,f2,f3,f4,f5⟩:=ok.facts
 have km:∀ W g,Bw w W→W.heap[g]?=some (.cells #[.bool t.1,.slice pa (dlen t.2.1) pc,.int .i64 t.2.2] 85 (0,0))→Calls Tryz.prog 116 #[.slice (some ⟨g,0,none⟩) 1 1] W fun r w'=>r=.returned (.bool true)∧Bw W w':=fun W g hW hg=>by
  have:=maybe1 hg (i1.later hW) (by omega)
  rw[show okN t.1 (dlen t.2.1) t.2.1 t.2.2=true from ok] at this
  exact this
 unfold tSh
 by_cases h0:t.2.1=0
 ·rw[if_pos h0]
  have hd:dlen t.2.1=0:=by rw[h0,dlen_zero]
  rw[hd] at km ⊢
  refine(shift_1 t.1 pa pc t.2.2 k0 w km).mono ?_
  rintro r w' ⟨rfl,hb⟩
  exact⟨_,_,_,_,_,rfl,⟨none,0,by rw[dlen_zero],by rw[dlen_zero];exact is_nil _⟩,hb⟩
 ·rw[if_neg h0]
  refine(shift_3 t.1 pa (dlen t.2.1) pc t.2.2 k0 w t.2.1 i1 (by omega) (by omega) (by have:=dlen_pos h0;simp;omega) (by omega) (by omega) hk1 hk2 km).mono ?_
  rintro r w' ⟨v,rfl,ho,hb⟩
  obtain⟨ao,cap,rfl,h1,h2,h3⟩:=ho.is
  exact⟨_,_,_,_,_,rfl,⟨ao,cap,rfl,ao,cap,rfl,h1,h2,h3⟩,hb⟩
theorem shalf_1 (a b F:Nat) (t1 t2 t3 t4:Bool×Nat×Int) (w:World)
  (k1:∀ W,Bw w W→Calls Tryz.prog 82 #[.float .f64 a] W fun r w'=>OutN8 W t1 r w')
  (k2:∀ W,Bw w W→Calls Tryz.prog 82 #[.float .f64 b] W fun r w'=>OutN8 W t2 r w')
  (k3:∀ W X Y,Bw w W→PN W X t1→PN W Y t2→Calls Tryz.prog 83 #[X,Y] W fun r w'=>OutN8 W t3 r w')
  (k4:∀ W X,Bw w W→PN W X t3→Calls Tryz.prog 84 #[X,.int .i64 (-1)] W fun r w'=>OutN8 W t4 r w')
  (k5:∀ W X,Bw w W→PN W X t4→Calls Tryz.prog 85 #[X,.int .i64 2] W fun r w'=>r=.returned (.tuple #[.float .f64 F,.int .i64 0])∧Bw W w') :
  Calls Tryz.prog 57 #[.float .f64 a,.float .f64 b] w fun r w'=>r=.returned (.float .f64 F)∧Bw w w':=by
 have H2:Hid _:=k2
 have H3:Hid _:=k3
 have H4:Hid _:=k4
 have H5:Hid _:=k5
 have kk:=k1 w (Below.refl _ _)
 clear k1 k2 k3 k4 k5
 go_enter Tryz.func57,Tryz.ntmps57
 go_wp2_with fail
 refine kk.mono ?_
 rintro r w1 ⟨s1,ao1,n1,cap1,e1,rfl,hP1,hb1⟩
 clear kk
 obtain⟨W1,hW1⟩:∃ W1,W1=w1.alloc (.cells #[.bool s1,.slice ao1 n1 cap1,.int .i64 e1] 85):=⟨_,rfl⟩
 have hbW1:Bw w W1:=by rw[hW1];exact hb1.alloc hb1.size _
 have HP1:Hid (PN W1 (.agg #[.bool s1,.slice ao1 n1 cap1,.int .i64 e1]) t1):=by rw[hW1];exact hP1.later ((Below.refl _ _).alloc (Nat.le_refl _) _)
 have HH1:Hid (W1.heap[w1.heap.size]?=some (.cells #[.bool s1,.slice ao1 n1 cap1,.int .i64 e1] 85 (0,0))):=by rw[hW1];exact heap_alloc_new _ _
 have HB1:Hid (Bw w W1):=hbW1
 have kk:=H2.out W1 hbW1
 clear hP1 hb1 hbW1 H2
 go_wp2_with fail
 rw[←hW1]
 clear hW1
 generalize w1.heap.size=g1 at *
 refine kk.mono ?_
 rintro r w2 ⟨s2,ao2,n2,cap2,e2,rfl,hP2,hb2⟩
 clear kk
 obtain⟨W2,hW2⟩:∃ W2,W2=w2.alloc (.cells #[.bool s2,.slice ao2 n2 cap2,.int .i64 e2] 85):=⟨_,rfl⟩
 have hbW2:Bw W1 W2:=by rw[hW2];exact hb2.alloc hb2.size _
 have HP2:Hid (PN W2 (.agg #[.bool s2,.slice ao2 n2 cap2,.int .i64 e2]) t2):=by rw[hW2];exact hP2.later ((Below.refl _ _).alloc (Nat.le_refl _) _)
 have HH2:Hid (W2.heap[w2.heap.size]?=some (.cells #[.bool s2,.slice ao2 n2 cap2,.int .i64 e2] 85 (0,0))):=by rw[hW2];exact heap_alloc_new _ _
 have HB2:Hid (Bw w W2):=HB1.out.trans (hbW2.mono HB1.out.size)
 obtain⟨⟨a0,a1,a2⟩,-⟩:=box_cells (box_later HH1.out hbW2 (lt_of_box HH1.out))
 obtain⟨⟨b0,b1,b2⟩,-⟩:=box_cells HH2.out
 rw[hW2] at a0 a1 a2 b0 b1 b2
 have kk:=H3.out W2 _ _ HB2.out (HP1.out.later hbW2) HP2.out
 clear hP2 hb2 hbW2 H3 HB1 HP1 HH1
 go_wp2_with fail
 rw[←hW2]
 clear hW2 a0 a1 a2 b0 b1 b2
 generalize w2.heap.size=g2 at *
 refine kk.mono ?_
 rintro r w3 ⟨s3,ao3,n3,cap3,e3,rfl,hP3,hb3⟩
 clear kk
 obtain⟨W3,hW3⟩:∃ W3,W3=w3.alloc (.cells #[.bool s3,.slice ao3 n3 cap3,.int .i64 e3] 85):=⟨_,rfl⟩
 have hbW3:Bw W2 W3:=by rw[hW3];exact hb3.alloc hb3.size _
 have HP3:Hid (PN W3 (.agg #[.bool s3,.slice ao3 n3 cap3,.int .i64 e3]) t3):=by rw[hW3];exact hP3.later ((Below.refl _ _).alloc (Nat.le_refl _) _)
 have HH3:Hid (W3.heap[w3.heap.size]?=some (.cells #[.bool s3,.slice ao3 n3 cap3,.int .i64 e3] 85 (0,0))):=by rw[hW3];exact heap_alloc_new _ _
 have HB3:Hid (Bw w W3):=HB2.out.trans (hbW3.mono HB2.out.size)
 obtain⟨⟨b0,b1,b2⟩,-⟩:=box_cells HH3.out
 rw[hW3] at b0 b1 b2
 have kk:=H4.out W3 _ HB3.out HP3.out
 clear hP3 hb3 hbW3 H4 HB2 HP2 HH2
 go_wp2_with fail
 rw[←hW3]
 clear hW3 b0 b1 b2
 generalize w3.heap.size=g3 at *
 refine kk.mono ?_
 rintro r w4 ⟨s4,ao4,n4,cap4,e4,rfl,hP4,hb4⟩
 clear kk
 obtain⟨W4,hW4⟩:∃ W4,W4=w4.alloc (.cells #[.bool s4,.slice ao4 n4 cap4,.int .i64 e4] 85):=⟨_,rfl⟩
 have hbW4:Bw W3 W4:=by rw[hW4];exact hb4.alloc hb4.size _
 have HP4:Hid (PN W4 (.agg #[.bool s4,.slice ao4 n4 cap4,.int .i64 e4]) t4):=by rw[hW4];exact hP4.later ((Below.refl _ _).alloc (Nat.le_refl _) _)
 have HH4:Hid (W4.heap[w4.heap.size]?=some (.cells #[.bool s4,.slice ao4 n4 cap4,.int .i64 e4] 85 (0,0))):=by rw[hW4];exact heap_alloc_new _ _
 have HB4:Hid (Bw w W4):=HB3.out.trans (hbW4.mono HB3.out.size)
 obtain⟨⟨b0,b1,b2⟩,-⟩:=box_cells HH4.out
 rw[hW4] at b0 b1 b2
 have kk:=H5.out W4 _ HB4.out HP4.out
 clear hP4 hb4 hbW4 H5 HB3 HP3 HH3
 go_wp2_with fail
 rw[←hW4]
 clear hW4 b0 b1 b2
 generalize w4.heap.size=g4 at *
 refine kk.mono ?_
 rintro r w5 ⟨rfl,hb5⟩
 have HB5:Hid (Bw w w5):=HB4.out.trans (hb5.mono HB4.out.size)
 clear kk hb5 HB4 HP4 HH4
 go_wp2_with fail
 go_ret
 exact⟨rfl,HB5.out⟩
def hfS (a b:Nat):Nat:=tfF (tSh (tS (tF a) (tF b)) (-1)).1 true (tSh (tS (tF a) (tF b)) (-1)).2.1 (tSh (tS (tF a) (tF b)) (-1)).2.2 2
theorem tSh_ok {t:Bool×Nat×Int} {k:Int} (ok:Ok t) (h:t.2.1≠0 → -65536≤t.2.2+k∧t.2.2+k≤65536):Ok (tSh t k):=by
 unfold tSh
 by_cases h0:t.2.1=0
 ·rw[if_pos h0];unfold Ok;rw[dlen_zero];rfl
 ·rw[if_neg h0]
  obtain⟨h1,h2⟩:=h h0
  unfold Ok okN at ok ⊢
  have hd:dlen t.2.1≠0:=by rw[dlen_pos h0];omega
  rw[if_neg hd] at ok
  rw[if_neg hd]
  simp only[Bool.and_eq_true,decide_eq_true_eq] at ok ⊢
  exact⟨⟨ok.1.1,h1⟩,h2⟩
theorem ofN (a:Nat) (ha:a<18446744073709551616) (hf:mag a<9218868437227405312) (w:World) (hT:Tab32 w) (hJ:Ie.Tab w):Calls Tryz.prog 82 #[.float .f64 a] w fun r w'=>OutN8 w (tF a) r w':=by
 obtain⟨m,hm,hml⟩:=sM_lt a ha
 refine(of_fin a m ha w hT hJ hf hm).mono ?_
 rintro r w' ⟨A,rfl,hN,hb⟩
 have hp:=hN.pn
 rw[cn_parts a m ha hf hm] at hp
 obtain⟨s,ao,n,cap,e,rfl⟩:=hp.shape
 exact⟨s,ao,n,cap,e,rfl,hp,hb⟩
theorem hfS_facts (a b:Nat):Ok (tS (tF a) (tF b))∧Ok (tSh (tS (tF a) (tF b)) (-1))∧¬ (-1:Int) < -65536 - (tS (tF a) (tF b)).2.2∧¬ 65536 - (tS (tF a) (tF b)).2.2 < -1:=by
 have hfs:=tS_fits (tF_fits a) (tF_fits b)
 have hok:Ok (tS (tF a) (tF b)):=ok_cn (tS_okR (tF_fits a) (tF_fits b) (by omega) (by omega) (by omega))
 obtain⟨f1,f2,f3,f4,f5⟩:=hok.facts
 by_cases h0:(tS (tF a) (tF b)).2.1=0
 ·have e:=f4 h0
  refine⟨hok,tSh_ok hok (fun h=>absurd h0 h),?_,?_⟩ <;> rw[e] <;> decide
 ·rcases hfs with h|⟨h1,h2,-⟩
  ·exact absurd h h0
  ·exact⟨hok,tSh_ok hok (fun _=>⟨by omega,by omega⟩),by omega,by omega⟩
theorem shalf (a b:Nat) (ha:a<18446744073709551616) (hb:b<18446744073709551616) (hfa:mag a<9218868437227405312) (hfb:mag b<9218868437227405312) (w:World) (hT:Tab32 w) (hJ:Ie.Tab w) :
  Calls Tryz.prog 57 #[.float .f64 a,.float .f64 b] w fun r w'=>r=.returned (.float .f64 (hfS a b))∧Bw w w':=by
 obtain⟨o1,o2,o3,o4⟩:=hfS_facts a b
 have hokR:=tS_okR (tF_fits a) (tF_fits b) (by omega) (by omega) (by omega)
 exact shalf_1 a b _ (tF a) (tF b) (tS (tF a) (tF b)) (tSh (tS (tF a) (tF b)) (-1)) w (fun W h=>ofN a ha hfa W (hT.later h) (Tab.later hJ h)) (fun W h=>ofN b hb hfb W (hT.later h) (Tab.later hJ h))
  (fun W X Y h h1 h2=>add_op (tF_ok a) (tF_ok b) hokR W X Y (hT.later h) h1 h2) (fun W X h h1=>pshift o1 h1 o3 o4) (fun W X h h1=>pround (hT.later h) o2 h1 (by omega))
theorem hfS_lt (a b:Nat):hfS a b<18446744073709551616:=tfF_lt (by omega)
def fAdM (a b:Nat) (m:Int):Nat:=if fin a=false∨fin b=false then addX a b else if(tS (tF a) (tF b)).2.1=0 then sig (z0 (neg a) (neg b) m) 0 else tfF (tS (tF a) (tF b)).1 true (tS (tF a) (tF b)).2.1 (tS (tF a) (tF b)).2.2 m
theorem faddM_p (a b:Nat) (m:Int) (hm':1≤m∧m≤3) (ha:a<18446744073709551616) (hb:b<18446744073709551616) :
  fAdM a b m<18446744073709551616∧((isNaN a=true∨isNaN b=true)→fAdM a b m=9221120237041090560) ∧
   (∀ W,Tab32 W→Ie.Tab W→Calls Tryz.prog 81 #[.float .f64 a,.float .f64 b,.int .i64 m] W fun r w'=>OutF2 W (fAdM a b m) r w'):=by
 have hm:isM m=true:=by unfold isM;rcases(show m=1∨m=2∨m=3 by omega)with rfl|rfl|rfl <;> rfl
 by_cases hf:fin a=false∨fin b=false
 ·have e:fAdM a b m=addX a b:=if_pos hf
  rw[e]
  refine⟨addX_lt ha hb,fun h=>?_,fun W _ _=>?_⟩
  ·unfold addX
   rcases h with h|h
   ·rw[h,Bool.true_or,if_pos rfl]
   ·rw[h,Bool.or_true,if_pos rfl]
  ·have hrun:(∀ W,(binOp .add 22 (.float .f64 a) (.float .f64 b)).run Tryz.prog W=.ok (.float .f64 (addX a b)) W)∨∀ W,∃ n,lk n (addX a b)∧(binOp .add 22 (.float .f64 a) (.float .f64 b)).run Tryz.prog W=.ok (.float .f64 n) W.drew:=by
    rcases add_non ha hb hf with ⟨h1,h2⟩|h1
    ·refine .inr fun W=>?_
     obtain⟨n,n1,n2,hs⟩:=run_nan (P:=Tryz.prog) W .add 22 a b (by simp) h1
     exact⟨n,lk.nan n1 n2 h2,hs⟩
    ·exact .inl fun W=>run_float_arith W .add 22 .f64 a b _ h1
   by_cases hfa:mag a<9218868437227405312
   ·have hfb:¬ mag b<9218868437227405312:=by
     rcases hf with h|h
     ·exact absurd hfa (fin_false.1 h)
     ·exact fin_false.1 h
    exact padd_b a b (addX a b) m W hm (pfin_y a ha hfa) (pfin_n b hb hfb) hrun (addX_lt ha hb)
   ·exact padd_a a b (addX a b) m W hm (pfin_n a ha hfa) hrun (addX_lt ha hb)
 ·have hfa:mag a<9218868437227405312:=Nat.lt_of_not_le fun h=>hf (.inl (fin_false.2 (by omega)))
  have hfb:mag b<9218868437227405312:=Nat.lt_of_not_le fun h=>hf (.inr (fin_false.2 (by omega)))
  have hfs:=tS_fits (tF_fits a) (tF_fits b)
  have hokR:=tS_okR (tF_fits a) (tF_fits b) (by omega) (by omega) (by omega)
  have hok:Ok (tS (tF a) (tF b)):=ok_cn hokR
  obtain⟨f1,f2,f3,f4,f5⟩:=hok.facts
  have hadd:=add_op (tF_ok a) (tF_ok b) hokR
  have e:fAdM a b m=if(tS (tF a) (tF b)).2.1=0 then sig (z0 (neg a) (neg b) m) 0 else tfF (tS (tF a) (tF b)).1 true (tS (tF a) (tF b)).2.1 (tS (tF a) (tF b)).2.2 m:=if_neg hf
  rw[e]
  refine⟨?_,fun h=>(by unfold isNaN at h;simp only[decide_eq_true_eq] at h;rcases h with h|h;omega;omega),fun W hT hI=>?_⟩
  ·split
   ·exact sig_lt (by omega)
   ·exact tfF_lt hm'
  ·by_cases h0:(tS (tF a) (tF b)).2.1=0
   ·rw[if_pos h0]
    refine(padd_z a b _ m _ (tF a) (tF b) (tS (tF a) (tF b)) W hm ha hb (pfin_y a ha hfa) (pfin_y b hb hfb) (exact_ok a ha hfa W hT hI) (fun W' h=>exact_ok b hb hfb W' (hT.later h) (Tab.later hI h)) (fun W' X Y h h1 h2=>added_op hadd (hT.later h) h1 h2) (fun W' X h=>psign hok h) (by rw[sgI_nought,decide_eq_true h0]) (fun W'=>pnought _ _ m hm' W')).mono ?_
    rintro r w' ⟨rfl,hb'⟩
    exact⟨_,rfl,lk.refl (sig_lt (by omega)),hb'⟩
   ·rw[if_neg h0]
    refine(padd_r a b _ m _ (tF a) (tF b) (tS (tF a) (tF b)) W hm ha hb (pfin_y a ha hfa) (pfin_y b hb hfb) (exact_ok a ha hfa W hT hI) (fun W' h=>exact_ok b hb hfb W' (hT.later h) (Tab.later hI h)) (fun W' X Y h h1 h2=>added_op hadd (hT.later h) h1 h2) (fun W' X h=>psign hok h) (by rw[sgI_nought,decide_eq_false h0]) (fun W' X h h1=>prounded (hT.later h) hok h1 hm')).mono ?_
    rintro r w' ⟨rfl,hb'⟩
    exact⟨_,rfl,lk.refl (tfF_lt hm'),hb'⟩
theorem faddM (a b:Nat) (m:Int) (hm:1≤m∧m≤3) (ha:a<18446744073709551616) (hb:b<18446744073709551616) (W:World) (hT:Tab32 W) (hJ:Ie.Tab W):Calls Tryz.prog 81 #[.float .f64 a,.float .f64 b,.int .i64 m] W fun r w'=>OutF2 W (fAdM a b m) r w':=(faddM_p a b m hm ha hb).2.2 W hT hJ
theorem fsubM (a b:Nat) (m:Int) (hm:1≤m∧m≤3) (ha:a<18446744073709551616) (hb:b<18446744073709551616) (W:World) (hT:Tab32 W) (hJ:Ie.Tab W):Calls Tryz.prog 61 #[.float .f64 a,.float .f64 b,.int .i64 m] W fun r w'=>OutF2 W (fAdM a (ngt b) m) r w':=psub_1 a b _ m W hb (faddM a (ngt b) m hm ha (ngt_lt hb) W hT hJ)
attribute [local go_sem] run_store_flt
theorem flt_under:Tryz.prog.underlying 22=some (.float .f64):=by kernel_rfl
theorem run_equalIn_flt (k x y:Nat) (w:World):(Op.equalIn (k+1) 22 (.float .f64 x) (.float .f64 y)).run Tryz.prog w=.ok (FloatKind.f64.format.order x y==some Ordering.eq) w:=by
 simp[Op.equalIn,run_underlying flt_under,Op.floatEq]
theorem eqIv (a b c d:Nat) (w:World):(Op.equalIn 10000 24 (.agg #[.float .f64 a,.float .f64 b]) (.agg #[.float .f64 c,.float .f64 d])).run Tryz.prog w=.ok ((FloatKind.f64.format.order a c==some Ordering.eq)&&(FloatKind.f64.format.order b d==some Ordering.eq)) w:=by
 have hS:Tryz.prog.underlying 24=some (.struct (Tryz.prog.fieldsOf 24)):=by kernel_rfl
 have hp:Tryz.prog.stoodInHeld 24=false:=by kernel_rfl
 have h1:=fun k=>run_equalIn_flt k a c w
 have h2:=fun k=>run_equalIn_flt k b d w
 rw[show(10000:Nat)=9999+1 from rfl,run_equalIn_agg w 9999 24 _ _ hS hp]
 simp only[Program.fieldsOf,Tryz.underlying24]
 rw[show(9999:Nat)=9998+1 from rfl]
 generalize (FloatKind.f64.format.order a c==some Ordering.eq)=p at *
 generalize (FloatKind.f64.format.order b d==some Ordering.eq)=q at *
 go_simp
 cases p <;> cases q <;> simp
def midV (v q i j:Bool) (H:Nat):Value:=if v then(if q then .tuple #[.float .f64 0,.int .i64 0] else if i then .tuple #[.float .f64 18442240474082181119,.int .i64 0] else if j then .tuple #[.float .f64 9218868437227405311,.int .i64 0] else .tuple #[.float .f64 H,.int .i64 0])else .tuple #[.float .f64 0,.int .i64 1]
theorem smid_1 (lo hi H:Nat) (v q i j:Bool) (w:World)
  (k1:∀ W,Calls Tryz.prog 9 #[.agg #[.float .f64 lo,.float .f64 hi]] W fun r w'=>r=.returned (.bool v)∧Bw W w')
  (he:∀ W,(Op.equalIn 10000 24 (.agg #[.float .f64 lo,.float .f64 hi]) (.agg #[.float .f64 18442240474082181120,.float .f64 9218868437227405312])).run Tryz.prog W=.ok q W)
  (k3:∀ W,Calls Tryz.prog 38 #[.float .f64 lo,.int .i64 0] W fun r w'=>r=.returned (.bool i)∧w'=W)
  (k4:∀ W,Calls Tryz.prog 38 #[.float .f64 hi,.int .i64 0] W fun r w'=>r=.returned (.bool j)∧w'=W)
  (k5:v=true→i=false→j=false→∀ W,Bw w W→Calls Tryz.prog 57 #[.float .f64 lo,.float .f64 hi] W fun r w'=>r=.returned (.float .f64 H)∧Bw W w') :
  Calls Tryz.prog 31 #[.agg #[.float .f64 lo,.float .f64 hi]] w fun r w'=>r=.returned (midV v q i j H)∧Bw w w':=by
 have HE:Hid (∀ W,(Op.equalIn 10000 24 (.agg #[.float .f64 lo,.float .f64 hi]) (.agg #[.float .f64 18442240474082181120,.float .f64 9218868437227405312])).run Tryz.prog W=.ok q W):=he
 have H3:Hid _:=k3
 have H4:Hid _:=k4
 have H5:Hid _:=k5
 obtain⟨W,hW⟩:∃ W,W=(w.alloc (.cells #[.float .f64 lo,.float .f64 hi] 24)):=⟨_,rfl⟩
 have HX:Hid (Bw w W∧IvB W (w.heap.size) lo hi):=by
  rw[hW]
  exact⟨bxs1_0 w lo hi,bxs1_1 w lo hi⟩
 have HK:Hid (∀ w',Bw W w'→IvF w' (w.heap.size) lo hi):=fun w' hb=>(HX.out.2).later hb
 obtain⟨c0,c1,z0,z1⟩:=HK.out W (Below.refl _ _)
 have kk:=k1 W
 have HV:Hid (Bw w W):=HX.out.1
 clear k1 k3 k4 k5 he
 go_enter Tryz.func31,Tryz.ntmps31
 go_upto_region 1 with fail
 rw[←hW]
 clear hW
 go_wp2_with fail
 refine kk.mono ?_
 rintro r w1 ⟨rfl,hb1⟩
 clear kk c0 c1 z0 z1
 obtain⟨c0,c1,z0,z1⟩:=HK.out w1 hb1
 have HB1:Hid (Bw W w1):=hb1
 clear hb1
 cases v
 ·have HB:Hid (Bw w w1):=HV.out.trans (HB1.out.mono HV.out.size)
  clear HK HX HB1 H3 H4 H5 HE
  go_wp2
  go_ret2
  exact⟨rfl,HB.out⟩
 have he:=HE.out
 have hR:Bw W w1.drew:=HB1.out.drew
 obtain⟨d0,d1,y0,y1⟩:=HK.out w1.drew hR
 go_upto_region 3 with fail
 go_region_held3 (fun w'=>w'.cell? ⟨w.heap.size,0,none⟩=some (.float .f64 lo)∧w'.cell? ⟨w.heap.size,1,none⟩=some (.float .f64 hi)) (first|(with_reducible assumption)|exact⟨d0,d1⟩|exact⟨c0,c1⟩|exact⟨(HK.out _ hb2).1,(HK.out _ hb2).2.1⟩|exact⟨(HK.out _ hb2.drew).1,(HK.out _ hb2.drew).2.1⟩|go_keep)
  (first|(go_at_call 12;refine(sall _).mono ?_;rintro r w2 ⟨rfl,hb2⟩;replace hb2:=hR.trans (hb2.mono hR.size)))
 obtain⟨u0,u1,u2,u3⟩:=HK.out w2 hb2
 have HB2:Hid (Bw w w2):=HV.out.trans (hb2.mono HV.out.size)
 have k3:=H3.out
 have k4:=H4.out
 clear c0 c1 z0 z1 d0 d1 y0 y1 hR HB1 HK HX HE H3 H4 HV hb2 he
 cases q
 case true =>
  go_wp2
  go_ret2
  exact⟨rfl,HB2.out⟩
 cases i
 case true =>
  go_wp2_with (first|(go_at_call 38;refine(k3 _).mono ?_;rintro r w' ⟨rfl,hw⟩;replace hw:=hw.symm;subst hw))
  go_ret2
  exact⟨rfl,HB2.out⟩
 cases j
 case true =>
  go_wp2_with (first|(go_at_call 38;first|(with_reducible refine(k3 _).mono ?_;rintro r w' ⟨rfl,hw⟩;replace hw:=hw.symm;subst hw)|(with_reducible refine(k4 _).mono ?_;rintro r w' ⟨rfl,hw⟩;replace hw:=hw.symm;subst hw)))
  go_ret2
  exact⟨rfl,HB2.out⟩
 have kk:=H5.out (by simp) (by simp) (by simp) w2 HB2.out
 go_wp2_with (first|(go_at_call 38;first|(with_reducible refine(k3 _).mono ?_;rintro r w' ⟨rfl,hw⟩;replace hw:=hw.symm;subst hw)|(with_reducible refine(k4 _).mono ?_;rintro r w' ⟨rfl,hw⟩;replace hw:=hw.symm;subst hw)))
 refine kk.mono ?_
 rintro r w3 ⟨rfl,hb3⟩
 have HB3:Hid (Bw w w3):=HB2.out.trans (hb3.mono HB2.out.size)
 clear kk hb3
 go_wp2_with fail
 go_ret2
 exact⟨rfl,HB3.out⟩
def radV (e:Int) (R:Nat):Value:=if e=0 then .tuple #[.float .f64 R,.int .i64 0] else .tuple #[.float .f64 0,.int .i64 e]
theorem srad_1 (lo hi M P Q R:Nat) (e:Int) (w:World)
  (k1:∀ W,Bw w W→Calls Tryz.prog 31 #[.agg #[.float .f64 lo,.float .f64 hi]] W fun r w'=>r=.returned (.tuple #[.float .f64 M,.int .i64 e])∧Bw W w')
  (k2:e=0→∀ W,Bw w W→Calls Tryz.prog 61 #[.float .f64 M,.float .f64 lo,.int .i64 3] W fun r w'=>r=.returned (.float .f64 P)∧Bw W w')
  (k3:e=0→∀ W,Bw w W→Calls Tryz.prog 61 #[.float .f64 hi,.float .f64 M,.int .i64 3] W fun r w'=>r=.returned (.float .f64 Q)∧Bw W w')
  (hm:e=0→∀ W ts t,(Builtin.max_ ts t #[.float .f64 P,.float .f64 Q]).run Tryz.prog W=.ok (.float .f64 R) W) :
  Calls Tryz.prog 33 #[.agg #[.float .f64 lo,.float .f64 hi]] w fun r w'=>r=.returned (radV e R)∧Bw w w':=by
 have H2:Hid _:=k2
 have H3:Hid _:=k3
 have HM:Hid (e=0→∀ W ts t,(Builtin.max_ ts t #[.float .f64 P,.float .f64 Q]).run Tryz.prog W=.ok (.float .f64 R) W):=hm
 obtain⟨W,hW⟩:∃ W,W=(w.alloc (.cells #[.float .f64 lo,.float .f64 hi] 24)):=⟨_,rfl⟩
 have HX:Hid (Bw w W∧IvB W (w.heap.size) lo hi):=by
  rw[hW]
  exact⟨bxs1_0 w lo hi,bxs1_1 w lo hi⟩
 have HK:Hid (∀ w',Bw W w'→IvF w' (w.heap.size) lo hi):=fun w' hb=>(HX.out.2).later hb
 obtain⟨c0,c1,z0,z1⟩:=HK.out W (Below.refl _ _)
 have HV:Hid (Bw w W):=HX.out.1
 have kk:=k1 W HV.out
 clear k1 k2 k3 hm
 go_enter Tryz.func33,Tryz.ntmps33
 go_upto_region 1 with fail
 rw[←hW]
 clear hW
 go_wp2_with fail
 refine kk.mono ?_
 rintro r w1 ⟨rfl,hb1⟩
 clear kk c0 c1 z0 z1
 obtain⟨c0,c1,z0,z1⟩:=HK.out w1 hb1
 have HB1:Hid (Bw W w1):=hb1
 have HB:Hid (Bw w w1):=HV.out.trans (hb1.mono HV.out.size)
 clear hb1
 by_cases he:e=0
 ·subst he
  have hm:=HM.out rfl
  have hR:Bw W w1.drew:=HB1.out.drew
  have q2:∀ W',Bw W W'→Calls Tryz.prog 61 #[.float .f64 M,.float .f64 lo,.int .i64 3] W' fun r w'=>r=.returned (.float .f64 P)∧Bw W w':=fun W' h=>(H2.out rfl W' (HV.out.trans (h.mono HV.out.size))).mono fun r w' ⟨e1,e2⟩=>⟨e1,h.trans (e2.mono h.size)⟩
  have q3:∀ W',Bw W W'→Calls Tryz.prog 61 #[.float .f64 hi,.float .f64 M,.int .i64 3] W' fun r w'=>r=.returned (.float .f64 Q)∧Bw W w':=fun W' h=>(H3.out rfl W' (HV.out.trans (h.mono HV.out.size))).mono fun r w' ⟨e1,e2⟩=>⟨e1,h.trans (e2.mono h.size)⟩
  obtain⟨d0,d1,y0,y1⟩:=HK.out w1.drew hR
  clear HM H2 H3
  go_upto_region 4 with fail
  go_region_held3 (fun w'=>w'.cell? ⟨w.heap.size,0,none⟩=some (.float .f64 lo)∧w'.cell? ⟨w.heap.size,1,none⟩=some (.float .f64 hi)) (first|(with_reducible assumption)|exact⟨d0,d1⟩|exact⟨c0,c1⟩|exact⟨(HK.out _ hb3).1,(HK.out _ hb3).2.1⟩|exact⟨(HK.out _ hb2).1,(HK.out _ hb2).2.1⟩|go_keep)
   (first|(go_at_call 61;with_reducible refine(q2 _ hR).mono ?_;rintro r w2 ⟨rfl,hb2⟩)|(go_at_call 61;with_reducible refine(q3 _ hb2).mono ?_;rintro r w3 ⟨rfl,hb3⟩))
  have HB3:Hid (Bw w w3):=HV.out.trans (hb3.mono HV.out.size)
  clear c0 c1 z0 z1 d0 d1 y0 y1 hR HB1 HK HX q2 q3 HV hb2 hb3
  go_wp2_with fail
  go_ret2
  exact⟨rfl,HB3.out⟩
 ·have hq:(e==0)=false:=by simp[he]
  have hq2:(e != 0)=true:=by simp[he]
  have HE:Hid (e≠0):=he
  clear HM H2 H3 HK HX HV HB1 he
  go_wp2
  go_ret2
  exact⟨by unfold radV;rw[if_neg HE.out];rfl,HB.out⟩
def iAll (lo hi:Nat):Bool:=eq lo 18442240474082181120&&eq hi 9218868437227405312
def iFar (a:Nat):Bool:=lt 9218868437227405311 (mag a)
theorem far_fin {a:Nat} (h:iFar a=false) (hn:isNaN a=false):mag a<9218868437227405312:=by
 have n':¬ 9218868437227405312<mag a:=of_decide_eq_false hn
 have hm:isNaN (mag a)=false:=by
  unfold isNaN
  rw[show mag (mag a)=mag a by unfold mag;omega]
  exact decide_eq_false n'
 have hs:stp (mag a)=(mag a:Int):=by
  unfold stp sgn neg
  rw[show mag (mag a)=mag a by unfold mag;omega,if_neg (by have:=mag_lt a;simp;omega)]
 unfold iFar lt at h
 rw[hm,hs,show isNaN 9218868437227405311=false by decide,show stp 9218868437227405311=9218868437227405311 by decide] at h
 simp only[Bool.not_false,Bool.true_and,decide_eq_false_iff_not] at h
 omega
theorem smid (lo hi:Nat) (h1:lo<18446744073709551616) (h2:hi<18446744073709551616) (w:World) (hT:Tab32 w) (hJ:Ie.Tab w) :
  Calls Tryz.prog 31 #[.agg #[.float .f64 lo,.float .f64 hi]] w fun r w'=>r=.returned (midV (vI lo hi) (iAll lo hi) (iFar lo) (iFar hi) (hfS lo hi))∧Bw w w':=by
 refine smid_1 lo hi _ _ _ _ _ w (fun W=>svalid lo hi h1 h2 W) (fun W=>?_) (fun W=>c123 lo h1 W) (fun W=>c123 hi h2 W) (fun hv hi' hj W h=>shalf lo hi h1 h2 (far_fin hi' (vI_nn hv).1) (far_fin hj (vI_nn hv).2) W (hT.later h) (Tab.later hJ h))
 rw[eqIv,ord_eq lo _ h1 (by omega),ord_eq hi _ h2 (by omega)]
 rfl
def mdF (lo hi:Nat):Nat:=if iAll lo hi then 0 else if iFar lo then 18442240474082181119 else if iFar hi then 9218868437227405311 else hfS lo hi
theorem mdF_lt (lo hi:Nat):mdF lo hi<18446744073709551616:=by
 unfold mdF
 split
 ·omega
 ·split
  ·omega
  ·split
   ·omega
   ·exact hfS_lt _ _
theorem midV_eq (v:Bool) (lo hi:Nat):midV v (iAll lo hi) (iFar lo) (iFar hi) (hfS lo hi)=.tuple #[.float .f64 (if v then mdF lo hi else 0),.int .i64 (if v then 0 else 1)]:=by
 unfold midV mdF
 cases v
 ·rfl
 ·cases iAll lo hi
  ·cases iFar lo
   ·cases iFar hi <;> rfl
   ·rfl
  ·rfl
def rdP (lo hi:Nat):Nat:=fAdM (mdF lo hi) (ngt lo) 3
def rdQ (lo hi:Nat):Nat:=fAdM hi (ngt (mdF lo hi)) 3
theorem srad (lo hi:Nat) (h1:lo<18446744073709551616) (h2:hi<18446744073709551616) (w:World) (hT:Tab32 w) (hJ:Ie.Tab w) (hP:vI lo hi=true→isNaN (rdP lo hi)=false) (hQ:vI lo hi=true→isNaN (rdQ lo hi)=false) :
  Calls Tryz.prog 33 #[.agg #[.float .f64 lo,.float .f64 hi]] w fun r w'=>r=.returned (radV (if vI lo hi then 0 else 1) (fMax (rdP lo hi) (rdQ lo hi)))∧Bw w w':=by
 have hv:(if vI lo hi=true then(0:Int)else 1)=0→vI lo hi=true:=by
  cases vI lo hi <;> simp
 have m3:(1:Int)≤3∧(3:Int)≤3:=by omega
 have hPl:rdP lo hi<18446744073709551616:=(faddM_p _ _ 3 m3 (mdF_lt lo hi) (ngt_lt h1)).1
 have hQl:rdQ lo hi<18446744073709551616:=(faddM_p _ _ 3 m3 h2 (ngt_lt (mdF_lt lo hi))).1
 refine srad_1 lo hi (if vI lo hi then mdF lo hi else 0) (rdP lo hi) (rdQ lo hi) _ _ w (fun W h=>?_) (fun he W h=>?_) (fun he W h=>?_) (fun he W ts t=>run_fmax W ts t _ _ hPl hQl (hP (hv he)) (hQ (hv he)))
 ·have:=smid lo hi h1 h2 W (hT.later h) (Tab.later hJ h)
  rw[midV_eq] at this
  exact this
 ·rw[if_pos (hv he)]
  refine(fsubM (mdF lo hi) lo 3 m3 (mdF_lt lo hi) h1 W (hT.later h) (Tab.later hJ h)).mono ?_
  rintro r w' ⟨n,rfl,hl,hb⟩
  rw[hl.eq (hP (hv he))]
  exact⟨rfl,hb⟩
 ·rw[if_pos (hv he)]
  refine(fsubM hi (mdF lo hi) 3 m3 h2 (mdF_lt lo hi) W (hT.later h) (Tab.later hJ h)).mono ?_
  rintro r w' ⟨n,rfl,hl,hb⟩
  rw[hl.eq (hQ (hv he))]
  exact⟨rfl,hb⟩
theorem rad_at:vI 4607182418800017408 4611686018427387904=true∧isNaN (rdP 4607182418800017408 4611686018427387904)=false∧isNaN (rdQ 4607182418800017408 4611686018427387904)=false∧fMax (rdP 4607182418800017408 4611686018427387904) (rdQ 4607182418800017408 4611686018427387904)=4602678819172646912:=by decide +kernel
attribute [local go_sem] run_store_flt
theorem works_1 (w : World)
    (k1 : ∀ W, Bw w W → Calls Tryz.prog 42 #[.agg #[.float .f64 13830554455654793216, .float .f64 4611686018427387904], .agg #[.float .f64 4613937818241073152, .float .f64 9218868437227405312]] W fun r w' => r = .returned (.tuple #[.agg #[.float .f64 18442240474082181120, .float .f64 9218868437227405312], .int .i64 0]) ∧ Bw W w')
    (k2 : ∀ W, Bw w W → Calls Tryz.prog 44 #[.agg #[.float .f64 4607182418800017408, .float .f64 4607182418800017408], .agg #[.float .f64 4613937818241073152, .float .f64 4613937818241073152]] W fun r w' => r = .returned (.tuple #[.agg #[.float .f64 4599676419421066581, .float .f64 4599676419421066582], .int .i64 0]) ∧ Bw W w')
    (k3 : ∀ W, Bw w W → Calls Tryz.prog 44 #[.agg #[.float .f64 4607182418800017408, .float .f64 4607182418800017408], .agg #[.float .f64 13830554455654793216, .float .f64 4607182418800017408]] W fun r w' => r = .returned (.tuple #[.agg #[.float .f64 0, .float .f64 0], .int .i64 6]) ∧ Bw W w')
    (k4 : ∀ W, Bw w W → Calls Tryz.prog 33 #[.agg #[.float .f64 4607182418800017408, .float .f64 4611686018427387904]] W fun r w' => r = .returned (.tuple #[.float .f64 4602678819172646912, .int .i64 0]) ∧ Bw W w')
    (k5 : ∀ W, Bw w W → Calls Tryz.prog 19 #[.agg #[.float .f64 4607182418800017408, .float .f64 4611686018427387904], .float .f64 4609434218613702656] W fun r w' => r = .returned (.bool true) ∧ Bw W w')
    (k6 : ∀ W, Bw w W → Calls Tryz.prog 19 #[.agg #[.float .f64 4607182418800017408, .float .f64 4611686018427387904], .float .f64 4613937818241073152] W fun r w' => r = .returned (.bool false) ∧ Bw W w') :
    Calls Tryz.prog 14 #[] w fun r w' => r = .returned (.bool true) ∧ Bw w w' := by
  have hh : (FloatKind.f64.format.order 4602678819172646912 4602678819172646912 == some Ordering.eq) = true := by decide
  have H1 : Hid _ := k1
  have H2 : Hid _ := k2
  have H3 : Hid _ := k3
  have H4 : Hid _ := k4
  have H5 : Hid _ := k5
  have H6 : Hid _ := k6
  have A0 : Hid (Bw w w) := Below.refl _ _
  clear k1 k2 k3 k4 k5 k6
  go_enter Tryz.func14, Tryz.ntmps14
  have kk := lof 13830554455654793216 4611686018427387904 w
  go_wp2_with fail
  refine kk.mono ?_
  rintro r w1 ⟨rfl, hb⟩
  have A1 : Hid (Bw w w1) := A0.out.trans (hb.mono A0.out.size)
  clear hb kk A0
  go_wp2_with fail
  refine (cinf_p w1).mono ?_
  rintro r w' ⟨rfl, hw⟩
  replace hw := hw.symm
  subst hw
  have kk := lof 4613937818241073152 9218868437227405312 w1
  go_wp2_with fail
  refine kk.mono ?_
  rintro r w2 ⟨rfl, hb⟩
  have A2 : Hid (Bw w w2) := A1.out.trans (hb.mono A1.out.size)
  clear hb kk A1
  have kk := H1.out w2 A2.out
  go_wp2_with fail
  refine kk.mono ?_
  rintro r w3 ⟨rfl, hb⟩
  have A3 : Hid (Bw w w3) := A2.out.trans (hb.mono A2.out.size)
  clear hb kk A2
  obtain ⟨V1, hV1⟩ : ∃ V, V = w3.alloc (.cells #[.float .f64 18442240474082181120, .float .f64 9218868437227405312] 24) := ⟨_, rfl⟩
  have AV1 : Hid (Bw w V1) := by rw [hV1]; exact A3.out.alloc A3.out.size _
  have XV1 : Hid (IvB V1 w3.heap.size 18442240474082181120 9218868437227405312) := by rw [hV1]; exact IvB.new _ _ _
  have BV1_V1 : Hid (Bw V1 V1) := Below.refl _ _
  clear A3
  have kk := lof 4607182418800017408 4607182418800017408 V1
  go_wp2_with fail
  rw [← hV1]
  clear hV1
  generalize hgV1 : w3.heap.size = gV1 at *
  clear hgV1
  refine kk.mono ?_
  rintro r w4 ⟨rfl, hb⟩
  have A4 : Hid (Bw w w4) := AV1.out.trans (hb.mono AV1.out.size)
  have BV1_4 : Hid (Bw V1 w4) := BV1_V1.out.trans (hb.mono BV1_V1.out.size)
  clear BV1_V1
  clear hb kk AV1
  have kk := lof 4613937818241073152 4613937818241073152 w4
  go_wp2_with fail
  refine kk.mono ?_
  rintro r w5 ⟨rfl, hb⟩
  have A5 : Hid (Bw w w5) := A4.out.trans (hb.mono A4.out.size)
  have BV1_5 : Hid (Bw V1 w5) := BV1_4.out.trans (hb.mono BV1_4.out.size)
  clear BV1_4
  clear hb kk A4
  have kk := H2.out w5 A5.out
  go_wp2_with fail
  refine kk.mono ?_
  rintro r w6 ⟨rfl, hb⟩
  have A6 : Hid (Bw w w6) := A5.out.trans (hb.mono A5.out.size)
  have BV1_6 : Hid (Bw V1 w6) := BV1_5.out.trans (hb.mono BV1_5.out.size)
  clear BV1_5
  clear hb kk A5
  obtain ⟨V2, hV2⟩ : ∃ V, V = w6.alloc (.cells #[.float .f64 4599676419421066581, .float .f64 4599676419421066582] 24) := ⟨_, rfl⟩
  have AV2 : Hid (Bw w V2) := by rw [hV2]; exact A6.out.alloc A6.out.size _
  have XV2 : Hid (IvB V2 w6.heap.size 4599676419421066581 4599676419421066582) := by rw [hV2]; exact IvB.new _ _ _
  have BV1_V2 : Hid (Bw V1 V2) := by rw [hV2]; exact BV1_6.out.alloc BV1_6.out.size _
  clear BV1_6
  have BV2_V2 : Hid (Bw V2 V2) := Below.refl _ _
  clear A6
  have kk := lof 4607182418800017408 4607182418800017408 V2
  go_wp2_with fail
  rw [← hV2]
  clear hV2
  generalize hgV2 : w6.heap.size = gV2 at *
  clear hgV2
  refine kk.mono ?_
  rintro r w7 ⟨rfl, hb⟩
  have A7 : Hid (Bw w w7) := AV2.out.trans (hb.mono AV2.out.size)
  have BV1_7 : Hid (Bw V1 w7) := BV1_V2.out.trans (hb.mono BV1_V2.out.size)
  clear BV1_V2
  have BV2_7 : Hid (Bw V2 w7) := BV2_V2.out.trans (hb.mono BV2_V2.out.size)
  clear BV2_V2
  clear hb kk AV2
  have kk := lof 13830554455654793216 4607182418800017408 w7
  go_wp2_with fail
  refine kk.mono ?_
  rintro r w8 ⟨rfl, hb⟩
  have A8 : Hid (Bw w w8) := A7.out.trans (hb.mono A7.out.size)
  have BV1_8 : Hid (Bw V1 w8) := BV1_7.out.trans (hb.mono BV1_7.out.size)
  clear BV1_7
  have BV2_8 : Hid (Bw V2 w8) := BV2_7.out.trans (hb.mono BV2_7.out.size)
  clear BV2_7
  clear hb kk A7
  have kk := H3.out w8 A8.out
  go_wp2_with fail
  refine kk.mono ?_
  rintro r w9 ⟨rfl, hb⟩
  have A9 : Hid (Bw w w9) := A8.out.trans (hb.mono A8.out.size)
  have BV1_9 : Hid (Bw V1 w9) := BV1_8.out.trans (hb.mono BV1_8.out.size)
  clear BV1_8
  have BV2_9 : Hid (Bw V2 w9) := BV2_8.out.trans (hb.mono BV2_8.out.size)
  clear BV2_8
  clear hb kk A8
  obtain ⟨V3, hV3⟩ : ∃ V, V = w9.alloc (.cells #[.float .f64 0, .float .f64 0] 24) := ⟨_, rfl⟩
  have AV3 : Hid (Bw w V3) := by rw [hV3]; exact A9.out.alloc A9.out.size _
  have XV3 : Hid (IvB V3 w9.heap.size 0 0) := by rw [hV3]; exact IvB.new _ _ _
  have BV1_V3 : Hid (Bw V1 V3) := by rw [hV3]; exact BV1_9.out.alloc BV1_9.out.size _
  clear BV1_9
  have BV2_V3 : Hid (Bw V2 V3) := by rw [hV3]; exact BV2_9.out.alloc BV2_9.out.size _
  clear BV2_9
  have BV3_V3 : Hid (Bw V3 V3) := Below.refl _ _
  clear A9
  have kk := lof 4607182418800017408 4611686018427387904 V3
  go_wp2_with fail
  rw [← hV3]
  clear hV3
  generalize hgV3 : w9.heap.size = gV3 at *
  clear hgV3
  refine kk.mono ?_
  rintro r w10 ⟨rfl, hb⟩
  have A10 : Hid (Bw w w10) := AV3.out.trans (hb.mono AV3.out.size)
  have BV1_10 : Hid (Bw V1 w10) := BV1_V3.out.trans (hb.mono BV1_V3.out.size)
  clear BV1_V3
  have BV2_10 : Hid (Bw V2 w10) := BV2_V3.out.trans (hb.mono BV2_V3.out.size)
  clear BV2_V3
  have BV3_10 : Hid (Bw V3 w10) := BV3_V3.out.trans (hb.mono BV3_V3.out.size)
  clear BV3_V3
  clear hb kk AV3
  have kk := H4.out w10 A10.out
  go_wp2_with fail
  refine kk.mono ?_
  rintro r w11 ⟨rfl, hb⟩
  have A11 : Hid (Bw w w11) := A10.out.trans (hb.mono A10.out.size)
  have BV1_11 : Hid (Bw V1 w11) := BV1_10.out.trans (hb.mono BV1_10.out.size)
  clear BV1_10
  have BV2_11 : Hid (Bw V2 w11) := BV2_10.out.trans (hb.mono BV2_10.out.size)
  clear BV2_10
  have BV3_11 : Hid (Bw V3 w11) := BV3_10.out.trans (hb.mono BV3_10.out.size)
  clear BV3_10
  clear hb kk A10
  have XM : Hid (IvB w11 gV1 18442240474082181120 9218868437227405312) := XV1.out.box BV1_11.out
  have XQ : Hid (IvB w11 gV2 4599676419421066581 4599676419421066582) := XV2.out.box BV2_11.out
  clear XV1 XV2 XV3 BV1_11 BV2_11 BV3_11
  have HK : Hid (∀ w', Bw w11 w' → ((w'.cell? ⟨gV1, 0, none⟩ = some (.float .f64 18442240474082181120) ∧ w'.cell? ⟨gV1, 1, none⟩ = some (.float .f64 9218868437227405312)) ∧ (w'.cell? ⟨gV2, 0, none⟩ = some (.float .f64 4599676419421066581) ∧ w'.cell? ⟨gV2, 1, none⟩ = some (.float .f64 4599676419421066582))) ∧ Bw w11 w') := fun w' hb => ⟨⟨⟨(XM.out.later hb).1, (XM.out.later hb).2.1⟩, (XQ.out.later hb).1, (XQ.out.later hb).2.1⟩, hb⟩
  have hBR : Bw w11 w11.drew := (Below.refl _ _).drew
  have q1 : ∀ W, Bw w11 W → Calls Tryz.prog 12 #[] W fun r w' => r = .returned (.agg #[.float .f64 18442240474082181120, .float .f64 9218868437227405312]) ∧ Bw w11 w' := fun W h => (sall W).mono fun r w' ⟨e1, e2⟩ => ⟨e1, h.trans (e2.mono h.size)⟩
  have q2 : ∀ W, Bw w11 W → Calls Tryz.prog 11 #[.agg #[.float .f64 18442240474082181120, .float .f64 9218868437227405312], .agg #[.float .f64 18442240474082181120, .float .f64 9218868437227405312]] W fun r w' => r = .returned (.bool true) ∧ Bw w11 w' := fun W h => (isame _ _ (by omega) (by omega) W).mono fun r w' ⟨e1, e2⟩ => ⟨e1, h.trans (e2.mono h.size)⟩
  have q3 : ∀ W, Bw w11 W → Calls Tryz.prog 11 #[.agg #[.float .f64 4599676419421066581, .float .f64 4599676419421066582], .agg #[.float .f64 4599676419421066581, .float .f64 4599676419421066582]] W fun r w' => r = .returned (.bool true) ∧ Bw w11 w' := fun W h => (isame _ _ (by omega) (by omega) W).mono fun r w' ⟨e1, e2⟩ => ⟨e1, h.trans (e2.mono h.size)⟩
  have q4 : ∀ a b W, Bw w11 W → Calls Tryz.prog 43 #[.float .f64 a, .float .f64 b] W fun r w' => r = .returned (.agg #[.float .f64 a, .float .f64 b]) ∧ Bw w11 w' := fun a b W h => (lof a b W).mono fun r w' ⟨e1, e2⟩ => ⟨e1, h.trans (e2.mono h.size)⟩
  have q5 : ∀ W, Bw w11 W → Calls Tryz.prog 19 #[.agg #[.float .f64 4607182418800017408, .float .f64 4611686018427387904], .float .f64 4609434218613702656] W fun r w' => r = .returned (.bool true) ∧ Bw w11 w' := fun W h => (H5.out W (A11.out.trans (h.mono A11.out.size))).mono fun r w' ⟨e1, e2⟩ => ⟨e1, h.trans (e2.mono h.size)⟩
  have q6 : ∀ W, Bw w11 W → Calls Tryz.prog 19 #[.agg #[.float .f64 4607182418800017408, .float .f64 4611686018427387904], .float .f64 4613937818241073152] W fun r w' => r = .returned (.bool false) ∧ Bw w11 w' := fun W h => (H6.out W (A11.out.trans (h.mono A11.out.size))).mono fun r w' ⟨e1, e2⟩ => ⟨e1, h.trans (e2.mono h.size)⟩
  clear H1 H2 H3 H4 H5 H6 XM XQ
  obtain ⟨⟨⟨a0, a1⟩, a2, a3⟩, -⟩ := HK.out w11 (Below.refl _ _)
  go_upto_region 5 with fail
  go_region_held3 (fun w' => ((w'.cell? ⟨gV1, 0, none⟩ = some (.float .f64 18442240474082181120) ∧ w'.cell? ⟨gV1, 1, none⟩ = some (.float .f64 9218868437227405312)) ∧ (w'.cell? ⟨gV2, 0, none⟩ = some (.float .f64 4599676419421066581) ∧ w'.cell? ⟨gV2, 1, none⟩ = some (.float .f64 4599676419421066582))) ∧ Bw w11 w') (first | (with_reducible assumption) | exact HK.out _ hBR | (refine HK.out _ ?_; with_reducible assumption) | go_keep)
    (first | (go_at_call 12; with_reducible refine (q1 _ (by first | (with_reducible assumption) | exact hBR)).mono ?_; rintro r w5 ⟨rfl, hb5⟩)
           | (go_at_call 11; with_reducible refine (q2 _ (by first | (with_reducible assumption) | exact hBR)).mono ?_; rintro r w5 ⟨rfl, hb5⟩)
           | (go_at_call 11; with_reducible refine (q3 _ (by first | (with_reducible assumption) | exact hBR)).mono ?_; rintro r w5 ⟨rfl, hb5⟩)
           | (go_at_call 43; with_reducible refine (q4 _ _ _ (by first | (with_reducible assumption) | exact hBR)).mono ?_; rintro r w5 ⟨rfl, hb5⟩)
           | (go_at_call 19; with_reducible refine (q5 _ (by first | (with_reducible assumption) | exact hBR)).mono ?_; rintro r w5 ⟨rfl, hb5⟩)
           | (go_at_call 19; with_reducible refine (q6 _ (by first | (with_reducible assumption) | exact hBR)).mono ?_; rintro r w5 ⟨rfl, hb5⟩))
  have HF : Hid (Bw w w5) := A11.out.trans (hb5.mono A11.out.size)
  clear q1 q2 q3 q4 q5 q6 HK hBR a0 a1 a2 a3 hb5
  go_wp2_with fail
  go_ret
  exact ⟨rfl, HF.out⟩
theorem works8 (w:World) (hT:Tab32 w) (hJ:Ie.Tab w):Calls Tryz.prog 14 #[] w fun r w'=>r=.returned (.bool true)∧Bw w w':=by
 refine works_1 w (fun W h=>?_) (fun W h=>?_) (fun W h=>?_) (fun W h=>?_) (fun W h=>?_) (fun W h=>?_)
 ·have k:=smul 13830554455654793216 4611686018427387904 4613937818241073152 9218868437227405312 (by omega) (by omega) (by omega) (by omega) W (hT.later h) (Tab.later hJ h)
  rw[mul_at.1,mul_at.2.1,mul_at.2.2] at k
  exact k
 ·have k:=squo 4607182418800017408 4607182418800017408 4613937818241073152 4613937818241073152 (by omega) (by omega) (by omega) (by omega) W (hT.later h) (Tab.later hJ h)
  rw[quo_at.1,quo_at.2.1,quo_at.2.2.1,quo_at.2.2.2] at k
  exact k
 ·have k:=squo 4607182418800017408 4607182418800017408 13830554455654793216 4607182418800017408 (by omega) (by omega) (by omega) (by omega) W (hT.later h) (Tab.later hJ h)
  rw[quo_at2.1,quo_at2.2] at k
  exact k
 ·have k:=srad 4607182418800017408 4611686018427387904 (by omega) (by omega) W (hT.later h) (Tab.later hJ h) (fun _=>rad_at.2.1) (fun _=>rad_at.2.2.1)
  rw[rad_at.2.2.2,rad_at.1] at k
  exact k
 ·have k:=shas 4607182418800017408 4611686018427387904 4609434218613702656 (by omega) (by omega) (by omega) W
  rw[has_at.1] at k
  exact k
 ·have k:=shas 4607182418800017408 4611686018427387904 4613937818241073152 (by omega) (by omega) (by omega) W
  rw[has_at.2] at k
  exact k
attribute [local go_sem] run_store_flt
theorem asks_1 (a b c d f x y x2 y2 : Nat) (p q t : Bool) (e : Int) (w : World)
    (k1 : ∀ W, Bw w W → Calls Tryz.prog 15 #[.agg #[.float .f64 a, .float .f64 b], .agg #[.float .f64 c, .float .f64 d]] W fun r w' => r = .returned (.tuple #[.agg #[.float .f64 x, .float .f64 y], .bool t]) ∧ Bw W w')
    (k2 : ∀ W, Bw w W → Calls Tryz.prog 16 #[.agg #[.float .f64 a, .float .f64 b], .agg #[.float .f64 c, .float .f64 d]] W fun r w' => r = .returned (.tuple #[.agg #[.float .f64 x, .float .f64 y], .bool t]) ∧ Bw W w')
    (k3 : ∀ W, Bw w W → Calls Tryz.prog 17 #[.agg #[.float .f64 a, .float .f64 b], .agg #[.float .f64 c, .float .f64 d]] W fun r w' => r = .returned (.tuple #[.agg #[.float .f64 x2, .float .f64 y2], .int .i64 e]) ∧ Bw W w')
    (k4 : ∀ W, Bw w W → Calls Tryz.prog 18 #[.agg #[.float .f64 a, .float .f64 b], .agg #[.float .f64 c, .float .f64 d]] W fun r w' => r = .returned (.tuple #[.agg #[.float .f64 x2, .float .f64 y2], .int .i64 e]) ∧ Bw W w')
    (m1 : ∀ W, Bw w W → Calls Tryz.prog 19 #[.agg #[.float .f64 a, .float .f64 b], .float .f64 f] W fun r w' => r = .returned (.bool p) ∧ Bw W w')
    (m2 : ∀ W, Bw w W → Calls Tryz.prog 20 #[.agg #[.float .f64 a, .float .f64 b], .float .f64 f] W fun r w' => r = .returned (.bool p) ∧ Bw W w')
    (m3 : ∀ W, Bw w W → Calls Tryz.prog 21 #[.agg #[.float .f64 a, .float .f64 b], .agg #[.float .f64 c, .float .f64 d]] W fun r w' => r = .returned (.bool q) ∧ Bw W w')
    (m4 : ∀ W, Bw w W → Calls Tryz.prog 22 #[.agg #[.float .f64 a, .float .f64 b], .agg #[.float .f64 c, .float .f64 d]] W fun r w' => r = .returned (.bool q) ∧ Bw W w')
    (m5 : ∀ W, Bw w W → Calls Tryz.prog 11 #[.agg #[.float .f64 x, .float .f64 y], .agg #[.float .f64 x, .float .f64 y]] W fun r w' => r = .returned (.bool true) ∧ Bw W w')
    (m6 : ∀ W, Bw w W → Calls Tryz.prog 11 #[.agg #[.float .f64 x2, .float .f64 y2], .agg #[.float .f64 x2, .float .f64 y2]] W fun r w' => r = .returned (.bool true) ∧ Bw W w')
    (m7 : ∀ W, Bw w W → Calls Tryz.prog 14 #[] W fun r w' => r = .returned (.bool true) ∧ Bw W w') :
    Calls Tryz.prog 4 #[.agg #[.float .f64 a, .float .f64 b], .agg #[.float .f64 c, .float .f64 d], .float .f64 f] w fun r w' => r = .returned (.bool true) ∧ Bw w w' := by
  have fp : (p == p) = true := by simp
  have fq : (q == q) = true := by simp
  have ft : (t == t) = true := by simp
  have fe : (e == e) = true := by simp
  have Hk1 : Hid _ := k1
  have Hk2 : Hid _ := k2
  have Hk3 : Hid _ := k3
  have Hk4 : Hid _ := k4
  have Hm1 : Hid _ := m1
  have Hm2 : Hid _ := m2
  have Hm3 : Hid _ := m3
  have Hm4 : Hid _ := m4
  have Hm5 : Hid _ := m5
  have Hm6 : Hid _ := m6
  have Hm7 : Hid _ := m7
  obtain ⟨W, hW⟩ : ∃ W, W = ((w.alloc (.cells #[.float .f64 a, .float .f64 b] 24)).alloc (.cells #[.float .f64 c, .float .f64 d] 24)) := ⟨_, rfl⟩
  have HX : Hid (Bw w W ∧ IvB W (w.heap.size) a b ∧ IvB W (w.heap.size + 1) c d) := by
    rw [hW]
    exact ⟨bxs2_0 w a b c d, bxs2_1 w a b c d, bxs2_2 w a b c d⟩
  have HK : Hid (∀ w', Bw W w' → IvF w' (w.heap.size) a b ∧ IvF w' (w.heap.size + 1) c d) := fun w' hb => ⟨(HX.out.2.1).later hb, (HX.out.2.2).later hb⟩
  have AW : Hid (Bw w W) := HX.out.1
  have BW_W : Hid (Bw W W) := Below.refl _ _
  clear k1 k2 k3 k4 m1 m2 m3 m4 m5 m6 m7
  go_enter Tryz.func4, Tryz.ntmps4
  go_upto_region 1 with fail
  rw [← hW]
  clear hW
  obtain ⟨⟨c0, c1, z0, z1⟩, ⟨c2, c3, z2, z3⟩⟩ := HK.out W BW_W.out
  clear z0 z1 z2 z3
  have kk := Hk1.out W AW.out
  clear Hk1
  go_wp2_with fail
  clear c0 c1 c2 c3
  refine kk.mono ?_
  rintro r w1 ⟨rfl, hb⟩
  clear kk
  have Aw1 : Hid (Bw w w1) := AW.out.trans (hb.mono AW.out.size)
  have BW_w1 : Hid (Bw W w1) := BW_W.out.trans (hb.mono BW_W.out.size)
  clear hb AW BW_W 
  obtain ⟨V1, hV1⟩ : ∃ V, V = w1.alloc (.cells #[.float .f64 x, .float .f64 y] 24) := ⟨_, rfl⟩
  have AV1 : Hid (Bw w V1) := by rw [hV1]; exact Aw1.out.alloc Aw1.out.size _
  have BW_V1 : Hid (Bw W V1) := by rw [hV1]; exact BW_w1.out.alloc BW_w1.out.size _
  have XV1 : Hid (IvB V1 w1.heap.size x y) := by rw [hV1]; exact IvB.new _ _ _
  have BV1_V1 : Hid (Bw V1 V1) := Below.refl _ _
  clear Aw1 BW_w1 
  obtain ⟨⟨c0, c1, z0, z1⟩, ⟨c2, c3, z2, z3⟩⟩ := HK.out V1 BW_V1.out
  rw [hV1] at c0 c1 c2 c3
  clear z0 z1 z2 z3
  have kk := Hk2.out V1 AV1.out
  clear Hk2
  go_wp2_with fail
  rw [← hV1]
  clear hV1
  generalize hgV1 : w1.heap.size = gV1 at *
  clear hgV1
  clear c0 c1 c2 c3
  refine kk.mono ?_
  rintro r w2 ⟨rfl, hb⟩
  clear kk
  have Aw2 : Hid (Bw w w2) := AV1.out.trans (hb.mono AV1.out.size)
  have BW_w2 : Hid (Bw W w2) := BW_V1.out.trans (hb.mono BW_V1.out.size)
  have BV1_w2 : Hid (Bw V1 w2) := BV1_V1.out.trans (hb.mono BV1_V1.out.size)
  clear hb AV1 BW_V1 BV1_V1
  obtain ⟨V2, hV2⟩ : ∃ V, V = w2.alloc (.cells #[.float .f64 x, .float .f64 y] 24) := ⟨_, rfl⟩
  have AV2 : Hid (Bw w V2) := by rw [hV2]; exact Aw2.out.alloc Aw2.out.size _
  have BW_V2 : Hid (Bw W V2) := by rw [hV2]; exact BW_w2.out.alloc BW_w2.out.size _
  have XV2 : Hid (IvB V2 w2.heap.size x y) := by rw [hV2]; exact IvB.new _ _ _
  have BV1_V2 : Hid (Bw V1 V2) := by rw [hV2]; exact BV1_w2.out.alloc BV1_w2.out.size _
  have BV2_V2 : Hid (Bw V2 V2) := Below.refl _ _
  clear Aw2 BW_w2 BV1_w2
  obtain ⟨⟨c0, c1, z0, z1⟩, ⟨c2, c3, z2, z3⟩⟩ := HK.out V2 BW_V2.out
  rw [hV2] at c0 c1 c2 c3
  clear z0 z1 z2 z3
  have kk := Hk3.out V2 AV2.out
  clear Hk3
  go_wp2_with fail
  rw [← hV2]
  clear hV2
  generalize hgV2 : w2.heap.size = gV2 at *
  clear hgV2
  clear c0 c1 c2 c3
  refine kk.mono ?_
  rintro r w3 ⟨rfl, hb⟩
  clear kk
  have Aw3 : Hid (Bw w w3) := AV2.out.trans (hb.mono AV2.out.size)
  have BW_w3 : Hid (Bw W w3) := BW_V2.out.trans (hb.mono BW_V2.out.size)
  have BV1_w3 : Hid (Bw V1 w3) := BV1_V2.out.trans (hb.mono BV1_V2.out.size)
  have BV2_w3 : Hid (Bw V2 w3) := BV2_V2.out.trans (hb.mono BV2_V2.out.size)
  clear hb AV2 BW_V2 BV1_V2 BV2_V2
  obtain ⟨V3, hV3⟩ : ∃ V, V = w3.alloc (.cells #[.float .f64 x2, .float .f64 y2] 24) := ⟨_, rfl⟩
  have AV3 : Hid (Bw w V3) := by rw [hV3]; exact Aw3.out.alloc Aw3.out.size _
  have BW_V3 : Hid (Bw W V3) := by rw [hV3]; exact BW_w3.out.alloc BW_w3.out.size _
  have XV3 : Hid (IvB V3 w3.heap.size x2 y2) := by rw [hV3]; exact IvB.new _ _ _
  have BV1_V3 : Hid (Bw V1 V3) := by rw [hV3]; exact BV1_w3.out.alloc BV1_w3.out.size _
  have BV2_V3 : Hid (Bw V2 V3) := by rw [hV3]; exact BV2_w3.out.alloc BV2_w3.out.size _
  have BV3_V3 : Hid (Bw V3 V3) := Below.refl _ _
  clear Aw3 BW_w3 BV1_w3 BV2_w3
  obtain ⟨⟨c0, c1, z0, z1⟩, ⟨c2, c3, z2, z3⟩⟩ := HK.out V3 BW_V3.out
  rw [hV3] at c0 c1 c2 c3
  clear z0 z1 z2 z3
  have kk := Hk4.out V3 AV3.out
  clear Hk4
  go_wp2_with fail
  rw [← hV3]
  clear hV3
  generalize hgV3 : w3.heap.size = gV3 at *
  clear hgV3
  clear c0 c1 c2 c3
  refine kk.mono ?_
  rintro r w4 ⟨rfl, hb⟩
  clear kk
  have Aw4 : Hid (Bw w w4) := AV3.out.trans (hb.mono AV3.out.size)
  have BW_w4 : Hid (Bw W w4) := BW_V3.out.trans (hb.mono BW_V3.out.size)
  have BV1_w4 : Hid (Bw V1 w4) := BV1_V3.out.trans (hb.mono BV1_V3.out.size)
  have BV2_w4 : Hid (Bw V2 w4) := BV2_V3.out.trans (hb.mono BV2_V3.out.size)
  have BV3_w4 : Hid (Bw V3 w4) := BV3_V3.out.trans (hb.mono BV3_V3.out.size)
  clear hb AV3 BW_V3 BV1_V3 BV2_V3 BV3_V3
  obtain ⟨V4, hV4⟩ : ∃ V, V = w4.alloc (.cells #[.float .f64 x2, .float .f64 y2] 24) := ⟨_, rfl⟩
  have AV4 : Hid (Bw w V4) := by rw [hV4]; exact Aw4.out.alloc Aw4.out.size _
  have BW_V4 : Hid (Bw W V4) := by rw [hV4]; exact BW_w4.out.alloc BW_w4.out.size _
  have XV4 : Hid (IvB V4 w4.heap.size x2 y2) := by rw [hV4]; exact IvB.new _ _ _
  have BV1_V4 : Hid (Bw V1 V4) := by rw [hV4]; exact BV1_w4.out.alloc BV1_w4.out.size _
  have BV2_V4 : Hid (Bw V2 V4) := by rw [hV4]; exact BV2_w4.out.alloc BV2_w4.out.size _
  have BV3_V4 : Hid (Bw V3 V4) := by rw [hV4]; exact BV3_w4.out.alloc BV3_w4.out.size _
  have BV4_V4 : Hid (Bw V4 V4) := Below.refl _ _
  clear Aw4 BW_w4 BV1_w4 BV2_w4 BV3_w4
  go_upto_region 5 with fail
  rw [← hV4]
  clear hV4
  generalize hgV4 : w4.heap.size = gV4 at *
  clear hgV4
  have HKK : Hid (∀ w', Bw V4 w' → w'.cell? ⟨w.heap.size, 0, none⟩ = some (.float .f64 a) ∧ w'.cell? ⟨w.heap.size, 1, none⟩ = some (.float .f64 b) ∧ w'.cell? ⟨w.heap.size + 1, 0, none⟩ = some (.float .f64 c) ∧ w'.cell? ⟨w.heap.size + 1, 1, none⟩ = some (.float .f64 d) ∧ w'.cell? ⟨gV1, 0, none⟩ = some (.float .f64 x) ∧ w'.cell? ⟨gV1, 1, none⟩ = some (.float .f64 y) ∧ w'.cell? ⟨gV2, 0, none⟩ = some (.float .f64 x) ∧ w'.cell? ⟨gV2, 1, none⟩ = some (.float .f64 y) ∧ w'.cell? ⟨gV3, 0, none⟩ = some (.float .f64 x2) ∧ w'.cell? ⟨gV3, 1, none⟩ = some (.float .f64 y2) ∧ w'.cell? ⟨gV4, 0, none⟩ = some (.float .f64 x2) ∧ w'.cell? ⟨gV4, 1, none⟩ = some (.float .f64 y2) ∧ Bw V4 w') := fun w' hb => ⟨(HK.out w' (BW_V4.out.trans (hb.mono BW_V4.out.size))).1.1, (HK.out w' (BW_V4.out.trans (hb.mono BW_V4.out.size))).1.2.1, (HK.out w' (BW_V4.out.trans (hb.mono BW_V4.out.size))).2.1, (HK.out w' (BW_V4.out.trans (hb.mono BW_V4.out.size))).2.2.1, (XV1.out.later (BV1_V4.out.trans (hb.mono BV1_V4.out.size))).1, (XV1.out.later (BV1_V4.out.trans (hb.mono BV1_V4.out.size))).2.1, (XV2.out.later (BV2_V4.out.trans (hb.mono BV2_V4.out.size))).1, (XV2.out.later (BV2_V4.out.trans (hb.mono BV2_V4.out.size))).2.1, (XV3.out.later (BV3_V4.out.trans (hb.mono BV3_V4.out.size))).1, (XV3.out.later (BV3_V4.out.trans (hb.mono BV3_V4.out.size))).2.1, (XV4.out.later (BV4_V4.out.trans (hb.mono BV4_V4.out.size))).1, (XV4.out.later (BV4_V4.out.trans (hb.mono BV4_V4.out.size))).2.1, hb⟩
  have hBR : Bw V4 V4.drew := (Below.refl _ _).drew
  have q1 : ∀ W, Bw V4 W → Calls Tryz.prog 19 #[.agg #[.float .f64 a, .float .f64 b], .float .f64 f] W fun r w' => r = .returned (.bool p) ∧ Bw V4 w' := fun W h => (Hm1.out W (AV4.out.trans (h.mono AV4.out.size))).mono fun r w' ⟨e1, e2⟩ => ⟨e1, h.trans (e2.mono h.size)⟩
  have q2 : ∀ W, Bw V4 W → Calls Tryz.prog 20 #[.agg #[.float .f64 a, .float .f64 b], .float .f64 f] W fun r w' => r = .returned (.bool p) ∧ Bw V4 w' := fun W h => (Hm2.out W (AV4.out.trans (h.mono AV4.out.size))).mono fun r w' ⟨e1, e2⟩ => ⟨e1, h.trans (e2.mono h.size)⟩
  have q3 : ∀ W, Bw V4 W → Calls Tryz.prog 21 #[.agg #[.float .f64 a, .float .f64 b], .agg #[.float .f64 c, .float .f64 d]] W fun r w' => r = .returned (.bool q) ∧ Bw V4 w' := fun W h => (Hm3.out W (AV4.out.trans (h.mono AV4.out.size))).mono fun r w' ⟨e1, e2⟩ => ⟨e1, h.trans (e2.mono h.size)⟩
  have q4 : ∀ W, Bw V4 W → Calls Tryz.prog 22 #[.agg #[.float .f64 a, .float .f64 b], .agg #[.float .f64 c, .float .f64 d]] W fun r w' => r = .returned (.bool q) ∧ Bw V4 w' := fun W h => (Hm4.out W (AV4.out.trans (h.mono AV4.out.size))).mono fun r w' ⟨e1, e2⟩ => ⟨e1, h.trans (e2.mono h.size)⟩
  have q5 : ∀ W, Bw V4 W → Calls Tryz.prog 11 #[.agg #[.float .f64 x, .float .f64 y], .agg #[.float .f64 x, .float .f64 y]] W fun r w' => r = .returned (.bool true) ∧ Bw V4 w' := fun W h => (Hm5.out W (AV4.out.trans (h.mono AV4.out.size))).mono fun r w' ⟨e1, e2⟩ => ⟨e1, h.trans (e2.mono h.size)⟩
  have q6 : ∀ W, Bw V4 W → Calls Tryz.prog 11 #[.agg #[.float .f64 x2, .float .f64 y2], .agg #[.float .f64 x2, .float .f64 y2]] W fun r w' => r = .returned (.bool true) ∧ Bw V4 w' := fun W h => (Hm6.out W (AV4.out.trans (h.mono AV4.out.size))).mono fun r w' ⟨e1, e2⟩ => ⟨e1, h.trans (e2.mono h.size)⟩
  have q7 : ∀ W, Bw V4 W → Calls Tryz.prog 14 #[] W fun r w' => r = .returned (.bool true) ∧ Bw V4 w' := fun W h => (Hm7.out W (AV4.out.trans (h.mono AV4.out.size))).mono fun r w' ⟨e1, e2⟩ => ⟨e1, h.trans (e2.mono h.size)⟩
  clear Hm1 Hm2 Hm3 Hm4 Hm5 Hm6 Hm7 XV1 BV1_V4 XV2 BV2_V4 XV3 BV3_V4 XV4 BV4_V4 HX HK BW_V4
  obtain ⟨a0, a1, a2, a3, a4, a5, a6, a7, a8, a9, a10, a11, -⟩ := HKK.out V4 (Below.refl _ _)
  go_region_held3 (fun w' => w'.cell? ⟨w.heap.size, 0, none⟩ = some (.float .f64 a) ∧ w'.cell? ⟨w.heap.size, 1, none⟩ = some (.float .f64 b) ∧ w'.cell? ⟨w.heap.size + 1, 0, none⟩ = some (.float .f64 c) ∧ w'.cell? ⟨w.heap.size + 1, 1, none⟩ = some (.float .f64 d) ∧ w'.cell? ⟨gV1, 0, none⟩ = some (.float .f64 x) ∧ w'.cell? ⟨gV1, 1, none⟩ = some (.float .f64 y) ∧ w'.cell? ⟨gV2, 0, none⟩ = some (.float .f64 x) ∧ w'.cell? ⟨gV2, 1, none⟩ = some (.float .f64 y) ∧ w'.cell? ⟨gV3, 0, none⟩ = some (.float .f64 x2) ∧ w'.cell? ⟨gV3, 1, none⟩ = some (.float .f64 y2) ∧ w'.cell? ⟨gV4, 0, none⟩ = some (.float .f64 x2) ∧ w'.cell? ⟨gV4, 1, none⟩ = some (.float .f64 y2) ∧ Bw V4 w') (first | (with_reducible assumption) | exact HKK.out _ hBR | (refine HKK.out _ ?_; with_reducible assumption) | go_keep)
    (first | (go_at_call 19; with_reducible refine (q1 _ (by first | (with_reducible assumption) | exact hBR)).mono ?_; rintro r wz ⟨rfl, hbz⟩)
           | (go_at_call 20; with_reducible refine (q2 _ (by first | (with_reducible assumption) | exact hBR)).mono ?_; rintro r wz ⟨rfl, hbz⟩)
           | (go_at_call 21; with_reducible refine (q3 _ (by first | (with_reducible assumption) | exact hBR)).mono ?_; rintro r wz ⟨rfl, hbz⟩)
           | (go_at_call 22; with_reducible refine (q4 _ (by first | (with_reducible assumption) | exact hBR)).mono ?_; rintro r wz ⟨rfl, hbz⟩)
           | (go_at_call 11; with_reducible refine (q5 _ (by first | (with_reducible assumption) | exact hBR)).mono ?_; rintro r wz ⟨rfl, hbz⟩)
           | (go_at_call 11; with_reducible refine (q6 _ (by first | (with_reducible assumption) | exact hBR)).mono ?_; rintro r wz ⟨rfl, hbz⟩)
           | (go_at_call 14; with_reducible refine (q7 _ (by first | (with_reducible assumption) | exact hBR)).mono ?_; rintro r wz ⟨rfl, hbz⟩))
  have HF : Hid (Bw w wz) := AV4.out.trans (hbz.mono AV4.out.size)
  clear q1 q2 q3 q4 q5 q6 q7 HKK hBR a0 a1 a2 a3 a4 a5 a6 a7 a8 a9 a10 a11 hbz
  go_wp2_with fail
  go_ret
  exact ⟨rfl, HF.out⟩
theorem orV_b (ok:Bool) (x y:Nat):orV ok x y (.bool true) (.bool false)=.tuple #[.agg #[.float .f64 (if ok then x else 0),.float .f64 (if ok then y else 0)],.bool ok]:=by
 unfold orV;cases ok <;> rfl
theorem orV_i (ok:Bool) (x y:Nat):orV ok x y (.int .i64 0) (.int .i64 1)=.tuple #[.agg #[.float .f64 (if ok then x else 0),.float .f64 (if ok then y else 0)],.int .i64 (if ok then 0 else 1)]:=by
 unfold orV;cases ok <;> rfl
theorem or_lt {ok:Bool} {x:Nat} (h:x<18446744073709551616):(if ok then x else 0)<18446744073709551616:=by
 cases ok
 ·rw[if_neg (by simp)];omega
 ·exact h
theorem spanAsks_ok (a b c d f:Nat) (w:World) (ha:a<18446744073709551616) (hb:b<18446744073709551616) (hc:c<18446744073709551616) (hd:d<18446744073709551616) (hf:f<18446744073709551616) (hT:Tab32 w) (hJ:Ie.Tab w) :
  Calls Tryz.prog 4 #[.agg #[.float .f64 a,.float .f64 b],.agg #[.float .f64 c,.float .f64 d],.float .f64 f] w fun r w'=>r=.returned (.bool true)∧Bw w w' :=
 asks_1 a b c d f _ _ _ _ _ _ _ _ w
  (fun W _=>by have k:=smeet a b c d ha hb hc hd W;rw[orV_b] at k;exact k)
  (fun W _=>by have k:=dmeet a b c d ha hb hc hd W;rw[orV_b] at k;exact k)
  (fun W _=>by have k:=shull a b c d ha hb hc hd W;rw[orV_i] at k;exact k)
  (fun W _=>by have k:=dhull a b c d ha hb hc hd W;rw[orV_i] at k;exact k)
  (fun W _=>shas a b f ha hb hf W) (fun W _=>dhas a b f ha hb hf W) (fun W _=>swithin a b c d ha hb hc hd W) (fun W _=>dwithin a b c d ha hb hc hd W)
  (fun W _=>isame _ _ (or_lt (fMax_lt ha hc)) (or_lt (fMin_lt hb hd)) W) (fun W _=>isame _ _ (or_lt (fMin_lt ha hc)) (or_lt (fMax_lt hb hd)) W) (fun W h=>works8 W (hT.later h) (Tab.later hJ h))
end Go.Proofs.YtclmbahhojdfcaaGreatDoor
