/- Own work: contracts of the program's functions, part 13: SNV. -/
import Derived.Test.YtjiolfnchiioaaaGreatDoorA12

set_option maxHeartbeats 16000000
set_option maxRecDepth 200000
set_option linter.unusedVariables false
set_option linter.unusedSimpArgs false
namespace Go.Proofs.YtjiolfnchiioaaaGreatDoor
open Go.RowKit Go.Fl64
attribute [local go_sem] run_store_flt
theorem orV_f (x y:Nat) (g h:Value):orV false x y g h=.tuple #[.agg #[.float .f64 0,.float .f64 0],h]:=rfl
theorem toD_nn (t:Bool×Nat×Int) {m:Int} (hm:1≤m∧m≤3):isNaN (toD t m)=false:=by
 unfold toD
 split
 ·decide
 ·rw[tf_bdy hm]
  have h:=bdy_le t.2.1 t.2.2 (wyN t.1 m)
  unfold isNaN
  rw[(mag_sig h).1]
  exact decide_eq_false (by omega)
theorem enF_nn (i:Int) (t:Bool×Nat×Int) {m:Int} (hm:1≤m∧m≤3):isNaN (enF i t m)=false:=by
 unfold enF
 split
 ·rw[pl_nan];exact toD_nn t hm
 ·split <;> decide
theorem fAdM_nn {a c:Nat} (ha:a<18446744073709551616) (hc:c<18446744073709551616) (na:isNaN a=false) (nc:isNaN c=false) (hx:¬ (eI a=1∧eI c = -1)) (hy:¬ (eI a = -1∧eI c=1)) {m:Int} (hm:1≤m∧m≤3):isNaN (fAdM a c m)=false:=by
 rw[←pl_nan,←enF_plus ha hc na nc hx hy hm]
 exact enF_nn _ _ hm
theorem fAdM_lt {a c:Nat} (ha:a<18446744073709551616) (hc:c<18446744073709551616) {m:Int} (hm:1≤m∧m≤3):fAdM a c m<18446744073709551616:=(faddM_p a c m hm ha hc).1
theorem vI_ends {a b:Nat} (h:vI a b=true):eI a≠1∧eI b ≠ -1:=by
 unfold vI at h
 simp only[Bool.and_eq_true] at h
 constructor
 ·intro e
  have:a=9218868437227405312:=by
   unfold eI at e
   by_cases h1:a=9218868437227405312
   ·exact h1
   ·rw[if_neg h1] at e
    split at e <;> omega
  have h2:=h.1.1.1.2
  rw[this] at h2
  revert h2
  decide
 ·intro e
  have:b=18442240474082181120:=by
   unfold eI at e
   by_cases h1:b=9218868437227405312
   ·rw[if_pos h1] at e;omega
   ·rw[if_neg h1] at e
    by_cases h2:b=18442240474082181120
    ·exact h2
    ·rw[if_neg h2] at e;omega
  have h2:=h.1.1.2
  rw[this] at h2
  revert h2
  decide
theorem eT_fits (f:Nat):Fits (-1074) 1025 (eT f).2.1 (eT f).2.2:=by
 unfold eT
 split
 ·exact tF_fits f
 ·exact .inl rfl
theorem tNeg_fits {t:Bool×Nat×Int} {lo hi:Int} (h:Fits lo hi t.2.1 t.2.2):Fits lo hi (tNeg t).2.1 (tNeg t).2.2:=by
 unfold tNeg
 split
 ·exact .inl rfl
 ·exact h
theorem plT_ok2 (i j:Int) {t u:Bool×Nat×Int} (o1:Ok t) (o2:Ok u) (f1:Fits (-1074) 1025 t.2.1 t.2.2) (f2:Fits (-1074) 1025 u.2.1 u.2.2):Ok (plT i j t u):=by
 unfold plT
 split
 ·exact ok_cn (tS_okR f1 f2 (by omega) (by omega) (by omega))
 ·unfold Ok;rw[dlen_zero];rfl
theorem plT_ok (i j:Int) (a c:Nat):Ok (plT i j (eT a) (eT c)):=plT_ok2 i j (eT_ok a) (eT_ok c) (eT_fits a) (eT_fits c)
theorem sadded (a b c d:Nat) (w:World) (ha:a<18446744073709551616) (hb:b<18446744073709551616) (hc:c<18446744073709551616) (hd:d<18446744073709551616) (hT:Tab32 w) (hJ:Ie.Tab w) (n1:isNaN (fAdM a c 1)=false) (n2:isNaN (fAdM b d 3)=false) :
  Calls Tryz.prog 30 #[.agg #[.float .f64 a,.float .f64 b],.agg #[.float .f64 c,.float .f64 d]] w fun r w'=>r=.returned (.agg #[.float .f64 (pl (fAdM a c 1)),.float .f64 (pl (fAdM b d 3))])∧Bw w w':=by
 refine sadded_1 a b c d (fAdM a c 1) (fAdM b d 3) _ _ w (fun W h=>?_) (fun W h=>?_) (fun W h=>sbetween _ _ W (fAdM_lt ha hc (by omega)) (fAdM_lt hb hd (by omega)))
 ·refine(faddM a c 1 (by omega) ha hc W (hT.later h) (Tab.later hJ h)).mono ?_
  rintro r w' ⟨n,rfl,hl,hb'⟩
  rw[hl.eq n1]
  exact⟨rfl,hb'⟩
 ·refine(faddM b d 3 (by omega) hb hd W (hT.later h) (Tab.later hJ h)).mono ?_
  rintro r w' ⟨n,rfl,hl,hb'⟩
  rw[hl.eq n2]
  exact⟨rfl,hb'⟩
theorem sadd (a b c d:Nat) (w:World) (ha:a<18446744073709551616) (hb:b<18446744073709551616) (hc:c<18446744073709551616) (hd:d<18446744073709551616) (hT:Tab32 w) (hJ:Ie.Tab w) :
  Calls Tryz.prog 9 #[.agg #[.float .f64 a,.float .f64 b],.agg #[.float .f64 c,.float .f64 d]] w fun r w'=>r=.returned (orV (vI a b&&vI c d) (pl (fAdM a c 1)) (pl (fAdM b d 3)) (.int .i64 0) (.int .i64 1))∧Bw w w':=by
 refine sadd_1 a b c d _ _ _ w (fun W g T h=>smaybe h ha hb hc hd) (fun hv W h=>?_)
 rw[Bool.and_eq_true] at hv
 obtain⟨x1,x2⟩:=vI_ends hv.1
 obtain⟨y1,y2⟩:=vI_ends hv.2
 exact sadded a b c d W ha hb hc hd (hT.later h) (Tab.later hJ h) (fAdM_nn ha hc (vI_nn hv.1).1 (vI_nn hv.2).1 (fun e=>x1 e.1) (fun e=>y1 e.2) (by omega)) (fAdM_nn hb hd (vI_nn hv.1).2 (vI_nn hv.2).2 (fun e=>y2 e.2) (fun e=>x2 e.1) (by omega))
theorem dadd8 (a b c d:Nat) (w:World) (ha:a<18446744073709551616) (hb:b<18446744073709551616) (hc:c<18446744073709551616) (hd:d<18446744073709551616) :
  Calls Tryz.prog 10 #[.agg #[.float .f64 a,.float .f64 b],.agg #[.float .f64 c,.float .f64 d]] w fun r w'=>r=.returned (orV (vI a b&&vI c d) (pl (fAdM a c 1)) (pl (fAdM b d 3)) (.int .i64 0) (.int .i64 1))∧Bw w w':=by
 have k:=dadd_18 a b c d w ha hb hc hd (fun _=>plT_ok _ _ _ _) (fun _=>plT_ok _ _ _ _)
 cases hv:vI a b&&vI c d
 ·rw[hv,orV_f] at k
  rw[orV_f]
  exact k
 ·have hv':=hv
  rw[Bool.and_eq_true] at hv'
  obtain⟨x1,x2⟩:=vI_ends hv'.1
  obtain⟨y1,y2⟩:=vI_ends hv'.2
  rw[hv,enF_plus ha hc (vI_nn hv'.1).1 (vI_nn hv'.2).1 (fun e=>x1 e.1) (fun e=>y1 e.2) (by omega),enF_plus hb hd (vI_nn hv'.1).2 (vI_nn hv'.2).2 (fun e=>y2 e.2) (fun e=>x2 e.1) (by omega)] at k
  exact k
theorem ssub (a b c d:Nat) (w:World) (ha:a<18446744073709551616) (hb:b<18446744073709551616) (hc:c<18446744073709551616) (hd:d<18446744073709551616) (hT:Tab32 w) (hJ:Ie.Tab w) :
  Calls Tryz.prog 11 #[.agg #[.float .f64 a,.float .f64 b],.agg #[.float .f64 c,.float .f64 d]] w fun r w'=>r=.returned (orV (vI a b&&vI c d) (pl (fAdM a (pl (ngt d)) 1)) (pl (fAdM b (pl (ngt c)) 3)) (.int .i64 0) (.int .i64 1))∧Bw w w':=by
 refine ssub_1 a b c d (pl (ngt d)) (pl (ngt c)) _ _ _ w (fun W g T h=>smaybe h ha hb hc hd) (fun _ W h=>sturned c d W hc hd) (fun hv W h=>?_)
 rw[Bool.and_eq_true] at hv
 obtain⟨x1,x2⟩:=vI_ends hv.1
 obtain⟨y1,y2⟩:=vI_ends hv.2
 have e1:eI (pl (ngt d)) = -eI d:=by rw[eI_pl,eI_ngt hd]
 have e2:eI (pl (ngt c)) = -eI c:=by rw[eI_pl,eI_ngt hc]
 exact sadded a b (pl (ngt d)) (pl (ngt c)) W ha hb (pl_lt (ngt_lt hd)) (pl_lt (ngt_lt hc)) (hT.later h) (Tab.later hJ h) (fAdM_nn ha (pl_lt (ngt_lt hd)) (vI_nn hv.1).1 (by rw[pl_nan,ngt_nan8 hd];exact(vI_nn hv.2).2) (fun e=>x1 e.1) (fun e=>by rw[e1] at e;exact y2 (by omega)) (by omega)) (fAdM_nn hb (pl_lt (ngt_lt hc)) (vI_nn hv.1).2 (by rw[pl_nan,ngt_nan8 hc];exact(vI_nn hv.2).1) (fun e=>by rw[e2] at e;exact y1 (by omega)) (fun e=>x2 e.1) (by omega))
theorem dsub8 (a b c d:Nat) (w:World) (ha:a<18446744073709551616) (hb:b<18446744073709551616) (hc:c<18446744073709551616) (hd:d<18446744073709551616) :
  Calls Tryz.prog 12 #[.agg #[.float .f64 a,.float .f64 b],.agg #[.float .f64 c,.float .f64 d]] w fun r w'=>r=.returned (orV (vI a b&&vI c d) (pl (fAdM a (pl (ngt d)) 1)) (pl (fAdM b (pl (ngt c)) 3)) (.int .i64 0) (.int .i64 1))∧Bw w w':=by
 have k:=dsub_18 a b c d w ha hb hc hd (fun _=>plT_ok2 _ _ (eT_ok a) (tNeg_ok (eT_ok d)) (eT_fits a) (tNeg_fits (eT_fits d))) (fun _=>plT_ok2 _ _ (eT_ok b) (tNeg_ok (eT_ok c)) (eT_fits b) (tNeg_fits (eT_fits c)))
 have e1:eI (pl (ngt d)) = -eI d:=by rw[eI_pl,eI_ngt hd]
 have e2:eI (pl (ngt c)) = -eI c:=by rw[eI_pl,eI_ngt hc]
 have t1:eT (pl (ngt d))=tNeg (eT d):=by rw[eT_pl,eT_ngt hd]
 have t2:eT (pl (ngt c))=tNeg (eT c):=by rw[eT_pl,eT_ngt hc]
 cases hv:vI a b&&vI c d
 ·rw[hv,orV_f] at k
  rw[orV_f]
  exact k
 ·have hv':=hv
  rw[Bool.and_eq_true] at hv'
  obtain⟨x1,x2⟩:=vI_ends hv'.1
  obtain⟨y1,y2⟩:=vI_ends hv'.2
  rw[hv,←e1,←e2,←t1,←t2,enF_plus ha (pl_lt (ngt_lt hd)) (vI_nn hv'.1).1 (by rw[pl_nan,ngt_nan8 hd];exact(vI_nn hv'.2).2) (fun e=>x1 e.1) (fun e=>by rw[e1] at e;exact y2 (by omega)) (by omega),enF_plus hb (pl_lt (ngt_lt hc)) (vI_nn hv'.1).2 (by rw[pl_nan,ngt_nan8 hc];exact(vI_nn hv'.2).1) (fun e=>by rw[e2] at e;exact y1 (by omega)) (fun e=>x2 e.1) (by omega)] at k
  exact k
theorem sneg (a b:Nat) (w:World) (ha:a<18446744073709551616) (hb:b<18446744073709551616) :
  Calls Tryz.prog 5 #[.agg #[.float .f64 a,.float .f64 b]] w fun r w'=>r=.returned (orV (vI a b) (pl (ngt b)) (pl (ngt a)) (.int .i64 0) (.int .i64 1))∧Bw w w' :=
 sneg_1 a b _ _ _ w (fun W=>svalid a b ha hb W) (fun _ W h=>sturned a b W ha hb)
theorem dneg8 (a b:Nat) (w:World) (ha:a<18446744073709551616) (hb:b<18446744073709551616) :
  Calls Tryz.prog 6 #[.agg #[.float .f64 a,.float .f64 b]] w fun r w'=>r=.returned (orV (vI a b) (pl (ngt b)) (pl (ngt a)) (.int .i64 0) (.int .i64 1))∧Bw w w':=by
 have k:=dneg_1 a b w ha hb
 cases hv:vI a b
 ·rw[hv,orV_f] at k
  rw[orV_f]
  exact k
 ·rw[hv,←eI_ngt hb,←eI_ngt ha,←eT_ngt hb,←eT_ngt ha,enF_self (ngt_lt hb) (by rw[ngt_nan8 hb];exact(vI_nn hv).2) (by omega),enF_self (ngt_lt ha) (by rw[ngt_nan8 ha];exact(vI_nn hv).1) (by omega)] at k
  exact k
def mgX (a b:Nat):Nat:=if le 0 a then a else if le b 0 then pl (ngt b)else 0
def mgY (a b:Nat):Nat:=if le 0 a then b else if le b 0 then pl (ngt a)else fMax (ngt a) b
theorem smag (a b:Nat) (w:World) (ha:a<18446744073709551616) (hb:b<18446744073709551616) (na:isNaN a=false) (nb:isNaN b=false) :
  Calls Tryz.prog 26 #[.agg #[.float .f64 a,.float .f64 b]] w fun r w'=>r=.returned (.agg #[.float .f64 (mgX a b),.float .f64 (mgY a b)])∧Bw w w':=by
 have k:=smag_1 a b (pl (ngt b)) (pl (ngt a)) (fMax (ngt a) b) (le 0 a) (le b 0) w (ord_ge a 0 ha (by omega)) (ord_le b 0 hb (by omega)) (fun w=>by rw[←negF a ha];rfl) (fun _ _ W ts t=>run_fmax W ts t _ _ (ngt_lt ha) hb (by rw[ngt_nan8 ha];exact na) nb) (fun W=>sturned a b W ha hb)
 unfold mgX mgY
 cases h1:le 0 a
 ·cases h2:le b 0
  ·rw[h1,h2] at k;exact k
  ·rw[h1,h2] at k;exact k
 ·rw[h1] at k;exact k
theorem sabs (a b:Nat) (w:World) (ha:a<18446744073709551616) (hb:b<18446744073709551616) :
  Calls Tryz.prog 7 #[.agg #[.float .f64 a,.float .f64 b]] w fun r w'=>r=.returned (orV (vI a b) (mgX a b) (mgY a b) (.int .i64 0) (.int .i64 1))∧Bw w w' :=
 sabs_1 a b _ _ _ w (fun W=>svalid a b ha hb W) (fun hv W h=>smag a b W ha hb (vI_nn hv).1 (vI_nn hv).2)
theorem abs_eq {a b:Nat} (ha:a<18446744073709551616) (hb:b<18446744073709551616) (hv:vI a b=true):abX a b=mgX a b∧abY a b=mgY a b:=by
 obtain⟨na,nb⟩:=vI_nn hv
 obtain⟨p1,p2⟩:=sgE_stp ha na
 obtain⟨q1,q2⟩:=sgE_stp hb nb
 have l1:le 0 a=decide (0≤stp a):=by unfold le;rw[na,show isNaN 0=false by decide,show stp 0=0 by decide];simp
 have l2:le b 0=decide (stp b≤0):=by unfold le;rw[nb,show isNaN 0=false by decide,show stp 0=0 by decide];simp
 have m3:(1:Int)≤3∧(3:Int)≤3:=by omega
 have m1:(1:Int)≤1∧(1:Int)≤3:=by omega
 have nna:isNaN (ngt a)=false:=by rw[ngt_nan8 ha];exact na
 have nnb:isNaN (ngt b)=false:=by rw[ngt_nan8 hb];exact nb
 have x1:enF (-eI b) (tNeg (eT b)) 1=pl (ngt b):=by rw[←eI_ngt hb,←eT_ngt hb];exact enF_self (ngt_lt hb) nnb m1
 have y1:enF (-eI a) (tNeg (eT a)) 3=pl (ngt a):=by rw[←eI_ngt ha,←eT_ngt ha];exact enF_self (ngt_lt ha) nna m3
 have y3:enF (eI b) (eT b) 3=pl b:=enF_self hb nb m3
 have od:ordE (-eI a) (eI b) (tNeg (eT a)) (eT b)=cmpI (stp (ngt a)) (stp b):=by rw[←eI_ngt ha,←eT_ngt ha];exact ordE_stp (ngt_lt ha) hb nna nb
 unfold abX abY mgX mgY
 rw[x1,y1,y3,od,l1,l2]
 by_cases h1:0≤stp a
 ·have P1:=p1.2 h1
  simp only[P1,h1,decide_true,if_true]
  exact⟨trivial,trivial⟩
 ·have P1:¬ 0≤sgE (eI a) (eT a):=fun h=>h1 (p1.1 h)
  by_cases h2:stp b≤0
  ·have P2:=q2.2 h2
   simp only[P1,P2,h1,h2,decide_true,decide_false,if_true,if_false,Bool.false_eq_true]
   exact⟨trivial,trivial⟩
  ·have P2:¬ sgE (eI b) (eT b)≤0:=fun h=>h2 (q2.1 h)
   simp only[P1,P2,h1,h2,decide_true,decide_false,if_true,if_false,Bool.false_eq_true]
   refine⟨trivial,?_⟩
   have sn:=ngt_stp ha
   have pa:pl (ngt a)=ngt a:=by
    unfold pl
    rw[if_neg]
    intro e
    rw[e,show stp 9223372036854775808=0 by decide] at sn
    omega
   have pb:pl b=b:=by
    unfold pl
    rw[if_neg]
    intro e
    rw[e,show stp 9223372036854775808=0 by decide] at h2
    omega
   rw[pa,pb]
   obtain⟨-,cm⟩:=cmpI_neg_iff (stp (ngt a)) (stp b)
   unfold fMax
   by_cases h3:stp b<stp (ngt a)
   ·rw[if_pos (cm.2 h3),if_neg (by omega),if_pos h3]
   ·rw[if_neg (fun h=>h3 (cm.1 h))]
    by_cases h4:stp (ngt a)<stp b
    ·rw[if_pos h4]
    ·have e:ngt a=b:=stp_eq (ngt_lt ha) hb (by omega) (by omega)
     rw[if_neg h4,if_neg h3,e]
     simp
theorem dabs8 (a b:Nat) (w:World) (ha:a<18446744073709551616) (hb:b<18446744073709551616) :
  Calls Tryz.prog 8 #[.agg #[.float .f64 a,.float .f64 b]] w fun r w'=>r=.returned (orV (vI a b) (mgX a b) (mgY a b) (.int .i64 0) (.int .i64 1))∧Bw w w':=by
 have k:=dabs_1 a b w ha hb
 cases hv:vI a b
 ·rw[hv,orV_f] at k
  rw[orV_f]
  exact k
 ·obtain⟨e1,e2⟩:=abs_eq ha hb hv
  rw[hv,e1,e2] at k
  exact k
theorem mgX_lt {a b:Nat} (ha:a<18446744073709551616) (hb:b<18446744073709551616):mgX a b<18446744073709551616:=by
 unfold mgX
 split
 ·exact ha
 ·split
  ·exact pl_lt (ngt_lt hb)
  ·omega
theorem mgY_lt {a b:Nat} (ha:a<18446744073709551616) (hb:b<18446744073709551616):mgY a b<18446744073709551616:=by
 unfold mgY
 split
 ·exact hb
 ·split
  ·exact pl_lt (ngt_lt ha)
  ·exact fMax_lt (ngt_lt ha) hb
theorem sums8_1 (a b c d x1 y1 x2 y2 x3 y3 x4 y4:Nat) (f1 f2:Int) (w:World)
  (k1:∀ W,Bw w W→Calls Tryz.prog 5 #[.agg #[.float .f64 a,.float .f64 b]] W fun r w'=>r=.returned (.tuple #[.agg #[.float .f64 x1,.float .f64 y1],.int .i64 f1])∧Bw W w')
  (k2:∀ W,Bw w W→Calls Tryz.prog 6 #[.agg #[.float .f64 a,.float .f64 b]] W fun r w'=>r=.returned (.tuple #[.agg #[.float .f64 x1,.float .f64 y1],.int .i64 f1])∧Bw W w')
  (k3:∀ W,Bw w W→Calls Tryz.prog 7 #[.agg #[.float .f64 a,.float .f64 b]] W fun r w'=>r=.returned (.tuple #[.agg #[.float .f64 x2,.float .f64 y2],.int .i64 f1])∧Bw W w')
  (k4:∀ W,Bw w W→Calls Tryz.prog 8 #[.agg #[.float .f64 a,.float .f64 b]] W fun r w'=>r=.returned (.tuple #[.agg #[.float .f64 x2,.float .f64 y2],.int .i64 f1])∧Bw W w')
  (k5:∀ W,Bw w W→Calls Tryz.prog 9 #[.agg #[.float .f64 a,.float .f64 b],.agg #[.float .f64 c,.float .f64 d]] W fun r w'=>r=.returned (.tuple #[.agg #[.float .f64 x3,.float .f64 y3],.int .i64 f2])∧Bw W w')
  (k6:∀ W,Bw w W→Calls Tryz.prog 10 #[.agg #[.float .f64 a,.float .f64 b],.agg #[.float .f64 c,.float .f64 d]] W fun r w'=>r=.returned (.tuple #[.agg #[.float .f64 x3,.float .f64 y3],.int .i64 f2])∧Bw W w')
  (k7:∀ W,Bw w W→Calls Tryz.prog 11 #[.agg #[.float .f64 a,.float .f64 b],.agg #[.float .f64 c,.float .f64 d]] W fun r w'=>r=.returned (.tuple #[.agg #[.float .f64 x4,.float .f64 y4],.int .i64 f2])∧Bw W w')
  (k8:∀ W,Bw w W→Calls Tryz.prog 12 #[.agg #[.float .f64 a,.float .f64 b],.agg #[.float .f64 c,.float .f64 d]] W fun r w'=>r=.returned (.tuple #[.agg #[.float .f64 x4,.float .f64 y4],.int .i64 f2])∧Bw W w')
  (m1:∀ W,Bw w W→Calls Tryz.prog 13 #[.agg #[.float .f64 x1,.float .f64 y1],.agg #[.float .f64 x1,.float .f64 y1]] W fun r w'=>r=.returned (.bool true)∧Bw W w')
  (m2:∀ W,Bw w W→Calls Tryz.prog 13 #[.agg #[.float .f64 x2,.float .f64 y2],.agg #[.float .f64 x2,.float .f64 y2]] W fun r w'=>r=.returned (.bool true)∧Bw W w')
  (m3:∀ W,Bw w W→Calls Tryz.prog 13 #[.agg #[.float .f64 x3,.float .f64 y3],.agg #[.float .f64 x3,.float .f64 y3]] W fun r w'=>r=.returned (.bool true)∧Bw W w')
  (m4:∀ W,Bw w W→Calls Tryz.prog 13 #[.agg #[.float .f64 x4,.float .f64 y4],.agg #[.float .f64 x4,.float .f64 y4]] W fun r w'=>r=.returned (.bool true)∧Bw W w')
  (m5:∀ W,Bw w W→Calls Tryz.prog 14 #[] W fun r w'=>r=.returned (.bool true)∧Bw W w') :
  Calls Tryz.prog 3 #[.agg #[.float .f64 a,.float .f64 b],.agg #[.float .f64 c,.float .f64 d]] w fun r w'=>r=.returned (.bool true)∧Bw w w':=by
 have fe1:(f1==f1)=true:=by simp
 have fe2:(f2==f2)=true:=by simp
 have Hk1:Hid _:=k1
 have Hk2:Hid _:=k2
 have Hk3:Hid _:=k3
 have Hk4:Hid _:=k4
 have Hk5:Hid _:=k5
 have Hk6:Hid _:=k6
 have Hk7:Hid _:=k7
 have Hk8:Hid _:=k8
 have Hm1:Hid _:=m1
 have Hm2:Hid _:=m2
 have Hm3:Hid _:=m3
 have Hm4:Hid _:=m4
 have Hm5:Hid _:=m5
 obtain⟨W,hW⟩:∃ W,W=((w.alloc (.cells #[.float .f64 a,.float .f64 b] 24)).alloc (.cells #[.float .f64 c,.float .f64 d] 24)):=⟨_,rfl⟩
 have HX:Hid (Bw w W∧IvB W (w.heap.size) a b∧IvB W (w.heap.size+1) c d):=by
  rw[hW]
  exact⟨bxs2_0 w a b c d,bxs2_1 w a b c d,bxs2_2 w a b c d⟩
 have HK:Hid (∀ w',Bw W w'→IvF w' (w.heap.size) a b∧IvF w' (w.heap.size+1) c d):=fun w' hb=>⟨(HX.out.2.1).later hb,(HX.out.2.2).later hb⟩
 have AW:Hid (Bw w W):=HX.out.1
 have BW_W:Hid (Bw W W):=Below.refl _ _
 clear k1 k2 k3 k4 k5 k6 k7 k8 m1 m2 m3 m4 m5
 go_enter Tryz.func3,Tryz.ntmps3
 go_upto_region 1 with fail
 rw[←hW]
 clear hW
 obtain⟨⟨c0,c1,z0,z1⟩,⟨c2,c3,z2,z3⟩⟩:=HK.out W BW_W.out
 clear z0 z1 z2 z3
 have kk:=Hk1.out W AW.out
 clear Hk1
 go_wp2_with fail
 clear c0 c1 c2 c3
 refine kk.mono ?_
 rintro r w1 ⟨rfl,hb⟩
 clear kk
 have Aw1:Hid (Bw w w1):=AW.out.trans (hb.mono AW.out.size)
 have BW_w1:Hid (Bw W w1):=BW_W.out.trans (hb.mono BW_W.out.size)
 clear hb AW BW_W 
 obtain⟨V1,hV1⟩:∃ V,V=w1.alloc (.cells #[.float .f64 x1,.float .f64 y1] 24):=⟨_,rfl⟩
 have AV1:Hid (Bw w V1):=by rw[hV1];exact Aw1.out.alloc Aw1.out.size _
 have BW_V1:Hid (Bw W V1):=by rw[hV1];exact BW_w1.out.alloc BW_w1.out.size _
 have XV1:Hid (IvB V1 w1.heap.size x1 y1):=by rw[hV1];exact IvB.new _ _ _
 have BV1_V1:Hid (Bw V1 V1):=Below.refl _ _
 clear Aw1 BW_w1 
 obtain⟨⟨c0,c1,z0,z1⟩,⟨c2,c3,z2,z3⟩⟩:=HK.out V1 BW_V1.out
 rw[hV1] at c0 c1 c2 c3
 clear z0 z1 z2 z3
 have kk:=Hk2.out V1 AV1.out
 clear Hk2
 go_wp2_with fail
 rw[←hV1]
 clear hV1
 generalize hgV1:w1.heap.size=gV1 at *
 clear hgV1
 clear c0 c1 c2 c3
 refine kk.mono ?_
 rintro r w2 ⟨rfl,hb⟩
 clear kk
 have Aw2:Hid (Bw w w2):=AV1.out.trans (hb.mono AV1.out.size)
 have BW_w2:Hid (Bw W w2):=BW_V1.out.trans (hb.mono BW_V1.out.size)
 have BV1_w2:Hid (Bw V1 w2):=BV1_V1.out.trans (hb.mono BV1_V1.out.size)
 clear hb AV1 BW_V1 BV1_V1
 obtain⟨V2,hV2⟩:∃ V,V=w2.alloc (.cells #[.float .f64 x1,.float .f64 y1] 24):=⟨_,rfl⟩
 have AV2:Hid (Bw w V2):=by rw[hV2];exact Aw2.out.alloc Aw2.out.size _
 have BW_V2:Hid (Bw W V2):=by rw[hV2];exact BW_w2.out.alloc BW_w2.out.size _
 have XV2:Hid (IvB V2 w2.heap.size x1 y1):=by rw[hV2];exact IvB.new _ _ _
 have BV1_V2:Hid (Bw V1 V2):=by rw[hV2];exact BV1_w2.out.alloc BV1_w2.out.size _
 have BV2_V2:Hid (Bw V2 V2):=Below.refl _ _
 clear Aw2 BW_w2 BV1_w2
 obtain⟨⟨c0,c1,z0,z1⟩,⟨c2,c3,z2,z3⟩⟩:=HK.out V2 BW_V2.out
 rw[hV2] at c0 c1 c2 c3
 clear z0 z1 z2 z3
 have kk:=Hk3.out V2 AV2.out
 clear Hk3
 go_wp2_with fail
 rw[←hV2]
 clear hV2
 generalize hgV2:w2.heap.size=gV2 at *
 clear hgV2
 clear c0 c1 c2 c3
 refine kk.mono ?_
 rintro r w3 ⟨rfl,hb⟩
 clear kk
 have Aw3:Hid (Bw w w3):=AV2.out.trans (hb.mono AV2.out.size)
 have BW_w3:Hid (Bw W w3):=BW_V2.out.trans (hb.mono BW_V2.out.size)
 have BV1_w3:Hid (Bw V1 w3):=BV1_V2.out.trans (hb.mono BV1_V2.out.size)
 have BV2_w3:Hid (Bw V2 w3):=BV2_V2.out.trans (hb.mono BV2_V2.out.size)
 clear hb AV2 BW_V2 BV1_V2 BV2_V2
 obtain⟨V3,hV3⟩:∃ V,V=w3.alloc (.cells #[.float .f64 x2,.float .f64 y2] 24):=⟨_,rfl⟩
 have AV3:Hid (Bw w V3):=by rw[hV3];exact Aw3.out.alloc Aw3.out.size _
 have BW_V3:Hid (Bw W V3):=by rw[hV3];exact BW_w3.out.alloc BW_w3.out.size _
 have XV3:Hid (IvB V3 w3.heap.size x2 y2):=by rw[hV3];exact IvB.new _ _ _
 have BV1_V3:Hid (Bw V1 V3):=by rw[hV3];exact BV1_w3.out.alloc BV1_w3.out.size _
 have BV2_V3:Hid (Bw V2 V3):=by rw[hV3];exact BV2_w3.out.alloc BV2_w3.out.size _
 have BV3_V3:Hid (Bw V3 V3):=Below.refl _ _
 clear Aw3 BW_w3 BV1_w3 BV2_w3
 obtain⟨⟨c0,c1,z0,z1⟩,⟨c2,c3,z2,z3⟩⟩:=HK.out V3 BW_V3.out
 rw[hV3] at c0 c1 c2 c3
 clear z0 z1 z2 z3
 have kk:=Hk4.out V3 AV3.out
 clear Hk4
 go_wp2_with fail
 rw[←hV3]
 clear hV3
 generalize hgV3:w3.heap.size=gV3 at *
 clear hgV3
 clear c0 c1 c2 c3
 refine kk.mono ?_
 rintro r w4 ⟨rfl,hb⟩
 clear kk
 have Aw4:Hid (Bw w w4):=AV3.out.trans (hb.mono AV3.out.size)
 have BW_w4:Hid (Bw W w4):=BW_V3.out.trans (hb.mono BW_V3.out.size)
 have BV1_w4:Hid (Bw V1 w4):=BV1_V3.out.trans (hb.mono BV1_V3.out.size)
 have BV2_w4:Hid (Bw V2 w4):=BV2_V3.out.trans (hb.mono BV2_V3.out.size)
 have BV3_w4:Hid (Bw V3 w4):=BV3_V3.out.trans (hb.mono BV3_V3.out.size)
 clear hb AV3 BW_V3 BV1_V3 BV2_V3 BV3_V3
 obtain⟨V4,hV4⟩:∃ V,V=w4.alloc (.cells #[.float .f64 x2,.float .f64 y2] 24):=⟨_,rfl⟩
 have AV4:Hid (Bw w V4):=by rw[hV4];exact Aw4.out.alloc Aw4.out.size _
 have BW_V4:Hid (Bw W V4):=by rw[hV4];exact BW_w4.out.alloc BW_w4.out.size _
 have XV4:Hid (IvB V4 w4.heap.size x2 y2):=by rw[hV4];exact IvB.new _ _ _
 have BV1_V4:Hid (Bw V1 V4):=by rw[hV4];exact BV1_w4.out.alloc BV1_w4.out.size _
 have BV2_V4:Hid (Bw V2 V4):=by rw[hV4];exact BV2_w4.out.alloc BV2_w4.out.size _
 have BV3_V4:Hid (Bw V3 V4):=by rw[hV4];exact BV3_w4.out.alloc BV3_w4.out.size _
 have BV4_V4:Hid (Bw V4 V4):=Below.refl _ _
 clear Aw4 BW_w4 BV1_w4 BV2_w4 BV3_w4
 obtain⟨⟨c0,c1,z0,z1⟩,⟨c2,c3,z2,z3⟩⟩:=HK.out V4 BW_V4.out
 rw[hV4] at c0 c1 c2 c3
 clear z0 z1 z2 z3
 have kk:=Hk5.out V4 AV4.out
 clear Hk5
 go_wp2_with fail
 rw[←hV4]
 clear hV4
 generalize hgV4:w4.heap.size=gV4 at *
 clear hgV4
 clear c0 c1 c2 c3
 refine kk.mono ?_
 rintro r w5 ⟨rfl,hb⟩
 clear kk
 have Aw5:Hid (Bw w w5):=AV4.out.trans (hb.mono AV4.out.size)
 have BW_w5:Hid (Bw W w5):=BW_V4.out.trans (hb.mono BW_V4.out.size)
 have BV1_w5:Hid (Bw V1 w5):=BV1_V4.out.trans (hb.mono BV1_V4.out.size)
 have BV2_w5:Hid (Bw V2 w5):=BV2_V4.out.trans (hb.mono BV2_V4.out.size)
 have BV3_w5:Hid (Bw V3 w5):=BV3_V4.out.trans (hb.mono BV3_V4.out.size)
 have BV4_w5:Hid (Bw V4 w5):=BV4_V4.out.trans (hb.mono BV4_V4.out.size)
 clear hb AV4 BW_V4 BV1_V4 BV2_V4 BV3_V4 BV4_V4
 obtain⟨V5,hV5⟩:∃ V,V=w5.alloc (.cells #[.float .f64 x3,.float .f64 y3] 24):=⟨_,rfl⟩
 have AV5:Hid (Bw w V5):=by rw[hV5];exact Aw5.out.alloc Aw5.out.size _
 have BW_V5:Hid (Bw W V5):=by rw[hV5];exact BW_w5.out.alloc BW_w5.out.size _
 have XV5:Hid (IvB V5 w5.heap.size x3 y3):=by rw[hV5];exact IvB.new _ _ _
 have BV1_V5:Hid (Bw V1 V5):=by rw[hV5];exact BV1_w5.out.alloc BV1_w5.out.size _
 have BV2_V5:Hid (Bw V2 V5):=by rw[hV5];exact BV2_w5.out.alloc BV2_w5.out.size _
 have BV3_V5:Hid (Bw V3 V5):=by rw[hV5];exact BV3_w5.out.alloc BV3_w5.out.size _
 have BV4_V5:Hid (Bw V4 V5):=by rw[hV5];exact BV4_w5.out.alloc BV4_w5.out.size _
 have BV5_V5:Hid (Bw V5 V5):=Below.refl _ _
 clear Aw5 BW_w5 BV1_w5 BV2_w5 BV3_w5 BV4_w5
 obtain⟨⟨c0,c1,z0,z1⟩,⟨c2,c3,z2,z3⟩⟩:=HK.out V5 BW_V5.out
 rw[hV5] at c0 c1 c2 c3
 clear z0 z1 z2 z3
 have kk:=Hk6.out V5 AV5.out
 clear Hk6
 go_wp2_with fail
 rw[←hV5]
 clear hV5
 generalize hgV5:w5.heap.size=gV5 at *
 clear hgV5
 clear c0 c1 c2 c3
 refine kk.mono ?_
 rintro r w6 ⟨rfl,hb⟩
 clear kk
 have Aw6:Hid (Bw w w6):=AV5.out.trans (hb.mono AV5.out.size)
 have BW_w6:Hid (Bw W w6):=BW_V5.out.trans (hb.mono BW_V5.out.size)
 have BV1_w6:Hid (Bw V1 w6):=BV1_V5.out.trans (hb.mono BV1_V5.out.size)
 have BV2_w6:Hid (Bw V2 w6):=BV2_V5.out.trans (hb.mono BV2_V5.out.size)
 have BV3_w6:Hid (Bw V3 w6):=BV3_V5.out.trans (hb.mono BV3_V5.out.size)
 have BV4_w6:Hid (Bw V4 w6):=BV4_V5.out.trans (hb.mono BV4_V5.out.size)
 have BV5_w6:Hid (Bw V5 w6):=BV5_V5.out.trans (hb.mono BV5_V5.out.size)
 clear hb AV5 BW_V5 BV1_V5 BV2_V5 BV3_V5 BV4_V5 BV5_V5
 obtain⟨V6,hV6⟩:∃ V,V=w6.alloc (.cells #[.float .f64 x3,.float .f64 y3] 24):=⟨_,rfl⟩
 have AV6:Hid (Bw w V6):=by rw[hV6];exact Aw6.out.alloc Aw6.out.size _
 have BW_V6:Hid (Bw W V6):=by rw[hV6];exact BW_w6.out.alloc BW_w6.out.size _
 have XV6:Hid (IvB V6 w6.heap.size x3 y3):=by rw[hV6];exact IvB.new _ _ _
 have BV1_V6:Hid (Bw V1 V6):=by rw[hV6];exact BV1_w6.out.alloc BV1_w6.out.size _
 have BV2_V6:Hid (Bw V2 V6):=by rw[hV6];exact BV2_w6.out.alloc BV2_w6.out.size _
 have BV3_V6:Hid (Bw V3 V6):=by rw[hV6];exact BV3_w6.out.alloc BV3_w6.out.size _
 have BV4_V6:Hid (Bw V4 V6):=by rw[hV6];exact BV4_w6.out.alloc BV4_w6.out.size _
 have BV5_V6:Hid (Bw V5 V6):=by rw[hV6];exact BV5_w6.out.alloc BV5_w6.out.size _
 have BV6_V6:Hid (Bw V6 V6):=Below.refl _ _
 clear Aw6 BW_w6 BV1_w6 BV2_w6 BV3_w6 BV4_w6 BV5_w6
 obtain⟨⟨c0,c1,z0,z1⟩,⟨c2,c3,z2,z3⟩⟩:=HK.out V6 BW_V6.out
 rw[hV6] at c0 c1 c2 c3
 clear z0 z1 z2 z3
 have kk:=Hk7.out V6 AV6.out
 clear Hk7
 go_wp2_with fail
 rw[←hV6]
 clear hV6
 generalize hgV6:w6.heap.size=gV6 at *
 clear hgV6
 clear c0 c1 c2 c3
 refine kk.mono ?_
 rintro r w7 ⟨rfl,hb⟩
 clear kk
 have Aw7:Hid (Bw w w7):=AV6.out.trans (hb.mono AV6.out.size)
 have BW_w7:Hid (Bw W w7):=BW_V6.out.trans (hb.mono BW_V6.out.size)
 have BV1_w7:Hid (Bw V1 w7):=BV1_V6.out.trans (hb.mono BV1_V6.out.size)
 have BV2_w7:Hid (Bw V2 w7):=BV2_V6.out.trans (hb.mono BV2_V6.out.size)
 have BV3_w7:Hid (Bw V3 w7):=BV3_V6.out.trans (hb.mono BV3_V6.out.size)
 have BV4_w7:Hid (Bw V4 w7):=BV4_V6.out.trans (hb.mono BV4_V6.out.size)
 have BV5_w7:Hid (Bw V5 w7):=BV5_V6.out.trans (hb.mono BV5_V6.out.size)
 have BV6_w7:Hid (Bw V6 w7):=BV6_V6.out.trans (hb.mono BV6_V6.out.size)
 clear hb AV6 BW_V6 BV1_V6 BV2_V6 BV3_V6 BV4_V6 BV5_V6 BV6_V6
 obtain⟨V7,hV7⟩:∃ V,V=w7.alloc (.cells #[.float .f64 x4,.float .f64 y4] 24):=⟨_,rfl⟩
 have AV7:Hid (Bw w V7):=by rw[hV7];exact Aw7.out.alloc Aw7.out.size _
 have BW_V7:Hid (Bw W V7):=by rw[hV7];exact BW_w7.out.alloc BW_w7.out.size _
 have XV7:Hid (IvB V7 w7.heap.size x4 y4):=by rw[hV7];exact IvB.new _ _ _
 have BV1_V7:Hid (Bw V1 V7):=by rw[hV7];exact BV1_w7.out.alloc BV1_w7.out.size _
 have BV2_V7:Hid (Bw V2 V7):=by rw[hV7];exact BV2_w7.out.alloc BV2_w7.out.size _
 have BV3_V7:Hid (Bw V3 V7):=by rw[hV7];exact BV3_w7.out.alloc BV3_w7.out.size _
 have BV4_V7:Hid (Bw V4 V7):=by rw[hV7];exact BV4_w7.out.alloc BV4_w7.out.size _
 have BV5_V7:Hid (Bw V5 V7):=by rw[hV7];exact BV5_w7.out.alloc BV5_w7.out.size _
 have BV6_V7:Hid (Bw V6 V7):=by rw[hV7];exact BV6_w7.out.alloc BV6_w7.out.size _
 have BV7_V7:Hid (Bw V7 V7):=Below.refl _ _
 clear Aw7 BW_w7 BV1_w7 BV2_w7 BV3_w7 BV4_w7 BV5_w7 BV6_w7
 obtain⟨⟨c0,c1,z0,z1⟩,⟨c2,c3,z2,z3⟩⟩:=HK.out V7 BW_V7.out
 rw[hV7] at c0 c1 c2 c3
 clear z0 z1 z2 z3
 have kk:=Hk8.out V7 AV7.out
 clear Hk8
 go_wp2_with fail
 rw[←hV7]
 clear hV7
 generalize hgV7:w7.heap.size=gV7 at *
 clear hgV7
 clear c0 c1 c2 c3
 refine kk.mono ?_
 rintro r w8 ⟨rfl,hb⟩
 clear kk
 have Aw8:Hid (Bw w w8):=AV7.out.trans (hb.mono AV7.out.size)
 have BW_w8:Hid (Bw W w8):=BW_V7.out.trans (hb.mono BW_V7.out.size)
 have BV1_w8:Hid (Bw V1 w8):=BV1_V7.out.trans (hb.mono BV1_V7.out.size)
 have BV2_w8:Hid (Bw V2 w8):=BV2_V7.out.trans (hb.mono BV2_V7.out.size)
 have BV3_w8:Hid (Bw V3 w8):=BV3_V7.out.trans (hb.mono BV3_V7.out.size)
 have BV4_w8:Hid (Bw V4 w8):=BV4_V7.out.trans (hb.mono BV4_V7.out.size)
 have BV5_w8:Hid (Bw V5 w8):=BV5_V7.out.trans (hb.mono BV5_V7.out.size)
 have BV6_w8:Hid (Bw V6 w8):=BV6_V7.out.trans (hb.mono BV6_V7.out.size)
 have BV7_w8:Hid (Bw V7 w8):=BV7_V7.out.trans (hb.mono BV7_V7.out.size)
 clear hb AV7 BW_V7 BV1_V7 BV2_V7 BV3_V7 BV4_V7 BV5_V7 BV6_V7 BV7_V7
 obtain⟨V8,hV8⟩:∃ V,V=w8.alloc (.cells #[.float .f64 x4,.float .f64 y4] 24):=⟨_,rfl⟩
 have AV8:Hid (Bw w V8):=by rw[hV8];exact Aw8.out.alloc Aw8.out.size _
 have BW_V8:Hid (Bw W V8):=by rw[hV8];exact BW_w8.out.alloc BW_w8.out.size _
 have XV8:Hid (IvB V8 w8.heap.size x4 y4):=by rw[hV8];exact IvB.new _ _ _
 have BV1_V8:Hid (Bw V1 V8):=by rw[hV8];exact BV1_w8.out.alloc BV1_w8.out.size _
 have BV2_V8:Hid (Bw V2 V8):=by rw[hV8];exact BV2_w8.out.alloc BV2_w8.out.size _
 have BV3_V8:Hid (Bw V3 V8):=by rw[hV8];exact BV3_w8.out.alloc BV3_w8.out.size _
 have BV4_V8:Hid (Bw V4 V8):=by rw[hV8];exact BV4_w8.out.alloc BV4_w8.out.size _
 have BV5_V8:Hid (Bw V5 V8):=by rw[hV8];exact BV5_w8.out.alloc BV5_w8.out.size _
 have BV6_V8:Hid (Bw V6 V8):=by rw[hV8];exact BV6_w8.out.alloc BV6_w8.out.size _
 have BV7_V8:Hid (Bw V7 V8):=by rw[hV8];exact BV7_w8.out.alloc BV7_w8.out.size _
 have BV8_V8:Hid (Bw V8 V8):=Below.refl _ _
 clear Aw8 BW_w8 BV1_w8 BV2_w8 BV3_w8 BV4_w8 BV5_w8 BV6_w8 BV7_w8
 go_upto_region 9 with fail
 rw[←hV8]
 clear hV8
 generalize hgV8:w8.heap.size=gV8 at *
 clear hgV8
 have HKK:Hid (∀ w',Bw V8 w'→w'.cell? ⟨w.heap.size,0,none⟩=some (.float .f64 a)∧w'.cell? ⟨w.heap.size,1,none⟩=some (.float .f64 b)∧w'.cell? ⟨w.heap.size+1,0,none⟩=some (.float .f64 c)∧w'.cell? ⟨w.heap.size+1,1,none⟩=some (.float .f64 d)∧w'.cell? ⟨gV1,0,none⟩=some (.float .f64 x1)∧w'.cell? ⟨gV1,1,none⟩=some (.float .f64 y1)∧w'.cell? ⟨gV2,0,none⟩=some (.float .f64 x1)∧w'.cell? ⟨gV2,1,none⟩=some (.float .f64 y1)∧w'.cell? ⟨gV3,0,none⟩=some (.float .f64 x2)∧w'.cell? ⟨gV3,1,none⟩=some (.float .f64 y2)∧w'.cell? ⟨gV4,0,none⟩=some (.float .f64 x2)∧w'.cell? ⟨gV4,1,none⟩=some (.float .f64 y2)∧w'.cell? ⟨gV5,0,none⟩=some (.float .f64 x3)∧w'.cell? ⟨gV5,1,none⟩=some (.float .f64 y3)∧w'.cell? ⟨gV6,0,none⟩=some (.float .f64 x3)∧w'.cell? ⟨gV6,1,none⟩=some (.float .f64 y3)∧w'.cell? ⟨gV7,0,none⟩=some (.float .f64 x4)∧w'.cell? ⟨gV7,1,none⟩=some (.float .f64 y4)∧w'.cell? ⟨gV8,0,none⟩=some (.float .f64 x4)∧w'.cell? ⟨gV8,1,none⟩=some (.float .f64 y4)∧Bw V8 w'):=fun w' hb=>⟨(HK.out w' (BW_V8.out.trans (hb.mono BW_V8.out.size))).1.1,(HK.out w' (BW_V8.out.trans (hb.mono BW_V8.out.size))).1.2.1,(HK.out w' (BW_V8.out.trans (hb.mono BW_V8.out.size))).2.1,(HK.out w' (BW_V8.out.trans (hb.mono BW_V8.out.size))).2.2.1,(XV1.out.later (BV1_V8.out.trans (hb.mono BV1_V8.out.size))).1,(XV1.out.later (BV1_V8.out.trans (hb.mono BV1_V8.out.size))).2.1,(XV2.out.later (BV2_V8.out.trans (hb.mono BV2_V8.out.size))).1,(XV2.out.later (BV2_V8.out.trans (hb.mono BV2_V8.out.size))).2.1,(XV3.out.later (BV3_V8.out.trans (hb.mono BV3_V8.out.size))).1,(XV3.out.later (BV3_V8.out.trans (hb.mono BV3_V8.out.size))).2.1,(XV4.out.later (BV4_V8.out.trans (hb.mono BV4_V8.out.size))).1,(XV4.out.later (BV4_V8.out.trans (hb.mono BV4_V8.out.size))).2.1,(XV5.out.later (BV5_V8.out.trans (hb.mono BV5_V8.out.size))).1,(XV5.out.later (BV5_V8.out.trans (hb.mono BV5_V8.out.size))).2.1,(XV6.out.later (BV6_V8.out.trans (hb.mono BV6_V8.out.size))).1,(XV6.out.later (BV6_V8.out.trans (hb.mono BV6_V8.out.size))).2.1,(XV7.out.later (BV7_V8.out.trans (hb.mono BV7_V8.out.size))).1,(XV7.out.later (BV7_V8.out.trans (hb.mono BV7_V8.out.size))).2.1,(XV8.out.later (BV8_V8.out.trans (hb.mono BV8_V8.out.size))).1,(XV8.out.later (BV8_V8.out.trans (hb.mono BV8_V8.out.size))).2.1,hb⟩
 have hBR:Bw V8 V8.drew:=(Below.refl _ _).drew
 have q1:∀ W,Bw V8 W→Calls Tryz.prog 13 #[.agg #[.float .f64 x1,.float .f64 y1],.agg #[.float .f64 x1,.float .f64 y1]] W fun r w'=>r=.returned (.bool true)∧Bw V8 w':=fun W h=>(Hm1.out W (AV8.out.trans (h.mono AV8.out.size))).mono fun r w' ⟨e1,e2⟩=>⟨e1,h.trans (e2.mono h.size)⟩
 have q2:∀ W,Bw V8 W→Calls Tryz.prog 13 #[.agg #[.float .f64 x2,.float .f64 y2],.agg #[.float .f64 x2,.float .f64 y2]] W fun r w'=>r=.returned (.bool true)∧Bw V8 w':=fun W h=>(Hm2.out W (AV8.out.trans (h.mono AV8.out.size))).mono fun r w' ⟨e1,e2⟩=>⟨e1,h.trans (e2.mono h.size)⟩
 have q3:∀ W,Bw V8 W→Calls Tryz.prog 13 #[.agg #[.float .f64 x3,.float .f64 y3],.agg #[.float .f64 x3,.float .f64 y3]] W fun r w'=>r=.returned (.bool true)∧Bw V8 w':=fun W h=>(Hm3.out W (AV8.out.trans (h.mono AV8.out.size))).mono fun r w' ⟨e1,e2⟩=>⟨e1,h.trans (e2.mono h.size)⟩
 have q4:∀ W,Bw V8 W→Calls Tryz.prog 13 #[.agg #[.float .f64 x4,.float .f64 y4],.agg #[.float .f64 x4,.float .f64 y4]] W fun r w'=>r=.returned (.bool true)∧Bw V8 w':=fun W h=>(Hm4.out W (AV8.out.trans (h.mono AV8.out.size))).mono fun r w' ⟨e1,e2⟩=>⟨e1,h.trans (e2.mono h.size)⟩
 have q5:∀ W,Bw V8 W→Calls Tryz.prog 14 #[] W fun r w'=>r=.returned (.bool true)∧Bw V8 w':=fun W h=>(Hm5.out W (AV8.out.trans (h.mono AV8.out.size))).mono fun r w' ⟨e1,e2⟩=>⟨e1,h.trans (e2.mono h.size)⟩
 clear Hm1 Hm2 Hm3 Hm4 Hm5 XV1 BV1_V8 XV2 BV2_V8 XV3 BV3_V8 XV4 BV4_V8 XV5 BV5_V8 XV6 BV6_V8 XV7 BV7_V8 XV8 BV8_V8 HX HK BW_V8
 obtain⟨a0,a1,a2,a3,a4,a5,a6,a7,a8,a9,a10,a11,a12,a13,a14,a15,a16,a17,a18,a19,-⟩:=HKK.out V8 (Below.refl _ _)
 have D0:Hid (Bw V8 V8):=Below.refl _ _
 have kk:=q1 V8 D0.out
 go_wp2_with fail
 refine kk.mono ?_
 rintro r z_1 ⟨rfl,hb⟩
 have D1:Hid (Bw V8 z_1):=hb
 clear kk hb D0
 clear a0 a1 a2 a3 a4 a5 a6 a7 a8 a9 a10 a11 a12 a13 a14 a15 a16 a17 a18 a19
 obtain⟨a0,a1,a2,a3,a4,a5,a6,a7,a8,a9,a10,a11,a12,a13,a14,a15,a16,a17,a18,a19,-⟩:=HKK.out z_1 D1.out
 have kk:=q2 z_1 D1.out
 go_wp2_with fail
 refine kk.mono ?_
 rintro r z_2 ⟨rfl,hb⟩
 have D2:Hid (Bw V8 z_2):=hb
 clear kk hb D1
 clear a0 a1 a2 a3 a4 a5 a6 a7 a8 a9 a10 a11 a12 a13 a14 a15 a16 a17 a18 a19
 obtain⟨a0,a1,a2,a3,a4,a5,a6,a7,a8,a9,a10,a11,a12,a13,a14,a15,a16,a17,a18,a19,-⟩:=HKK.out z_2 D2.out
 have kk:=q3 z_2 D2.out
 go_wp2_with fail
 refine kk.mono ?_
 rintro r z_3 ⟨rfl,hb⟩
 have D3:Hid (Bw V8 z_3):=hb
 clear kk hb D2
 clear a0 a1 a2 a3 a4 a5 a6 a7 a8 a9 a10 a11 a12 a13 a14 a15 a16 a17 a18 a19
 obtain⟨a0,a1,a2,a3,a4,a5,a6,a7,a8,a9,a10,a11,a12,a13,a14,a15,a16,a17,a18,a19,-⟩:=HKK.out z_3 D3.out
 have kk:=q4 z_3 D3.out
 go_wp2_with fail
 refine kk.mono ?_
 rintro r z_4 ⟨rfl,hb⟩
 have D4:Hid (Bw V8 z_4):=hb
 clear kk hb D3
 clear a0 a1 a2 a3 a4 a5 a6 a7 a8 a9 a10 a11 a12 a13 a14 a15 a16 a17 a18 a19
 obtain⟨a0,a1,a2,a3,a4,a5,a6,a7,a8,a9,a10,a11,a12,a13,a14,a15,a16,a17,a18,a19,-⟩:=HKK.out z_4 D4.out
 have kk:=q5 z_4 D4.out
 go_wp2_with fail
 refine kk.mono ?_
 rintro r wz ⟨rfl,hb⟩
 have D5:Hid (Bw V8 wz):=hb
 clear kk hb D4
 clear a0 a1 a2 a3 a4 a5 a6 a7 a8 a9 a10 a11 a12 a13 a14 a15 a16 a17 a18 a19
 obtain⟨a0,a1,a2,a3,a4,a5,a6,a7,a8,a9,a10,a11,a12,a13,a14,a15,a16,a17,a18,a19,-⟩:=HKK.out wz D5.out
 have hbz:=D5.out
 have HF:Hid (Bw w wz):=AV8.out.trans (hbz.mono AV8.out.size)
 clear q1 q2 q3 q4 q5 HKK hBR a0 a1 a2 a3 a4 a5 a6 a7 a8 a9 a10 a11 a12 a13 a14 a15 a16 a17 a18 a19 hbz
 go_wp2_with fail
 go_ret
 exact⟨rfl,HF.out⟩
theorem orV_i8 (ok:Bool) (x y:Nat):orV ok x y (.int .i64 0) (.int .i64 1)=.tuple #[.agg #[.float .f64 (if ok then x else 0),.float .f64 (if ok then y else 0)],.int .i64 (if ok then 0 else 1)]:=by
 unfold orV;cases ok <;> rfl
theorem or_lt8 {ok:Bool} {x:Nat} (h:x<18446744073709551616):(if ok then x else 0)<18446744073709551616:=by
 cases ok
 ·rw[if_neg (by simp)];omega
 ·exact h
theorem spanSums_ok (a b c d:Nat) (w:World) (ha:a<18446744073709551616) (hb:b<18446744073709551616) (hc:c<18446744073709551616) (hd:d<18446744073709551616) (hT:Tab32 w) (hJ:Ie.Tab w) :
  Calls Tryz.prog 3 #[.agg #[.float .f64 a,.float .f64 b],.agg #[.float .f64 c,.float .f64 d]] w fun r w'=>r=.returned (.bool true)∧Bw w w' :=
 sums8_1 a b c d _ _ _ _ _ _ _ _ _ _ w
  (fun W _=>by have k:=sneg a b W ha hb;rw[orV_i8] at k;exact k)
  (fun W _=>by have k:=dneg8 a b W ha hb;rw[orV_i8] at k;exact k)
  (fun W _=>by have k:=sabs a b W ha hb;rw[orV_i8] at k;exact k)
  (fun W _=>by have k:=dabs8 a b W ha hb;rw[orV_i8] at k;exact k)
  (fun W h=>by have k:=sadd a b c d W ha hb hc hd (hT.later h) (Tab.later hJ h);rw[orV_i8] at k;exact k)
  (fun W _=>by have k:=dadd8 a b c d W ha hb hc hd;rw[orV_i8] at k;exact k)
  (fun W h=>by have k:=ssub a b c d W ha hb hc hd (hT.later h) (Tab.later hJ h);rw[orV_i8] at k;exact k)
  (fun W _=>by have k:=dsub8 a b c d W ha hb hc hd;rw[orV_i8] at k;exact k)
  (fun W _=>isame _ _ (or_lt8 (pl_lt (ngt_lt hb))) (or_lt8 (pl_lt (ngt_lt ha))) W) (fun W _=>isame _ _ (or_lt8 (mgX_lt ha hb)) (or_lt8 (mgY_lt ha hb)) W)
  (fun W _=>isame _ _ (or_lt8 (pl_lt (fAdM_lt ha hc (by omega)))) (or_lt8 (pl_lt (fAdM_lt hb hd (by omega)))) W)
  (fun W _=>isame _ _ (or_lt8 (pl_lt (fAdM_lt ha (pl_lt (ngt_lt hd)) (by omega)))) (or_lt8 (pl_lt (fAdM_lt hb (pl_lt (ngt_lt hc)) (by omega)))) W)
  (fun W h=>works8 W (hT.later h) (Tab.later hJ h))
end Go.Proofs.YtjiolfnchiioaaaGreatDoor
