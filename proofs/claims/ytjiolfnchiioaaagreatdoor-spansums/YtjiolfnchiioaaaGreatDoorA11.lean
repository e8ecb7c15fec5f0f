/- Own work: contracts of the program's functions, part 11: SNF SNG SNI SNJ SNL SNQ SNR. -/
import Derived.Test.YtjiolfnchiioaaaGreatDoorA10
import Derived.Laws.StructEq
import Derived.Test.YtjiolfnchiioaaaGreatDoorA6
import Derived.Test.YtjiolfnchiioaaaGreatDoorA7
import Derived.Test.YtjiolfnchiioaaaGreatDoorA8
import Derived.Test.YtjiolfnchiioaaaGreatDoorA9
import Derived.Test.YtjiolfnchiioaaaGreatDoorA5

set_option maxHeartbeats 16000000
set_option maxRecDepth 200000
set_option linter.unusedVariables false
set_option linter.unusedSimpArgs false
namespace Go.Proofs.YtjiolfnchiioaaaGreatDoor
open Go.RowKit Go.Fl64
attribute [local go_sem] run_store_flt
theorem flt_under:Tryz.prog.underlying 22=some (.float .f64):=by kernel_rfl
theorem run_equalIn_flt (k x y:Nat) (w:World):(Op.equalIn (k+1) 22 (.float .f64 x) (.float .f64 y)).run Tryz.prog w=.ok (FloatKind.f64.format.order x y==some Ordering.eq) w:=by
 simp[Op.equalIn,run_underlying flt_under,Op.floatEq]
theorem eqIv (a b c d:Nat) (w:World):(Op.equalIn 10000 24 (.agg #[.float .f64 a,.float .f64 b]) (.agg #[.float .f64 c,.float .f64 d])).run Tryz.prog w=.ok ((FloatKind.f64.format.order a c==some Ordering.eq)&&(FloatKind.f64.format.order b d==some Ordering.eq)) w:=by
 have hS:Tryz.prog.underlying 24=some (.struct (Tryz.prog.fieldsOf 24)):=by kernel_rfl
 have hp:Tryz.prog.stoodInHeld 24=false:=by kernel_rfl
 have h1:=fun k=>run_equalIn_flt k a c w
 have h2:=fun k=>run_equalIn_flt k b d w
 rw[show(10000:Nat)=9999+1 from rfl,run_equalIn_agg w 9999 24 _ _ hS hp]
 simp only[Program.fieldsOf,Tryz.underlying24]
 rw[show(9999:Nat)=9998+1 from rfl]
 generalize (FloatKind.f64.format.order a c==some Ordering.eq)=p at *
 generalize (FloatKind.f64.format.order b d==some Ordering.eq)=q at *
 go_simp
 cases p <;> cases q <;> simp
def midV (v q i j:Bool) (H:Nat):Value:=if v then(if q then .tuple #[.float .f64 0,.int .i64 0] else if i then .tuple #[.float .f64 18442240474082181119,.int .i64 0] else if j then .tuple #[.float .f64 9218868437227405311,.int .i64 0] else .tuple #[.float .f64 H,.int .i64 0])else .tuple #[.float .f64 0,.int .i64 1]
theorem smid_1 (lo hi H:Nat) (v q i j:Bool) (w:World)
  (k1:∀ W,Calls Tryz.prog 20 #[.agg #[.float .f64 lo,.float .f64 hi]] W fun r w'=>r=.returned (.bool v)∧Bw W w')
  (he:∀ W,(Op.equalIn 10000 24 (.agg #[.float .f64 lo,.float .f64 hi]) (.agg #[.float .f64 18442240474082181120,.float .f64 9218868437227405312])).run Tryz.prog W=.ok q W)
  (k3:∀ W,Calls Tryz.prog 38 #[.float .f64 lo,.int .i64 0] W fun r w'=>r=.returned (.bool i)∧w'=W)
  (k4:∀ W,Calls Tryz.prog 38 #[.float .f64 hi,.int .i64 0] W fun r w'=>r=.returned (.bool j)∧w'=W)
  (k5:v=true→i=false→j=false→∀ W,Bw w W→Calls Tryz.prog 39 #[.float .f64 lo,.float .f64 hi] W fun r w'=>r=.returned (.float .f64 H)∧Bw W w') :
  Calls Tryz.prog 15 #[.agg #[.float .f64 lo,.float .f64 hi]] w fun r w'=>r=.returned (midV v q i j H)∧Bw w w':=by
 have HE:Hid (∀ W,(Op.equalIn 10000 24 (.agg #[.float .f64 lo,.float .f64 hi]) (.agg #[.float .f64 18442240474082181120,.float .f64 9218868437227405312])).run Tryz.prog W=.ok q W):=he
 have H3:Hid _:=k3
 have H4:Hid _:=k4
 have H5:Hid _:=k5
 obtain⟨W,hW⟩:∃ W,W=(w.alloc (.cells #[.float .f64 lo,.float .f64 hi] 24)):=⟨_,rfl⟩
 have HX:Hid (Bw w W∧IvB W (w.heap.size) lo hi):=by
  rw[hW]
  exact⟨bxs1_0 w lo hi,bxs1_1 w lo hi⟩
 have HK:Hid (∀ w',Bw W w'→IvF w' (w.heap.size) lo hi):=fun w' hb=>(HX.out.2).later hb
 obtain⟨c0,c1,z0,z1⟩:=HK.out W (Below.refl _ _)
 have kk:=k1 W
 have HV:Hid (Bw w W):=HX.out.1
 clear k1 k3 k4 k5 he
 go_enter Tryz.func15,Tryz.ntmps15
 go_upto_region 1 with fail
 rw[←hW]
 clear hW
 go_wp2_with fail
 refine kk.mono ?_
 rintro r w1 ⟨rfl,hb1⟩
 clear kk c0 c1 z0 z1
 obtain⟨c0,c1,z0,z1⟩:=HK.out w1 hb1
 have HB1:Hid (Bw W w1):=hb1
 clear hb1
 cases v
 ·have HB:Hid (Bw w w1):=HV.out.trans (HB1.out.mono HV.out.size)
  clear HK HX HB1 H3 H4 H5 HE
  go_wp2
  go_ret2
  exact⟨rfl,HB.out⟩
 have he:=HE.out
 have hR:Bw W w1.drew:=HB1.out.drew
 obtain⟨d0,d1,y0,y1⟩:=HK.out w1.drew hR
 go_upto_region 3 with fail
 go_region_held3 (fun w'=>w'.cell? ⟨w.heap.size,0,none⟩=some (.float .f64 lo)∧w'.cell? ⟨w.heap.size,1,none⟩=some (.float .f64 hi)) (first|(with_reducible assumption)|exact⟨d0,d1⟩|exact⟨c0,c1⟩|exact⟨(HK.out _ hb2).1,(HK.out _ hb2).2.1⟩|exact⟨(HK.out _ hb2.drew).1,(HK.out _ hb2.drew).2.1⟩|go_keep)
  (first|(go_at_call 36;refine(sall _).mono ?_;rintro r w2 ⟨rfl,hb2⟩;replace hb2:=hR.trans (hb2.mono hR.size)))
 obtain⟨u0,u1,u2,u3⟩:=HK.out w2 hb2
 have HB2:Hid (Bw w w2):=HV.out.trans (hb2.mono HV.out.size)
 have k3:=H3.out
 have k4:=H4.out
 clear c0 c1 z0 z1 d0 d1 y0 y1 hR HB1 HK HX HE H3 H4 HV hb2 he
 cases q
 case true =>
  go_wp2
  go_ret2
  exact⟨rfl,HB2.out⟩
 cases i
 case true =>
  go_wp2_with (first|(go_at_call 38;refine(k3 _).mono ?_;rintro r w' ⟨rfl,hw⟩;replace hw:=hw.symm;subst hw))
  go_ret2
  exact⟨rfl,HB2.out⟩
 cases j
 case true =>
  go_wp2_with (first|(go_at_call 38;first|(with_reducible refine(k3 _).mono ?_;rintro r w' ⟨rfl,hw⟩;replace hw:=hw.symm;subst hw)|(with_reducible refine(k4 _).mono ?_;rintro r w' ⟨rfl,hw⟩;replace hw:=hw.symm;subst hw)))
  go_ret2
  exact⟨rfl,HB2.out⟩
 have kk:=H5.out (by simp) (by simp) (by simp) w2 HB2.out
 go_wp2_with (first|(go_at_call 38;first|(with_reducible refine(k3 _).mono ?_;rintro r w' ⟨rfl,hw⟩;replace hw:=hw.symm;subst hw)|(with_reducible refine(k4 _).mono ?_;rintro r w' ⟨rfl,hw⟩;replace hw:=hw.symm;subst hw)))
 refine kk.mono ?_
 rintro r w3 ⟨rfl,hb3⟩
 have HB3:Hid (Bw w w3):=HB2.out.trans (hb3.mono HB2.out.size)
 clear kk hb3
 go_wp2_with fail
 go_ret2
 exact⟨rfl,HB3.out⟩
def radV (e:Int) (R:Nat):Value:=if e=0 then .tuple #[.float .f64 R,.int .i64 0] else .tuple #[.float .f64 0,.int .i64 e]
theorem srad_1 (lo hi M P Q R:Nat) (e:Int) (w:World)
  (k1:∀ W,Bw w W→Calls Tryz.prog 15 #[.agg #[.float .f64 lo,.float .f64 hi]] W fun r w'=>r=.returned (.tuple #[.float .f64 M,.int .i64 e])∧Bw W w')
  (k2:e=0→∀ W,Bw w W→Calls Tryz.prog 43 #[.float .f64 M,.float .f64 lo,.int .i64 3] W fun r w'=>r=.returned (.float .f64 P)∧Bw W w')
  (k3:e=0→∀ W,Bw w W→Calls Tryz.prog 43 #[.float .f64 hi,.float .f64 M,.int .i64 3] W fun r w'=>r=.returned (.float .f64 Q)∧Bw W w')
  (hm:e=0→∀ W ts t,(Builtin.max_ ts t #[.float .f64 P,.float .f64 Q]).run Tryz.prog W=.ok (.float .f64 R) W) :
  Calls Tryz.prog 17 #[.agg #[.float .f64 lo,.float .f64 hi]] w fun r w'=>r=.returned (radV e R)∧Bw w w':=by
 have H2:Hid _:=k2
 have H3:Hid _:=k3
 have HM:Hid (e=0→∀ W ts t,(Builtin.max_ ts t #[.float .f64 P,.float .f64 Q]).run Tryz.prog W=.ok (.float .f64 R) W):=hm
 obtain⟨W,hW⟩:∃ W,W=(w.alloc (.cells #[.float .f64 lo,.float .f64 hi] 24)):=⟨_,rfl⟩
 have HX:Hid (Bw w W∧IvB W (w.heap.size) lo hi):=by
  rw[hW]
  exact⟨bxs1_0 w lo hi,bxs1_1 w lo hi⟩
 have HK:Hid (∀ w',Bw W w'→IvF w' (w.heap.size) lo hi):=fun w' hb=>(HX.out.2).later hb
 obtain⟨c0,c1,z0,z1⟩:=HK.out W (Below.refl _ _)
 have HV:Hid (Bw w W):=HX.out.1
 have kk:=k1 W HV.out
 clear k1 k2 k3 hm
 go_enter Tryz.func17,Tryz.ntmps17
 go_upto_region 1 with fail
 rw[←hW]
 clear hW
 go_wp2_with fail
 refine kk.mono ?_
 rintro r w1 ⟨rfl,hb1⟩
 clear kk c0 c1 z0 z1
 obtain⟨c0,c1,z0,z1⟩:=HK.out w1 hb1
 have HB1:Hid (Bw W w1):=hb1
 have HB:Hid (Bw w w1):=HV.out.trans (hb1.mono HV.out.size)
 clear hb1
 by_cases he:e=0
 ·subst he
  have hm:=HM.out rfl
  have hR:Bw W w1.drew:=HB1.out.drew
  have q2:∀ W',Bw W W'→Calls Tryz.prog 43 #[.float .f64 M,.float .f64 lo,.int .i64 3] W' fun r w'=>r=.returned (.float .f64 P)∧Bw W w':=fun W' h=>(H2.out rfl W' (HV.out.trans (h.mono HV.out.size))).mono fun r w' ⟨e1,e2⟩=>⟨e1,h.trans (e2.mono h.size)⟩
  have q3:∀ W',Bw W W'→Calls Tryz.prog 43 #[.float .f64 hi,.float .f64 M,.int .i64 3] W' fun r w'=>r=.returned (.float .f64 Q)∧Bw W w':=fun W' h=>(H3.out rfl W' (HV.out.trans (h.mono HV.out.size))).mono fun r w' ⟨e1,e2⟩=>⟨e1,h.trans (e2.mono h.size)⟩
  obtain⟨d0,d1,y0,y1⟩:=HK.out w1.drew hR
  clear HM H2 H3
  go_upto_region 4 with fail
  go_region_held3 (fun w'=>w'.cell? ⟨w.heap.size,0,none⟩=some (.float .f64 lo)∧w'.cell? ⟨w.heap.size,1,none⟩=some (.float .f64 hi)) (first|(with_reducible assumption)|exact⟨d0,d1⟩|exact⟨c0,c1⟩|exact⟨(HK.out _ hb3).1,(HK.out _ hb3).2.1⟩|exact⟨(HK.out _ hb2).1,(HK.out _ hb2).2.1⟩|go_keep)
   (first|(go_at_call 43;with_reducible refine(q2 _ hR).mono ?_;rintro r w2 ⟨rfl,hb2⟩)|(go_at_call 43;with_reducible refine(q3 _ hb2).mono ?_;rintro r w3 ⟨rfl,hb3⟩))
  have HB3:Hid (Bw w w3):=HV.out.trans (hb3.mono HV.out.size)
  clear c0 c1 z0 z1 d0 d1 y0 y1 hR HB1 HK HX q2 q3 HV hb2 hb3
  go_wp2_with fail
  go_ret2
  exact⟨rfl,HB3.out⟩
 ·have hq:(e==0)=false:=by simp[he]
  have hq2:(e != 0)=true:=by simp[he]
  have HE:Hid (e≠0):=he
  clear HM H2 H3 HK HX HV HB1 he
  go_wp2
  go_ret2
  exact⟨by unfold radV;rw[if_neg HE.out];rfl,HB.out⟩
def iAll (lo hi:Nat):Bool:=eq lo 18442240474082181120&&eq hi 9218868437227405312
def iFar (a:Nat):Bool:=lt 9218868437227405311 (mag a)
theorem far_fin {a:Nat} (h:iFar a=false) (hn:isNaN a=false):mag a<9218868437227405312:=by
 have n':¬ 9218868437227405312<mag a:=of_decide_eq_false hn
 have hm:isNaN (mag a)=false:=by
  unfold isNaN
  rw[show mag (mag a)=mag a by unfold mag;omega]
  exact decide_eq_false n'
 have hs:stp (mag a)=(mag a:Int):=by
  unfold stp sgn neg
  rw[show mag (mag a)=mag a by unfold mag;omega,if_neg (by have:=mag_lt a;simp;omega)]
 unfold iFar lt at h
 rw[hm,hs,show isNaN 9218868437227405311=false by decide,show stp 9218868437227405311=9218868437227405311 by decide] at h
 simp only[Bool.not_false,Bool.true_and,decide_eq_false_iff_not] at h
 omega
theorem smid (lo hi:Nat) (h1:lo<18446744073709551616) (h2:hi<18446744073709551616) (w:World) (hT:Tab32 w) (hJ:Ie.Tab w) :
  Calls Tryz.prog 15 #[.agg #[.float .f64 lo,.float .f64 hi]] w fun r w'=>r=.returned (midV (vI lo hi) (iAll lo hi) (iFar lo) (iFar hi) (hfS lo hi))∧Bw w w':=by
 refine smid_1 lo hi _ _ _ _ _ w (fun W=>svalid lo hi h1 h2 W) (fun W=>?_) (fun W=>c123 lo h1 W) (fun W=>c123 hi h2 W) (fun hv hi' hj W h=>shalf lo hi h1 h2 (far_fin hi' (vI_nn hv).1) (far_fin hj (vI_nn hv).2) W (hT.later h) (Tab.later hJ h))
 rw[eqIv,ord_eq lo _ h1 (by omega),ord_eq hi _ h2 (by omega)]
 rfl
def mdF (lo hi:Nat):Nat:=if iAll lo hi then 0 else if iFar lo then 18442240474082181119 else if iFar hi then 9218868437227405311 else hfS lo hi
theorem mdF_lt (lo hi:Nat):mdF lo hi<18446744073709551616:=by
 unfold mdF
 split
 ·omega
 ·split
  ·omega
  ·split
   ·omega
   ·exact hfS_lt _ _
theorem midV_eq (v:Bool) (lo hi:Nat):midV v (iAll lo hi) (iFar lo) (iFar hi) (hfS lo hi)=.tuple #[.float .f64 (if v then mdF lo hi else 0),.int .i64 (if v then 0 else 1)]:=by
 unfold midV mdF
 cases v
 ·rfl
 ·cases iAll lo hi
  ·cases iFar lo
   ·cases iFar hi <;> rfl
   ·rfl
  ·rfl
def rdP (lo hi:Nat):Nat:=fAdM (mdF lo hi) (ngt lo) 3
def rdQ (lo hi:Nat):Nat:=fAdM hi (ngt (mdF lo hi)) 3
theorem srad (lo hi:Nat) (h1:lo<18446744073709551616) (h2:hi<18446744073709551616) (w:World) (hT:Tab32 w) (hJ:Ie.Tab w) (hP:vI lo hi=true→isNaN (rdP lo hi)=false) (hQ:vI lo hi=true→isNaN (rdQ lo hi)=false) :
  Calls Tryz.prog 17 #[.agg #[.float .f64 lo,.float .f64 hi]] w fun r w'=>r=.returned (radV (if vI lo hi then 0 else 1) (fMax (rdP lo hi) (rdQ lo hi)))∧Bw w w':=by
 have hv:(if vI lo hi=true then(0:Int)else 1)=0→vI lo hi=true:=by
  cases vI lo hi <;> simp
 have m3:(1:Int)≤3∧(3:Int)≤3:=by omega
 have hPl:rdP lo hi<18446744073709551616:=(faddM_p _ _ 3 m3 (mdF_lt lo hi) (ngt_lt h1)).1
 have hQl:rdQ lo hi<18446744073709551616:=(faddM_p _ _ 3 m3 h2 (ngt_lt (mdF_lt lo hi))).1
 refine srad_1 lo hi (if vI lo hi then mdF lo hi else 0) (rdP lo hi) (rdQ lo hi) _ _ w (fun W h=>?_) (fun he W h=>?_) (fun he W h=>?_) (fun he W ts t=>run_fmax W ts t _ _ hPl hQl (hP (hv he)) (hQ (hv he)))
 ·have:=smid lo hi h1 h2 W (hT.later h) (Tab.later hJ h)
  rw[midV_eq] at this
  exact this
 ·rw[if_pos (hv he)]
  refine(fsubM (mdF lo hi) lo 3 m3 (mdF_lt lo hi) h1 W (hT.later h) (Tab.later hJ h)).mono ?_
  rintro r w' ⟨n,rfl,hl,hb⟩
  rw[hl.eq (hP (hv he))]
  exact⟨rfl,hb⟩
 ·rw[if_pos (hv he)]
  refine(fsubM hi (mdF lo hi) 3 m3 h2 (mdF_lt lo hi) W (hT.later h) (Tab.later hJ h)).mono ?_
  rintro r w' ⟨n,rfl,hl,hb⟩
  rw[hl.eq (hQ (hv he))]
  exact⟨rfl,hb⟩
theorem rad_at:vI 4607182418800017408 4611686018427387904=true∧isNaN (rdP 4607182418800017408 4611686018427387904)=false∧isNaN (rdQ 4607182418800017408 4611686018427387904)=false∧fMax (rdP 4607182418800017408 4611686018427387904) (rdQ 4607182418800017408 4611686018427387904)=4602678819172646912:=by decide +kernel
attribute [local go_sem] run_store_flt
theorem works_1 (w : World)
    (k1 : ∀ W, Bw w W → Calls Tryz.prog 32 #[.agg #[.float .f64 13830554455654793216, .float .f64 4611686018427387904], .agg #[.float .f64 4613937818241073152, .float .f64 9218868437227405312]] W fun r w' => r = .returned (.tuple #[.agg #[.float .f64 18442240474082181120, .float .f64 9218868437227405312], .int .i64 0]) ∧ Bw W w')
    (k2 : ∀ W, Bw w W → Calls Tryz.prog 35 #[.agg #[.float .f64 4607182418800017408, .float .f64 4607182418800017408], .agg #[.float .f64 4613937818241073152, .float .f64 4613937818241073152]] W fun r w' => r = .returned (.tuple #[.agg #[.float .f64 4599676419421066581, .float .f64 4599676419421066582], .int .i64 0]) ∧ Bw W w')
    (k3 : ∀ W, Bw w W → Calls Tryz.prog 35 #[.agg #[.float .f64 4607182418800017408, .float .f64 4607182418800017408], .agg #[.float .f64 13830554455654793216, .float .f64 4607182418800017408]] W fun r w' => r = .returned (.tuple #[.agg #[.float .f64 0, .float .f64 0], .int .i64 6]) ∧ Bw W w')
    (k4 : ∀ W, Bw w W → Calls Tryz.prog 17 #[.agg #[.float .f64 4607182418800017408, .float .f64 4611686018427387904]] W fun r w' => r = .returned (.tuple #[.float .f64 4602678819172646912, .int .i64 0]) ∧ Bw W w')
    (k5 : ∀ W, Bw w W → Calls Tryz.prog 37 #[.agg #[.float .f64 4607182418800017408, .float .f64 4611686018427387904], .float .f64 4609434218613702656] W fun r w' => r = .returned (.bool true) ∧ Bw W w')
    (k6 : ∀ W, Bw w W → Calls Tryz.prog 37 #[.agg #[.float .f64 4607182418800017408, .float .f64 4611686018427387904], .float .f64 4613937818241073152] W fun r w' => r = .returned (.bool false) ∧ Bw W w') :
    Calls Tryz.prog 14 #[] w fun r w' => r = .returned (.bool true) ∧ Bw w w' := by
  have hh : (FloatKind.f64.format.order 4602678819172646912 4602678819172646912 == some Ordering.eq) = true := by decide
  have H1 : Hid _ := k1
  have H2 : Hid _ := k2
  have H3 : Hid _ := k3
  have H4 : Hid _ := k4
  have H5 : Hid _ := k5
  have H6 : Hid _ := k6
  have A0 : Hid (Bw w w) := Below.refl _ _
  clear k1 k2 k3 k4 k5 k6
  go_enter Tryz.func14, Tryz.ntmps14
  have kk := lof 13830554455654793216 4611686018427387904 w
  go_wp2_with fail
  refine kk.mono ?_
  rintro r w1 ⟨rfl, hb⟩
  have A1 : Hid (Bw w w1) := A0.out.trans (hb.mono A0.out.size)
  clear hb kk A0
  go_wp2_with fail
  refine (cinf_p w1).mono ?_
  rintro r w' ⟨rfl, hw⟩
  replace hw := hw.symm
  subst hw
  have kk := lof 4613937818241073152 9218868437227405312 w1
  go_wp2_with fail
  refine kk.mono ?_
  rintro r w2 ⟨rfl, hb⟩
  have A2 : Hid (Bw w w2) := A1.out.trans (hb.mono A1.out.size)
  clear hb kk A1
  have kk := H1.out w2 A2.out
  go_wp2_with fail
  refine kk.mono ?_
  rintro r w3 ⟨rfl, hb⟩
  have A3 : Hid (Bw w w3) := A2.out.trans (hb.mono A2.out.size)
  clear hb kk A2
  obtain ⟨V1, hV1⟩ : ∃ V, V = w3.alloc (.cells #[.float .f64 18442240474082181120, .float .f64 9218868437227405312] 24) := ⟨_, rfl⟩
  have AV1 : Hid (Bw w V1) := by rw [hV1]; exact A3.out.alloc A3.out.size _
  have XV1 : Hid (IvB V1 w3.heap.size 18442240474082181120 9218868437227405312) := by rw [hV1]; exact IvB.new _ _ _
  have BV1_V1 : Hid (Bw V1 V1) := Below.refl _ _
  clear A3
  have kk := lof 4607182418800017408 4607182418800017408 V1
  go_wp2_with fail
  rw [← hV1]
  clear hV1
  generalize hgV1 : w3.heap.size = gV1 at *
  clear hgV1
  refine kk.mono ?_
  rintro r w4 ⟨rfl, hb⟩
  have A4 : Hid (Bw w w4) := AV1.out.trans (hb.mono AV1.out.size)
  have BV1_4 : Hid (Bw V1 w4) := BV1_V1.out.trans (hb.mono BV1_V1.out.size)
  clear BV1_V1
  clear hb kk AV1
  have kk := lof 4613937818241073152 4613937818241073152 w4
  go_wp2_with fail
  refine kk.mono ?_
  rintro r w5 ⟨rfl, hb⟩
  have A5 : Hid (Bw w w5) := A4.out.trans (hb.mono A4.out.size)
  have BV1_5 : Hid (Bw V1 w5) := BV1_4.out.trans (hb.mono BV1_4.out.size)
  clear BV1_4
  clear hb kk A4
  have kk := H2.out w5 A5.out
  go_wp2_with fail
  refine kk.mono ?_
  rintro r w6 ⟨rfl, hb⟩
  have A6 : Hid (Bw w w6) := A5.out.trans (hb.mono A5.out.size)
  have BV1_6 : Hid (Bw V1 w6) := BV1_5.out.trans (hb.mono BV1_5.out.size)
  clear BV1_5
  clear hb kk A5
  obtain ⟨V2, hV2⟩ : ∃ V, V = w6.alloc (.cells #[.float .f64 4599676419421066581, .float .f64 4599676419421066582] 24) := ⟨_, rfl⟩
  have AV2 : Hid (Bw w V2) := by rw [hV2]; exact A6.out.alloc A6.out.size _
  have XV2 : Hid (IvB V2 w6.heap.size 4599676419421066581 4599676419421066582) := by rw [hV2]; exact IvB.new _ _ _
  have BV1_V2 : Hid (Bw V1 V2) := by rw [hV2]; exact BV1_6.out.alloc BV1_6.out.size _
  clear BV1_6
  have BV2_V2 : Hid (Bw V2 V2) := Below.refl _ _
  clear A6
  have kk := lof 4607182418800017408 4607182418800017408 V2
  go_wp2_with fail
  rw [← hV2]
  clear hV2
  generalize hgV2 : w6.heap.size = gV2 at *
  clear hgV2
  refine kk.mono ?_
  rintro r w7 ⟨rfl, hb⟩
  have A7 : Hid (Bw w w7) := AV2.out.trans (hb.mono AV2.out.size)
  have BV1_7 : Hid (Bw V1 w7) := BV1_V2.out.trans (hb.mono BV1_V2.out.size)
  clear BV1_V2
  have BV2_7 : Hid (Bw V2 w7) := BV2_V2.out.trans (hb.mono BV2_V2.out.size)
  clear BV2_V2
  clear hb kk AV2
  have kk := lof 13830554455654793216 4607182418800017408 w7
  go_wp2_with fail
  refine kk.mono ?_
  rintro r w8 ⟨rfl, hb⟩
  have A8 : Hid (Bw w w8) := A7.out.trans (hb.mono A7.out.size)
  have BV1_8 : Hid (Bw V1 w8) := BV1_7.out.trans (hb.mono BV1_7.out.size)
  clear BV1_7
  have BV2_8 : Hid (Bw V2 w8) := BV2_7.out.trans (hb.mono BV2_7.out.size)
  clear BV2_7
  clear hb kk A7
  have kk := H3.out w8 A8.out
  go_wp2_with fail
  refine kk.mono ?_
  rintro r w9 ⟨rfl, hb⟩
  have A9 : Hid (Bw w w9) := A8.out.trans (hb.mono A8.out.size)
  have BV1_9 : Hid (Bw V1 w9) := BV1_8.out.trans (hb.mono BV1_8.out.size)
  clear BV1_8
  have BV2_9 : Hid (Bw V2 w9) := BV2_8.out.trans (hb.mono BV2_8.out.size)
  clear BV2_8
  clear hb kk A8
  obtain ⟨V3, hV3⟩ : ∃ V, V = w9.alloc (.cells #[.float .f64 0, .float .f64 0] 24) := ⟨_, rfl⟩
  have AV3 : Hid (Bw w V3) := by rw [hV3]; exact A9.out.alloc A9.out.size _
  have XV3 : Hid (IvB V3 w9.heap.size 0 0) := by rw [hV3]; exact IvB.new _ _ _
  have BV1_V3 : Hid (Bw V1 V3) := by rw [hV3]; exact BV1_9.out.alloc BV1_9.out.size _
  clear BV1_9
  have BV2_V3 : Hid (Bw V2 V3) := by rw [hV3]; exact BV2_9.out.alloc BV2_9.out.size _
  clear BV2_9
  have BV3_V3 : Hid (Bw V3 V3) := Below.refl _ _
  clear A9
  have kk := lof 4607182418800017408 4611686018427387904 V3
  go_wp2_with fail
  rw [← hV3]
  clear hV3
  generalize hgV3 : w9.heap.size = gV3 at *
  clear hgV3
  refine kk.mono ?_
  rintro r w10 ⟨rfl, hb⟩
  have A10 : Hid (Bw w w10) := AV3.out.trans (hb.mono AV3.out.size)
  have BV1_10 : Hid (Bw V1 w10) := BV1_V3.out.trans (hb.mono BV1_V3.out.size)
  clear BV1_V3
  have BV2_10 : Hid (Bw V2 w10) := BV2_V3.out.trans (hb.mono BV2_V3.out.size)
  clear BV2_V3
  have BV3_10 : Hid (Bw V3 w10) := BV3_V3.out.trans (hb.mono BV3_V3.out.size)
  clear BV3_V3
  clear hb kk AV3
  have kk := H4.out w10 A10.out
  go_wp2_with fail
  refine kk.mono ?_
  rintro r w11 ⟨rfl, hb⟩
  have A11 : Hid (Bw w w11) := A10.out.trans (hb.mono A10.out.size)
  have BV1_11 : Hid (Bw V1 w11) := BV1_10.out.trans (hb.mono BV1_10.out.size)
  clear BV1_10
  have BV2_11 : Hid (Bw V2 w11) := BV2_10.out.trans (hb.mono BV2_10.out.size)
  clear BV2_10
  have BV3_11 : Hid (Bw V3 w11) := BV3_10.out.trans (hb.mono BV3_10.out.size)
  clear BV3_10
  clear hb kk A10
  have XM : Hid (IvB w11 gV1 18442240474082181120 9218868437227405312) := XV1.out.box BV1_11.out
  have XQ : Hid (IvB w11 gV2 4599676419421066581 4599676419421066582) := XV2.out.box BV2_11.out
  clear XV1 XV2 XV3 BV1_11 BV2_11 BV3_11
  have HK : Hid (∀ w', Bw w11 w' → ((w'.cell? ⟨gV1, 0, none⟩ = some (.float .f64 18442240474082181120) ∧ w'.cell? ⟨gV1, 1, none⟩ = some (.float .f64 9218868437227405312)) ∧ (w'.cell? ⟨gV2, 0, none⟩ = some (.float .f64 4599676419421066581) ∧ w'.cell? ⟨gV2, 1, none⟩ = some (.float .f64 4599676419421066582))) ∧ Bw w11 w') := fun w' hb => ⟨⟨⟨(XM.out.later hb).1, (XM.out.later hb).2.1⟩, (XQ.out.later hb).1, (XQ.out.later hb).2.1⟩, hb⟩
  have hBR : Bw w11 w11.drew := (Below.refl _ _).drew
  have q1 : ∀ W, Bw w11 W → Calls Tryz.prog 36 #[] W fun r w' => r = .returned (.agg #[.float .f64 18442240474082181120, .float .f64 9218868437227405312]) ∧ Bw w11 w' := fun W h => (sall W).mono fun r w' ⟨e1, e2⟩ => ⟨e1, h.trans (e2.mono h.size)⟩
  have q2 : ∀ W, Bw w11 W → Calls Tryz.prog 13 #[.agg #[.float .f64 18442240474082181120, .float .f64 9218868437227405312], .agg #[.float .f64 18442240474082181120, .float .f64 9218868437227405312]] W fun r w' => r = .returned (.bool true) ∧ Bw w11 w' := fun W h => (isame _ _ (by omega) (by omega) W).mono fun r w' ⟨e1, e2⟩ => ⟨e1, h.trans (e2.mono h.size)⟩
  have q3 : ∀ W, Bw w11 W → Calls Tryz.prog 13 #[.agg #[.float .f64 4599676419421066581, .float .f64 4599676419421066582], .agg #[.float .f64 4599676419421066581, .float .f64 4599676419421066582]] W fun r w' => r = .returned (.bool true) ∧ Bw w11 w' := fun W h => (isame _ _ (by omega) (by omega) W).mono fun r w' ⟨e1, e2⟩ => ⟨e1, h.trans (e2.mono h.size)⟩
  have q4 : ∀ a b W, Bw w11 W → Calls Tryz.prog 33 #[.float .f64 a, .float .f64 b] W fun r w' => r = .returned (.agg #[.float .f64 a, .float .f64 b]) ∧ Bw w11 w' := fun a b W h => (lof a b W).mono fun r w' ⟨e1, e2⟩ => ⟨e1, h.trans (e2.mono h.size)⟩
  have q5 : ∀ W, Bw w11 W → Calls Tryz.prog 37 #[.agg #[.float .f64 4607182418800017408, .float .f64 4611686018427387904], .float .f64 4609434218613702656] W fun r w' => r = .returned (.bool true) ∧ Bw w11 w' := fun W h => (H5.out W (A11.out.trans (h.mono A11.out.size))).mono fun r w' ⟨e1, e2⟩ => ⟨e1, h.trans (e2.mono h.size)⟩
  have q6 : ∀ W, Bw w11 W → Calls Tryz.prog 37 #[.agg #[.float .f64 4607182418800017408, .float .f64 4611686018427387904], .float .f64 4613937818241073152] W fun r w' => r = .returned (.bool false) ∧ Bw w11 w' := fun W h => (H6.out W (A11.out.trans (h.mono A11.out.size))).mono fun r w' ⟨e1, e2⟩ => ⟨e1, h.trans (e2.mono h.size)⟩
  clear H1 H2 H3 H4 H5 H6 XM XQ
  obtain ⟨⟨⟨a0, a1⟩, a2, a3⟩, -⟩ := HK.out w11 (Below.refl _ _)
  go_upto_region 5 with fail
  go_region_held3 (fun w' => ((w'.cell? ⟨gV1, 0, none⟩ = some (.float .f64 18442240474082181120) ∧ w'.cell? ⟨gV1, 1, none⟩ = some (.float .f64 9218868437227405312)) ∧ (w'.cell? ⟨gV2, 0, none⟩ = some (.float .f64 4599676419421066581) ∧ w'.cell? ⟨gV2, 1, none⟩ = some (.float .f64 4599676419421066582))) ∧ Bw w11 w') (first | (with_reducible assumption) | exact HK.out _ hBR | (refine HK.out _ ?_; with_reducible assumption) | go_keep)
    (first | (go_at_call 36; with_reducible refine (q1 _ (by first | (with_reducible assumption) | exact hBR)).mono ?_; rintro r w5 ⟨rfl, hb5⟩)
           | (go_at_call 13; with_reducible refine (q2 _ (by first | (with_reducible assumption) | exact hBR)).mono ?_; rintro r w5 ⟨rfl, hb5⟩)
           | (go_at_call 13; with_reducible refine (q3 _ (by first | (with_reducible assumption) | exact hBR)).mono ?_; rintro r w5 ⟨rfl, hb5⟩)
           | (go_at_call 33; with_reducible refine (q4 _ _ _ (by first | (with_reducible assumption) | exact hBR)).mono ?_; rintro r w5 ⟨rfl, hb5⟩)
           | (go_at_call 37; with_reducible refine (q5 _ (by first | (with_reducible assumption) | exact hBR)).mono ?_; rintro r w5 ⟨rfl, hb5⟩)
           | (go_at_call 37; with_reducible refine (q6 _ (by first | (with_reducible assumption) | exact hBR)).mono ?_; rintro r w5 ⟨rfl, hb5⟩))
  have HF : Hid (Bw w w5) := A11.out.trans (hb5.mono A11.out.size)
  clear q1 q2 q3 q4 q5 q6 HK hBR a0 a1 a2 a3 hb5
  go_wp2_with fail
  go_ret
  exact ⟨rfl, HF.out⟩
theorem works8 (w:World) (hT:Tab32 w) (hJ:Ie.Tab w):Calls Tryz.prog 14 #[] w fun r w'=>r=.returned (.bool true)∧Bw w w':=by
 refine works_1 w (fun W h=>?_) (fun W h=>?_) (fun W h=>?_) (fun W h=>?_) (fun W h=>?_) (fun W h=>?_)
 ·have k:=smul 13830554455654793216 4611686018427387904 4613937818241073152 9218868437227405312 (by omega) (by omega) (by omega) (by omega) W (hT.later h) (Tab.later hJ h)
  rw[mul_at.1,mul_at.2.1,mul_at.2.2] at k
  exact k
 ·have k:=squo 4607182418800017408 4607182418800017408 4613937818241073152 4613937818241073152 (by omega) (by omega) (by omega) (by omega) W (hT.later h) (Tab.later hJ h)
  rw[quo_at.1,quo_at.2.1,quo_at.2.2.1,quo_at.2.2.2] at k
  exact k
 ·have k:=squo 4607182418800017408 4607182418800017408 13830554455654793216 4607182418800017408 (by omega) (by omega) (by omega) (by omega) W (hT.later h) (Tab.later hJ h)
  rw[quo_at2.1,quo_at2.2] at k
  exact k
 ·have k:=srad 4607182418800017408 4611686018427387904 (by omega) (by omega) W (hT.later h) (Tab.later hJ h) (fun _=>rad_at.2.1) (fun _=>rad_at.2.2.1)
  rw[rad_at.2.2.2,rad_at.1] at k
  exact k
 ·have k:=shas 4607182418800017408 4611686018427387904 4609434218613702656 (by omega) (by omega) (by omega) W
  rw[has_at.1] at k
  exact k
 ·have k:=shas 4607182418800017408 4611686018427387904 4613937818241073152 (by omega) (by omega) (by omega) W
  rw[has_at.2] at k
  exact k
attribute [local go_sem] run_store_flt
def EnB (W:World) (g:Nat) (a b c d:Value):Prop:=W.heap[g]?=some (.cells #[a,b,c,d] 46 (0,0))
theorem EnB.facts {W:World} {g:Nat} {a b c d:Value} (h:EnB W g a b c d):(W.cell? ⟨g,0,none⟩=some a∧W.cell? ⟨g,1,none⟩=some b∧W.cell? ⟨g,2,none⟩=some c∧W.cell? ⟨g,3,none⟩=some d)∧(W.frozen? ⟨g,0,none⟩=false∧W.frozen? ⟨g,1,none⟩=false∧W.frozen? ⟨g,2,none⟩=false∧W.frozen? ⟨g,3,none⟩=false):=by
 unfold EnB at h
 simp[World.cell?,World.frozen?,h]
theorem EnB.lt {W:World} {g:Nat} {a b c d:Value} (h:EnB W g a b c d):g<W.heap.size:=lt_of_box h
theorem EnB.box {W w':World} {g:Nat} {a b c d:Value} (h:EnB W g a b c d) (hb:Bw W w'):EnB w' g a b c d:=box_later h hb h.lt
theorem EnB.new (w:World) (a b c d:Value):EnB (w.alloc (.cells #[a,b,c,d] 46)) w.heap.size a b c d:=heap_alloc_new _ _
theorem EnB.alloc {W:World} {g:Nat} {a b c d:Value} (h:EnB W g a b c d) (o:Obj):EnB (W.alloc o) g a b c d:=h.box ((Below.refl _ _).alloc (Nat.le_refl _) _)
theorem EnB.set {W:World} {g:Nat} {a b c d:Value} (h:EnB W g a b c d) (a' b' c' d':Value):EnB ((((W.setCell ⟨g,0,none⟩ a').setCell ⟨g,1,none⟩ b').setCell ⟨g,2,none⟩ c').setCell ⟨g,3,none⟩ d') g a' b' c' d':=by
 unfold EnB at *
 simp[World.setCell,Array.getElem?_modify,h]
theorem below_store4 {B:Nat} {w w':World} {g:Nat} (h:Below B w w') (hg:B≤g) (a b c d:Value):Below B w ((((w'.setCell ⟨g,0,none⟩ a).setCell ⟨g,1,none⟩ b).setCell ⟨g,2,none⟩ c).setCell ⟨g,3,none⟩ d) :=
 (((h.setCell hg _).setCell hg _).setCell hg _).setCell hg _
theorem en_info:(Tryz.prog.info? 46).map (·.size)=some 4:=by kernel_rfl
def EN (w:World) (A:Value) (i:Int) (t:Bool×Nat×Int):Prop:=∃ s ao n cap e,A=.agg #[.int .i64 i,.bool s,.slice ao n cap,.int .i64 e]∧DN w (.agg #[.bool s,.slice ao n cap,.int .i64 e]) t
theorem EN.later {w w':World} {A:Value} {i:Int} {t:Bool×Nat×Int} (h:EN w A i t) (hb:Bw w w'):EN w' A i t:=by
 obtain⟨s,ao,n,cap,e,h1,h2⟩:=h
 exact⟨s,ao,n,cap,e,h1,h2.later hb⟩
theorem at_store4 {W:World} {ao:Option Addr} {n z g:Nat} (h:At W ao n z) (hE:EnB W g (.int .i64 0) (.bool false) (.slice none 0 0) (.int .i64 0)) (a' b' c' d':Value):At ((((W.setCell ⟨g,0,none⟩ a').setCell ⟨g,1,none⟩ b').setCell ⟨g,2,none⟩ c').setCell ⟨g,3,none⟩ d') ao n z:=by
 obtain⟨bb,o,h1,h2⟩:=h
 refine⟨bb,o,h1,fun i hi=>?_⟩
 have hc:=h2 i hi
 have hne:bb≠g:=by
  rintro rfl
  unfold EnB at hE
  simp only[World.cell?,hE] at hc
  rcases(show o+i=0∨o+i=1∨o+i=2∨o+i=3∨4≤o+i by omega)with e|e|e|e|e
  ·rw[e] at hc;simp at hc
  ·rw[e] at hc;simp at hc
  ·rw[e] at hc;simp at hc
  ·rw[e] at hc;simp at hc
  ·rw[Array.getElem?_eq_none (by simpa using e)] at hc;cases hc
 rw[World.cell?_setCell_other _ _ _ _ (by first|(simp;done)|(simp;omega)),World.cell?_setCell_other _ _ _ _ (by first|(simp;done)|(simp;omega)),World.cell?_setCell_other _ _ _ _ (by first|(simp;done)|(simp;omega)),World.cell?_setCell_other _ _ _ _ (by first|(simp;done)|(simp;omega))]
 exact hc
theorem dn_store48 {W:World} {A:Value} {t:Bool×Nat×Int} {g:Nat} (h:DN W A t) (hE:EnB W g (.int .i64 0) (.bool false) (.slice none 0 0) (.int .i64 0)) (a' b' c' d':Value):DN ((((W.setCell ⟨g,0,none⟩ a').setCell ⟨g,1,none⟩ b').setCell ⟨g,2,none⟩ c').setCell ⟨g,3,none⟩ d') A t:=by
 obtain⟨ao,cap,h1,h2⟩:=h
 exact⟨ao,cap,h1,h2.nil,at_store4 h2.at_ hE _ _ _ _,h2.le,h2.small⟩
theorem dn_nil (w:World):DN w (.agg #[.bool false,.slice none 0 0,.int .i64 0]) (false,0,0) :=
 ⟨none,0,by rw[dlen_zero],⟨fun _=>.inr ⟨rfl,rfl⟩,⟨0,0,fun h=>by rw[dlen_zero] at h;omega,fun i hi=>by rw[dlen_zero] at hi;omega⟩,by rw[dlen_zero];omega,by rw[dlen_zero];omega⟩⟩
def eI (f:Nat):Int:=if f=9218868437227405312 then 1 else if f=18442240474082181120 then -1 else 0
def eT (f:Nat):Bool×Nat×Int:=if eI f=0 then tF f else(false,0,0)
theorem dend_inf (f:Nat) (w:World) (h1:(FloatKind.f64.format.order f 9218868437227405311==some Ordering.gt)=true) :
  Calls Tryz.prog 25 #[.float .f64 f] w fun r w'=>r=.returned (.agg #[.int .i64 1,.bool false,.slice none 0 0,.int .i64 0])∧Bw w w':=by
 go_enter Tryz.func25,Tryz.ntmps25
 go_wp2
 refine bodyPost_ret (results_cell_row rfl _ _ (w.heap.size) 46 #[.int .i64 1,.bool false,.slice none 0 0,.int .i64 0] (0,0) _ rfl (heap_alloc_new _ _) Tryz.underlying46 rfl en_info) rfl ?_
 exact⟨rfl,(Below.refl _ _).alloc (Nat.le_refl _) _⟩
theorem dend_ninf (f:Nat) (w:World) (h1:(FloatKind.f64.format.order f 9218868437227405311==some Ordering.gt)=false) (h2:(FloatKind.f64.format.order f 18442240474082181119==some Ordering.lt)=true) :
  Calls Tryz.prog 25 #[.float .f64 f] w fun r w'=>r=.returned (.agg #[.int .i64 (-1),.bool false,.slice none 0 0,.int .i64 0])∧Bw w w':=by
 go_enter Tryz.func25,Tryz.ntmps25
 go_wp2
 refine bodyPost_ret (results_cell_row rfl _ _ (w.heap.size) 46 #[.int .i64 (-1),.bool false,.slice none 0 0,.int .i64 0] (0,0) _ rfl (heap_alloc_new _ _) Tryz.underlying46 rfl en_info) rfl ?_
 exact⟨rfl,(Below.refl _ _).alloc (Nat.le_refl _) _⟩
theorem dend_fin (f:Nat) (t:Bool×Nat×Int) (w:World) (h1:(FloatKind.f64.format.order f 9218868437227405311==some Ordering.gt)=false) (h2:(FloatKind.f64.format.order f 18442240474082181119==some Ordering.lt)=false) (k:∀ W,Calls Tryz.prog 51 #[.float .f64 f] W fun r w'=>∃ A,r=.returned A∧DN w' A t∧Bw W w') :
  Calls Tryz.prog 25 #[.float .f64 f] w fun r w'=>∃ A,r=.returned A∧EN w' A 0 t∧Bw w w':=by
 obtain⟨W,hW⟩:∃ W,W=w.alloc (.cells #[.int .i64 0,.bool false,.slice none 0 0,.int .i64 0] 46):=⟨_,rfl⟩
 have HX:Hid (Bw w W∧EnB W w.heap.size (.int .i64 0) (.bool false) (.slice none 0 0) (.int .i64 0)):=by
  rw[hW];exact⟨(Below.refl _ _).alloc (Nat.le_refl _) _,EnB.new _ _ _ _ _⟩
 have kk:=k W
 clear k
 go_enter Tryz.func25,Tryz.ntmps25
 go_wp2_with fail
 rw[←hW]
 clear hW
 refine kk.mono ?_
 rintro r w1 ⟨A,rfl,hA,hb⟩
 obtain⟨s,ao,n,cap,e,rfl⟩:=hA.shape
 have hE:=HX.out.2.box hb
 obtain⟨⟨a0,a1,a2,a3⟩,z0,z1,z2,z3⟩:=hE.facts
 have HF:Hid (DN w1 (.agg #[.bool s,.slice ao n cap,.int .i64 e]) t∧Bw w w1∧EnB w1 w.heap.size (.int .i64 0) (.bool false) (.slice none 0 0) (.int .i64 0)):=⟨hA,HX.out.1.trans (hb.mono HX.out.1.size),hE⟩
 clear kk hA hb hE HX
 go_wp2_with fail
 refine bodyPost_ret (results_cell_row rfl _ _ (w.heap.size) 46 #[.int .i64 0,.bool s,.slice ao n cap,.int .i64 e] (0,0) _ rfl (HF.out.2.2.set _ _ _ _) Tryz.underlying46 rfl en_info) rfl ?_
 exact⟨_,rfl,⟨s,ao,n,cap,e,rfl,dn_store48 HF.out.1 HF.out.2.2 _ _ _ _⟩,below_store4 HF.out.2.1 (Nat.le_refl _) _ _ _ _⟩
attribute [local go_sem] run_store_flt
theorem dfloat_i (i m e:Int) (s:Bool) (ao:Option Addr) (n cap X:Nat) (w:World) (hi:(i != 0)=true) (k:∀ W,Calls Tryz.prog 34 #[.int .i64 i] W fun r w'=>r=.returned (.float .f64 X)∧w'=W) :
  Calls Tryz.prog 49 #[.agg #[.int .i64 i,.bool s,.slice ao n cap,.int .i64 e],.int .i64 m] w fun r w'=>r=.returned (.float .f64 X)∧Bw w w':=by
 obtain⟨W,hW⟩:∃ W,W=w.alloc (.cells #[.int .i64 i,.bool s,.slice ao n cap,.int .i64 e] 46):=⟨_,rfl⟩
 have HX:Hid (Bw w W∧EnB W w.heap.size (.int .i64 i) (.bool s) (.slice ao n cap) (.int .i64 e)):=by
  rw[hW];exact⟨(Below.refl _ _).alloc (Nat.le_refl _) _,EnB.new _ _ _ _ _⟩
 obtain⟨⟨a0,a1,a2,a3⟩,-⟩:=HX.out.2.facts
 go_enter Tryz.func49,Tryz.ntmps49
 go_upto_region 1 with fail
 rw[←hW]
 clear hW
 go_wp2_with (first|(go_at_call 34;refine(k _).mono ?_;rintro r w' ⟨rfl,hw⟩;replace hw:=hw.symm;subst hw))
 go_ret
 exact⟨rfl,HX.out.1⟩
theorem dfloat_0 (m e:Int) (s:Bool) (ao:Option Addr) (n cap X Y:Nat) (w:World) (k1:∀ W,Bw w W→Calls Tryz.prog 40 #[.agg #[.bool s,.slice ao n cap,.int .i64 e],.int .i64 m] W fun r w'=>r=.returned (.float .f64 X)∧Bw W w') (k2:∀ W,Calls Tryz.prog 80 #[.float .f64 X] W fun r w'=>r=.returned (.float .f64 Y)∧w'=W) :
  Calls Tryz.prog 49 #[.agg #[.int .i64 0,.bool s,.slice ao n cap,.int .i64 e],.int .i64 m] w fun r w'=>r=.returned (.float .f64 Y)∧Bw w w':=by
 obtain⟨W,hW⟩:∃ W,W=w.alloc (.cells #[.int .i64 0,.bool s,.slice ao n cap,.int .i64 e] 46):=⟨_,rfl⟩
 have HX:Hid (Bw w W∧EnB W w.heap.size (.int .i64 0) (.bool s) (.slice ao n cap) (.int .i64 e)):=by
  rw[hW];exact⟨(Below.refl _ _).alloc (Nat.le_refl _) _,EnB.new _ _ _ _ _⟩
 obtain⟨⟨a0,a1,a2,a3⟩,-⟩:=HX.out.2.facts
 have kk:=k1 W HX.out.1
 clear k1
 go_enter Tryz.func49,Tryz.ntmps49
 go_upto_region 1 with fail
 rw[←hW]
 clear hW
 go_wp2_with fail
 refine kk.mono ?_
 rintro r w1 ⟨rfl,hb⟩
 have HB:Hid (Bw w w1):=HX.out.1.trans (hb.mono HX.out.1.size)
 clear kk hb HX a0 a1 a2 a3
 go_wp2_with (first|(go_at_call 80;refine(k2 _).mono ?_;rintro r w' ⟨rfl,hw⟩;replace hw:=hw.symm;subst hw))
 go_ret
 exact⟨rfl,HB.out⟩
theorem dsign_i (i e:Int) (s:Bool) (ao:Option Addr) (n cap:Nat) (w:World) (hi:(i != 0)=true) :
  Calls Tryz.prog 27 #[.agg #[.int .i64 i,.bool s,.slice ao n cap,.int .i64 e]] w fun r w'=>r=.returned (.int .i64 i)∧Bw w w':=by
 obtain⟨W,hW⟩:∃ W,W=w.alloc (.cells #[.int .i64 i,.bool s,.slice ao n cap,.int .i64 e] 46):=⟨_,rfl⟩
 have HX:Hid (Bw w W∧EnB W w.heap.size (.int .i64 i) (.bool s) (.slice ao n cap) (.int .i64 e)):=by
  rw[hW];exact⟨(Below.refl _ _).alloc (Nat.le_refl _) _,EnB.new _ _ _ _ _⟩
 obtain⟨⟨a0,a1,a2,a3⟩,-⟩:=HX.out.2.facts
 go_enter Tryz.func27,Tryz.ntmps27
 go_upto_region 1 with fail
 rw[←hW]
 clear hW
 go_wp2
 go_ret
 exact⟨rfl,HX.out.1⟩
theorem dsign_0 (e c:Int) (s:Bool) (ao:Option Addr) (n cap:Nat) (w:World) (k1:∀ W,Bw w W→Calls Tryz.prog 52 #[.agg #[.bool s,.slice ao n cap,.int .i64 e]] W fun r w'=>r=.returned (.int .i64 c)∧Bw W w') :
  Calls Tryz.prog 27 #[.agg #[.int .i64 0,.bool s,.slice ao n cap,.int .i64 e]] w fun r w'=>r=.returned (.int .i64 c)∧Bw w w':=by
 obtain⟨W,hW⟩:∃ W,W=w.alloc (.cells #[.int .i64 0,.bool s,.slice ao n cap,.int .i64 e] 46):=⟨_,rfl⟩
 have HX:Hid (Bw w W∧EnB W w.heap.size (.int .i64 0) (.bool s) (.slice ao n cap) (.int .i64 e)):=by
  rw[hW];exact⟨(Below.refl _ _).alloc (Nat.le_refl _) _,EnB.new _ _ _ _ _⟩
 obtain⟨⟨a0,a1,a2,a3⟩,-⟩:=HX.out.2.facts
 have kk:=k1 W HX.out.1
 clear k1
 go_enter Tryz.func27,Tryz.ntmps27
 go_upto_region 1 with fail
 rw[←hW]
 clear hW
 go_wp2_with fail
 refine kk.mono ?_
 rintro r w1 ⟨rfl,hb⟩
 have HB:Hid (Bw w w1):=HX.out.1.trans (hb.mono HX.out.1.size)
 clear kk hb HX a0 a1 a2 a3
 go_wp2_with fail
 go_ret
 exact⟨rfl,HB.out⟩
theorem d8turn_1 (i j e:Int) (s:Bool) (ao:Option Addr) (n cap:Nat) (t:Bool×Nat×Int) (w:World) (hj:IntKind.i64.wrap (-i)=j)
  (k1:∀ W,Bw w W→Calls Tryz.prog 50 #[.agg #[.bool s,.slice ao n cap,.int .i64 e]] W fun r w'=>∃ A,r=.returned A∧DN w' A t∧Bw W w') :
  Calls Tryz.prog 24 #[.agg #[.int .i64 i,.bool s,.slice ao n cap,.int .i64 e]] w fun r w'=>∃ A,r=.returned A∧EN w' A j t∧Bw w w':=by
 obtain⟨W,hW⟩:∃ W,W=(w.alloc (.cells #[.int .i64 i,.bool s,.slice ao n cap,.int .i64 e] 46)).alloc (.cells #[.int .i64 0,.bool false,.slice none 0 0,.int .i64 0] 46):=⟨_,rfl⟩
 have HX:Hid (Bw w W∧EnB W w.heap.size (.int .i64 i) (.bool s) (.slice ao n cap) (.int .i64 e)∧EnB W (w.heap.size+1) (.int .i64 0) (.bool false) (.slice none 0 0) (.int .i64 0)):=by
  rw[hW]
  refine⟨((Below.refl _ _).alloc (Nat.le_refl _) _).alloc (by simp) _,(EnB.new _ _ _ _ _).alloc _,?_⟩
  have:=EnB.new (w.alloc (.cells #[.int .i64 i,.bool s,.slice ao n cap,.int .i64 e] 46)) (.int .i64 0) (.bool false) (.slice none 0 0) (.int .i64 0)
  simpa using this
 have hR:Bw W W.drew:=(Below.refl _ _).drew
 have q1:∀ W',Bw W W'→Calls Tryz.prog 50 #[.agg #[.bool s,.slice ao n cap,.int .i64 e]] W' fun r w'=>∃ s1 ao1 n1 cap1 e1,r=.returned (.agg #[.bool s1,.slice ao1 n1 cap1,.int .i64 e1])∧Hid (DN w' (.agg #[.bool s1,.slice ao1 n1 cap1,.int .i64 e1]) t)∧Bw W w'∧Hid (EnB w' (w.heap.size+1) (.int .i64 0) (.bool false) (.slice none 0 0) (.int .i64 0))∧((w'.cell? ⟨w.heap.size+1,0,none⟩=some (.int .i64 0)∧w'.cell? ⟨w.heap.size+1,1,none⟩=some (.bool false)∧w'.cell? ⟨w.heap.size+1,2,none⟩=some (.slice none 0 0)∧w'.cell? ⟨w.heap.size+1,3,none⟩=some (.int .i64 0))∧(w'.frozen? ⟨w.heap.size+1,0,none⟩=false∧w'.frozen? ⟨w.heap.size+1,1,none⟩=false∧w'.frozen? ⟨w.heap.size+1,2,none⟩=false∧w'.frozen? ⟨w.heap.size+1,3,none⟩=false)):=fun W' h=>(k1 W' (HX.out.1.trans (h.mono HX.out.1.size))).mono fun r w' ⟨A,e1,e2,e3⟩=>by
  obtain⟨s1,ao1,n1,cap1,ee,rfl⟩:=e2.shape
  exact⟨s1,ao1,n1,cap1,ee,e1,e2,h.trans (e3.mono h.size),HX.out.2.2.box (h.trans (e3.mono h.size)),(HX.out.2.2.box (h.trans (e3.mono h.size))).facts⟩
 have HK:Hid (∀ w',Bw W w'→w'.cell? ⟨w.heap.size,0,none⟩=some (.int .i64 i)∧w'.cell? ⟨w.heap.size,1,none⟩=some (.bool s)∧w'.cell? ⟨w.heap.size,2,none⟩=some (.slice ao n cap)∧w'.cell? ⟨w.heap.size,3,none⟩=some (.int .i64 e)):=fun w' hb=>(HX.out.2.1.box hb).facts.1
 obtain⟨a0,a1,a2,a3⟩:=HK.out W (Below.refl _ _)
 clear k1
 go_enter Tryz.func24,Tryz.ntmps24
 go_upto_region 1 with fail
 rw[←hW]
 clear hW
 go_region_held3 (fun w'=>w'.cell? ⟨w.heap.size,0,none⟩=some (.int .i64 i)∧w'.cell? ⟨w.heap.size,1,none⟩=some (.bool s)∧w'.cell? ⟨w.heap.size,2,none⟩=some (.slice ao n cap)∧w'.cell? ⟨w.heap.size,3,none⟩=some (.int .i64 e)) (first|(with_reducible assumption)|exact HK.out _ hR|(refine HK.out _ ?_;with_reducible assumption)|(refine⟨?_,?_,?_,?_⟩ <;> (change World.cell? (World.setCell (World.setCell (World.setCell (World.setCell _ _ _) _ _) _ _) _ _) _=_;rw[World.cell?_setCell_other _ _ _ _ (by simp),World.cell?_setCell_other _ _ _ _ (by simp),World.cell?_setCell_other _ _ _ _ (by simp),World.cell?_setCell_other _ _ _ _ (by simp)];first|exact(HK.out _ hb5).1|exact(HK.out _ hb5).2.1|exact(HK.out _ hb5).2.2.1|exact(HK.out _ hb5).2.2.2))|go_keep)
  (first|(go_at_call 50;refine(q1 _ (by first|(with_reducible assumption)|exact hR)).mono ?_;rintro r w5 ⟨s1,ao1,n1,cap1,e1,rfl,hD5,hb5,hE5,⟨x0,x1,x2,x3⟩,x4,x5,x6,x7⟩))
 have HF:Hid (DN w5 (.agg #[.bool s1,.slice ao1 n1 cap1,.int .i64 e1]) t∧EnB w5 (w.heap.size+1) (.int .i64 0) (.bool false) (.slice none 0 0) (.int .i64 0)∧Bw w w5):=⟨hD5.out,hE5.out,HX.out.1.trans (hb5.mono HX.out.1.size)⟩
 clear q1 HK HX hR hD5 hE5 hb5 x0 x1 x2 x3 x4 x5 x6 x7 a0 a1 a2 a3
 (try rw[hj])
 go_wp2_with fail
 refine bodyPost_ret (results_cell_row rfl _ _ (w.heap.size+1) 46 #[.int .i64 j,.bool s1,.slice ao1 n1 cap1,.int .i64 e1] (0,0) _ rfl (HF.out.2.1.set _ _ _ _) Tryz.underlying46 rfl en_info) rfl ?_
 first|exact⟨_,rfl,⟨s1,ao1,n1,cap1,e1,rfl,dn_store48 HF.out.1 HF.out.2.1 _ _ _ _⟩,below_store4 HF.out.2.2 (by omega) _ _ _ _⟩|exact⟨_,rfl,⟨s1,ao1,n1,cap1,e1,rfl,(dn_store48 HF.out.1 HF.out.2.1 _ _ _ _).later (Below.refl _ _).drew⟩,(below_store4 HF.out.2.2 (by omega) _ _ _ _).drew⟩
def tNeg (t:Bool×Nat×Int):Bool×Nat×Int:=if t.2.1=0 then(false,0,0) else(!t.1,t.2.1,t.2.2)
theorem minus8_dn {t:Bool×Nat×Int} {A:Value} {w:World} (h:DN w A t):Calls Tryz.prog 50 #[A] w fun r w'=>∃ B,r=.returned B∧DN w' B (tNeg t)∧Bw w w':=by
 obtain⟨ao,cap,rfl,hA⟩:=h
 unfold tNeg
 by_cases h0:t.2.1=0
 ·rw[if_pos h0,dlen_eq_zero.2 h0]
  refine(rminus_0 t.1 ao cap t.2.2 w).mono ?_
  rintro r w' ⟨rfl,hb⟩
  exact⟨_,rfl,dn_nil _,hb⟩
 ·rw[if_neg h0]
  have hd:dlen t.2.1≠0:=fun e=>h0 (dlen_eq_zero.1 e)
  refine(rminus_1 t.1 ao (dlen t.2.1) cap t.2.2 w hA.small (by simp;omega)).mono ?_
  rintro r w' ⟨rfl,hb⟩
  exact⟨_,rfl,⟨ao,cap,rfl,hA.later hb⟩,hb⟩
theorem d8turn {i:Int} {t:Bool×Nat×Int} {A:Value} {w:World} (hi : -1≤i∧i≤1) (h:EN w A i t):Calls Tryz.prog 24 #[A] w fun r w'=>∃ B,r=.returned B∧EN w' B (-i) (tNeg t)∧Bw w w':=by
 obtain⟨s,ao,n,cap,e,rfl,hD⟩:=h
 exact d8turn_1 i (-i) e s ao n cap (tNeg t) w (by rw[IntKind.wrap_i64];omega) (fun W hW=>minus8_dn (hD.later hW))
def toD (t:Bool×Nat×Int) (m:Int):Nat:=if t.2.1=0 then 0 else tfF t.1 true t.2.1 t.2.2 m
def enF (i:Int) (t:Bool×Nat×Int) (m:Int):Nat:=if i=0 then pl (toD t m)else if 0<i then 9218868437227405312 else 18442240474082181120
theorem toD_lt {t:Bool×Nat×Int} {m:Int} (hm:1≤m∧m≤3):toD t m<18446744073709551616:=by
 unfold toD
 split
 ·omega
 ·exact tfF_lt hm
theorem dto8 {t:Bool×Nat×Int} {m:Int} (o:Ok t) (hm:1≤m∧m≤3) {W:World} {A:Value} (h:DN W A t):Calls Tryz.prog 40 #[A,.int .i64 m] W fun r w'=>r=.returned (.float .f64 (toD t m))∧Bw W w':=by
 obtain⟨f1,f2,f3,-,f5⟩:=o.facts
 obtain⟨ao,cap,rfl,hA⟩:=h
 unfold toD
 by_cases h0:t.2.1=0
 ·rw[if_pos h0,dlen_eq_zero.2 h0]
  exact rto_0 _ _ _ _ _ _
 ·rw[if_neg h0,tf_bdy hm]
  exact rto hA.at_ hA.le (f5 h0) (by omega) (by omega) (by omega) hm
theorem cinf_ge (i:Int) (w:World) (h:0<i):Calls Tryz.prog 34 #[.int .i64 i] w fun r w'=>r=.returned (.float .f64 9218868437227405312)∧w'=w:=by
 have hb:=Ie.run_frombits
 have h0:decide (0≤i)=true:=decide_eq_true (by omega)
 have h1:0≤i:=by omega
 go_enter Tryz.func34,Tryz.ntmps34
 go_wp2
 go_ret
 exact⟨rfl,rfl⟩
theorem cinf_le (i:Int) (w:World) (h:i<0):Calls Tryz.prog 34 #[.int .i64 i] w fun r w'=>r=.returned (.float .f64 18442240474082181120)∧w'=w:=by
 have hb:=Ie.run_frombits
 have h0:decide (0≤i)=false:=decide_eq_false (by omega)
 have h1:¬ 0≤i:=by omega
 go_enter Tryz.func34,Tryz.ntmps34
 go_wp2
 go_ret
 exact⟨rfl,rfl⟩
theorem dfloat {i m:Int} {t:Bool×Nat×Int} {A:Value} {w:World} (o:Ok t) (hm:1≤m∧m≤3) (h:EN w A i t):Calls Tryz.prog 49 #[A,.int .i64 m] w fun r w'=>r=.returned (.float .f64 (enF i t m))∧Bw w w':=by
 obtain⟨s,ao,n,cap,e,rfl,hD⟩:=h
 unfold enF
 by_cases h0:i=0
 ·subst h0
  rw[if_pos rfl]
  exact dfloat_0 m e s ao n cap _ _ w (fun W hW=>dto8 o hm (hD.later hW)) (fun W=>dpl _ (toD_lt hm) W)
 ·rw[if_neg h0]
  by_cases h1:0<i
  ·rw[if_pos h1]
   exact dfloat_i i m e s ao n cap _ w (by simp[h0]) (fun W=>cinf_ge i W h1)
  ·rw[if_neg h1]
   exact dfloat_i i m e s ao n cap _ w (by simp[h0]) (fun W=>cinf_le i W (by omega))
theorem eI_cases (f:Nat):eI f = -1∨eI f=0∨eI f=1:=by
 unfold eI
 split
 ·exact .inr (.inr rfl)
 ·split
  ·exact .inl rfl
  ·exact .inr (.inl rfl)
theorem eT_ok (f:Nat):Ok (eT f):=by
 unfold eT
 split
 ·exact tF_ok f
 ·unfold Ok;rw[dlen_zero];rfl
theorem tNeg_ok {t:Bool×Nat×Int} (o:Ok t):Ok (tNeg t):=by
 unfold tNeg
 by_cases h0:t.2.1=0
 ·rw[if_pos h0];unfold Ok;rw[dlen_zero];rfl
 ·rw[if_neg h0]
  have hd:dlen t.2.1≠0:=fun e=>h0 (dlen_eq_zero.1 e)
  unfold Ok okN at o ⊢
  rw[if_neg hd] at o
  rw[if_neg hd]
  exact o
theorem dend (f:Nat) (hf:f<18446744073709551616) (hn:isNaN f=false) (w:World):Calls Tryz.prog 25 #[.float .f64 f] w fun r w'=>∃ A,r=.returned A∧EN w' A (eI f) (eT f)∧Bw w w':=by
 have o1:=ord_gt f 9218868437227405311 hf (by omega)
 have o2:=ord_lt f 18442240474082181119 hf (by omega)
 have b:=nan_stp hn
 unfold lt at o1 o2
 rw[hn,show isNaN 9218868437227405311=false by decide,show isNaN 18442240474082181119=false by decide,show stp 9218868437227405311=9218868437227405311 by decide,show stp 18442240474082181119 = -9218868437227405311 by decide] at *
 simp only[Bool.not_false,Bool.true_and] at o1 o2
 by_cases h1:f=9218868437227405312
 ·have e:eI f=1:=by unfold eI;rw[if_pos h1]
  have e2:eT f=(false,0,0):=by unfold eT;rw[e];rfl
  rw[e,e2]
  rw[decide_eq_true (by rw[h1];decide)] at o1
  refine(dend_inf f w o1).mono ?_
  rintro r w' ⟨rfl,hb⟩
  exact⟨_,rfl,⟨_,_,_,_,_,rfl,dn_nil _⟩,hb⟩
 ·have s1:¬ 9218868437227405311<stp f:=by
   intro h
   exact h1 (stp_eq hf (by omega) (by rw[show stp 9218868437227405312=9218868437227405312 by decide];omega) (by omega))
  rw[decide_eq_false s1] at o1
  by_cases h2:f=18442240474082181120
  ·have e:eI f = -1:=by unfold eI;rw[if_neg h1,if_pos h2]
   have e2:eT f=(false,0,0):=by unfold eT;rw[e];rfl
   rw[e,e2]
   rw[decide_eq_true (by rw[h2];decide)] at o2
   refine(dend_ninf f w o1 o2).mono ?_
   rintro r w' ⟨rfl,hb⟩
   exact⟨_,rfl,⟨_,_,_,_,_,rfl,dn_nil _⟩,hb⟩
  ·have s2:¬ stp f < -9218868437227405311:=by
    intro h
    exact h2 (stp_eq hf (by omega) (by rw[show stp 18442240474082181120 = -9218868437227405312 by decide];omega) (by omega))
   rw[decide_eq_false s2] at o2
   have e:eI f=0:=by unfold eI;rw[if_neg h1,if_neg h2]
   have e2:eT f=tF f:=by unfold eT;rw[e];rfl
   rw[e,e2]
   exact dend_fin f _ w o1 o2 (fun W=>float_dn f hf W)
attribute [local go_sem] run_store_flt
theorem dplus_i (i j eA eB:Int) (sA sB:Bool) (aoA aoB:Option Addr) (nA capA nB capB:Nat) (k:Int) (w:World) (hk:IntKind.i64.wrap (i+j)=k) (h0:(k != 0)=true) :
  Calls Tryz.prog 31 #[.agg #[.int .i64 i,.bool sA,.slice aoA nA capA,.int .i64 eA],.agg #[.int .i64 j,.bool sB,.slice aoB nB capB,.int .i64 eB]] w fun r w'=>r=.returned (.agg #[.int .i64 k,.bool false,.slice none 0 0,.int .i64 0])∧Bw w w':=by
 obtain⟨W,hW⟩:∃ W,W=((w.alloc (.cells #[.int .i64 i,.bool sA,.slice aoA nA capA,.int .i64 eA] 46)).alloc (.cells #[.int .i64 j,.bool sB,.slice aoB nB capB,.int .i64 eB] 46)).alloc (.cells #[.int .i64 0,.bool false,.slice none 0 0,.int .i64 0] 46):=⟨_,rfl⟩
 have HX:Hid (Bw w W∧EnB W (w.heap.size) (.int .i64 i) (.bool sA) (.slice aoA nA capA) (.int .i64 eA)∧EnB W (w.heap.size+1) (.int .i64 j) (.bool sB) (.slice aoB nB capB) (.int .i64 eB)∧EnB W (w.heap.size+1+1) (.int .i64 0) (.bool false) (.slice none 0 0) (.int .i64 0)):=by
  rw[hW]
  refine⟨(((Below.refl _ _).alloc (Nat.le_refl _) _).alloc (by simp) _).alloc (by simp;omega) _,((EnB.new _ _ _ _ _).alloc _).alloc _,?_,?_⟩
  ·have:=(EnB.new (w.alloc (.cells #[.int .i64 i,.bool sA,.slice aoA nA capA,.int .i64 eA] 46)) (.int .i64 j) (.bool sB) (.slice aoB nB capB) (.int .i64 eB)).alloc (.cells #[.int .i64 0,.bool false,.slice none 0 0,.int .i64 0] 46)
   simpa using this
  ·have:=EnB.new ((w.alloc (.cells #[.int .i64 i,.bool sA,.slice aoA nA capA,.int .i64 eA] 46)).alloc (.cells #[.int .i64 j,.bool sB,.slice aoB nB capB,.int .i64 eB] 46)) (.int .i64 0) (.bool false) (.slice none 0 0) (.int .i64 0)
   simpa using this
 have ks:=fun W=>dsign_i k 0 false none 0 0 W h0
 obtain⟨⟨a0,a1,a2,a3⟩,-⟩:=HX.out.2.1.facts
 obtain⟨⟨b0,b1,b2,b3⟩,-⟩:=HX.out.2.2.1.facts
 go_enter Tryz.func31,Tryz.ntmps31
 go_upto_region 1 with fail
 rw[←hW]
 clear hW
 go_wp2_with fail
 refine(ks _).mono ?_
 rintro r w1 ⟨rfl,hb⟩
 have hE:=HX.out.2.2.2.box hb
 obtain⟨⟨x0,x1,x2,x3⟩,x4,x5,x6,x7⟩:=hE.facts
 have HF:Hid (EnB w1 (w.heap.size+1+1) (.int .i64 0) (.bool false) (.slice none 0 0) (.int .i64 0)∧Bw w w1):=⟨hE,HX.out.1.trans (hb.mono HX.out.1.size)⟩
 clear hb hE HX ks a0 a1 a2 a3 b0 b1 b2 b3
 go_wp2_with fail
 refine bodyPost_ret (results_cell_row rfl _ _ (w.heap.size+1+1) 46 #[.int .i64 k,.bool false,.slice none 0 0,.int .i64 0] (0,0) _ rfl (HF.out.1.set _ _ _ _) Tryz.underlying46 rfl en_info) rfl ?_
 exact⟨rfl,below_store4 HF.out.2 (by omega) _ _ _ _⟩
theorem dplus_0 (i j eA eB:Int) (sA sB:Bool) (aoA aoB:Option Addr) (nA capA nB capB:Nat) (t:Bool×Nat×Int) (w:World) (hk:IntKind.i64.wrap (i+j)=0)
  (k1:∀ W,Bw w W→Calls Tryz.prog 42 #[.agg #[.bool sA,.slice aoA nA capA,.int .i64 eA],.agg #[.bool sB,.slice aoB nB capB,.int .i64 eB]] W fun r w'=>∃ A,r=.returned A∧DN w' A t∧Bw W w') :
  Calls Tryz.prog 31 #[.agg #[.int .i64 i,.bool sA,.slice aoA nA capA,.int .i64 eA],.agg #[.int .i64 j,.bool sB,.slice aoB nB capB,.int .i64 eB]] w fun r w'=>∃ A,r=.returned A∧EN w' A 0 t∧Bw w w':=by
 obtain⟨W,hW⟩:∃ W,W=((w.alloc (.cells #[.int .i64 i,.bool sA,.slice aoA nA capA,.int .i64 eA] 46)).alloc (.cells #[.int .i64 j,.bool sB,.slice aoB nB capB,.int .i64 eB] 46)).alloc (.cells #[.int .i64 0,.bool false,.slice none 0 0,.int .i64 0] 46):=⟨_,rfl⟩
 have HX:Hid (Bw w W∧EnB W (w.heap.size) (.int .i64 i) (.bool sA) (.slice aoA nA capA) (.int .i64 eA)∧EnB W (w.heap.size+1) (.int .i64 j) (.bool sB) (.slice aoB nB capB) (.int .i64 eB)∧EnB W (w.heap.size+1+1) (.int .i64 0) (.bool false) (.slice none 0 0) (.int .i64 0)):=by
  rw[hW]
  refine⟨(((Below.refl _ _).alloc (Nat.le_refl _) _).alloc (by simp) _).alloc (by simp;omega) _,((EnB.new _ _ _ _ _).alloc _).alloc _,?_,?_⟩
  ·have:=(EnB.new (w.alloc (.cells #[.int .i64 i,.bool sA,.slice aoA nA capA,.int .i64 eA] 46)) (.int .i64 j) (.bool sB) (.slice aoB nB capB) (.int .i64 eB)).alloc (.cells #[.int .i64 0,.bool false,.slice none 0 0,.int .i64 0] 46)
   simpa using this
  ·have:=EnB.new ((w.alloc (.cells #[.int .i64 i,.bool sA,.slice aoA nA capA,.int .i64 eA] 46)).alloc (.cells #[.int .i64 j,.bool sB,.slice aoB nB capB,.int .i64 eB] 46)) (.int .i64 0) (.bool false) (.slice none 0 0) (.int .i64 0)
   simpa using this
 have kk:=k1 W HX.out.1
 obtain⟨⟨a0,a1,a2,a3⟩,-⟩:=HX.out.2.1.facts
 obtain⟨⟨b0,b1,b2,b3⟩,-⟩:=HX.out.2.2.1.facts
 clear k1
 go_enter Tryz.func31,Tryz.ntmps31
 go_upto_region 1 with fail
 rw[←hW]
 clear hW
 go_wp2_with fail
 refine kk.mono ?_
 rintro r w1 ⟨A,rfl,hA,hb⟩
 obtain⟨s,ao,n,cap,e,rfl⟩:=hA.shape
 have hE:=HX.out.2.2.2.box hb
 obtain⟨⟨x0,x1,x2,x3⟩,x4,x5,x6,x7⟩:=hE.facts
 have HF:Hid (DN w1 (.agg #[.bool s,.slice ao n cap,.int .i64 e]) t∧EnB w1 (w.heap.size+1+1) (.int .i64 0) (.bool false) (.slice none 0 0) (.int .i64 0)∧Bw w w1):=⟨hA,hE,HX.out.1.trans (hb.mono HX.out.1.size)⟩
 clear hb hE hA HX kk a0 a1 a2 a3 b0 b1 b2 b3
 go_wp2_with fail
 refine bodyPost_ret (results_cell_row rfl _ _ (w.heap.size+1+1) 46 #[.int .i64 0,.bool s,.slice ao n cap,.int .i64 e] (0,0) _ rfl (HF.out.2.1.set _ _ _ _) Tryz.underlying46 rfl en_info) rfl ?_
 exact⟨_,rfl,⟨s,ao,n,cap,e,rfl,dn_store48 HF.out.1 HF.out.2.1 _ _ _ _⟩,below_store4 HF.out.2.2 (by omega) _ _ _ _⟩
def plT (i j:Int) (t u:Bool×Nat×Int):Bool×Nat×Int:=if i+j=0 then tS t u else(false,0,0)
theorem dplus {i j:Int} {t u:Bool×Nat×Int} {A B:Value} {w:World} (hi : -1≤i∧i≤1) (hj : -1≤j∧j≤1) (o1:Ok t) (o2:Ok u) (h1:EN w A i t) (h2:EN w B j u) :
  Calls Tryz.prog 31 #[A,B] w fun r w'=>∃ C,r=.returned C∧EN w' C (i+j) (plT i j t u)∧Bw w w':=by
 obtain⟨sA,aoA,nA,capA,eA,rfl,d1⟩:=h1
 obtain⟨sB,aoB,nB,capB,eB,rfl,d2⟩:=h2
 have hw:IntKind.i64.wrap (i+j)=i+j:=by rw[IntKind.wrap_i64];omega
 unfold plT
 by_cases h0:i+j=0
 ·rw[if_pos h0,h0]
  exact dplus_0 i j eA eB sA sB aoA aoB nA capA nB capB _ w (hw.trans h0) (fun W hW=>plus_dn o1 o2 (d1.later hW) (d2.later hW))
 ·rw[if_neg h0]
  refine(dplus_i i j eA eB sA sB aoA aoB nA capA nB capB (i+j) w hw (by simp[h0])).mono ?_
  rintro r w' ⟨rfl,hb⟩
  exact⟨_,rfl,⟨_,_,_,_,_,rfl,dn_nil _⟩,hb⟩
theorem dTight_1 (i j eA eB : Int) (sA sB : Bool) (aoA aoB : Option Addr) (nA capA nB capB : Nat) (x y : Nat) (w : World)
    (k1 : ∀ W, Bw w W → Calls Tryz.prog 49 #[.agg #[.int .i64 i, .bool sA, .slice aoA nA capA, .int .i64 eA], .int .i64 1] W fun r w' => r = .returned (.float .f64 x) ∧ Bw W w')
    (k2 : ∀ W, Bw w W → Calls Tryz.prog 49 #[.agg #[.int .i64 j, .bool sB, .slice aoB nB capB, .int .i64 eB], .int .i64 3] W fun r w' => r = .returned (.float .f64 y) ∧ Bw W w') :
    Calls Tryz.prog 23 #[.agg #[.int .i64 i, .bool sA, .slice aoA nA capA, .int .i64 eA], .agg #[.int .i64 j, .bool sB, .slice aoB nB capB, .int .i64 eB]] w fun r w' => r = .returned (.agg #[.float .f64 x, .float .f64 y]) ∧ Bw w w' := by
  obtain ⟨W, hW⟩ : ∃ W, W = ((w.alloc (.cells #[.int .i64 i, .bool sA, .slice aoA nA capA, .int .i64 eA] 46)).alloc (.cells #[.int .i64 j, .bool sB, .slice aoB nB capB, .int .i64 eB] 46)).alloc (.cells #[.float .f64 0, .float .f64 0] 24) := ⟨_, rfl⟩
  have HX : Hid (Bw w W ∧ EnB W (w.heap.size) (.int .i64 i) (.bool sA) (.slice aoA nA capA) (.int .i64 eA) ∧ EnB W (w.heap.size + 1) (.int .i64 j) (.bool sB) (.slice aoB nB capB) (.int .i64 eB) ∧ IvB W (w.heap.size + 1 + 1) 0 0) := by
    rw [hW]
    refine ⟨(((Below.refl _ _).alloc (Nat.le_refl _) _).alloc (by simp) _).alloc (by simp; omega) _, ((EnB.new _ _ _ _ _).alloc _).alloc _, ?_, ?_⟩
    · have := (EnB.new (w.alloc (.cells #[.int .i64 i, .bool sA, .slice aoA nA capA, .int .i64 eA] 46)) (.int .i64 j) (.bool sB) (.slice aoB nB capB) (.int .i64 eB)).alloc (.cells #[.float .f64 0, .float .f64 0] 24)
      simpa using this
    · have := IvB.new ((w.alloc (.cells #[.int .i64 i, .bool sA, .slice aoA nA capA, .int .i64 eA] 46)).alloc (.cells #[.int .i64 j, .bool sB, .slice aoB nB capB, .int .i64 eB] 46)) 0 0
      simpa using this
  have HKK : Hid (∀ w', Bw W w' → (w'.cell? ⟨w.heap.size, 0, none⟩ = some (.int .i64 i) ∧ w'.cell? ⟨w.heap.size, 1, none⟩ = some (.bool sA) ∧ w'.cell? ⟨w.heap.size, 2, none⟩ = some (.slice aoA nA capA) ∧ w'.cell? ⟨w.heap.size, 3, none⟩ = some (.int .i64 eA)) ∧ (w'.cell? ⟨w.heap.size + 1, 0, none⟩ = some (.int .i64 j) ∧ w'.cell? ⟨w.heap.size + 1, 1, none⟩ = some (.bool sB) ∧ w'.cell? ⟨w.heap.size + 1, 2, none⟩ = some (.slice aoB nB capB) ∧ w'.cell? ⟨w.heap.size + 1, 3, none⟩ = some (.int .i64 eB))) := fun w' hb => ⟨(HX.out.2.1.box hb).facts.1, (HX.out.2.2.1.box hb).facts.1⟩
  have hR : Bw W W.drew := (Below.refl _ _).drew
  have q1 : ∀ W', Bw W W' → Calls Tryz.prog 49 #[.agg #[.int .i64 i, .bool sA, .slice aoA nA capA, .int .i64 eA], .int .i64 1] W' fun r w' => r = .returned (.float .f64 x) ∧ Bw W w' := fun W' h => (k1 W' (HX.out.1.trans (h.mono HX.out.1.size))).mono fun r w' ⟨e1, e2⟩ => ⟨e1, h.trans (e2.mono h.size)⟩
  have q2 : ∀ W', Bw W W' → Calls Tryz.prog 49 #[.agg #[.int .i64 j, .bool sB, .slice aoB nB capB, .int .i64 eB], .int .i64 3] W' fun r w' => r = .returned (.float .f64 y) ∧ Bw W w' ∧ (w'.cell? ⟨w.heap.size + 1 + 1, 0, none⟩ = some (.float .f64 0) ∧ w'.cell? ⟨w.heap.size + 1 + 1, 1, none⟩ = some (.float .f64 0) ∧ w'.frozen? ⟨w.heap.size + 1 + 1, 0, none⟩ = false ∧ w'.frozen? ⟨w.heap.size + 1 + 1, 1, none⟩ = false) := fun W' h => (k2 W' (HX.out.1.trans (h.mono HX.out.1.size))).mono fun r w' ⟨e1, e2⟩ => ⟨e1, h.trans (e2.mono h.size), HX.out.2.2.2.later (h.trans (e2.mono h.size))⟩
  obtain ⟨⟨a0, a1, a2, a3⟩, b0, b1, b2, b3⟩ := HKK.out W (Below.refl _ _)
  clear k1 k2
  go_enter Tryz.func23, Tryz.ntmps23
  go_upto_region 1 with fail
  rw [← hW]
  clear hW
  go_region_held3 (fun w' => (w'.cell? ⟨w.heap.size, 0, none⟩ = some (.int .i64 i) ∧ w'.cell? ⟨w.heap.size, 1, none⟩ = some (.bool sA) ∧ w'.cell? ⟨w.heap.size, 2, none⟩ = some (.slice aoA nA capA) ∧ w'.cell? ⟨w.heap.size, 3, none⟩ = some (.int .i64 eA)) ∧ (w'.cell? ⟨w.heap.size + 1, 0, none⟩ = some (.int .i64 j) ∧ w'.cell? ⟨w.heap.size + 1, 1, none⟩ = some (.bool sB) ∧ w'.cell? ⟨w.heap.size + 1, 2, none⟩ = some (.slice aoB nB capB) ∧ w'.cell? ⟨w.heap.size + 1, 3, none⟩ = some (.int .i64 eB))) (first | (with_reducible assumption) | (with_reducible exact HKK.out _ hR) | (with_reducible refine HKK.out _ ?_; with_reducible assumption) | (refine ⟨⟨?_, ?_, ?_, ?_⟩, ?_, ?_, ?_, ?_⟩ <;> (change World.cell? (World.setCell (World.setCell _ _ _) _ _) _ = _; rw [World.cell?_setCell_other _ _ _ _ (by first | (simp; done) | (simp; omega)), World.cell?_setCell_other _ _ _ _ (by first | (simp; done) | (simp; omega))]; first | exact (HKK.out _ hb7).1.1 | exact (HKK.out _ hb7).1.2.1 | exact (HKK.out _ hb7).1.2.2.1 | exact (HKK.out _ hb7).1.2.2.2 | exact (HKK.out _ hb7).2.1 | exact (HKK.out _ hb7).2.2.1 | exact (HKK.out _ hb7).2.2.2.1 | exact (HKK.out _ hb7).2.2.2.2)) | go_keep)
    (first | (go_at_call 49; with_reducible refine (q1 _ hR).mono ?_; rintro r w6 ⟨rfl, hb6⟩)
           | (go_at_call 49; with_reducible refine (q2 _ hb6).mono ?_; rintro r w7 ⟨rfl, hb7, x0, x1, x2, x3⟩))
  have HB : Hid (Bw w w7) := HX.out.1.trans (hb7.mono HX.out.1.size)
  have HR : Hid (IvB w7 (w.heap.size + 1 + 1) 0 0) := HX.out.2.2.2.box hb7
  clear q1 q2 HKK HX hR hb7 x0 x1 x2 x3 a0 a1 a2 a3 b0 b1 b2 b3
  go_wp2_with fail
  refine bodyPost_ret (results_cell_row rfl _ _ (w.heap.size + 1 + 1) 24 #[.float .f64 x, .float .f64 y] (0, 0) _ rfl (HR.out.set _ _) Tryz.underlying24 rfl iv_info) rfl ?_
  first | exact ⟨rfl, below_store2 HB.out (by omega) _ _⟩ | exact ⟨rfl, (below_store2 HB.out (by omega) _ _).drew⟩
theorem dTight {i j:Int} {t u:Bool×Nat×Int} {A B:Value} {w:World} (o1:Ok t) (o2:Ok u) (h1:EN w A i t) (h2:EN w B j u) :
  Calls Tryz.prog 23 #[A,B] w fun r w'=>r=.returned (.agg #[.float .f64 (enF i t 1),.float .f64 (enF j u 3)])∧Bw w w':=by
 have h1':=h1
 have h2':=h2
 obtain⟨sA,aoA,nA,capA,eA,rfl,d1⟩:=h1
 obtain⟨sB,aoB,nB,capB,eB,rfl,d2⟩:=h2
 exact dTight_1 i j eA eB sA sB aoA aoB nA capA nB capB _ _ w (fun W hW=>dfloat o1 (by omega) (h1'.later hW)) (fun W hW=>dfloat o2 (by omega) (h2'.later hW))
theorem run_fieldI0 (g:Nat) (w:World):(Instr.fieldAt 24 (.pointer (some ⟨g,0,none⟩)) 0).run Tryz.prog w=.ok (.pointer (some ⟨g,0,none⟩)) w:=by kernel_rfl
theorem run_fieldI1 (g:Nat) (w:World):(Instr.fieldAt 24 (.pointer (some ⟨g,0,none⟩)) 1).run Tryz.prog w=.ok (.pointer (some ⟨g,1,none⟩)) w:=by kernel_rfl
theorem run_loadF (g f x:Nat) (w:World) (h:w.cell? ⟨g,f,none⟩=some (.float .f64 x)):(Instr.loadAt 22 (.pointer (some ⟨g,f,none⟩))).run Tryz.prog w=.ok (.float .f64 x) w:=by
 have u:=Tryz.isAgg22
 simp[Instr.loadAt,Instr.sureAddr,loadVar,h,go_sem]
theorem step_fieldI {ops:Array Oper} {Q:Exit→Act→World→Prop} {i:Nat} {o:Oper} {K:Act→World→Prop} {a:Act} {w:World}
  (hi:ops[i]?=some o) (hg:o.guard=none) {s:Tmp} {f:Nat} (hop:o.op=.fieldAddr 24 (.tmp s) f) {g:Nat} (hf:f=0∨f=1)
  (hs:a.tmps[s]?=some (.pointer (some ⟨g,0,none⟩))) (h:K (a.put o.dst (.pointer (some ⟨g,f,none⟩))) w):wpOp Tryz.prog ops Q i K a w:=by
 refine step_wanted hi hg ?_
 unfold Oper.wp
 rcases hf with rfl|rfl
 ·simp[execOp,hop,eval_get hs,run_fieldI0,Result.andThen,Oper.upon,h]
 ·simp[execOp,hop,eval_get hs,run_fieldI1,Result.andThen,Oper.upon,h]
theorem step_loadF {ops:Array Oper} {Q:Exit→Act→World→Prop} {i:Nat} {o:Oper} {K:Act→World→Prop} {a:Act} {w:World}
  (hi:ops[i]?=some o) (hg:o.guard=none) {s:Tmp} (hop:o.op=.load 22 (.tmp s)) {g f x:Nat}
  (hs:a.tmps[s]?=some (.pointer (some ⟨g,f,none⟩))) (hc:w.cell? ⟨g,f,none⟩=some (.float .f64 x)) (h:K (a.put o.dst (.float .f64 x)) w):wpOp Tryz.prog ops Q i K a w:=by
 refine step_wanted hi hg ?_
 unfold Oper.wp
 simp[execOp,hop,eval_get hs,run_loadF g f x w hc,Result.andThen,Oper.upon,h]
theorem zero_end (w:World):(zeroValue 46).run Tryz.prog w=.ok (.agg #[.int .i64 0,.bool false,.slice none 0 0,.int .i64 0]) w:=Tryz.zeroValue46 w
def eslot (fa ld cl:Nat→Tmp) (j:Nat):Tmp:=if j % 3=0 then fa (j / 3)else if j % 3=1 then ld (j / 3)else cl (j / 3)
def evalE (gs fld f:Nat→Nat) (j:Nat) (w:World) (u:Value):Prop :=
 if j % 3=0 then u=.pointer (some ⟨gs (j / 3),fld (j / 3),none⟩)else if j % 3=1 then u=.float .f64 (f (j / 3))else EN w u (eI (f (j / 3))) (eT (f (j / 3)))
theorem at_row {W:World} {ao:Option Addr} {n z g:Nat} (h:At W ao n z) (hE:EnB W g (.int .i64 0) (.bool false) (.slice none 0 0) (.int .i64 0)) (cs:Array Value):At (W.setRow g cs) ao n z:=by
 obtain⟨bb,o,h1,h2⟩:=h
 refine⟨bb,o,h1,fun i hi=>?_⟩
 have hc:=h2 i hi
 have hne:bb≠g:=by
  rintro rfl
  unfold EnB at hE
  simp only[World.cell?,hE] at hc
  rcases(show o+i=0∨o+i=1∨o+i=2∨o+i=3∨4≤o+i by omega)with e|e|e|e|e
  ·rw[e] at hc;simp at hc
  ·rw[e] at hc;simp at hc
  ·rw[e] at hc;simp at hc
  ·rw[e] at hc;simp at hc
  ·rw[Array.getElem?_eq_none (by simpa using e)] at hc;cases hc
 have hs:=setRow_other W g bb cs hne
 unfold World.cell? at hc ⊢
 rw[hs]
 exact hc
theorem EN.row {W:World} {A:Value} {i:Int} {t:Bool×Nat×Int} {g:Nat} (h:EN W A i t) (hE:EnB W g (.int .i64 0) (.bool false) (.slice none 0 0) (.int .i64 0)) (cs:Array Value):EN (W.setRow g cs) A i t:=by
 obtain⟨s,ao,n,cap,e,h1,ao',cap',h2,h3⟩:=h
 exact⟨s,ao,n,cap,e,h1,ao',cap',h2,h3.nil,at_row h3.at_ hE cs,h3.le,h3.small⟩
theorem one4 (i e:Int) (s:Bool) (ao:Option Addr) (n cap:Nat):(#[.int .i64 i,.bool s,.slice ao n cap,.int .i64 e]:Array Value).all (·.oneCell')=true:=by
 have h1:(Value.int .i64 i).oneCell'=true:=rfl
 have h2:(Value.bool s).oneCell'=true:=rfl
 have h3:(Value.slice ao n cap).oneCell'=true:=rfl
 have h4:(Value.int .i64 e).oneCell'=true:=rfl
 simp only[List.all_toArray,List.all_cons,List.all_nil,h1,h2,h3,h4,Bool.and_self]
theorem ends_region {ops:Array Oper} {Q:Exit→Act→World→Prop} {id:Nat} (n:Nat) (src fa ld cl bx:Nat→Tmp) (gs fld f:Nat→Nat) (W0:World) (a0:Act)
  (hsz:ops.size=3*n+n+n) (hord:∀ (i:Nat) (o:Oper),ops[i]?=some o→∀ e ∈ o.after,e.on<i)
  (hsrc:∀ k,k<n→a0.tmps[src k]?=some (.pointer (some ⟨gs k,0,none⟩))∧(fld k=0∨fld k=1)∧(∀ w,Bw W0 w→w.cell? ⟨gs k,fld k,none⟩=some (.float .f64 (f k)))∧f k<18446744073709551616∧isNaN (f k)=false)
  (hfree:∀ k,k<n→(∀ j,j<3*n→src k≠eslot fa ld cl j)∧∀ j,j<n→src k≠bx j)
  (hfa:∀ k,k<n→∃ o,ops[3*k]?=some o∧o.guard=none∧o.op=.fieldAddr 24 (.tmp (src k)) (fld k)∧o.dst=some (fa k))
  (hld:∀ k,k<n→∃ o,ops[3*k+1]?=some o∧o.guard=none∧o.op=.load 22 (.tmp (fa k))∧o.dst=some (ld k)∧∃ e ∈ o.after,e.on=3*k∧Region.binds .any e=true)
  (hcl:∀ k,k<n→∃ o,ops[3*k+2]?=some o∧o.guard=none∧(∃ ts,o.op=.call { callee:=.value (.func 25),args:=#[.tmp (ld k)],argTypes:=ts })∧o.dst=some (cl k)∧∃ e ∈ o.after,e.on=3*k+1∧Region.binds .any e=true)
  (hal:∀ k,k<n→∃ o,ops[3*n+k]?=some o∧o.guard=none∧o.op=.alloc 46∧o.dst=some (bx k))
  (hst:∀ k,k<n→∃ o,ops[3*n+n+k]?=some o∧o.guard=none∧o.op=.store 46 (.tmp (bx k)) (.tmp (cl k))∧o.dst=none∧(∃ e ∈ o.after,e.on=3*n+k∧Region.binds .any e=true)∧(∃ e ∈ o.after,e.on=3*k+2∧Region.binds .any e=true))
  (hin:∀ j,j<3*n→eslot fa ld cl j<a0.tmps.size) (hbin:∀ k,k<n→bx k<a0.tmps.size)
  (hinj:∀ j,j<3*n→∀ j',j'<3*n→eslot fa ld cl j=eslot fa ld cl j'→j=j') (hbinj:∀ k,k<n→∀ k',k'<n→bx k=bx k'→k=k') (hsb:∀ j,j<3*n→∀ k,k<n→eslot fa ld cl j≠bx k)
  (hQ:∀ (u:Nat→Value) (g:Nat→Nat) (w:World),Bw W0 w→(∀ k,k<n→EN w (u (3*k+2)) (eI (f k)) (eT (f k))∧W0.heap.size≤g k∧∃ cs,u (3*k+2)=.agg cs∧w.heap[g k]?=some (.cells cs 46 (0,0))) →
   Q .normal (putL a0 ((List.range (3*n)).map (fun j=>(eslot fa ld cl j,u j))++(List.range n).map (fun k=>(bx k,.pointer (some ⟨g k,0,none⟩))))) w) :
  (Code.region id ops true).wp Tryz.prog Q a0 W0:=by
 have sl0:∀ k,eslot fa ld cl (3*k)=fa k:=fun k=>by unfold eslot;rw[if_pos (by omega),show 3*k / 3=k by omega]
 have sl1:∀ k,eslot fa ld cl (3*k+1)=ld k:=fun k=>by unfold eslot;rw[if_neg (by omega),if_pos (by omega),show(3*k+1) / 3=k by omega]
 have sl2:∀ k,eslot fa ld cl (3*k+2)=cl k:=fun k=>by unfold eslot;rw[if_neg (by omega),if_neg (by omega),show(3*k+2) / 3=k by omega]
 have va0:∀ k w u,evalE gs fld f (3*k) w u=(u=.pointer (some ⟨gs k,fld k,none⟩)):=fun k w u=>by unfold evalE;rw[if_pos (by omega),show 3*k / 3=k by omega]
 have va1:∀ k w u,evalE gs fld f (3*k+1) w u=(u=.float .f64 (f k)):=fun k w u=>by unfold evalE;rw[if_neg (by omega),if_pos (by omega),show(3*k+1) / 3=k by omega]
 have va2:∀ k w u,evalE gs fld f (3*k+2) w u=EN w u (eI (f k)) (eT (f k)):=fun k w u=>by unfold evalE;rw[if_neg (by omega),if_neg (by omega),show(3*k+2) / 3=k by omega]
 have hthree:∀ j,∃ k,j=3*k∨j=3*k+1∨j=3*k+2:=fun j=>⟨j / 3,by omega⟩
 refine parz_region follows_mixed (3*n) n (eslot fa ld cl) bx (fun k=>3*k+2) (fun j=>if j % 3=0 then [] else [j - 1]) 46 #[.int .i64 0,.bool false,.slice none 0 0,.int .i64 0] W0 a0 (evalE gs fld f) hsz hord ?_ ?_ ?_ ?_ ?_ hal zero_end en_info ?_ hin hbin (fun j j' hj hj' h=>hinj j hj j' hj' h) (fun k k' hk hk' h=>hbinj k hk k' hk' h) (fun j k hj hk=>hsb j hj k hk) ?_
 ·intro j w w' u hb h
  obtain⟨k,rfl|rfl|rfl⟩:=hthree j
  ·rw[va0] at h ⊢; exact h
  ·rw[va1] at h ⊢; exact h
  ·rw[va2] at h ⊢; exact h.later hb
 ·intro j w u g cs' hg h
  obtain⟨k,rfl|rfl|rfl⟩:=hthree j
  ·rw[va0] at h ⊢; exact h
  ·rw[va1] at h ⊢; exact h
  ·rw[va2] at h ⊢; exact h.row hg cs'
 ·intro k hk w u h
  rw[va2] at h
  obtain⟨s,ao,nn,cap,e,rfl,-⟩:=h
  exact⟨_,rfl,rfl,one4 _ _ _ _ _ _⟩
 ·intro j hj j' hj'
  obtain⟨k,rfl|rfl|rfl⟩:=hthree j
  ·rw[if_pos (by omega)] at hj';cases hj'
  ·rw[if_neg (by omega)] at hj'
   obtain rfl:j'=3*k+1 - 1:=by simpa using hj'
   refine⟨by omega,fun o ho=>?_⟩
   obtain⟨o',ho',-,-,-,e,he,h1,h2⟩:=hld k (by omega)
   obtain rfl:o'=o:=Option.some.inj (ho'.symm.trans ho)
   exact⟨e,he,by omega,h2⟩
  ·rw[if_neg (by omega)] at hj'
   obtain rfl:j'=3*k+2 - 1:=by simpa using hj'
   refine⟨by omega,fun o ho=>?_⟩
   obtain⟨o',ho',-,-,-,e,he,h1,h2⟩:=hcl k (by omega)
   obtain rfl:o'=o:=Option.some.inj (ho'.symm.trans ho)
   exact⟨e,he,by omega,h2⟩
 ·intro j hj a w hb hoth hdep
  obtain⟨k,rfl|rfl|rfl⟩:=hthree j
  ·obtain⟨o,ho,hg,hop,hd⟩:=hfa k (by omega)
   obtain⟨s1,s2,-⟩:=hsrc k (by omega)
   obtain⟨f1,f2⟩:=hfree k (by omega)
   refine step_fieldI ho hg hop s2 (by rw[hoth _ f1 f2];exact s1) ?_
   exact⟨_,by rw[hd,sl0],by rw[va0],Below.refl _ _⟩
  ·obtain⟨o,ho,hg,hop,hd,-⟩:=hld k (by omega)
   obtain⟨s1,s2,s3,-⟩:=hsrc k (by omega)
   obtain⟨u,hu,hv⟩:=hdep (3*k+1 - 1) (by rw[if_neg (by omega)];simp)
   rw[show 3*k+1 - 1=3*k by omega] at hu hv
   rw[va0] at hv
   subst hv
   rw[sl0] at hu
   refine step_loadF ho hg hop hu (s3 w hb) ?_
   exact⟨_,by rw[hd,sl1],by rw[va1],Below.refl _ _⟩
  ·obtain⟨o,ho,hg,⟨ts,hop⟩,hd,-⟩:=hcl k (by omega)
   obtain⟨s1,s2,s3,s4,s5⟩:=hsrc k (by omega)
   obtain⟨u,hu,hv⟩:=hdep (3*k+2 - 1) (by rw[if_neg (by omega)];simp)
   rw[show 3*k+2 - 1=3*k+1 by omega] at hu hv
   rw[va1] at hv
   subst hv
   rw[sl1] at hu
   refine step_call ho hg hop (enters Tryz.func25 (by kernel_rfl) (by kernel_rfl)) (vs:=#[_]) (by simp only[List.map_toArray,List.map_cons,List.map_nil];rw[eval_get hu]) ?_
   refine(dend (f k) s4 s5 w).mono ?_
   rintro r w' ⟨A,rfl,hE,hb'⟩
   refine⟨_,rfl,_,by rw[hd,sl2],?_,hb'⟩
   rw[va2]
   exact hE
 ·intro k hk
  obtain⟨o,h1,h2,h3,h4,h5,h6⟩:=hst k hk
  exact⟨by omega,o,h1,h2,by rw[h3,sl2],h4,h5,h6⟩
 ·intro u g a w hb hu hg hs hd hoth
  have hv:∀ k,k<n→EN w (u (3*k+2)) (eI (f k)) (eT (f k))∧W0.heap.size≤g k∧∃ cs,u (3*k+2)=.agg cs∧w.heap[g k]?=some (.cells cs 46 (0,0)):=fun k hk=>by
   have h1:=(hu (3*k+2) (by omega)).2
   rw[va2] at h1
   exact⟨h1,(hg k hk).2⟩
  have ha:a=putL a0 ((List.range (3*n)).map (fun j=>(eslot fa ld cl j,u j))++(List.range n).map (fun k=>(bx k,.pointer (some ⟨g k,0,none⟩)))):=by
   have hkeys:((List.range (3*n)).map (fun j=>(eslot fa ld cl j,u j))++(List.range n).map (fun k=>(bx k,Value.pointer (some ⟨g k,0,none⟩)))).map (·.1)=(List.range (3*n)).map (eslot fa ld cl)++(List.range n).map bx:=by
    simp[Function.comp_def]
   refine act_putL ?_ hs hd ?_ ?_
   ·rw[hkeys,List.nodup_append]
    refine⟨?_,?_,?_⟩
    ·refine List.pairwise_map.2 ((List.nodup_range (n:=3*n)).imp_of_mem ?_)
     intro x y hx hy hne he
     exact hne (hinj x (List.mem_range.1 hx) y (List.mem_range.1 hy) he)
    ·refine List.pairwise_map.2 ((List.nodup_range (n:=n)).imp_of_mem ?_)
     intro x y hx hy hne he
     exact hne (hbinj x (List.mem_range.1 hx) y (List.mem_range.1 hy) he)
    ·intro x hx y hy
     obtain⟨j,hj,rfl⟩:=List.mem_map.1 hx
     obtain⟨k,hk,rfl⟩:=List.mem_map.1 hy
     exact hsb j (List.mem_range.1 hj) k (List.mem_range.1 hk)
   ·intro p hp
    rcases List.mem_append.1 hp with h|h
    ·obtain⟨j,hj,rfl⟩:=List.mem_map.1 h
     exact(hu j (List.mem_range.1 hj)).1
    ·obtain⟨k,hk,rfl⟩:=List.mem_map.1 h
     exact(hg k (List.mem_range.1 hk)).1
   ·intro s hsn
    rw[hkeys] at hsn
    refine hoth s (fun j hj he=>hsn ?_) (fun k hk he=>hsn ?_)
    ·exact List.mem_append_left _ (List.mem_map.2 ⟨j,List.mem_range.2 hj,he.symm⟩)
    ·exact List.mem_append_right _ (List.mem_map.2 ⟨k,List.mem_range.2 hk,he.symm⟩)
  rw[ha]
  exact hQ u g w hb hv
attribute [local go_sem] run_store_flt
def ordE (i j:Int) (t u:Bool×Nat×Int):Int:=if i=j then(if i=0 then ordN t.1 t.2.1 t.2.2 u.1 u.2.1 u.2.2 else 0)else if i<j then -1 else 1
theorem dorder_ne (i j eA eB:Int) (sA sB:Bool) (aoA aoB:Option Addr) (nA capA nB capB:Nat) (w:World) (h:i≠j) :
  Calls Tryz.prog 28 #[.agg #[.int .i64 i,.bool sA,.slice aoA nA capA,.int .i64 eA],.agg #[.int .i64 j,.bool sB,.slice aoB nB capB,.int .i64 eB]] w fun r w'=>r=.returned (.int .i64 (if i<j then -1 else 1))∧Bw w w':=by
 obtain⟨W,hW⟩:∃ W,W=(w.alloc (.cells #[.int .i64 i,.bool sA,.slice aoA nA capA,.int .i64 eA] 46)).alloc (.cells #[.int .i64 j,.bool sB,.slice aoB nB capB,.int .i64 eB] 46):=⟨_,rfl⟩
 have HX:Hid (Bw w W∧EnB W (w.heap.size) (.int .i64 i) (.bool sA) (.slice aoA nA capA) (.int .i64 eA)∧EnB W (w.heap.size+1) (.int .i64 j) (.bool sB) (.slice aoB nB capB) (.int .i64 eB)):=by
  rw[hW]
  refine⟨((Below.refl _ _).alloc (Nat.le_refl _) _).alloc (by simp) _,(EnB.new _ _ _ _ _).alloc _,?_⟩
  have:=EnB.new (w.alloc (.cells #[.int .i64 i,.bool sA,.slice aoA nA capA,.int .i64 eA] 46)) (.int .i64 j) (.bool sB) (.slice aoB nB capB) (.int .i64 eB)
  simpa using this
 obtain⟨⟨a0,a1,a2,a3⟩,-⟩:=HX.out.2.1.facts
 obtain⟨⟨b0,b1,b2,b3⟩,-⟩:=HX.out.2.2.facts
 have h1:(i != j)=true:=by simp[h]
 by_cases hl:i<j
 ·rw[if_pos hl]
  have h2:decide (i<j)=true:=decide_eq_true hl
  go_enter Tryz.func28,Tryz.ntmps28
  go_upto_region 1 with fail
  rw[←hW]
  clear hW
  go_wp2
  go_ret
  exact⟨rfl,HX.out.1⟩
 ·rw[if_neg hl]
  have h2:decide (i<j)=false:=decide_eq_false hl
  go_enter Tryz.func28,Tryz.ntmps28
  go_upto_region 1 with fail
  rw[←hW]
  clear hW
  go_wp2
  go_ret
  exact⟨rfl,HX.out.1⟩
theorem dorder_eq (i eA eB:Int) (sA sB:Bool) (aoA aoB:Option Addr) (nA capA nB capB:Nat) (w:World) (h2:(i != 0)=true) :
  Calls Tryz.prog 28 #[.agg #[.int .i64 i,.bool sA,.slice aoA nA capA,.int .i64 eA],.agg #[.int .i64 i,.bool sB,.slice aoB nB capB,.int .i64 eB]] w fun r w'=>r=.returned (.int .i64 0)∧Bw w w':=by
 obtain⟨W,hW⟩:∃ W,W=(w.alloc (.cells #[.int .i64 i,.bool sA,.slice aoA nA capA,.int .i64 eA] 46)).alloc (.cells #[.int .i64 i,.bool sB,.slice aoB nB capB,.int .i64 eB] 46):=⟨_,rfl⟩
 have HX:Hid (Bw w W∧EnB W (w.heap.size) (.int .i64 i) (.bool sA) (.slice aoA nA capA) (.int .i64 eA)∧EnB W (w.heap.size+1) (.int .i64 i) (.bool sB) (.slice aoB nB capB) (.int .i64 eB)):=by
  rw[hW]
  refine⟨((Below.refl _ _).alloc (Nat.le_refl _) _).alloc (by simp) _,(EnB.new _ _ _ _ _).alloc _,?_⟩
  have:=EnB.new (w.alloc (.cells #[.int .i64 i,.bool sA,.slice aoA nA capA,.int .i64 eA] 46)) (.int .i64 i) (.bool sB) (.slice aoB nB capB) (.int .i64 eB)
  simpa using this
 obtain⟨⟨a0,a1,a2,a3⟩,-⟩:=HX.out.2.1.facts
 obtain⟨⟨b0,b1,b2,b3⟩,-⟩:=HX.out.2.2.facts
 have h1:(i != i)=false:=by simp
 go_enter Tryz.func28,Tryz.ntmps28
 go_upto_region 1 with fail
 rw[←hW]
 clear hW
 go_wp2
 go_ret
 exact⟨rfl,HX.out.1⟩
theorem dorder_0 (eA eB:Int) (sA sB:Bool) (aoA aoB:Option Addr) (nA capA nB capB:Nat) (c:Int) (w:World)
  (k1:∀ W,Bw w W→Calls Tryz.prog 53 #[.agg #[.bool sA,.slice aoA nA capA,.int .i64 eA],.agg #[.bool sB,.slice aoB nB capB,.int .i64 eB]] W fun r w'=>r=.returned (.int .i64 c)∧Bw W w') :
  Calls Tryz.prog 28 #[.agg #[.int .i64 0,.bool sA,.slice aoA nA capA,.int .i64 eA],.agg #[.int .i64 0,.bool sB,.slice aoB nB capB,.int .i64 eB]] w fun r w'=>r=.returned (.int .i64 c)∧Bw w w':=by
 obtain⟨W,hW⟩:∃ W,W=(w.alloc (.cells #[.int .i64 0,.bool sA,.slice aoA nA capA,.int .i64 eA] 46)).alloc (.cells #[.int .i64 0,.bool sB,.slice aoB nB capB,.int .i64 eB] 46):=⟨_,rfl⟩
 have HX:Hid (Bw w W∧EnB W (w.heap.size) (.int .i64 0) (.bool sA) (.slice aoA nA capA) (.int .i64 eA)∧EnB W (w.heap.size+1) (.int .i64 0) (.bool sB) (.slice aoB nB capB) (.int .i64 eB)):=by
  rw[hW]
  refine⟨((Below.refl _ _).alloc (Nat.le_refl _) _).alloc (by simp) _,(EnB.new _ _ _ _ _).alloc _,?_⟩
  have:=EnB.new (w.alloc (.cells #[.int .i64 0,.bool sA,.slice aoA nA capA,.int .i64 eA] 46)) (.int .i64 0) (.bool sB) (.slice aoB nB capB) (.int .i64 eB)
  simpa using this
 obtain⟨⟨a0,a1,a2,a3⟩,-⟩:=HX.out.2.1.facts
 obtain⟨⟨b0,b1,b2,b3⟩,-⟩:=HX.out.2.2.facts
 have kk:=k1 W HX.out.1
 clear k1
 go_enter Tryz.func28,Tryz.ntmps28
 go_upto_region 1 with fail
 rw[←hW]
 clear hW
 go_wp2_with fail
 refine kk.mono ?_
 rintro r w1 ⟨rfl,hb⟩
 have HB:Hid (Bw w w1):=HX.out.1.trans (hb.mono HX.out.1.size)
 clear kk hb HX a0 a1 a2 a3 b0 b1 b2 b3
 go_wp2_with fail
 go_ret
 exact⟨rfl,HB.out⟩
theorem dorderE {i j:Int} {t u:Bool×Nat×Int} {A B:Value} {w:World} (o1:Ok t) (o2:Ok u) (h1:EN w A i t) (h2:EN w B j u) :
  Calls Tryz.prog 28 #[A,B] w fun r w'=>r=.returned (.int .i64 (ordE i j t u))∧Bw w w':=by
 obtain⟨sA,aoA,nA,capA,eA,rfl,d1⟩:=h1
 obtain⟨sB,aoB,nB,capB,eB,rfl,d2⟩:=h2
 unfold ordE
 by_cases h:i=j
 ·rw[if_pos h]
  by_cases h0:i=0
  ·rw[if_pos h0]
   subst h
   subst h0
   refine dorder_0 eA eB sA sB aoA aoB nA capA nB capB _ w (fun W hW=>?_)
   have d1':=d1.later hW
   have d2':=d2.later hW
   obtain⟨ao,cap,e1,a1⟩:=d1'
   obtain⟨ao',cap',e2,a2⟩:=d2'
   rw[e1,e2]
   (obtain⟨f1,f2,f3,-,-⟩:=o1.facts;obtain⟨g1,g2,g3,-,-⟩:=o2.facts;exact rorder a1 a2 (by omega) (by omega) (by omega) (by omega))
  ·rw[if_neg h0]
   subst h
   exact dorder_eq i eA eB sA sB aoA aoB nA capA nB capB w (by simp[h0])
 ·rw[if_neg h]
  exact dorder_ne i j eA eB sA sB aoA aoB nA capA nB capB w h
def sgE (i:Int) (t:Bool×Nat×Int):Int:=if i=0 then(if t.2.1=0 then 0 else if t.1 then -1 else 1)else i
theorem dsignE {i:Int} {t:Bool×Nat×Int} {A:Value} {w:World} (h:EN w A i t) :
  Calls Tryz.prog 27 #[A] w fun r w'=>r=.returned (.int .i64 (sgE i t))∧Bw w w':=by
 obtain⟨s,ao,n,cap,e,rfl,d⟩:=h
 unfold sgE
 by_cases h0:i=0
 ·rw[if_pos h0]
  subst h0
  refine dsign_0 e _ s ao n cap w (fun W hW=>?_)
  obtain⟨ao',cap',e1,a1⟩:=d.later hW
  rw[e1]
  have k:=rsgn (na:=t.1) (ua:=ao') (un:=dlen t.2.1) (uc:=cap') (ea:=t.2.2) (w:=W) a1.small
  have e2:(if dlen t.2.1=0 then(0:Int)else if t.1 then -1 else 1)=if t.2.1=0 then 0 else if t.1 then -1 else 1:=by
   by_cases hz:t.2.1=0
   ·rw[if_pos hz,if_pos (dlen_eq_zero.2 hz)]
   ·rw[if_neg hz,if_neg fun h=>hz (dlen_eq_zero.1 h)]
  rw[e2] at k
  exact k
 ·rw[if_neg h0]
  exact dsign_i i e s ao n cap w (by simp[h0])
end Go.Proofs.YtjiolfnchiioaaaGreatDoor
