/- Own work: contracts of the program's functions, part 10: SN3 SN4 SN5 SN6 SN7 SN8 SN9 SNB SNC SND SNE. -/
import Derived.Test.YtjiolfnchiioaaaGreatDoorA9
import Derived.Test.YtjiolfnchiioaaaGreatDoorA7

set_option maxHeartbeats 16000000
set_option maxRecDepth 200000
set_option linter.unusedVariables false
set_option linter.unusedSimpArgs false
namespace Go.Proofs.YtjiolfnchiioaaaGreatDoor
open Go.RowKit Go.Fl64
theorem box_cells2 {w:World} {g:Nat} {a b:Value} {T:TypeId} (h:w.heap[g]?=some (.cells #[a,b] T (0,0))):w.cell? ⟨g,0,none⟩=some a∧w.cell? ⟨g,1,none⟩=some b:=by
 simp[World.cell?,h]
theorem bdrewN {B:Nat} {a w:World} (h:Below B a w) (n:Nat):Below B a (w.drewN n):=h.trans ⟨rfl,rfl,rfl,Nat.le_refl _,fun _ _=>rfl⟩
theorem cinf_p (w:World):Calls Tryz.prog 34 #[.int .i64 1] w fun r w'=>r=.returned (.float .f64 9218868437227405312)∧w'=w:=by
 have hb:=Ie.run_frombits
 go_enter Tryz.func34,Tryz.ntmps34
 go_wp2
 go_ret
 exact⟨rfl,rfl⟩
theorem isinf_p (a:Nat) (ha:a<18446744073709551616) (w:World) :
  Calls Tryz.prog 38 #[.float .f64 a,.int .i64 1] w fun e w'=>e=.returned (.bool (lt 9218868437227405311 a))∧w'=w:=by
 have h:=ord_gt a 9218868437227405311 ha (by omega)
 have H:Hid ((FloatKind.f64.format.order a 9218868437227405311==some Ordering.gt)=lt 9218868437227405311 a):=h
 clear h
 go_enter Tryz.func38,Tryz.ntmps38
 go_wp2
 go_ret
 exact⟨congrArg Ending.returned (congrArg Value.bool H.out),rfl⟩
theorem run_negf8 (a:Nat) (w:World):(Op.unary .neg (.float .f64 a)).run Tryz.prog w=.ok (.float .f64 (Op.negFloat .f64 a)) w:=rfl
theorem isinf_m (a:Nat) (ha:a<18446744073709551616) (w:World) :
  Calls Tryz.prog 38 #[.float .f64 a,.int .i64 (-1)] w fun e w'=>e=.returned (.bool (lt 9218868437227405311 (ngt a)))∧w'=w:=by
 have kn:=run_negf8
 have h:=ord_gt (ngt a) 9218868437227405311 (ngt_lt ha) (by omega)
 have hn:=negF a ha
 generalize ngt a=b at *
 have H:Hid ((FloatKind.f64.format.order b 9218868437227405311==some Ordering.gt)=lt 9218868437227405311 b):=h
 clear h
 go_enter Tryz.func38,Tryz.ntmps38
 go_wp2
 go_ret
 refine⟨?_,rfl⟩
 rw[hn] at *
 exact congrArg Ending.returned (congrArg Value.bool H.out)
theorem ngt_stp {a:Nat} (ha:a<18446744073709551616):stp (ngt a) = - stp a:=by
 unfold stp
 rw[ngt_mag ha,ngt_neg ha]
 cases neg a <;> simp[sgn]
theorem ngt_nan8 {a:Nat} (ha:a<18446744073709551616):isNaN (ngt a)=isNaN a:=by
 unfold isNaN;rw[ngt_mag ha]
theorem nan_stp {a:Nat} (h:isNaN a=false) : -9218868437227405312≤stp a∧stp a≤9218868437227405312:=by
 have h':¬ 9218868437227405312<mag a:=of_decide_eq_false h
 unfold stp sgn
 split <;> omega
theorem vI_p (lo hi:Nat) (h1:lo<18446744073709551616) (h2:hi<18446744073709551616) :
  vI lo hi=(le lo hi && !(lt 9218868437227405311 lo||lt 9218868437227405311 (ngt hi))&&(!decide (lo=9223372036854775808) && !decide (hi=9223372036854775808))):=by
 unfold vI
 cases hl:le lo hi
 ·rfl
 ·unfold le at hl
  simp only[Bool.and_eq_true,Bool.not_eq_true',decide_eq_true_eq] at hl
  obtain⟨⟨n1,n2⟩,h3⟩:=hl
  have b1:=nan_stp n1
  have b2:=nan_stp n2
  have e1:lt lo 9218868437227405312 = !lt 9218868437227405311 lo:=by
   unfold lt
   rw[n1,show isNaN 9218868437227405312=false by decide,show isNaN 9218868437227405311=false by decide,show stp 9218868437227405312=9218868437227405312 by decide,show stp 9218868437227405311=9218868437227405311 by decide]
   rw[Bool.not_false,Bool.true_and,Bool.true_and,Bool.true_and,←decide_not]
   exact decide_eq_decide.2 (by omega)
  have e2:lt 18442240474082181120 hi = !lt 9218868437227405311 (ngt hi):=by
   unfold lt
   rw[ngt_nan8 h2,n2,ngt_stp h2,show isNaN 18442240474082181120=false by decide,show isNaN 9218868437227405311=false by decide,show stp 18442240474082181120 = -9218868437227405312 by decide,show stp 9218868437227405311=9218868437227405311 by decide]
   rw[Bool.not_false,Bool.true_and,Bool.true_and,Bool.true_and,←decide_not]
   exact decide_eq_decide.2 (by omega)
  rw[e1,e2]
  simp[Bool.and_assoc]
theorem pvalid_1 (lo hi:Nat) (w:World)
  (h:(FloatKind.f64.format.order lo hi==some Ordering.lt||FloatKind.f64.format.order lo hi==some Ordering.eq)=false) :
  Calls Tryz.prog 20 #[.agg #[.float .f64 lo,.float .f64 hi]] w fun r w'=>r=.returned (.bool false)∧Bw w w':=by
 go_enter Tryz.func20,Tryz.ntmps20
 go_wp2_with (first|fail)
 go_ret
 exact⟨rfl,(Below.refl _ _).alloc (Nat.le_refl _) _⟩
theorem pvalid_2 (lo hi:Nat) (w:World) (p q s:Bool)
  (h:(FloatKind.f64.format.order lo hi==some Ordering.lt||FloatKind.f64.format.order lo hi==some Ordering.eq)=true)
  (k1:∀ W,Calls Tryz.prog 38 #[.float .f64 lo,.int .i64 1] W fun e w'=>e=.returned (.bool true)∧w'=W)
  (k2:∀ W,Calls Tryz.prog 38 #[.float .f64 hi,.int .i64 (-1)] W fun e w'=>e=.returned (.bool p)∧w'=W)
  (k3:∀ W,Calls Tryz.prog 46 #[.float .f64 lo] W fun e w'=>e=.returned (.bool q)∧w'=W)
  (k4:∀ W,Calls Tryz.prog 46 #[.float .f64 hi] W fun e w'=>e=.returned (.bool s)∧w'=W) :
  Calls Tryz.prog 20 #[.agg #[.float .f64 lo,.float .f64 hi]] w fun r w'=>r=.returned (.bool false)∧Bw w w':=by
 go_enter Tryz.func20,Tryz.ntmps20
 go_wp2_with (first|(go_at_call 38;first|(with_reducible refine(k1 _).mono ?_;rintro r w' ⟨rfl,rfl⟩)|(with_reducible refine(k2 _).mono ?_;rintro r w' ⟨rfl,rfl⟩))|(go_at_call 46;first|(with_reducible refine(k3 _).mono ?_;rintro r w' ⟨rfl,rfl⟩)|(with_reducible refine(k4 _).mono ?_;rintro r w' ⟨rfl,rfl⟩)))
 go_ret
 exact⟨rfl,(Below.refl _ _).alloc (Nat.le_refl _) _⟩
theorem pvalid_3 (lo hi:Nat) (w:World) (q s:Bool)
  (h:(FloatKind.f64.format.order lo hi==some Ordering.lt||FloatKind.f64.format.order lo hi==some Ordering.eq)=true)
  (k1:∀ W,Calls Tryz.prog 38 #[.float .f64 lo,.int .i64 1] W fun e w'=>e=.returned (.bool false)∧w'=W)
  (k2:∀ W,Calls Tryz.prog 38 #[.float .f64 hi,.int .i64 (-1)] W fun e w'=>e=.returned (.bool true)∧w'=W)
  (k3:∀ W,Calls Tryz.prog 46 #[.float .f64 lo] W fun e w'=>e=.returned (.bool q)∧w'=W)
  (k4:∀ W,Calls Tryz.prog 46 #[.float .f64 hi] W fun e w'=>e=.returned (.bool s)∧w'=W) :
  Calls Tryz.prog 20 #[.agg #[.float .f64 lo,.float .f64 hi]] w fun r w'=>r=.returned (.bool false)∧Bw w w':=by
 go_enter Tryz.func20,Tryz.ntmps20
 go_wp2_with (first|(go_at_call 38;first|(with_reducible refine(k1 _).mono ?_;rintro r w' ⟨rfl,rfl⟩)|(with_reducible refine(k2 _).mono ?_;rintro r w' ⟨rfl,rfl⟩))|(go_at_call 46;first|(with_reducible refine(k3 _).mono ?_;rintro r w' ⟨rfl,rfl⟩)|(with_reducible refine(k4 _).mono ?_;rintro r w' ⟨rfl,rfl⟩)))
 go_ret
 exact⟨rfl,(Below.refl _ _).alloc (Nat.le_refl _) _⟩
theorem pvalid_4 (lo hi:Nat) (w:World) (s:Bool)
  (h:(FloatKind.f64.format.order lo hi==some Ordering.lt||FloatKind.f64.format.order lo hi==some Ordering.eq)=true)
  (k1:∀ W,Calls Tryz.prog 38 #[.float .f64 lo,.int .i64 1] W fun e w'=>e=.returned (.bool false)∧w'=W)
  (k2:∀ W,Calls Tryz.prog 38 #[.float .f64 hi,.int .i64 (-1)] W fun e w'=>e=.returned (.bool false)∧w'=W)
  (k3:∀ W,Calls Tryz.prog 46 #[.float .f64 lo] W fun e w'=>e=.returned (.bool true)∧w'=W)
  (k4:∀ W,Calls Tryz.prog 46 #[.float .f64 hi] W fun e w'=>e=.returned (.bool s)∧w'=W) :
  Calls Tryz.prog 20 #[.agg #[.float .f64 lo,.float .f64 hi]] w fun r w'=>r=.returned (.bool false)∧Bw w w':=by
 go_enter Tryz.func20,Tryz.ntmps20
 go_wp2_with (first|(go_at_call 38;first|(with_reducible refine(k1 _).mono ?_;rintro r w' ⟨rfl,rfl⟩)|(with_reducible refine(k2 _).mono ?_;rintro r w' ⟨rfl,rfl⟩))|(go_at_call 46;first|(with_reducible refine(k3 _).mono ?_;rintro r w' ⟨rfl,rfl⟩)|(with_reducible refine(k4 _).mono ?_;rintro r w' ⟨rfl,rfl⟩)))
 go_ret
 exact⟨rfl,(Below.refl _ _).alloc (Nat.le_refl _) _⟩
theorem pvalid_5 (lo hi:Nat) (w:World) (s:Bool)
  (h:(FloatKind.f64.format.order lo hi==some Ordering.lt||FloatKind.f64.format.order lo hi==some Ordering.eq)=true)
  (k1:∀ W,Calls Tryz.prog 38 #[.float .f64 lo,.int .i64 1] W fun e w'=>e=.returned (.bool false)∧w'=W)
  (k2:∀ W,Calls Tryz.prog 38 #[.float .f64 hi,.int .i64 (-1)] W fun e w'=>e=.returned (.bool false)∧w'=W)
  (k3:∀ W,Calls Tryz.prog 46 #[.float .f64 lo] W fun e w'=>e=.returned (.bool false)∧w'=W)
  (k4:∀ W,Calls Tryz.prog 46 #[.float .f64 hi] W fun e w'=>e=.returned (.bool s)∧w'=W) :
  Calls Tryz.prog 20 #[.agg #[.float .f64 lo,.float .f64 hi]] w fun r w'=>r=.returned (.bool (!s))∧Bw w w':=by
 go_enter Tryz.func20,Tryz.ntmps20
 go_wp2_with (first|(go_at_call 38;first|(with_reducible refine(k1 _).mono ?_;rintro r w' ⟨rfl,rfl⟩)|(with_reducible refine(k2 _).mono ?_;rintro r w' ⟨rfl,rfl⟩))|(go_at_call 46;first|(with_reducible refine(k3 _).mono ?_;rintro r w' ⟨rfl,rfl⟩)|(with_reducible refine(k4 _).mono ?_;rintro r w' ⟨rfl,rfl⟩)))
 go_ret
 exact⟨rfl,(Below.refl _ _).alloc (Nat.le_refl _) _⟩
theorem svalid (lo hi:Nat) (h1:lo<18446744073709551616) (h2:hi<18446744073709551616) (w:World) :
  Calls Tryz.prog 20 #[.agg #[.float .f64 lo,.float .f64 hi]] w fun r w'=>r=.returned (.bool (vI lo hi))∧Bw w w':=by
 have ho:=ord_le lo hi h1 h2
 rw[vI_p lo hi h1 h2]
 have k1:=isinf_p lo h1
 have k2:=isinf_m hi h2
 have k3:=pmn lo h1
 have k4:=pmn hi h2
 cases hl:le lo hi
 ·rw[hl] at ho
  exact pvalid_1 lo hi w ho
 ·rw[hl] at ho
  cases hp:lt 9218868437227405311 lo
  ·rw[hp] at k1
   cases hq:lt 9218868437227405311 (ngt hi)
   ·rw[hq] at k2
    cases hs:decide (lo=9223372036854775808)
    ·rw[hs] at k3
     exact pvalid_5 lo hi w _ ho k1 k2 k3 k4
    ·rw[hs] at k3
     exact pvalid_4 lo hi w _ ho k1 k2 k3 k4
   ·rw[hq] at k2
    exact pvalid_3 lo hi w _ _ ho k1 k2 k3 k4
  ·rw[hp] at k1
   exact pvalid_2 lo hi w _ _ _ ho k1 k2 k3 k4
theorem dclean (a:Nat) (ha:a<18446744073709551616) (w:World) :
  Calls Tryz.prog 48 #[.float .f64 a] w fun r w'=>r=.returned (.bool (!decide (a=9223372036854775808)))∧w'=w:=by
 have k:=Ie.c33 a ha
 have e:=ord_ne a 0 ha (by omega)
 rw[eq_zero a ha] at e
 by_cases h:a=0∨a=9223372036854775808
 ·have e1:(FloatKind.f64.format.order a 0 != some Ordering.eq)=false:=by
   rw[e,←Bool.decide_or,decide_eq_true h];rfl
  have e2:decide (a=9223372036854775808)=neg a:=by
   rcases h with rfl|rfl <;> rfl
  rw[e2]
  clear e e2 h
  go_enter Tryz.func48,Tryz.ntmps48
  go_wp2_with (first|(go_at_call 78;refine(k _).mono ?_;rintro r w' ⟨rfl,rfl⟩))
  go_ret
  exact⟨rfl,rfl⟩
 ·have e1:(FloatKind.f64.format.order a 0 != some Ordering.eq)=true:=by
   rw[e,←Bool.decide_or,decide_eq_false h];rfl
  rw[decide_eq_false fun h1=>h (.inr h1)]
  clear e h
  go_enter Tryz.func48,Tryz.ntmps48
  go_wp2
  go_ret
  exact⟨rfl,rfl⟩
theorem dvalid_1 (lo hi:Nat) (w:World) (p q r s:Bool)
  (o1:(FloatKind.f64.format.order lo hi==some Ordering.lt||FloatKind.f64.format.order lo hi==some Ordering.eq)=false)
  (o2:(FloatKind.f64.format.order lo 9218868437227405312==some Ordering.lt)=p)
  (o3:(FloatKind.f64.format.order hi 18442240474082181120==some Ordering.gt)=q)
  (k3:∀ W,Calls Tryz.prog 48 #[.float .f64 lo] W fun e w'=>e=.returned (.bool r)∧w'=W)
  (k4:∀ W,Calls Tryz.prog 48 #[.float .f64 hi] W fun e w'=>e=.returned (.bool s)∧w'=W) :
  Calls Tryz.prog 22 #[.agg #[.float .f64 lo,.float .f64 hi]] w fun r w'=>r=.returned (.bool false)∧Bw w w':=by
 obtain⟨W,hW⟩:∃ W,W=w.alloc (.cells #[.float .f64 lo,.float .f64 hi] 24):=⟨_,rfl⟩
 have HX:Hid (Bw w W):=by rw[hW];exact(Below.refl _ _).alloc (Nat.le_refl _) _
 have hcl:W.cell? ⟨w.heap.size,0,none⟩=some (.float .f64 lo)∧W.cell? ⟨w.heap.size,1,none⟩=some (.float .f64 hi):=by rw[hW];exact box_cells2 (heap_alloc_new _ _)
 obtain⟨c0,c1⟩:=hcl
 go_enter Tryz.func22,Tryz.ntmps22
 go_upto_region 1 with fail
 rw[←hW]
 clear hW
 go_quiet (first|(go_at_call 34;first|(with_reducible refine Calls.quiet_of_same (cinf_p _))|(with_reducible refine Calls.quiet_of_same (cinf_m _)))|(go_at_call 48;first|(with_reducible refine Calls.quiet_of_same (k3 _))|(with_reducible refine Calls.quiet_of_same (k4 _))))
 go_wp2
 go_ret
 exact⟨rfl,bdrewN HX.out _⟩
theorem dvalid_2 (lo hi:Nat) (w:World) (q r s:Bool)
  (o1:(FloatKind.f64.format.order lo hi==some Ordering.lt||FloatKind.f64.format.order lo hi==some Ordering.eq)=true)
  (o2:(FloatKind.f64.format.order lo 9218868437227405312==some Ordering.lt)=false)
  (o3:(FloatKind.f64.format.order hi 18442240474082181120==some Ordering.gt)=q)
  (k3:∀ W,Calls Tryz.prog 48 #[.float .f64 lo] W fun e w'=>e=.returned (.bool r)∧w'=W)
  (k4:∀ W,Calls Tryz.prog 48 #[.float .f64 hi] W fun e w'=>e=.returned (.bool s)∧w'=W) :
  Calls Tryz.prog 22 #[.agg #[.float .f64 lo,.float .f64 hi]] w fun r w'=>r=.returned (.bool false)∧Bw w w':=by
 obtain⟨W,hW⟩:∃ W,W=w.alloc (.cells #[.float .f64 lo,.float .f64 hi] 24):=⟨_,rfl⟩
 have HX:Hid (Bw w W):=by rw[hW];exact(Below.refl _ _).alloc (Nat.le_refl _) _
 have hcl:W.cell? ⟨w.heap.size,0,none⟩=some (.float .f64 lo)∧W.cell? ⟨w.heap.size,1,none⟩=some (.float .f64 hi):=by rw[hW];exact box_cells2 (heap_alloc_new _ _)
 obtain⟨c0,c1⟩:=hcl
 go_enter Tryz.func22,Tryz.ntmps22
 go_upto_region 1 with fail
 rw[←hW]
 clear hW
 go_quiet (first|(go_at_call 34;first|(with_reducible refine Calls.quiet_of_same (cinf_p _))|(with_reducible refine Calls.quiet_of_same (cinf_m _)))|(go_at_call 48;first|(with_reducible refine Calls.quiet_of_same (k3 _))|(with_reducible refine Calls.quiet_of_same (k4 _))))
 go_wp2
 go_ret
 exact⟨rfl,bdrewN HX.out _⟩
theorem dvalid_3 (lo hi:Nat) (w:World) (r s:Bool)
  (o1:(FloatKind.f64.format.order lo hi==some Ordering.lt||FloatKind.f64.format.order lo hi==some Ordering.eq)=true)
  (o2:(FloatKind.f64.format.order lo 9218868437227405312==some Ordering.lt)=true)
  (o3:(FloatKind.f64.format.order hi 18442240474082181120==some Ordering.gt)=false)
  (k3:∀ W,Calls Tryz.prog 48 #[.float .f64 lo] W fun e w'=>e=.returned (.bool r)∧w'=W)
  (k4:∀ W,Calls Tryz.prog 48 #[.float .f64 hi] W fun e w'=>e=.returned (.bool s)∧w'=W) :
  Calls Tryz.prog 22 #[.agg #[.float .f64 lo,.float .f64 hi]] w fun r w'=>r=.returned (.bool false)∧Bw w w':=by
 obtain⟨W,hW⟩:∃ W,W=w.alloc (.cells #[.float .f64 lo,.float .f64 hi] 24):=⟨_,rfl⟩
 have HX:Hid (Bw w W):=by rw[hW];exact(Below.refl _ _).alloc (Nat.le_refl _) _
 have hcl:W.cell? ⟨w.heap.size,0,none⟩=some (.float .f64 lo)∧W.cell? ⟨w.heap.size,1,none⟩=some (.float .f64 hi):=by rw[hW];exact box_cells2 (heap_alloc_new _ _)
 obtain⟨c0,c1⟩:=hcl
 go_enter Tryz.func22,Tryz.ntmps22
 go_upto_region 1 with fail
 rw[←hW]
 clear hW
 go_quiet (first|(go_at_call 34;first|(with_reducible refine Calls.quiet_of_same (cinf_p _))|(with_reducible refine Calls.quiet_of_same (cinf_m _)))|(go_at_call 48;first|(with_reducible refine Calls.quiet_of_same (k3 _))|(with_reducible refine Calls.quiet_of_same (k4 _))))
 go_wp2
 go_ret
 exact⟨rfl,bdrewN HX.out _⟩
theorem dvalid_4 (lo hi:Nat) (w:World) (s:Bool)
  (o1:(FloatKind.f64.format.order lo hi==some Ordering.lt||FloatKind.f64.format.order lo hi==some Ordering.eq)=true)
  (o2:(FloatKind.f64.format.order lo 9218868437227405312==some Ordering.lt)=true)
  (o3:(FloatKind.f64.format.order hi 18442240474082181120==some Ordering.gt)=true)
  (k3:∀ W,Calls Tryz.prog 48 #[.float .f64 lo] W fun e w'=>e=.returned (.bool false)∧w'=W)
  (k4:∀ W,Calls Tryz.prog 48 #[.float .f64 hi] W fun e w'=>e=.returned (.bool s)∧w'=W) :
  Calls Tryz.prog 22 #[.agg #[.float .f64 lo,.float .f64 hi]] w fun r w'=>r=.returned (.bool false)∧Bw w w':=by
 obtain⟨W,hW⟩:∃ W,W=w.alloc (.cells #[.float .f64 lo,.float .f64 hi] 24):=⟨_,rfl⟩
 have HX:Hid (Bw w W):=by rw[hW];exact(Below.refl _ _).alloc (Nat.le_refl _) _
 have hcl:W.cell? ⟨w.heap.size,0,none⟩=some (.float .f64 lo)∧W.cell? ⟨w.heap.size,1,none⟩=some (.float .f64 hi):=by rw[hW];exact box_cells2 (heap_alloc_new _ _)
 obtain⟨c0,c1⟩:=hcl
 go_enter Tryz.func22,Tryz.ntmps22
 go_upto_region 1 with fail
 rw[←hW]
 clear hW
 go_quiet (first|(go_at_call 34;first|(with_reducible refine Calls.quiet_of_same (cinf_p _))|(with_reducible refine Calls.quiet_of_same (cinf_m _)))|(go_at_call 48;first|(with_reducible refine Calls.quiet_of_same (k3 _))|(with_reducible refine Calls.quiet_of_same (k4 _))))
 go_wp2
 go_ret
 exact⟨rfl,bdrewN HX.out _⟩
theorem dvalid_5 (lo hi:Nat) (w:World) (s:Bool)
  (o1:(FloatKind.f64.format.order lo hi==some Ordering.lt||FloatKind.f64.format.order lo hi==some Ordering.eq)=true)
  (o2:(FloatKind.f64.format.order lo 9218868437227405312==some Ordering.lt)=true)
  (o3:(FloatKind.f64.format.order hi 18442240474082181120==some Ordering.gt)=true)
  (k3:∀ W,Calls Tryz.prog 48 #[.float .f64 lo] W fun e w'=>e=.returned (.bool true)∧w'=W)
  (k4:∀ W,Calls Tryz.prog 48 #[.float .f64 hi] W fun e w'=>e=.returned (.bool s)∧w'=W) :
  Calls Tryz.prog 22 #[.agg #[.float .f64 lo,.float .f64 hi]] w fun r w'=>r=.returned (.bool s)∧Bw w w':=by
 obtain⟨W,hW⟩:∃ W,W=w.alloc (.cells #[.float .f64 lo,.float .f64 hi] 24):=⟨_,rfl⟩
 have HX:Hid (Bw w W):=by rw[hW];exact(Below.refl _ _).alloc (Nat.le_refl _) _
 have hcl:W.cell? ⟨w.heap.size,0,none⟩=some (.float .f64 lo)∧W.cell? ⟨w.heap.size,1,none⟩=some (.float .f64 hi):=by rw[hW];exact box_cells2 (heap_alloc_new _ _)
 obtain⟨c0,c1⟩:=hcl
 go_enter Tryz.func22,Tryz.ntmps22
 go_upto_region 1 with fail
 rw[←hW]
 clear hW
 go_quiet (first|(go_at_call 34;first|(with_reducible refine Calls.quiet_of_same (cinf_p _))|(with_reducible refine Calls.quiet_of_same (cinf_m _)))|(go_at_call 48;first|(with_reducible refine Calls.quiet_of_same (k3 _))|(with_reducible refine Calls.quiet_of_same (k4 _))))
 go_wp2
 go_ret
 exact⟨rfl,bdrewN HX.out _⟩
theorem d8valid (lo hi:Nat) (h1:lo<18446744073709551616) (h2:hi<18446744073709551616) (w:World) :
  Calls Tryz.prog 22 #[.agg #[.float .f64 lo,.float .f64 hi]] w fun r w'=>r=.returned (.bool (vI lo hi))∧Bw w w':=by
 have o1:=ord_le lo hi h1 h2
 have o2:=ord_lt lo 9218868437227405312 h1 (by omega)
 have o3:=ord_gt hi 18442240474082181120 h2 (by omega)
 have k3:=dclean lo h1
 have k4:=dclean hi h2
 unfold vI
 rw[decide_not,decide_not]
 cases hl:le lo hi
 ·rw[hl] at o1
  exact dvalid_1 lo hi w _ _ _ _ o1 o2 o3 k3 k4
 ·rw[hl] at o1
  cases hp:lt lo 9218868437227405312
  ·rw[hp] at o2
   exact dvalid_2 lo hi w _ _ _ o1 o2 o3 k3 k4
  ·rw[hp] at o2
   cases hq:lt 18442240474082181120 hi
   ·rw[hq] at o3
    exact dvalid_3 lo hi w _ _ o1 o2 o3 k3 k4
   ·rw[hq] at o3
    cases hs:decide (lo=9223372036854775808)
    ·rw[hs] at k3
     exact dvalid_5 lo hi w _ o1 o2 o3 k3 k4
    ·rw[hs] at k3
     exact dvalid_4 lo hi w _ o1 o2 o3 k3 k4
theorem run_store_flt (P:Program) (w:World) (a:Addr) (m:Mode) (k:FloatKind) (n:Nat):(store a (.float k n) m).run P w=stored P w a (.float k n) m:=run_store P w a _ m rfl
attribute [local go_sem] run_store_flt
theorem smaybe_1 (g k:Nat) (lo hi:Nat→Nat) (w:World) (hk:k≤3)
  (h0:∀ i,i<k→w.cell? ⟨g,i*2,none⟩=some (.float .f64 (lo i))) (h1:∀ i,i<k→w.cell? ⟨g,i*2+1,none⟩=some (.float .f64 (hi i)))
  (b0:∀ i,lo i<18446744073709551616) (b1:∀ i,hi i<18446744073709551616) :
  Calls Tryz.prog 29 #[.slice (some ⟨g,0,none⟩) k k] w fun r w'=>r=.returned (.bool (decide (∀ i,i<k→vI (lo i) (hi i)=true)))∧Bw w w':=by
 generalize hans:decide (∀ i,i<k→vI (lo i) (hi i)=true)=ans
 have HA:Hid (ans=decide (∀ i,i<k→vI (lo i) (hi i)=true)):=hans.symm
 clear hans
 go_enter Tryz.func29,Tryz.ntmps29
 go_wp2
 go_loopw [7] (fun i wr=>∃ j:Nat,j≤k∧i=.int .i64 j∧Hid (Bw w wr)∧Hid (∀ i,i<j→vI (lo i) (hi i)=true)) (fun i _=>k - (intOf i).toNat)
 case atStart=>exact⟨0,Nat.zero_le _,rfl,Below.refl _ _,(fun i hi'=>absurd hi' (Nat.not_lt_zero _):∀ i,i<0→vI (lo i) (hi i)=true)⟩
 case round =>
  obtain⟨j,hj,rfl,hB,hok⟩:=hrel
  by_cases hjk:j<k
  ·have a0:wr.cell? ⟨g,j*2,none⟩=some (.float .f64 (lo j)):=(hB.out.cell (World.block_lt_of_cell? _ _ (h0 j hjk))).trans (h0 j hjk)
   have a1:wr.cell? ⟨g,j*2+1,none⟩=some (.float .f64 (hi j)):=(hB.out.cell (World.block_lt_of_cell? _ _ (h1 j hjk))).trans (h1 j hjk)
   have hg:g<wr.heap.size:=World.block_lt_of_cell? _ _ a0
   have hji:(j:Int)<(k:Int):=by omega
   clear h0 h1
   have k18:=svalid (lo j) (hi j) (b0 j) (b1 j) (wr.alloc (.cells #[.float .f64 (lo j),.float .f64 (hi j)] 24))
   generalize hokj:vI (lo j) (hi j)=okj at *
   have HOK:Hid (vI (lo j) (hi j)=okj):=hokj
   clear hokj b0 b1
   go_wp2_with fail
   refine k18.mono ?_
   rintro r w1 ⟨rfl,hw1⟩
   have HB1:Hid (Bw w w1):=(hB.out.alloc hB.out.size _).trans (hw1.mono (by have:=hB.out.size;simp;omega))
   clear hw1 k18
   cases okj
   ·go_wp2
    go_ret
    refine⟨congrArg Ending.returned (congrArg Value.bool ?_),HB1.out⟩
    rw[HA.out,decide_eq_false]
    intro h
    have:=h j hjk
    rw[HOK.out] at this
    exact absurd this (by decide)
   ·go_wp2
    exact⟨⟨j+1,by omega,by simp,HB1,(fun i hi'=>by
     by_cases e1:i=j
     ·subst e1;exact HOK.out
     ·exact hok.out i (by omega):∀ i,i<j+1→vI (lo i) (hi i)=true)⟩,by simp[intOf];omega⟩
  ·obtain rfl:j=k:=by omega
   clear h0 h1
   go_wp2
   go_ret
   refine⟨congrArg Ending.returned (congrArg Value.bool ?_),hB.out⟩
   rw[HA.out,decide_eq_true hok.out]
theorem box_cells_2x2 {w:World} {g:Nat} {a b c d:Value} {T:TypeId} (h:w.heap[g]?=some (.cells #[a,b,c,d] T (0,0))):w.cell? ⟨g,0,none⟩=some a∧w.cell? ⟨g,1,none⟩=some b∧w.cell? ⟨g,2,none⟩=some c∧w.cell? ⟨g,3,none⟩=some d:=by
 simp[World.cell?,h]
theorem smaybe {a b c d g:Nat} {T:TypeId} {w:World} (h:w.heap[g]?=some (.cells #[.float .f64 a,.float .f64 b,.float .f64 c,.float .f64 d] T (0,0)))
  (ha:a<18446744073709551616) (hb:b<18446744073709551616) (hc:c<18446744073709551616) (hd:d<18446744073709551616) :
  Calls Tryz.prog 29 #[.slice (some ⟨g,0,none⟩) 2 2] w fun r w'=>r=.returned (.bool (vI a b&&vI c d))∧Bw w w':=by
 obtain⟨x0,x1,x2,x3⟩:=box_cells_2x2 h
 have k:=smaybe_1 g 2 (fun i=>if i=0 then a else c) (fun i=>if i=0 then b else d) w (by omega)
  (fun i hi=>by rcases(show i=0∨i=1 by omega)with rfl|rfl;exact x0;exact x2)
  (fun i hi=>by rcases(show i=0∨i=1 by omega)with rfl|rfl;exact x1;exact x3)
  (fun i=>by split <;> assumption) (fun i=>by split <;> assumption)
 have e:decide (∀ i,i<2→vI (if i=0 then a else c) (if i=0 then b else d)=true)=(vI a b&&vI c d):=by
  rw[Bool.eq_iff_iff,decide_eq_true_eq,Bool.and_eq_true]
  constructor
  ·intro h
   exact⟨h 0 (by omega),h 1 (by omega)⟩
  ·rintro⟨h1,h2⟩ i hi
   rcases(show i=0∨i=1 by omega)with rfl|rfl
   ·exact h1
   ·exact h2
 rw[e] at k
 exact k
theorem iv_info:(Tryz.prog.info? 24).map (·.size)=some 2:=by kernel_rfl
theorem sall (w:World):Calls Tryz.prog 36 #[] w fun r w'=>r=.returned (.agg #[.float .f64 18442240474082181120,.float .f64 9218868437227405312])∧Bw w w':=by
 go_enter Tryz.func36,Tryz.ntmps36
 go_wp2_with (first|(go_at_call 34;first|(with_reducible refine(cinf_p _).mono ?_;rintro r w' ⟨rfl,rfl⟩)|(with_reducible refine(cinf_m _).mono ?_;rintro r w' ⟨rfl,rfl⟩)))
 refine bodyPost_ret (results_cell_row rfl _ _ w.heap.size 24 #[.float .f64 18442240474082181120,.float .f64 9218868437227405312] (0,0) _ rfl (heap_alloc_new _ _) Tryz.underlying24 rfl iv_info) rfl ?_
 exact⟨rfl,(Below.refl _ _).alloc (Nat.le_refl _) _⟩
theorem sbetween (a b:Nat) (w:World) (ha:a<18446744073709551616) (hb:b<18446744073709551616):Calls Tryz.prog 47 #[.float .f64 a,.float .f64 b] w fun r w'=>r=.returned (.agg #[.float .f64 (pl a),.float .f64 (pl b)])∧Bw w w':=by
 have k1:=ppl a ha
 have k2:=ppl b hb
 generalize pl a=A at *
 generalize pl b=C at *
 go_enter Tryz.func47,Tryz.ntmps47
 go_wp2_with (first|(go_at_call 79;first|(with_reducible refine(k1 _).mono ?_;rintro r w' ⟨rfl,rfl⟩)|(with_reducible refine(k2 _).mono ?_;rintro r w' ⟨rfl,rfl⟩)))
 refine bodyPost_ret (results_cell_row rfl _ _ w.heap.size 24 #[.float .f64 A,.float .f64 C] (0,0) _ rfl (heap_alloc_new _ _) Tryz.underlying24 rfl iv_info) rfl ?_
 exact⟨rfl,(Below.refl _ _).alloc (Nat.le_refl _) _⟩
attribute [local go_sem] run_store_flt
theorem shas_1 (lo hi f:Nat) (v i p q:Bool) (w:World)
  (k1:∀ W,Calls Tryz.prog 20 #[.agg #[.float .f64 lo,.float .f64 hi]] W fun r w'=>r=.returned (.bool v)∧Bw W w')
  (k2:∀ W,Calls Tryz.prog 38 #[.float .f64 f,.int .i64 0] W fun r w'=>r=.returned (.bool i)∧w'=W)
  (o1:(FloatKind.f64.format.order lo f==some Ordering.lt||FloatKind.f64.format.order lo f==some Ordering.eq)=p) (o2:(FloatKind.f64.format.order f hi==some Ordering.lt||FloatKind.f64.format.order f hi==some Ordering.eq)=q) :
  Calls Tryz.prog 37 #[.agg #[.float .f64 lo,.float .f64 hi],.float .f64 f] w fun r w'=>r=.returned (.bool (v && !i&&p&&q))∧Bw w w':=by
 obtain⟨W,hW⟩:∃ W,W=w.alloc (.cells #[.float .f64 lo,.float .f64 hi] 24):=⟨_,rfl⟩
 have HX:Hid (Bw w W∧W.heap[w.heap.size]?=some (.cells #[.float .f64 lo,.float .f64 hi] 24 (0,0))):=⟨by rw[hW];exact(Below.refl _ _).alloc (Nat.le_refl _) _,by rw[hW];exact heap_alloc_new _ _⟩
 have HK:Hid (∀ w',Bw W w'→w'.cell? ⟨w.heap.size,0,none⟩=some (.float .f64 lo)∧w'.cell? ⟨w.heap.size,1,none⟩=some (.float .f64 hi)):=fun w' hb=>box_cells2 (box_later HX.out.2 hb (lt_of_box HX.out.2))
 obtain⟨c0,c1⟩:=HK.out W (Below.refl _ _)
 have kv:=k1 W
 clear k1
 go_enter Tryz.func37,Tryz.ntmps37
 go_upto_region 1 with fail
 rw[←hW]
 clear hW
 go_wp2_with fail
 refine kv.mono ?_
 rintro r w1 ⟨rfl,hb1⟩
 clear c0 c1
 obtain⟨c0,c1⟩:=HK.out w1 hb1
 have HB:Hid (Bw w w1):=HX.out.1.trans (hb1.mono HX.out.1.size)
 clear hb1 HK HX kv
 cases v <;> cases i <;> cases p
 all_goals
  go_wp2_with (first|(go_at_call 38;refine(k2 _).mono ?_;rintro r w' ⟨rfl,rfl⟩))
  go_ret
  exact⟨rfl,HB.out⟩
def hI (lo hi f:Nat):Bool:=vI lo hi && !lt 9218868437227405311 (mag f)&&le lo f&&le f hi
theorem shas (lo hi f:Nat) (h1:lo<18446744073709551616) (h2:hi<18446744073709551616) (h3:f<18446744073709551616) (w:World) :
  Calls Tryz.prog 37 #[.agg #[.float .f64 lo,.float .f64 hi],.float .f64 f] w fun r w'=>r=.returned (.bool (hI lo hi f))∧Bw w w' :=
 shas_1 lo hi f _ _ _ _ w (fun W=>svalid lo hi h1 h2 W) (fun W=>c123 f h3 W) (ord_le lo f h1 h3) (ord_le f hi h3 h2)
theorem stp_eq {x y:Nat} (hx:x<18446744073709551616) (hy:y<18446744073709551616) (h:stp x=stp y) (h0:stp x≠0):x=y :=
 stp_inj hx hy h (fun e=>h0 (by rw[e];decide)) (fun e=>h0 (by rw[h,e];decide))
attribute [local go_sem] run_store_flt
def IvB (W:World) (g:Nat) (a b:Nat):Prop:=W.heap[g]?=some (.cells #[.float .f64 a,.float .f64 b] 24 (0,0))
def IvF (W:World) (g:Nat) (a b:Nat):Prop:=W.cell? ⟨g,0,none⟩=some (.float .f64 a)∧W.cell? ⟨g,1,none⟩=some (.float .f64 b)∧W.frozen? ⟨g,0,none⟩=false∧W.frozen? ⟨g,1,none⟩=false
theorem IvB.facts {W:World} {g a b:Nat} (h:IvB W g a b):IvF W g a b:=by
 unfold IvB at h
 simp[IvF,World.cell?,World.frozen?,h]
theorem IvB.lt {W:World} {g a b:Nat} (h:IvB W g a b):g<W.heap.size:=lt_of_box h
theorem IvB.box {W w':World} {g a b:Nat} (h:IvB W g a b) (hb:Bw W w'):IvB w' g a b:=box_later h hb h.lt
theorem IvB.later {W w':World} {g a b:Nat} (h:IvB W g a b) (hb:Bw W w'):IvF w' g a b:=(h.box hb).facts
theorem IvB.new (w:World) (a b:Nat):IvB (w.alloc (.cells #[.float .f64 a,.float .f64 b] 24)) w.heap.size a b:=heap_alloc_new _ _
theorem IvB.alloc {W:World} {g a b:Nat} (h:IvB W g a b) (o:Obj):IvB (W.alloc o) g a b:=h.box ((Below.refl _ _).alloc (Nat.le_refl _) _)
theorem IvB.set {W:World} {g a b:Nat} (h:IvB W g a b) (c d:Nat):IvB ((W.setCell ⟨g,0,none⟩ (.float .f64 c)).setCell ⟨g,1,none⟩ (.float .f64 d)) g c d:=by
 unfold IvB at *
 simp[World.setCell,Array.getElem?_modify,h]
theorem below_store2 {B:Nat} {w w':World} {g:Nat} (h:Below B w w') (hg:B≤g) (a b:Value):Below B w ((w'.setCell ⟨g,0,none⟩ a).setCell ⟨g,1,none⟩ b) :=
 (h.setCell hg _).setCell hg _
theorem bxs1_0 (w:World) (a b:Nat):Below w.heap.size w (w.alloc (.cells #[.float .f64 a,.float .f64 b] 24)):=(Below.refl _ _).alloc (Nat.le_refl _) _
theorem bxs1_1 (w:World) (a b:Nat):IvB (w.alloc (.cells #[.float .f64 a,.float .f64 b] 24)) w.heap.size a b:=IvB.new w a b
theorem bxs2_0 (w:World) (a b c d:Nat):Below w.heap.size w ((w.alloc (.cells #[.float .f64 a,.float .f64 b] 24)).alloc (.cells #[.float .f64 c,.float .f64 d] 24)):=(bxs1_0 w a b).alloc (bxs1_0 w a b).size _
theorem bxs2_1 (w:World) (a b c d:Nat):IvB ((w.alloc (.cells #[.float .f64 a,.float .f64 b] 24)).alloc (.cells #[.float .f64 c,.float .f64 d] 24)) w.heap.size a b:=(bxs1_1 w a b).alloc _
theorem bxs2_2 (w:World) (a b c d:Nat):IvB ((w.alloc (.cells #[.float .f64 a,.float .f64 b] 24)).alloc (.cells #[.float .f64 c,.float .f64 d] 24)) (w.heap.size+1) c d:=by
 have:=IvB.new (w.alloc (.cells #[.float .f64 a,.float .f64 b] 24)) c d
 simpa using this
theorem bxs3_0 (w:World) (a b c d e f:Nat):Below w.heap.size w (((w.alloc (.cells #[.float .f64 a,.float .f64 b] 24)).alloc (.cells #[.float .f64 c,.float .f64 d] 24)).alloc (.cells #[.float .f64 e,.float .f64 f] 24)):=(bxs2_0 w a b c d).alloc (bxs2_0 w a b c d).size _
theorem bxs3_1 (w:World) (a b c d e f:Nat):IvB (((w.alloc (.cells #[.float .f64 a,.float .f64 b] 24)).alloc (.cells #[.float .f64 c,.float .f64 d] 24)).alloc (.cells #[.float .f64 e,.float .f64 f] 24)) w.heap.size a b:=(bxs2_1 w a b c d).alloc _
theorem bxs3_2 (w:World) (a b c d e f:Nat):IvB (((w.alloc (.cells #[.float .f64 a,.float .f64 b] 24)).alloc (.cells #[.float .f64 c,.float .f64 d] 24)).alloc (.cells #[.float .f64 e,.float .f64 f] 24)) (w.heap.size+1) c d:=(bxs2_2 w a b c d).alloc _
theorem bxs3_3 (w:World) (a b c d e f:Nat):IvB (((w.alloc (.cells #[.float .f64 a,.float .f64 b] 24)).alloc (.cells #[.float .f64 c,.float .f64 d] 24)).alloc (.cells #[.float .f64 e,.float .f64 f] 24)) (w.heap.size+1+1) e f:=by
 have:=IvB.new ((w.alloc (.cells #[.float .f64 a,.float .f64 b] 24)).alloc (.cells #[.float .f64 c,.float .f64 d] 24)) e f
 simpa using this
theorem vI_nn {a b:Nat} (h:vI a b=true):isNaN a=false∧isNaN b=false:=by
 unfold vI le at h
 simp only[Bool.and_eq_true,Bool.not_eq_true'] at h
 exact h.1.1.1.1.1
attribute [local go_sem] run_store_flt
def orV (ok:Bool) (x y:Nat) (g h:Value):Value:=if ok then .tuple #[.agg #[.float .f64 x,.float .f64 y],g] else .tuple #[.agg #[.float .f64 0,.float .f64 0],h]
attribute [local go_sem] run_store_flt
theorem dLike_self (x:Nat) (hx:x<18446744073709551616) (w:World) :
  Calls Tryz.prog 45 #[.float .f64 x,.float .f64 x] w fun r w'=>r=.returned (.bool true)∧w'=w:=by
 have hb:=Ie.run_bits
 have e:=self_ne x hx
 cases hn:isNaN x
 ·rw[hn] at e
  go_enter Tryz.func45,Tryz.ntmps45
  go_wp2
  go_ret
  exact⟨by simp,rfl⟩
 ·rw[hn] at e
  go_enter Tryz.func45,Tryz.ntmps45
  go_wp2
  go_ret
  exact⟨rfl,rfl⟩
theorem llike_self (x:Nat) (hx:x<18446744073709551616) (w:World) :
  Calls Tryz.prog 19 #[.float .f64 x,.float .f64 x] w fun r w'=>r=.returned (.bool true)∧w'=w:=by
 have k:=dLike_self x hx
 go_enter Tryz.func19,Tryz.ntmps19
 go_wp2_with (first|(go_at_call 45;refine(k _).mono ?_;rintro r w' ⟨rfl,rfl⟩))
 go_ret
 exact⟨rfl,rfl⟩
theorem isame (x y:Nat) (hx:x<18446744073709551616) (hy:y<18446744073709551616) (w:World) :
  Calls Tryz.prog 13 #[.agg #[.float .f64 x,.float .f64 y],.agg #[.float .f64 x,.float .f64 y]] w fun r w'=>r=.returned (.bool true)∧Bw w w':=by
 have k1:=llike_self x hx
 have k2:=llike_self y hy
 go_enter Tryz.func13,Tryz.ntmps13
 go_wp2_with (first|(go_at_call 19;first|(with_reducible refine(k1 _).mono ?_;rintro r w' ⟨rfl,rfl⟩)|(with_reducible refine(k2 _).mono ?_;rintro r w' ⟨rfl,rfl⟩)))
 go_ret
 exact⟨rfl,bxs2_0 w _ _ _ _⟩
theorem lof (a b:Nat) (w:World):Calls Tryz.prog 33 #[.float .f64 a,.float .f64 b] w fun r w'=>r=.returned (.agg #[.float .f64 a,.float .f64 b])∧Bw w w':=by
 go_enter Tryz.func33,Tryz.ntmps33
 go_wp2
 refine bodyPost_ret (results_cell_row rfl _ _ w.heap.size 24 #[.float .f64 a,.float .f64 b] (0,0) _ rfl (heap_alloc_new _ _) Tryz.underlying24 rfl iv_info) rfl ?_
 exact⟨rfl,(Below.refl _ _).alloc (Nat.le_refl _) _⟩
theorem sorn (a:Nat) (ha:a<18446744073709551616) (w:World) :
  Calls Tryz.prog 90 #[.float .f64 a] w fun r w'=>r=.returned (.float .f64 (if isNaN a then 0 else a))∧w'=w:=by
 have e:=self_ne a ha
 cases hn:isNaN a
 ·rw[hn] at e
  go_enter Tryz.func90,Tryz.ntmps90
  go_wp2
  go_ret
  exact⟨rfl,rfl⟩
 ·rw[hn] at e
  go_enter Tryz.func90,Tryz.ntmps90
  go_wp2
  go_ret
  exact⟨rfl,rfl⟩
theorem spairs (a b c d:Nat) (w:World):Calls Tryz.prog 55 #[.agg #[.float .f64 a,.float .f64 b],.agg #[.float .f64 c,.float .f64 d]] w fun r w' =>
  r=.returned (.agg #[.float .f64 a,.float .f64 c,.float .f64 a,.float .f64 d,.float .f64 b,.float .f64 c,.float .f64 b,.float .f64 d])∧Bw w w':=by
 go_enter Tryz.func55,Tryz.ntmps55
 go_wp2
 have hn:=heap_alloc_new ((w.alloc (.cells #[.float .f64 a,.float .f64 b] 24)).alloc (.cells #[.float .f64 c,.float .f64 d] 24)) (.cells #[.float .f64 a,.float .f64 c,.float .f64 a,.float .f64 d,.float .f64 b,.float .f64 c,.float .f64 b,.float .f64 d] 74)
 refine bodyPost_ret (results_cell_row rfl _ _ (w.heap.size+1+1) 74 #[.float .f64 a,.float .f64 c,.float .f64 a,.float .f64 d,.float .f64 b,.float .f64 c,.float .f64 b,.float .f64 d] (0,0) _ rfl (by simpa using hn) (show Tryz.prog.underlying 74=some (.array 4 72) by kernel_rfl) rfl (by kernel_rfl)) rfl ?_
 exact⟨rfl,(bxs2_0 w a b c d).alloc (bxs2_0 w a b c d).size _⟩
attribute [local go_sem] run_store_flt
theorem smul_1 (a b c d x y:Nat) (v:Bool) (w:World)
  (k1:∀ W g T,W.heap[g]?=some (.cells #[.float .f64 a,.float .f64 b,.float .f64 c,.float .f64 d] T (0,0))→Calls Tryz.prog 29 #[.slice (some ⟨g,0,none⟩) 2 2] W fun r w'=>r=.returned (.bool v)∧Bw W w')
  (k2:v=true→∀ W,Bw w W→Calls Tryz.prog 56 #[.agg #[.float .f64 a,.float .f64 c,.float .f64 a,.float .f64 d,.float .f64 b,.float .f64 c,.float .f64 b,.float .f64 d],.func (.func 57) #[] #[]] W fun r w'=>r=.returned (.agg #[.float .f64 x,.float .f64 y])∧Bw W w') :
  Calls Tryz.prog 32 #[.agg #[.float .f64 a,.float .f64 b],.agg #[.float .f64 c,.float .f64 d]] w fun r w'=>r=.returned (orV v x y (.int .i64 0) (.int .i64 1))∧Bw w w':=by
 have H1:Hid _:=k1
 have H2:Hid _:=k2
 obtain⟨W,hW⟩:∃ W,W=(((w.alloc (.cells #[.float .f64 a,.float .f64 b] 24)).alloc (.cells #[.float .f64 c,.float .f64 d] 24)).alloc (.cells #[.float .f64 0,.float .f64 0] 24)):=⟨_,rfl⟩
 have HX:Hid (Bw w W∧IvB W (w.heap.size) a b∧IvB W (w.heap.size+1) c d∧IvB W (w.heap.size+1+1) 0 0):=by
  rw[hW]
  exact⟨bxs3_0 w a b c d 0 0,bxs3_1 w a b c d 0 0,bxs3_2 w a b c d 0 0,bxs3_3 w a b c d 0 0⟩
 have HK:Hid (∀ w',Bw W w'→IvF w' (w.heap.size) a b∧IvF w' (w.heap.size+1) c d∧IvF w' (w.heap.size+1+1) 0 0):=fun w' hb=>⟨(HX.out.2.1).later hb,(HX.out.2.2.1).later hb,(HX.out.2.2.2).later hb⟩
 obtain⟨⟨c0,c1,z0,z1⟩,⟨c2,c3,z2,z3⟩,⟨c4,c5,z4,z5⟩⟩:=HK.out W (Below.refl _ _)
 have kk:=H1.out (W.alloc (.cells #[.float .f64 a,.float .f64 b,.float .f64 c,.float .f64 d] 24)) W.heap.size _ (heap_alloc_new _ _)
 clear k1 k2 H1
 go_enter Tryz.func32,Tryz.ntmps32
 go_upto_region 1 with fail
 rw[←hW]
 clear hW
 go_wp2_with fail
 refine kk.mono ?_
 rintro r w1 ⟨rfl,hb1⟩
 clear kk
 have hb2:Bw W w1:=((Below.refl _ _).alloc (Nat.le_refl _) _).trans (hb1.mono (by simp))
 clear c0 c1 c2 c3 c4 c5 z0 z1 z2 z3 z4 z5
 obtain⟨⟨c0,c1,z0,z1⟩,⟨c2,c3,z2,z3⟩,⟨c4,c5,z4,z5⟩⟩:=HK.out w1 hb2
 cases v
 ·have HB:Hid (Bw w w1):=HX.out.1.trans (hb2.mono HX.out.1.size)
  have HR:Hid (IvB w1 (w.heap.size+1+1) 0 0):=HX.out.2.2.2.box hb2
  clear hb1 hb2 HK HX H2
  go_wp2
  refine bodyPost_ret (results_cell_tmp_row rfl _ _ (w.heap.size+1+1) 24 #[.float .f64 0,.float .f64 0] (0,0) _ rfl (HR.out.set _ _) Tryz.underlying24 rfl iv_info) rfl ?_
  exact⟨rfl,below_store2 HB.out (by omega) _ _⟩
 have kp:=spairs a b c d w1
 have HB1:Hid (Bw W w1):=hb2
 clear hb1 hb2
 go_wp2_with fail
 refine kp.mono ?_
 rintro r w2 ⟨rfl,hb2⟩
 have hb3:Bw W w2:=HB1.out.trans (hb2.mono HB1.out.size)
 clear c0 c1 c2 c3 c4 c5 z0 z1 z2 z3 z4 z5 kp HB1
 have ks:=H2.out (by simp) w2 (HX.out.1.trans (hb3.mono HX.out.1.size))
 have HB3:Hid (Bw W w2):=hb3
 clear hb2 hb3 H2
 go_wp2_with fail
 refine ks.mono ?_
 rintro r w3 ⟨rfl,hb4⟩
 have hb5:Bw W w3:=HB3.out.trans (hb4.mono HB3.out.size)
 obtain⟨⟨c0,c1,z0,z1⟩,⟨c2,c3,z2,z3⟩,⟨c4,c5,z4,z5⟩⟩:=HK.out w3 hb5
 have HB:Hid (Bw w w3):=HX.out.1.trans (hb5.mono HX.out.1.size)
 have HR:Hid (IvB w3 (w.heap.size+1+1) 0 0):=HX.out.2.2.2.box hb5
 clear ks hb4 hb5 HK HX HB3
 go_wp2
 refine bodyPost_ret (results_cell_tmp_row rfl _ _ (w.heap.size+1+1) 24 #[.float .f64 x,.float .f64 y] (0,0) _ rfl (HR.out.set _ _) Tryz.underlying24 rfl iv_info) rfl ?_
 exact⟨rfl,below_store2 HB.out (by omega) _ _⟩
def quoV (v z:Bool) (x y:Nat):Value:=if v then(if z then .tuple #[.agg #[.float .f64 0,.float .f64 0],.int .i64 6] else .tuple #[.agg #[.float .f64 x,.float .f64 y],.int .i64 0])else .tuple #[.agg #[.float .f64 0,.float .f64 0],.int .i64 1]
theorem squo_1 (a b c d x y:Nat) (v z:Bool) (w:World)
  (k1:∀ W g T,W.heap[g]?=some (.cells #[.float .f64 a,.float .f64 b,.float .f64 c,.float .f64 d] T (0,0))→Calls Tryz.prog 29 #[.slice (some ⟨g,0,none⟩) 2 2] W fun r w'=>r=.returned (.bool v)∧Bw W w')
  (k2:v=true→z=false→∀ W,Bw w W→Calls Tryz.prog 56 #[.agg #[.float .f64 a,.float .f64 c,.float .f64 a,.float .f64 d,.float .f64 b,.float .f64 c,.float .f64 b,.float .f64 d],.func (.func 59) #[] #[]] W fun r w'=>r=.returned (.agg #[.float .f64 x,.float .f64 y])∧Bw W w')
  (k3:v=true→∀ W,Calls Tryz.prog 37 #[.agg #[.float .f64 c,.float .f64 d],.float .f64 0] W fun r w'=>r=.returned (.bool z)∧Bw W w') :
  Calls Tryz.prog 35 #[.agg #[.float .f64 a,.float .f64 b],.agg #[.float .f64 c,.float .f64 d]] w fun r w'=>r=.returned (quoV v z x y)∧Bw w w':=by
 have H1:Hid _:=k1
 have H2:Hid _:=k2
 have H3:Hid _:=k3
 obtain⟨W,hW⟩:∃ W,W=(((w.alloc (.cells #[.float .f64 a,.float .f64 b] 24)).alloc (.cells #[.float .f64 c,.float .f64 d] 24)).alloc (.cells #[.float .f64 0,.float .f64 0] 24)):=⟨_,rfl⟩
 have HX:Hid (Bw w W∧IvB W (w.heap.size) a b∧IvB W (w.heap.size+1) c d∧IvB W (w.heap.size+1+1) 0 0):=by
  rw[hW]
  exact⟨bxs3_0 w a b c d 0 0,bxs3_1 w a b c d 0 0,bxs3_2 w a b c d 0 0,bxs3_3 w a b c d 0 0⟩
 have HK:Hid (∀ w',Bw W w'→IvF w' (w.heap.size) a b∧IvF w' (w.heap.size+1) c d∧IvF w' (w.heap.size+1+1) 0 0):=fun w' hb=>⟨(HX.out.2.1).later hb,(HX.out.2.2.1).later hb,(HX.out.2.2.2).later hb⟩
 obtain⟨⟨c0,c1,z0,z1⟩,⟨c2,c3,z2,z3⟩,⟨c4,c5,z4,z5⟩⟩:=HK.out W (Below.refl _ _)
 have kk:=H1.out (W.alloc (.cells #[.float .f64 a,.float .f64 b,.float .f64 c,.float .f64 d] 24)) W.heap.size _ (heap_alloc_new _ _)
 clear k1 k2 k3 H1
 go_enter Tryz.func35,Tryz.ntmps35
 go_upto_region 1 with fail
 rw[←hW]
 clear hW
 go_wp2_with fail
 refine kk.mono ?_
 rintro r w1 ⟨rfl,hb1⟩
 clear kk
 have hb2:Bw W w1:=((Below.refl _ _).alloc (Nat.le_refl _) _).trans (hb1.mono (by simp))
 clear c0 c1 c2 c3 c4 c5 z0 z1 z2 z3 z4 z5
 obtain⟨⟨c0,c1,z0,z1⟩,⟨c2,c3,z2,z3⟩,⟨c4,c5,z4,z5⟩⟩:=HK.out w1 hb2
 cases v
 ·have HB:Hid (Bw w w1):=HX.out.1.trans (hb2.mono HX.out.1.size)
  have HR:Hid (IvB w1 (w.heap.size+1+1) 0 0):=HX.out.2.2.2.box hb2
  clear hb1 hb2 HK HX H2 H3
  go_wp2
  refine bodyPost_ret (results_cell_tmp_row rfl _ _ (w.heap.size+1+1) 24 #[.float .f64 0,.float .f64 0] (0,0) _ rfl (HR.out.set _ _) Tryz.underlying24 rfl iv_info) rfl ?_
  exact⟨rfl,below_store2 HB.out (by omega) _ _⟩
 have kh:=H3.out (by simp) w1
 have HB1:Hid (Bw W w1):=hb2
 clear hb1 hb2 H3
 go_wp2_with fail
 refine kh.mono ?_
 rintro r w2 ⟨rfl,hb2⟩
 have hb3:Bw W w2:=HB1.out.trans (hb2.mono HB1.out.size)
 clear c0 c1 c2 c3 c4 c5 z0 z1 z2 z3 z4 z5 kh HB1
 obtain⟨⟨c0,c1,z0,z1⟩,⟨c2,c3,z2,z3⟩,⟨c4,c5,z4,z5⟩⟩:=HK.out w2 hb3
 cases z
 case true =>
  have HB:Hid (Bw w w2):=HX.out.1.trans (hb3.mono HX.out.1.size)
  have HR:Hid (IvB w2 (w.heap.size+1+1) 0 0):=HX.out.2.2.2.box hb3
  clear hb2 hb3 HK HX H2
  go_wp2
  refine bodyPost_ret (results_cell_tmp_row rfl _ _ (w.heap.size+1+1) 24 #[.float .f64 0,.float .f64 0] (0,0) _ rfl (HR.out.set _ _) Tryz.underlying24 rfl iv_info) rfl ?_
  exact⟨rfl,below_store2 HB.out (by omega) _ _⟩
 have kp:=spairs a b c d w2
 have HB1:Hid (Bw W w2):=hb3
 clear hb2 hb3
 go_wp2_with fail
 refine kp.mono ?_
 rintro r w3 ⟨rfl,hb2⟩
 have hb3:Bw W w3:=HB1.out.trans (hb2.mono HB1.out.size)
 clear c0 c1 c2 c3 c4 c5 z0 z1 z2 z3 z4 z5 kp HB1
 have ks:=H2.out (by simp) (by simp) w3 (HX.out.1.trans (hb3.mono HX.out.1.size))
 have HB3:Hid (Bw W w3):=hb3
 clear hb2 hb3 H2
 go_wp2_with fail
 refine ks.mono ?_
 rintro r w4 ⟨rfl,hb4⟩
 have hb5:Bw W w4:=HB3.out.trans (hb4.mono HB3.out.size)
 obtain⟨⟨c0,c1,z0,z1⟩,⟨c2,c3,z2,z3⟩,⟨c4,c5,z4,z5⟩⟩:=HK.out w4 hb5
 have HB:Hid (Bw w w4):=HX.out.1.trans (hb5.mono HX.out.1.size)
 have HR:Hid (IvB w4 (w.heap.size+1+1) 0 0):=HX.out.2.2.2.box hb5
 clear ks hb4 hb5 HK HX HB3
 go_wp2
 refine bodyPost_ret (results_cell_tmp_row rfl _ _ (w.heap.size+1+1) 24 #[.float .f64 x,.float .f64 y] (0,0) _ rfl (HR.out.set _ _) Tryz.underlying24 rfl iv_info) rfl ?_
 exact⟨rfl,below_store2 HB.out (by omega) _ _⟩
attribute [local go_sem] run_store_flt
def lowF (D:Nat→Nat):Nat→Nat
 | 0=>9218868437227405312
 | n+1=>fMin (lowF D n) (D n)
def hiF (D:Nat→Nat):Nat→Nat
 | 0=>18442240474082181120
 | n+1=>fMax (hiF D n) (D n)
theorem lowF_ok {D:Nat→Nat} (h:∀ i,D i<18446744073709551616∧isNaN (D i)=false):∀ n,lowF D n<18446744073709551616∧isNaN (lowF D n)=false
 | 0=>⟨by unfold lowF;omega,by unfold lowF;decide⟩
 | n+1=>⟨fMin_lt (lowF_ok h n).1 (h n).1,fMin_nn (lowF_ok h n).2 (h n).2⟩
theorem hiF_ok {D:Nat→Nat} (h:∀ i,D i<18446744073709551616∧isNaN (D i)=false):∀ n,hiF D n<18446744073709551616∧isNaN (hiF D n)=false
 | 0=>⟨by unfold hiF;omega,by unfold hiF;decide⟩
 | n+1=>⟨fMax_lt (hiF_ok h n).1 (h n).1,fMax_nn (hiF_ok h n).2 (h n).2⟩
def onF (a:Nat):Nat:=if isNaN a then 0 else a
theorem onF_ok {a:Nat} (h:a<18446744073709551616):onF a<18446744073709551616∧isNaN (onF a)=false:=by
 unfold onF
 cases e:isNaN a
 ·exact⟨h,e⟩
 ·rw[if_pos rfl];exact⟨by omega,by decide⟩
theorem onF_lk {n X:Nat} (h:lk n X):onF n=onF X:=by
 rcases lk_or h with rfl|⟨h1,h2⟩
 ·rfl
 ·unfold onF;rw[h1,h2];rfl
theorem sorn_lk {n X:Nat} (h:lk n X) (w:World):Calls Tryz.prog 90 #[.float .f64 n] w fun r w'=>r=.returned (.float .f64 (onF X))∧w'=w:=by
 rw[←onF_lk h]
 exact sorn n h.1 w
theorem run_pairs0 (a b c d e f g h:Nat) (w:World):(Instr.index 74 (.agg #[.float .f64 a,.float .f64 b,.float .f64 c,.float .f64 d,.float .f64 e,.float .f64 f,.float .f64 g,.float .f64 h]) (.int .i64 0)).run Tryz.prog w=.ok (.agg #[.float .f64 a,.float .f64 b]) w:=by kernel_rfl
theorem run_pairs1 (a b c d e f g h:Nat) (w:World):(Instr.index 74 (.agg #[.float .f64 a,.float .f64 b,.float .f64 c,.float .f64 d,.float .f64 e,.float .f64 f,.float .f64 g,.float .f64 h]) (.int .i64 1)).run Tryz.prog w=.ok (.agg #[.float .f64 c,.float .f64 d]) w:=by kernel_rfl
theorem run_pairs2 (a b c d e f g h:Nat) (w:World):(Instr.index 74 (.agg #[.float .f64 a,.float .f64 b,.float .f64 c,.float .f64 d,.float .f64 e,.float .f64 f,.float .f64 g,.float .f64 h]) (.int .i64 2)).run Tryz.prog w=.ok (.agg #[.float .f64 e,.float .f64 f]) w:=by kernel_rfl
theorem run_pairs3 (a b c d e f g h:Nat) (w:World):(Instr.index 74 (.agg #[.float .f64 a,.float .f64 b,.float .f64 c,.float .f64 d,.float .f64 e,.float .f64 f,.float .f64 g,.float .f64 h]) (.int .i64 3)).run Tryz.prog w=.ok (.agg #[.float .f64 g,.float .f64 h]) w:=by kernel_rfl
theorem sspread_Mul (X Y D E:Nat→Nat) (w:World) (hD:∀ i,D i<18446744073709551616) (hE:∀ i,E i<18446744073709551616)
  (kd:∀ i,i<4→∀ W,Bw w W→Calls Tryz.prog 57 #[.float .f64 (X i),.float .f64 (Y i),.int .i64 1] W fun r w'=>∃ n,r=.returned (.float .f64 n)∧lk n (D i)∧Bw W w')
  (ku:∀ i,i<4→∀ W,Bw w W→Calls Tryz.prog 57 #[.float .f64 (X i),.float .f64 (Y i),.int .i64 3] W fun r w'=>∃ n,r=.returned (.float .f64 n)∧lk n (E i)∧Bw W w') :
  Calls Tryz.prog 56 #[.agg #[.float .f64 (X 0),.float .f64 (Y 0),.float .f64 (X 1),.float .f64 (Y 1),.float .f64 (X 2),.float .f64 (Y 2),.float .f64 (X 3),.float .f64 (Y 3)],.func (.func 57) #[] #[]] w fun r w'=>r=.returned (.agg #[.float .f64 (pl (lowF (fun i=>onF (D i)) 4)),.float .f64 (pl (hiF (fun i=>onF (E i)) 4))])∧Bw w w':=by
 have HD:Hid _:=kd
 have HU:Hid _:=ku
 have HLo:Hid (∀ n,lowF (fun i=>onF (D i)) n<18446744073709551616∧isNaN (lowF (fun i=>onF (D i)) n)=false):=lowF_ok fun i=>onF_ok (hD i)
 have HHi:Hid (∀ n,hiF (fun i=>onF (E i)) n<18446744073709551616∧isNaN (hiF (fun i=>onF (E i)) n)=false):=hiF_ok fun i=>onF_ok (hE i)
 have HDE:Hid ((∀ i,D i<18446744073709551616)∧∀ i,E i<18446744073709551616):=⟨hD,hE⟩
 obtain⟨W,hW⟩:∃ W,W=(w.alloc (.cells #[.float .f64 (X 0),.float .f64 (Y 0),.float .f64 (X 1),.float .f64 (Y 1),.float .f64 (X 2),.float .f64 (Y 2),.float .f64 (X 3),.float .f64 (Y 3)] 74)).alloc (.cells #[.float .f64 0,.float .f64 0] 24):=⟨_,rfl⟩
 have HX:Hid (Bw w W∧W.heap[w.heap.size]?=some (.cells #[.float .f64 (X 0),.float .f64 (Y 0),.float .f64 (X 1),.float .f64 (Y 1),.float .f64 (X 2),.float .f64 (Y 2),.float .f64 (X 3),.float .f64 (Y 3)] 74 (0,0))∧IvB W (w.heap.size+1) 0 0):=by
  rw[hW]
  refine⟨((Below.refl _ _).alloc (Nat.le_refl _) _).alloc (by simp) _,?_,?_⟩
  ·exact(Below.heap_alloc _ _ _ (by simp)).trans (heap_alloc_new _ _)
  ·have:=IvB.new (w.alloc (.cells #[.float .f64 (X 0),.float .f64 (Y 0),.float .f64 (X 1),.float .f64 (Y 1),.float .f64 (X 2),.float .f64 (Y 2),.float .f64 (X 3),.float .f64 (Y 3)] 74)) 0 0
   simpa using this
 clear kd ku hD hE
 go_enter Tryz.func56,Tryz.ntmps56
 go_upto_region 1 with fail
 rw[←hW]
 clear hW
 have hc:W.cell? ⟨w.heap.size,0,none⟩=some (.float .f64 (X 0))∧W.cell? ⟨w.heap.size,1,none⟩=some (.float .f64 (Y 0))∧W.cell? ⟨w.heap.size,2,none⟩=some (.float .f64 (X 1))∧W.cell? ⟨w.heap.size,3,none⟩=some (.float .f64 (Y 1))∧W.cell? ⟨w.heap.size,4,none⟩=some (.float .f64 (X 2))∧W.cell? ⟨w.heap.size,5,none⟩=some (.float .f64 (Y 2))∧W.cell? ⟨w.heap.size,6,none⟩=some (.float .f64 (X 3))∧W.cell? ⟨w.heap.size,7,none⟩=some (.float .f64 (Y 3)):=by
  have:=HX.out.2.1
  simp[World.cell?,this]
 obtain⟨q0,q1,q2,q3,q4,q5,q6,q7⟩:=hc
 have hI1:∀ W,Calls Tryz.prog 34 #[.int .i64 1] W fun r w'=>r=.returned (.float .f64 (lowF (fun i=>onF (D i)) 0))∧w'=W:=cinf_p
 have hI2:∀ W,Calls Tryz.prog 34 #[.int .i64 (-1)] W fun r w'=>r=.returned (.float .f64 (hiF (fun i=>onF (E i)) 0))∧w'=W:=cinf_m
 generalize hlo:lowF (fun i=>onF (D i))=Lo at *
 generalize hhi:hiF (fun i=>onF (E i))=Hi at *
 have HlH:Hid (lowF (fun i=>onF (D i))=Lo∧hiF (fun i=>onF (E i))=Hi):=⟨hlo,hhi⟩
 clear hlo hhi
 go_wp2_with (first|(go_at_call 34;first|(with_reducible refine(hI1 _).mono ?_;rintro r w' ⟨rfl,hw⟩;replace hw:=hw.symm;subst hw)|(with_reducible refine(hI2 _).mono ?_;rintro r w' ⟨rfl,hw⟩;replace hw:=hw.symm;subst hw)))
 clear hI1 hI2 q0 q1 q2 q3 q4 q5 q6 q7
 go_loopw [5,6,12] (fun lo hi i wr=>∃ j:Nat,j≤4∧i=.int .i64 j∧lo=.float .f64 (Lo j)∧hi=.float .f64 (Hi j)∧Hid (Bw W wr)) (fun lo hi i _=>4 - (intOf i).toNat)
 case atStart=>exact⟨0,by omega,rfl,rfl,rfl,Below.refl _ _⟩
 case round =>
  obtain⟨j,hj,rfl,rfl,rfl,hB⟩:=hrel
  obtain⟨W1,hW1⟩:∃ f:Nat→World,f=fun j=>wr.alloc (.cells #[.float .f64 (X j),.float .f64 (Y j)] 72):=⟨_,rfl⟩
  have HB1:Hid (∀ j,(W1 j).heap[wr.heap.size]?=some (.cells #[.float .f64 (X j),.float .f64 (Y j)] 72 (0,0))):=fun j=>by rw[hW1];exact heap_alloc_new _ _
  have HBW1:Hid (∀ j,Below W.heap.size W (W1 j)):=fun j=>by rw[hW1];exact hB.out.alloc hB.out.size _
  have HL1:Hid (∀ j,Lo (j+1)=fMin (Lo j) (onF (D j))∧Hi (j+1)=fMax (Hi j) (onF (E j))):=fun j=>by rw[←HlH.out.1,←HlH.out.2];exact⟨rfl,rfl⟩
  rcases(show j=0∨j=1∨j=2∨j=3∨j=4 by omega)with rfl|rfl|rfl|rfl|rfl
  ·have hW1:W1 0=wr.alloc (.cells #[.float .f64 (X 0),.float .f64 (Y 0)] 72):=by rw[hW1]
   have hp:=run_pairs0 (X 0) (Y 0) (X 1) (Y 1) (X 2) (Y 2) (X 3) (Y 3) wr
   have kd:=HD.out 0 (by omega) (W1 0) (HX.out.1.trans ((HBW1.out 0).mono HX.out.1.size))
   have ⟨s0,s1⟩:=box_cells2 (HB1.out 0)
   have HB1:=HB1.out 0
   have HB1:Hid ((W1 0).heap[wr.heap.size]?=some (.cells #[.float .f64 (X 0),.float .f64 (Y 0)] 72 (0,0))):=HB1
   have HBW:Hid (Below W.heap.size W (W1 0)):=HBW1.out 0
   clear HBW1
   generalize W1 0=V at *
   go_upto_region 5 with fail
   rw[←hW1]
   clear hW1
   go_wp2_with fail
   refine kd.mono ?_
   rintro r w2 ⟨n,rfl,hl,hb2⟩
   have ko:=sorn_lk hl w2
   have hm:=fun ts t=>run_fmin (P:=Tryz.prog) w2 ts t _ _ (HLo.out 0).1 (onF_ok (HDE.out.1 0)).1 (HLo.out 0).2 (onF_ok (HDE.out.1 0)).2
   rw[←(HL1.out 0).1] at hm
   obtain⟨t0,t1⟩:=box_cells2 (box_later HB1.out hb2 (lt_of_box HB1.out))
   have HB3:Hid (Bw W w2):=HBW.out.trans (hb2.mono HBW.out.size)
   clear hl hb2 kd s0 s1 HBW HB1
   have ku:=HU.out 0 (by omega) w2 (HX.out.1.trans (HB3.out.mono HX.out.1.size))
   generalize onF (D 0)=d0 at *
   go_wp2_with fail
   refine ko.mono ?_
   rintro r w3 ⟨rfl,hw⟩
   replace hw:=hw.symm
   subst hw
   clear ko
   go_wp2_with fail
   refine ku.mono ?_
   rintro r w3 ⟨n2,rfl,hl,hb2⟩
   have ko:=sorn_lk hl w3
   clear hm
   have hm:=fun ts t=>run_fmax (P:=Tryz.prog) w3 ts t _ _ (HHi.out 0).1 (onF_ok (HDE.out.2 0)).1 (HHi.out 0).2 (onF_ok (HDE.out.2 0)).2
   rw[←(HL1.out 0).2] at hm
   have HB4:Hid (Bw W w3):=HB3.out.trans (hb2.mono HB3.out.size)
   clear hl hb2 ku t0 t1 HB3
   generalize onF (E 0)=e0 at *
   go_wp2_with fail
   refine ko.mono ?_
   rintro r w4 ⟨rfl,hw⟩
   replace hw:=hw.symm
   subst hw
   clear ko
   go_wp2_with fail
   exact⟨⟨0+1,by omega,rfl,rfl,rfl,HB4⟩,by simp[intOf]⟩
  ·have hW1:W1 1=wr.alloc (.cells #[.float .f64 (X 1),.float .f64 (Y 1)] 72):=by rw[hW1]
   have hp:=run_pairs1 (X 0) (Y 0) (X 1) (Y 1) (X 2) (Y 2) (X 3) (Y 3) wr
   have kd:=HD.out 1 (by omega) (W1 1) (HX.out.1.trans ((HBW1.out 1).mono HX.out.1.size))
   have ⟨s0,s1⟩:=box_cells2 (HB1.out 1)
   have HB1:=HB1.out 1
   have HB1:Hid ((W1 1).heap[wr.heap.size]?=some (.cells #[.float .f64 (X 1),.float .f64 (Y 1)] 72 (0,0))):=HB1
   have HBW:Hid (Below W.heap.size W (W1 1)):=HBW1.out 1
   clear HBW1
   generalize W1 1=V at *
   go_upto_region 5 with fail
   rw[←hW1]
   clear hW1
   go_wp2_with fail
   refine kd.mono ?_
   rintro r w2 ⟨n,rfl,hl,hb2⟩
   have ko:=sorn_lk hl w2
   have hm:=fun ts t=>run_fmin (P:=Tryz.prog) w2 ts t _ _ (HLo.out 1).1 (onF_ok (HDE.out.1 1)).1 (HLo.out 1).2 (onF_ok (HDE.out.1 1)).2
   rw[←(HL1.out 1).1] at hm
   obtain⟨t0,t1⟩:=box_cells2 (box_later HB1.out hb2 (lt_of_box HB1.out))
   have HB3:Hid (Bw W w2):=HBW.out.trans (hb2.mono HBW.out.size)
   clear hl hb2 kd s0 s1 HBW HB1
   have ku:=HU.out 1 (by omega) w2 (HX.out.1.trans (HB3.out.mono HX.out.1.size))
   generalize onF (D 1)=d0 at *
   go_wp2_with fail
   refine ko.mono ?_
   rintro r w3 ⟨rfl,hw⟩
   replace hw:=hw.symm
   subst hw
   clear ko
   go_wp2_with fail
   refine ku.mono ?_
   rintro r w3 ⟨n2,rfl,hl,hb2⟩
   have ko:=sorn_lk hl w3
   clear hm
   have hm:=fun ts t=>run_fmax (P:=Tryz.prog) w3 ts t _ _ (HHi.out 1).1 (onF_ok (HDE.out.2 1)).1 (HHi.out 1).2 (onF_ok (HDE.out.2 1)).2
   rw[←(HL1.out 1).2] at hm
   have HB4:Hid (Bw W w3):=HB3.out.trans (hb2.mono HB3.out.size)
   clear hl hb2 ku t0 t1 HB3
   generalize onF (E 1)=e0 at *
   go_wp2_with fail
   refine ko.mono ?_
   rintro r w4 ⟨rfl,hw⟩
   replace hw:=hw.symm
   subst hw
   clear ko
   go_wp2_with fail
   exact⟨⟨1+1,by omega,rfl,rfl,rfl,HB4⟩,by simp[intOf]⟩
  ·have hW1:W1 2=wr.alloc (.cells #[.float .f64 (X 2),.float .f64 (Y 2)] 72):=by rw[hW1]
   have hp:=run_pairs2 (X 0) (Y 0) (X 1) (Y 1) (X 2) (Y 2) (X 3) (Y 3) wr
   have kd:=HD.out 2 (by omega) (W1 2) (HX.out.1.trans ((HBW1.out 2).mono HX.out.1.size))
   have ⟨s0,s1⟩:=box_cells2 (HB1.out 2)
   have HB1:=HB1.out 2
   have HB1:Hid ((W1 2).heap[wr.heap.size]?=some (.cells #[.float .f64 (X 2),.float .f64 (Y 2)] 72 (0,0))):=HB1
   have HBW:Hid (Below W.heap.size W (W1 2)):=HBW1.out 2
   clear HBW1
   generalize W1 2=V at *
   go_upto_region 5 with fail
   rw[←hW1]
   clear hW1
   go_wp2_with fail
   refine kd.mono ?_
   rintro r w2 ⟨n,rfl,hl,hb2⟩
   have ko:=sorn_lk hl w2
   have hm:=fun ts t=>run_fmin (P:=Tryz.prog) w2 ts t _ _ (HLo.out 2).1 (onF_ok (HDE.out.1 2)).1 (HLo.out 2).2 (onF_ok (HDE.out.1 2)).2
   rw[←(HL1.out 2).1] at hm
   obtain⟨t0,t1⟩:=box_cells2 (box_later HB1.out hb2 (lt_of_box HB1.out))
   have HB3:Hid (Bw W w2):=HBW.out.trans (hb2.mono HBW.out.size)
   clear hl hb2 kd s0 s1 HBW HB1
   have ku:=HU.out 2 (by omega) w2 (HX.out.1.trans (HB3.out.mono HX.out.1.size))
   generalize onF (D 2)=d0 at *
   go_wp2_with fail
   refine ko.mono ?_
   rintro r w3 ⟨rfl,hw⟩
   replace hw:=hw.symm
   subst hw
   clear ko
   go_wp2_with fail
   refine ku.mono ?_
   rintro r w3 ⟨n2,rfl,hl,hb2⟩
   have ko:=sorn_lk hl w3
   clear hm
   have hm:=fun ts t=>run_fmax (P:=Tryz.prog) w3 ts t _ _ (HHi.out 2).1 (onF_ok (HDE.out.2 2)).1 (HHi.out 2).2 (onF_ok (HDE.out.2 2)).2
   rw[←(HL1.out 2).2] at hm
   have HB4:Hid (Bw W w3):=HB3.out.trans (hb2.mono HB3.out.size)
   clear hl hb2 ku t0 t1 HB3
   generalize onF (E 2)=e0 at *
   go_wp2_with fail
   refine ko.mono ?_
   rintro r w4 ⟨rfl,hw⟩
   replace hw:=hw.symm
   subst hw
   clear ko
   go_wp2_with fail
   exact⟨⟨2+1,by omega,rfl,rfl,rfl,HB4⟩,by simp[intOf]⟩
  ·have hW1:W1 3=wr.alloc (.cells #[.float .f64 (X 3),.float .f64 (Y 3)] 72):=by rw[hW1]
   have hp:=run_pairs3 (X 0) (Y 0) (X 1) (Y 1) (X 2) (Y 2) (X 3) (Y 3) wr
   have kd:=HD.out 3 (by omega) (W1 3) (HX.out.1.trans ((HBW1.out 3).mono HX.out.1.size))
   have ⟨s0,s1⟩:=box_cells2 (HB1.out 3)
   have HB1:=HB1.out 3
   have HB1:Hid ((W1 3).heap[wr.heap.size]?=some (.cells #[.float .f64 (X 3),.float .f64 (Y 3)] 72 (0,0))):=HB1
   have HBW:Hid (Below W.heap.size W (W1 3)):=HBW1.out 3
   clear HBW1
   generalize W1 3=V at *
   go_upto_region 5 with fail
   rw[←hW1]
   clear hW1
   go_wp2_with fail
   refine kd.mono ?_
   rintro r w2 ⟨n,rfl,hl,hb2⟩
   have ko:=sorn_lk hl w2
   have hm:=fun ts t=>run_fmin (P:=Tryz.prog) w2 ts t _ _ (HLo.out 3).1 (onF_ok (HDE.out.1 3)).1 (HLo.out 3).2 (onF_ok (HDE.out.1 3)).2
   rw[←(HL1.out 3).1] at hm
   obtain⟨t0,t1⟩:=box_cells2 (box_later HB1.out hb2 (lt_of_box HB1.out))
   have HB3:Hid (Bw W w2):=HBW.out.trans (hb2.mono HBW.out.size)
   clear hl hb2 kd s0 s1 HBW HB1
   have ku:=HU.out 3 (by omega) w2 (HX.out.1.trans (HB3.out.mono HX.out.1.size))
   generalize onF (D 3)=d0 at *
   go_wp2_with fail
   refine ko.mono ?_
   rintro r w3 ⟨rfl,hw⟩
   replace hw:=hw.symm
   subst hw
   clear ko
   go_wp2_with fail
   refine ku.mono ?_
   rintro r w3 ⟨n2,rfl,hl,hb2⟩
   have ko:=sorn_lk hl w3
   clear hm
   have hm:=fun ts t=>run_fmax (P:=Tryz.prog) w3 ts t _ _ (HHi.out 3).1 (onF_ok (HDE.out.2 3)).1 (HHi.out 3).2 (onF_ok (HDE.out.2 3)).2
   rw[←(HL1.out 3).2] at hm
   have HB4:Hid (Bw W w3):=HB3.out.trans (hb2.mono HB3.out.size)
   clear hl hb2 ku t0 t1 HB3
   generalize onF (E 3)=e0 at *
   go_wp2_with fail
   refine ko.mono ?_
   rintro r w4 ⟨rfl,hw⟩
   replace hw:=hw.symm
   subst hw
   clear ko
   go_wp2_with fail
   exact⟨⟨3+1,by omega,rfl,rfl,rfl,HB4⟩,by simp[intOf]⟩
  ·have kb:=sbetween (Lo 4) (Hi 4) wr (HLo.out 4).1 (HHi.out 4).1
   have HR:Hid (IvB wr (w.heap.size+1) 0 0):=HX.out.2.2.box hB.out
   have HBw:Hid (Bw w wr):=HX.out.1.trans (hB.out.mono HX.out.1.size)
   clear HB1 HBW1 hW1
   go_wp2_with fail
   refine kb.mono ?_
   rintro r w2 ⟨rfl,hb2⟩
   have hR2:IvB w2 (w.heap.size+1) 0 0:=HR.out.box hb2
   obtain⟨y0,y1,y2,y3⟩:=hR2.facts
   have HR:Hid (IvB w2 (w.heap.size+1) 0 0):=hR2
   have HB2:Hid (Bw w w2):=HBw.out.trans (hb2.mono HBw.out.size)
   clear hb2 hR2 kb
   generalize hA:pl (Lo 4)=A at *
   generalize hC:pl (Hi 4)=C at *
   have HAC:Hid (pl (Lo 4)=A∧pl (Hi 4)=C):=⟨hA,hC⟩
   clear hA hC
   go_wp2_with fail
   refine bodyPost_ret (results_cell_row rfl _ _ (w.heap.size+1) 24 #[.float .f64 A,.float .f64 C] (0,0) _ rfl (HR.out.set _ _) Tryz.underlying24 rfl iv_info) rfl ?_
   exact⟨by rw[HlH.out.1,HlH.out.2,HAC.out.1,HAC.out.2],below_store2 HB2.out (by omega) _ _⟩
theorem sspread_Div (X Y D E:Nat→Nat) (w:World) (hD:∀ i,D i<18446744073709551616) (hE:∀ i,E i<18446744073709551616)
  (kd:∀ i,i<4→∀ W,Bw w W→Calls Tryz.prog 59 #[.float .f64 (X i),.float .f64 (Y i),.int .i64 1] W fun r w'=>∃ n,r=.returned (.float .f64 n)∧lk n (D i)∧Bw W w')
  (ku:∀ i,i<4→∀ W,Bw w W→Calls Tryz.prog 59 #[.float .f64 (X i),.float .f64 (Y i),.int .i64 3] W fun r w'=>∃ n,r=.returned (.float .f64 n)∧lk n (E i)∧Bw W w') :
  Calls Tryz.prog 56 #[.agg #[.float .f64 (X 0),.float .f64 (Y 0),.float .f64 (X 1),.float .f64 (Y 1),.float .f64 (X 2),.float .f64 (Y 2),.float .f64 (X 3),.float .f64 (Y 3)],.func (.func 59) #[] #[]] w fun r w'=>r=.returned (.agg #[.float .f64 (pl (lowF (fun i=>onF (D i)) 4)),.float .f64 (pl (hiF (fun i=>onF (E i)) 4))])∧Bw w w':=by
 have HD:Hid _:=kd
 have HU:Hid _:=ku
 have HLo:Hid (∀ n,lowF (fun i=>onF (D i)) n<18446744073709551616∧isNaN (lowF (fun i=>onF (D i)) n)=false):=lowF_ok fun i=>onF_ok (hD i)
 have HHi:Hid (∀ n,hiF (fun i=>onF (E i)) n<18446744073709551616∧isNaN (hiF (fun i=>onF (E i)) n)=false):=hiF_ok fun i=>onF_ok (hE i)
 have HDE:Hid ((∀ i,D i<18446744073709551616)∧∀ i,E i<18446744073709551616):=⟨hD,hE⟩
 obtain⟨W,hW⟩:∃ W,W=(w.alloc (.cells #[.float .f64 (X 0),.float .f64 (Y 0),.float .f64 (X 1),.float .f64 (Y 1),.float .f64 (X 2),.float .f64 (Y 2),.float .f64 (X 3),.float .f64 (Y 3)] 74)).alloc (.cells #[.float .f64 0,.float .f64 0] 24):=⟨_,rfl⟩
 have HX:Hid (Bw w W∧W.heap[w.heap.size]?=some (.cells #[.float .f64 (X 0),.float .f64 (Y 0),.float .f64 (X 1),.float .f64 (Y 1),.float .f64 (X 2),.float .f64 (Y 2),.float .f64 (X 3),.float .f64 (Y 3)] 74 (0,0))∧IvB W (w.heap.size+1) 0 0):=by
  rw[hW]
  refine⟨((Below.refl _ _).alloc (Nat.le_refl _) _).alloc (by simp) _,?_,?_⟩
  ·exact(Below.heap_alloc _ _ _ (by simp)).trans (heap_alloc_new _ _)
  ·have:=IvB.new (w.alloc (.cells #[.float .f64 (X 0),.float .f64 (Y 0),.float .f64 (X 1),.float .f64 (Y 1),.float .f64 (X 2),.float .f64 (Y 2),.float .f64 (X 3),.float .f64 (Y 3)] 74)) 0 0
   simpa using this
 clear kd ku hD hE
 go_enter Tryz.func56,Tryz.ntmps56
 go_upto_region 1 with fail
 rw[←hW]
 clear hW
 have hc:W.cell? ⟨w.heap.size,0,none⟩=some (.float .f64 (X 0))∧W.cell? ⟨w.heap.size,1,none⟩=some (.float .f64 (Y 0))∧W.cell? ⟨w.heap.size,2,none⟩=some (.float .f64 (X 1))∧W.cell? ⟨w.heap.size,3,none⟩=some (.float .f64 (Y 1))∧W.cell? ⟨w.heap.size,4,none⟩=some (.float .f64 (X 2))∧W.cell? ⟨w.heap.size,5,none⟩=some (.float .f64 (Y 2))∧W.cell? ⟨w.heap.size,6,none⟩=some (.float .f64 (X 3))∧W.cell? ⟨w.heap.size,7,none⟩=some (.float .f64 (Y 3)):=by
  have:=HX.out.2.1
  simp[World.cell?,this]
 obtain⟨q0,q1,q2,q3,q4,q5,q6,q7⟩:=hc
 have hI1:∀ W,Calls Tryz.prog 34 #[.int .i64 1] W fun r w'=>r=.returned (.float .f64 (lowF (fun i=>onF (D i)) 0))∧w'=W:=cinf_p
 have hI2:∀ W,Calls Tryz.prog 34 #[.int .i64 (-1)] W fun r w'=>r=.returned (.float .f64 (hiF (fun i=>onF (E i)) 0))∧w'=W:=cinf_m
 generalize hlo:lowF (fun i=>onF (D i))=Lo at *
 generalize hhi:hiF (fun i=>onF (E i))=Hi at *
 have HlH:Hid (lowF (fun i=>onF (D i))=Lo∧hiF (fun i=>onF (E i))=Hi):=⟨hlo,hhi⟩
 clear hlo hhi
 go_wp2_with (first|(go_at_call 34;first|(with_reducible refine(hI1 _).mono ?_;rintro r w' ⟨rfl,hw⟩;replace hw:=hw.symm;subst hw)|(with_reducible refine(hI2 _).mono ?_;rintro r w' ⟨rfl,hw⟩;replace hw:=hw.symm;subst hw)))
 clear hI1 hI2 q0 q1 q2 q3 q4 q5 q6 q7
 go_loopw [5,6,12] (fun lo hi i wr=>∃ j:Nat,j≤4∧i=.int .i64 j∧lo=.float .f64 (Lo j)∧hi=.float .f64 (Hi j)∧Hid (Bw W wr)) (fun lo hi i _=>4 - (intOf i).toNat)
 case atStart=>exact⟨0,by omega,rfl,rfl,rfl,Below.refl _ _⟩
 case round =>
  obtain⟨j,hj,rfl,rfl,rfl,hB⟩:=hrel
  obtain⟨W1,hW1⟩:∃ f:Nat→World,f=fun j=>wr.alloc (.cells #[.float .f64 (X j),.float .f64 (Y j)] 72):=⟨_,rfl⟩
  have HB1:Hid (∀ j,(W1 j).heap[wr.heap.size]?=some (.cells #[.float .f64 (X j),.float .f64 (Y j)] 72 (0,0))):=fun j=>by rw[hW1];exact heap_alloc_new _ _
  have HBW1:Hid (∀ j,Below W.heap.size W (W1 j)):=fun j=>by rw[hW1];exact hB.out.alloc hB.out.size _
  have HL1:Hid (∀ j,Lo (j+1)=fMin (Lo j) (onF (D j))∧Hi (j+1)=fMax (Hi j) (onF (E j))):=fun j=>by rw[←HlH.out.1,←HlH.out.2];exact⟨rfl,rfl⟩
  rcases(show j=0∨j=1∨j=2∨j=3∨j=4 by omega)with rfl|rfl|rfl|rfl|rfl
  ·have hW1:W1 0=wr.alloc (.cells #[.float .f64 (X 0),.float .f64 (Y 0)] 72):=by rw[hW1]
   have hp:=run_pairs0 (X 0) (Y 0) (X 1) (Y 1) (X 2) (Y 2) (X 3) (Y 3) wr
   have kd:=HD.out 0 (by omega) (W1 0) (HX.out.1.trans ((HBW1.out 0).mono HX.out.1.size))
   have ⟨s0,s1⟩:=box_cells2 (HB1.out 0)
   have HB1:=HB1.out 0
   have HB1:Hid ((W1 0).heap[wr.heap.size]?=some (.cells #[.float .f64 (X 0),.float .f64 (Y 0)] 72 (0,0))):=HB1
   have HBW:Hid (Below W.heap.size W (W1 0)):=HBW1.out 0
   clear HBW1
   generalize W1 0=V at *
   go_upto_region 5 with fail
   rw[←hW1]
   clear hW1
   go_wp2_with fail
   refine kd.mono ?_
   rintro r w2 ⟨n,rfl,hl,hb2⟩
   have ko:=sorn_lk hl w2
   have hm:=fun ts t=>run_fmin (P:=Tryz.prog) w2 ts t _ _ (HLo.out 0).1 (onF_ok (HDE.out.1 0)).1 (HLo.out 0).2 (onF_ok (HDE.out.1 0)).2
   rw[←(HL1.out 0).1] at hm
   obtain⟨t0,t1⟩:=box_cells2 (box_later HB1.out hb2 (lt_of_box HB1.out))
   have HB3:Hid (Bw W w2):=HBW.out.trans (hb2.mono HBW.out.size)
   clear hl hb2 kd s0 s1 HBW HB1
   have ku:=HU.out 0 (by omega) w2 (HX.out.1.trans (HB3.out.mono HX.out.1.size))
   generalize onF (D 0)=d0 at *
   go_wp2_with fail
   refine ko.mono ?_
   rintro r w3 ⟨rfl,hw⟩
   replace hw:=hw.symm
   subst hw
   clear ko
   go_wp2_with fail
   refine ku.mono ?_
   rintro r w3 ⟨n2,rfl,hl,hb2⟩
   have ko:=sorn_lk hl w3
   clear hm
   have hm:=fun ts t=>run_fmax (P:=Tryz.prog) w3 ts t _ _ (HHi.out 0).1 (onF_ok (HDE.out.2 0)).1 (HHi.out 0).2 (onF_ok (HDE.out.2 0)).2
   rw[←(HL1.out 0).2] at hm
   have HB4:Hid (Bw W w3):=HB3.out.trans (hb2.mono HB3.out.size)
   clear hl hb2 ku t0 t1 HB3
   generalize onF (E 0)=e0 at *
   go_wp2_with fail
   refine ko.mono ?_
   rintro r w4 ⟨rfl,hw⟩
   replace hw:=hw.symm
   subst hw
   clear ko
   go_wp2_with fail
   exact⟨⟨0+1,by omega,rfl,rfl,rfl,HB4⟩,by simp[intOf]⟩
  ·have hW1:W1 1=wr.alloc (.cells #[.float .f64 (X 1),.float .f64 (Y 1)] 72):=by rw[hW1]
   have hp:=run_pairs1 (X 0) (Y 0) (X 1) (Y 1) (X 2) (Y 2) (X 3) (Y 3) wr
   have kd:=HD.out 1 (by omega) (W1 1) (HX.out.1.trans ((HBW1.out 1).mono HX.out.1.size))
   have ⟨s0,s1⟩:=box_cells2 (HB1.out 1)
   have HB1:=HB1.out 1
   have HB1:Hid ((W1 1).heap[wr.heap.size]?=some (.cells #[.float .f64 (X 1),.float .f64 (Y 1)] 72 (0,0))):=HB1
   have HBW:Hid (Below W.heap.size W (W1 1)):=HBW1.out 1
   clear HBW1
   generalize W1 1=V at *
   go_upto_region 5 with fail
   rw[←hW1]
   clear hW1
   go_wp2_with fail
   refine kd.mono ?_
   rintro r w2 ⟨n,rfl,hl,hb2⟩
   have ko:=sorn_lk hl w2
   have hm:=fun ts t=>run_fmin (P:=Tryz.prog) w2 ts t _ _ (HLo.out 1).1 (onF_ok (HDE.out.1 1)).1 (HLo.out 1).2 (onF_ok (HDE.out.1 1)).2
   rw[←(HL1.out 1).1] at hm
   obtain⟨t0,t1⟩:=box_cells2 (box_later HB1.out hb2 (lt_of_box HB1.out))
   have HB3:Hid (Bw W w2):=HBW.out.trans (hb2.mono HBW.out.size)
   clear hl hb2 kd s0 s1 HBW HB1
   have ku:=HU.out 1 (by omega) w2 (HX.out.1.trans (HB3.out.mono HX.out.1.size))
   generalize onF (D 1)=d0 at *
   go_wp2_with fail
   refine ko.mono ?_
   rintro r w3 ⟨rfl,hw⟩
   replace hw:=hw.symm
   subst hw
   clear ko
   go_wp2_with fail
   refine ku.mono ?_
   rintro r w3 ⟨n2,rfl,hl,hb2⟩
   have ko:=sorn_lk hl w3
   clear hm
   have hm:=fun ts t=>run_fmax (P:=Tryz.prog) w3 ts t _ _ (HHi.out 1).1 (onF_ok (HDE.out.2 1)).1 (HHi.out 1).2 (onF_ok (HDE.out.2 1)).2
   rw[←(HL1.out 1).2] at hm
   have HB4:Hid (Bw W w3):=HB3.out.trans (hb2.mono HB3.out.size)
   clear hl hb2 ku t0 t1 HB3
   generalize onF (E 1)=e0 at *
   go_wp2_with fail
   refine ko.mono ?_
   rintro r w4 ⟨rfl,hw⟩
   replace hw:=hw.symm
   subst hw
   clear ko
   go_wp2_with fail
   exact⟨⟨1+1,by omega,rfl,rfl,rfl,HB4⟩,by simp[intOf]⟩
  ·have hW1:W1 2=wr.alloc (.cells #[.float .f64 (X 2),.float .f64 (Y 2)] 72):=by rw[hW1]
   have hp:=run_pairs2 (X 0) (Y 0) (X 1) (Y 1) (X 2) (Y 2) (X 3) (Y 3) wr
   have kd:=HD.out 2 (by omega) (W1 2) (HX.out.1.trans ((HBW1.out 2).mono HX.out.1.size))
   have ⟨s0,s1⟩:=box_cells2 (HB1.out 2)
   have HB1:=HB1.out 2
   have HB1:Hid ((W1 2).heap[wr.heap.size]?=some (.cells #[.float .f64 (X 2),.float .f64 (Y 2)] 72 (0,0))):=HB1
   have HBW:Hid (Below W.heap.size W (W1 2)):=HBW1.out 2
   clear HBW1
   generalize W1 2=V at *
   go_upto_region 5 with fail
   rw[←hW1]
   clear hW1
   go_wp2_with fail
   refine kd.mono ?_
   rintro r w2 ⟨n,rfl,hl,hb2⟩
   have ko:=sorn_lk hl w2
   have hm:=fun ts t=>run_fmin (P:=Tryz.prog) w2 ts t _ _ (HLo.out 2).1 (onF_ok (HDE.out.1 2)).1 (HLo.out 2).2 (onF_ok (HDE.out.1 2)).2
   rw[←(HL1.out 2).1] at hm
   obtain⟨t0,t1⟩:=box_cells2 (box_later HB1.out hb2 (lt_of_box HB1.out))
   have HB3:Hid (Bw W w2):=HBW.out.trans (hb2.mono HBW.out.size)
   clear hl hb2 kd s0 s1 HBW HB1
   have ku:=HU.out 2 (by omega) w2 (HX.out.1.trans (HB3.out.mono HX.out.1.size))
   generalize onF (D 2)=d0 at *
   go_wp2_with fail
   refine ko.mono ?_
   rintro r w3 ⟨rfl,hw⟩
   replace hw:=hw.symm
   subst hw
   clear ko
   go_wp2_with fail
   refine ku.mono ?_
   rintro r w3 ⟨n2,rfl,hl,hb2⟩
   have ko:=sorn_lk hl w3
   clear hm
   have hm:=fun ts t=>run_fmax (P:=Tryz.prog) w3 ts t _ _ (HHi.out 2).1 (onF_ok (HDE.out.2 2)).1 (HHi.out 2).2 (onF_ok (HDE.out.2 2)).2
   rw[←(HL1.out 2).2] at hm
   have HB4:Hid (Bw W w3):=HB3.out.trans (hb2.mono HB3.out.size)
   clear hl hb2 ku t0 t1 HB3
   generalize onF (E 2)=e0 at *
   go_wp2_with fail
   refine ko.mono ?_
   rintro r w4 ⟨rfl,hw⟩
   replace hw:=hw.symm
   subst hw
   clear ko
   go_wp2_with fail
   exact⟨⟨2+1,by omega,rfl,rfl,rfl,HB4⟩,by simp[intOf]⟩
  ·have hW1:W1 3=wr.alloc (.cells #[.float .f64 (X 3),.float .f64 (Y 3)] 72):=by rw[hW1]
   have hp:=run_pairs3 (X 0) (Y 0) (X 1) (Y 1) (X 2) (Y 2) (X 3) (Y 3) wr
   have kd:=HD.out 3 (by omega) (W1 3) (HX.out.1.trans ((HBW1.out 3).mono HX.out.1.size))
   have ⟨s0,s1⟩:=box_cells2 (HB1.out 3)
   have HB1:=HB1.out 3
   have HB1:Hid ((W1 3).heap[wr.heap.size]?=some (.cells #[.float .f64 (X 3),.float .f64 (Y 3)] 72 (0,0))):=HB1
   have HBW:Hid (Below W.heap.size W (W1 3)):=HBW1.out 3
   clear HBW1
   generalize W1 3=V at *
   go_upto_region 5 with fail
   rw[←hW1]
   clear hW1
   go_wp2_with fail
   refine kd.mono ?_
   rintro r w2 ⟨n,rfl,hl,hb2⟩
   have ko:=sorn_lk hl w2
   have hm:=fun ts t=>run_fmin (P:=Tryz.prog) w2 ts t _ _ (HLo.out 3).1 (onF_ok (HDE.out.1 3)).1 (HLo.out 3).2 (onF_ok (HDE.out.1 3)).2
   rw[←(HL1.out 3).1] at hm
   obtain⟨t0,t1⟩:=box_cells2 (box_later HB1.out hb2 (lt_of_box HB1.out))
   have HB3:Hid (Bw W w2):=HBW.out.trans (hb2.mono HBW.out.size)
   clear hl hb2 kd s0 s1 HBW HB1
   have ku:=HU.out 3 (by omega) w2 (HX.out.1.trans (HB3.out.mono HX.out.1.size))
   generalize onF (D 3)=d0 at *
   go_wp2_with fail
   refine ko.mono ?_
   rintro r w3 ⟨rfl,hw⟩
   replace hw:=hw.symm
   subst hw
   clear ko
   go_wp2_with fail
   refine ku.mono ?_
   rintro r w3 ⟨n2,rfl,hl,hb2⟩
   have ko:=sorn_lk hl w3
   clear hm
   have hm:=fun ts t=>run_fmax (P:=Tryz.prog) w3 ts t _ _ (HHi.out 3).1 (onF_ok (HDE.out.2 3)).1 (HHi.out 3).2 (onF_ok (HDE.out.2 3)).2
   rw[←(HL1.out 3).2] at hm
   have HB4:Hid (Bw W w3):=HB3.out.trans (hb2.mono HB3.out.size)
   clear hl hb2 ku t0 t1 HB3
   generalize onF (E 3)=e0 at *
   go_wp2_with fail
   refine ko.mono ?_
   rintro r w4 ⟨rfl,hw⟩
   replace hw:=hw.symm
   subst hw
   clear ko
   go_wp2_with fail
   exact⟨⟨3+1,by omega,rfl,rfl,rfl,HB4⟩,by simp[intOf]⟩
  ·have kb:=sbetween (Lo 4) (Hi 4) wr (HLo.out 4).1 (HHi.out 4).1
   have HR:Hid (IvB wr (w.heap.size+1) 0 0):=HX.out.2.2.box hB.out
   have HBw:Hid (Bw w wr):=HX.out.1.trans (hB.out.mono HX.out.1.size)
   clear HB1 HBW1 hW1
   go_wp2_with fail
   refine kb.mono ?_
   rintro r w2 ⟨rfl,hb2⟩
   have hR2:IvB w2 (w.heap.size+1) 0 0:=HR.out.box hb2
   obtain⟨y0,y1,y2,y3⟩:=hR2.facts
   have HR:Hid (IvB w2 (w.heap.size+1) 0 0):=hR2
   have HB2:Hid (Bw w w2):=HBw.out.trans (hb2.mono HBw.out.size)
   clear hb2 hR2 kb
   generalize hA:pl (Lo 4)=A at *
   generalize hC:pl (Hi 4)=C at *
   have HAC:Hid (pl (Lo 4)=A∧pl (Hi 4)=C):=⟨hA,hC⟩
   clear hA hC
   go_wp2_with fail
   refine bodyPost_ret (results_cell_row rfl _ _ (w.heap.size+1) 24 #[.float .f64 A,.float .f64 C] (0,0) _ rfl (HR.out.set _ _) Tryz.underlying24 rfl iv_info) rfl ?_
   exact⟨by rw[HlH.out.1,HlH.out.2,HAC.out.1,HAC.out.2],below_store2 HB2.out (by omega) _ _⟩
def pk4 (a b c d:Nat):Nat→Nat
 | 0=>a
 | 1=>b
 | 2=>c
 | _=>d
theorem pk4_lt {a b c d:Nat} (ha:a<18446744073709551616) (hb:b<18446744073709551616) (hc:c<18446744073709551616) (hd:d<18446744073709551616) (i:Nat):pk4 a b c d i<18446744073709551616:=by
 unfold pk4
 split <;> assumption
def mlo (a b c d:Nat):Nat:=pl (lowF (fun i=>onF (fMul (pk4 a a b b i) (pk4 c d c d i) 1)) 4)
def mhi (a b c d:Nat):Nat:=pl (hiF (fun i=>onF (fMul (pk4 a a b b i) (pk4 c d c d i) 3)) 4)
def qlo (a b c d:Nat):Nat:=pl (lowF (fun i=>onF (fDiv (pk4 a a b b i) (pk4 c d c d i) 1)) 4)
def qhi (a b c d:Nat):Nat:=pl (hiF (fun i=>onF (fDiv (pk4 a a b b i) (pk4 c d c d i) 3)) 4)
theorem smul (a b c d:Nat) (ha:a<18446744073709551616) (hb:b<18446744073709551616) (hc:c<18446744073709551616) (hd:d<18446744073709551616) (w:World) (hT:Tab32 w) (hJ:Ie.Tab w) :
  Calls Tryz.prog 32 #[.agg #[.float .f64 a,.float .f64 b],.agg #[.float .f64 c,.float .f64 d]] w fun r w'=>r=.returned (orV (vI a b&&vI c d) (mlo a b c d) (mhi a b c d) (.int .i64 0) (.int .i64 1))∧Bw w w' :=
 smul_1 a b c d _ _ _ w (fun W g T h=>smaybe h ha hb hc hd) (fun _ W hW =>
  sspread_Mul (pk4 a a b b) (pk4 c d c d) (fun i=>fMul (pk4 a a b b i) (pk4 c d c d i) 1) (fun i=>fMul (pk4 a a b b i) (pk4 c d c d i) 3) W (fun i=>fMul_lt) (fun i=>fMul_lt)
   (fun i _ V hV=>pmul_all _ _ 1 (pk4_lt ha ha hb hb i) (pk4_lt hc hd hc hd i) V (hT.later (hW.trans (hV.mono hW.size))) (Tab.later hJ (hW.trans (hV.mono hW.size))))
   (fun i _ V hV=>pmul_all _ _ 3 (pk4_lt ha ha hb hb i) (pk4_lt hc hd hc hd i) V (hT.later (hW.trans (hV.mono hW.size))) (Tab.later hJ (hW.trans (hV.mono hW.size)))))
theorem squo (a b c d:Nat) (ha:a<18446744073709551616) (hb:b<18446744073709551616) (hc:c<18446744073709551616) (hd:d<18446744073709551616) (w:World) (hT:Tab32 w) (hJ:Ie.Tab w) :
  Calls Tryz.prog 35 #[.agg #[.float .f64 a,.float .f64 b],.agg #[.float .f64 c,.float .f64 d]] w fun r w'=>r=.returned (quoV (vI a b&&vI c d) (hI c d 0) (qlo a b c d) (qhi a b c d))∧Bw w w' :=
 squo_1 a b c d _ _ _ _ w (fun W g T h=>smaybe h ha hb hc hd) (fun _ _ W hW =>
  sspread_Div (pk4 a a b b) (pk4 c d c d) (fun i=>fDiv (pk4 a a b b i) (pk4 c d c d i) 1) (fun i=>fDiv (pk4 a a b b i) (pk4 c d c d i) 3) W (fun i=>fDiv_lt) (fun i=>fDiv_lt)
   (fun i _ V hV=>pdiv_all _ _ 1 (pk4_lt ha ha hb hb i) (pk4_lt hc hd hc hd i) V (hT.later (hW.trans (hV.mono hW.size))) (Tab.later hJ (hW.trans (hV.mono hW.size))))
   (fun i _ V hV=>pdiv_all _ _ 3 (pk4_lt ha ha hb hb i) (pk4_lt hc hd hc hd i) V (hT.later (hW.trans (hV.mono hW.size))) (Tab.later hJ (hW.trans (hV.mono hW.size)))))
  (fun _ W=>shas c d 0 hc hd (by omega) W)
theorem mul_at:mlo 13830554455654793216 4611686018427387904 4613937818241073152 9218868437227405312=18442240474082181120∧mhi 13830554455654793216 4611686018427387904 4613937818241073152 9218868437227405312=9218868437227405312∧(vI 13830554455654793216 4611686018427387904&&vI 4613937818241073152 9218868437227405312)=true:=by decide +kernel
theorem quo_at:qlo 4607182418800017408 4607182418800017408 4613937818241073152 4613937818241073152=4599676419421066581∧qhi 4607182418800017408 4607182418800017408 4613937818241073152 4613937818241073152=4599676419421066582∧(vI 4607182418800017408 4607182418800017408&&vI 4613937818241073152 4613937818241073152)=true∧hI 4613937818241073152 4613937818241073152 0=false:=by decide +kernel
theorem quo_at2:(vI 4607182418800017408 4607182418800017408&&vI 13830554455654793216 4607182418800017408)=true∧hI 13830554455654793216 4607182418800017408 0=true:=by decide +kernel
theorem has_at:hI 4607182418800017408 4611686018427387904 4609434218613702656=true∧hI 4607182418800017408 4611686018427387904 4613937818241073152=false:=by decide +kernel
attribute [local go_sem] run_store_flt
def OutN8 (W:World) (t:Bool×Nat×Int) (r:Ending) (w':World):Prop:=∃ s ao n cap e,r=.returned (.tuple #[.agg #[.bool s,.slice ao n cap,.int .i64 e],.int .i64 0])∧PN w' (.agg #[.bool s,.slice ao n cap,.int .i64 e]) t∧Bw W w'
def tSh (t:Bool×Nat×Int) (k:Int):Bool×Nat×Int:=if t.2.1=0 then(false,0,0) else(t.1,t.2.1,t.2.2+k)
theorem pshift {t:Bool×Nat×Int} {A:Value} {k0:Int} {w:World} (ok:Ok t) (h:PN w A t) (hk1:¬ k0 < -65536 - t.2.2) (hk2:¬ 65536 - t.2.2<k0) :
  Calls Tryz.prog 63 #[A,.int .i64 k0] w fun r w'=>OutN8 w (tSh t k0) r w':=by
 obtain⟨pa,pc,rfl,i1⟩:=h
 obtain⟨f1,f2,f3,f4,f5⟩:=ok.facts
 have km:∀ W g,Bw w W→W.heap[g]?=some (.cells #[.bool t.1,.slice pa (dlen t.2.1) pc,.int .i64 t.2.2] 80 (0,0))→Calls Tryz.prog 97 #[.slice (some ⟨g,0,none⟩) 1 1] W fun r w'=>r=.returned (.bool true)∧Bw W w':=fun W g hW hg=>by
  have:=maybe1 hg (i1.later hW) (by omega)
  rw[show okN t.1 (dlen t.2.1) t.2.1 t.2.2=true from ok] at this
  exact this
 unfold tSh
 by_cases h0:t.2.1=0
 ·rw[if_pos h0]
  have hd:dlen t.2.1=0:=by rw[h0,dlen_zero]
  rw[hd] at km ⊢
  refine(shift_1 t.1 pa pc t.2.2 k0 w km).mono ?_
  rintro r w' ⟨rfl,hb⟩
  exact⟨_,_,_,_,_,rfl,⟨none,0,by rw[dlen_zero],by rw[dlen_zero];exact is_nil _⟩,hb⟩
 ·rw[if_neg h0]
  refine(shift_3 t.1 pa (dlen t.2.1) pc t.2.2 k0 w t.2.1 i1 (by omega) (by omega) (by have:=dlen_pos h0;simp;omega) (by omega) (by omega) hk1 hk2 km).mono ?_
  rintro r w' ⟨v,rfl,ho,hb⟩
  obtain⟨ao,cap,rfl,h1,h2,h3⟩:=ho.is
  exact⟨_,_,_,_,_,rfl,⟨ao,cap,rfl,ao,cap,rfl,h1,h2,h3⟩,hb⟩
theorem shalf_1 (a b F:Nat) (t1 t2 t3 t4:Bool×Nat×Int) (w:World)
  (k1:∀ W,Bw w W→Calls Tryz.prog 61 #[.float .f64 a] W fun r w'=>OutN8 W t1 r w')
  (k2:∀ W,Bw w W→Calls Tryz.prog 61 #[.float .f64 b] W fun r w'=>OutN8 W t2 r w')
  (k3:∀ W X Y,Bw w W→PN W X t1→PN W Y t2→Calls Tryz.prog 62 #[X,Y] W fun r w'=>OutN8 W t3 r w')
  (k4:∀ W X,Bw w W→PN W X t3→Calls Tryz.prog 63 #[X,.int .i64 (-1)] W fun r w'=>OutN8 W t4 r w')
  (k5:∀ W X,Bw w W→PN W X t4→Calls Tryz.prog 64 #[X,.int .i64 2] W fun r w'=>r=.returned (.tuple #[.float .f64 F,.int .i64 0])∧Bw W w') :
  Calls Tryz.prog 39 #[.float .f64 a,.float .f64 b] w fun r w'=>r=.returned (.float .f64 F)∧Bw w w':=by
 have H2:Hid _:=k2
 have H3:Hid _:=k3
 have H4:Hid _:=k4
 have H5:Hid _:=k5
 have kk:=k1 w (Below.refl _ _)
 clear k1 k2 k3 k4 k5
 go_enter Tryz.func39,Tryz.ntmps39
 go_wp2_with fail
 refine kk.mono ?_
 rintro r w1 ⟨s1,ao1,n1,cap1,e1,rfl,hP1,hb1⟩
 clear kk
 obtain⟨W1,hW1⟩:∃ W1,W1=w1.alloc (.cells #[.bool s1,.slice ao1 n1 cap1,.int .i64 e1] 80):=⟨_,rfl⟩
 have hbW1:Bw w W1:=by rw[hW1];exact hb1.alloc hb1.size _
 have HP1:Hid (PN W1 (.agg #[.bool s1,.slice ao1 n1 cap1,.int .i64 e1]) t1):=by rw[hW1];exact hP1.later ((Below.refl _ _).alloc (Nat.le_refl _) _)
 have HH1:Hid (W1.heap[w1.heap.size]?=some (.cells #[.bool s1,.slice ao1 n1 cap1,.int .i64 e1] 80 (0,0))):=by rw[hW1];exact heap_alloc_new _ _
 have HB1:Hid (Bw w W1):=hbW1
 have kk:=H2.out W1 hbW1
 clear hP1 hb1 hbW1 H2
 go_wp2_with fail
 rw[←hW1]
 clear hW1
 generalize w1.heap.size=g1 at *
 refine kk.mono ?_
 rintro r w2 ⟨s2,ao2,n2,cap2,e2,rfl,hP2,hb2⟩
 clear kk
 obtain⟨W2,hW2⟩:∃ W2,W2=w2.alloc (.cells #[.bool s2,.slice ao2 n2 cap2,.int .i64 e2] 80):=⟨_,rfl⟩
 have hbW2:Bw W1 W2:=by rw[hW2];exact hb2.alloc hb2.size _
 have HP2:Hid (PN W2 (.agg #[.bool s2,.slice ao2 n2 cap2,.int .i64 e2]) t2):=by rw[hW2];exact hP2.later ((Below.refl _ _).alloc (Nat.le_refl _) _)
 have HH2:Hid (W2.heap[w2.heap.size]?=some (.cells #[.bool s2,.slice ao2 n2 cap2,.int .i64 e2] 80 (0,0))):=by rw[hW2];exact heap_alloc_new _ _
 have HB2:Hid (Bw w W2):=HB1.out.trans (hbW2.mono HB1.out.size)
 obtain⟨⟨a0,a1,a2⟩,-⟩:=box_cells (box_later HH1.out hbW2 (lt_of_box HH1.out))
 obtain⟨⟨b0,b1,b2⟩,-⟩:=box_cells HH2.out
 rw[hW2] at a0 a1 a2 b0 b1 b2
 have kk:=H3.out W2 _ _ HB2.out (HP1.out.later hbW2) HP2.out
 clear hP2 hb2 hbW2 H3 HB1 HP1 HH1
 go_wp2_with fail
 rw[←hW2]
 clear hW2 a0 a1 a2 b0 b1 b2
 generalize w2.heap.size=g2 at *
 refine kk.mono ?_
 rintro r w3 ⟨s3,ao3,n3,cap3,e3,rfl,hP3,hb3⟩
 clear kk
 obtain⟨W3,hW3⟩:∃ W3,W3=w3.alloc (.cells #[.bool s3,.slice ao3 n3 cap3,.int .i64 e3] 80):=⟨_,rfl⟩
 have hbW3:Bw W2 W3:=by rw[hW3];exact hb3.alloc hb3.size _
 have HP3:Hid (PN W3 (.agg #[.bool s3,.slice ao3 n3 cap3,.int .i64 e3]) t3):=by rw[hW3];exact hP3.later ((Below.refl _ _).alloc (Nat.le_refl _) _)
 have HH3:Hid (W3.heap[w3.heap.size]?=some (.cells #[.bool s3,.slice ao3 n3 cap3,.int .i64 e3] 80 (0,0))):=by rw[hW3];exact heap_alloc_new _ _
 have HB3:Hid (Bw w W3):=HB2.out.trans (hbW3.mono HB2.out.size)
 obtain⟨⟨b0,b1,b2⟩,-⟩:=box_cells HH3.out
 rw[hW3] at b0 b1 b2
 have kk:=H4.out W3 _ HB3.out HP3.out
 clear hP3 hb3 hbW3 H4 HB2 HP2 HH2
 go_wp2_with fail
 rw[←hW3]
 clear hW3 b0 b1 b2
 generalize w3.heap.size=g3 at *
 refine kk.mono ?_
 rintro r w4 ⟨s4,ao4,n4,cap4,e4,rfl,hP4,hb4⟩
 clear kk
 obtain⟨W4,hW4⟩:∃ W4,W4=w4.alloc (.cells #[.bool s4,.slice ao4 n4 cap4,.int .i64 e4] 80):=⟨_,rfl⟩
 have hbW4:Bw W3 W4:=by rw[hW4];exact hb4.alloc hb4.size _
 have HP4:Hid (PN W4 (.agg #[.bool s4,.slice ao4 n4 cap4,.int .i64 e4]) t4):=by rw[hW4];exact hP4.later ((Below.refl _ _).alloc (Nat.le_refl _) _)
 have HH4:Hid (W4.heap[w4.heap.size]?=some (.cells #[.bool s4,.slice ao4 n4 cap4,.int .i64 e4] 80 (0,0))):=by rw[hW4];exact heap_alloc_new _ _
 have HB4:Hid (Bw w W4):=HB3.out.trans (hbW4.mono HB3.out.size)
 obtain⟨⟨b0,b1,b2⟩,-⟩:=box_cells HH4.out
 rw[hW4] at b0 b1 b2
 have kk:=H5.out W4 _ HB4.out HP4.out
 clear hP4 hb4 hbW4 H5 HB3 HP3 HH3
 go_wp2_with fail
 rw[←hW4]
 clear hW4 b0 b1 b2
 generalize w4.heap.size=g4 at *
 refine kk.mono ?_
 rintro r w5 ⟨rfl,hb5⟩
 have HB5:Hid (Bw w w5):=HB4.out.trans (hb5.mono HB4.out.size)
 clear kk hb5 HB4 HP4 HH4
 go_wp2_with fail
 go_ret
 exact⟨rfl,HB5.out⟩
def hfS (a b:Nat):Nat:=tfF (tSh (tS (tF a) (tF b)) (-1)).1 true (tSh (tS (tF a) (tF b)) (-1)).2.1 (tSh (tS (tF a) (tF b)) (-1)).2.2 2
theorem tSh_ok {t:Bool×Nat×Int} {k:Int} (ok:Ok t) (h:t.2.1≠0 → -65536≤t.2.2+k∧t.2.2+k≤65536):Ok (tSh t k):=by
 unfold tSh
 by_cases h0:t.2.1=0
 ·rw[if_pos h0];unfold Ok;rw[dlen_zero];rfl
 ·rw[if_neg h0]
  obtain⟨h1,h2⟩:=h h0
  unfold Ok okN at ok ⊢
  have hd:dlen t.2.1≠0:=by rw[dlen_pos h0];omega
  rw[if_neg hd] at ok
  rw[if_neg hd]
  simp only[Bool.and_eq_true,decide_eq_true_eq] at ok ⊢
  exact⟨⟨ok.1.1,h1⟩,h2⟩
theorem ofN (a:Nat) (ha:a<18446744073709551616) (hf:mag a<9218868437227405312) (w:World) (hT:Tab32 w) (hJ:Ie.Tab w):Calls Tryz.prog 61 #[.float .f64 a] w fun r w'=>OutN8 w (tF a) r w':=by
 obtain⟨m,hm,hml⟩:=sM_lt a ha
 refine(of_fin a m ha w hT hJ hf hm).mono ?_
 rintro r w' ⟨A,rfl,hN,hb⟩
 have hp:=hN.pn
 rw[cn_parts a m ha hf hm] at hp
 obtain⟨s,ao,n,cap,e,rfl⟩:=hp.shape
 exact⟨s,ao,n,cap,e,rfl,hp,hb⟩
theorem hfS_facts (a b:Nat):Ok (tS (tF a) (tF b))∧Ok (tSh (tS (tF a) (tF b)) (-1))∧¬ (-1:Int) < -65536 - (tS (tF a) (tF b)).2.2∧¬ 65536 - (tS (tF a) (tF b)).2.2 < -1:=by
 have hfs:=tS_fits (tF_fits a) (tF_fits b)
 have hok:Ok (tS (tF a) (tF b)):=ok_cn (tS_okR (tF_fits a) (tF_fits b) (by omega) (by omega) (by omega))
 obtain⟨f1,f2,f3,f4,f5⟩:=hok.facts
 by_cases h0:(tS (tF a) (tF b)).2.1=0
 ·have e:=f4 h0
  refine⟨hok,tSh_ok hok (fun h=>absurd h0 h),?_,?_⟩ <;> rw[e] <;> decide
 ·rcases hfs with h|⟨h1,h2,-⟩
  ·exact absurd h h0
  ·exact⟨hok,tSh_ok hok (fun _=>⟨by omega,by omega⟩),by omega,by omega⟩
theorem shalf (a b:Nat) (ha:a<18446744073709551616) (hb:b<18446744073709551616) (hfa:mag a<9218868437227405312) (hfb:mag b<9218868437227405312) (w:World) (hT:Tab32 w) (hJ:Ie.Tab w) :
  Calls Tryz.prog 39 #[.float .f64 a,.float .f64 b] w fun r w'=>r=.returned (.float .f64 (hfS a b))∧Bw w w':=by
 obtain⟨o1,o2,o3,o4⟩:=hfS_facts a b
 have hokR:=tS_okR (tF_fits a) (tF_fits b) (by omega) (by omega) (by omega)
 exact shalf_1 a b _ (tF a) (tF b) (tS (tF a) (tF b)) (tSh (tS (tF a) (tF b)) (-1)) w (fun W h=>ofN a ha hfa W (hT.later h) (Tab.later hJ h)) (fun W h=>ofN b hb hfb W (hT.later h) (Tab.later hJ h))
  (fun W X Y h h1 h2=>add_op (tF_ok a) (tF_ok b) hokR W X Y (hT.later h) h1 h2) (fun W X h h1=>pshift o1 h1 o3 o4) (fun W X h h1=>pround (hT.later h) o2 h1 (by omega))
theorem hfS_lt (a b:Nat):hfS a b<18446744073709551616:=tfF_lt (by omega)
def fAdM (a b:Nat) (m:Int):Nat:=if fin a=false∨fin b=false then addX a b else if(tS (tF a) (tF b)).2.1=0 then sig (z0 (neg a) (neg b) m) 0 else tfF (tS (tF a) (tF b)).1 true (tS (tF a) (tF b)).2.1 (tS (tF a) (tF b)).2.2 m
theorem faddM_p (a b:Nat) (m:Int) (hm':1≤m∧m≤3) (ha:a<18446744073709551616) (hb:b<18446744073709551616) :
  fAdM a b m<18446744073709551616∧((isNaN a=true∨isNaN b=true)→fAdM a b m=9221120237041090560) ∧
   (∀ W,Tab32 W→Ie.Tab W→Calls Tryz.prog 54 #[.float .f64 a,.float .f64 b,.int .i64 m] W fun r w'=>OutF2 W (fAdM a b m) r w'):=by
 have hm:isM m=true:=by unfold isM;rcases(show m=1∨m=2∨m=3 by omega)with rfl|rfl|rfl <;> rfl
 by_cases hf:fin a=false∨fin b=false
 ·have e:fAdM a b m=addX a b:=if_pos hf
  rw[e]
  refine⟨addX_lt ha hb,fun h=>?_,fun W _ _=>?_⟩
  ·unfold addX
   rcases h with h|h
   ·rw[h,Bool.true_or,if_pos rfl]
   ·rw[h,Bool.or_true,if_pos rfl]
  ·have hrun:(∀ W,(binOp .add 22 (.float .f64 a) (.float .f64 b)).run Tryz.prog W=.ok (.float .f64 (addX a b)) W)∨∀ W,∃ n,lk n (addX a b)∧(binOp .add 22 (.float .f64 a) (.float .f64 b)).run Tryz.prog W=.ok (.float .f64 n) W.drew:=by
    rcases add_non ha hb hf with ⟨h1,h2⟩|h1
    ·refine .inr fun W=>?_
     obtain⟨n,n1,n2,hs⟩:=run_nan (P:=Tryz.prog) W .add 22 a b (by simp) h1
     exact⟨n,lk.nan n1 n2 h2,hs⟩
    ·exact .inl fun W=>run_float_arith W .add 22 .f64 a b _ h1
   by_cases hfa:mag a<9218868437227405312
   ·have hfb:¬ mag b<9218868437227405312:=by
     rcases hf with h|h
     ·exact absurd hfa (fin_false.1 h)
     ·exact fin_false.1 h
    exact padd_b a b (addX a b) m W hm (pfin_y a ha hfa) (pfin_n b hb hfb) hrun (addX_lt ha hb)
   ·exact padd_a a b (addX a b) m W hm (pfin_n a ha hfa) hrun (addX_lt ha hb)
 ·have hfa:mag a<9218868437227405312:=Nat.lt_of_not_le fun h=>hf (.inl (fin_false.2 (by omega)))
  have hfb:mag b<9218868437227405312:=Nat.lt_of_not_le fun h=>hf (.inr (fin_false.2 (by omega)))
  have hfs:=tS_fits (tF_fits a) (tF_fits b)
  have hokR:=tS_okR (tF_fits a) (tF_fits b) (by omega) (by omega) (by omega)
  have hok:Ok (tS (tF a) (tF b)):=ok_cn hokR
  obtain⟨f1,f2,f3,f4,f5⟩:=hok.facts
  have hadd:=add_op (tF_ok a) (tF_ok b) hokR
  have e:fAdM a b m=if(tS (tF a) (tF b)).2.1=0 then sig (z0 (neg a) (neg b) m) 0 else tfF (tS (tF a) (tF b)).1 true (tS (tF a) (tF b)).2.1 (tS (tF a) (tF b)).2.2 m:=if_neg hf
  rw[e]
  refine⟨?_,fun h=>(by unfold isNaN at h;simp only[decide_eq_true_eq] at h;rcases h with h|h;omega;omega),fun W hT hI=>?_⟩
  ·split
   ·exact sig_lt (by omega)
   ·exact tfF_lt hm'
  ·by_cases h0:(tS (tF a) (tF b)).2.1=0
   ·rw[if_pos h0]
    refine(padd_z a b _ m _ (tF a) (tF b) (tS (tF a) (tF b)) W hm ha hb (pfin_y a ha hfa) (pfin_y b hb hfb) (exact_ok a ha hfa W hT hI) (fun W' h=>exact_ok b hb hfb W' (hT.later h) (Tab.later hI h)) (fun W' X Y h h1 h2=>added_op hadd (hT.later h) h1 h2) (fun W' X h=>psign hok h) (by rw[sgI_nought,decide_eq_true h0]) (fun W'=>pnought _ _ m hm' W')).mono ?_
    rintro r w' ⟨rfl,hb'⟩
    exact⟨_,rfl,lk.refl (sig_lt (by omega)),hb'⟩
   ·rw[if_neg h0]
    refine(padd_r a b _ m _ (tF a) (tF b) (tS (tF a) (tF b)) W hm ha hb (pfin_y a ha hfa) (pfin_y b hb hfb) (exact_ok a ha hfa W hT hI) (fun W' h=>exact_ok b hb hfb W' (hT.later h) (Tab.later hI h)) (fun W' X Y h h1 h2=>added_op hadd (hT.later h) h1 h2) (fun W' X h=>psign hok h) (by rw[sgI_nought,decide_eq_false h0]) (fun W' X h h1=>prounded (hT.later h) hok h1 hm')).mono ?_
    rintro r w' ⟨rfl,hb'⟩
    exact⟨_,rfl,lk.refl (tfF_lt hm'),hb'⟩
theorem faddM (a b:Nat) (m:Int) (hm:1≤m∧m≤3) (ha:a<18446744073709551616) (hb:b<18446744073709551616) (W:World) (hT:Tab32 W) (hJ:Ie.Tab W):Calls Tryz.prog 54 #[.float .f64 a,.float .f64 b,.int .i64 m] W fun r w'=>OutF2 W (fAdM a b m) r w':=(faddM_p a b m hm ha hb).2.2 W hT hJ
theorem fsubM (a b:Nat) (m:Int) (hm:1≤m∧m≤3) (ha:a<18446744073709551616) (hb:b<18446744073709551616) (W:World) (hT:Tab32 W) (hJ:Ie.Tab W):Calls Tryz.prog 43 #[.float .f64 a,.float .f64 b,.int .i64 m] W fun r w'=>OutF2 W (fAdM a (ngt b) m) r w':=psub_1 a b _ m W hb (faddM a (ngt b) m hm ha (ngt_lt hb) W hT hJ)
end Go.Proofs.YtjiolfnchiioaaaGreatDoor
