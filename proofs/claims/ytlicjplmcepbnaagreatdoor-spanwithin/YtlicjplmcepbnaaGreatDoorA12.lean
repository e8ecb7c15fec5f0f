/- Own work: contracts of the program's functions, part 12: SNF SNG SNI SNJ SNL SNQ SNR SNN SNS SNK SNT SNU SNV SNW SNX SNY SNZ SO1 SO2 SO3 SO4 SO5 SO6 SO7 SO8. -/
import Derived.Test.YtlicjplmcepbnaaGreatDoorA11
import Derived.Laws.StructEq
import Derived.Test.YtlicjplmcepbnaaGreatDoorA7
import Derived.Test.YtlicjplmcepbnaaGreatDoorA8
import Derived.Test.YtlicjplmcepbnaaGreatDoorA9
import Derived.Test.YtlicjplmcepbnaaGreatDoorA10
import Derived.Test.YtlicjplmcepbnaaGreatDoorA6

/- Mid and Rad. -/
namespace Go.Proofs.YtlicjplmcepbnaaGreatDoor
set_option linter.unusedVariables false
set_option linter.unusedSimpArgs false
open Go.RowKit Go.Fl64
attribute [local go_sem] run_store_flt

theorem flt_under : Tryz.prog.underlying 22 = some (.float .f64) := by kernel_rfl
theorem run_equalIn_flt (k x y : Nat) (w : World) : (Op.equalIn (k + 1) 22 (.float .f64 x) (.float .f64 y)).run Tryz.prog w = .ok (FloatKind.f64.format.order x y == some Ordering.eq) w := by
  simp [Op.equalIn, run_underlying flt_under, Op.floatEq]
theorem eqIv (a b c d : Nat) (w : World) : (Op.equalIn 10000 24 (.agg #[.float .f64 a, .float .f64 b]) (.agg #[.float .f64 c, .float .f64 d])).run Tryz.prog w = .ok ((FloatKind.f64.format.order a c == some Ordering.eq) && (FloatKind.f64.format.order b d == some Ordering.eq)) w := by
  have hS : Tryz.prog.underlying 24 = some (.struct (Tryz.prog.fieldsOf 24)) := by kernel_rfl
  have hp : Tryz.prog.stoodInHeld 24 = false := by kernel_rfl
  have h1 := fun k => run_equalIn_flt k a c w
  have h2 := fun k => run_equalIn_flt k b d w
  rw [show (10000 : Nat) = 9999 + 1 from rfl, run_equalIn_agg w 9999 24 _ _ hS hp]
  simp only [Program.fieldsOf, Tryz.underlying24]
  rw [show (9999 : Nat) = 9998 + 1 from rfl]
  generalize (FloatKind.f64.format.order a c == some Ordering.eq) = p at *
  generalize (FloatKind.f64.format.order b d == some Ordering.eq) = q at *
  go_simp
  cases p <;> cases q <;> simp
/-- the middle, or an error -/
def midV (v q i j : Bool) (H : Nat) : Value := if v then (if q then .tuple #[.float .f64 0, .int .i64 0] else if i then .tuple #[.float .f64 18442240474082181119, .int .i64 0] else if j then .tuple #[.float .f64 9218868437227405311, .int .i64 0] else .tuple #[.float .f64 H, .int .i64 0]) else .tuple #[.float .f64 0, .int .i64 1]
set_option maxHeartbeats 4000000 in
set_option maxRecDepth 200000 in
theorem smid_1 (lo hi H : Nat) (v q i j : Bool) (w : World)
    (k1 : ∀ W, Calls Tryz.prog 24 #[.agg #[.float .f64 lo, .float .f64 hi]] W fun r w' => r = .returned (.bool v) ∧ Below W.heap.size W w')
    (he : ∀ W, (Op.equalIn 10000 24 (.agg #[.float .f64 lo, .float .f64 hi]) (.agg #[.float .f64 18442240474082181120, .float .f64 9218868437227405312])).run Tryz.prog W = .ok q W)
    (k3 : ∀ W, Calls Tryz.prog 35 #[.float .f64 lo, .int .i64 0] W fun r w' => r = .returned (.bool i) ∧ w' = W)
    (k4 : ∀ W, Calls Tryz.prog 35 #[.float .f64 hi, .int .i64 0] W fun r w' => r = .returned (.bool j) ∧ w' = W)
    (k5 : v = true → i = false → j = false → ∀ W, Below w.heap.size w W → Calls Tryz.prog 55 #[.float .f64 lo, .float .f64 hi] W fun r w' => r = .returned (.float .f64 H) ∧ Below W.heap.size W w') :
    Calls Tryz.prog 32 #[.agg #[.float .f64 lo, .float .f64 hi]] w fun r w' => r = .returned (midV v q i j H) ∧ Below w.heap.size w w' := by
  have HE : Hid (∀ W, (Op.equalIn 10000 24 (.agg #[.float .f64 lo, .float .f64 hi]) (.agg #[.float .f64 18442240474082181120, .float .f64 9218868437227405312])).run Tryz.prog W = .ok q W) := he
  have H3 : Hid (∀ W, Calls Tryz.prog 35 #[.float .f64 lo, .int .i64 0] W fun r w' => r = .returned (.bool i) ∧ w' = W) := k3
  have H4 : Hid (∀ W, Calls Tryz.prog 35 #[.float .f64 hi, .int .i64 0] W fun r w' => r = .returned (.bool j) ∧ w' = W) := k4
  have H5 : Hid (v = true → i = false → j = false → ∀ W, Below w.heap.size w W → Calls Tryz.prog 55 #[.float .f64 lo, .float .f64 hi] W fun r w' => r = .returned (.float .f64 H) ∧ Below W.heap.size W w') := k5
  obtain ⟨W, hW⟩ : ∃ W, W = (w.alloc (.cells #[.float .f64 lo, .float .f64 hi] 24)) := ⟨_, rfl⟩
  have HX : Hid (Below w.heap.size w W ∧ IvB W (w.heap.size) lo hi) := by
    rw [hW]
    exact ⟨bxs1_0 w lo hi, bxs1_1 w lo hi⟩
  have HK : Hid (∀ w', Below W.heap.size W w' → IvF w' (w.heap.size) lo hi) := fun w' hb => (HX.out.2).later hb
  obtain ⟨c0, c1, z0, z1⟩ := HK.out W (Below.refl _ _)
  have kk := k1 W
  have HV : Hid (Below w.heap.size w W) := HX.out.1
  clear k1 k3 k4 k5 he
  go_enter Tryz.func32, Tryz.ntmps32
  go_upto_region 1 with fail
  rw [← hW]
  clear hW
  go_wp2_with fail
  refine kk.mono ?_
  rintro r w1 ⟨rfl, hb1⟩
  clear kk c0 c1 z0 z1
  obtain ⟨c0, c1, z0, z1⟩ := HK.out w1 hb1
  have HB1 : Hid (Below W.heap.size W w1) := hb1
  clear hb1
  cases v
  · have HB : Hid (Below w.heap.size w w1) := HV.out.trans (HB1.out.mono HV.out.size)
    clear HK HX HB1 H3 H4 H5 HE
    go_wp2
    go_ret2
    exact ⟨rfl, HB.out⟩
  have he := HE.out
  have hR : Below W.heap.size W w1.drew := HB1.out.drew
  obtain ⟨d0, d1, y0, y1⟩ := HK.out w1.drew hR
  go_upto_region 3 with fail
  go_region_held3 (fun w' => w'.cell? ⟨w.heap.size, 0, none⟩ = some (.float .f64 lo) ∧ w'.cell? ⟨w.heap.size, 1, none⟩ = some (.float .f64 hi)) (first | (with_reducible assumption) | exact ⟨d0, d1⟩ | exact ⟨c0, c1⟩ | exact ⟨(HK.out _ hb2).1, (HK.out _ hb2).2.1⟩ | exact ⟨(HK.out _ hb2.drew).1, (HK.out _ hb2.drew).2.1⟩ | go_keep)
    (first | (go_at_call 18; refine (sall _).mono ?_; rintro r w2 ⟨rfl, hb2⟩; replace hb2 := hR.trans (hb2.mono hR.size)))
  obtain ⟨u0, u1, u2, u3⟩ := HK.out w2 hb2
  have HB2 : Hid (Below w.heap.size w w2) := HV.out.trans (hb2.mono HV.out.size)
  have k3 := H3.out
  have k4 := H4.out
  clear c0 c1 z0 z1 d0 d1 y0 y1 hR HB1 HK HX HE H3 H4 HV hb2 he
  cases q
  case true =>
    go_wp2
    go_ret2
    exact ⟨rfl, HB2.out⟩
  cases i
  case true =>
    go_wp2_with (first | (go_at_call 35; refine (k3 _).mono ?_; rintro r w' ⟨rfl, hw⟩; replace hw := hw.symm; subst hw))
    go_ret2
    exact ⟨rfl, HB2.out⟩
  cases j
  case true =>
    go_wp2_with (first | (go_at_call 35; first | (with_reducible refine (k3 _).mono ?_; rintro r w' ⟨rfl, hw⟩; replace hw := hw.symm; subst hw) | (with_reducible refine (k4 _).mono ?_; rintro r w' ⟨rfl, hw⟩; replace hw := hw.symm; subst hw)))
    go_ret2
    exact ⟨rfl, HB2.out⟩
  have kk := H5.out (by simp) (by simp) (by simp) w2 HB2.out
  go_wp2_with (first | (go_at_call 35; first | (with_reducible refine (k3 _).mono ?_; rintro r w' ⟨rfl, hw⟩; replace hw := hw.symm; subst hw) | (with_reducible refine (k4 _).mono ?_; rintro r w' ⟨rfl, hw⟩; replace hw := hw.symm; subst hw)))
  refine kk.mono ?_
  rintro r w3 ⟨rfl, hb3⟩
  have HB3 : Hid (Below w.heap.size w w3) := HB2.out.trans (hb3.mono HB2.out.size)
  clear kk hb3
  go_wp2_with fail
  go_ret2
  exact ⟨rfl, HB3.out⟩
/-- the radius, or an error -/
def radV (e : Int) (R : Nat) : Value := if e = 0 then .tuple #[.float .f64 R, .int .i64 0] else .tuple #[.float .f64 0, .int .i64 e]
set_option maxHeartbeats 4000000 in
set_option maxRecDepth 200000 in
theorem srad_1 (lo hi M P Q R : Nat) (e : Int) (w : World)
    (k1 : ∀ W, Below w.heap.size w W → Calls Tryz.prog 32 #[.agg #[.float .f64 lo, .float .f64 hi]] W fun r w' => r = .returned (.tuple #[.float .f64 M, .int .i64 e]) ∧ Below W.heap.size W w')
    (k2 : e = 0 → ∀ W, Below w.heap.size w W → Calls Tryz.prog 33 #[.float .f64 M, .float .f64 lo, .int .i64 3] W fun r w' => r = .returned (.float .f64 P) ∧ Below W.heap.size W w')
    (k3 : e = 0 → ∀ W, Below w.heap.size w W → Calls Tryz.prog 33 #[.float .f64 hi, .float .f64 M, .int .i64 3] W fun r w' => r = .returned (.float .f64 Q) ∧ Below W.heap.size W w')
    (hm : e = 0 → ∀ W ts t, (Builtin.max_ ts t #[.float .f64 P, .float .f64 Q]).run Tryz.prog W = .ok (.float .f64 R) W) :
    Calls Tryz.prog 16 #[.agg #[.float .f64 lo, .float .f64 hi]] w fun r w' => r = .returned (radV e R) ∧ Below w.heap.size w w' := by
  have H2 : Hid (e = 0 → ∀ W, Below w.heap.size w W → Calls Tryz.prog 33 #[.float .f64 M, .float .f64 lo, .int .i64 3] W fun r w' => r = .returned (.float .f64 P) ∧ Below W.heap.size W w') := k2
  have H3 : Hid (e = 0 → ∀ W, Below w.heap.size w W → Calls Tryz.prog 33 #[.float .f64 hi, .float .f64 M, .int .i64 3] W fun r w' => r = .returned (.float .f64 Q) ∧ Below W.heap.size W w') := k3
  have HM : Hid (e = 0 → ∀ W ts t, (Builtin.max_ ts t #[.float .f64 P, .float .f64 Q]).run Tryz.prog W = .ok (.float .f64 R) W) := hm
  obtain ⟨W, hW⟩ : ∃ W, W = (w.alloc (.cells #[.float .f64 lo, .float .f64 hi] 24)) := ⟨_, rfl⟩
  have HX : Hid (Below w.heap.size w W ∧ IvB W (w.heap.size) lo hi) := by
    rw [hW]
    exact ⟨bxs1_0 w lo hi, bxs1_1 w lo hi⟩
  have HK : Hid (∀ w', Below W.heap.size W w' → IvF w' (w.heap.size) lo hi) := fun w' hb => (HX.out.2).later hb
  obtain ⟨c0, c1, z0, z1⟩ := HK.out W (Below.refl _ _)
  have HV : Hid (Below w.heap.size w W) := HX.out.1
  have kk := k1 W HV.out
  clear k1 k2 k3 hm
  go_enter Tryz.func16, Tryz.ntmps16
  go_upto_region 1 with fail
  rw [← hW]
  clear hW
  go_wp2_with fail
  refine kk.mono ?_
  rintro r w1 ⟨rfl, hb1⟩
  clear kk c0 c1 z0 z1
  obtain ⟨c0, c1, z0, z1⟩ := HK.out w1 hb1
  have HB1 : Hid (Below W.heap.size W w1) := hb1
  have HB : Hid (Below w.heap.size w w1) := HV.out.trans (hb1.mono HV.out.size)
  clear hb1
  by_cases he : e = 0
  · subst he
    have hm := HM.out rfl
    have hR : Below W.heap.size W w1.drew := HB1.out.drew
    have q2 : ∀ W', Below W.heap.size W W' → Calls Tryz.prog 33 #[.float .f64 M, .float .f64 lo, .int .i64 3] W' fun r w' => r = .returned (.float .f64 P) ∧ Below W.heap.size W w' := fun W' h => (H2.out rfl W' (HV.out.trans (h.mono HV.out.size))).mono fun r w' ⟨e1, e2⟩ => ⟨e1, h.trans (e2.mono h.size)⟩
    have q3 : ∀ W', Below W.heap.size W W' → Calls Tryz.prog 33 #[.float .f64 hi, .float .f64 M, .int .i64 3] W' fun r w' => r = .returned (.float .f64 Q) ∧ Below W.heap.size W w' := fun W' h => (H3.out rfl W' (HV.out.trans (h.mono HV.out.size))).mono fun r w' ⟨e1, e2⟩ => ⟨e1, h.trans (e2.mono h.size)⟩
    obtain ⟨d0, d1, y0, y1⟩ := HK.out w1.drew hR
    clear HM H2 H3
    go_upto_region 4 with fail
    go_region_held3 (fun w' => w'.cell? ⟨w.heap.size, 0, none⟩ = some (.float .f64 lo) ∧ w'.cell? ⟨w.heap.size, 1, none⟩ = some (.float .f64 hi)) (first | (with_reducible assumption) | exact ⟨d0, d1⟩ | exact ⟨c0, c1⟩ | exact ⟨(HK.out _ hb3).1, (HK.out _ hb3).2.1⟩ | exact ⟨(HK.out _ hb2).1, (HK.out _ hb2).2.1⟩ | go_keep)
      (first | (go_at_call 33; with_reducible refine (q2 _ hR).mono ?_; rintro r w2 ⟨rfl, hb2⟩) | (go_at_call 33; with_reducible refine (q3 _ hb2).mono ?_; rintro r w3 ⟨rfl, hb3⟩))
    have HB3 : Hid (Below w.heap.size w w3) := HV.out.trans (hb3.mono HV.out.size)
    clear c0 c1 z0 z1 d0 d1 y0 y1 hR HB1 HK HX q2 q3 HV hb2 hb3
    go_wp2_with fail
    go_ret2
    exact ⟨rfl, HB3.out⟩
  · have hq : (e == 0) = false := by simp [he]
    have hq2 : (e != 0) = true := by simp [he]
    have HE : Hid (e ≠ 0) := he
    clear HM H2 H3 HK HX HV HB1 he
    go_wp2
    go_ret2
    exact ⟨by unfold radV; rw [if_neg HE.out]; rfl, HB.out⟩
/-- whether an interval is all numbers, has no end below, above -/
def iAll (lo hi : Nat) : Bool := eq lo 18442240474082181120 && eq hi 9218868437227405312
def iFar (a : Nat) : Bool := lt 9218868437227405311 (mag a)
theorem far_fin {a : Nat} (h : iFar a = false) (hn : isNaN a = false) : mag a < 9218868437227405312 := by
  have n' : ¬ 9218868437227405312 < mag a := of_decide_eq_false hn
  have hm : isNaN (mag a) = false := by
    unfold isNaN
    rw [show mag (mag a) = mag a by unfold mag; omega]
    exact decide_eq_false n'
  have hs : stp (mag a) = (mag a : Int) := by
    unfold stp sgn neg
    rw [show mag (mag a) = mag a by unfold mag; omega, if_neg (by have := mag_lt a; simp; omega)]
  unfold iFar lt at h
  rw [hm, hs, show isNaN 9218868437227405311 = false by decide, show stp 9218868437227405311 = 9218868437227405311 by decide] at h
  simp only [Bool.not_false, Bool.true_and, decide_eq_false_iff_not] at h
  omega
theorem smid (lo hi : Nat) (h1 : lo < 18446744073709551616) (h2 : hi < 18446744073709551616) (w : World) (hT : Tab32 w) (hJ : Ie.Tab w) :
    Calls Tryz.prog 32 #[.agg #[.float .f64 lo, .float .f64 hi]] w fun r w' => r = .returned (midV (vI lo hi) (iAll lo hi) (iFar lo) (iFar hi) (hfS lo hi)) ∧ Below w.heap.size w w' := by
  refine smid_1 lo hi _ _ _ _ _ w (fun W => svalid lo hi h1 h2 W) (fun W => ?_) (fun W => c123 lo h1 W) (fun W => c123 hi h2 W) (fun hv hi' hj W h => shalf lo hi h1 h2 (far_fin hi' (vI_nn hv).1) (far_fin hj (vI_nn hv).2) W (hT.later h) (Tab.later hJ h))
  rw [eqIv, ord_eq lo _ h1 (by omega), ord_eq hi _ h2 (by omega)]
  rfl
/-- the middle as a float -/
def mdF (lo hi : Nat) : Nat := if iAll lo hi then 0 else if iFar lo then 18442240474082181119 else if iFar hi then 9218868437227405311 else hfS lo hi
theorem mdF_lt (lo hi : Nat) : mdF lo hi < 18446744073709551616 := by
  unfold mdF
  split
  · omega
  · split
    · omega
    · split
      · omega
      · exact hfS_lt _ _
theorem midV_eq (v : Bool) (lo hi : Nat) : midV v (iAll lo hi) (iFar lo) (iFar hi) (hfS lo hi) = .tuple #[.float .f64 (if v then mdF lo hi else 0), .int .i64 (if v then 0 else 1)] := by
  unfold midV mdF
  cases v
  · rfl
  · cases iAll lo hi
    · cases iFar lo
      · cases iFar hi <;> rfl
      · rfl
    · rfl
/-- how far it goes, below and above -/
def rdP (lo hi : Nat) : Nat := fAdM (mdF lo hi) (ngt lo) 3
def rdQ (lo hi : Nat) : Nat := fAdM hi (ngt (mdF lo hi)) 3
theorem srad (lo hi : Nat) (h1 : lo < 18446744073709551616) (h2 : hi < 18446744073709551616) (w : World) (hT : Tab32 w) (hJ : Ie.Tab w) (hP : vI lo hi = true → isNaN (rdP lo hi) = false) (hQ : vI lo hi = true → isNaN (rdQ lo hi) = false) :
    Calls Tryz.prog 16 #[.agg #[.float .f64 lo, .float .f64 hi]] w fun r w' => r = .returned (radV (if vI lo hi then 0 else 1) (fMax (rdP lo hi) (rdQ lo hi))) ∧ Below w.heap.size w w' := by
  have hv : (if vI lo hi = true then (0 : Int) else 1) = 0 → vI lo hi = true := by
    cases vI lo hi <;> simp
  have m3 : (1 : Int) ≤ 3 ∧ (3 : Int) ≤ 3 := by omega
  have hPl : rdP lo hi < 18446744073709551616 := (faddM_p _ _ 3 m3 (mdF_lt lo hi) (ngt_lt h1)).1
  have hQl : rdQ lo hi < 18446744073709551616 := (faddM_p _ _ 3 m3 h2 (ngt_lt (mdF_lt lo hi))).1
  refine srad_1 lo hi (if vI lo hi then mdF lo hi else 0) (rdP lo hi) (rdQ lo hi) _ _ w (fun W h => ?_) (fun he W h => ?_) (fun he W h => ?_) (fun he W ts t => run_fmax W ts t _ _ hPl hQl (hP (hv he)) (hQ (hv he)))
  · have := smid lo hi h1 h2 W (hT.later h) (Tab.later hJ h)
    rw [midV_eq] at this
    exact this
  · rw [if_pos (hv he)]
    refine (fsubM (mdF lo hi) lo 3 m3 (mdF_lt lo hi) h1 W (hT.later h) (Tab.later hJ h)).mono ?_
    rintro r w' ⟨n, rfl, hl, hb⟩
    rw [hl.eq (hP (hv he))]
    exact ⟨rfl, hb⟩
  · rw [if_pos (hv he)]
    refine (fsubM hi (mdF lo hi) 3 m3 h2 (mdF_lt lo hi) W (hT.later h) (Tab.later hJ h)).mono ?_
    rintro r w' ⟨n, rfl, hl, hb⟩
    rw [hl.eq (hQ (hv he))]
    exact ⟨rfl, hb⟩
/-- Rad([1, 2]) -/
theorem rad_at : vI 4607182418800017408 4611686018427387904 = true ∧ isNaN (rdP 4607182418800017408 4611686018427387904) = false ∧ isNaN (rdQ 4607182418800017408 4611686018427387904) = false ∧ fMax (rdP 4607182418800017408 4611686018427387904) (rdQ 4607182418800017408 4611686018427387904) = 4602678819172646912 := by decide +kernel
end Go.Proofs.YtlicjplmcepbnaaGreatDoor
/- The law's own small test. -/
namespace Go.Proofs.YtlicjplmcepbnaaGreatDoor
set_option linter.unusedVariables false
set_option linter.unusedSimpArgs false
open Go.RowKit Go.Fl64
attribute [local go_sem] run_store_flt

set_option maxHeartbeats 16000000 in
set_option maxRecDepth 200000 in
theorem works_1 (w : World)
    (k1 : ∀ W, Below w.heap.size w W → Calls Tryz.prog 8 #[.agg #[.float .f64 13830554455654793216, .float .f64 4611686018427387904], .agg #[.float .f64 4613937818241073152, .float .f64 9218868437227405312]] W fun r w' => r = .returned (.tuple #[.agg #[.float .f64 18442240474082181120, .float .f64 9218868437227405312], .int .i64 0]) ∧ Below W.heap.size W w')
    (k2 : ∀ W, Below w.heap.size w W → Calls Tryz.prog 10 #[.agg #[.float .f64 4607182418800017408, .float .f64 4607182418800017408], .agg #[.float .f64 4613937818241073152, .float .f64 4613937818241073152]] W fun r w' => r = .returned (.tuple #[.agg #[.float .f64 4599676419421066581, .float .f64 4599676419421066582], .int .i64 0]) ∧ Below W.heap.size W w')
    (k3 : ∀ W, Below w.heap.size w W → Calls Tryz.prog 10 #[.agg #[.float .f64 4607182418800017408, .float .f64 4607182418800017408], .agg #[.float .f64 13830554455654793216, .float .f64 4607182418800017408]] W fun r w' => r = .returned (.tuple #[.agg #[.float .f64 0, .float .f64 0], .int .i64 6]) ∧ Below W.heap.size W w')
    (k4 : ∀ W, Below w.heap.size w W → Calls Tryz.prog 16 #[.agg #[.float .f64 4607182418800017408, .float .f64 4611686018427387904]] W fun r w' => r = .returned (.tuple #[.float .f64 4602678819172646912, .int .i64 0]) ∧ Below W.heap.size W w')
    (k5 : ∀ W, Below w.heap.size w W → Calls Tryz.prog 19 #[.agg #[.float .f64 4607182418800017408, .float .f64 4611686018427387904], .float .f64 4609434218613702656] W fun r w' => r = .returned (.bool true) ∧ Below W.heap.size W w')
    (k6 : ∀ W, Below w.heap.size w W → Calls Tryz.prog 19 #[.agg #[.float .f64 4607182418800017408, .float .f64 4611686018427387904], .float .f64 4613937818241073152] W fun r w' => r = .returned (.bool false) ∧ Below W.heap.size W w') :
    Calls Tryz.prog 6 #[] w fun r w' => r = .returned (.bool true) ∧ Below w.heap.size w w' := by
  have hh : (FloatKind.f64.format.order 4602678819172646912 4602678819172646912 == some Ordering.eq) = true := by decide
  have H1 : Hid (∀ W, Below w.heap.size w W → Calls Tryz.prog 8 #[.agg #[.float .f64 13830554455654793216, .float .f64 4611686018427387904], .agg #[.float .f64 4613937818241073152, .float .f64 9218868437227405312]] W fun r w' => r = .returned (.tuple #[.agg #[.float .f64 18442240474082181120, .float .f64 9218868437227405312], .int .i64 0]) ∧ Below W.heap.size W w') := k1
  have H2 : Hid (∀ W, Below w.heap.size w W → Calls Tryz.prog 10 #[.agg #[.float .f64 4607182418800017408, .float .f64 4607182418800017408], .agg #[.float .f64 4613937818241073152, .float .f64 4613937818241073152]] W fun r w' => r = .returned (.tuple #[.agg #[.float .f64 4599676419421066581, .float .f64 4599676419421066582], .int .i64 0]) ∧ Below W.heap.size W w') := k2
  have H3 : Hid (∀ W, Below w.heap.size w W → Calls Tryz.prog 10 #[.agg #[.float .f64 4607182418800017408, .float .f64 4607182418800017408], .agg #[.float .f64 13830554455654793216, .float .f64 4607182418800017408]] W fun r w' => r = .returned (.tuple #[.agg #[.float .f64 0, .float .f64 0], .int .i64 6]) ∧ Below W.heap.size W w') := k3
  have H4 : Hid (∀ W, Below w.heap.size w W → Calls Tryz.prog 16 #[.agg #[.float .f64 4607182418800017408, .float .f64 4611686018427387904]] W fun r w' => r = .returned (.tuple #[.float .f64 4602678819172646912, .int .i64 0]) ∧ Below W.heap.size W w') := k4
  have H5 : Hid (∀ W, Below w.heap.size w W → Calls Tryz.prog 19 #[.agg #[.float .f64 4607182418800017408, .float .f64 4611686018427387904], .float .f64 4609434218613702656] W fun r w' => r = .returned (.bool true) ∧ Below W.heap.size W w') := k5
  have H6 : Hid (∀ W, Below w.heap.size w W → Calls Tryz.prog 19 #[.agg #[.float .f64 4607182418800017408, .float .f64 4611686018427387904], .float .f64 4613937818241073152] W fun r w' => r = .returned (.bool false) ∧ Below W.heap.size W w') := k6
  have A0 : Hid (Below w.heap.size w w) := Below.refl _ _
  clear k1 k2 k3 k4 k5 k6
  go_enter Tryz.func6, Tryz.ntmps6
  have kk := lof 13830554455654793216 4611686018427387904 w
  go_wp2_with fail
  refine kk.mono ?_
  rintro r w1 ⟨rfl, hb⟩
  have A1 : Hid (Below w.heap.size w w1) := A0.out.trans (hb.mono A0.out.size)
  clear hb kk A0
  go_wp2_with fail
  refine (cinf_p w1).mono ?_
  rintro r w' ⟨rfl, hw⟩
  replace hw := hw.symm
  subst hw
  have kk := lof 4613937818241073152 9218868437227405312 w1
  go_wp2_with fail
  refine kk.mono ?_
  rintro r w2 ⟨rfl, hb⟩
  have A2 : Hid (Below w.heap.size w w2) := A1.out.trans (hb.mono A1.out.size)
  clear hb kk A1
  have kk := H1.out w2 A2.out
  go_wp2_with fail
  refine kk.mono ?_
  rintro r w3 ⟨rfl, hb⟩
  have A3 : Hid (Below w.heap.size w w3) := A2.out.trans (hb.mono A2.out.size)
  clear hb kk A2
  obtain ⟨V1, hV1⟩ : ∃ V, V = w3.alloc (.cells #[.float .f64 18442240474082181120, .float .f64 9218868437227405312] 24) := ⟨_, rfl⟩
  have AV1 : Hid (Below w.heap.size w V1) := by rw [hV1]; exact A3.out.alloc A3.out.size _
  have XV1 : Hid (IvB V1 w3.heap.size 18442240474082181120 9218868437227405312) := by rw [hV1]; exact IvB.new _ _ _
  have BV1_V1 : Hid (Below V1.heap.size V1 V1) := Below.refl _ _
  clear A3
  have kk := lof 4607182418800017408 4607182418800017408 V1
  go_wp2_with fail
  rw [← hV1]
  clear hV1
  generalize hgV1 : w3.heap.size = gV1 at *
  clear hgV1
  refine kk.mono ?_
  rintro r w4 ⟨rfl, hb⟩
  have A4 : Hid (Below w.heap.size w w4) := AV1.out.trans (hb.mono AV1.out.size)
  have BV1_4 : Hid (Below V1.heap.size V1 w4) := BV1_V1.out.trans (hb.mono BV1_V1.out.size)
  clear BV1_V1
  clear hb kk AV1
  have kk := lof 4613937818241073152 4613937818241073152 w4
  go_wp2_with fail
  refine kk.mono ?_
  rintro r w5 ⟨rfl, hb⟩
  have A5 : Hid (Below w.heap.size w w5) := A4.out.trans (hb.mono A4.out.size)
  have BV1_5 : Hid (Below V1.heap.size V1 w5) := BV1_4.out.trans (hb.mono BV1_4.out.size)
  clear BV1_4
  clear hb kk A4
  have kk := H2.out w5 A5.out
  go_wp2_with fail
  refine kk.mono ?_
  rintro r w6 ⟨rfl, hb⟩
  have A6 : Hid (Below w.heap.size w w6) := A5.out.trans (hb.mono A5.out.size)
  have BV1_6 : Hid (Below V1.heap.size V1 w6) := BV1_5.out.trans (hb.mono BV1_5.out.size)
  clear BV1_5
  clear hb kk A5
  obtain ⟨V2, hV2⟩ : ∃ V, V = w6.alloc (.cells #[.float .f64 4599676419421066581, .float .f64 4599676419421066582] 24) := ⟨_, rfl⟩
  have AV2 : Hid (Below w.heap.size w V2) := by rw [hV2]; exact A6.out.alloc A6.out.size _
  have XV2 : Hid (IvB V2 w6.heap.size 4599676419421066581 4599676419421066582) := by rw [hV2]; exact IvB.new _ _ _
  have BV1_V2 : Hid (Below V1.heap.size V1 V2) := by rw [hV2]; exact BV1_6.out.alloc BV1_6.out.size _
  clear BV1_6
  have BV2_V2 : Hid (Below V2.heap.size V2 V2) := Below.refl _ _
  clear A6
  have kk := lof 4607182418800017408 4607182418800017408 V2
  go_wp2_with fail
  rw [← hV2]
  clear hV2
  generalize hgV2 : w6.heap.size = gV2 at *
  clear hgV2
  refine kk.mono ?_
  rintro r w7 ⟨rfl, hb⟩
  have A7 : Hid (Below w.heap.size w w7) := AV2.out.trans (hb.mono AV2.out.size)
  have BV1_7 : Hid (Below V1.heap.size V1 w7) := BV1_V2.out.trans (hb.mono BV1_V2.out.size)
  clear BV1_V2
  have BV2_7 : Hid (Below V2.heap.size V2 w7) := BV2_V2.out.trans (hb.mono BV2_V2.out.size)
  clear BV2_V2
  clear hb kk AV2
  have kk := lof 13830554455654793216 4607182418800017408 w7
  go_wp2_with fail
  refine kk.mono ?_
  rintro r w8 ⟨rfl, hb⟩
  have A8 : Hid (Below w.heap.size w w8) := A7.out.trans (hb.mono A7.out.size)
  have BV1_8 : Hid (Below V1.heap.size V1 w8) := BV1_7.out.trans (hb.mono BV1_7.out.size)
  clear BV1_7
  have BV2_8 : Hid (Below V2.heap.size V2 w8) := BV2_7.out.trans (hb.mono BV2_7.out.size)
  clear BV2_7
  clear hb kk A7
  have kk := H3.out w8 A8.out
  go_wp2_with fail
  refine kk.mono ?_
  rintro r w9 ⟨rfl, hb⟩
  have A9 : Hid (Below w.heap.size w w9) := A8.out.trans (hb.mono A8.out.size)
  have BV1_9 : Hid (Below V1.heap.size V1 w9) := BV1_8.out.trans (hb.mono BV1_8.out.size)
  clear BV1_8
  have BV2_9 : Hid (Below V2.heap.size V2 w9) := BV2_8.out.trans (hb.mono BV2_8.out.size)
  clear BV2_8
  clear hb kk A8
  obtain ⟨V3, hV3⟩ : ∃ V, V = w9.alloc (.cells #[.float .f64 0, .float .f64 0] 24) := ⟨_, rfl⟩
  have AV3 : Hid (Below w.heap.size w V3) := by rw [hV3]; exact A9.out.alloc A9.out.size _
  have XV3 : Hid (IvB V3 w9.heap.size 0 0) := by rw [hV3]; exact IvB.new _ _ _
  have BV1_V3 : Hid (Below V1.heap.size V1 V3) := by rw [hV3]; exact BV1_9.out.alloc BV1_9.out.size _
  clear BV1_9
  have BV2_V3 : Hid (Below V2.heap.size V2 V3) := by rw [hV3]; exact BV2_9.out.alloc BV2_9.out.size _
  clear BV2_9
  have BV3_V3 : Hid (Below V3.heap.size V3 V3) := Below.refl _ _
  clear A9
  have kk := lof 4607182418800017408 4611686018427387904 V3
  go_wp2_with fail
  rw [← hV3]
  clear hV3
  generalize hgV3 : w9.heap.size = gV3 at *
  clear hgV3
  refine kk.mono ?_
  rintro r w10 ⟨rfl, hb⟩
  have A10 : Hid (Below w.heap.size w w10) := AV3.out.trans (hb.mono AV3.out.size)
  have BV1_10 : Hid (Below V1.heap.size V1 w10) := BV1_V3.out.trans (hb.mono BV1_V3.out.size)
  clear BV1_V3
  have BV2_10 : Hid (Below V2.heap.size V2 w10) := BV2_V3.out.trans (hb.mono BV2_V3.out.size)
  clear BV2_V3
  have BV3_10 : Hid (Below V3.heap.size V3 w10) := BV3_V3.out.trans (hb.mono BV3_V3.out.size)
  clear BV3_V3
  clear hb kk AV3
  have kk := H4.out w10 A10.out
  go_wp2_with fail
  refine kk.mono ?_
  rintro r w11 ⟨rfl, hb⟩
  have A11 : Hid (Below w.heap.size w w11) := A10.out.trans (hb.mono A10.out.size)
  have BV1_11 : Hid (Below V1.heap.size V1 w11) := BV1_10.out.trans (hb.mono BV1_10.out.size)
  clear BV1_10
  have BV2_11 : Hid (Below V2.heap.size V2 w11) := BV2_10.out.trans (hb.mono BV2_10.out.size)
  clear BV2_10
  have BV3_11 : Hid (Below V3.heap.size V3 w11) := BV3_10.out.trans (hb.mono BV3_10.out.size)
  clear BV3_10
  clear hb kk A10
  have XM : Hid (IvB w11 gV1 18442240474082181120 9218868437227405312) := XV1.out.box BV1_11.out
  have XQ : Hid (IvB w11 gV2 4599676419421066581 4599676419421066582) := XV2.out.box BV2_11.out
  clear XV1 XV2 XV3 BV1_11 BV2_11 BV3_11
  have HK : Hid (∀ w', Below w11.heap.size w11 w' → ((w'.cell? ⟨gV1, 0, none⟩ = some (.float .f64 18442240474082181120) ∧ w'.cell? ⟨gV1, 1, none⟩ = some (.float .f64 9218868437227405312)) ∧ (w'.cell? ⟨gV2, 0, none⟩ = some (.float .f64 4599676419421066581) ∧ w'.cell? ⟨gV2, 1, none⟩ = some (.float .f64 4599676419421066582))) ∧ Below w11.heap.size w11 w') := fun w' hb => ⟨⟨⟨(XM.out.later hb).1, (XM.out.later hb).2.1⟩, (XQ.out.later hb).1, (XQ.out.later hb).2.1⟩, hb⟩
  have hBR : Below w11.heap.size w11 w11.drew := (Below.refl _ _).drew
  have q1 : ∀ W, Below w11.heap.size w11 W → Calls Tryz.prog 18 #[] W fun r w' => r = .returned (.agg #[.float .f64 18442240474082181120, .float .f64 9218868437227405312]) ∧ Below w11.heap.size w11 w' := fun W h => (sall W).mono fun r w' ⟨e1, e2⟩ => ⟨e1, h.trans (e2.mono h.size)⟩
  have q2 : ∀ W, Below w11.heap.size w11 W → Calls Tryz.prog 17 #[.agg #[.float .f64 18442240474082181120, .float .f64 9218868437227405312], .agg #[.float .f64 18442240474082181120, .float .f64 9218868437227405312]] W fun r w' => r = .returned (.bool true) ∧ Below w11.heap.size w11 w' := fun W h => (isame _ _ (by omega) (by omega) W).mono fun r w' ⟨e1, e2⟩ => ⟨e1, h.trans (e2.mono h.size)⟩
  have q3 : ∀ W, Below w11.heap.size w11 W → Calls Tryz.prog 17 #[.agg #[.float .f64 4599676419421066581, .float .f64 4599676419421066582], .agg #[.float .f64 4599676419421066581, .float .f64 4599676419421066582]] W fun r w' => r = .returned (.bool true) ∧ Below w11.heap.size w11 w' := fun W h => (isame _ _ (by omega) (by omega) W).mono fun r w' ⟨e1, e2⟩ => ⟨e1, h.trans (e2.mono h.size)⟩
  have q4 : ∀ a b W, Below w11.heap.size w11 W → Calls Tryz.prog 15 #[.float .f64 a, .float .f64 b] W fun r w' => r = .returned (.agg #[.float .f64 a, .float .f64 b]) ∧ Below w11.heap.size w11 w' := fun a b W h => (lof a b W).mono fun r w' ⟨e1, e2⟩ => ⟨e1, h.trans (e2.mono h.size)⟩
  have q5 : ∀ W, Below w11.heap.size w11 W → Calls Tryz.prog 19 #[.agg #[.float .f64 4607182418800017408, .float .f64 4611686018427387904], .float .f64 4609434218613702656] W fun r w' => r = .returned (.bool true) ∧ Below w11.heap.size w11 w' := fun W h => (H5.out W (A11.out.trans (h.mono A11.out.size))).mono fun r w' ⟨e1, e2⟩ => ⟨e1, h.trans (e2.mono h.size)⟩
  have q6 : ∀ W, Below w11.heap.size w11 W → Calls Tryz.prog 19 #[.agg #[.float .f64 4607182418800017408, .float .f64 4611686018427387904], .float .f64 4613937818241073152] W fun r w' => r = .returned (.bool false) ∧ Below w11.heap.size w11 w' := fun W h => (H6.out W (A11.out.trans (h.mono A11.out.size))).mono fun r w' ⟨e1, e2⟩ => ⟨e1, h.trans (e2.mono h.size)⟩
  clear H1 H2 H3 H4 H5 H6 XM XQ
  obtain ⟨⟨⟨a0, a1⟩, a2, a3⟩, -⟩ := HK.out w11 (Below.refl _ _)
  go_upto_region 5 with fail
  go_region_held3 (fun w' => ((w'.cell? ⟨gV1, 0, none⟩ = some (.float .f64 18442240474082181120) ∧ w'.cell? ⟨gV1, 1, none⟩ = some (.float .f64 9218868437227405312)) ∧ (w'.cell? ⟨gV2, 0, none⟩ = some (.float .f64 4599676419421066581) ∧ w'.cell? ⟨gV2, 1, none⟩ = some (.float .f64 4599676419421066582))) ∧ Below w11.heap.size w11 w') (first | (with_reducible assumption) | exact HK.out _ hBR | (refine HK.out _ ?_; with_reducible assumption) | go_keep)
    (first | (go_at_call 18; with_reducible refine (q1 _ (by first | (with_reducible assumption) | exact hBR)).mono ?_; rintro r w5 ⟨rfl, hb5⟩)
           | (go_at_call 17; with_reducible refine (q2 _ (by first | (with_reducible assumption) | exact hBR)).mono ?_; rintro r w5 ⟨rfl, hb5⟩)
           | (go_at_call 17; with_reducible refine (q3 _ (by first | (with_reducible assumption) | exact hBR)).mono ?_; rintro r w5 ⟨rfl, hb5⟩)
           | (go_at_call 15; with_reducible refine (q4 _ _ _ (by first | (with_reducible assumption) | exact hBR)).mono ?_; rintro r w5 ⟨rfl, hb5⟩)
           | (go_at_call 19; with_reducible refine (q5 _ (by first | (with_reducible assumption) | exact hBR)).mono ?_; rintro r w5 ⟨rfl, hb5⟩)
           | (go_at_call 19; with_reducible refine (q6 _ (by first | (with_reducible assumption) | exact hBR)).mono ?_; rintro r w5 ⟨rfl, hb5⟩))
  have HF : Hid (Below w.heap.size w w5) := A11.out.trans (hb5.mono A11.out.size)
  clear q1 q2 q3 q4 q5 q6 HK hBR a0 a1 a2 a3 hb5
  go_wp2_with fail
  go_ret
  exact ⟨rfl, HF.out⟩
theorem works8 (w : World) (hT : Tab32 w) (hJ : Ie.Tab w) : Calls Tryz.prog 6 #[] w fun r w' => r = .returned (.bool true) ∧ Below w.heap.size w w' := by
  refine works_1 w (fun W h => ?_) (fun W h => ?_) (fun W h => ?_) (fun W h => ?_) (fun W h => ?_) (fun W h => ?_)
  · have k := smul 13830554455654793216 4611686018427387904 4613937818241073152 9218868437227405312 (by omega) (by omega) (by omega) (by omega) W (hT.later h) (Tab.later hJ h)
    rw [mul_at.1, mul_at.2.1, mul_at.2.2] at k
    exact k
  · have k := squo 4607182418800017408 4607182418800017408 4613937818241073152 4613937818241073152 (by omega) (by omega) (by omega) (by omega) W (hT.later h) (Tab.later hJ h)
    rw [quo_at.1, quo_at.2.1, quo_at.2.2.1, quo_at.2.2.2] at k
    exact k
  · have k := squo 4607182418800017408 4607182418800017408 13830554455654793216 4607182418800017408 (by omega) (by omega) (by omega) (by omega) W (hT.later h) (Tab.later hJ h)
    rw [quo_at2.1, quo_at2.2] at k
    exact k
  · have k := srad 4607182418800017408 4611686018427387904 (by omega) (by omega) W (hT.later h) (Tab.later hJ h) (fun _ => rad_at.2.1) (fun _ => rad_at.2.2.1)
    rw [rad_at.2.2.2, rad_at.1] at k
    exact k
  · have k := shas 4607182418800017408 4611686018427387904 4609434218613702656 (by omega) (by omega) (by omega) W
    rw [has_at.1] at k
    exact k
  · have k := shas 4607182418800017408 4611686018427387904 4613937818241073152 (by omega) (by omega) (by omega) W
    rw [has_at.2] at k
    exact k
end Go.Proofs.YtlicjplmcepbnaaGreatDoor
/- The document's ends. -/
namespace Go.Proofs.YtlicjplmcepbnaaGreatDoor
set_option linter.unusedVariables false
set_option linter.unusedSimpArgs false
open Go.RowKit Go.Fl64
attribute [local go_sem] run_store_flt

/-- an end in memory: an infinity by its sign, or a number -/
def EN (w : World) (A : Value) (i : Int) (t : Bool × Nat × Int) : Prop := ∃ s ao n cap e, A = .agg #[.int .i64 i, .bool s, .slice ao n cap, .int .i64 e] ∧ DN w (.agg #[.bool s, .slice ao n cap, .int .i64 e]) t
theorem EN.later {w w' : World} {A : Value} {i : Int} {t : Bool × Nat × Int} (h : EN w A i t) (hb : Below w.heap.size w w') : EN w' A i t := by
  obtain ⟨s, ao, n, cap, e, h1, h2⟩ := h
  exact ⟨s, ao, n, cap, e, h1, h2.later hb⟩
/-- which infinity an end is; its number -/
def eI (f : Nat) : Int := if f = 9218868437227405312 then 1 else if f = 18442240474082181120 then -1 else 0
def eT (f : Nat) : Bool × Nat × Int := if eI f = 0 then tF f else (false, 0, 0)
end Go.Proofs.YtlicjplmcepbnaaGreatDoor
/- The document's ends: rounded, signed, turned, added. -/
namespace Go.Proofs.YtlicjplmcepbnaaGreatDoor
set_option linter.unusedVariables false
set_option linter.unusedSimpArgs false
open Go.RowKit Go.Fl64
attribute [local go_sem] run_store_flt

/-- an end rounded -/
def toD (t : Bool × Nat × Int) (m : Int) : Nat := if t.2.1 = 0 then 0 else tfF t.1 true t.2.1 t.2.2 m
def enF (i : Int) (t : Bool × Nat × Int) (m : Int) : Nat := if i = 0 then pl (toD t m) else if 0 < i then 9218868437227405312 else 18442240474082181120
theorem toD_lt {t : Bool × Nat × Int} {m : Int} (hm : 1 ≤ m ∧ m ≤ 3) : toD t m < 18446744073709551616 := by
  unfold toD
  split
  · omega
  · exact tfF_lt hm
theorem eI_cases (f : Nat) : eI f = -1 ∨ eI f = 0 ∨ eI f = 1 := by
  unfold eI
  split
  · exact .inr (.inr rfl)
  · split
    · exact .inl rfl
    · exact .inr (.inl rfl)
theorem eT_ok (f : Nat) : Ok (eT f) := by
  unfold eT
  split
  · exact tF_ok f
  · unfold Ok; rw [dlen_zero]; rfl
end Go.Proofs.YtlicjplmcepbnaaGreatDoor
/- The document's ends added; the tightest interval; Neg, Add, Sub. -/
namespace Go.Proofs.YtlicjplmcepbnaaGreatDoor
set_option linter.unusedVariables false
set_option linter.unusedSimpArgs false
open Go.RowKit Go.Fl64
attribute [local go_sem] run_store_flt

/-- two ends added -/
def plT (i j : Int) (t u : Bool × Nat × Int) : Bool × Nat × Int := if i + j = 0 then tS t u else (false, 0, 0)
end Go.Proofs.YtlicjplmcepbnaaGreatDoor
/- The ends of several floats at once: x, y := end(a.Lo), end(a.Hi). -/
namespace Go.Proofs.YtlicjplmcepbnaaGreatDoor
set_option linter.unusedVariables false
set_option linter.unusedSimpArgs false
open Go.RowKit Go.Fl64

end Go.Proofs.YtlicjplmcepbnaaGreatDoor
/- The document's order of ends, and Abs. -/
namespace Go.Proofs.YtlicjplmcepbnaaGreatDoor
set_option linter.unusedVariables false
set_option linter.unusedSimpArgs false
open Go.RowKit Go.Fl64
attribute [local go_sem] run_store_flt

/-- the sign of an end -/
def sgE (i : Int) (t : Bool × Nat × Int) : Int := if i = 0 then (if t.2.1 = 0 then 0 else if t.1 then -1 else 1) else i
end Go.Proofs.YtlicjplmcepbnaaGreatDoor
/- The document's Neg, Add, Sub. -/
namespace Go.Proofs.YtlicjplmcepbnaaGreatDoor
set_option linter.unusedVariables false
set_option linter.unusedSimpArgs false
open Go.RowKit Go.Fl64
attribute [local go_sem] run_store_flt

theorem eI_b (f : Nat) : -1 ≤ eI f ∧ eI f ≤ 1 := by
  rcases eI_cases f with h | h | h <;> rw [h] <;> omega
end Go.Proofs.YtlicjplmcepbnaaGreatDoor
/- The document's Abs. -/
namespace Go.Proofs.YtlicjplmcepbnaaGreatDoor
set_option linter.unusedVariables false
set_option linter.unusedSimpArgs false
open Go.RowKit Go.Fl64
attribute [local go_sem] run_store_flt

theorem enF_0 (m : Int) : enF 0 (false, 0, 0) m = 0 := by unfold enF toD; rfl
end Go.Proofs.YtlicjplmcepbnaaGreatDoor
/- The sums of span. -/
namespace Go.Proofs.YtlicjplmcepbnaaGreatDoor
set_option linter.unusedVariables false
set_option linter.unusedSimpArgs false
open Go.RowKit Go.Fl64
attribute [local go_sem] run_store_flt

set_option maxHeartbeats 4000000 in
set_option maxRecDepth 200000 in
theorem sadd_1 (a b c d x y : Nat) (v : Bool) (w : World)
    (k0 : ∀ W g T, W.heap[g]? = some (.cells #[.float .f64 a, .float .f64 b, .float .f64 c, .float .f64 d] T (0, 0)) → Calls Tryz.prog 12 #[.slice (some ⟨g, 0, none⟩) 2 2] W fun r w' => r = .returned (.bool v) ∧ Below W.heap.size W w')
    (k1 : v = true → ∀ W, Below w.heap.size w W → Calls Tryz.prog 20 #[.agg #[.float .f64 a, .float .f64 b], .agg #[.float .f64 c, .float .f64 d]] W fun r w' => r = .returned (.agg #[.float .f64 x, .float .f64 y]) ∧ Below W.heap.size W w') :
    Calls Tryz.prog 7 #[.agg #[.float .f64 a, .float .f64 b], .agg #[.float .f64 c, .float .f64 d]] w fun r w' => r = .returned (orV v x y (.int .i64 0) (.int .i64 1)) ∧ Below w.heap.size w w' := by
  have H0 : Hid (∀ W g T, W.heap[g]? = some (.cells #[.float .f64 a, .float .f64 b, .float .f64 c, .float .f64 d] T (0, 0)) → Calls Tryz.prog 12 #[.slice (some ⟨g, 0, none⟩) 2 2] W fun r w' => r = .returned (.bool v) ∧ Below W.heap.size W w') := k0
  have H1 : Hid (v = true → ∀ W, Below w.heap.size w W → Calls Tryz.prog 20 #[.agg #[.float .f64 a, .float .f64 b], .agg #[.float .f64 c, .float .f64 d]] W fun r w' => r = .returned (.agg #[.float .f64 x, .float .f64 y]) ∧ Below W.heap.size W w') := k1
  obtain ⟨W, hW⟩ : ∃ W, W = (((w.alloc (.cells #[.float .f64 a, .float .f64 b] 24)).alloc (.cells #[.float .f64 c, .float .f64 d] 24)).alloc (.cells #[.float .f64 0, .float .f64 0] 24)) := ⟨_, rfl⟩
  have HX : Hid (Below w.heap.size w W ∧ IvB W (w.heap.size) a b ∧ IvB W (w.heap.size + 1) c d ∧ IvB W (w.heap.size + 1 + 1) 0 0) := by
    rw [hW]
    exact ⟨bxs3_0 w a b c d 0 0, bxs3_1 w a b c d 0 0, bxs3_2 w a b c d 0 0, bxs3_3 w a b c d 0 0⟩
  have HK : Hid (∀ w', Below W.heap.size W w' → IvF w' (w.heap.size) a b ∧ IvF w' (w.heap.size + 1) c d ∧ IvF w' (w.heap.size + 1 + 1) 0 0) := fun w' hb => ⟨(HX.out.2.1).later hb, (HX.out.2.2.1).later hb, (HX.out.2.2.2).later hb⟩
  obtain ⟨⟨c0, c1, z0, z1⟩, ⟨c2, c3, z2, z3⟩, ⟨c4, c5, z4, z5⟩⟩ := HK.out W (Below.refl _ _)
  have kk := H0.out (W.alloc (.cells #[.float .f64 a, .float .f64 b, .float .f64 c, .float .f64 d] 24)) W.heap.size _ (heap_alloc_new _ _)
  clear k0 k1 H0
  go_enter Tryz.func7, Tryz.ntmps7
  go_upto_region 1 with fail
  rw [← hW]
  clear hW
  go_wp2_with fail
  refine kk.mono ?_
  rintro r w0 ⟨rfl, hb1⟩
  clear kk
  have hb2 : Below W.heap.size W w0 := ((Below.refl _ _).alloc (Nat.le_refl _) _).trans (hb1.mono (by simp))
  clear c0 z0 c1 z1 c2 z2 c3 z3 c4 z4 c5 z5
  obtain ⟨⟨c0, c1, z0, z1⟩, ⟨c2, c3, z2, z3⟩, ⟨c4, c5, z4, z5⟩⟩ := HK.out w0 hb2
  cases v
  · have HB : Hid (Below w.heap.size w w0) := HX.out.1.trans (hb2.mono HX.out.1.size)
    have HR : Hid (IvB w0 (w.heap.size + 1 + 1) 0 0) := HX.out.2.2.2.box hb2
    clear hb1 hb2 HK HX H1
    go_wp2
    refine bodyPost_ret (results_cell_tmp_row rfl _ _ (w.heap.size + 1 + 1) 24 #[.float .f64 0, .float .f64 0] (0, 0) _ rfl (HR.out.set _ _) Tryz.underlying24 rfl iv_info) rfl ?_
    exact ⟨rfl, below_store2 HB.out (by omega) _ _⟩
  have HB0 : Hid (Below W.heap.size W w0) := hb2
  clear hb1 hb2
  have kk := H1.out (by simp) w0 (HX.out.1.trans (HB0.out.mono HX.out.1.size))
  clear H1
  go_wp2_with fail
  refine kk.mono ?_
  rintro r w1 ⟨rfl, hb2⟩
  have HB1 : Hid (Below W.heap.size W w1) := HB0.out.trans (hb2.mono HB0.out.size)
  clear hb2 kk HB0
  clear c0 z0 c1 z1 c2 z2 c3 z3 c4 z4 c5 z5
  obtain ⟨⟨c0, c1, z0, z1⟩, ⟨c2, c3, z2, z3⟩, ⟨c4, c5, z4, z5⟩⟩ := HK.out w1 HB1.out
  have HB : Hid (Below w.heap.size w w1) := HX.out.1.trans (HB1.out.mono HX.out.1.size)
  have HR : Hid (IvB w1 (w.heap.size + 1 + 1) 0 0) := HX.out.2.2.2.box HB1.out
  clear HK HX HB1
  go_wp2
  refine bodyPost_ret (results_cell_tmp_row rfl _ _ (w.heap.size + 1 + 1) 24 #[.float .f64 x, .float .f64 y] (0, 0) _ rfl (HR.out.set _ _) Tryz.underlying24 rfl iv_info) rfl ?_
  exact ⟨rfl, below_store2 HB.out (by omega) _ _⟩
set_option maxHeartbeats 4000000 in
theorem sturned (a b : Nat) (w : World) (ha : a < 18446744073709551616) (hb : b < 18446744073709551616) :
    Calls Tryz.prog 45 #[.agg #[.float .f64 a, .float .f64 b]] w fun r w' => r = .returned (.agg #[.float .f64 (pl (ngt b)), .float .f64 (pl (ngt a))]) ∧ Below w.heap.size w w' := by
  have n1 : ∀ w, (Op.unary UnOp.neg (.float .f64 a)).run Tryz.prog w = .ok (.float .f64 (ngt a)) w := fun w => by rw [← negF a ha]; rfl
  have n2 : ∀ w, (Op.unary UnOp.neg (.float .f64 b)).run Tryz.prog w = .ok (.float .f64 (ngt b)) w := fun w => by rw [← negF b hb]; rfl
  have k := fun W => sbetween (ngt b) (ngt a) W (ngt_lt hb) (ngt_lt ha)
  generalize pl (ngt a) = A at *
  generalize pl (ngt b) = C at *
  obtain ⟨W, hW⟩ : ∃ W, W = ((w.alloc (.cells #[.float .f64 a, .float .f64 b] 24)).alloc (.cells #[.float .f64 0, .float .f64 0] 24)) := ⟨_, rfl⟩
  have HX : Hid (Below w.heap.size w W ∧ IvB W (w.heap.size) a b ∧ IvB W (w.heap.size + 1) 0 0) := by
    rw [hW]
    exact ⟨bxs2_0 w a b 0 0, bxs2_1 w a b 0 0, bxs2_2 w a b 0 0⟩
  have HK : Hid (∀ w', Below W.heap.size W w' → IvF w' (w.heap.size) a b ∧ IvF w' (w.heap.size + 1) 0 0) := fun w' hb => ⟨(HX.out.2.1).later hb, (HX.out.2.2).later hb⟩
  obtain ⟨⟨c0, c1, z0, z1⟩, ⟨c2, c3, z2, z3⟩⟩ := HK.out W (Below.refl _ _)
  have kk := k W
  clear k ha hb
  go_enter Tryz.func45, Tryz.ntmps45
  go_upto_region 1 with fail
  rw [← hW]
  clear hW
  go_wp2_with fail
  refine kk.mono ?_
  rintro r w1 ⟨rfl, hb1⟩
  clear kk c0 c1 c2 c3 z0 z1 z2 z3
  obtain ⟨⟨c0, c1, z0, z1⟩, ⟨c2, c3, z2, z3⟩⟩ := HK.out w1 hb1
  have HB : Hid (Below w.heap.size w w1) := HX.out.1.trans (hb1.mono HX.out.1.size)
  have HR : Hid (IvB w1 (w.heap.size + 1) 0 0) := HX.out.2.2.box hb1
  clear hb1 HK HX n1 n2
  go_wp2
  refine bodyPost_ret (results_cell_row rfl _ _ (w.heap.size + 1) 24 #[.float .f64 C, .float .f64 A] (0, 0) _ rfl (HR.out.set _ _) Tryz.underlying24 rfl iv_info) rfl ?_
  exact ⟨rfl, below_store2 HB.out (by omega) _ _⟩
set_option maxHeartbeats 4000000 in
theorem smag_1 (a b x y m : Nat) (p q : Bool) (w : World) (o1 : (FloatKind.f64.format.order a 0 == some Ordering.gt || FloatKind.f64.format.order a 0 == some Ordering.eq) = p) (o2 : (FloatKind.f64.format.order b 0 == some Ordering.lt || FloatKind.f64.format.order b 0 == some Ordering.eq) = q)
    (n1 : ∀ w, (Op.unary UnOp.neg (.float .f64 a)).run Tryz.prog w = .ok (.float .f64 (ngt a)) w)
    (hm : p = false → q = false → ∀ W ts t, (Builtin.max_ ts t #[.float .f64 (ngt a), .float .f64 b]).run Tryz.prog W = .ok (.float .f64 m) W)
    (k : ∀ W, Calls Tryz.prog 45 #[.agg #[.float .f64 a, .float .f64 b]] W fun r w' => r = .returned (.agg #[.float .f64 x, .float .f64 y]) ∧ Below W.heap.size W w') :
    Calls Tryz.prog 25 #[.agg #[.float .f64 a, .float .f64 b]] w fun r w' => r = .returned (if p then .agg #[.float .f64 a, .float .f64 b] else if q then .agg #[.float .f64 x, .float .f64 y] else .agg #[.float .f64 0, .float .f64 m]) ∧ Below w.heap.size w w' := by
  generalize hR : (if p then .agg #[.float .f64 a, .float .f64 b] else if q then .agg #[.float .f64 x, .float .f64 y] else .agg #[.float .f64 0, .float .f64 m] : Value) = R
  have HRV : Hid ((if p then .agg #[.float .f64 a, .float .f64 b] else if q then .agg #[.float .f64 x, .float .f64 y] else .agg #[.float .f64 0, .float .f64 m] : Value) = R) := hR
  clear hR
  have HM : Hid (p = false → q = false → ∀ W ts t, (Builtin.max_ ts t #[.float .f64 (ngt a), .float .f64 b]).run Tryz.prog W = .ok (.float .f64 m) W) := hm
  obtain ⟨W, hW⟩ : ∃ W, W = ((w.alloc (.cells #[.float .f64 a, .float .f64 b] 24)).alloc (.cells #[.float .f64 0, .float .f64 0] 24)) := ⟨_, rfl⟩
  have HX : Hid (Below w.heap.size w W ∧ IvB W (w.heap.size) a b ∧ IvB W (w.heap.size + 1) 0 0) := by
    rw [hW]
    exact ⟨bxs2_0 w a b 0 0, bxs2_1 w a b 0 0, bxs2_2 w a b 0 0⟩
  have HK : Hid (∀ w', Below W.heap.size W w' → IvF w' (w.heap.size) a b ∧ IvF w' (w.heap.size + 1) 0 0) := fun w' hb => ⟨(HX.out.2.1).later hb, (HX.out.2.2).later hb⟩
  obtain ⟨⟨c0, c1, z0, z1⟩, ⟨c2, c3, z2, z3⟩⟩ := HK.out W (Below.refl _ _)
  have kk := k W
  clear k hm
  go_enter Tryz.func25, Tryz.ntmps25
  go_upto_region 1 with fail
  rw [← hW]
  clear hW
  cases p
  · cases q
    · have hm := HM.out rfl rfl
      have HR : Hid (IvB W (w.heap.size + 1) 0 0) := HX.out.2.2
      go_wp2
      refine bodyPost_ret (results_cell_row rfl _ _ (w.heap.size + 1) 24 #[.float .f64 0, .float .f64 m] (0, 0) _ rfl (HR.out.set _ _) Tryz.underlying24 rfl iv_info) rfl ?_
      exact ⟨congrArg Ending.returned HRV.out, below_store2 HX.out.1 (by omega) _ _⟩
    · clear HM
      go_wp2_with fail
      refine kk.mono ?_
      rintro r w1 ⟨rfl, hb1⟩
      clear kk c0 c1 c2 c3 z0 z1 z2 z3
      obtain ⟨⟨c0, c1, z0, z1⟩, ⟨c2, c3, z2, z3⟩⟩ := HK.out w1 hb1
      have HB : Hid (Below w.heap.size w w1) := HX.out.1.trans (hb1.mono HX.out.1.size)
      have HR : Hid (IvB w1 (w.heap.size + 1) 0 0) := HX.out.2.2.box hb1
      clear hb1 HK HX
      go_wp2
      refine bodyPost_ret (results_cell_row rfl _ _ (w.heap.size + 1) 24 #[.float .f64 x, .float .f64 y] (0, 0) _ rfl (HR.out.set _ _) Tryz.underlying24 rfl iv_info) rfl ?_
      exact ⟨congrArg Ending.returned HRV.out, below_store2 HB.out (by omega) _ _⟩
  · clear HM
    have HR : Hid (IvB W (w.heap.size + 1) 0 0) := HX.out.2.2
    go_wp2
    refine bodyPost_ret (results_cell_row rfl _ _ (w.heap.size + 1) 24 #[.float .f64 a, .float .f64 b] (0, 0) _ rfl (HR.out.set _ _) Tryz.underlying24 rfl iv_info) rfl ?_
    exact ⟨congrArg Ending.returned HRV.out, below_store2 HX.out.1 (by omega) _ _⟩
set_option maxHeartbeats 4000000 in
set_option maxRecDepth 200000 in
theorem sadded_1 (a b c d p q x y : Nat) (w : World)
    (k1 : ∀ W, Below w.heap.size w W → Calls Tryz.prog 36 #[.float .f64 a, .float .f64 c, .int .i64 1] W fun r w' => r = .returned (.float .f64 p) ∧ Below W.heap.size W w')
    (k2 : ∀ W, Below w.heap.size w W → Calls Tryz.prog 36 #[.float .f64 b, .float .f64 d, .int .i64 3] W fun r w' => r = .returned (.float .f64 q) ∧ Below W.heap.size W w')
    (k3 : ∀ W, Below w.heap.size w W → Calls Tryz.prog 26 #[.float .f64 p, .float .f64 q] W fun r w' => r = .returned (.agg #[.float .f64 x, .float .f64 y]) ∧ Below W.heap.size W w') :
    Calls Tryz.prog 20 #[.agg #[.float .f64 a, .float .f64 b], .agg #[.float .f64 c, .float .f64 d]] w fun r w' => r = .returned (.agg #[.float .f64 x, .float .f64 y]) ∧ Below w.heap.size w w' := by
  obtain ⟨W, hW⟩ : ∃ W, W = (((w.alloc (.cells #[.float .f64 a, .float .f64 b] 24)).alloc (.cells #[.float .f64 c, .float .f64 d] 24)).alloc (.cells #[.float .f64 0, .float .f64 0] 24)) := ⟨_, rfl⟩
  have HX : Hid (Below w.heap.size w W ∧ IvB W (w.heap.size) a b ∧ IvB W (w.heap.size + 1) c d ∧ IvB W (w.heap.size + 1 + 1) 0 0) := by
    rw [hW]
    exact ⟨bxs3_0 w a b c d 0 0, bxs3_1 w a b c d 0 0, bxs3_2 w a b c d 0 0, bxs3_3 w a b c d 0 0⟩
  have HK : Hid (∀ w', Below W.heap.size W w' → IvF w' (w.heap.size) a b ∧ IvF w' (w.heap.size + 1) c d ∧ IvF w' (w.heap.size + 1 + 1) 0 0) := fun w' hb => ⟨(HX.out.2.1).later hb, (HX.out.2.2.1).later hb, (HX.out.2.2.2).later hb⟩
  have HKK : Hid (∀ w', Below W.heap.size W w' → (w'.cell? ⟨w.heap.size, 0, none⟩ = some (.float .f64 a) ∧ w'.cell? ⟨w.heap.size, 1, none⟩ = some (.float .f64 b)) ∧ (w'.cell? ⟨w.heap.size + 1, 0, none⟩ = some (.float .f64 c) ∧ w'.cell? ⟨w.heap.size + 1, 1, none⟩ = some (.float .f64 d))) := fun w' hb => ⟨⟨(HK.out w' hb).1.1, (HK.out w' hb).1.2.1⟩, (HK.out w' hb).2.1.1, (HK.out w' hb).2.1.2.1⟩
  have hR : Below W.heap.size W W.drew := (Below.refl _ _).drew
  have q1 : ∀ W', Below W.heap.size W W' → Calls Tryz.prog 36 #[.float .f64 a, .float .f64 c, .int .i64 1] W' fun r w' => r = .returned (.float .f64 p) ∧ Below W.heap.size W w' := fun W' h => (k1 W' (HX.out.1.trans (h.mono HX.out.1.size))).mono fun r w' ⟨e1, e2⟩ => ⟨e1, h.trans (e2.mono h.size)⟩
  have q2 : ∀ W', Below W.heap.size W W' → Calls Tryz.prog 36 #[.float .f64 b, .float .f64 d, .int .i64 3] W' fun r w' => r = .returned (.float .f64 q) ∧ Below W.heap.size W w' := fun W' h => (k2 W' (HX.out.1.trans (h.mono HX.out.1.size))).mono fun r w' ⟨e1, e2⟩ => ⟨e1, h.trans (e2.mono h.size)⟩
  have q3 : ∀ W', Below W.heap.size W W' → Calls Tryz.prog 26 #[.float .f64 p, .float .f64 q] W' fun r w' => r = .returned (.agg #[.float .f64 x, .float .f64 y]) ∧ Below W.heap.size W w' ∧ (w'.cell? ⟨w.heap.size + 1 + 1, 0, none⟩ = some (.float .f64 0) ∧ w'.cell? ⟨w.heap.size + 1 + 1, 1, none⟩ = some (.float .f64 0) ∧ w'.frozen? ⟨w.heap.size + 1 + 1, 0, none⟩ = false ∧ w'.frozen? ⟨w.heap.size + 1 + 1, 1, none⟩ = false) := fun W' h => (k3 W' (HX.out.1.trans (h.mono HX.out.1.size))).mono fun r w' ⟨e1, e2⟩ => ⟨e1, h.trans (e2.mono h.size), (HK.out w' (h.trans (e2.mono h.size))).2.2⟩
  obtain ⟨⟨c0, c1⟩, c2, c3⟩ := HKK.out W (Below.refl _ _)
  clear k1 k2 k3
  go_enter Tryz.func20, Tryz.ntmps20
  go_upto_region 1 with fail
  rw [← hW]
  clear hW
  go_region_held3 (fun w' => (w'.cell? ⟨w.heap.size, 0, none⟩ = some (.float .f64 a) ∧ w'.cell? ⟨w.heap.size, 1, none⟩ = some (.float .f64 b)) ∧ (w'.cell? ⟨w.heap.size + 1, 0, none⟩ = some (.float .f64 c) ∧ w'.cell? ⟨w.heap.size + 1, 1, none⟩ = some (.float .f64 d))) (first | (with_reducible assumption) | exact HKK.out _ hR | (refine HKK.out _ ?_; with_reducible assumption) | (refine ⟨⟨?_, ?_⟩, ?_, ?_⟩ <;> (change World.cell? (World.setCell (World.setCell _ _ _) _ _) _ = _; rw [World.cell?_setCell_other _ _ _ _ (by first | (simp; done) | (simp; omega)), World.cell?_setCell_other _ _ _ _ (by first | (simp; done) | (simp; omega))]; first | exact (HKK.out _ hb7).1.1 | exact (HKK.out _ hb7).1.2 | exact (HKK.out _ hb7).2.1 | exact (HKK.out _ hb7).2.2)) | go_keep)
    (first | (go_at_call 36; with_reducible refine (q1 _ (by first | (with_reducible assumption) | exact hR)).mono ?_; rintro r w5 ⟨rfl, hb5⟩)
           | (go_at_call 36; with_reducible refine (q2 _ (by first | (with_reducible assumption) | exact hR)).mono ?_; rintro r w6 ⟨rfl, hb6⟩)
           | (go_at_call 26; with_reducible refine (q3 _ (by first | (with_reducible assumption) | exact hR)).mono ?_; rintro r w7 ⟨rfl, hb7, x0, x1, x2, x3⟩))
  have HB : Hid (Below w.heap.size w w7) := HX.out.1.trans (hb7.mono HX.out.1.size)
  have HR : Hid (IvB w7 (w.heap.size + 1 + 1) 0 0) := HX.out.2.2.2.box hb7
  clear q1 q2 q3 HKK HK HX hR hb7 x0 x1 x2 x3 c0 c1 c2 c3
  go_wp2_with fail
  refine bodyPost_ret (results_cell_row rfl _ _ (w.heap.size + 1 + 1) 24 #[.float .f64 x, .float .f64 y] (0, 0) _ rfl (HR.out.set _ _) Tryz.underlying24 rfl iv_info) rfl ?_
  first | exact ⟨rfl, below_store2 HB.out (by omega) _ _⟩ | exact ⟨rfl, (below_store2 HB.out (by omega) _ _).drew⟩
end Go.Proofs.YtlicjplmcepbnaaGreatDoor
/- Ends that are floats: what they round to, their order, their sums. -/
namespace Go.Proofs.YtlicjplmcepbnaaGreatDoor
set_option linter.unusedVariables false
set_option linter.unusedSimpArgs false
open Go.RowKit Go.Fl64

theorem tF_zero8 {a : Nat} (h : mag a = 0) : tF a = (false, 0, 0) := by
  obtain ⟨-, -, -, f4, -⟩ := (tF_ok a).facts
  refine f4 ?_
  unfold tF cn
  have hm : Ie.mant a = 0 := by
    have e := (val_mant a (by omega)).1
    rw [h, val_zero] at e
    have hp := Nat.two_pow_pos (Ie.lp a + 1074).toNat
    rcases Nat.mul_eq_zero.1 e.symm with h | h
    · exact h
    · omega
  rw [if_pos hm]
theorem tF_val8 {a : Nat} (hf : mag a < 9218868437227405312) (h0 : mag a ≠ 0) : (tF a).1 = neg a ∧ val (mag a) = (tF a).2.1 * 2 ^ ((tF a).2.2 + 1074).toNat ∧ -1074 ≤ (tF a).2.2 := by
  obtain ⟨e1, e2, e3⟩ := val_mant a hf
  have hm : Ie.mant a ≠ 0 := by
    intro h
    rw [h, Nat.zero_mul] at e1
    exact h0 ((val_eq_zero _).1 e1)
  have hs := tz_spec (Ie.mant a) (Ie.mant a) (Nat.le_refl _) hm
  unfold tF cn
  rw [if_neg hm]
  refine ⟨rfl, ?_, by show -1074 ≤ Ie.lp a + (tz (Ie.mant a) : Int); omega⟩
  show val (mag a) = Ie.mant a / 2 ^ tz (Ie.mant a) * 2 ^ (Ie.lp a + (tz (Ie.mant a) : Int) + 1074).toNat
  rw [e1, show (Ie.lp a + (tz (Ie.mant a) : Int) + 1074).toNat = tz (Ie.mant a) + (Ie.lp a + 1074).toNat by omega, Nat.pow_add, ← Nat.mul_assoc, Nat.mul_comm (Ie.mant a / 2 ^ tz (Ie.mant a)), hs.1]
theorem val_sgn8 {x : Nat} (hx : x < 18446744073709551616) : x = if neg x then mag x + 9223372036854775808 else mag x := by
  unfold neg mag
  split <;> rename_i h <;> simp only [decide_eq_true_eq] at h <;> omega
theorem eI_zero_fin {f : Nat} (hf : f < 18446744073709551616) (hn : isNaN f = false) : (eI f = 0 ↔ mag f < 9218868437227405312) := by
  have n' : ¬ 9218868437227405312 < mag f := of_decide_eq_false hn
  have hv := val_sgn8 hf
  unfold eI
  constructor
  · intro h
    by_cases h1 : mag f < 9218868437227405312
    · exact h1
    · exfalso
      have e : mag f = 9218868437227405312 := by omega
      rw [e] at hv
      cases hs : neg f
      · rw [hs] at hv
        rw [if_pos (by simpa using hv)] at h
        omega
      · rw [hs] at hv
        have hv2 : f = 18442240474082181120 := by simpa using hv
        rw [if_neg (by omega), if_pos hv2] at h
        omega
  · intro h
    rw [if_neg ?_, if_neg ?_]
    · rintro rfl; revert h; decide
    · rintro rfl; revert h; decide
end Go.Proofs.YtlicjplmcepbnaaGreatDoor
/- Ends that are floats: their signs, their order, their sums. -/
namespace Go.Proofs.YtlicjplmcepbnaaGreatDoor
set_option linter.unusedVariables false
set_option linter.unusedSimpArgs false
open Go.RowKit Go.Fl64

theorem cmpI_neg_iff (x y : Int) : (cmpI x y < 0 ↔ x < y) ∧ (0 < cmpI x y ↔ y < x) := by
  unfold cmpI
  constructor
  · split
    · omega
    · split <;> omega
  · split
    · omega
    · split <;> omega
theorem vz_tF8 {a : Nat} (ha : a < 18446744073709551616) (hf : mag a < 9218868437227405312) : vz 5000000 (tF a).1 (tF a).2.1 (tF a).2.2 = vz 5000000 (nN a) (nM a) (Ie.sE a) := by
  obtain ⟨M, hM, hl⟩ := sM_lt a ha
  have hc := cn_parts a M ha hf hM
  have hn : nM a = M := by unfold nM; rw [hM]; rfl
  have hb : 0 ≤ Ie.sE a + (5000000 : Nat) := by
    have := (sE_le a).1
    omega
  rw [← hc, vz_cn hb, hn]
  unfold nN
  by_cases h0 : mag a = 0
  · have : M = 0 := by
      rcases of_parts a M ha hf hM with ⟨h1, h2⟩ | ⟨h1, h2, -, h3, h4⟩
      · omega
      · exfalso
        have e := tF_zero8 h0
        rw [← hc] at e
        unfold cn at e
        by_cases hM0 : M = 0
        · omega
        · rw [if_neg hM0] at e
          have e2 : M / 2 ^ tz M = 0 := congrArg (fun t => t.2.1) e
          have hs := tz_spec M M (Nat.le_refl _) hM0
          rw [e2] at hs
          have := hs.1
          omega
    subst this
    unfold vz
    rw [sv_zero, sv_zero]
  · rw [if_neg h0]
theorem tF_e5000000 (a : Nat) : 0 ≤ (tF a).2.2 + (5000000 : Nat) := by
  obtain ⟨f1, f2, f3, f4, f5⟩ := (tF_ok a).facts
  omega
theorem sE_e5000000 {a : Nat} (ha : a < 18446744073709551616) (hf : mag a < 9218868437227405312) : 0 ≤ Ie.sE a + (5000000 : Nat) := by
  have := (sE_le a).1
  omega
theorem ord_tF8 {a b : Nat} (ha : a < 18446744073709551616) (hb : b < 18446744073709551616) (fa : mag a < 9218868437227405312) (fb : mag b < 9218868437227405312) :
    ordN (tF a).1 (tF a).2.1 (tF a).2.2 (tF b).1 (tF b).2.1 (tF b).2.2 = cmpI (stp a) (stp b) := by
  rw [ordN_vz (tF_e5000000 a) (tF_e5000000 b), vz_tF8 ha fa, vz_tF8 hb fb, ← ordN_vz (sE_e5000000 ha fa) (sE_e5000000 hb fb)]
  exact ord_num fa fb
theorem inf_or {f : Nat} (hf : f < 18446744073709551616) (hn : isNaN f = false) : (mag f < 9218868437227405312 ∧ eI f = 0 ∧ eT f = tF f) ∨ (f = 9218868437227405312 ∧ eI f = 1) ∨ (f = 18442240474082181120 ∧ eI f = -1) := by
  by_cases h : eI f = 0
  · exact .inl ⟨(eI_zero_fin hf hn).1 h, h, by unfold eT; rw [if_pos h]⟩
  · by_cases h1 : f = 9218868437227405312
    · exact .inr (.inl ⟨h1, by rw [h1]; decide⟩)
    · by_cases h2 : f = 18442240474082181120
      · exact .inr (.inr ⟨h2, by rw [h2]; decide⟩)
      · exfalso
        apply h
        unfold eI
        rw [if_neg h1, if_neg h2]
/-- sums -/
theorem enF_plus {a c : Nat} (ha : a < 18446744073709551616) (hc : c < 18446744073709551616) (na : isNaN a = false) (nc : isNaN c = false) (hx : ¬ (eI a = 1 ∧ eI c = -1)) (hy : ¬ (eI a = -1 ∧ eI c = 1)) {m : Int} (hm : 1 ≤ m ∧ m ≤ 3) :
    enF (eI a + eI c) (plT (eI a) (eI c) (eT a) (eT c)) m = pl (fAdM a c m) := by
  have fI : fin 9218868437227405312 = false := by decide
  have fN : fin 18442240474082181120 = false := by decide
  unfold enF plT fAdM
  rcases inf_or ha na with ⟨fa, ia, ta⟩ | ⟨rfl, ia⟩ | ⟨rfl, ia⟩ <;> rcases inf_or hc nc with ⟨fb, ib, tb⟩ | ⟨rfl, ib⟩ | ⟨rfl, ib⟩
  · have f1 : fin a = true := decide_eq_true fa
    have f2 : fin c = true := decide_eq_true fb
    rw [ia, ib, if_pos (by omega), if_pos (by omega), ta, tb, if_neg (by rw [f1, f2]; simp)]
    unfold toD
    by_cases h0 : (tS (tF a) (tF c)).2.1 = 0
    · rw [if_pos h0, if_pos h0]
      cases z0 (neg a) (neg c) m <;> rfl
    · rw [if_neg h0, if_neg h0]
  · rw [ia, ib, if_neg (by omega), if_pos (by omega), if_pos (.inr fI)]
    unfold addX
    rw [na, nc, if_neg (by simp), if_neg (by omega)]
    rfl
  · rw [ia, ib, if_neg (by omega), if_neg (by omega), if_pos (.inr fN)]
    unfold addX
    rw [na, nc, if_neg (by simp), if_neg (by omega)]
    rfl
  · rw [ia, ib, if_neg (by omega), if_pos (by omega), if_pos (.inl fI)]
    unfold addX
    rw [na, nc, if_neg (by simp), if_pos (by decide), if_neg (by omega)]
    rfl
  · rw [ia, if_neg (by omega), if_pos (by omega), if_pos (.inl fI)]; decide
  · exact absurd ⟨ia, ib⟩ hx
  · rw [ia, ib, if_neg (by omega), if_neg (by omega), if_pos (.inl fN)]
    unfold addX
    rw [na, nc, if_neg (by simp), if_pos (by decide), if_neg (by omega)]
    rfl
  · exact absurd ⟨ia, ib⟩ hy
  · rw [ia, if_neg (by omega), if_neg (by omega), if_pos (.inl fN)]; decide
end Go.Proofs.YtlicjplmcepbnaaGreatDoor
/- SpanSums. -/
namespace Go.Proofs.YtlicjplmcepbnaaGreatDoor
set_option linter.unusedVariables false
set_option linter.unusedSimpArgs false
open Go.RowKit Go.Fl64
attribute [local go_sem] run_store_flt

theorem toD_nn (t : Bool × Nat × Int) {m : Int} (hm : 1 ≤ m ∧ m ≤ 3) : isNaN (toD t m) = false := by
  unfold toD
  split
  · decide
  · rw [tf_bdy hm]
    have h := bdy_le t.2.1 t.2.2 (wyN t.1 m)
    unfold isNaN
    rw [(mag_sig h).1]
    exact decide_eq_false (by omega)
theorem enF_nn (i : Int) (t : Bool × Nat × Int) {m : Int} (hm : 1 ≤ m ∧ m ≤ 3) : isNaN (enF i t m) = false := by
  unfold enF
  split
  · rw [pl_nan]; exact toD_nn t hm
  · split <;> decide
theorem fAdM_nn {a c : Nat} (ha : a < 18446744073709551616) (hc : c < 18446744073709551616) (na : isNaN a = false) (nc : isNaN c = false) (hx : ¬ (eI a = 1 ∧ eI c = -1)) (hy : ¬ (eI a = -1 ∧ eI c = 1)) {m : Int} (hm : 1 ≤ m ∧ m ≤ 3) : isNaN (fAdM a c m) = false := by
  rw [← pl_nan, ← enF_plus ha hc na nc hx hy hm]
  exact enF_nn _ _ hm
theorem fAdM_lt {a c : Nat} (ha : a < 18446744073709551616) (hc : c < 18446744073709551616) {m : Int} (hm : 1 ≤ m ∧ m ≤ 3) : fAdM a c m < 18446744073709551616 := (faddM_p a c m hm ha hc).1
/-- the lower end is never +Inf, the upper one never -Inf -/
theorem vI_ends {a b : Nat} (h : vI a b = true) : eI a ≠ 1 ∧ eI b ≠ -1 := by
  unfold vI at h
  simp only [Bool.and_eq_true] at h
  constructor
  · intro e
    have : a = 9218868437227405312 := by
      unfold eI at e
      by_cases h1 : a = 9218868437227405312
      · exact h1
      · rw [if_neg h1] at e
        split at e <;> omega
    have h2 := h.1.1.1.2
    rw [this] at h2
    revert h2
    decide
  · intro e
    have : b = 18442240474082181120 := by
      unfold eI at e
      by_cases h1 : b = 9218868437227405312
      · rw [if_pos h1] at e; omega
      · rw [if_neg h1] at e
        by_cases h2 : b = 18442240474082181120
        · exact h2
        · rw [if_neg h2] at e; omega
    have h2 := h.1.1.2
    rw [this] at h2
    revert h2
    decide
theorem eT_fits (f : Nat) : Fits (-1074) 1025 (eT f).2.1 (eT f).2.2 := by
  unfold eT
  split
  · exact tF_fits f
  · exact .inl rfl
theorem plT_ok2 (i j : Int) {t u : Bool × Nat × Int} (o1 : Ok t) (o2 : Ok u) (f1 : Fits (-1074) 1025 t.2.1 t.2.2) (f2 : Fits (-1074) 1025 u.2.1 u.2.2) : Ok (plT i j t u) := by
  unfold plT
  split
  · exact ok_cn (tS_okR f1 f2 (by omega) (by omega) (by omega))
  · unfold Ok; rw [dlen_zero]; rfl
theorem plT_ok (i j : Int) (a c : Nat) : Ok (plT i j (eT a) (eT c)) := plT_ok2 i j (eT_ok a) (eT_ok c) (eT_fits a) (eT_fits c)
theorem sadded (a b c d : Nat) (w : World) (ha : a < 18446744073709551616) (hb : b < 18446744073709551616) (hc : c < 18446744073709551616) (hd : d < 18446744073709551616) (hT : Tab32 w) (hJ : Ie.Tab w) (n1 : isNaN (fAdM a c 1) = false) (n2 : isNaN (fAdM b d 3) = false) :
    Calls Tryz.prog 20 #[.agg #[.float .f64 a, .float .f64 b], .agg #[.float .f64 c, .float .f64 d]] w fun r w' => r = .returned (.agg #[.float .f64 (pl (fAdM a c 1)), .float .f64 (pl (fAdM b d 3))]) ∧ Below w.heap.size w w' := by
  refine sadded_1 a b c d (fAdM a c 1) (fAdM b d 3) _ _ w (fun W h => ?_) (fun W h => ?_) (fun W h => sbetween _ _ W (fAdM_lt ha hc (by omega)) (fAdM_lt hb hd (by omega)))
  · refine (faddM a c 1 (by omega) ha hc W (hT.later h) (Tab.later hJ h)).mono ?_
    rintro r w' ⟨n, rfl, hl, hb'⟩
    rw [hl.eq n1]
    exact ⟨rfl, hb'⟩
  · refine (faddM b d 3 (by omega) hb hd W (hT.later h) (Tab.later hJ h)).mono ?_
    rintro r w' ⟨n, rfl, hl, hb'⟩
    rw [hl.eq n2]
    exact ⟨rfl, hb'⟩
theorem sadd (a b c d : Nat) (w : World) (ha : a < 18446744073709551616) (hb : b < 18446744073709551616) (hc : c < 18446744073709551616) (hd : d < 18446744073709551616) (hT : Tab32 w) (hJ : Ie.Tab w) :
    Calls Tryz.prog 7 #[.agg #[.float .f64 a, .float .f64 b], .agg #[.float .f64 c, .float .f64 d]] w fun r w' => r = .returned (orV (vI a b && vI c d) (pl (fAdM a c 1)) (pl (fAdM b d 3)) (.int .i64 0) (.int .i64 1)) ∧ Below w.heap.size w w' := by
  refine sadd_1 a b c d _ _ _ w (fun W g T h => smaybe h ha hb hc hd) (fun hv W h => ?_)
  rw [Bool.and_eq_true] at hv
  obtain ⟨x1, x2⟩ := vI_ends hv.1
  obtain ⟨y1, y2⟩ := vI_ends hv.2
  exact sadded a b c d W ha hb hc hd (hT.later h) (Tab.later hJ h) (fAdM_nn ha hc (vI_nn hv.1).1 (vI_nn hv.2).1 (fun e => x1 e.1) (fun e => y1 e.2) (by omega)) (fAdM_nn hb hd (vI_nn hv.1).2 (vI_nn hv.2).2 (fun e => y2 e.2) (fun e => x2 e.1) (by omega))
/-- the magnitudes -/
def mgX (a b : Nat) : Nat := if le 0 a then a else if le b 0 then pl (ngt b) else 0
def mgY (a b : Nat) : Nat := if le 0 a then b else if le b 0 then pl (ngt a) else fMax (ngt a) b
theorem smag (a b : Nat) (w : World) (ha : a < 18446744073709551616) (hb : b < 18446744073709551616) (na : isNaN a = false) (nb : isNaN b = false) :
    Calls Tryz.prog 25 #[.agg #[.float .f64 a, .float .f64 b]] w fun r w' => r = .returned (.agg #[.float .f64 (mgX a b), .float .f64 (mgY a b)]) ∧ Below w.heap.size w w' := by
  have k := smag_1 a b (pl (ngt b)) (pl (ngt a)) (fMax (ngt a) b) (le 0 a) (le b 0) w (ord_ge a 0 ha (by omega)) (ord_le b 0 hb (by omega)) (fun w => by rw [← negF a ha]; rfl) (fun _ _ W ts t => run_fmax W ts t _ _ (ngt_lt ha) hb (by rw [ngt_nan8 ha]; exact na) nb) (fun W => sturned a b W ha hb)
  unfold mgX mgY
  cases h1 : le 0 a
  · cases h2 : le b 0
    · rw [h1, h2] at k; exact k
    · rw [h1, h2] at k; exact k
  · rw [h1] at k; exact k
end Go.Proofs.YtlicjplmcepbnaaGreatDoor
/- The document's Mid. -/
namespace Go.Proofs.YtlicjplmcepbnaaGreatDoor
set_option linter.unusedVariables false
set_option linter.unusedSimpArgs false
open Go.RowKit Go.Fl64
attribute [local go_sem] run_store_flt

end Go.Proofs.YtlicjplmcepbnaaGreatDoor
/- The document's Half, its second region. -/
namespace Go.Proofs.YtlicjplmcepbnaaGreatDoor
set_option linter.unusedVariables false
set_option linter.unusedSimpArgs false
open Go.RowKit Go.Fl64
attribute [local go_sem] run_store_flt

end Go.Proofs.YtlicjplmcepbnaaGreatDoor
/- The document's Half. -/
namespace Go.Proofs.YtlicjplmcepbnaaGreatDoor
set_option linter.unusedVariables false
set_option linter.unusedSimpArgs false
open Go.RowKit Go.Fl64
attribute [local go_sem] run_store_flt

end Go.Proofs.YtlicjplmcepbnaaGreatDoor
/- The document's Rad. -/
namespace Go.Proofs.YtlicjplmcepbnaaGreatDoor
set_option linter.unusedVariables false
set_option linter.unusedSimpArgs false
open Go.RowKit Go.Fl64
attribute [local go_sem] run_store_flt

end Go.Proofs.YtlicjplmcepbnaaGreatDoor
/- Middles in numbers. -/
namespace Go.Proofs.YtlicjplmcepbnaaGreatDoor
set_option linter.unusedVariables false
set_option linter.unusedSimpArgs false
open Go.RowKit Go.Fl64
attribute [local go_sem] run_store_flt

/-- the value of a number -/
def V8 (t : Bool × Nat × Int) : Int := vz 5000000 t.1 t.2.1 t.2.2
theorem V8_zero : V8 (false, 0, 0) = 0 := vz_zero _ _ _
def E8 (t : Bool × Nat × Int) : Prop := Fits (-1074) 1025 t.2.1 t.2.2 ∧ 0 ≤ t.2.2 + (5000000 : Nat) ∧ Ok t
theorem E8_tF (a : Nat) : E8 (tF a) := ⟨tF_fits a, tF_e5000000 a, tF_ok a⟩
theorem V8_sum {t u : Bool × Nat × Int} (h1 : E8 t) (h2 : E8 u) : V8 (tS t u) = V8 t + V8 u := vz_tS h1.1 h2.1 h1.2.1 h2.2.1 (by omega)
theorem Ok.e8 {t : Bool × Nat × Int} (h : Ok t) : 0 ≤ t.2.2 + (5000000 : Nat) := by
  have := h.facts
  omega
theorem toD_tf {t : Bool × Nat × Int} (h : Ok t) {m : Int} (hm : 1 ≤ m ∧ m ≤ 3) : toD t m = tfF t.1 true t.2.1 t.2.2 m := by
  unfold toD
  by_cases h0 : t.2.1 = 0
  · rw [if_pos h0, h.facts.2.2.2.1 h0]
    rcases (show m = 1 ∨ m = 2 ∨ m = 3 by omega) with rfl | rfl | rfl <;> decide +kernel
  · rw [if_neg h0]
theorem toD_mono {t u : Bool × Nat × Int} (h1 : Ok t) (h2 : Ok u) {m : Int} (hm : 1 ≤ m ∧ m ≤ 3) (h : V8 t ≤ V8 u) : stp (toD t m) ≤ stp (toD u m) := by
  rw [toD_tf h1 hm, toD_tf h2 hm]
  exact ord_round (K := 5000000) (by omega) (s := t.1) (x := t.2.1) (e := t.2.2) (t := u.1) (y := u.2.1) (f := u.2.2) h1 h2 hm h
theorem V8_cmp {a b : Nat} (ha : a < 18446744073709551616) (hb : b < 18446744073709551616) (fa : mag a < 9218868437227405312) (fb : mag b < 9218868437227405312) : V8 (tF a) ≤ V8 (tF b) ↔ stp a ≤ stp b := by
  have k := ord_tF8 ha hb fa fb
  rw [ordN_vz (tF_e5000000 a) (tF_e5000000 b)] at k
  have h1 := (cmpI_neg_iff (V8 (tF a)) (V8 (tF b))).2
  have h2 := (cmpI_neg_iff (stp a) (stp b)).2
  have k : cmpI (V8 (tF a)) (V8 (tF b)) = cmpI (stp a) (stp b) := k
  rw [k] at h1
  constructor
  · intro h
    by_cases h' : stp a ≤ stp b
    · exact h'
    · have := h1.1 (h2.2 (by omega)); omega
  · intro h
    by_cases h' : V8 (tF a) ≤ V8 (tF b)
    · exact h'
    · have := h2.1 (h1.2 (by omega)); omega
end Go.Proofs.YtlicjplmcepbnaaGreatDoor
/- Middles joined. -/
namespace Go.Proofs.YtlicjplmcepbnaaGreatDoor
set_option linter.unusedVariables false
set_option linter.unusedSimpArgs false
open Go.RowKit Go.Fl64
attribute [local go_sem] run_store_flt

end Go.Proofs.YtlicjplmcepbnaaGreatDoor
/- SpanMiddles. -/
namespace Go.Proofs.YtlicjplmcepbnaaGreatDoor
set_option linter.unusedVariables false
set_option linter.unusedSimpArgs false
open Go.RowKit Go.Fl64
attribute [local go_sem] run_store_flt

end Go.Proofs.YtlicjplmcepbnaaGreatDoor
/- The document's ends multiplied. -/
namespace Go.Proofs.YtlicjplmcepbnaaGreatDoor
set_option linter.unusedVariables false
set_option linter.unusedSimpArgs false
open Go.RowKit Go.Fl64
attribute [local go_sem] run_store_flt

/-- two ends multiplied -/
def tmI (i j : Int) (t u : Bool × Nat × Int) : Int := if sgE i t = 0 ∨ sgE j u = 0 then 0 else if i ≠ 0 ∨ j ≠ 0 then sgE i t * sgE j u else 0
def tmT (i j : Int) (t u : Bool × Nat × Int) : Bool × Nat × Int := if sgE i t = 0 ∨ sgE j u = 0 then (false, 0, 0) else if i ≠ 0 ∨ j ≠ 0 then (false, 0, 0) else tM t u
theorem sgE_b {i : Int} (t : Bool × Nat × Int) (h : -1 ≤ i ∧ i ≤ 1) : -1 ≤ sgE i t ∧ sgE i t ≤ 1 := by
  unfold sgE
  split
  · split
    · omega
    · split <;> omega
  · exact h
theorem mul_b {x y : Int} (h1 : -1 ≤ x ∧ x ≤ 1) (h2 : -1 ≤ y ∧ y ≤ 1) : -1 ≤ x * y ∧ x * y ≤ 1 := by
  rcases (show x = -1 ∨ x = 0 ∨ x = 1 by omega) with rfl | rfl | rfl <;> omega
end Go.Proofs.YtlicjplmcepbnaaGreatDoor
/- The least and the greatest of ends. -/
namespace Go.Proofs.YtlicjplmcepbnaaGreatDoor
set_option linter.unusedVariables false
set_option linter.unusedSimpArgs false
open Go.RowKit Go.Fl64
attribute [local go_sem] run_store_flt

end Go.Proofs.YtlicjplmcepbnaaGreatDoor
/- The document's Mul. -/
namespace Go.Proofs.YtlicjplmcepbnaaGreatDoor
set_option linter.unusedVariables false
set_option linter.unusedSimpArgs false
open Go.RowKit Go.Fl64
attribute [local go_sem] run_store_flt

end Go.Proofs.YtlicjplmcepbnaaGreatDoor
/- Products of ends in numbers. -/
namespace Go.Proofs.YtlicjplmcepbnaaGreatDoor
set_option linter.unusedVariables false
set_option linter.unusedSimpArgs false
open Go.RowKit Go.Fl64
attribute [local go_sem] run_store_flt

theorem mag_le8 {x : Nat} (nx : isNaN x = false) : mag x ≤ 9218868437227405312 := by
  have n' : ¬ 9218868437227405312 < mag x := of_decide_eq_false nx
  omega
theorem sgn8 {x : Nat} (hx : x < 18446744073709551616) (nx : isNaN x = false) : sgE (eI x) (eT x) = if mag x = 0 then 0 else if neg x then -1 else 1 := by
  rcases inf_or hx nx with ⟨f, e, t⟩ | ⟨rfl, e⟩ | ⟨rfl, e⟩
  · rw [e, t]
    unfold sgE
    rw [if_pos rfl]
    by_cases h0 : mag x = 0
    · rw [if_pos h0, tF_zero8 h0]; rfl
    · have k := tF_val8 f h0
      have h1 : (tF x).2.1 ≠ 0 := by
        intro h
        rw [h, Nat.zero_mul] at k
        have := (val_eq_zero (mag x)).1 k.2.1
        exact h0 this
      rw [if_neg h0, if_neg h1, k.1]
  · rw [e]; decide
  · rw [e]; decide
theorem fin_iff8 {x : Nat} (hx : x < 18446744073709551616) (nx : isNaN x = false) : eI x = 0 ↔ mag x < 9218868437227405312 := eI_zero_fin hx nx
theorem onF_nn {x : Nat} (h : isNaN x = false) : onF x = x := by unfold onF; rw [h]; rfl
theorem mul_zero8 {x y : Nat} (hx : x < 18446744073709551616) (hy : y < 18446744073709551616) (nx : isNaN x = false) (ny : isNaN y = false) {m : Int} (hm : 1 ≤ m ∧ m ≤ 3) (h : mag x = 0 ∨ mag y = 0) : pl (onF (fMul x y m)) = 0 := by
  have hM : isM m = true := by unfold isM; rcases (show m = 1 ∨ m = 2 ∨ m = 3 by omega) with rfl | rfl | rfl <;> rfl
  have hp : pln x = false ∨ pln y = false := by
    unfold pln
    rcases h with h | h
    · left; rw [h]; rfl
    · right; rw [h]; rfl
  unfold fMul
  rw [hM, if_neg (by simp), if_pos hp]
  unfold mulX
  rw [nx, ny, if_neg (by simp)]
  split
  · first | decide | (rw [if_pos h]; decide)
  · cases (neg x != neg y) <;> decide
theorem enF_times {x y : Nat} (hx : x < 18446744073709551616) (hy : y < 18446744073709551616) (nx : isNaN x = false) (ny : isNaN y = false) {m : Int} (hm : 1 ≤ m ∧ m ≤ 3) : enF (tmI (eI x) (eI y) (eT x) (eT y)) (tmT (eI x) (eI y) (eT x) (eT y)) m = pl (onF (fMul x y m)) := by
  have hM : isM m = true := by unfold isM; rcases (show m = 1 ∨ m = 2 ∨ m = 3 by omega) with rfl | rfl | rfl <;> rfl
  have sx := sgn8 hx nx
  have sy := sgn8 hy ny
  unfold tmI tmT
  by_cases h0 : mag x = 0 ∨ mag y = 0
  · have hz : sgE (eI x) (eT x) = 0 ∨ sgE (eI y) (eT y) = 0 := by
      rw [sx, sy]
      rcases h0 with h | h
      · left; rw [if_pos h]
      · right; rw [if_pos h]
    rw [if_pos hz, if_pos hz, enF_0, mul_zero8 hx hy nx ny hm h0]
  have x0 : mag x ≠ 0 := by omega
  have y0 : mag y ≠ 0 := by omega
  rw [if_neg x0] at sx
  rw [if_neg y0] at sy
  have hz : ¬ (sgE (eI x) (eT x) = 0 ∨ sgE (eI y) (eT y) = 0) := by
    rw [sx, sy]
    cases neg x <;> cases neg y <;> simp
  rw [if_neg hz, if_neg hz]
  have ex := fin_iff8 hx nx
  have ey := fin_iff8 hy ny
  have mx := mag_le8 nx
  have my := mag_le8 ny
  by_cases hi : eI x ≠ 0 ∨ eI y ≠ 0
  · rw [if_pos hi, if_pos hi]
    have hin : mag x = 9218868437227405312 ∨ mag y = 9218868437227405312 := by
      rcases hi with h | h
      · left; have : ¬ mag x < 9218868437227405312 := fun h' => h (ex.2 h'); omega
      · right; have : ¬ mag y < 9218868437227405312 := fun h' => h (ey.2 h'); omega
    have hp : pln x = false ∨ pln y = false := by
      unfold pln
      rcases hin with h | h
      · left; rw [h]; rfl
      · right; rw [h]; rfl
    unfold fMul
    rw [hM, if_neg (by simp), if_pos hp]
    unfold mulX
    rw [nx, ny, if_neg (by simp), if_pos hin, if_neg h0, sx, sy]
    unfold enF
    generalize pl (toD (false, 0, 0) m) = q
    cases neg x <;> cases neg y <;> rfl
  · rw [if_neg hi, if_neg hi]
    have x1 : eI x = 0 := by omega
    have y1 : eI y = 0 := by omega
    have tx : eT x = tF x := by unfold eT; rw [if_pos x1]
    have ty : eT y = tF y := by unfold eT; rw [if_pos y1]
    have px : pln x = true := by unfold pln; rw [decide_eq_true (ex.1 x1), decide_eq_true x0]; rfl
    have py : pln y = true := by unfold pln; rw [decide_eq_true (ey.1 y1), decide_eq_true y0]; rfl
    have o : Ok (tM (tF x) (tF y)) := tM_ok (tM_okR x y)
    have e : fMul x y m = toD (tM (tF x) (tF y)) m := by
      unfold fMul
      rw [hM, if_neg (by simp), if_neg (by rw [px, py]; simp), toD_tf o hm]
    have k := enF_nn 0 (tM (tF x) (tF y)) hm
    have e2 : enF 0 (tM (tF x) (tF y)) m = pl (toD (tM (tF x) (tF y)) m) := by unfold enF; rw [if_pos rfl]
    rw [e2, pl_nan] at k
    rw [tx, ty, e2, e, onF_nn k]
/-- ends in their order -/
def xle (i j : Int) (t u : Bool × Nat × Int) : Prop := i < j ∨ (i = j ∧ (i = 0 → V8 t ≤ V8 u))
theorem xle_refl (i : Int) (t : Bool × Nat × Int) : xle i i t t := .inr ⟨rfl, fun _ => Int.le_refl _⟩
end Go.Proofs.YtlicjplmcepbnaaGreatDoor
/- Mul joined. -/
namespace Go.Proofs.YtlicjplmcepbnaaGreatDoor
set_option linter.unusedVariables false
set_option linter.unusedSimpArgs false
open Go.RowKit Go.Fl64
attribute [local go_sem] run_store_flt

theorem enF_nZ (i : Int) (t : Bool × Nat × Int) (m : Int) : enF i t m ≠ 9223372036854775808 := by
  unfold enF
  split
  · unfold pl
    split
    · decide
    · assumption
  · split <;> decide
theorem pl_nZ (x : Nat) : pl x ≠ 9223372036854775808 := by
  unfold pl
  split
  · decide
  · assumption
end Go.Proofs.YtlicjplmcepbnaaGreatDoor
