/- Own work: contracts of the program's functions, part 14: SNT SNU SNV SNW SNX SNY SNZ SO1 SO2 SO3 SO4 SO5 SO6 SO7 SO8 SP5 SQ2 SQ3 SQ1 SP1 SP2 SP3. -/
import Derived.Test.YtcoclopllbfjcaaGreatDoorA13
import Derived.Test.YtcoclopllbfjcaaGreatDoorA10
import Derived.Test.YtcoclopllbfjcaaGreatDoorA9
import Derived.Test.YtcoclopllbfjcaaGreatDoorA11
import Derived.Test.YtcoclopllbfjcaaGreatDoorA12
import Derived.Test.YtcoclopllbfjcaaGreatDoorA2
import Derived.Test.YtcoclopllbfjcaaGreatDoorA6
import Derived.Test.YtcoclopllbfjcaaGreatDoorA8

/- Ends that are floats: what they round to, their order, their sums. -/
namespace Go.Proofs.YtcoclopllbfjcaaGreatDoor
set_option linter.unusedVariables false
set_option linter.unusedSimpArgs false
open Go.RowKit Go.Fl64

theorem tF_zero8 {a : Nat} (h : mag a = 0) : tF a = (false, 0, 0) := by
  obtain ⟨-, -, -, f4, -⟩ := (tF_ok a).facts
  refine f4 ?_
  unfold tF cn
  have hm : Ie.mant a = 0 := by
    have e := (val_mant a (by omega)).1
    rw [h, val_zero] at e
    have hp := Nat.two_pow_pos (Ie.lp a + 1074).toNat
    rcases Nat.mul_eq_zero.1 e.symm with h | h
    · exact h
    · omega
  rw [if_pos hm]
theorem tF_ngt8 {b : Nat} (hb : b < 18446744073709551616) (h0 : mag b ≠ 0) : tF (ngt b) = (!(tF b).1, (tF b).2.1, (tF b).2.2) := by
  have e1 : Ie.mant (ngt b) = Ie.mant b := by unfold Ie.mant; rw [ngt_mag hb]
  have e2 : Ie.lp (ngt b) = Ie.lp b := by unfold Ie.lp; rw [ngt_mag hb]
  unfold tF cn
  rw [e1, e2, ngt_neg hb, if_neg (Ie.mant_ne h0), if_neg (Ie.mant_ne h0)]
theorem tf_cn8 {s : Bool} {z : Nat} {e m : Int} (hm : 1 ≤ m ∧ m ≤ 3) (h : z ≠ 0) : tfF (cn s z e).1 true (cn s z e).2.1 (cn s z e).2.2 m = tfF s true z e m := by
  have hs := tz_spec z z (Nat.le_refl _) h
  unfold cn
  rw [if_neg h]
  show tfF s true (z / 2 ^ tz z) (e + (tz z : Int)) m = _
  rw [← tf_shl hm, Nat.mul_comm, hs.1]
theorem tF_val8 {a : Nat} (hf : mag a < 9218868437227405312) (h0 : mag a ≠ 0) : (tF a).1 = neg a ∧ val (mag a) = (tF a).2.1 * 2 ^ ((tF a).2.2 + 1074).toNat ∧ -1074 ≤ (tF a).2.2 := by
  obtain ⟨e1, e2, e3⟩ := val_mant a hf
  have hm : Ie.mant a ≠ 0 := by
    intro h
    rw [h, Nat.zero_mul] at e1
    exact h0 ((val_eq_zero _).1 e1)
  have hs := tz_spec (Ie.mant a) (Ie.mant a) (Nat.le_refl _) hm
  unfold tF cn
  rw [if_neg hm]
  refine ⟨rfl, ?_, by show -1074 ≤ Ie.lp a + (tz (Ie.mant a) : Int); omega⟩
  show val (mag a) = Ie.mant a / 2 ^ tz (Ie.mant a) * 2 ^ (Ie.lp a + (tz (Ie.mant a) : Int) + 1074).toNat
  rw [e1, show (Ie.lp a + (tz (Ie.mant a) : Int) + 1074).toNat = tz (Ie.mant a) + (Ie.lp a + 1074).toNat by omega, Nat.pow_add, ← Nat.mul_assoc, Nat.mul_comm (Ie.mant a / 2 ^ tz (Ie.mant a)), hs.1]
theorem tf_tF8 {a : Nat} (ha : a < 18446744073709551616) (hf : mag a < 9218868437227405312) (h0 : mag a ≠ 0) (m : Int) (hm : 1 ≤ m ∧ m ≤ 3) : tfF (neg a) true (tF a).2.1 (tF a).2.2 m = a := by
  obtain ⟨M, hM, hl⟩ := sM_lt a ha
  have hc := cn_parts a M ha hf hM
  have hn : nM a = M := by unfold nM; rw [hM]; rfl
  have hb := tf_back ha hf m hm
  rw [if_neg h0, hn, show nN a = neg a by unfold nN; rw [if_neg h0]] at hb
  have hM0 : M ≠ 0 := by
    intro h
    rw [h] at hc
    have := tF_ne h0
    rw [← hc] at this
    exact this rfl
  have := tf_cn8 (s := neg a) (e := Ie.sE a) hm hM0
  rw [hc, (tF_val8 hf h0).1] at this
  rw [this, hb]
theorem val_sgn8 {x : Nat} (hx : x < 18446744073709551616) : x = if neg x then mag x + 9223372036854775808 else mag x := by
  unfold neg mag
  split <;> rename_i h <;> simp only [decide_eq_true_eq] at h <;> omega
theorem ngt_ngt8 {a : Nat} (h : a < 18446744073709551616) : ngt (ngt a) = a := by
  unfold ngt neg
  split <;> rename_i h1 <;> simp only [decide_eq_true_eq] at h1 <;> split <;> rename_i h2 <;> simp only [decide_eq_true_eq] at h2 <;> omega
theorem eI_zero_fin {f : Nat} (hf : f < 18446744073709551616) (hn : isNaN f = false) : (eI f = 0 ↔ mag f < 9218868437227405312) := by
  have n' : ¬ 9218868437227405312 < mag f := of_decide_eq_false hn
  have hv := val_sgn8 hf
  unfold eI
  constructor
  · intro h
    by_cases h1 : mag f < 9218868437227405312
    · exact h1
    · exfalso
      have e : mag f = 9218868437227405312 := by omega
      rw [e] at hv
      cases hs : neg f
      · rw [hs] at hv
        rw [if_pos (by simpa using hv)] at h
        omega
      · rw [hs] at hv
        have hv2 : f = 18442240474082181120 := by simpa using hv
        rw [if_neg (by omega), if_pos hv2] at h
        omega
  · intro h
    rw [if_neg ?_, if_neg ?_]
    · rintro rfl; revert h; decide
    · rintro rfl; revert h; decide
theorem eI_ngt {f : Nat} (hf : f < 18446744073709551616) : eI (ngt f) = -eI f := by
  unfold eI
  by_cases h1 : f = 9218868437227405312
  · subst h1; decide
  · by_cases h2 : f = 18442240474082181120
    · subst h2; decide
    · rw [if_neg h1, if_neg h2, if_neg ?_, if_neg ?_]
      · rfl
      · intro h; exact h1 (by rw [← ngt_ngt8 hf, h]; decide)
      · intro h; exact h2 (by rw [← ngt_ngt8 hf, h]; decide)
theorem eT_ngt {f : Nat} (hf : f < 18446744073709551616) : eT (ngt f) = tNeg (eT f) := by
  unfold eT
  rw [eI_ngt hf]
  by_cases h : eI f = 0
  · rw [if_pos h, if_pos (by omega)]
    unfold tNeg
    by_cases h0 : mag f = 0
    · have h0' : mag (ngt f) = 0 := by rw [ngt_mag hf]; exact h0
      rw [tF_zero8 h0, tF_zero8 h0', if_pos rfl]
    · rw [if_neg (tF_ne h0), tF_ngt8 hf h0]
  · rw [if_neg h, if_neg (by omega)]
    rfl
theorem pl_cases (f : Nat) : pl f = f ∨ (f = 9223372036854775808 ∧ pl f = 0) := by
  unfold pl
  by_cases h : f = 9223372036854775808
  · exact .inr ⟨h, if_pos h⟩
  · exact .inl (if_neg h)
theorem eI_pl (f : Nat) : eI (pl f) = eI f := by
  rcases pl_cases f with h | ⟨h1, h2⟩
  · rw [h]
  · rw [h2, h1]; decide
end Go.Proofs.YtcoclopllbfjcaaGreatDoor
/- Ends that are floats: their signs, their order, their sums. -/
namespace Go.Proofs.YtcoclopllbfjcaaGreatDoor
set_option linter.unusedVariables false
set_option linter.unusedSimpArgs false
open Go.RowKit Go.Fl64

theorem cmpI_neg_iff (x y : Int) : (cmpI x y < 0 ↔ x < y) ∧ (0 < cmpI x y ↔ y < x) := by
  unfold cmpI
  constructor
  · split
    · omega
    · split <;> omega
  · split
    · omega
    · split <;> omega
theorem vz_tF8 {a : Nat} (ha : a < 18446744073709551616) (hf : mag a < 9218868437227405312) : vz 5000000 (tF a).1 (tF a).2.1 (tF a).2.2 = vz 5000000 (nN a) (nM a) (Ie.sE a) := by
  obtain ⟨M, hM, hl⟩ := sM_lt a ha
  have hc := cn_parts a M ha hf hM
  have hn : nM a = M := by unfold nM; rw [hM]; rfl
  have hb : 0 ≤ Ie.sE a + (5000000 : Nat) := by
    have := (sE_le a).1
    omega
  rw [← hc, vz_cn hb, hn]
  unfold nN
  by_cases h0 : mag a = 0
  · have : M = 0 := by
      rcases of_parts a M ha hf hM with ⟨h1, h2⟩ | ⟨h1, h2, -, h3, h4⟩
      · omega
      · exfalso
        have e := tF_zero8 h0
        rw [← hc] at e
        unfold cn at e
        by_cases hM0 : M = 0
        · omega
        · rw [if_neg hM0] at e
          have e2 : M / 2 ^ tz M = 0 := congrArg (fun t => t.2.1) e
          have hs := tz_spec M M (Nat.le_refl _) hM0
          rw [e2] at hs
          have := hs.1
          omega
    subst this
    unfold vz
    rw [sv_zero, sv_zero]
  · rw [if_neg h0]
theorem tF_e5000000 (a : Nat) : 0 ≤ (tF a).2.2 + (5000000 : Nat) := by
  obtain ⟨f1, f2, f3, f4, f5⟩ := (tF_ok a).facts
  omega
theorem sE_e5000000 {a : Nat} (ha : a < 18446744073709551616) (hf : mag a < 9218868437227405312) : 0 ≤ Ie.sE a + (5000000 : Nat) := by
  have := (sE_le a).1
  omega
theorem ord_tF8 {a b : Nat} (ha : a < 18446744073709551616) (hb : b < 18446744073709551616) (fa : mag a < 9218868437227405312) (fb : mag b < 9218868437227405312) :
    ordN (tF a).1 (tF a).2.1 (tF a).2.2 (tF b).1 (tF b).2.1 (tF b).2.2 = cmpI (stp a) (stp b) := by
  rw [ordN_vz (tF_e5000000 a) (tF_e5000000 b), vz_tF8 ha fa, vz_tF8 hb fb, ← ordN_vz (sE_e5000000 ha fa) (sE_e5000000 hb fb)]
  exact ord_num fa fb
theorem inf_or {f : Nat} (hf : f < 18446744073709551616) (hn : isNaN f = false) : (mag f < 9218868437227405312 ∧ eI f = 0 ∧ eT f = tF f) ∨ (f = 9218868437227405312 ∧ eI f = 1) ∨ (f = 18442240474082181120 ∧ eI f = -1) := by
  by_cases h : eI f = 0
  · exact .inl ⟨(eI_zero_fin hf hn).1 h, h, by unfold eT; rw [if_pos h]⟩
  · by_cases h1 : f = 9218868437227405312
    · exact .inr (.inl ⟨h1, by rw [h1]; decide⟩)
    · by_cases h2 : f = 18442240474082181120
      · exact .inr (.inr ⟨h2, by rw [h2]; decide⟩)
      · exfalso
        apply h
        unfold eI
        rw [if_neg h1, if_neg h2]
theorem fin_stp {f : Nat} (h : mag f < 9218868437227405312) : -9218868437227405312 < stp f ∧ stp f < 9218868437227405312 := by
  unfold stp sgn
  split <;> omega
/-- sums -/
theorem enF_plus {a c : Nat} (ha : a < 18446744073709551616) (hc : c < 18446744073709551616) (na : isNaN a = false) (nc : isNaN c = false) (hx : ¬ (eI a = 1 ∧ eI c = -1)) (hy : ¬ (eI a = -1 ∧ eI c = 1)) {m : Int} (hm : 1 ≤ m ∧ m ≤ 3) :
    enF (eI a + eI c) (plT (eI a) (eI c) (eT a) (eT c)) m = pl (fAdM a c m) := by
  have fI : fin 9218868437227405312 = false := by decide
  have fN : fin 18442240474082181120 = false := by decide
  unfold enF plT fAdM
  rcases inf_or ha na with ⟨fa, ia, ta⟩ | ⟨rfl, ia⟩ | ⟨rfl, ia⟩ <;> rcases inf_or hc nc with ⟨fb, ib, tb⟩ | ⟨rfl, ib⟩ | ⟨rfl, ib⟩
  · have f1 : fin a = true := decide_eq_true fa
    have f2 : fin c = true := decide_eq_true fb
    rw [ia, ib, if_pos (by omega), if_pos (by omega), ta, tb, if_neg (by rw [f1, f2]; simp)]
    unfold toD
    by_cases h0 : (tS (tF a) (tF c)).2.1 = 0
    · rw [if_pos h0, if_pos h0]
      cases z0 (neg a) (neg c) m <;> rfl
    · rw [if_neg h0, if_neg h0]
  · rw [ia, ib, if_neg (by omega), if_pos (by omega), if_pos (.inr fI)]
    unfold addX
    rw [na, nc, if_neg (by simp), if_neg (by omega)]
    rfl
  · rw [ia, ib, if_neg (by omega), if_neg (by omega), if_pos (.inr fN)]
    unfold addX
    rw [na, nc, if_neg (by simp), if_neg (by omega)]
    rfl
  · rw [ia, ib, if_neg (by omega), if_pos (by omega), if_pos (.inl fI)]
    unfold addX
    rw [na, nc, if_neg (by simp), if_pos (by decide), if_neg (by omega)]
    rfl
  · rw [ia, if_neg (by omega), if_pos (by omega), if_pos (.inl fI)]; decide
  · exact absurd ⟨ia, ib⟩ hx
  · rw [ia, ib, if_neg (by omega), if_neg (by omega), if_pos (.inl fN)]
    unfold addX
    rw [na, nc, if_neg (by simp), if_pos (by decide), if_neg (by omega)]
    rfl
  · exact absurd ⟨ia, ib⟩ hy
  · rw [ia, if_neg (by omega), if_neg (by omega), if_pos (.inl fN)]; decide
end Go.Proofs.YtcoclopllbfjcaaGreatDoor
/- SpanSums. -/
namespace Go.Proofs.YtcoclopllbfjcaaGreatDoor
set_option linter.unusedVariables false
set_option linter.unusedSimpArgs false
open Go.RowKit Go.Fl64
attribute [local go_sem] run_store_flt

theorem toD_nn (t : Bool × Nat × Int) {m : Int} (hm : 1 ≤ m ∧ m ≤ 3) : isNaN (toD t m) = false := by
  unfold toD
  split
  · decide
  · rw [tf_bdy hm]
    have h := bdy_le t.2.1 t.2.2 (wyN t.1 m)
    unfold isNaN
    rw [(mag_sig h).1]
    exact decide_eq_false (by omega)
theorem enF_nn (i : Int) (t : Bool × Nat × Int) {m : Int} (hm : 1 ≤ m ∧ m ≤ 3) : isNaN (enF i t m) = false := by
  unfold enF
  split
  · rw [pl_nan]; exact toD_nn t hm
  · split <;> decide
theorem fAdM_nn {a c : Nat} (ha : a < 18446744073709551616) (hc : c < 18446744073709551616) (na : isNaN a = false) (nc : isNaN c = false) (hx : ¬ (eI a = 1 ∧ eI c = -1)) (hy : ¬ (eI a = -1 ∧ eI c = 1)) {m : Int} (hm : 1 ≤ m ∧ m ≤ 3) : isNaN (fAdM a c m) = false := by
  rw [← pl_nan, ← enF_plus ha hc na nc hx hy hm]
  exact enF_nn _ _ hm
theorem fAdM_lt {a c : Nat} (ha : a < 18446744073709551616) (hc : c < 18446744073709551616) {m : Int} (hm : 1 ≤ m ∧ m ≤ 3) : fAdM a c m < 18446744073709551616 := (faddM_p a c m hm ha hc).1
/-- the lower end is never +Inf, the upper one never -Inf -/
theorem vI_ends {a b : Nat} (h : vI a b = true) : eI a ≠ 1 ∧ eI b ≠ -1 := by
  unfold vI at h
  simp only [Bool.and_eq_true] at h
  constructor
  · intro e
    have : a = 9218868437227405312 := by
      unfold eI at e
      by_cases h1 : a = 9218868437227405312
      · exact h1
      · rw [if_neg h1] at e
        split at e <;> omega
    have h2 := h.1.1.1.2
    rw [this] at h2
    revert h2
    decide
  · intro e
    have : b = 18442240474082181120 := by
      unfold eI at e
      by_cases h1 : b = 9218868437227405312
      · rw [if_pos h1] at e; omega
      · rw [if_neg h1] at e
        by_cases h2 : b = 18442240474082181120
        · exact h2
        · rw [if_neg h2] at e; omega
    have h2 := h.1.1.2
    rw [this] at h2
    revert h2
    decide
theorem tNeg_fits {t : Bool × Nat × Int} {lo hi : Int} (h : Fits lo hi t.2.1 t.2.2) : Fits lo hi (tNeg t).2.1 (tNeg t).2.2 := by
  unfold tNeg
  split
  · exact .inl rfl
  · exact h
theorem sadded (a b c d : Nat) (w : World) (ha : a < 18446744073709551616) (hb : b < 18446744073709551616) (hc : c < 18446744073709551616) (hd : d < 18446744073709551616) (hT : Tab32 w) (hJ : Ie.Tab w) (n1 : isNaN (fAdM a c 1) = false) (n2 : isNaN (fAdM b d 3) = false) :
    Calls Tryz.prog 61 #[.agg #[.float .f64 a, .float .f64 b], .agg #[.float .f64 c, .float .f64 d]] w fun r w' => r = .returned (.agg #[.float .f64 (pl (fAdM a c 1)), .float .f64 (pl (fAdM b d 3))]) ∧ Below w.heap.size w w' := by
  refine sadded_1 a b c d (fAdM a c 1) (fAdM b d 3) _ _ w (fun W h => ?_) (fun W h => ?_) (fun W h => sbetween _ _ W (fAdM_lt ha hc (by omega)) (fAdM_lt hb hd (by omega)))
  · refine (faddM a c 1 (by omega) ha hc W (hT.later h) (Tab.later hJ h)).mono ?_
    rintro r w' ⟨n, rfl, hl, hb'⟩
    rw [hl.eq n1]
    exact ⟨rfl, hb'⟩
  · refine (faddM b d 3 (by omega) hb hd W (hT.later h) (Tab.later hJ h)).mono ?_
    rintro r w' ⟨n, rfl, hl, hb'⟩
    rw [hl.eq n2]
    exact ⟨rfl, hb'⟩
theorem sadd (a b c d : Nat) (w : World) (ha : a < 18446744073709551616) (hb : b < 18446744073709551616) (hc : c < 18446744073709551616) (hd : d < 18446744073709551616) (hT : Tab32 w) (hJ : Ie.Tab w) :
    Calls Tryz.prog 20 #[.agg #[.float .f64 a, .float .f64 b], .agg #[.float .f64 c, .float .f64 d]] w fun r w' => r = .returned (orV (vI a b && vI c d) (pl (fAdM a c 1)) (pl (fAdM b d 3)) (.int .i64 0) (.int .i64 1)) ∧ Below w.heap.size w w' := by
  refine sadd_1 a b c d _ _ _ w (fun W g T h => smaybe h ha hb hc hd) (fun hv W h => ?_)
  rw [Bool.and_eq_true] at hv
  obtain ⟨x1, x2⟩ := vI_ends hv.1
  obtain ⟨y1, y2⟩ := vI_ends hv.2
  exact sadded a b c d W ha hb hc hd (hT.later h) (Tab.later hJ h) (fAdM_nn ha hc (vI_nn hv.1).1 (vI_nn hv.2).1 (fun e => x1 e.1) (fun e => y1 e.2) (by omega)) (fAdM_nn hb hd (vI_nn hv.1).2 (vI_nn hv.2).2 (fun e => y2 e.2) (fun e => x2 e.1) (by omega))
theorem ssub (a b c d : Nat) (w : World) (ha : a < 18446744073709551616) (hb : b < 18446744073709551616) (hc : c < 18446744073709551616) (hd : d < 18446744073709551616) (hT : Tab32 w) (hJ : Ie.Tab w) :
    Calls Tryz.prog 24 #[.agg #[.float .f64 a, .float .f64 b], .agg #[.float .f64 c, .float .f64 d]] w fun r w' => r = .returned (orV (vI a b && vI c d) (pl (fAdM a (pl (ngt d)) 1)) (pl (fAdM b (pl (ngt c)) 3)) (.int .i64 0) (.int .i64 1)) ∧ Below w.heap.size w w' := by
  refine ssub_1 a b c d (pl (ngt d)) (pl (ngt c)) _ _ _ w (fun W g T h => smaybe h ha hb hc hd) (fun _ W h => sturned c d W hc hd) (fun hv W h => ?_)
  rw [Bool.and_eq_true] at hv
  obtain ⟨x1, x2⟩ := vI_ends hv.1
  obtain ⟨y1, y2⟩ := vI_ends hv.2
  have e1 : eI (pl (ngt d)) = -eI d := by rw [eI_pl, eI_ngt hd]
  have e2 : eI (pl (ngt c)) = -eI c := by rw [eI_pl, eI_ngt hc]
  exact sadded a b (pl (ngt d)) (pl (ngt c)) W ha hb (pl_lt (ngt_lt hd)) (pl_lt (ngt_lt hc)) (hT.later h) (Tab.later hJ h) (fAdM_nn ha (pl_lt (ngt_lt hd)) (vI_nn hv.1).1 (by rw [pl_nan, ngt_nan8 hd]; exact (vI_nn hv.2).2) (fun e => x1 e.1) (fun e => by rw [e1] at e; exact y2 (by omega)) (by omega)) (fAdM_nn hb (pl_lt (ngt_lt hc)) (vI_nn hv.1).2 (by rw [pl_nan, ngt_nan8 hc]; exact (vI_nn hv.2).1) (fun e => by rw [e2] at e; exact y1 (by omega)) (fun e => x2 e.1) (by omega))
theorem sneg (a b : Nat) (w : World) (ha : a < 18446744073709551616) (hb : b < 18446744073709551616) :
    Calls Tryz.prog 29 #[.agg #[.float .f64 a, .float .f64 b]] w fun r w' => r = .returned (orV (vI a b) (pl (ngt b)) (pl (ngt a)) (.int .i64 0) (.int .i64 1)) ∧ Below w.heap.size w w' :=
  sneg_1 a b _ _ _ w (fun W => svalid a b ha hb W) (fun _ W h => sturned a b W ha hb)
/-- the magnitudes -/
def mgX (a b : Nat) : Nat := if le 0 a then a else if le b 0 then pl (ngt b) else 0
def mgY (a b : Nat) : Nat := if le 0 a then b else if le b 0 then pl (ngt a) else fMax (ngt a) b
theorem smag (a b : Nat) (w : World) (ha : a < 18446744073709551616) (hb : b < 18446744073709551616) (na : isNaN a = false) (nb : isNaN b = false) :
    Calls Tryz.prog 53 #[.agg #[.float .f64 a, .float .f64 b]] w fun r w' => r = .returned (.agg #[.float .f64 (mgX a b), .float .f64 (mgY a b)]) ∧ Below w.heap.size w w' := by
  have k := smag_1 a b (pl (ngt b)) (pl (ngt a)) (fMax (ngt a) b) (le 0 a) (le b 0) w (ord_ge a 0 ha (by omega)) (ord_le b 0 hb (by omega)) (fun w => by rw [← negF a ha]; rfl) (fun _ _ W ts t => run_fmax W ts t _ _ (ngt_lt ha) hb (by rw [ngt_nan8 ha]; exact na) nb) (fun W => sturned a b W ha hb)
  unfold mgX mgY
  cases h1 : le 0 a
  · cases h2 : le b 0
    · rw [h1, h2] at k; exact k
    · rw [h1, h2] at k; exact k
  · rw [h1] at k; exact k
theorem orV_i8 (ok : Bool) (x y : Nat) : orV ok x y (.int .i64 0) (.int .i64 1) = .tuple #[.agg #[.float .f64 (if ok then x else 0), .float .f64 (if ok then y else 0)], .int .i64 (if ok then 0 else 1)] := by
  unfold orV; cases ok <;> rfl
theorem or_lt8 {ok : Bool} {x : Nat} (h : x < 18446744073709551616) : (if ok then x else 0) < 18446744073709551616 := by
  cases ok
  · rw [if_neg (by simp)]; omega
  · exact h
end Go.Proofs.YtcoclopllbfjcaaGreatDoor
/- The document's Mid. -/
namespace Go.Proofs.YtcoclopllbfjcaaGreatDoor
set_option linter.unusedVariables false
set_option linter.unusedSimpArgs false
open Go.RowKit Go.Fl64
attribute [local go_sem] run_store_flt

end Go.Proofs.YtcoclopllbfjcaaGreatDoor
/- The document's Half, its second region. -/
namespace Go.Proofs.YtcoclopllbfjcaaGreatDoor
set_option linter.unusedVariables false
set_option linter.unusedSimpArgs false
open Go.RowKit Go.Fl64
attribute [local go_sem] run_store_flt

def tD8 (t1 t2 : Bool × Nat × Int) : Bool × Nat × Int := cn (sumN t1.1 t1.2.1 t1.2.2 (!t2.1 && decide (0 < dlen t2.2.1)) t2.2.1 t2.2.2).1 (sumN t1.1 t1.2.1 t1.2.2 (!t2.1 && decide (0 < dlen t2.2.1)) t2.2.1 t2.2.2).2.1 (sumN t1.1 t1.2.1 t1.2.2 (!t2.1 && decide (0 < dlen t2.2.1)) t2.2.1 t2.2.2).2.2
theorem arg_noughtD8 (w : World) : Arg w none (dlen 0) 0 0 := by rw [dlen_zero]; exact ⟨fun _ => .inr ⟨rfl, rfl⟩, ⟨0, 0, fun h => absurd h (by omega), fun i hi => absurd hi (by omega)⟩, Nat.le_refl _, by omega⟩
theorem less8_dn {t1 t2 : Bool × Nat × Int} {X Y : Value} {w : World} (o1 : Ok t1) (o2 : Ok t2) (h1 : DN w X t1) (h2 : DN w Y t2) : Calls Tryz.prog 27 #[X, Y] w fun r w' => ∃ A, r = .returned A ∧ DN w' A (tD8 t1 t2) ∧ Below w.heap.size w w' := by
  obtain ⟨ao, cap, rfl, a1⟩ := h1
  obtain ⟨ao', cap', rfl, a2⟩ := h2
  obtain ⟨f1, f2, f3, -, -⟩ := o1.facts
  obtain ⟨g1, g2, g3, g4, -⟩ := o2.facts
  unfold tD8
  by_cases h0 : t2.2.1 = 0
  · have e2 := g4 h0
    have e3 : t2.1 = false := by rw [e2]
    have e4 : t2.2.2 = 0 := by rw [e2]
    rw [h0, e3, e4, dlen_zero]
    refine (rlessN_1 t1.1 false ao ao' (dlen t1.2.1) cap 0 cap' t1.2.2 0 false none 0 0 0 _ _ _ w (fun W => rminus_0 false ao' cap' 0 W) (fun W hW => ?_)).mono fun r w' ⟨A, e, h, hb⟩ => ⟨A, e, h.dn, hb⟩
    have k := rplusG (nb := false) (y := 0) (eb := 0) (a1.later hW) (arg_noughtD8 W) (cn_ok o1) rfl (by omega) (by omega) (by omega) (by omega) (by omega) (by rw [dlen_zero]; omega)
    rw [dlen_zero] at k
    exact k
  · have hl : 0 < dlen t2.2.1 := by have := dlen_pos h0; omega
    rw [decide_eq_true hl, Bool.and_true]
    have ho : cn (!t2.1) t2.2.1 t2.2.2 = (!t2.1, t2.2.1, t2.2.2) := by
      have := cn_ok o2
      unfold cn at this ⊢
      rw [if_neg h0] at this ⊢
      rw [Prod.ext_iff] at this
      exact Prod.ext rfl this.2
    exact (rlessN_1 t1.1 t2.1 ao ao' (dlen t1.2.1) cap (dlen t2.2.1) cap' t1.2.2 t2.2.2 (!t2.1) ao' (dlen t2.2.1) cap' t2.2.2 _ _ _ w (fun W => rminus_1 t2.1 ao' (dlen t2.2.1) cap' t2.2.2 W (by omega) (by rw [beq_eq_false_iff_ne]; omega)) (fun W hW => rplusG (a1.later hW) (a2.later hW) (cn_ok o1) ho (by omega) (by omega) (by omega) (by omega) (by omega) (by omega))).mono fun r w' ⟨A, e, h, hb⟩ => ⟨A, e, h.dn, hb⟩
theorem tD8_eq {t u : Bool × Nat × Int} (o : Ok u) : tD8 t u = tS t (tNeg u) := by
  obtain ⟨-, -, -, g4, -⟩ := o.facts
  unfold tD8 tS tNeg
  by_cases h0 : u.2.1 = 0
  · rw [if_pos h0, g4 h0, dlen_zero]
    rfl
  · have hl : 0 < dlen u.2.1 := by have := dlen_pos h0; omega
    rw [if_neg h0, decide_eq_true hl, Bool.and_true]

end Go.Proofs.YtcoclopllbfjcaaGreatDoor
/- The document's Half. -/
namespace Go.Proofs.YtcoclopllbfjcaaGreatDoor
set_option linter.unusedVariables false
set_option linter.unusedSimpArgs false
open Go.RowKit Go.Fl64
attribute [local go_sem] run_store_flt

end Go.Proofs.YtcoclopllbfjcaaGreatDoor
/- The document's Rad. -/
namespace Go.Proofs.YtcoclopllbfjcaaGreatDoor
set_option linter.unusedVariables false
set_option linter.unusedSimpArgs false
open Go.RowKit Go.Fl64
attribute [local go_sem] run_store_flt

end Go.Proofs.YtcoclopllbfjcaaGreatDoor
/- Middles in numbers. -/
namespace Go.Proofs.YtcoclopllbfjcaaGreatDoor
set_option linter.unusedVariables false
set_option linter.unusedSimpArgs false
open Go.RowKit Go.Fl64
attribute [local go_sem] run_store_flt

/-- the value of a number -/
def V8 (t : Bool × Nat × Int) : Int := vz 5000000 t.1 t.2.1 t.2.2
theorem V8_zero : V8 (false, 0, 0) = 0 := vz_zero _ _ _
theorem V8_neg (t : Bool × Nat × Int) : V8 (tNeg t) = - V8 t := by
  unfold tNeg V8
  by_cases h : t.2.1 = 0
  · rw [if_pos h, h, vz_zero, vz_zero]; rfl
  · rw [if_neg h]
    show vz 5000000 (!t.1) t.2.1 t.2.2 = _
    unfold vz
    rw [← Int.neg_mul]
    congr 1
    unfold sv
    cases t.1 <;> simp
def E8 (t : Bool × Nat × Int) : Prop := Fits (-1074) 1025 t.2.1 t.2.2 ∧ 0 ≤ t.2.2 + (5000000 : Nat) ∧ Ok t
theorem E8_tF (a : Nat) : E8 (tF a) := ⟨tF_fits a, tF_e5000000 a, tF_ok a⟩
theorem E8_neg {t : Bool × Nat × Int} (h : E8 t) : E8 (tNeg t) := by
  refine ⟨tNeg_fits h.1, ?_, tNeg_ok h.2.2⟩
  unfold tNeg
  split
  · decide
  · exact h.2.1
theorem V8_sum {t u : Bool × Nat × Int} (h1 : E8 t) (h2 : E8 u) : V8 (tS t u) = V8 t + V8 u := vz_tS h1.1 h2.1 h1.2.1 h2.2.1 (by omega)
theorem S8_ok {t u : Bool × Nat × Int} (h1 : E8 t) (h2 : E8 u) : Ok (tS t u) := ok_cn (tS_okR h1.1 h2.1 (by omega) (by omega) (by omega))
theorem Ok.e8 {t : Bool × Nat × Int} (h : Ok t) : 0 ≤ t.2.2 + (5000000 : Nat) := by
  have := h.facts
  omega
theorem V8_half {t : Bool × Nat × Int} (h : Ok t) : 2 * V8 (tSh t (-1)) = V8 t := by
  have e := h.facts
  unfold tSh V8
  by_cases h0 : t.2.1 = 0
  · rw [if_pos h0, h0, vz_zero, vz_zero]; rfl
  · rw [if_neg h0]
    show 2 * vz 5000000 t.1 t.2.1 (t.2.2 + -1) = _
    have k := vz_shift (K := 5000000) (s := t.1) (x := t.2.1) (k := 1) (e := t.2.2 + -1) (by omega)
    rw [show t.2.2 + -1 + ((1 : Nat) : Int) = t.2.2 by omega] at k
    rw [← k]
    unfold vz sv
    cases t.1 <;> simp <;> rw [← Int.mul_assoc] <;> congr 1 <;> omega
theorem toD_tf {t : Bool × Nat × Int} (h : Ok t) {m : Int} (hm : 1 ≤ m ∧ m ≤ 3) : toD t m = tfF t.1 true t.2.1 t.2.2 m := by
  unfold toD
  by_cases h0 : t.2.1 = 0
  · rw [if_pos h0, h.facts.2.2.2.1 h0]
    rcases (show m = 1 ∨ m = 2 ∨ m = 3 by omega) with rfl | rfl | rfl <;> decide +kernel
  · rw [if_neg h0]
theorem toD_mono {t u : Bool × Nat × Int} (h1 : Ok t) (h2 : Ok u) {m : Int} (hm : 1 ≤ m ∧ m ≤ 3) (h : V8 t ≤ V8 u) : stp (toD t m) ≤ stp (toD u m) := by
  rw [toD_tf h1 hm, toD_tf h2 hm]
  exact ord_round (K := 5000000) (by omega) (s := t.1) (x := t.2.1) (e := t.2.2) (t := u.1) (y := u.2.1) (f := u.2.2) h1 h2 hm h
theorem toD_pos {t : Bool × Nat × Int} (h1 : Ok t) {m : Int} (hm : 1 ≤ m ∧ m ≤ 3) (h : 0 ≤ V8 t) : toD t m ≠ 9223372036854775808 ∧ 0 ≤ stp (toD t m) := by
  have hz : Ok (false, 0, 0) := by unfold Ok; rw [dlen_zero]; rfl
  refine ⟨?_, ?_⟩
  · unfold toD
    by_cases h0 : t.2.1 = 0
    · rw [if_pos h0]; decide
    · rw [if_neg h0, tf_bdy hm]
      have hs : t.1 = false := by
        cases e : t.1
        · rfl
        · exfalso
          unfold V8 vz at h
          rw [e] at h
          have hp : (0 : Int) < ((2 ^ (t.2.2 + (5000000 : Nat)).toNat : Nat) : Int) := by exact_mod_cast Nat.two_pow_pos _
          have hx : sv true t.2.1 < 0 := by unfold sv; simp; omega
          have := Int.mul_neg_of_neg_of_pos hx hp
          omega
      rw [hs]
      have := bdy_le t.2.1 t.2.2 (wyN false m)
      unfold sig
      simp
      omega
  · have k := toD_mono hz h1 hm (by rw [V8_zero]; exact h)
    have e : stp (toD (false, 0, 0) m) = 0 := by unfold toD; rw [if_pos rfl]; decide
    omega
theorem toD_self {a : Nat} (ha : a < 18446744073709551616) (hf : mag a < 9218868437227405312) {m : Int} (hm : 1 ≤ m ∧ m ≤ 3) : stp (toD (tF a) m) = stp a := by
  by_cases h0 : mag a = 0
  · rw [tF_zero8 h0]
    unfold toD
    rw [if_pos rfl]
    have : stp a = 0 := by unfold stp sgn; rw [h0]; cases neg a <;> rfl
    rw [this]
    decide
  · rw [toD_tf (tF_ok a) hm, (tF_val8 hf h0).1, tf_tF8 ha hf h0 m hm]
theorem V8_cmp {a b : Nat} (ha : a < 18446744073709551616) (hb : b < 18446744073709551616) (fa : mag a < 9218868437227405312) (fb : mag b < 9218868437227405312) : V8 (tF a) ≤ V8 (tF b) ↔ stp a ≤ stp b := by
  have k := ord_tF8 ha hb fa fb
  rw [ordN_vz (tF_e5000000 a) (tF_e5000000 b)] at k
  have h1 := (cmpI_neg_iff (V8 (tF a)) (V8 (tF b))).2
  have h2 := (cmpI_neg_iff (stp a) (stp b)).2
  have k : cmpI (V8 (tF a)) (V8 (tF b)) = cmpI (stp a) (stp b) := k
  rw [k] at h1
  constructor
  · intro h
    by_cases h' : stp a ≤ stp b
    · exact h'
    · have := h1.1 (h2.2 (by omega)); omega
  · intro h
    by_cases h' : V8 (tF a) ≤ V8 (tF b)
    · exact h'
    · have := h2.1 (h1.2 (by omega)); omega
theorem hfS_toD (a b : Nat) : hfS a b = toD (tSh (tS (tF a) (tF b)) (-1)) 2 := (toD_tf (hfS_facts a b).2.1 (by omega)).symm
/-- the middle lies between the ends -/
theorem hfS_in {a b : Nat} (ha : a < 18446744073709551616) (hb : b < 18446744073709551616) (fa : mag a < 9218868437227405312) (fb : mag b < 9218868437227405312) (h : stp a ≤ stp b) : stp a ≤ stp (hfS a b) ∧ stp (hfS a b) ≤ stp b ∧ mag (hfS a b) < 9218868437227405312 := by
  have hv := (V8_cmp ha hb fa fb).2 h
  have hs := V8_sum (E8_tF a) (E8_tF b)
  have hh := V8_half (hfS_facts a b).1
  have o := (hfS_facts a b).2.1
  have k1 := toD_mono (tF_ok a) o (m := 2) (by omega) (by omega)
  have k2 := toD_mono o (tF_ok b) (m := 2) (by omega) (by omega)
  rw [toD_self ha fa (by omega), ← hfS_toD] at k1
  rw [toD_self hb fb (by omega), ← hfS_toD] at k2
  refine ⟨k1, k2, ?_⟩
  have f1 := fin_stp fa
  have f2 := fin_stp fb
  have : -9218868437227405312 < stp (hfS a b) ∧ stp (hfS a b) < 9218868437227405312 := ⟨by omega, by omega⟩
  unfold stp sgn at this
  split at this <;> omega
end Go.Proofs.YtcoclopllbfjcaaGreatDoor
/- Middles joined. -/
namespace Go.Proofs.YtcoclopllbfjcaaGreatDoor
set_option linter.unusedVariables false
set_option linter.unusedSimpArgs false
open Go.RowKit Go.Fl64
attribute [local go_sem] run_store_flt

theorem tF_ngt {b : Nat} (hb : b < 18446744073709551616) (fb : mag b < 9218868437227405312) (nb : isNaN b = false) : tF (ngt b) = tNeg (tF b) := by
  have h := eT_ngt hb
  have e := (eI_zero_fin hb nb).2 fb
  have e' : eI (ngt b) = 0 := by rw [eI_ngt hb, e]; rfl
  unfold eT at h
  rw [if_pos e, if_pos e'] at h
  exact h
theorem fin_nn {a : Nat} (h : mag a < 9218868437227405312) : isNaN a = false := by unfold isNaN; exact decide_eq_false (by omega)
theorem fsub8 {a c : Nat} (ha : a < 18446744073709551616) (hc : c < 18446744073709551616) (fa : mag a < 9218868437227405312) (fc : mag c < 9218868437227405312) :
    fAdM a (ngt c) 3 = if (tS (tF a) (tNeg (tF c))).2.1 = 0 then sig (z0 (neg a) (neg (ngt c)) 3) 0 else toD (tS (tF a) (tNeg (tF c))) 3 := by
  unfold fAdM
  have h1 : fin a = true := decide_eq_true fa
  have h2 : fin (ngt c) = true := by unfold fin; rw [ngt_mag hc]; exact decide_eq_true fc
  rw [if_neg (by rw [h1, h2]; simp), tF_ngt hc fc (fin_nn fc)]
  split
  · rfl
  · rename_i h
    unfold toD
    rw [if_neg h]
theorem stp_sig0 (s : Bool) : stp (sig s 0) = 0 := by cases s <;> decide
theorem fsub8_stp {a c : Nat} (ha : a < 18446744073709551616) (hc : c < 18446744073709551616) (fa : mag a < 9218868437227405312) (fc : mag c < 9218868437227405312) :
    stp (fAdM a (ngt c) 3) = stp (toD (tS (tF a) (tNeg (tF c))) 3) := by
  rw [fsub8 ha hc fa fc]
  split
  · rename_i h
    rw [stp_sig0]
    unfold toD
    rw [if_pos h]
    decide
  · rfl
end Go.Proofs.YtcoclopllbfjcaaGreatDoor
/- SpanMiddles. -/
namespace Go.Proofs.YtcoclopllbfjcaaGreatDoor
set_option linter.unusedVariables false
set_option linter.unusedSimpArgs false
open Go.RowKit Go.Fl64
attribute [local go_sem] run_store_flt

/-- the ends of an interval -/
theorem vI_cases {a b : Nat} (ha : a < 18446744073709551616) (hb : b < 18446744073709551616) (v : vI a b = true) : ((mag a < 9218868437227405312 ∧ eI a = 0 ∧ eT a = tF a) ∨ (a = 18442240474082181120 ∧ eI a = -1)) ∧ ((mag b < 9218868437227405312 ∧ eI b = 0 ∧ eT b = tF b) ∨ (b = 9218868437227405312 ∧ eI b = 1)) ∧ stp a ≤ stp b := by
  obtain ⟨na, nb⟩ := vI_nn v
  obtain ⟨e1, e2⟩ := vI_ends v
  have hs : stp a ≤ stp b := by
    unfold vI le at v
    simp only [Bool.and_eq_true, decide_eq_true_eq] at v
    exact v.1.1.1.1.2
  refine ⟨?_, ?_, hs⟩
  · rcases inf_or ha na with h | ⟨-, h⟩ | h
    · exact .inl h
    · exact absurd h e1
    · exact .inr h
  · rcases inf_or hb nb with h | h | ⟨-, h⟩
    · exact .inl h
    · exact .inr h
    · exact absurd h e2
theorem mdF_fin {a b : Nat} (ha : a < 18446744073709551616) (hb : b < 18446744073709551616) (v : vI a b = true) : mag (mdF a b) < 9218868437227405312 := by
  obtain ⟨c1, c2, hs⟩ := vI_cases ha hb v
  unfold mdF
  split
  · decide
  · split
    · decide
    · split
      · decide
      · rename_i h1 h2 h3
        rcases c1 with ⟨f1, -, -⟩ | ⟨rfl, -⟩
        · rcases c2 with ⟨f2, -, -⟩ | ⟨rfl, -⟩
          · exact (hfS_in ha hb f1 f2 hs).2.2
          · exact absurd (by decide +kernel : iFar 9218868437227405312 = true) h3
        · exact absurd (by decide +kernel : iFar 18442240474082181120 = true) h2
/-- what the program's Rad adds up is no NaN -/
theorem rd_nn {a b : Nat} (ha : a < 18446744073709551616) (hb : b < 18446744073709551616) (v : vI a b = true) : isNaN (rdP a b) = false ∧ isNaN (rdQ a b) = false := by
  obtain ⟨na, nb⟩ := vI_nn v
  have fm := mdF_fin ha hb v
  have nm := fin_nn fm
  have em := (eI_zero_fin (mdF_lt a b) nm).2 fm
  have n1 : isNaN (ngt a) = false := by unfold isNaN at na ⊢; rw [ngt_mag ha]; exact na
  have n2 : isNaN (ngt (mdF a b)) = false := by unfold isNaN at nm ⊢; rw [ngt_mag (mdF_lt a b)]; exact nm
  have e2 : eI (ngt (mdF a b)) = 0 := by rw [eI_ngt (mdF_lt a b), em]; rfl
  constructor
  · exact fAdM_nn (mdF_lt a b) (ngt_lt ha) nm n1 (by rw [em]; omega) (by rw [em]; omega) (by omega)
  · exact fAdM_nn hb (ngt_lt (mdF_lt a b)) nb n2 (by rw [e2]; omega) (by rw [e2]; omega) (by omega)
theorem nn_stp {x : Nat} (h : isNaN x = false) : stp x ≤ 9218868437227405312 := by
  have n' : ¬ 9218868437227405312 < mag x := of_decide_eq_false h
  unfold stp sgn
  split <;> omega
theorem fMax_inf {x y : Nat} (hx : x < 18446744073709551616) (hy : y < 18446744073709551616) (nx : isNaN x = false) (ny : isNaN y = false) (h : x = 9218868437227405312 ∨ y = 9218868437227405312) : fMax x y = 9218868437227405312 := by
  have k := fMax_stp x y
  have k1 := nn_stp nx
  have k2 := nn_stp ny
  have ke : stp 9218868437227405312 = 9218868437227405312 := by decide
  have ks : stp (fMax x y) = 9218868437227405312 := by
    rcases h with h | h
    · rw [k, h, ke]; omega
    · rw [k, h, ke]; omega
  refine stp_inj (fMax_lt hx hy) (by omega) (by rw [ks, ke]) ?_ (by omega)
  intro hz
  rw [hz] at ks
  exact absurd ks (by decide)
theorem rad_doc {a b : Nat} (ha : a < 18446744073709551616) (hb : b < 18446744073709551616) (v : vI a b = true) (h : eI a ≠ 0 ∨ eI b ≠ 0) : fMax (rdP a b) (rdQ a b) = 9218868437227405312 := by
  obtain ⟨n1, n2⟩ := rd_nn ha hb v
  refine fMax_inf (fAdM_lt (mdF_lt a b) (ngt_lt ha) (by omega)) (fAdM_lt hb (ngt_lt (mdF_lt a b)) (by omega)) n1 n2 ?_
  obtain ⟨na, nb⟩ := vI_nn v
  have fm := mdF_fin ha hb v
  have nm := fin_nn fm
  have em := (eI_zero_fin (mdF_lt a b) nm).2 fm
  obtain ⟨c1, c2, hs⟩ := vI_cases ha hb v
  have key : ∀ x c, x < 18446744073709551616 → c < 18446744073709551616 → isNaN x = false → isNaN c = false → eI x + eI c = 1 → fAdM x c 3 = 9218868437227405312 := fun x c hx hc nx nc e => by
    have k := enF_plus hx hc nx nc (by omega) (by omega) (m := 3) (by omega)
    rw [e] at k
    have e1 : enF 1 (plT (eI x) (eI c) (eT x) (eT c)) 3 = 9218868437227405312 := by unfold enF; rfl
    rw [e1] at k
    rcases pl_cases (fAdM x c 3) with h | ⟨-, h⟩
    · rw [h] at k; exact k.symm
    · rw [h] at k; exact absurd k (by decide)
  rcases c1 with ⟨f1, e1, t1⟩ | ⟨-, e1⟩
  · rcases c2 with ⟨f2, e2, t2⟩ | ⟨-, e2⟩
    · exact absurd h (by rw [e1, e2]; simp)
    · right
      refine key b _ hb (ngt_lt (mdF_lt a b)) nb (by unfold isNaN at nm ⊢; rw [ngt_mag (mdF_lt a b)]; exact nm) ?_
      rw [eI_ngt (mdF_lt a b), em, e2]; rfl
  · left
    refine key _ (ngt a) (mdF_lt a b) (ngt_lt ha) nm (by unfold isNaN at na ⊢; rw [ngt_mag ha]; exact na) ?_
    rw [eI_ngt ha, em, e1]; rfl
end Go.Proofs.YtcoclopllbfjcaaGreatDoor
/- The document's ends multiplied. -/
namespace Go.Proofs.YtcoclopllbfjcaaGreatDoor
set_option linter.unusedVariables false
set_option linter.unusedSimpArgs false
open Go.RowKit Go.Fl64
attribute [local go_sem] run_store_flt

/-- two ends multiplied -/
def tmI (i j : Int) (t u : Bool × Nat × Int) : Int := if sgE i t = 0 ∨ sgE j u = 0 then 0 else if i ≠ 0 ∨ j ≠ 0 then sgE i t * sgE j u else 0
def tmT (i j : Int) (t u : Bool × Nat × Int) : Bool × Nat × Int := if sgE i t = 0 ∨ sgE j u = 0 then (false, 0, 0) else if i ≠ 0 ∨ j ≠ 0 then (false, 0, 0) else tM t u
theorem sgE_b {i : Int} (t : Bool × Nat × Int) (h : -1 ≤ i ∧ i ≤ 1) : -1 ≤ sgE i t ∧ sgE i t ≤ 1 := by
  unfold sgE
  split
  · split
    · omega
    · split <;> omega
  · exact h
theorem mul_b {x y : Int} (h1 : -1 ≤ x ∧ x ≤ 1) (h2 : -1 ≤ y ∧ y ≤ 1) : -1 ≤ x * y ∧ x * y ≤ 1 := by
  rcases (show x = -1 ∨ x = 0 ∨ x = 1 by omega) with rfl | rfl | rfl <;> omega
end Go.Proofs.YtcoclopllbfjcaaGreatDoor
/- The least and the greatest of ends. -/
namespace Go.Proofs.YtcoclopllbfjcaaGreatDoor
set_option linter.unusedVariables false
set_option linter.unusedSimpArgs false
open Go.RowKit Go.Fl64
attribute [local go_sem] run_store_flt

theorem EnB.other {W : World} {g h : Nat} {a b c d : Value} (hE : EnB W g a b c d) (hn : g ≠ h) (a' b' c' d' : Value) : EnB ((((W.setCell ⟨h, 0, none⟩ a').setCell ⟨h, 1, none⟩ b').setCell ⟨h, 2, none⟩ c').setCell ⟨h, 3, none⟩ d') g a b c d := by
  unfold EnB at *
  simp [World.setCell, Array.getElem?_modify, hE, Ne.symm hn]
end Go.Proofs.YtcoclopllbfjcaaGreatDoor
/- The document's Mul. -/
namespace Go.Proofs.YtcoclopllbfjcaaGreatDoor
set_option linter.unusedVariables false
set_option linter.unusedSimpArgs false
open Go.RowKit Go.Fl64
attribute [local go_sem] run_store_flt

end Go.Proofs.YtcoclopllbfjcaaGreatDoor
/- Products of ends in numbers. -/
namespace Go.Proofs.YtcoclopllbfjcaaGreatDoor
set_option linter.unusedVariables false
set_option linter.unusedSimpArgs false
open Go.RowKit Go.Fl64
attribute [local go_sem] run_store_flt

theorem mag_le8 {x : Nat} (nx : isNaN x = false) : mag x ≤ 9218868437227405312 := by
  have n' : ¬ 9218868437227405312 < mag x := of_decide_eq_false nx
  omega
theorem sgn8 {x : Nat} (hx : x < 18446744073709551616) (nx : isNaN x = false) : sgE (eI x) (eT x) = if mag x = 0 then 0 else if neg x then -1 else 1 := by
  rcases inf_or hx nx with ⟨f, e, t⟩ | ⟨rfl, e⟩ | ⟨rfl, e⟩
  · rw [e, t]
    unfold sgE
    rw [if_pos rfl]
    by_cases h0 : mag x = 0
    · rw [if_pos h0, tF_zero8 h0]; rfl
    · have k := tF_val8 f h0
      have h1 : (tF x).2.1 ≠ 0 := by
        intro h
        rw [h, Nat.zero_mul] at k
        have := (val_eq_zero (mag x)).1 k.2.1
        exact h0 this
      rw [if_neg h0, if_neg h1, k.1]
  · rw [e]; decide
  · rw [e]; decide
theorem fin_iff8 {x : Nat} (hx : x < 18446744073709551616) (nx : isNaN x = false) : eI x = 0 ↔ mag x < 9218868437227405312 := eI_zero_fin hx nx
theorem onF_nn {x : Nat} (h : isNaN x = false) : onF x = x := by unfold onF; rw [h]; rfl
theorem mul_zero8 {x y : Nat} (hx : x < 18446744073709551616) (hy : y < 18446744073709551616) (nx : isNaN x = false) (ny : isNaN y = false) {m : Int} (hm : 1 ≤ m ∧ m ≤ 3) (h : mag x = 0 ∨ mag y = 0) : pl (onF (fMul x y m)) = 0 := by
  have hM : isM m = true := by unfold isM; rcases (show m = 1 ∨ m = 2 ∨ m = 3 by omega) with rfl | rfl | rfl <;> rfl
  have hp : pln x = false ∨ pln y = false := by
    unfold pln
    rcases h with h | h
    · left; rw [h]; rfl
    · right; rw [h]; rfl
  unfold fMul
  rw [hM, if_neg (by simp), if_pos hp]
  unfold mulX
  rw [nx, ny, if_neg (by simp)]
  split
  · first | decide | (rw [if_pos h]; decide)
  · cases (neg x != neg y) <;> decide
theorem enF_times {x y : Nat} (hx : x < 18446744073709551616) (hy : y < 18446744073709551616) (nx : isNaN x = false) (ny : isNaN y = false) {m : Int} (hm : 1 ≤ m ∧ m ≤ 3) : enF (tmI (eI x) (eI y) (eT x) (eT y)) (tmT (eI x) (eI y) (eT x) (eT y)) m = pl (onF (fMul x y m)) := by
  have hM : isM m = true := by unfold isM; rcases (show m = 1 ∨ m = 2 ∨ m = 3 by omega) with rfl | rfl | rfl <;> rfl
  have sx := sgn8 hx nx
  have sy := sgn8 hy ny
  unfold tmI tmT
  by_cases h0 : mag x = 0 ∨ mag y = 0
  · have hz : sgE (eI x) (eT x) = 0 ∨ sgE (eI y) (eT y) = 0 := by
      rw [sx, sy]
      rcases h0 with h | h
      · left; rw [if_pos h]
      · right; rw [if_pos h]
    rw [if_pos hz, if_pos hz, enF_0, mul_zero8 hx hy nx ny hm h0]
  have x0 : mag x ≠ 0 := by omega
  have y0 : mag y ≠ 0 := by omega
  rw [if_neg x0] at sx
  rw [if_neg y0] at sy
  have hz : ¬ (sgE (eI x) (eT x) = 0 ∨ sgE (eI y) (eT y) = 0) := by
    rw [sx, sy]
    cases neg x <;> cases neg y <;> simp
  rw [if_neg hz, if_neg hz]
  have ex := fin_iff8 hx nx
  have ey := fin_iff8 hy ny
  have mx := mag_le8 nx
  have my := mag_le8 ny
  by_cases hi : eI x ≠ 0 ∨ eI y ≠ 0
  · rw [if_pos hi, if_pos hi]
    have hin : mag x = 9218868437227405312 ∨ mag y = 9218868437227405312 := by
      rcases hi with h | h
      · left; have : ¬ mag x < 9218868437227405312 := fun h' => h (ex.2 h'); omega
      · right; have : ¬ mag y < 9218868437227405312 := fun h' => h (ey.2 h'); omega
    have hp : pln x = false ∨ pln y = false := by
      unfold pln
      rcases hin with h | h
      · left; rw [h]; rfl
      · right; rw [h]; rfl
    unfold fMul
    rw [hM, if_neg (by simp), if_pos hp]
    unfold mulX
    rw [nx, ny, if_neg (by simp), if_pos hin, if_neg h0, sx, sy]
    unfold enF
    generalize pl (toD (false, 0, 0) m) = q
    cases neg x <;> cases neg y <;> rfl
  · rw [if_neg hi, if_neg hi]
    have x1 : eI x = 0 := by omega
    have y1 : eI y = 0 := by omega
    have tx : eT x = tF x := by unfold eT; rw [if_pos x1]
    have ty : eT y = tF y := by unfold eT; rw [if_pos y1]
    have px : pln x = true := by unfold pln; rw [decide_eq_true (ex.1 x1), decide_eq_true x0]; rfl
    have py : pln y = true := by unfold pln; rw [decide_eq_true (ey.1 y1), decide_eq_true y0]; rfl
    have o : Ok (tM (tF x) (tF y)) := tM_ok (tM_okR x y)
    have e : fMul x y m = toD (tM (tF x) (tF y)) m := by
      unfold fMul
      rw [hM, if_neg (by simp), if_neg (by rw [px, py]; simp), toD_tf o hm]
    have k := enF_nn 0 (tM (tF x) (tF y)) hm
    have e2 : enF 0 (tM (tF x) (tF y)) m = pl (toD (tM (tF x) (tF y)) m) := by unfold enF; rw [if_pos rfl]
    rw [e2, pl_nan] at k
    rw [tx, ty, e2, e, onF_nn k]
/-- ends in their order -/
def xle (i j : Int) (t u : Bool × Nat × Int) : Prop := i < j ∨ (i = j ∧ (i = 0 → V8 t ≤ V8 u))
theorem xle_refl (i : Int) (t : Bool × Nat × Int) : xle i i t t := .inr ⟨rfl, fun _ => Int.le_refl _⟩
/-- rounding keeps the order -/
theorem enF_mono {i j : Int} {t u : Bool × Nat × Int} (hi : -1 ≤ i ∧ i ≤ 1) (hj : -1 ≤ j ∧ j ≤ 1) (o1 : Ok t) (o2 : Ok u) {m : Int} (hm : 1 ≤ m ∧ m ≤ 3) (h : xle i j t u) : stp (enF i t m) ≤ stp (enF j u m) := by
  have b1 := nn_stp (enF_nn i t hm)
  have b2 : -9218868437227405312 ≤ stp (enF j u m) := by
    have := mag_le8 (enF_nn j u hm)
    unfold stp sgn
    split <;> omega
  rcases h with h | ⟨rfl, h⟩
  · by_cases h1 : j = 1
    · have e : enF j u m = 9218868437227405312 := by rw [h1]; unfold enF; rfl
      rw [e, show stp 9218868437227405312 = 9218868437227405312 by decide]
      exact b1
    · have e : enF i t m = 18442240474082181120 := by rw [show i = -1 by omega]; unfold enF; rfl
      rw [e, show stp 18442240474082181120 = -9218868437227405312 by decide]
      exact b2
  · by_cases h0 : i = 0
    · have k := toD_mono o1 o2 hm (h h0)
      unfold enF
      rw [if_pos h0, if_pos h0, pl_stp, pl_stp]
      exact k
    · unfold enF
      rw [if_neg h0, if_neg h0]
      exact Int.le_refl _
end Go.Proofs.YtcoclopllbfjcaaGreatDoor
/- Mul joined. -/
namespace Go.Proofs.YtcoclopllbfjcaaGreatDoor
set_option linter.unusedVariables false
set_option linter.unusedSimpArgs false
open Go.RowKit Go.Fl64
attribute [local go_sem] run_store_flt

theorem enF_nZ (i : Int) (t : Bool × Nat × Int) (m : Int) : enF i t m ≠ 9223372036854775808 := by
  unfold enF
  split
  · unfold pl
    split
    · decide
    · assumption
  · split <;> decide
theorem pl_nZ (x : Nat) : pl x ≠ 9223372036854775808 := by
  unfold pl
  split
  · decide
  · assumption
end Go.Proofs.YtcoclopllbfjcaaGreatDoor
/- The program's powers and square roots of intervals, walked. -/
namespace Go.Proofs.YtcoclopllbfjcaaGreatDoor
set_option linter.unusedVariables false
set_option linter.unusedSimpArgs false
open Go.RowKit Go.Fl64
attribute [local go_sem] run_store_flt

theorem iv_other {W : World} {g k a b : Nat} (h : IvB W k a b) (c d : Nat) (hk : k ≠ g) : IvB ((W.setCell ⟨g, 0, none⟩ (.float .f64 c)).setCell ⟨g, 1, none⟩ (.float .f64 d)) k a b := by
  unfold IvB at *
  have h' : ¬ g = k := fun e => hk e.symm
  simp [World.setCell, Array.getElem?_modify, h', h]
set_option maxHeartbeats 4000000 in
set_option maxRecDepth 200000 in
theorem spow_no (a b : Nat) (n : Int) (v : Bool) (w : World) (hr : v = false ∨ n < 0 ∨ 1024 < n)
    (k0 : ∀ W, Calls Tryz.prog 52 #[.agg #[.float .f64 a, .float .f64 b]] W fun r w' => r = .returned (.bool v) ∧ Below W.heap.size W w') :
    Calls Tryz.prog 14 #[.agg #[.float .f64 a, .float .f64 b], .int .i64 n] w fun r w' => r = .returned (.tuple #[.agg #[.float .f64 0, .float .f64 0], .int .i64 1]) ∧ Below w.heap.size w w' := by
  obtain ⟨W, hW⟩ : ∃ W, W = ((w.alloc (.cells #[.float .f64 a, .float .f64 b] 24)).alloc (.cells #[.float .f64 0, .float .f64 0] 24)) := ⟨_, rfl⟩
  have HX : Hid (Below w.heap.size w W ∧ IvB W (w.heap.size) a b ∧ IvB W (w.heap.size + 1) 0 0) := by
    rw [hW]
    exact ⟨bxs2_0 w a b 0 0, bxs2_1 w a b 0 0, bxs2_2 w a b 0 0⟩
  have HK : Hid (∀ w', Below W.heap.size W w' → IvF w' (w.heap.size) a b ∧ IvF w' (w.heap.size + 1) 0 0) := fun w' hb => ⟨(HX.out.2.1).later hb, (HX.out.2.2).later hb⟩
  obtain ⟨⟨c0, c1, z0, z1⟩, ⟨c2, c3, z2, z3⟩⟩ := HK.out W (Below.refl _ _)
  have kk := k0 W
  clear k0
  go_enter Tryz.func14, Tryz.ntmps14
  go_upto_region 1 with fail
  rw [← hW]
  clear hW
  go_wp2_with fail
  refine kk.mono ?_
  rintro r w0 ⟨rfl, hb2⟩
  clear kk c0 z0 c1 z1 c2 z2 c3 z3
  obtain ⟨⟨c0, c1, z0, z1⟩, ⟨c2, c3, z2, z3⟩⟩ := HK.out w0 hb2
  have HB : Hid (Below w.heap.size w w0) := HX.out.1.trans (hb2.mono HX.out.1.size)
  have HR : Hid (IvB w0 (w.heap.size + 1) 0 0) := HX.out.2.2.box hb2
  clear hb2 HK HX
  by_cases hv : v = false
  · subst hv
    go_wp2
    refine bodyPost_ret (results_cell_tmp_row rfl _ _ (w.heap.size + 1) 24 #[.float .f64 0, .float .f64 0] (0, 0) _ rfl (HR.out.set _ _) Tryz.underlying24 rfl iv_info) rfl ?_
    exact ⟨rfl, below_store2 HB.out (by omega) _ _⟩
  · have hv' : v = true := by cases v <;> simp_all
    subst hv'
    by_cases hn : n < 0
    · clear hr
      go_wp2
      refine bodyPost_ret (results_cell_tmp_row rfl _ _ (w.heap.size + 1) 24 #[.float .f64 0, .float .f64 0] (0, 0) _ rfl (HR.out.set _ _) Tryz.underlying24 rfl iv_info) rfl ?_
      exact ⟨rfl, below_store2 HB.out (by omega) _ _⟩
    · have hn2 : 1024 < n := by rcases hr with h | h | h; (exact absurd h hv); omega; exact h
      clear hr
      go_wp2
      refine bodyPost_ret (results_cell_tmp_row rfl _ _ (w.heap.size + 1) 24 #[.float .f64 0, .float .f64 0] (0, 0) _ rfl (HR.out.set _ _) Tryz.underlying24 rfl iv_info) rfl ?_
      exact ⟨rfl, below_store2 HB.out (by omega) _ _⟩
set_option maxHeartbeats 4000000 in
set_option maxRecDepth 200000 in
theorem spow_1 (a b c d n p q x y : Nat) (w : World) (hn : n ≤ 1024)
    (k0 : ∀ W, Calls Tryz.prog 52 #[.agg #[.float .f64 a, .float .f64 b]] W fun r w' => r = .returned (.bool true) ∧ Below W.heap.size W w')
    (km : n % 2 = 0 → ∀ W, Below w.heap.size w W → Calls Tryz.prog 53 #[.agg #[.float .f64 a, .float .f64 b]] W fun r w' => r = .returned (.agg #[.float .f64 c, .float .f64 d]) ∧ Below W.heap.size W w')
    (ko : n % 2 = 1 → c = a ∧ d = b)
    (k1 : ∀ W, Below w.heap.size w W → Calls Tryz.prog 55 #[.float .f64 c, .int .i64 n, .int .i64 1] W fun r w' => r = .returned (.float .f64 p) ∧ Below W.heap.size W w')
    (k2 : ∀ W, Below w.heap.size w W → Calls Tryz.prog 55 #[.float .f64 d, .int .i64 n, .int .i64 3] W fun r w' => r = .returned (.float .f64 q) ∧ Below W.heap.size W w')
    (k3 : ∀ W, Below w.heap.size w W → Calls Tryz.prog 54 #[.float .f64 p, .float .f64 q] W fun r w' => r = .returned (.agg #[.float .f64 x, .float .f64 y]) ∧ Below W.heap.size W w') :
    Calls Tryz.prog 14 #[.agg #[.float .f64 a, .float .f64 b], .int .i64 n] w fun r w' => r = .returned (.tuple #[.agg #[.float .f64 x, .float .f64 y], .int .i64 0]) ∧ Below w.heap.size w w' := by
  have hn0 : ¬ (n : Int) < 0 := by omega
  have hn1 : ¬ 1024 < (n : Int) := by omega
  have htm : (n : Int).tmod 2 = ((n % 2 : Nat) : Int) := by rw [Int.tmod_eq_emod_of_nonneg (by omega)]; rfl
  obtain ⟨W, hW⟩ : ∃ W, W = ((w.alloc (.cells #[.float .f64 a, .float .f64 b] 24)).alloc (.cells #[.float .f64 0, .float .f64 0] 24)) := ⟨_, rfl⟩
  have HX : Hid (Below w.heap.size w W ∧ IvB W (w.heap.size) a b ∧ IvB W (w.heap.size + 1) 0 0) := by
    rw [hW]
    exact ⟨bxs2_0 w a b 0 0, bxs2_1 w a b 0 0, bxs2_2 w a b 0 0⟩
  have HK : Hid (∀ w', Below W.heap.size W w' → IvF w' (w.heap.size) a b ∧ IvF w' (w.heap.size + 1) 0 0) := fun w' hb => ⟨(HX.out.2.1).later hb, (HX.out.2.2).later hb⟩
  obtain ⟨⟨c0, c1, z0, z1⟩, ⟨c2, c3, z2, z3⟩⟩ := HK.out W (Below.refl _ _)
  have kk := k0 W
  clear k0
  go_enter Tryz.func14, Tryz.ntmps14
  go_upto_region 1 with fail
  rw [← hW]
  clear hW
  go_wp2_with fail
  refine kk.mono ?_
  rintro r w0 ⟨rfl, hb2⟩
  clear kk c0 z0 c1 z1 c2 z2 c3 z3
  obtain ⟨⟨c0, c1, z0, z1⟩, ⟨c2, c3, z2, z3⟩⟩ := HK.out w0 hb2
  rcases (show n % 2 = 0 ∨ n % 2 = 1 by omega) with hpar | hpar
  · rw [hpar] at htm
    have km' := km hpar w0 (HX.out.1.trans (hb2.mono HX.out.1.size))
    clear km ko
    go_wp2_with fail
    refine km'.mono ?_
    rintro r w1 ⟨rfl, hb3⟩
    have hb4 : Below W.heap.size W w1 := hb2.trans (hb3.mono hb2.size)
    clear c0 z0 c1 z1 c2 z2 c3 z3 km' hb2 hb3
    obtain ⟨⟨c0, c1, z0, z1⟩, ⟨c2, c3, z2, z3⟩⟩ := HK.out w1 hb4
    obtain ⟨V, hV⟩ : ∃ V, V = (w1.setCell ⟨w.heap.size, 0, none⟩ (.float .f64 c)).setCell ⟨w.heap.size, 1, none⟩ (.float .f64 d) := ⟨_, rfl⟩
    have HV : Hid (Below w.heap.size w V ∧ IvB V (w.heap.size) c d ∧ IvB V (w.heap.size + 1) 0 0) := by
      rw [hV]
      exact ⟨below_store2 (HX.out.1.trans (hb4.mono HX.out.1.size)) (Nat.le_refl _) _ _, (HX.out.2.1.box hb4).set _ _, iv_other (HX.out.2.2.box hb4) _ _ (by omega)⟩
    clear HX HK hb4
    go_upto_region 5 with fail
    rw [← hV]
    clear hV
    have HKK : Hid (∀ w', Below V.heap.size V w' → (w'.cell? ⟨w.heap.size, 0, none⟩ = some (.float .f64 c) ∧ w'.cell? ⟨w.heap.size, 1, none⟩ = some (.float .f64 d))) := fun w' hb => ⟨(HV.out.2.1.later hb).1, (HV.out.2.1.later hb).2.1⟩
    have hR : Below V.heap.size V V.drew := (Below.refl _ _).drew
    have q1 : ∀ W', Below V.heap.size V W' → Calls Tryz.prog 55 #[.float .f64 c, .int .i64 n, .int .i64 1] W' fun r w' => r = .returned (.float .f64 p) ∧ Below V.heap.size V w' := fun W' h => (k1 W' (HV.out.1.trans (h.mono HV.out.1.size))).mono fun r w' ⟨e1, e2⟩ => ⟨e1, h.trans (e2.mono h.size)⟩
    have q2 : ∀ W', Below V.heap.size V W' → Calls Tryz.prog 55 #[.float .f64 d, .int .i64 n, .int .i64 3] W' fun r w' => r = .returned (.float .f64 q) ∧ Below V.heap.size V w' := fun W' h => (k2 W' (HV.out.1.trans (h.mono HV.out.1.size))).mono fun r w' ⟨e1, e2⟩ => ⟨e1, h.trans (e2.mono h.size)⟩
    have q3 : ∀ W', Below V.heap.size V W' → Calls Tryz.prog 54 #[.float .f64 p, .float .f64 q] W' fun r w' => r = .returned (.agg #[.float .f64 x, .float .f64 y]) ∧ Below V.heap.size V w' ∧ (w'.cell? ⟨w.heap.size + 1, 0, none⟩ = some (.float .f64 0) ∧ w'.cell? ⟨w.heap.size + 1, 1, none⟩ = some (.float .f64 0) ∧ w'.frozen? ⟨w.heap.size + 1, 0, none⟩ = false ∧ w'.frozen? ⟨w.heap.size + 1, 1, none⟩ = false) := fun W' h => (k3 W' (HV.out.1.trans (h.mono HV.out.1.size))).mono fun r w' ⟨e1, e2⟩ => ⟨e1, h.trans (e2.mono h.size), HV.out.2.2.later (h.trans (e2.mono h.size))⟩
    clear k1 k2 k3 c0 c1 c2 c3 z0 z1 z2 z3
    obtain ⟨c0, c1⟩ := HKK.out V (Below.refl _ _)
    go_region_held3 (fun w' => (w'.cell? ⟨w.heap.size, 0, none⟩ = some (.float .f64 c) ∧ w'.cell? ⟨w.heap.size, 1, none⟩ = some (.float .f64 d))) (first | (with_reducible assumption) | exact HKK.out _ hR | (refine HKK.out _ ?_; with_reducible assumption) | (refine ⟨?_, ?_⟩ <;> (change World.cell? (World.setCell (World.setCell _ _ _) _ _) _ = _; rw [World.cell?_setCell_other _ _ _ _ (by first | (simp; done) | (simp; omega)), World.cell?_setCell_other _ _ _ _ (by first | (simp; done) | (simp; omega))]; first | exact (HKK.out _ hb7).1 | exact (HKK.out _ hb7).2)))
      (first | (go_at_call 55; with_reducible refine (q1 _ (by first | (with_reducible assumption) | exact hR)).mono ?_; rintro r w5 ⟨rfl, hb5⟩)
             | (go_at_call 55; with_reducible refine (q2 _ (by first | (with_reducible assumption) | exact hR)).mono ?_; rintro r w6 ⟨rfl, hb6⟩)
             | (go_at_call 54; with_reducible refine (q3 _ (by first | (with_reducible assumption) | exact hR)).mono ?_; rintro r w7 ⟨rfl, hb7, x0, x1, x2, x3⟩))
    have HB : Hid (Below w.heap.size w w7) := HV.out.1.trans (hb7.mono HV.out.1.size)
    have HR : Hid (IvB w7 (w.heap.size + 1) 0 0) := HV.out.2.2.box hb7
    clear q1 q2 q3 HKK HV hR hb7 x0 x1 x2 x3 c0 c1
    go_wp2_with fail
    refine bodyPost_ret (results_cell_tmp_row rfl _ _ (w.heap.size + 1) 24 #[.float .f64 x, .float .f64 y] (0, 0) _ rfl (HR.out.set _ _) Tryz.underlying24 rfl iv_info) rfl ?_
    first | exact ⟨rfl, below_store2 HB.out (by omega) _ _⟩ | exact ⟨rfl, (below_store2 HB.out (by omega) _ _).drew⟩
  · rw [hpar] at htm
    obtain ⟨rfl, rfl⟩ := ko hpar
    have HV : Hid (Below w.heap.size w w0 ∧ IvB w0 (w.heap.size) c d ∧ IvB w0 (w.heap.size + 1) 0 0) := ⟨HX.out.1.trans (hb2.mono HX.out.1.size), HX.out.2.1.box hb2, HX.out.2.2.box hb2⟩
    clear HX HK hb2 km ko
    have HKK : Hid (∀ w', Below w0.heap.size w0 w' → (w'.cell? ⟨w.heap.size, 0, none⟩ = some (.float .f64 c) ∧ w'.cell? ⟨w.heap.size, 1, none⟩ = some (.float .f64 d))) := fun w' hb => ⟨(HV.out.2.1.later hb).1, (HV.out.2.1.later hb).2.1⟩
    have hR : Below w0.heap.size w0 w0.drew := (Below.refl _ _).drew
    have q1 : ∀ W', Below w0.heap.size w0 W' → Calls Tryz.prog 55 #[.float .f64 c, .int .i64 n, .int .i64 1] W' fun r w' => r = .returned (.float .f64 p) ∧ Below w0.heap.size w0 w' := fun W' h => (k1 W' (HV.out.1.trans (h.mono HV.out.1.size))).mono fun r w' ⟨e1, e2⟩ => ⟨e1, h.trans (e2.mono h.size)⟩
    have q2 : ∀ W', Below w0.heap.size w0 W' → Calls Tryz.prog 55 #[.float .f64 d, .int .i64 n, .int .i64 3] W' fun r w' => r = .returned (.float .f64 q) ∧ Below w0.heap.size w0 w' := fun W' h => (k2 W' (HV.out.1.trans (h.mono HV.out.1.size))).mono fun r w' ⟨e1, e2⟩ => ⟨e1, h.trans (e2.mono h.size)⟩
    have q3 : ∀ W', Below w0.heap.size w0 W' → Calls Tryz.prog 54 #[.float .f64 p, .float .f64 q] W' fun r w' => r = .returned (.agg #[.float .f64 x, .float .f64 y]) ∧ Below w0.heap.size w0 w' ∧ (w'.cell? ⟨w.heap.size + 1, 0, none⟩ = some (.float .f64 0) ∧ w'.cell? ⟨w.heap.size + 1, 1, none⟩ = some (.float .f64 0) ∧ w'.frozen? ⟨w.heap.size + 1, 0, none⟩ = false ∧ w'.frozen? ⟨w.heap.size + 1, 1, none⟩ = false) := fun W' h => (k3 W' (HV.out.1.trans (h.mono HV.out.1.size))).mono fun r w' ⟨e1, e2⟩ => ⟨e1, h.trans (e2.mono h.size), HV.out.2.2.later (h.trans (e2.mono h.size))⟩
    clear k1 k2 k3 c0 c1 c2 c3 z0 z1 z2 z3
    obtain ⟨c0, c1⟩ := HKK.out w0 (Below.refl _ _)
    go_upto_region 5 with fail
    go_region_held3 (fun w' => (w'.cell? ⟨w.heap.size, 0, none⟩ = some (.float .f64 c) ∧ w'.cell? ⟨w.heap.size, 1, none⟩ = some (.float .f64 d))) (first | (with_reducible assumption) | exact HKK.out _ hR | (refine HKK.out _ ?_; with_reducible assumption) | (refine ⟨?_, ?_⟩ <;> (change World.cell? (World.setCell (World.setCell _ _ _) _ _) _ = _; rw [World.cell?_setCell_other _ _ _ _ (by first | (simp; done) | (simp; omega)), World.cell?_setCell_other _ _ _ _ (by first | (simp; done) | (simp; omega))]; first | exact (HKK.out _ hb7).1 | exact (HKK.out _ hb7).2)))
      (first | (go_at_call 55; with_reducible refine (q1 _ (by first | (with_reducible assumption) | exact hR)).mono ?_; rintro r w5 ⟨rfl, hb5⟩)
             | (go_at_call 55; with_reducible refine (q2 _ (by first | (with_reducible assumption) | exact hR)).mono ?_; rintro r w6 ⟨rfl, hb6⟩)
             | (go_at_call 54; with_reducible refine (q3 _ (by first | (with_reducible assumption) | exact hR)).mono ?_; rintro r w7 ⟨rfl, hb7, x0, x1, x2, x3⟩))
    have HB : Hid (Below w.heap.size w w7) := HV.out.1.trans (hb7.mono HV.out.1.size)
    have HR : Hid (IvB w7 (w.heap.size + 1) 0 0) := HV.out.2.2.box hb7
    clear q1 q2 q3 HKK HV hR hb7 x0 x1 x2 x3 c0 c1
    go_wp2_with fail
    refine bodyPost_ret (results_cell_tmp_row rfl _ _ (w.heap.size + 1) 24 #[.float .f64 x, .float .f64 y] (0, 0) _ rfl (HR.out.set _ _) Tryz.underlying24 rfl iv_info) rfl ?_
    first | exact ⟨rfl, below_store2 HB.out (by omega) _ _⟩ | exact ⟨rfl, (below_store2 HB.out (by omega) _ _).drew⟩
end Go.Proofs.YtcoclopllbfjcaaGreatDoor
/- The document's powers of intervals, walked. -/
namespace Go.Proofs.YtcoclopllbfjcaaGreatDoor
set_option linter.unusedVariables false
set_option linter.unusedSimpArgs false
open Go.RowKit Go.Fl64
attribute [local go_sem] run_store_flt

end Go.Proofs.YtcoclopllbfjcaaGreatDoor
/- The document's square roots of intervals, walked. -/
namespace Go.Proofs.YtcoclopllbfjcaaGreatDoor
set_option linter.unusedVariables false
set_option linter.unusedSimpArgs false
open Go.RowKit Go.Fl64
attribute [local go_sem] run_store_flt

end Go.Proofs.YtcoclopllbfjcaaGreatDoor
/- The document's powers of ends, walked. -/
namespace Go.Proofs.YtcoclopllbfjcaaGreatDoor
set_option linter.unusedVariables false
set_option linter.unusedSimpArgs false
open Go.RowKit Go.Fl64

/-- an end's box -/
def EnI (W : World) (g : Nat) (i : Int) (s : Bool) (ao : Option Addr) (n cap : Nat) (e : Int) : Prop := EnB W g (.int .i64 i) (.bool s) (.slice ao n cap) (.int .i64 e)
theorem at_storeE {W : World} {ao' : Option Addr} {m z g : Nat} {i e : Int} {s : Bool} {ao : Option Addr} {n cap : Nat} (h : At W ao' m z) (hE : EnI W g i s ao n cap e) (a' b' c' d' : Value) : At ((((W.setCell ⟨g, 0, none⟩ a').setCell ⟨g, 1, none⟩ b').setCell ⟨g, 2, none⟩ c').setCell ⟨g, 3, none⟩ d') ao' m z := by
  obtain ⟨bb, o, h1, h2⟩ := h
  refine ⟨bb, o, h1, fun i hi => ?_⟩
  have hc := h2 i hi
  have hne : bb ≠ g := by
    rintro rfl
    unfold EnI EnB at hE
    simp only [World.cell?, hE] at hc
    rcases (show o + i = 0 ∨ o + i = 1 ∨ o + i = 2 ∨ o + i = 3 ∨ 4 ≤ o + i by omega) with e | e | e | e | e
    · rw [e] at hc; simp at hc
    · rw [e] at hc; simp at hc
    · rw [e] at hc; simp at hc
    · rw [e] at hc; simp at hc
    · rw [Array.getElem?_eq_none (by simpa using e)] at hc; cases hc
  rw [World.cell?_setCell_other _ _ _ _ (by first | (simp; done) | (simp; omega)), World.cell?_setCell_other _ _ _ _ (by first | (simp; done) | (simp; omega)), World.cell?_setCell_other _ _ _ _ (by first | (simp; done) | (simp; omega)), World.cell?_setCell_other _ _ _ _ (by first | (simp; done) | (simp; omega))]
  exact hc
theorem en_storeE {W : World} {A : Value} {j : Int} {t : Bool × Nat × Int} {g : Nat} {i e : Int} {s : Bool} {ao : Option Addr} {n cap : Nat} (h : EN W A j t) (hE : EnI W g i s ao n cap e) (a' b' c' d' : Value) : EN ((((W.setCell ⟨g, 0, none⟩ a').setCell ⟨g, 1, none⟩ b').setCell ⟨g, 2, none⟩ c').setCell ⟨g, 3, none⟩ d') A j t := by
  obtain ⟨s', ao', n', cap', e', h1, ao2, cap2, h2, h3⟩ := h
  exact ⟨s', ao', n', cap', e', h1, ao2, cap2, h2, h3.nil, at_storeE h3.at_ hE _ _ _ _, h3.le, h3.small⟩
theorem store4_other {w : World} {g k : Nat} (a b c d : Value) (h : k ≠ g) : ((((w.setCell ⟨g, 0, none⟩ a).setCell ⟨g, 1, none⟩ b).setCell ⟨g, 2, none⟩ c).setCell ⟨g, 3, none⟩ d).heap[k]? = w.heap[k]? := by
  have h' : ¬ g = k := fun e => h e.symm
  simp [World.setCell, Array.getElem?_modify, h']
/-- what holds between two rounds -/
def DRd (w : World) (g : Nat) (p q : Int × Bool × Nat × Int) (z : Prop) (wr : World) (i : Int) (s : Bool) (ao : Option Addr) (m cap : Nat) (e : Int) (i' : Int) (s' : Bool) (ao' : Option Addr) (m' cap' : Nat) (e' : Int) : Prop :=
  EnI wr g i s ao m cap e ∧ EnI wr w.heap.size i' s' ao' m' cap' e' ∧ EnI wr (w.heap.size + 1) 0 false none 0 0 0 ∧ EN wr (.agg #[.int .i64 i, .bool s, .slice ao m cap, .int .i64 e]) p.1 p.2 ∧ (z → EN wr (.agg #[.int .i64 i', .bool s', .slice ao' m' cap', .int .i64 e']) q.1 q.2) ∧ Below w.heap.size w wr ∧ w.heap.size + 1 < g ∧ g < wr.heap.size
theorem DRd.out {w : World} {g : Nat} {p q r : Int × Bool × Nat × Int} {z : Prop} {wr w' : World} {i : Int} {s : Bool} {ao : Option Addr} {m cap : Nat} {e : Int} {i' : Int} {s' : Bool} {ao' : Option Addr} {m' cap' : Nat} {e' : Int} {j : Int} {u : Bool} {bo : Option Addr} {k cp : Nat} {f : Int}
    (h : DRd w g p q z wr i s ao m cap e i' s' ao' m' cap' e') (hb : Below wr.heap.size wr w') (hp : EN w' (.agg #[.int .i64 j, .bool u, .slice bo k cp, .int .i64 f]) r.1 r.2) :
    DRd w g r q z ((((w'.setCell ⟨g, 0, none⟩ (.int .i64 j)).setCell ⟨g, 1, none⟩ (.bool u)).setCell ⟨g, 2, none⟩ (.slice bo k cp)).setCell ⟨g, 3, none⟩ (.int .i64 f)) j u bo k cp f i' s' ao' m' cap' e' := by
  obtain ⟨h1, h2, h3, h4, h5, h6, h7, h8⟩ := h
  have hs := hb.size
  have b1 : EnI w' g i s ao m cap e := h1.box hb
  refine ⟨EnB.set b1 _ _ _ _, ?_, ?_, en_storeE hp b1 _ _ _ _, fun hz => en_storeE ((h5 hz).later hb) b1 _ _ _ _, below_store4 (h6.trans (hb.mono h6.size)) (by omega) _ _ _ _, h7, by simp [World.setCell]; omega⟩
  · show _ = _
    rw [store4_other _ _ _ _ (by omega)]; exact h2.box hb
  · show _ = _
    rw [store4_other _ _ _ _ (by omega)]; exact h3.box hb
theorem DRd.last {w : World} {g : Nat} {p q r : Int × Bool × Nat × Int} {z : Prop} {N : Nat} {wr : World} {i : Int} {s : Bool} {ao : Option Addr} {m cap : Nat} {e : Int} {i' : Int} {s' : Bool} {ao' : Option Addr} {m' cap' : Nat} {e' : Int}
    (h : DRd w g p q z wr i s ao m cap e i' s' ao' m' cap' e') (hN : N = 0) : DRd w g p r (N ≠ 0) wr i s ao m cap e i' s' ao' m' cap' e' := by
  obtain ⟨h1, h2, h3, h4, h5, h6⟩ := h
  exact ⟨h1, h2, h3, h4, fun hz => absurd hN hz, h6⟩
end Go.Proofs.YtcoclopllbfjcaaGreatDoor
/- The program's powers of numbers. -/
namespace Go.Proofs.YtcoclopllbfjcaaGreatDoor
set_option linter.unusedVariables false
set_option linter.unusedSimpArgs false
open Go.RowKit Go.Fl64

theorem pn_storeP {w : World} {A : Value} {t : Bool × Nat × Int} {g : Nat} {s : Bool} {ao : Option Addr} {n cap : Nat} {e : Int} (h : PN w A t) (hg : w.heap[g]? = some (.cells #[.bool s, .slice ao n cap, .int .i64 e] 96 (0, 0))) (a b c : Value) : PN (((w.setCell ⟨g, 0, none⟩ a).setCell ⟨g, 1, none⟩ b).setCell ⟨g, 2, none⟩ c) A t := by
  obtain ⟨oo, cc, h1, ao', cap', h2, h3, h4, h5⟩ := h
  exact ⟨oo, cc, h1, ao', cap', h2, h3, h4, at_boxP h5 hg (by simp) (by simp) (by simp) a b c⟩
theorem store3_other {w : World} {g k : Nat} (a b c : Value) (h : k ≠ g) : (((w.setCell ⟨g, 0, none⟩ a).setCell ⟨g, 1, none⟩ b).setCell ⟨g, 2, none⟩ c).heap[k]? = w.heap[k]? := by
  have h' : ¬ g = k := fun e => h e.symm
  simp [World.setCell, Array.getElem?_modify, h']
def NBx (W : World) (g : Nat) (s : Bool) (ao : Option Addr) (m cap : Nat) (e : Int) : Prop := W.heap[g]? = some (.cells #[.bool s, .slice ao m cap, .int .i64 e] 96 (0, 0))
/-- what holds between two rounds: the number's box, the answer's, the argument's -/
def RdP (w : World) (g : Nat) (t p : Bool × Nat × Int) (s0 : Bool) (ao0 : Option Addr) (m0 c0 : Nat) (e0 : Int) (wr : World) (s : Bool) (ao : Option Addr) (m cap : Nat) (e : Int) : Prop :=
  NBx wr g s ao m cap e ∧ NBx wr w.heap.size s0 ao0 m0 c0 e0 ∧ NBx wr (w.heap.size + 1) false none 0 0 0 ∧ PN wr (.agg #[.bool s, .slice ao m cap, .int .i64 e]) p ∧ Below w.heap.size w wr ∧ w.heap.size + 1 < g ∧ g < wr.heap.size
theorem RdP.next {w : World} {g : Nat} {t p q : Bool × Nat × Int} {s0 : Bool} {ao0 : Option Addr} {m0 c0 : Nat} {e0 : Int} {wr w' : World} {s s' : Bool} {ao ao' : Option Addr} {m cap m' cap' : Nat} {e e' : Int}
    (h : RdP w g t p s0 ao0 m0 c0 e0 wr s ao m cap e) (hb : Below wr.heap.size wr w') (hp : PN w' (.agg #[.bool s', .slice ao' m' cap', .int .i64 e']) q) :
    RdP w g t q s0 ao0 m0 c0 e0 (((w'.setCell ⟨g, 0, none⟩ (.bool s')).setCell ⟨g, 1, none⟩ (.slice ao' m' cap')).setCell ⟨g, 2, none⟩ (.int .i64 e')) s' ao' m' cap' e' := by
  obtain ⟨h1, h2, h3, h4, h5, h6, h7⟩ := h
  have hs := hb.size
  have b1 := box_later h1 hb h7
  refine ⟨store3 _ _ _ b1, ?_, ?_, pn_storeP hp b1 _ _ _, below_store3 (h5.trans (hb.mono h5.size)) (by omega) _ _ _, h6, by simp [World.setCell]; omega⟩
  · show _ = _
    rw [store3_other _ _ _ (by omega)]; exact box_later h2 hb (by omega)
  · show _ = _
    rw [store3_other _ _ _ (by omega)]; exact box_later h3 hb (by omega)

theorem bit_tab : ∀ k : Fin 1025, (bits BinOp.and IntKind.i64 ((k.val : Nat) : Int) 1 == 1) = (k.val % 2 == 1) := by decide +kernel
theorem bit_i64 {n q : Nat} (h : n ≤ 1024) : (bits BinOp.and IntKind.i64 ((n : Int) / 2 ^ q) 1 == 1) = (n / 2 ^ q % 2 == 1) := by
  have h1 := Nat.div_le_self n (2 ^ q)
  have h2 := bit_tab ⟨n / 2 ^ q, by omega⟩
  rw [show (n : Int) / 2 ^ q = ((n / 2 ^ q : Nat) : Int) by simp]
  exact h2
theorem two_half (n q : Nat) : n / 2 ^ (q + 1) + n / 2 ^ (q + 1) + n / 2 ^ q % 2 = n / 2 ^ q := by
  rw [Nat.pow_succ, ← Nat.div_div_eq_div_mul]; omega

set_option maxHeartbeats 4000000 in
set_option maxRecDepth 200000 in
theorem smult_1 (t : Bool × Nat × Int) (P : Nat → Bool × Nat × Int) (n L : Nat) (s0 : Bool) (ao0 : Option Addr) (m0 c0 : Nat) (e0 : Int) (w : World) (hn : n ≤ 1024) (hL : Hid (bl n = L)) (hL2 : L ≤ 11)
    (hA : PN w (.agg #[.bool s0, .slice ao0 m0 c0, .int .i64 e0]) (P 1))
    (kW : ∀ W, Below w.heap.size w W → Calls Tryz.prog 136 #[.int .i64 1] W fun r w' => OutA W (P 0) r w')
    (kM : ∀ W X Y a b, Below w.heap.size w W → PN W X (P a) → PN W Y (P b) → a + b ≤ n → Calls Tryz.prog 119 #[X, Y] W fun r w' => OutN8 W (P (a + b)) r w')
    (kL : ∀ W, Calls Tryz.prog 137 #[.int .u64 n] W fun r w' => r = .returned (.int .i64 L) ∧ w' = W) :
    Calls Tryz.prog 101 #[.agg #[.bool s0, .slice ao0 m0 c0, .int .i64 e0], .int .i64 n] w fun r w' => OutA w (P n) r w' := by
  obtain ⟨W, hW⟩ : ∃ W, W = (w.alloc (.cells #[.bool s0, .slice ao0 m0 c0, .int .i64 e0] 96)).alloc (.cells #[.bool false, .slice none 0 0, .int .i64 0] 96) := ⟨_, rfl⟩
  have hsz : W.heap.size = w.heap.size + 1 + 1 := by rw [hW]; simp
  have hBW : Below w.heap.size w W := by rw [hW]; exact ((Below.refl _ _).alloc (Nat.le_refl _) _).alloc (by simp) _
  have hA1 : NBx W w.heap.size s0 ao0 m0 c0 e0 := by
    show W.heap[w.heap.size]? = _
    rw [hW, Below.heap_alloc _ _ _ (by simp)]; exact heap_alloc_new _ _
  have hA2 : NBx W (w.heap.size + 1) false none 0 0 0 := by
    show W.heap[w.heap.size + 1]? = _
    have h := heap_alloc_new (w.alloc (.cells #[.bool s0, .slice ao0 m0 c0, .int .i64 e0] 96)) (.cells #[.bool false, .slice none 0 0, .int .i64 0] 96)
    rw [hW]; simpa using h
  have k1 := kW W hBW
  have HH : Hid (NBx W w.heap.size s0 ao0 m0 c0 e0 ∧ NBx W (w.heap.size + 1) false none 0 0 0 ∧ Below w.heap.size w W ∧ W.heap.size = w.heap.size + 1 + 1) := ⟨hA1, hA2, hBW, hsz⟩
  clear hA1 hA2 hBW hsz kW
  go_enter Tryz.func101, Tryz.ntmps101
  go_wp2_with fail
  rw [← hW]
  clear hW
  refine k1.mono ?_
  rintro r w1 ⟨s, ao, m, cap, e, rfl, hp, hb⟩
  clear k1
  obtain ⟨V, hV⟩ : ∃ V, V = w1.alloc (.cells #[.bool s, .slice ao m cap, .int .i64 e] 96) := ⟨_, rfl⟩
  obtain ⟨g, hg⟩ : ∃ g, g = w1.heap.size := ⟨_, rfl⟩
  have HR : Hid (RdP w g (P 1) (P 0) s0 ao0 m0 c0 e0 V s ao m cap e) := by
    obtain ⟨h1, h2, h3, h4⟩ := HH.out
    have hs := hb.size
    have hc : Below w1.heap.size w1 V := by rw [hV]; exact (Below.refl _ _).alloc (Nat.le_refl _) _
    refine ⟨by rw [hg, hV]; exact heap_alloc_new _ _, ?_, ?_, hp.later hc, (h3.trans (hb.mono h3.size)).trans (hc.mono (by omega)), by omega, by rw [hV, hg]; simp⟩
    · exact box_later (box_later h1 hb (by omega)) hc (by omega)
    · exact box_later (box_later h2 hb (by omega)) hc (by omega)
  go_wp2_with fail
  rw [← hV, ← hg]
  clear hV hg HH hp hb
  refine (kL _).mono ?_
  rintro r w2 ⟨rfl, rfl⟩
  go_wp2
  go_loopw [6] (fun v wr => ∃ (p : Nat) (s : Bool) (ao : Option Addr) (m cap : Nat) (e : Int), p ≤ L ∧ v = .int .i64 ((p : Int) - 1) ∧ Hid (RdP w g (P 1) (P (n / 2 ^ p)) s0 ao0 m0 c0 e0 wr s ao m cap e)) (fun v _ => (intOf v + 1).toNat)
  case atStart => exact ⟨L, s, ao, m, cap, e, Nat.le_refl _, rfl, by rw [← hL.out, Nat.div_eq_of_lt (lt_bl n)]; exact HR⟩
  case round =>
    obtain ⟨p, s, ao, m, cap, e, hp, rfl, HI⟩ := hrel
    clear HR
    by_cases h0 : 0 < p
    · obtain ⟨q, rfl⟩ : ∃ q, p = q + 1 := ⟨p - 1, by omega⟩
      have e1 : ((q + 1 : Nat) : Int) - 1 = (q : Int) := by omega
      have hq0 : (0 : Int) ≤ (q : Int) := by omega
      have hq1 : (q : Int) < 64 := by omega
      rw [e1]
      obtain ⟨⟨a0, a1, a2⟩, -⟩ := box_cells HI.out.1
      have k1 := kM wr _ _ (n / 2 ^ (q + 1)) (n / 2 ^ (q + 1)) HI.out.2.2.2.2.1 HI.out.2.2.2.1 HI.out.2.2.2.1 (by have := two_half n q; have := Nat.div_le_self n (2 ^ q); omega)
      go_wp2_with fail
      refine k1.mono ?_
      rintro r w3 ⟨s1, ao1, m1, cap1, e2, rfl, hp1, hb1⟩
      have HB3 : Hid (Below wr.heap.size wr w3) := hb1
      have HI3 : Hid (RdP w g (P 1) (P (n / 2 ^ (q + 1) + n / 2 ^ (q + 1))) s0 ao0 m0 c0 e0 (((w3.setCell ⟨g, 0, none⟩ (.bool s1)).setCell ⟨g, 1, none⟩ (.slice ao1 m1 cap1)).setCell ⟨g, 2, none⟩ (.int .i64 e2)) s1 ao1 m1 cap1 e2) := HI.out.next hb1 hp1
      clear k1 a0 a1 a2
      obtain ⟨⟨a0, a1, a2⟩, f0, f1, f2⟩ := box_cells (box_later HI.out.1 hb1 HI.out.2.2.2.2.2.2)
      clear hp1 hb1 HI HB3
      go_upto_region 6 with fail
      obtain ⟨U, hU⟩ : ∃ U, U = (((w3.setCell ⟨g, 0, none⟩ (.bool s1)).setCell ⟨g, 1, none⟩ (.slice ao1 m1 cap1)).setCell ⟨g, 2, none⟩ (.int .i64 e2)) := ⟨_, rfl⟩
      rw [← hU] at HI3 ⊢
      clear hU a0 a1 a2 f0 f1 f2
      have hbit := bit_i64 (q := q) hn
      have h2 := two_half n q
      by_cases hodd : n / 2 ^ q % 2 = 1
      · rw [show (n / 2 ^ q % 2 == 1) = true by simp [hodd]] at hbit
        obtain ⟨⟨a0, a1, a2⟩, -⟩ := box_cells HI3.out.1
        obtain ⟨⟨b0, b1, b2⟩, -⟩ := box_cells HI3.out.2.1
        have k2 := kM U _ _ (n / 2 ^ (q + 1) + n / 2 ^ (q + 1)) 1 HI3.out.2.2.2.2.1 HI3.out.2.2.2.1 (hA.later HI3.out.2.2.2.2.1) (by have := Nat.div_le_self n (2 ^ q); omega)
        rw [show n / 2 ^ (q + 1) + n / 2 ^ (q + 1) + 1 = n / 2 ^ q by omega] at k2
        clear h2
        go_wp2_with fail
        refine k2.mono ?_
        rintro r w4 ⟨s3, ao3, m3, cap3, e3, rfl, hp4, hb4⟩
        have HI4 : Hid (RdP w g (P 1) (P (n / 2 ^ q)) s0 ao0 m0 c0 e0 (((w4.setCell ⟨g, 0, none⟩ (.bool s3)).setCell ⟨g, 1, none⟩ (.slice ao3 m3 cap3)).setCell ⟨g, 2, none⟩ (.int .i64 e3)) s3 ao3 m3 cap3 e3) := HI3.out.next hb4 hp4
        clear k2 a0 a1 a2 b0 b1 b2
        obtain ⟨⟨a0, a1, a2⟩, f0, f1, f2⟩ := box_cells (box_later HI3.out.1 hb4 HI3.out.2.2.2.2.2.2)
        clear hp4 hb4 HI3 hbit hodd
        go_wp2_with fail
        exact ⟨⟨q, s3, ao3, m3, cap3, e3, by omega, rfl, HI4⟩, by simp [intOf]⟩
      · rw [show (n / 2 ^ q % 2 == 1) = false by simp [hodd]] at hbit
        rw [show n / 2 ^ (q + 1) + n / 2 ^ (q + 1) = n / 2 ^ q by omega] at HI3
        clear h2 hodd
        go_wp2_with fail
        exact ⟨⟨q, s1, ao1, m1, cap1, e2, by omega, rfl, HI3⟩, by simp [intOf]⟩
    · obtain rfl : p = 0 := by omega
      rw [Nat.pow_zero, Nat.div_one] at HI
      obtain ⟨⟨a0, a1, a2⟩, -⟩ := box_cells HI.out.1
      obtain ⟨⟨b0, b1, b2⟩, f0, f1, f2⟩ := box_cells HI.out.2.2.1
      go_wp2_with fail
      refine bodyPost_ret (results_cell_row rfl _ _ (w.heap.size + 1) 96 #[.bool s, .slice ao m cap, .int .i64 e] (0, 0) _ rfl (store3 _ _ _ HI.out.2.2.1) Tryz.underlying96 rfl Tryz.info96) rfl ?_
      exact ⟨s, ao, m, cap, e, rfl, pn_storeP HI.out.2.2.2.1 HI.out.2.2.1 _ _ _, below_store3 HI.out.2.2.2.2.1 (by omega) _ _ _⟩
end Go.Proofs.YtcoclopllbfjcaaGreatDoor
/- Powers in numbers. -/
namespace Go.Proofs.YtcoclopllbfjcaaGreatDoor
set_option linter.unusedVariables false
set_option linter.unusedSimpArgs false
open Go.RowKit Go.Fl64

/-- a number to the n -/
def pw (t : Bool × Nat × Int) (n : Nat) : Bool × Nat × Int := if t.2.1 = 0 then (false, if n = 0 then 1 else 0, 0) else (t.1 && n % 2 == 1, t.2.1 ^ n, t.2.2 * n)
theorem pow_odd {x : Nat} (h : x % 2 = 1) (n : Nat) : x ^ n % 2 = 1 := by rw [Nat.pow_mod, h, Nat.one_pow]
theorem pw_mul {t : Bool × Nat × Int} (ho : t.2.1 ≠ 0 → t.2.1 % 2 = 1) (a b : Nat) : tM (pw t a) (pw t b) = pw t (a + b) := by
  unfold pw tM
  by_cases h0 : t.2.1 = 0
  · simp only [if_pos h0]
    by_cases ha : a = 0 <;> by_cases hb : b = 0 <;> simp [ha, hb, cn, tz_odd]
  · simp only [if_neg h0]
    rw [← Nat.pow_add, cn_odd (pow_odd (ho h0) _)]
    have h1 : (!((t.1 && a % 2 == 1) == (t.1 && b % 2 == 1))) = (t.1 && (a + b) % 2 == 1) := by
      cases t.1
      · rfl
      · rcases Nat.mod_two_eq_zero_or_one a with h | h <;> rcases Nat.mod_two_eq_zero_or_one b with h' | h' <;> rw [h, h', Nat.add_mod, h, h'] <;> rfl
    have h2 : t.2.2 * (a : Int) + t.2.2 * (b : Int) = t.2.2 * ((a + b : Nat) : Int) := by rw [← Int.mul_add]; rfl
    rw [h1, h2]
theorem pw_zero (t : Bool × Nat × Int) : pw t 0 = (false, 1, 0) := by
  unfold pw
  by_cases h0 : t.2.1 = 0 <;> simp [h0]
theorem pw_one {t : Bool × Nat × Int} (h : t.2.1 = 0 → t = (false, 0, 0)) : pw t 1 = t := by
  unfold pw
  by_cases h0 : t.2.1 = 0
  · rw [if_pos h0, h h0]; rfl
  · rw [if_neg h0]; simp
theorem pw_ltk {x n k : Nat} (h : x < 9007199254740992) (hp : 0 < n) (hk : 53 * n ≤ 32 * k) : x ^ n < B ^ k := by
  have h1 : x ^ n < (2 ^ 53) ^ n := Nat.pow_lt_pow_left (by omega) (by omega)
  refine Nat.lt_of_lt_of_le h1 ?_
  rw [← Nat.pow_mul, B_two, ← Nat.pow_mul]
  exact Nat.pow_le_pow_right (by decide) hk
theorem dlen_one1 : dlen 1 ≤ 1 := (dlen_le 1 1).2 (by decide)
theorem pw_ltd {x n k : Nat} (h : x < 9007199254740992) (hp : 0 < n) (hk : 53 * n ≤ 32 * k) : dlen (x ^ n) ≤ k := (dlen_le _ _).2 (pw_ltk h hp hk)
theorem pw_lt {x n : Nat} (h : x < 9007199254740992) (hn : n ≤ 1024) : dlen (x ^ n) ≤ 1696 := by
  rcases Nat.eq_zero_or_pos n with rfl | hp
  · rw [Nat.pow_zero]; exact Nat.le_trans dlen_one1 (by decide)
  · exact pw_ltd h hp (by omega)
theorem ok_mk {s : Bool} {x : Nat} {e : Int} (ho : x % 2 = 1) (hd : dlen x ≤ 2048) (h1 : -65536 ≤ e) (h2 : e ≤ 65536) : Ok (s, x, e) := by
  unfold Ok okN
  have hx : x ≠ 0 := by omega
  rw [if_neg (fun e0 => hx (dlen_eq_zero.1 e0))]
  have g1 : (dg x (dlen x - 1) != 0) = true := by simp; exact dg_top hx
  have g2 : (dg x 0 % 2 == 1) = true := by
    have : dg x 0 % 2 = 1 := by
      unfold dg
      simp only [Nat.pow_zero, Nat.div_one]
      unfold B
      omega
    simp [this]
  show (decide (dlen x ≤ 2048) && (dg x (dlen x - 1) != 0) && (dg x 0 % 2 == 1) && decide (-65536 ≤ e) && decide (e ≤ 65536)) = true
  rw [g1, g2]
  simp [hd, h1, h2]
theorem pw_ok {s : Bool} {x n : Nat} (ho : x ≠ 0 → x % 2 = 1) (h : x < 9007199254740992) (hn : n ≤ 1024) : Ok (pw (s, x, 0) n) := by
  unfold pw
  by_cases h0 : x = 0
  · rw [if_pos h0]
    by_cases hn0 : n = 0
    · rw [if_pos hn0]; exact ok_mk rfl (Nat.le_trans dlen_one1 (by decide)) (by decide) (by decide)
    · rw [if_neg hn0]; unfold Ok; rw [dlen_zero]; rfl
  · rw [if_neg h0]
    exact ok_mk (pow_odd (ho h0) n) (Nat.le_trans (pw_lt h hn) (by decide)) (by simp) (by simp)
end Go.Proofs.YtcoclopllbfjcaaGreatDoor
/- The program's powers of floats, rounded. -/
namespace Go.Proofs.YtcoclopllbfjcaaGreatDoor
set_option linter.unusedVariables false
set_option linter.unusedSimpArgs false
open Go.RowKit Go.Fl64

set_option maxRecDepth 200000 in
theorem spower_0 (a : Nat) (m : Int) (M E : Int) (s fi : Bool) (w : World)
    (kS : Calls Tryz.prog 98 #[.float .f64 a] w fun r w' => r = .returned (.tuple #[.int .u64 M, .int .i64 E, .bool s, .bool fi]) ∧ ∃ n, w' = w.drewN n) :
    Calls Tryz.prog 55 #[.float .f64 a, .int .i64 0, .int .i64 m] w fun r w' => r = .returned (.float .f64 4607182418800017408) ∧ Below w.heap.size w w' := by
  have k := kS
  clear kS
  go_enter Tryz.func55, Tryz.ntmps55
  go_wp2_with fail
  refine k.mono ?_
  rintro r w1 ⟨rfl, d, rfl⟩
  clear k
  go_wp2
  go_ret
  exact ⟨rfl, below_drewN (Below.refl _ _) _⟩
set_option maxRecDepth 200000 in
theorem spower_i (a : Nat) (n m : Int) (M E : Int) (s : Bool) (w : World) (hn : (n == 0) = false)
    (kS : Calls Tryz.prog 98 #[.float .f64 a] w fun r w' => r = .returned (.tuple #[.int .u64 M, .int .i64 E, .bool s, .bool false]) ∧ ∃ n, w' = w.drewN n) :
    Calls Tryz.prog 55 #[.float .f64 a, .int .i64 n, .int .i64 m] w fun r w' => r = .returned (.float .f64 a) ∧ Below w.heap.size w w' := by
  have k := kS
  clear kS
  go_enter Tryz.func55, Tryz.ntmps55
  go_wp2_with fail
  refine k.mono ?_
  rintro r w1 ⟨rfl, d, rfl⟩
  clear k
  go_wp2
  go_ret
  exact ⟨rfl, below_drewN (Below.refl _ _) _⟩

set_option maxHeartbeats 4000000 in
set_option maxRecDepth 200000 in
theorem spower_1 (a n M F : Nat) (m E K d0 d1 : Int) (s : Bool) (t p q : Bool × Nat × Int) (w : World) (hn0 : ((n : Int) == 0) = false) (hM : M < 18446744073709551616)
    (hd0 : (M : Int) % 4294967296 = d0) (hd1 : (M : Int) / 4294967296 = d1) (hE1 : -4000000 ≤ E) (hE2 : E ≤ 4000000) (hn : n ≤ 1024) (hK : max (-65536) (min (E * n) 65536) = K) (hEn : IntKind.i64.wrap (E * n) = E * n)
    (kS : Calls Tryz.prog 98 #[.float .f64 a] w fun r w' => r = .returned (.tuple #[.int .u64 M, .int .i64 E, .bool s, .bool true]) ∧ ∃ n, w' = w.drewN n)
    (kK : ∀ W g, Below w.heap.size w W → W.heap[g]? = some (.cells #[.int .u32 d0, .int .u32 d1] 85 (0, 0)) → Calls Tryz.prog 99 #[.bool s, .slice (some ⟨g, 0, none⟩) 2 2, .int .i64 0] W fun r w' => OutN8 W t r w')
    (kM : ∀ W X, Below w.heap.size w W → PN W X t → Calls Tryz.prog 101 #[X, .int .i64 n] W fun r w' => OutA W p r w')
    (kH : ∀ W X, Below w.heap.size w W → PN W X p → Calls Tryz.prog 100 #[X, .int .i64 K] W fun r w' => OutN8 W q r w')
    (kR : ∀ W X, Below w.heap.size w W → PN W X q → Calls Tryz.prog 102 #[X, .int .i64 m] W fun r w' => r = .returned (.tuple #[.float .f64 F, .int .i64 0]) ∧ Below W.heap.size W w') :
    Calls Tryz.prog 55 #[.float .f64 a, .int .i64 n, .int .i64 m] w fun r w' => r = .returned (.float .f64 F) ∧ Below w.heap.size w w' := by
  have k := kS
  clear kS
  go_enter Tryz.func55, Tryz.ntmps55
  go_wp2_with fail
  refine k.mono ?_
  rintro r w1 ⟨rfl, d, hd⟩
  have HB1 : Hid (Below w.heap.size w w1) := by rw [hd]; exact below_drewN (Below.refl _ _) _
  clear k hd
  obtain ⟨W, hW⟩ : ∃ W, W = w1.alloc (.cells #[.int .u32 d0, .int .u32 d1] 85) := ⟨_, rfl⟩
  have HBW : Hid (Below w.heap.size w W) := by rw [hW]; exact HB1.out.alloc HB1.out.size _
  have k1 := kK W w1.heap.size HBW.out (by rw [hW]; exact heap_alloc_new _ _)
  clear kK
  go_wp2_with fail
  rw [← hW]
  clear hW
  refine k1.mono ?_
  rintro r w2 ⟨s2, ao2, m2, cap2, e2, rfl, hp2, hb2⟩
  have HB2 : Hid (Below w.heap.size w w2) := HBW.out.trans (hb2.mono HBW.out.size)
  clear k1 hb2 HBW HB1
  obtain ⟨V, hV⟩ : ∃ V, V = w2.alloc (.cells #[.bool s2, .slice ao2 m2 cap2, .int .i64 e2] 96) := ⟨_, rfl⟩
  have HBV : Hid (Below w.heap.size w V) := by rw [hV]; exact HB2.out.alloc HB2.out.size _
  obtain ⟨⟨a0, a1, a2⟩, -⟩ := box_cells (w := V) (g := w2.heap.size) (by rw [hV]; exact heap_alloc_new _ _)
  have k2 := kM V _ HBV.out (hp2.later (by rw [hV]; exact (Below.refl _ _).alloc (Nat.le_refl _) _))
  clear kM hp2 HB2
  go_wp2_with fail
  rw [← hV]
  clear hV
  refine k2.mono ?_
  rintro r w3 ⟨s3, ao3, m3, cap3, e3, rfl, hp3, hb3⟩
  have HB3 : Hid (Below w.heap.size w w3) := HBV.out.trans (hb3.mono HBV.out.size)
  have k3 := kH w3 _ HB3.out hp3
  clear k2 kH hp3 hb3 HBV a0 a1 a2
  go_wp2_with fail
  refine k3.mono ?_
  rintro r w4 ⟨s4, ao4, m4, cap4, e4, rfl, hp4, hb4⟩
  have HB4 : Hid (Below w.heap.size w w4) := HB3.out.trans (hb4.mono HB3.out.size)
  obtain ⟨U, hU⟩ : ∃ U, U = w4.alloc (.cells #[.bool s4, .slice ao4 m4 cap4, .int .i64 e4] 96) := ⟨_, rfl⟩
  have HBU : Hid (Below w.heap.size w U) := by rw [hU]; exact HB4.out.alloc HB4.out.size _
  obtain ⟨⟨a0, a1, a2⟩, -⟩ := box_cells (w := U) (g := w4.heap.size) (by rw [hU]; exact heap_alloc_new _ _)
  have k4 := kR U _ HBU.out (hp4.later (by rw [hU]; exact (Below.refl _ _).alloc (Nat.le_refl _) _))
  clear k3 kR hp4 hb4 HB4 HB3
  go_wp2_with fail
  rw [← hU]
  clear hU
  refine k4.mono ?_
  rintro r w5 ⟨rfl, hb5⟩
  have HB5 : Hid (Below w.heap.size w w5) := HBU.out.trans (hb5.mono HBU.out.size)
  clear k4 hb5
  go_wp2_with fail
  go_ret
  exact ⟨rfl, HB5.out⟩
end Go.Proofs.YtcoclopllbfjcaaGreatDoor
