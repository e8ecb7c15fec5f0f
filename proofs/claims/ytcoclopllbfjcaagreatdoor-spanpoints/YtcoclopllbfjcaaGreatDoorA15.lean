/- Own work: contracts of the program's functions, part 15: SR3. -/
import Derived.Test.YtcoclopllbfjcaaGreatDoorA14
import Derived.Test.YtcoclopllbfjcaaGreatDoorA13
import Derived.Test.YtcoclopllbfjcaaGreatDoorA12

/- SpanPoints. -/
namespace Go.Proofs.YtcoclopllbfjcaaGreatDoor
set_option linter.unusedVariables false
set_option linter.unusedSimpArgs false
open Go.RowKit Go.Fl64

theorem pl_pl (a : Nat) : pl (pl a) = pl a := by unfold pl; split <;> simp_all
theorem pl_nn {a : Nat} (h : isNaN a = false) : isNaN (pl a) = false := by unfold pl; split; decide; exact h
/-- an interval that holds a number alone -/
theorem hold8 {x y : Nat} {t : Bool × Nat × Int} (o : Wd t) (hx : x = pl (toD t 1)) (hy : y = pl (toD t 3)) : ∀ W X, DN W X t → Calls Tryz.prog 25 #[.agg #[.float .f64 x, .float .f64 y], X] W fun r w' => r = .returned (.bool true) ∧ Below W.heap.size W w' := by
  intro W X hX
  have hX' := hX
  obtain ⟨ao, cap, rfl, -⟩ := hX'
  have l1 := toD_lt (t := t) (m := 1) (by omega)
  have l3 := toD_lt (t := t) (m := 3) (by omega)
  have n1 := toD_nn t (m := 1) (by omega)
  have n3 := toD_nn t (m := 3) (by omega)
  have r1 : ∀ V, (binOp .add 22 (.float .f64 (toD t 1)) (.float .f64 0)).run Tryz.prog V = .ok (.float .f64 (pl (toD t 1))) V := fun V => run_add0 V _ _ l1 n1
  have r3 : ∀ V, (binOp .add 22 (.float .f64 (toD t 3)) (.float .f64 0)).run Tryz.prog V = .ok (.float .f64 (pl (toD t 3))) V := fun V => run_add0 V _ _ l3 n3
  have s1 : ∀ V, (binOp .add 22 (.float .f64 (pl (toD t 1))) (.float .f64 0)).run Tryz.prog V = .ok (.float .f64 (pl (toD t 1))) V := fun V => by have := run_add0 (P := Tryz.prog) V 22 (pl (toD t 1)) (pl_lt l1) (pl_nn n1); rw [pl_pl] at this; exact this
  have s3 : ∀ V, (binOp .add 22 (.float .f64 (pl (toD t 3))) (.float .f64 0)).run Tryz.prog V = .ok (.float .f64 (pl (toD t 3))) V := fun V => by have := run_add0 (P := Tryz.prog) V 22 (pl (toD t 3)) (pl_lt l3) (pl_nn n3); rw [pl_pl] at this; exact this
  rw [hx, hy]
  exact holds_1 _ _ (toD t 1) (toD t 3) _ _ _ _ _ W s1 r1 s3 r3 (fun V hV => dtoW o (by omega) (hX.later hV)) (fun V hV => dtoW o (by omega) (hX.later hV))
    (fun V => (llike_self _ (pl_lt l1) V).mono fun r w' ⟨e1, e2⟩ => ⟨e1, e2 ▸ Below.refl _ _⟩) (fun V => (llike_self _ (pl_lt l3) V).mono fun r w' ⟨e1, e2⟩ => ⟨e1, e2 ▸ Below.refl _ _⟩)
theorem ok_wd {t : Bool × Nat × Int} (o : Ok t) : Wd t := by
  obtain ⟨h1, h2, h3, -, h5⟩ := o.facts
  exact ⟨h1, by omega, by omega, h5⟩
theorem dn_shape {W : World} {t1 t2 t3 : Bool × Nat × Int} {X Y : Value} {f : FuncId} (k : Calls Tryz.prog f #[X, Y] W fun r w' => ∃ A, r = .returned A ∧ DN w' A t3 ∧ Below W.heap.size W w') :
    Calls Tryz.prog f #[X, Y] W fun r w' => ∃ s ao n cap e, r = .returned (.agg #[.bool s, .slice ao n cap, .int .i64 e]) ∧ DN w' (.agg #[.bool s, .slice ao n cap, .int .i64 e]) t3 ∧ Below W.heap.size W w' := by
  refine k.mono ?_
  rintro r w' ⟨A, rfl, h, hb⟩
  have h' := h
  obtain ⟨ao, cap, rfl, -⟩ := h'
  exact ⟨_, _, _, _, _, rfl, h, hb⟩
theorem low_same {D : Nat → Nat} {z : Nat} (hz : isNaN z = false) (hl : z < 18446744073709551616) (hD : ∀ i, D i < 18446744073709551616 ∧ isNaN (D i) = false) (h : ∀ k, k < 4 → D k = z) : pl (lowF D 4) = pl z ∧ pl (hiF D 4) = pl z := by
  have b := nan_stp hz
  have c1 : stp 9218868437227405312 = 9218868437227405312 := by decide
  have c2 : stp 18442240474082181120 = -9218868437227405312 := by decide
  have f0 : ∀ y, fMin y y = y := fun y => by unfold fMin; simp
  have f1 : ∀ y, fMax y y = y := fun y => by unfold fMax; simp
  have e1 : stp (lowF D 4) = stp z := by
    simp only [lowF, h 0 (by omega), h 1 (by omega), h 2 (by omega), h 3 (by omega), fMin_stp]
    rw [c1]; omega
  have e2 : stp (hiF D 4) = stp z := by
    simp only [hiF, h 0 (by omega), h 1 (by omega), h 2 (by omega), h 3 (by omega), fMax_stp]
    rw [c2]; omega
  exact ⟨stp_inj (pl_lt (lowF_ok hD 4).1) (pl_lt hl) (by rw [pl_stp, pl_stp, e1]) (pl_nZ _) (pl_nZ _), stp_inj (pl_lt (hiF_ok hD 4).1) (pl_lt hl) (by rw [pl_stp, pl_stp, e2]) (pl_nZ _) (pl_nZ _)⟩
theorem tF_pl {f : Nat} (hf : f < 18446744073709551616) : tF (pl f) = tF f := by
  unfold pl
  split
  · rename_i h; rw [h]; decide +kernel
  · rfl
theorem fin_e {f : Nat} (h : fin f = true) : isNaN f = false ∧ eI f = 0 ∧ eT f = tF f ∧ f ≠ 9218868437227405312 ∧ f ≠ 18442240474082181120 := by
  have hm : mag f < 9218868437227405312 := by unfold fin at h; simpa using h
  have h1 : f ≠ 9218868437227405312 := by rintro rfl; revert hm; decide
  have h2 : f ≠ 18442240474082181120 := by rintro rfl; revert hm; decide
  have h3 : eI f = 0 := by unfold eI; rw [if_neg h1, if_neg h2]
  exact ⟨by unfold isNaN; simp; omega, h3, by unfold eT; rw [if_pos h3], h1, h2⟩
theorem fin_pl {f : Nat} (h : fin f = true) : fin (pl f) = true := by unfold pl; split; decide; exact h
theorem vI_self {a : Nat} (ha : a < 18446744073709551616) (h : fin a = true) (hz : a ≠ 9223372036854775808) : vI a a = true := by
  have hm : mag a < 9218868437227405312 := by unfold fin at h; simpa using h
  obtain ⟨hn, -, -, -, -⟩ := fin_e h
  have c1 : stp 9218868437227405312 = 9218868437227405312 := by decide
  have c2 : stp 18442240474082181120 = -9218868437227405312 := by decide
  have hs : -9218868437227405312 < stp a ∧ stp a < 9218868437227405312 := by
    unfold stp sgn
    split <;> omega
  unfold vI le lt
  rw [hn, c1, c2, show isNaN 9218868437227405312 = false by decide, show isNaN 18442240474082181120 = false by decide]
  simp [hz, hs.1, hs.2]
theorem tm_fin {t u : Bool × Nat × Int} : tmI 0 0 t u = 0 ∧ tmT 0 0 t u = tM t u := by
  unfold tmI tmT
  by_cases h : sgE 0 t = 0 ∨ sgE 0 u = 0
  · rw [if_pos h, if_pos h]
    refine ⟨rfl, ?_⟩
    have hz : t.2.1 = 0 ∨ u.2.1 = 0 := by
      unfold sgE at h
      rw [if_pos rfl, if_pos rfl] at h
      rcases h with h | h
      · left; split at h
        · assumption
        · split at h <;> omega
      · right; split at h
        · assumption
        · split at h <;> omega
    unfold tM cn
    rw [if_pos (by rcases hz with h | h <;> rw [h] <;> simp)]
  · rw [if_neg h, if_neg h, if_neg (by omega), if_neg (by omega)]
    exact ⟨rfl, rfl⟩
set_option maxHeartbeats 1000000 in
/-- SpanPoints answers true -/
theorem spanPoints_ok (f g : Nat) (w : World) (hf : f < 18446744073709551616) (hg : g < 18446744073709551616) (hT : Tab32 w) (hJ : Ie.Tab w) :
    Calls Tryz.prog 6 #[.float .f64 f, .float .f64 g] w fun r w' => r = .returned (.bool true) ∧ Below w.heap.size w w' := by
  have hw : ∀ W, Below w.heap.size w W → Calls Tryz.prog 13 #[] W fun r w' => r = .returned (.bool true) ∧ Below W.heap.size W w' := fun W h => works8 W (hT.later h) (Tab.later hJ h)
  have lm : ∀ x : Nat, mag x < 18446744073709551616 := fun x => by unfold mag; omega
  have om : ∀ x : Nat, le (mag x) 9218868437227405311 = fin x := fun x => by
    unfold le fin isNaN
    have h1 : mag (mag x) = mag x := by unfold mag; omega
    have h2 : stp (mag x) = mag x := by unfold stp sgn neg; rw [h1]; unfold mag; simp; omega
    have h3 : stp 9218868437227405311 = 9218868437227405311 := by decide
    have h4 : mag 9218868437227405311 = 9218868437227405311 := by decide
    rw [h1, h2, h3, h4]
    rw [Bool.eq_iff_iff]
    simp only [Bool.and_eq_true, Bool.not_eq_true', decide_eq_false_iff_not, decide_eq_true_eq]
    omega
  have o1 := ord_le (mag f) 9218868437227405311 (lm f) (by omega)
  have o2 := ord_le (mag g) 9218868437227405311 (lm g) (by omega)
  rw [om] at o1 o2
  by_cases hfg : (fin f && fin g) = true
  · rw [Bool.and_eq_true] at hfg
    obtain ⟨ff, fg⟩ := hfg
    rw [ff] at o1
    rw [fg] at o2
    have ha := pl_lt hf
    have hb := pl_lt hg
    have va := vI_self ha (fin_pl ff) (pl_nZ _)
    have vb := vI_self hb (fin_pl fg) (pl_nZ _)
    obtain ⟨na, ia, ta, -, -⟩ := fin_e (fin_pl ff)
    obtain ⟨nb, ib, tb, -, -⟩ := fin_e (fin_pl fg)
    obtain ⟨nf, -⟩ := fin_e ff
    obtain ⟨ng, -⟩ := fin_e fg
    rw [tF_pl hf] at ta
    rw [tF_pl hg] at tb
    have hc : pl (ngt (pl g)) < 18446744073709551616 := pl_lt (ngt_lt hb)
    have nc : isNaN (pl (ngt (pl g))) = false := pl_nn (by rw [ngt_nan8 hb]; exact nb)
    have ic : eI (pl (ngt (pl g))) = 0 ∧ eT (pl (ngt (pl g))) = tNeg (tF g) := by
      have e1 := eI_ngt hb
      have e2 := eT_ngt hb
      rw [ib] at e1
      rw [tb] at e2
      have e3 : fin (ngt (pl g)) = true := by
        refine fin_ofW (ngt_lt hb) (by rw [ngt_nan8 hb]; exact nb) ?_ ?_
        · intro h; rw [h] at e1; revert e1; decide
        · intro h; rw [h] at e1; revert e1; decide
      obtain ⟨-, i1, i2, -, -⟩ := fin_e (fin_pl e3)
      obtain ⟨-, j1, j2, -, -⟩ := fin_e e3
      refine ⟨i1, ?_⟩
      rw [i2, tF_pl (ngt_lt hb), ← j2, e2]
    have oS : Ok (tS (tF f) (tF g)) := ok_cn (tS_okR (tF_fits f) (tF_fits g) (by omega) (by omega) (by omega))
    have oN : Ok (tNeg (tF g)) := tNeg_ok (tF_ok g)
    have oD : Ok (tS (tF f) (tNeg (tF g))) := ok_cn (tS_okR (tF_fits f) (tNeg_fits (tF_fits g)) (by omega) (by omega) (by omega))
    have oM : Ok (tM (tF f) (tF g)) := tM_ok (tM_okR f g)
    have oM2 : Ok (tM (tF f) (tF f)) := tM_ok (tM_okR f f)
    have ho : (tF f).2.1 ≠ 0 → (tF f).2.1 % 2 = 1 := (tF_ok f).facts.2.2.2.2
    have hz : (tF f).2.1 = 0 → tF f = (false, 0, 0) := (tF_ok f).facts.2.2.2.1
    have e3 : tM (tF f) (tM (tF f) (tF f)) = pw (tF f) 3 := by
      have h1 := pw_mul ho 1 1
      have h2 := pw_mul ho 1 2
      rw [pw_one hz] at h1 h2
      rw [h1]; exact h2
    have sA : ∀ m : Int, 1 ≤ m ∧ m ≤ 3 → pl (fAdM (pl f) (pl g) m) = pl (toD (tS (tF f) (tF g)) m) := fun m hm => by
      have := enF_plus ha hb na nb (by omega) (by omega) hm
      rw [ia, ib, ta, tb] at this
      rw [← this]; rfl
    have sB : ∀ m : Int, 1 ≤ m ∧ m ≤ 3 → pl (fAdM (pl f) (pl (ngt (pl g))) m) = pl (toD (tS (tF f) (tNeg (tF g))) m) := fun m hm => by
      have := enF_plus ha hc na nc (by omega) (by omega) hm
      rw [ia, ic.1, ta, ic.2] at this
      rw [← this]; rfl
    have sM : ∀ m : Int, 1 ≤ m ∧ m ≤ 3 → pl (onF (fMul (pl f) (pl g) m)) = pl (toD (tM (tF f) (tF g)) m) := fun m hm => by
      have := enF_times ha hb na nb hm
      rw [ia, ib, ta, tb, tm_fin.1, tm_fin.2] at this
      rw [← this]; rfl
    have hpk : ∀ k (a : Nat), k < 4 → pk4 a a a a k = a := fun k a hk => by rcases lt48 hk with rfl | rfl | rfl | rfl <;> rfl
    have sL : mlo (pl f) (pl f) (pl g) (pl g) = pl (toD (tM (tF f) (tF g)) 1) := by
      rw [← sM 1 (by omega)]
      exact (low_same (onF_ok fMul_lt).2 (onF_ok fMul_lt).1 (fun i => onF_ok fMul_lt) (fun k hk => by rw [hpk k _ hk, hpk k _ hk])).1
    have sU : mhi (pl f) (pl f) (pl g) (pl g) = pl (toD (tM (tF f) (tF g)) 3) := by
      rw [← sM 3 (by omega)]
      exact (low_same (onF_ok fMul_lt).2 (onF_ok fMul_lt).1 (fun i => onF_ok fMul_lt) (fun k hk => by rw [hpk k _ hk, hpk k _ hk])).2
    have sP : ∀ m : Int, pwF (pl f) 3 m = toD (pw (tF f) 3) m := fun m => by
      unfold pwF
      rw [if_neg (by decide), fin_pl ff, if_pos rfl, tF_pl hf]
    refine points_1 f g (mag f) (mag g) (pl f) (pl g) (pl (fAdM (pl f) (pl g) 1)) (pl (fAdM (pl f) (pl g) 3)) (pl (fAdM (pl f) (pl (ngt (pl g))) 1)) (pl (fAdM (pl f) (pl (ngt (pl g))) 3)) (mlo (pl f) (pl f) (pl g) (pl g)) (mhi (pl f) (pl f) (pl g) (pl g)) (pwX (pl f) (pl f) 3) (pwY (pl f) (pl f) 3) 0 0 (tF f) (tF g) (tS (tF f) (tF g)) (tD8 (tF f) (tF g)) (tM (tF f) (tF g)) (tM (tF f) (tF f)) (tM (tF f) (tM (tF f) (tF f))) w (fun W => c159 f hf W) (fun W => c159 g hg W) o1 o2 ?_ ?_ ?_ ?_ ?_ ?_ ?_ ?_ ?_ ?_ ?_ ?_ ?_ ?_ ?_ ?_ ?_ hw
    · intro W h
      have k := sof f f hf hf W
      rw [nf, va] at k
      exact k
    · intro W h
      have k := sof g g hg hg W
      rw [ng, vb] at k
      exact k
    · exact fun W h => float_dn f hf W
    · exact fun W h => float_dn g hg W
    · intro W h
      have k := sadd (pl f) (pl f) (pl g) (pl g) W ha ha hb hb (hT.later h) (Tab.later hJ h)
      rw [va, vb] at k
      exact k
    · intro W h
      have k := ssub (pl f) (pl f) (pl g) (pl g) W ha ha hb hb (hT.later h) (Tab.later hJ h)
      rw [va, vb] at k
      exact k
    · intro W h
      have k := smul (pl f) (pl f) (pl g) (pl g) ha ha hb hb W (hT.later h) (Tab.later hJ h)
      rw [va, vb] at k
      exact k
    · intro W h
      have k := spow (pl f) (pl f) 3 W ha ha (hT.later h) (Tab.later hJ h)
      rw [show pOk (pl f) (pl f) 3 = true by unfold pOk; rw [va]; rfl] at k
      exact k
    · exact fun W X Y h1 h2 => dn_shape (t1 := tF f) (t2 := tF g) (plus_dn (tF_ok f) (tF_ok g) h1 h2)
    · exact fun W X Y h1 h2 => dn_shape (t1 := tF f) (t2 := tF g) (less8_dn (tF_ok f) (tF_ok g) h1 h2)
    · exact fun W X Y h1 h2 => dn_shape (t1 := tF f) (t2 := tF g) (times_dn (tF_ok f) (tF_ok g) h1 h2)
    · exact fun W X Y h1 h2 => dn_shape (t1 := tF f) (t2 := tF f) (times_dn (tF_ok f) (tF_ok f) h1 h2)
    · exact fun W X Y h1 h2 => dn_shape (t1 := tF f) (t2 := tM (tF f) (tF f)) (times_dn (tF_ok f) oM2 h1 h2)
    · exact hold8 (ok_wd oS) (sA 1 (by omega)) (sA 3 (by omega))
    · rw [tD8_eq (tF_ok g)]
      exact hold8 (ok_wd oD) (sB 1 (by omega)) (sB 3 (by omega))
    · exact hold8 (ok_wd oM) sL sU
    · rw [e3]
      refine hold8 (pw_wd (by omega)) ?_ ?_
      · show pl (pwF (pcX (pl f) (pl f) 3) 3 1) = _
        rw [← sP]; rfl
      · show pl (pwF (pcY (pl f) (pl f) 3) 3 3) = _
        rw [← sP]; rfl
  · exact points_no f g (mag f) (mag g) (fin f) (fin g) w (by cases h : (fin f && fin g) <;> simp_all) (fun W => c159 f hf W) (fun W => c159 g hg W) o1 o2 hw
end Go.Proofs.YtcoclopllbfjcaaGreatDoor
