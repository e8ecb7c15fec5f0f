/- Own work: contracts of the program's functions, part 19: SJ2 SJ4 SJ5. -/
import Derived.Test.YtbpeijejanhihaaGreatDoorA18
import Derived.Test.YtbpeijejanhihaaGreatDoorA16
import Derived.Test.YtbpeijejanhihaaGreatDoorA11

set_option maxHeartbeats 16000000
namespace Go.Proofs.YtbpeijejanhihaaGreatDoor
set_option linter.unusedVariables false
set_option linter.unusedSimpArgs false
open Go.RowKit Go.Fl64
theorem tf_cn {s : Bool} {z : Nat} {e m : Int} (hm : 1 ≤ m ∧ m ≤ 3) (h : z ≠ 0) : tfF (cn s z e).1 true (cn s z e).2.1 (cn s z e).2.2 m = tfF s true z e m := by
  have hs := tz_spec z z (Nat.le_refl _) h
  unfold cn
  rw [if_neg h]
  show tfF s true (z / 2 ^ tz z) (e + (tz z : Int)) m = _
  rw [← tf_shl hm, Nat.mul_comm, hs.1]
theorem q_down (s : Bool) {x k : Nat} (hx : x ≠ 0) : Ieee.Toward.down.cut s x k = qN s x (2 ^ k) := by
  rw [cut_down s hx]
  unfold qN
  by_cases h : x % 2 ^ k = 0
  · simp [h]
  · cases s <;> simp [h]
theorem q_up (s : Bool) {x k : Nat} (hx : x ≠ 0) (hr : x % 2 ^ k ≠ 0) : sv s (qN s x (2 ^ k)) + 1 = sv s (Ieee.Toward.up.cut s x k) := by
  rw [cut_up s hx]
  unfold qN sv
  cases s
  · simp [hr]
  · simp [hr]; omega
theorem q_even (s : Bool) {x k : Nat} (hx : x ≠ 0) (hr : x % 2 ^ k ≠ 0) : sv s (qN s x (2 ^ k)) + (if nxN s x (2 ^ k) then 1 else 0) = sv s (Ieee.Toward.even.cut s x k) := by
  rw [cut_rnd s hx]
  have h := rnd1 x k
  rw [show (((1 : Nat) : Int)) = 1 from rfl] at h
  rw [h]
  have hl := Nat.mod_lt x (Nat.two_pow_pos k)
  unfold nxN pnN prN qN sv
  generalize x / 2 ^ k = q at *
  generalize x % 2 ^ k = r at *
  generalize 2 ^ k = Y at *
  cases s
  · simp [hr]
    by_cases h1 : 2 * r < Y
    · rw [if_pos h1, if_neg (by omega)]; omega
    · rw [if_neg h1]
      by_cases h2 : 2 * r = Y
      · rw [if_pos h2]
        by_cases h3 : q % 2 = 1
        · rw [if_pos (by omega)]; omega
        · rw [if_neg (by omega)]; omega
      · rw [if_neg h2, if_pos (by omega)]; omega
  · simp [hr]
    by_cases h1 : 2 * r < Y
    · rw [if_pos h1, if_pos (by omega)]; omega
    · rw [if_neg h1]
      by_cases h2 : 2 * r = Y
      · rw [if_pos h2]
        by_cases h3 : q % 2 = 1
        · rw [if_neg (by omega)]; omega
        · rw [if_pos (by omega)]; omega
      · rw [if_neg h2, if_neg (by omega)]; omega
def dW (t : Bool × Nat × Int) (m : Int) : Bool × Nat × Int := if m = 1 then tQ t (false, 1, 0) else if m = 2 then tNr t (false, 1, 0) else tS (tQ t (false, 1, 0)) (false, 1, 0)
theorem tF_one : tF 4607182418800017408 = (false, 1, 0) := by decide +kernel
theorem one_fits' : Fits (-1074) 1025 ((false, 1, 0) : Bool × Nat × Int).2.1 ((false, 1, 0) : Bool × Nat × Int).2.2 := by
  have := tF_fits 4607182418800017408
  rw [tF_one] at this
  exact this
theorem dW_ok {t : Bool × Nat × Int} (o : Ok t) (f : Fits (-1074) 1025 t.2.1 t.2.2) (m : Int) : Ok (dW t m) := by
  unfold dW
  split
  · exact tQ_ok o ok_one f one_fits' (by decide)
  · split
    · exact tNr_ok o ok_one f one_fits' (by decide)
    · exact tQ1_ok o ok_one f one_fits' (by decide)
theorem dW_low {t : Bool × Nat × Int} (o : Ok t) (f : Fits (-1074) 1025 t.2.1 t.2.2) (m : Int) : 0 ≤ (dW t m).2.2 := by
  have h1 := tS_low (tQ1_fits o ok_one f one_fits' (by decide)) (tQ1_ok o ok_one f one_fits' (by decide))
  unfold dW
  split
  · exact tQ_low _ _
  · split
    · unfold tNr
      split
      · exact h1
      · exact tQ_low _ _
    · exact h1
theorem dW_val {t : Bool × Nat × Int} (o : Ok t) (f : Fits (-1074) 1025 t.2.1 t.2.2) (hx : t.2.1 % 2 = 1) {k : Nat} (hk : 1 ≤ k) (he : t.2.2 = -(k : Int)) (m : Int) (hm : m = 1 ∨ m = 2 ∨ m = 3) :
    dW t m = cn t.1 ((wayM m).cut t.1 t.2.1 k) 0 := by
  have h0 : t.2.1 ≠ 0 := by omega
  have hr : t.2.1 % 2 ^ k ≠ 0 := by
    obtain ⟨j, rfl⟩ : ∃ j, k = j + 1 := ⟨k - 1, by omega⟩
    intro h
    have := Nat.div_add_mod t.2.1 (2 ^ (j + 1))
    rw [h, Nat.pow_succ, Nat.mul_comm (2 ^ j) 2, Nat.mul_assoc] at this
    omega
  have eX : tX t (false, 1, 0) = t.2.1 := by
    unfold tX
    show t.2.1 * 2 ^ (t.2.2 - min t.2.2 0).toNat = _
    rw [show (t.2.2 - min t.2.2 0).toNat = 0 by omega, Nat.pow_zero, Nat.mul_one]
  have eY : tY t (false, 1, 0) = 2 ^ k := by
    unfold tY
    show 1 * 2 ^ ((0 : Int) - min t.2.2 0).toNat = _
    rw [show ((0 : Int) - min t.2.2 0).toNat = k by omega, Nat.one_mul]
  have eb : (t.1 != ((false, 1, 0) : Bool × Nat × Int).1) = t.1 := by show (t.1 != false) = t.1; cases t.1 <;> rfl
  have v0 := vz_Q o ok_one f one_fits' (by decide)
  have v1 := vz_Q1 o ok_one f one_fits' (by decide)
  rw [eb, eX, eY] at v0 v1
  have hv : vz 0 (dW t m).1 (dW t m).2.1 (dW t m).2.2 = sv t.1 ((wayM m).cut t.1 t.2.1 k) := by
    unfold dW
    rcases hm with rfl | rfl | rfl
    · rw [if_pos rfl, v0]
      show _ = sv t.1 (Ieee.Toward.down.cut t.1 t.2.1 k)
      rw [q_down t.1 h0]
    · rw [if_neg (by decide), if_pos rfl]
      show _ = sv t.1 (Ieee.Toward.even.cut t.1 t.2.1 k)
      rw [← q_even t.1 h0 hr]
      unfold tNr
      rw [eb, eX, eY]
      cases nxN t.1 t.2.1 (2 ^ k)
      · rw [if_neg (by decide), if_neg (by decide), v0, Int.add_zero]
      · rw [if_pos rfl, if_pos rfl, v1]
    · rw [if_neg (by decide), if_neg (by decide), v1]
      show _ = sv t.1 (Ieee.Toward.up.cut t.1 t.2.1 k)
      rw [q_up t.1 h0 hr]
  have ho := dW_ok o f m
  have hl := dW_low o f m
  rw [← cn_ok ho]
  refine cn_eq (K := 0) (by omega) (by omega) ?_
  rw [hv]
  unfold vz sv
  simp
theorem cut_e {t : Bool × Nat × Int} {X : Value} {w : World} (o : Ok t) (h : t.2.1 = 0 ∨ 0 ≤ t.2.2) (hX : DN w X t) :
    Calls Tryz.prog 20 #[X, .int .i64 0] w fun r w' => ∃ s ao n cap e, r = .returned (.tuple #[.agg #[.bool s, .slice ao n cap, .int .i64 e], .bool true]) ∧ DN w' (.agg #[.bool s, .slice ao n cap, .int .i64 e]) t ∧ Below w.heap.size w w' := by
  obtain ⟨f1, f2, f3, f4, -⟩ := o.facts
  obtain ⟨ao, cap, rfl, hA⟩ := id hX
  by_cases h0 : t.2.1 = 0
  · have k := rcut_z t.1 ao (dlen t.2.1) cap t.2.2 0 w (by omega) (by omega) (by omega) (by omega)
    have e : dlen t.2.1 = 0 := by rw [h0, dlen_zero]
    rw [← e] at k
    refine k.mono ?_
    rintro r w' ⟨rfl, hb⟩
    exact ⟨_, _, _, _, _, rfl, hX.later hb, hb⟩
  · have hl := dlen_pos h0
    refine (rcut_w t.1 ao (dlen t.2.1) cap t.2.2 0 w (by omega) (by omega) (by omega) (by omega) (by rw [beq_eq_false_iff_ne]; omega) (by omega) (by omega)).mono ?_
    rintro r w' ⟨rfl, hb⟩
    exact ⟨_, _, _, _, _, rfl, hX.later hb, hb⟩
theorem cut_g {t : Bool × Nat × Int} {X : Value} {w : World} {k : Nat} (o : Ok t) (hx : t.2.1 % 2 = 1) (hk : 1 ≤ k) (he : t.2.2 = -(k : Int)) (hX : DN w X t) :
    Calls Tryz.prog 20 #[X, .int .i64 0] w fun r w' => ∃ s ao n cap e, r = .returned (.tuple #[.agg #[.bool s, .slice ao n cap, .int .i64 e], .bool false]) ∧ DN w' (.agg #[.bool s, .slice ao n cap, .int .i64 e]) (tQ t (false, 1, 0)) ∧ Below w.heap.size w w' := by
  obtain ⟨f1, f2, f3, f4, -⟩ := o.facts
  obtain ⟨ao, cap, rfl, hA⟩ := hX
  have h0 : t.2.1 ≠ 0 := by omega
  have hr : t.2.1 % 2 ^ k ≠ 0 := by
    obtain ⟨j, rfl⟩ : ∃ j, k = j + 1 := ⟨k - 1, by omega⟩
    intro h
    have := Nat.div_add_mod t.2.1 (2 ^ (j + 1))
    rw [h, Nat.pow_succ, Nat.mul_comm (2 ^ j) 2, Nat.mul_assoc] at this
    omega
  have eX : tX t (false, 1, 0) = t.2.1 := by
    unfold tX
    show t.2.1 * 2 ^ (t.2.2 - min t.2.2 0).toNat = _
    rw [show (t.2.2 - min t.2.2 0).toNat = 0 by omega, Nat.pow_zero, Nat.mul_one]
  have eY : tY t (false, 1, 0) = 2 ^ k := by
    unfold tY
    show 1 * 2 ^ ((0 : Int) - min t.2.2 0).toNat = _
    rw [show ((0 : Int) - min t.2.2 0).toNat = k by omega, Nat.one_mul]
  have hq : tQ t (false, 1, 0) = cn t.1 (qN t.1 t.2.1 (2 ^ k)) 0 := by
    unfold tQ
    rw [show (t.1 != ((false, 1, 0) : Bool × Nat × Int).1) = t.1 by show (t.1 != false) = t.1; cases t.1 <;> rfl, eX, eY]
  rw [hq]
  cases hs : t.1
  · refine (rcut_p ao cap t.2.1 k t.2.2 0 w hA.at_ hA.le h0 (by omega) (by omega) (by omega) (by omega) (by omega) (by omega) (by omega) (by omega)).mono ?_
    rintro r w' ⟨A, rfl, hN, hb⟩
    have hd := hN.dn
    obtain ⟨s, ao', n, cap', e, rfl⟩ := hd.shape
    exact ⟨s, ao', n, cap', e, rfl, hd, hb⟩
  · refine (rcut_n ao cap t.2.1 k t.2.2 0 w hA.at_ hA.le h0 (by omega) (by omega) (by omega) (by omega) (by omega) (by omega) (by omega) (by omega)).mono ?_
    rintro r w' ⟨A, rfl, hN, hb⟩
    have hd := hN.dn
    rw [show qN true t.2.1 (2 ^ k) = t.2.1 / 2 ^ k + 1 by unfold qN; rw [decide_eq_false hr]; rfl]
    obtain ⟨s, ao', n, cap', e, rfl⟩ := hd.shape
    exact ⟨s, ao', n, cap', e, rfl, hd, hb⟩
theorem self_sig {a : Nat} (ha : a < 18446744073709551616) : sig (neg a) (mag a) = a := Ie.sig_self a ha
theorem tF_val {a : Nat} (hf : mag a < 9218868437227405312) (h0 : mag a ≠ 0) : (tF a).1 = neg a ∧ val (mag a) = (tF a).2.1 * 2 ^ ((tF a).2.2 + 1074).toNat ∧ -1074 ≤ (tF a).2.2 := by
  obtain ⟨e1, e2, e3⟩ := val_mant a hf
  have hm : Ie.mant a ≠ 0 := by
    intro h
    rw [h, Nat.zero_mul] at e1
    exact h0 ((val_eq_zero _).1 e1)
  have hs := tz_spec (Ie.mant a) (Ie.mant a) (Nat.le_refl _) hm
  unfold tF cn
  rw [if_neg hm]
  refine ⟨rfl, ?_, by show -1074 ≤ Ie.lp a + (tz (Ie.mant a) : Int); omega⟩
  show val (mag a) = Ie.mant a / 2 ^ tz (Ie.mant a) * 2 ^ (Ie.lp a + (tz (Ie.mant a) : Int) + 1074).toNat
  rw [e1, show (Ie.lp a + (tz (Ie.mant a) : Int) + 1074).toNat = tz (Ie.mant a) + (Ie.lp a + 1074).toNat by omega, Nat.pow_add, ← Nat.mul_assoc, Nat.mul_comm (Ie.mant a / 2 ^ tz (Ie.mant a)), hs.1]
theorem tf_tF {a : Nat} (ha : a < 18446744073709551616) (hf : mag a < 9218868437227405312) (h0 : mag a ≠ 0) (m : Int) (hm : 1 ≤ m ∧ m ≤ 3) : tfF (neg a) true (tF a).2.1 (tF a).2.2 m = a := by
  obtain ⟨M, hM, hl⟩ := sM_lt a ha
  have hc := cn_parts a M ha hf hM
  have hn : nM a = M := by unfold nM; rw [hM]; rfl
  have hb := tf_back ha hf m hm
  rw [if_neg h0, hn, show nN a = neg a by unfold nN; rw [if_neg h0]] at hb
  have hM0 : M ≠ 0 := by
    intro h
    rw [h] at hc
    have := tF_ne h0
    rw [← hc] at this
    exact this rfl
  have := tf_cn (s := neg a) (e := Ie.sE a) hm hM0
  rw [hc, (tF_val hf h0).1] at this
  rw [this, hb]
theorem cut_whole (m : Int) (s : Bool) {n : Nat} (h : n ≠ 0) : (wayM m).cut s n 0 = n := by
  unfold wayM
  split
  · rw [cut_down s h]; simp [Nat.mod_one]
  · split
    · rw [cut_rnd s h]; exact rnd_k0 n 1 (by omega)
    · rw [cut_up s h]; simp [Nat.mod_one]
theorem cut_nought (way : Ieee.Toward) (s : Bool) (d : Nat) : way.cut s 0 d = 0 := by
  unfold Ieee.Toward.cut
  cases way <;> simp
theorem withF_sig {a b : Nat} (h : isNaN a = false) (hb : b ≤ 9218868437227405312) : withF (sig (neg a) b) a = sig (neg a) b := by
  have hm := (mag_sig (s := neg a) hb).1
  unfold withF
  rw [h, hm, show isNaN (sig (neg a) b) = false by unfold isNaN; rw [hm]; simpa using hb]
  rfl
theorem toW_inf (way : Ieee.Toward) {a : Nat} (ha : a < 18446744073709551616) (h : mag a = 9218868437227405312) : toW way a = a := by
  unfold toW
  rw [read_infinity a ha h]
  show Ieee.double.write (.infinity (neg a)) = a
  have e := self_sig ha
  rw [h] at e
  conv => rhs; rw [← e]
  cases neg a <;> decide +kernel
theorem toW_nought (way : Ieee.Toward) {a : Nat} (ha : a < 18446744073709551616) (h : mag a = 0) : toW way a = sig (neg a) 0 := by
  unfold toW
  obtain ⟨m, k, e1, e2⟩ := read_number a ha (by omega)
  have hm : m = 0 := (num_nought e2).2 h
  rw [e1, hm]
  simp only [Ieee.Datum.integral, Nat.zero_shiftLeft, cut_nought]
  show Ieee.double.nearest (neg a) 0 0 = _
  unfold Ieee.Format.nearest
  rw [if_pos rfl, word_sig]
theorem join_FWhole (a : Nat) (m : Int) (ha : a < 18446744073709551616) :
    ∃ X, X < 18446744073709551616 ∧
      (∀ W, Tab32 W → Ie.Tab W → Calls Tryz.prog 5 #[.float .f64 a, .int .i64 m] W fun r w' => OutF2 W X r w') ∧
      (∀ W, Calls Tryz.prog 6 #[.float .f64 a, .int .i64 m] W fun r w' => OutD W X r w') := by
  have kv := fun W => dvalid m W
  cases hm : isM m
  · rw [hm] at kv
    refine ⟨9221120237041090560, by decide, fun W _ _ => ?_, fun W => dwhole_no a m W kv⟩
    refine (pwhole_no a ha m hm W).mono ?_
    rintro r w' ⟨rfl, rfl⟩
    exact ⟨_, rfl, lk.nan (by decide) (by decide) (by decide), Below.refl _ _⟩
  · rw [hm] at kv
    have hm' := isM_iff.1 hm
    have hm3 : m = 1 ∨ m = 2 ∨ m = 3 := by omega
    have kf := fun W => Ie.dfinite a ha W
    -- the program's side: what its answer is like
    have prog : ∀ X, (isNaN a = true → X = a) → (isNaN a = false → withF (toW (wayM m) a) a = X) → X < 18446744073709551616 → ∀ W, Calls Tryz.prog 5 #[.float .f64 a, .int .i64 m] W fun r w' => OutF2 W X r w' := by
      intro X hx1 hx2 hX W
      obtain ⟨n, W', hW, hc⟩ := pwhole_n a ha m hm W
      refine hc.mono ?_
      rintro r w' ⟨rfl, rfl⟩
      have hbl : Below W.heap.size W w' := by
        rcases hW.1 with h | h
        · rw [h]; exact Below.refl _ _
        · rw [h]; exact (Below.refl _ _).drew
      refine ⟨_, rfl, ?_, hbl⟩
      cases hn : isNaN a
      · rw [hW.2.2.2 hn, hx2 hn]; exact lk.refl hX
      · have hnn := hW.2.2.1 hn
        have : withF n a = n := by unfold withF; rw [hnn]; rfl
        rw [this, hx1 hn]
        exact lk.nan hW.2.1 hnn hn
    rcases Nat.lt_or_ge (mag a) 9218868437227405312 with hf | hf
    · have hnan : isNaN a = false := by unfold isNaN; simp; omega
      rw [decide_eq_true (by omega)] at kf
      have kF : ∀ W, Calls Tryz.prog 18 #[.float .f64 a] W fun r w' => r = .returned (.bool true) ∧ w' = W := kf
      have o := tF_ok a
      obtain ⟨f1, f2, f3, f4, f5⟩ := o.facts
      by_cases he : (tF a).2.1 = 0 ∨ 0 ≤ (tF a).2.2
      · -- whole
        refine ⟨a, ha, fun W _ _ => prog a (fun _ => rfl) (fun _ => ?_) ha W, fun W => ?_⟩
        · by_cases h0 : mag a = 0
          · rw [toW_nought _ ha h0, withF_sig hnan (by omega)]
            have := self_sig ha
            rw [h0] at this
            exact this
          · have hz := tF_ne h0
            have he' : 0 ≤ (tF a).2.2 := by rcases he with h | h; exact absurd h hz; exact h
            obtain ⟨e1, e2, e3⟩ := tF_val hf h0
            obtain ⟨D, hD⟩ : ∃ D : Nat, D = 1074 := ⟨_, rfl⟩
            obtain ⟨k, hk⟩ : ∃ k : Nat, (tF a).2.2 = k := ⟨(tF a).2.2.toNat, by omega⟩
            have hxk : (tF a).2.1 * 2 ^ k ≠ 0 := Nat.mul_ne_zero hz (by have := Nat.two_pow_pos k; omega)
            have hc : cutW (wayM m) a D = (tF a).2.1 * 2 ^ k := by
              unfold cutW
              rw [e2, show ((tF a).2.2 + 1074).toNat = k + D by omega, Nat.pow_add, ← Nat.mul_assoc]
              have := cut_scale (wayM m) (neg a) (k := D) (d := 0) hxk
              rw [Nat.zero_add] at this
              rw [this, cut_whole m (neg a) hxk]
            have ht : toW (wayM m) a = a := by
              unfold toW
              rw [read_whole (wayM m) hD ha hf h0, hc, if_neg hxk, tf_shl (by omega), show (0 : Int) + (k : Int) = (tF a).2.2 by omega]
              exact tf_tF ha hf h0 2 (by omega)
            rw [ht]
            conv => lhs; rw [← self_sig ha]
            have := withF_sig (a := a) (b := mag a) hnan (by omega)
            rw [self_sig ha] at this ⊢
            exact this
        · exact dwhole_e a m (tF a) (tF a) W kv kF (fun W => float_dn a ha W) (fun W X h => cut_e o he h)
      · -- not whole
        have h01 : (tF a).2.1 ≠ 0 := fun h => he (.inl h)
        have he2 : (tF a).2.2 < 0 := by
          rcases Int.lt_or_le (tF a).2.2 0 with h | h
          · exact h
          · exact absurd (.inr h) he
        have h0 : mag a ≠ 0 := fun h => h01 (tF_nought h)
        obtain ⟨e1, e2, e3⟩ := tF_val hf h0
        obtain ⟨k, hk⟩ : ∃ k : Nat, (tF a).2.2 = -(k : Int) := ⟨(-(tF a).2.2).toNat, by omega⟩
        obtain ⟨D, hD⟩ : ∃ D : Nat, D = 1074 := ⟨_, rfl⟩
        have hc : cutW (wayM m) a D = (wayM m).cut (neg a) (tF a).2.1 k := by
          unfold cutW
          rw [e2, show ((tF a).2.2 + 1074).toNat = D - k by omega]
          have := cut_scale (wayM m) (neg a) (k := D - k) (d := k) h01
          rw [show k + (D - k) = D by omega] at this
          exact this
        have hw := dW_val o (tF_fits a) (f5 h01) (by omega) hk m hm3
        rw [e1] at hw
        generalize hcc : (wayM m).cut (neg a) (tF a).2.1 k = c at *
        have hX : (if (dW (tF a) m).2.1 = 0 then sig (neg a) 0 else tfF (dW (tF a) m).1 true (dW (tF a) m).2.1 (dW (tF a) m).2.2 2) = toW (wayM m) a := by
          unfold toW
          rw [read_whole (wayM m) hD ha hf h0, hc, hw]
          by_cases hc0 : c = 0
          · rw [if_pos hc0, hc0]; rfl
          · have hs := tz_spec c c (Nat.le_refl _) hc0
            have hne : (cn (neg a) c 0).2.1 ≠ 0 := by
              unfold cn; rw [if_neg hc0]
              show c / 2 ^ tz c ≠ 0
              omega
            rw [if_neg hc0, if_neg hne, tf_cn (by omega) hc0]
        have hsg : ∃ b, b ≤ 9218868437227405312 ∧ toW (wayM m) a = sig (neg a) b := by
          unfold toW
          rw [read_whole (wayM m) hD ha hf h0]
          split
          · exact ⟨0, by omega, rfl⟩
          · exact ⟨_, bdy_le _ _ _, tf_bdy (by omega)⟩
        refine ⟨toW (wayM m) a, toW_lt _ _, fun W _ _ => prog _ (fun h => by rw [h] at hnan; cases hnan) (fun _ => ?_) (toW_lt _ _) W, fun W => ?_⟩
        · obtain ⟨b, hb, e⟩ := hsg
          rw [e, withF_sig hnan hb]
        · have od := dW_ok o (tF_fits a) m
          obtain ⟨g1, g2, g3, g4, g5⟩ := od.facts
          refine dwhole_g a (sig (neg a) 0) _ (neg a) m hm3 (tF a) (tQ (tF a) (false, 1, 0)) (false, 1, 0) (dW (tF a)) rfl W kv kF (fun W => float_dn a ha W) (fun W X h => cut_g o (f5 h01) (by omega) hk h) whole1_dn ?_ ?_ (Ie.dneg a ha) (Ie.dnought (neg a)) ?_
          · intro W X Y p q
            refine (near_dn o ok_one (tF_fits a) one_fits' (by decide) p q).mono ?_
            rintro r w' ⟨A, rfl, hN, hb⟩
            obtain ⟨s, ao', n, cap', e, rfl⟩ := hN.shape
            exact ⟨s, ao', n, cap', e, rfl, hN, hb⟩
          · intro W X Y p q
            refine (plus_dn (tQ_ok o ok_one (tF_fits a) one_fits' (by decide)) ok_one p q).mono ?_
            rintro r w' ⟨A, rfl, hN, hb⟩
            obtain ⟨s, ao', n, cap', e, rfl⟩ := hN.shape
            exact ⟨s, ao', n, cap', e, rfl, hN, hb⟩
          · intro W X p
            have k := dR (Z := sig (neg a) 0) (m := 2) p g5 (by omega) (by omega) (by omega) (by omega)
            rw [hX] at k
            exact k
    · rw [decide_eq_false (by omega)] at kf
      refine ⟨a, ha, fun W _ _ => prog a (fun _ => rfl) (fun hn => ?_) ha W, fun W => dwhole_inf a m W kv kf⟩
      have hi : mag a = 9218868437227405312 := by unfold isNaN at hn; simp at hn; omega
      rw [toW_inf _ ha hi]
      have := withF_sig (a := a) (b := mag a) hn (by omega)
      rw [self_sig ha] at this
      exact this
end Go.Proofs.YtbpeijejanhihaaGreatDoor
namespace Go.Proofs.YtbpeijejanhihaaGreatDoor
set_option linter.unusedVariables false
set_option linter.unusedSimpArgs false
open Go.RowKit Go.Fl64
set_option maxRecDepth 200000 in
theorem lawW_1 (a b X Y : Nat) (m : Int) (w : World) (hX : X < 18446744073709551616) (hY : Y < 18446744073709551616)
    (k1 : ∀ W, Below w.heap.size w W → Calls Tryz.prog 5 #[.float .f64 a, .int .i64 m] W fun r w' => OutF2 W X r w')
    (k2 : ∀ W, Calls Tryz.prog 6 #[.float .f64 a, .int .i64 m] W fun r w' => OutD W X r w')
    (k3 : ∀ W, Below w.heap.size w W → Calls Tryz.prog 7 #[.float .f64 a, .float .f64 b] W fun r w' => OutF2 W Y r w')
    (k4 : ∀ W, Calls Tryz.prog 8 #[.float .f64 a, .float .f64 b] W fun r w' => OutD W Y r w')
    (k7 : ∀ W, Below w.heap.size w W → Calls Tryz.prog 9 #[] W fun r w' => r = .returned (.bool true) ∧ Below W.heap.size W w') :
    Calls Tryz.prog 3 #[.float .f64 a, .float .f64 b, .int .i64 m] w fun r w' => r = .returned (.bool true) ∧ Below w.heap.size w w' := by
  have HXY : Hid (X < 18446744073709551616 ∧ Y < 18446744073709551616) := ⟨hX, hY⟩
  have H2 : Hid _ := k2
  have H3 : Hid _ := k3
  have H4 : Hid _ := k4
  have H7 : Hid _ := k7
  have kk := k1 w (Below.refl _ _)
  clear hX hY k1 k2 k3 k4 k7
  go_enter Tryz.func3, Tryz.ntmps3
  go_wp2_with fail
  refine kk.mono ?_
  rintro r w1 ⟨n1, rfl, l1, hb1⟩
  have HB1 : Hid (lk n1 X ∧ Below w.heap.size w w1) := ⟨l1, hb1⟩
  clear kk l1 hb1
  have kk := H2.out w1
  go_wp2_with fail
  refine kk.mono ?_
  rintro r w2 ⟨rfl, hb2⟩
  have HB2 : Hid (Below w.heap.size w w2) := HB1.out.2.trans (hb2.mono HB1.out.2.size)
  clear kk hb2
  have kk := lsame_ok HB1.out.1 HXY.out.1 w2
  go_wp2_with fail
  refine kk.mono ?_
  rintro r w' ⟨rfl, hw⟩
  rw [hw]
  clear hw kk w' HB1
  have kk := H3.out w2 HB2.out
  go_wp2_with fail
  refine kk.mono ?_
  rintro r w3 ⟨n3, rfl, l3, hb3⟩
  have HB3 : Hid (lk n3 Y ∧ Below w.heap.size w w3) := ⟨l3, HB2.out.trans (hb3.mono HB2.out.size)⟩
  clear kk l3 hb3
  have kk := H4.out w3
  go_wp2_with fail
  refine kk.mono ?_
  rintro r w4 ⟨rfl, hb4⟩
  have HB4 : Hid (Below w.heap.size w w4) := HB3.out.2.trans (hb4.mono HB3.out.2.size)
  clear kk hb4
  have kk := lsame_ok HB3.out.1 HXY.out.2 w4
  go_wp2_with fail
  refine kk.mono ?_
  rintro r w' ⟨rfl, hw⟩
  rw [hw]
  clear hw kk w' HB3
  have kk := H7.out w4 HB4.out
  go_wp2_with fail
  refine kk.mono ?_
  rintro r w5 ⟨rfl, hb5⟩
  have HB5 : Hid (Below w.heap.size w w5) := HB4.out.trans (hb5.mono HB4.out.size)
  clear kk hb5
  go_wp2_with fail
  go_ret
  exact ⟨rfl, HB5.out⟩
theorem roundWholes_ok (a b : Nat) (m : Int) (w : World) (ha : a < 18446744073709551616) (hb : b < 18446744073709551616) (hT : Tab32 w) (hI : Ie.Tab w) :
    Calls Tryz.prog 3 #[.float .f64 a, .float .f64 b, .int .i64 m] w fun r w' => r = .returned (.bool true) ∧ Below w.heap.size w w' := by
  obtain ⟨X, hX, p1, p2⟩ := join_FWhole a m ha
  obtain ⟨Y, hY, q1, q2⟩ := join_FRest a b ha hb
  exact lawW_1 a b X Y m w hX hY (fun W h => p1 W (hT.later h) (Tab.later hI h)) p2 (fun W h => q1 W (hT.later h) (Tab.later hI h)) q2 (fun W h => sure_ok W (hT.later h) (Tab.later hI h))
end Go.Proofs.YtbpeijejanhihaaGreatDoor
