/- Own work: contracts of the program's functions, part 19: SO8 SO9 SOA SOB SOC SOD. -/
import Derived.Test.YtcoclopllbfjcaaGreatDoorA18
import Derived.Test.YtcoclopllbfjcaaGreatDoorA14

/- Mul joined. -/
namespace Go.Proofs.YtcoclopllbfjcaaGreatDoor
set_option linter.unusedVariables false
set_option linter.unusedSimpArgs false
open Go.RowKit Go.Fl64
attribute [local go_sem] run_store_flt

theorem pT_ok (a b c d k : Nat) : Ok (pT a b c d k) := by
  have hz : Ok (false, 0, 0) := by unfold Ok; rw [dlen_zero]; rfl
  unfold pT tmT
  generalize (if k < 2 then a else b) = x
  generalize (if k % 2 = 0 then c else d) = y
  split
  · exact hz
  · split
    · exact hz
    · rename_i h
      have e1 : eT x = tF x := by unfold eT; rw [if_pos (by omega)]
      have e2 : eT y = tF y := by unfold eT; rw [if_pos (by omega)]
      rw [e1, e2]
      exact tM_ok (tM_okR x y)
theorem pI_b (a b c d k : Nat) : -1 ≤ pI a b c d k ∧ pI a b c d k ≤ 1 := by
  unfold pI tmI
  generalize (if k < 2 then a else b) = x
  generalize (if k % 2 = 0 then c else d) = y
  split
  · omega
  · split
    · exact mul_b (sgE_b _ (eI_b x)) (sgE_b _ (eI_b y))
    · omega
theorem enF_nZ (i : Int) (t : Bool × Nat × Int) (m : Int) : enF i t m ≠ 9223372036854775808 := by
  unfold enF
  split
  · unfold pl
    split
    · decide
    · assumption
  · split <;> decide
theorem pl_nZ (x : Nat) : pl x ≠ 9223372036854775808 := by
  unfold pl
  split
  · decide
  · assumption
theorem pk_prod {a b c d : Nat} (ha : a < 18446744073709551616) (hb : b < 18446744073709551616) (hc : c < 18446744073709551616) (hd : d < 18446744073709551616) (na : isNaN a = false) (nb : isNaN b = false) (nc : isNaN c = false) (nd : isNaN d = false) {m : Int} (hm : 1 ≤ m ∧ m ≤ 3) : ∀ k, k < 4 → enF (pI a b c d k) (pT a b c d k) m = pl (onF (fMul (pk4 a a b b k) (pk4 c d c d k) m)) := fun k hk => by
  rcases lt48 hk with rfl | rfl | rfl | rfl
  · exact enF_times ha hc na nc hm
  · exact enF_times ha hd na nd hm
  · exact enF_times hb hc nb nc hm
  · exact enF_times hb hd nb nd hm
theorem mul_low {a b c d : Nat} (ha : a < 18446744073709551616) (hb : b < 18446744073709551616) (hc : c < 18446744073709551616) (hd : d < 18446744073709551616) (na : isNaN a = false) (nb : isNaN b = false) (nc : isNaN c = false) (nd : isNaN d = false) : enF (pI a b c d (lstE 1 (pI a b c d) (pT a b c d) 3)) (pT a b c d (lstE 1 (pI a b c d) (pT a b c d) 3)) 1 = mlo a b c d := by
  have hp := pk_prod ha hb hc hd na nb nc nd (m := 1) (by omega)
  have hmn := lst_min (ii := pI a b c d) (tt := pT a b c d) 3 (fun k _ => pT_ok a b c d k)
  have hl := lstE_le 1 (pI a b c d) (pT a b c d) 3
  generalize lstE 1 (pI a b c d) (pT a b c d) 3 = L at *
  have hD : ∀ i, onF (fMul (pk4 a a b b i) (pk4 c d c d i) 1) < 18446744073709551616 ∧ isNaN (onF (fMul (pk4 a a b b i) (pk4 c d c d i) 1)) = false := fun i => onF_ok fMul_lt
  have hmono := fun k (hk : k ≤ 3) => enF_mono (pI_b a b c d L) (pI_b a b c d k) (pT_ok a b c d L) (pT_ok a b c d k) (m := 1) (by omega) (hmn k hk)
  have hs : ∀ k, k < 4 → stp (enF (pI a b c d k) (pT a b c d k) 1) = stp (onF (fMul (pk4 a a b b k) (pk4 c d c d k) 1)) := fun k hk => by rw [hp k hk, pl_stp]
  refine stp_inj (enF_lt _ _ (by omega)) (pl_lt (lowF_ok (D := fun i => onF (fMul (pk4 a a b b i) (pk4 c d c d i) 1)) hD 4).1) ?_ (enF_nZ _ _ _) (pl_nZ _)
  have m0 := hmono 0 (by omega)
  have m1 := hmono 1 (by omega)
  have m2 := hmono 2 (by omega)
  have m3 := hmono 3 (by omega)
  rw [hs 0 (by omega)] at m0
  rw [hs 1 (by omega)] at m1
  rw [hs 2 (by omega)] at m2
  rw [hs 3 (by omega)] at m3
  have hL := hs L (by omega)
  have hI := nn_stp (hD L).2
  unfold mlo
  rw [pl_stp]
  simp only [lowF, fMin_stp]
  rw [show stp 9218868437227405312 = 9218868437227405312 by decide]
  rcases lt48 (show L < 4 by omega) with rfl | rfl | rfl | rfl <;> omega
theorem mul_high {a b c d : Nat} (ha : a < 18446744073709551616) (hb : b < 18446744073709551616) (hc : c < 18446744073709551616) (hd : d < 18446744073709551616) (na : isNaN a = false) (nb : isNaN b = false) (nc : isNaN c = false) (nd : isNaN d = false) : enF (pI a b c d (lstE (-1) (pI a b c d) (pT a b c d) 3)) (pT a b c d (lstE (-1) (pI a b c d) (pT a b c d) 3)) 3 = mhi a b c d := by
  have hp := pk_prod ha hb hc hd na nb nc nd (m := 3) (by omega)
  have hmn := lst_max (ii := pI a b c d) (tt := pT a b c d) 3 (fun k _ => pT_ok a b c d k)
  have hl := lstE_le (-1) (pI a b c d) (pT a b c d) 3
  generalize lstE (-1) (pI a b c d) (pT a b c d) 3 = L at *
  have hD : ∀ i, onF (fMul (pk4 a a b b i) (pk4 c d c d i) 3) < 18446744073709551616 ∧ isNaN (onF (fMul (pk4 a a b b i) (pk4 c d c d i) 3)) = false := fun i => onF_ok fMul_lt
  have hmono := fun k (hk : k ≤ 3) => enF_mono (pI_b a b c d k) (pI_b a b c d L) (pT_ok a b c d k) (pT_ok a b c d L) (m := 3) (by omega) (hmn k hk)
  have hs : ∀ k, k < 4 → stp (enF (pI a b c d k) (pT a b c d k) 3) = stp (onF (fMul (pk4 a a b b k) (pk4 c d c d k) 3)) := fun k hk => by rw [hp k hk, pl_stp]
  refine stp_inj (enF_lt _ _ (by omega)) (pl_lt (hiF_ok (D := fun i => onF (fMul (pk4 a a b b i) (pk4 c d c d i) 3)) hD 4).1) ?_ (enF_nZ _ _ _) (pl_nZ _)
  have m0 := hmono 0 (by omega)
  have m1 := hmono 1 (by omega)
  have m2 := hmono 2 (by omega)
  have m3 := hmono 3 (by omega)
  rw [hs 0 (by omega)] at m0
  rw [hs 1 (by omega)] at m1
  rw [hs 2 (by omega)] at m2
  rw [hs 3 (by omega)] at m3
  have hL := hs L (by omega)
  have hI : -9218868437227405312 ≤ stp (onF (fMul (pk4 a a b b L) (pk4 c d c d L) 3)) := by
    have := mag_le8 (hD L).2
    unfold stp sgn
    split <;> omega
  unfold mhi
  rw [pl_stp]
  simp only [hiF, fMax_stp]
  rw [show stp 18442240474082181120 = -9218868437227405312 by decide]
  rcases lt48 (show L < 4 by omega) with rfl | rfl | rfl | rfl <;> omega
/-- the document's Mul is the program's -/
theorem dmul8 (a b c d : Nat) (w : World) (ha : a < 18446744073709551616) (hb : b < 18446744073709551616) (hc : c < 18446744073709551616) (hd : d < 18446744073709551616) : Calls Tryz.prog 9 #[.agg #[.float .f64 a, .float .f64 b], .agg #[.float .f64 c, .float .f64 d]] w fun r w' => r = .returned (orV (vI a b && vI c d) (mlo a b c d) (mhi a b c d) (.int .i64 0) (.int .i64 1)) ∧ Below w.heap.size w w' :=
  dmul8_1 a b c d _ _ w ha hb hc hd (fun v => by
    rw [Bool.and_eq_true] at v
    obtain ⟨na, nb⟩ := vI_nn v.1
    obtain ⟨nc, nd⟩ := vI_nn v.2
    exact ⟨mul_low ha hb hc hd na nb nc nd, mul_high ha hb hc hd na nb nc nd, fun k _ => pT_ok a b c d k⟩)
end Go.Proofs.YtcoclopllbfjcaaGreatDoor
/- The document's quotients of ends. -/
namespace Go.Proofs.YtcoclopllbfjcaaGreatDoor
set_option linter.unusedVariables false
set_option linter.unusedSimpArgs false
open Go.RowKit Go.Fl64
attribute [local go_sem] run_store_flt

set_option maxHeartbeats 8000000 in
set_option maxRecDepth 200000 in
theorem dratio_z1 (i j eA eB : Int) (sA sB : Bool) (aoA aoB : Option Addr) (nA capA nB capB : Nat) (sa sb m : Int) (w : World) (ka : ∀ W, Below w.heap.size w W → Calls Tryz.prog 86 #[.agg #[.int .i64 i, .bool sA, .slice aoA nA capA, .int .i64 eA]] W fun r w' => r = .returned (.int .i64 sa) ∧ Below W.heap.size W w') (hz : Hid (sa = 0)) :
    Calls Tryz.prog 46 #[.agg #[.int .i64 i, .bool sA, .slice aoA nA capA, .int .i64 eA], .agg #[.int .i64 j, .bool sB, .slice aoB nB capB, .int .i64 eB], .int .i64 m] w fun r w' => r = .returned (.float .f64 0) ∧ Below w.heap.size w w' := by
  obtain ⟨W, hW⟩ : ∃ W, W = (w.alloc (.cells #[.int .i64 i, .bool sA, .slice aoA nA capA, .int .i64 eA] 61)).alloc (.cells #[.int .i64 j, .bool sB, .slice aoB nB capB, .int .i64 eB] 61) := ⟨_, rfl⟩
  have HX : Hid (Below w.heap.size w W ∧ EnB W (w.heap.size) (.int .i64 i) (.bool sA) (.slice aoA nA capA) (.int .i64 eA) ∧ EnB W (w.heap.size + 1) (.int .i64 j) (.bool sB) (.slice aoB nB capB) (.int .i64 eB)) := by
    rw [hW]
    refine ⟨((Below.refl _ _).alloc (Nat.le_refl _) _).alloc (by simp) _, (EnB.new _ _ _ _ _).alloc _, ?_⟩
    have := EnB.new (w.alloc (.cells #[.int .i64 i, .bool sA, .slice aoA nA capA, .int .i64 eA] 61)) (.int .i64 j) (.bool sB) (.slice aoB nB capB) (.int .i64 eB)
    simpa using this
  have HKK : Hid (∀ w', Below W.heap.size W w' → (w'.cell? ⟨w.heap.size, 0, none⟩ = some (.int .i64 i) ∧ w'.cell? ⟨w.heap.size, 1, none⟩ = some (.bool sA) ∧ w'.cell? ⟨w.heap.size, 2, none⟩ = some (.slice aoA nA capA) ∧ w'.cell? ⟨w.heap.size, 3, none⟩ = some (.int .i64 eA)) ∧ (w'.cell? ⟨w.heap.size + 1, 0, none⟩ = some (.int .i64 j) ∧ w'.cell? ⟨w.heap.size + 1, 1, none⟩ = some (.bool sB) ∧ w'.cell? ⟨w.heap.size + 1, 2, none⟩ = some (.slice aoB nB capB) ∧ w'.cell? ⟨w.heap.size + 1, 3, none⟩ = some (.int .i64 eB))) := fun w' h => ⟨(HX.out.2.1.box h).facts.1, (HX.out.2.2.box h).facts.1⟩
  have kk := ka W HX.out.1
  clear ka
  obtain ⟨⟨a0, a1, a2, a3⟩, b0, b1, b2, b3⟩ := HKK.out W (Below.refl _ _)
  go_enter Tryz.func46, Tryz.ntmps46
  go_upto_region 1 with fail
  rw [← hW]
  clear hW
  go_wp2_with fail
  refine kk.mono ?_
  rintro r w1 ⟨rfl, hb⟩
  have HB1 : Hid (Below W.heap.size W w1) := hb
  have HF : Hid (Below w.heap.size w w1) := HX.out.1.trans (hb.mono HX.out.1.size)
  clear kk hb a0 a1 a2 a3 b0 b1 b2 b3
  obtain ⟨⟨a0, a1, a2, a3⟩, b0, b1, b2, b3⟩ := HKK.out w1 HB1.out
  have hz := hz.out
  subst hz
  clear HKK HX HB1
  go_wp2
  go_ret
  exact ⟨rfl, HF.out⟩
set_option maxHeartbeats 8000000 in
set_option maxRecDepth 200000 in
theorem dratio_z2 (i j eA eB : Int) (sA sB : Bool) (aoA aoB : Option Addr) (nA capA nB capB : Nat) (sa sb m : Int) (w : World) (ka : ∀ W, Below w.heap.size w W → Calls Tryz.prog 86 #[.agg #[.int .i64 i, .bool sA, .slice aoA nA capA, .int .i64 eA]] W fun r w' => r = .returned (.int .i64 sa) ∧ Below W.heap.size W w') (hsa : sa ≠ 0) (hj : j ≠ 0) :
    Calls Tryz.prog 46 #[.agg #[.int .i64 i, .bool sA, .slice aoA nA capA, .int .i64 eA], .agg #[.int .i64 j, .bool sB, .slice aoB nB capB, .int .i64 eB], .int .i64 m] w fun r w' => r = .returned (.float .f64 0) ∧ Below w.heap.size w w' := by
  obtain ⟨W, hW⟩ : ∃ W, W = (w.alloc (.cells #[.int .i64 i, .bool sA, .slice aoA nA capA, .int .i64 eA] 61)).alloc (.cells #[.int .i64 j, .bool sB, .slice aoB nB capB, .int .i64 eB] 61) := ⟨_, rfl⟩
  have HX : Hid (Below w.heap.size w W ∧ EnB W (w.heap.size) (.int .i64 i) (.bool sA) (.slice aoA nA capA) (.int .i64 eA) ∧ EnB W (w.heap.size + 1) (.int .i64 j) (.bool sB) (.slice aoB nB capB) (.int .i64 eB)) := by
    rw [hW]
    refine ⟨((Below.refl _ _).alloc (Nat.le_refl _) _).alloc (by simp) _, (EnB.new _ _ _ _ _).alloc _, ?_⟩
    have := EnB.new (w.alloc (.cells #[.int .i64 i, .bool sA, .slice aoA nA capA, .int .i64 eA] 61)) (.int .i64 j) (.bool sB) (.slice aoB nB capB) (.int .i64 eB)
    simpa using this
  have HKK : Hid (∀ w', Below W.heap.size W w' → (w'.cell? ⟨w.heap.size, 0, none⟩ = some (.int .i64 i) ∧ w'.cell? ⟨w.heap.size, 1, none⟩ = some (.bool sA) ∧ w'.cell? ⟨w.heap.size, 2, none⟩ = some (.slice aoA nA capA) ∧ w'.cell? ⟨w.heap.size, 3, none⟩ = some (.int .i64 eA)) ∧ (w'.cell? ⟨w.heap.size + 1, 0, none⟩ = some (.int .i64 j) ∧ w'.cell? ⟨w.heap.size + 1, 1, none⟩ = some (.bool sB) ∧ w'.cell? ⟨w.heap.size + 1, 2, none⟩ = some (.slice aoB nB capB) ∧ w'.cell? ⟨w.heap.size + 1, 3, none⟩ = some (.int .i64 eB))) := fun w' h => ⟨(HX.out.2.1.box h).facts.1, (HX.out.2.2.box h).facts.1⟩
  have kk := ka W HX.out.1
  clear ka
  obtain ⟨⟨a0, a1, a2, a3⟩, b0, b1, b2, b3⟩ := HKK.out W (Below.refl _ _)
  go_enter Tryz.func46, Tryz.ntmps46
  go_upto_region 1 with fail
  rw [← hW]
  clear hW
  go_wp2_with fail
  refine kk.mono ?_
  rintro r w1 ⟨rfl, hb⟩
  have HB1 : Hid (Below W.heap.size W w1) := hb
  have HF : Hid (Below w.heap.size w w1) := HX.out.1.trans (hb.mono HX.out.1.size)
  clear kk hb a0 a1 a2 a3 b0 b1 b2 b3
  obtain ⟨⟨a0, a1, a2, a3⟩, b0, b1, b2, b3⟩ := HKK.out w1 HB1.out
  have e1 : (sa == 0) = false := by simp [hsa]
  have e2 : (j != 0) = true := by simp [hj]
  clear HKK HX HB1
  go_wp2
  go_ret
  exact ⟨rfl, HF.out⟩
set_option maxHeartbeats 8000000 in
set_option maxRecDepth 200000 in
theorem dratio_i (i j eA eB : Int) (sA sB : Bool) (aoA aoB : Option Addr) (nA capA nB capB : Nat) (sa sb m : Int) (k : Int) (F : Nat) (w : World) (ka : ∀ W, Below w.heap.size w W → Calls Tryz.prog 86 #[.agg #[.int .i64 i, .bool sA, .slice aoA nA capA, .int .i64 eA]] W fun r w' => r = .returned (.int .i64 sa) ∧ Below W.heap.size W w') (kb : Hid (∀ W, Below w.heap.size w W → Calls Tryz.prog 86 #[.agg #[.int .i64 j, .bool sB, .slice aoB nB capB, .int .i64 eB]] W fun r w' => r = .returned (.int .i64 sb) ∧ Below W.heap.size W w')) (ki : Hid (∀ W, Calls Tryz.prog 44 #[.int .i64 k] W fun r w' => r = .returned (.float .f64 F) ∧ w' = W)) (hk : IntKind.i64.wrap (i * sb) = k) (hsa : sa ≠ 0) (hi : i ≠ 0) (hj : Hid (j = 0)) :
    Calls Tryz.prog 46 #[.agg #[.int .i64 i, .bool sA, .slice aoA nA capA, .int .i64 eA], .agg #[.int .i64 j, .bool sB, .slice aoB nB capB, .int .i64 eB], .int .i64 m] w fun r w' => r = .returned (.float .f64 F) ∧ Below w.heap.size w w' := by
  obtain ⟨W, hW⟩ : ∃ W, W = (w.alloc (.cells #[.int .i64 i, .bool sA, .slice aoA nA capA, .int .i64 eA] 61)).alloc (.cells #[.int .i64 j, .bool sB, .slice aoB nB capB, .int .i64 eB] 61) := ⟨_, rfl⟩
  have HX : Hid (Below w.heap.size w W ∧ EnB W (w.heap.size) (.int .i64 i) (.bool sA) (.slice aoA nA capA) (.int .i64 eA) ∧ EnB W (w.heap.size + 1) (.int .i64 j) (.bool sB) (.slice aoB nB capB) (.int .i64 eB)) := by
    rw [hW]
    refine ⟨((Below.refl _ _).alloc (Nat.le_refl _) _).alloc (by simp) _, (EnB.new _ _ _ _ _).alloc _, ?_⟩
    have := EnB.new (w.alloc (.cells #[.int .i64 i, .bool sA, .slice aoA nA capA, .int .i64 eA] 61)) (.int .i64 j) (.bool sB) (.slice aoB nB capB) (.int .i64 eB)
    simpa using this
  have HKK : Hid (∀ w', Below W.heap.size W w' → (w'.cell? ⟨w.heap.size, 0, none⟩ = some (.int .i64 i) ∧ w'.cell? ⟨w.heap.size, 1, none⟩ = some (.bool sA) ∧ w'.cell? ⟨w.heap.size, 2, none⟩ = some (.slice aoA nA capA) ∧ w'.cell? ⟨w.heap.size, 3, none⟩ = some (.int .i64 eA)) ∧ (w'.cell? ⟨w.heap.size + 1, 0, none⟩ = some (.int .i64 j) ∧ w'.cell? ⟨w.heap.size + 1, 1, none⟩ = some (.bool sB) ∧ w'.cell? ⟨w.heap.size + 1, 2, none⟩ = some (.slice aoB nB capB) ∧ w'.cell? ⟨w.heap.size + 1, 3, none⟩ = some (.int .i64 eB))) := fun w' h => ⟨(HX.out.2.1.box h).facts.1, (HX.out.2.2.box h).facts.1⟩
  have kk := ka W HX.out.1
  clear ka
  obtain ⟨⟨a0, a1, a2, a3⟩, b0, b1, b2, b3⟩ := HKK.out W (Below.refl _ _)
  go_enter Tryz.func46, Tryz.ntmps46
  go_upto_region 1 with fail
  rw [← hW]
  clear hW
  go_wp2_with fail
  refine kk.mono ?_
  rintro r w1 ⟨rfl, hb⟩
  have HB1 : Hid (Below W.heap.size W w1) := hb
  have HF : Hid (Below w.heap.size w w1) := HX.out.1.trans (hb.mono HX.out.1.size)
  clear kk hb a0 a1 a2 a3 b0 b1 b2 b3
  obtain ⟨⟨a0, a1, a2, a3⟩, b0, b1, b2, b3⟩ := HKK.out w1 HB1.out
  have e1 : (sa == 0) = false := by simp [hsa]
  have e2 : (i != 0) = true := by simp [hi]
  have hj := hj.out
  subst hj
  clear hsa hi
  have qb : ∀ W', Below W.heap.size W W' → Calls Tryz.prog 86 #[.agg #[.int .i64 0, .bool sB, .slice aoB nB capB, .int .i64 eB]] W' fun r w' => r = .returned (.int .i64 sb) ∧ Below W.heap.size W w' := fun W' h => (kb.out W' (HX.out.1.trans (h.mono HX.out.1.size))).mono fun r w' ⟨e1, e2⟩ => ⟨e1, h.trans (e2.mono h.size)⟩
  have qi : ∀ W', Below W.heap.size W W' → Calls Tryz.prog 44 #[.int .i64 k] W' fun r w' => r = .returned (.float .f64 F) ∧ Below W.heap.size W w' := fun W' h => (ki.out W').mono fun r w' ⟨e1, e2⟩ => ⟨e1, by rw [e2]; exact h⟩
  have hR : Below W.heap.size W w1.drew := HB1.out.drew
  go_upto_region 4 with fail
  go_region_held3 (fun w' => (w'.cell? ⟨w.heap.size, 0, none⟩ = some (.int .i64 i) ∧ w'.cell? ⟨w.heap.size, 1, none⟩ = some (.bool sA) ∧ w'.cell? ⟨w.heap.size, 2, none⟩ = some (.slice aoA nA capA) ∧ w'.cell? ⟨w.heap.size, 3, none⟩ = some (.int .i64 eA)) ∧ (w'.cell? ⟨w.heap.size + 1, 0, none⟩ = some (.int .i64 0) ∧ w'.cell? ⟨w.heap.size + 1, 1, none⟩ = some (.bool sB) ∧ w'.cell? ⟨w.heap.size + 1, 2, none⟩ = some (.slice aoB nB capB) ∧ w'.cell? ⟨w.heap.size + 1, 3, none⟩ = some (.int .i64 eB))) (first | (with_reducible assumption) | (with_reducible exact HKK.out _ hR) | (with_reducible refine HKK.out _ ?_; with_reducible assumption) | go_keep)
    (first | (go_at_call 86; with_reducible refine (qb _ (by first | (with_reducible assumption) | exact hR)).mono ?_; rintro r v1 ⟨rfl, B⟩)
           | (go_at_call 44; with_reducible refine (qi _ (by with_reducible assumption)).mono ?_; rintro r v2 ⟨rfl, hq⟩; replace B := hq; clear hq))
  have HF2 : Hid (Below w.heap.size w v2) := HX.out.1.trans (B.mono HX.out.1.size)
  clear HX HKK HB1 qb qi B hR HF kb ki
  go_wp2_with fail
  go_ret
  first | exact ⟨rfl, HF2.out⟩ | exact ⟨rfl, HF2.out.drew⟩
set_option maxHeartbeats 8000000 in
set_option maxRecDepth 200000 in
theorem dratio_0 (i j eA eB : Int) (sA sB : Bool) (aoA aoB : Option Addr) (nA capA nB capB : Nat) (sa sb m : Int) (F : Nat) (w : World) (ka : ∀ W, Below w.heap.size w W → Calls Tryz.prog 86 #[.agg #[.int .i64 i, .bool sA, .slice aoA nA capA, .int .i64 eA]] W fun r w' => r = .returned (.int .i64 sa) ∧ Below W.heap.size W w') (kr : Hid (∀ W, Below w.heap.size w W → Calls Tryz.prog 92 #[.agg #[.bool sA, .slice aoA nA capA, .int .i64 eA], .agg #[.bool sB, .slice aoB nB capB, .int .i64 eB], .int .i64 m] W fun r w' => r = .returned (.float .f64 F) ∧ Below W.heap.size W w')) (hF : F < 18446744073709551616) (hsa : sa ≠ 0) (hi : Hid (i = 0)) (hj : Hid (j = 0)) :
    Calls Tryz.prog 46 #[.agg #[.int .i64 i, .bool sA, .slice aoA nA capA, .int .i64 eA], .agg #[.int .i64 j, .bool sB, .slice aoB nB capB, .int .i64 eB], .int .i64 m] w fun r w' => r = .returned (.float .f64 (pl F)) ∧ Below w.heap.size w w' := by
  obtain ⟨W, hW⟩ : ∃ W, W = (w.alloc (.cells #[.int .i64 i, .bool sA, .slice aoA nA capA, .int .i64 eA] 61)).alloc (.cells #[.int .i64 j, .bool sB, .slice aoB nB capB, .int .i64 eB] 61) := ⟨_, rfl⟩
  have HX : Hid (Below w.heap.size w W ∧ EnB W (w.heap.size) (.int .i64 i) (.bool sA) (.slice aoA nA capA) (.int .i64 eA) ∧ EnB W (w.heap.size + 1) (.int .i64 j) (.bool sB) (.slice aoB nB capB) (.int .i64 eB)) := by
    rw [hW]
    refine ⟨((Below.refl _ _).alloc (Nat.le_refl _) _).alloc (by simp) _, (EnB.new _ _ _ _ _).alloc _, ?_⟩
    have := EnB.new (w.alloc (.cells #[.int .i64 i, .bool sA, .slice aoA nA capA, .int .i64 eA] 61)) (.int .i64 j) (.bool sB) (.slice aoB nB capB) (.int .i64 eB)
    simpa using this
  have HKK : Hid (∀ w', Below W.heap.size W w' → (w'.cell? ⟨w.heap.size, 0, none⟩ = some (.int .i64 i) ∧ w'.cell? ⟨w.heap.size, 1, none⟩ = some (.bool sA) ∧ w'.cell? ⟨w.heap.size, 2, none⟩ = some (.slice aoA nA capA) ∧ w'.cell? ⟨w.heap.size, 3, none⟩ = some (.int .i64 eA)) ∧ (w'.cell? ⟨w.heap.size + 1, 0, none⟩ = some (.int .i64 j) ∧ w'.cell? ⟨w.heap.size + 1, 1, none⟩ = some (.bool sB) ∧ w'.cell? ⟨w.heap.size + 1, 2, none⟩ = some (.slice aoB nB capB) ∧ w'.cell? ⟨w.heap.size + 1, 3, none⟩ = some (.int .i64 eB))) := fun w' h => ⟨(HX.out.2.1.box h).facts.1, (HX.out.2.2.box h).facts.1⟩
  have kk := ka W HX.out.1
  clear ka
  obtain ⟨⟨a0, a1, a2, a3⟩, b0, b1, b2, b3⟩ := HKK.out W (Below.refl _ _)
  go_enter Tryz.func46, Tryz.ntmps46
  go_upto_region 1 with fail
  rw [← hW]
  clear hW
  go_wp2_with fail
  refine kk.mono ?_
  rintro r w1 ⟨rfl, hb⟩
  have HB1 : Hid (Below W.heap.size W w1) := hb
  have HF : Hid (Below w.heap.size w w1) := HX.out.1.trans (hb.mono HX.out.1.size)
  clear kk hb a0 a1 a2 a3 b0 b1 b2 b3
  obtain ⟨⟨a0, a1, a2, a3⟩, b0, b1, b2, b3⟩ := HKK.out w1 HB1.out
  have e1 : (sa == 0) = false := by simp [hsa]
  have hi := hi.out
  have hj := hj.out
  subst hi
  subst hj
  have kk := kr.out w1 HF.out
  clear kr HKK HX HB1
  go_wp2_with fail
  refine kk.mono ?_
  rintro r w2 ⟨rfl, hb⟩
  have HF2 : Hid (Below w.heap.size w w2) := HF.out.trans (hb.mono HF.out.size)
  have kk := dpl F hF w2
  clear hb HF a0 a1 a2 a3 b0 b1 b2 b3
  go_wp2_with fail
  refine kk.mono ?_
  rintro r w3 ⟨rfl, rfl⟩
  clear kk
  go_wp2
  go_ret
  exact ⟨rfl, HF2.out⟩
end Go.Proofs.YtcoclopllbfjcaaGreatDoor
/- The document's quotients of ends joined. -/
namespace Go.Proofs.YtcoclopllbfjcaaGreatDoor
set_option linter.unusedVariables false
set_option linter.unusedSimpArgs false
open Go.RowKit Go.Fl64
attribute [local go_sem] run_store_flt

/-- a quotient of ends, rounded -/
def raF (i j : Int) (t u : Bool × Nat × Int) (m : Int) : Nat := if sgE i t = 0 ∨ j ≠ 0 then 0 else if i ≠ 0 then (if 0 < i * sgE j u then 9218868437227405312 else 18442240474082181120) else pl (rtF t u m)

theorem dratioE {i j m : Int} {t u : Bool × Nat × Int} {A B : Value} {w : World} (hi : -1 ≤ i ∧ i ≤ 1) (hj : -1 ≤ j ∧ j ≤ 1) (o1 : Ok t) (o2 : Ok u) (h1 : EN w A i t) (h2 : EN w B j u) (hm : 1 ≤ m ∧ m ≤ 3) (hu : sgE j u ≠ 0) :
    Calls Tryz.prog 46 #[A, B, .int .i64 m] w fun r w' => r = .returned (.float .f64 (raF i j t u m)) ∧ Below w.heap.size w w' := by
  have h1' := h1
  have h2' := h2
  obtain ⟨sA, aoA, nA, capA, eA, rfl, d1⟩ := h1'
  obtain ⟨sB, aoB, nB, capB, eB, rfl, d2⟩ := h2'
  have ka : ∀ W, Below w.heap.size w W → _ := fun W hW => dsignE (h1.later hW)
  have kb : ∀ W, Below w.heap.size w W → _ := fun W hW => dsignE (h2.later hW)
  have hb := mul_b hi (sgE_b u hj)
  have hw : IntKind.i64.wrap (i * sgE j u) = i * sgE j u := by rw [IntKind.wrap_i64]; omega
  unfold raF
  by_cases z1 : sgE i t = 0
  · rw [if_pos (.inl z1)]
    exact dratio_z1 i j eA eB sA sB aoA aoB nA capA nB capB _ 0 m w ka z1
  by_cases z2 : j = 0
  · rw [if_neg (by omega)]
    by_cases i0 : i = 0
    · rw [if_neg (by omega)]
      have x0 : t.2.1 ≠ 0 := by
        intro h
        apply z1
        unfold sgE
        rw [if_pos i0, if_pos h]
      have y0 : u.2.1 ≠ 0 := by
        intro h
        apply hu
        unfold sgE
        rw [if_pos z2, if_pos h]
      exact dratio_0 i j eA eB sA sB aoA aoB nA capA nB capB _ 0 m (rtF t u m) w ka (fun W hW => dratio o1 o2 (d1.later hW) (d2.later hW) x0 y0 hm) (rtF_lt hm) z1 i0 z2
    · rw [if_pos i0]
      have hne : i * sgE j u ≠ 0 := Int.mul_ne_zero i0 hu
      by_cases hp : 0 < i * sgE j u
      · rw [if_pos hp]
        exact dratio_i i j eA eB sA sB aoA aoB nA capA nB capB _ _ m _ _ w ka kb (fun W => cinf_ge _ W hp) hw z1 i0 z2
      · rw [if_neg hp]
        exact dratio_i i j eA eB sA sB aoA aoB nA capA nB capB _ _ m _ _ w ka kb (fun W => cinf_le _ W (by omega)) hw z1 i0 z2
  · rw [if_pos (.inr z2)]
    exact dratio_z2 i j eA eB sA sB aoA aoB nA capA nB capB _ 0 m w ka z1 z2
end Go.Proofs.YtcoclopllbfjcaaGreatDoor
/- Quotients of ends in numbers. -/
namespace Go.Proofs.YtcoclopllbfjcaaGreatDoor
set_option linter.unusedVariables false
set_option linter.unusedSimpArgs false
open Go.RowKit Go.Fl64
attribute [local go_sem] run_store_flt

theorem tfF_nn8 {s ex : Bool} {x : Nat} {e m : Int} (hm : 1 ≤ m ∧ m ≤ 3) : isNaN (tfF s ex x e m) = false := by
  unfold tfF Ie.mk
  rw [if_pos (by omega)]
  have key : ∀ n, n ≤ 9218868437227405312 → isNaN (sig s n) = false := fun n h => by
    unfold isNaN
    rw [(mag_sig h).1]
    exact decide_eq_false (by omega)
  refine key _ ?_
  split
  · omega
  · rename_i h0
    have := Ie.bod_bounds (tfM ex x) (e + (tfD x : Int)) (Ie.wy s m) (tfM_lt ex x) h0
    omega
theorem raF_div {x y : Nat} (hx : x < 18446744073709551616) (hy : y < 18446744073709551616) (nx : isNaN x = false) (ny : isNaN y = false) {m : Int} (hm : 1 ≤ m ∧ m ≤ 3) (y0 : mag y ≠ 0) : raF (eI x) (eI y) (eT x) (eT y) m = pl (onF (fDiv x y m)) := by
  have hM : isM m = true := by unfold isM; rcases (show m = 1 ∨ m = 2 ∨ m = 3 by omega) with rfl | rfl | rfl <;> rfl
  have sx := sgn8 hx nx
  have sy := sgn8 hy ny
  rw [if_neg y0] at sy
  have ex := fin_iff8 hx nx
  have ey := fin_iff8 hy ny
  have mx := mag_le8 nx
  have my := mag_le8 ny
  have eD : fDiv x y m = if pln x = false ∨ pln y = false then divX x y else rtF (tF x) (tF y) m := by unfold fDiv; rw [hM, if_neg (by simp)]
  rw [eD]
  unfold raF
  by_cases h0 : mag x = 0
  · rw [if_pos h0] at sx
    rw [if_pos (.inl sx), if_pos (.inl (by unfold pln; rw [h0]; rfl))]
    unfold divX
    rw [nx, ny]
    have e : (if false || false || (decide (mag x = 9218868437227405312) && decide (mag y = 9218868437227405312)) || (decide (mag x = 0) && decide (mag y = 0)) then 9221120237041090560 else if mag x = 9218868437227405312 ∨ mag y = 0 then sig (neg x != neg y) 9218868437227405312 else sig (neg x != neg y) 0) = sig (neg x != neg y) 0 := by
      rw [if_neg (by simp [h0, y0]), if_neg (by omega)]
    rw [e]
    cases (neg x != neg y) <;> decide
  rw [if_neg h0] at sx
  have hz : sgE (eI x) (eT x) ≠ 0 := by rw [sx]; cases neg x <;> simp
  by_cases hj : eI y = 0
  · rw [if_neg (by omega)]
    have fy := ey.1 hj
    by_cases hi : eI x = 0
    · have fx := ex.1 hi
      have px : pln x = true := by unfold pln; rw [decide_eq_true fx, decide_eq_true h0]; rfl
      have py : pln y = true := by unfold pln; rw [decide_eq_true fy, decide_eq_true y0]; rfl
      rw [if_neg (by omega), if_neg (by rw [px, py]; simp)]
      have tx : eT x = tF x := by unfold eT; rw [if_pos hi]
      have ty : eT y = tF y := by unfold eT; rw [if_pos hj]
      rw [tx, ty]
      have k : isNaN (rtF (tF x) (tF y) m) = false := by
        exact tfF_nn8 hm
      rw [onF_nn k]
    · have hin : mag x = 9218868437227405312 := by have : ¬ mag x < 9218868437227405312 := fun h' => hi (ex.2 h'); omega
      have ei : eI x = if neg x then -1 else 1 := by
        have k := sx
        unfold sgE at k
        rw [if_neg hi] at k
        exact k
      have eD2 : (if pln x = false ∨ pln y = false then divX x y else rtF (tF x) (tF y) m) = divX x y := if_pos (.inl (by unfold pln; rw [hin]; rfl))
      have fy' : mag y ≠ 9218868437227405312 := by omega
      have eV : divX x y = sig (neg x != neg y) 9218868437227405312 := by
        unfold divX
        rw [nx, ny, if_neg (by simp [fy', y0]), if_pos (.inl hin)]
      rw [eD2, eV, if_pos (by omega), sy, ei]
      cases neg x <;> cases neg y <;> decide
  · rw [if_pos (.inr hj)]
    have hin : mag y = 9218868437227405312 := by have : ¬ mag y < 9218868437227405312 := fun h' => hj (ey.2 h'); omega
    rw [if_pos (.inr (by unfold pln; rw [hin]; rfl))]
    unfold divX
    rw [nx, ny]
    by_cases h1 : mag x = 9218868437227405312
    · rw [if_pos (by simp [h1, hin])]
      decide
    · rw [if_neg (by simp [h1, h0]), if_neg (by omega)]
      cases (neg x != neg y) <;> decide
end Go.Proofs.YtcoclopllbfjcaaGreatDoor
/- The document's Quo. -/
namespace Go.Proofs.YtcoclopllbfjcaaGreatDoor
set_option linter.unusedVariables false
set_option linter.unusedSimpArgs false
open Go.RowKit Go.Fl64
attribute [local go_sem] run_store_flt

/-- the quotients of the ends of two intervals -/
def pick8 (a b k : Nat) : Nat := if k = 0 then a else b
def xK (a b k : Nat) : Nat := if k < 2 then a else b
def yK (c d k : Nat) : Nat := if k % 2 = 0 then c else d
def rK (a b c d : Nat) (m : Int) (k : Nat) : Nat := raF (eI (xK a b k)) (eI (yK c d k)) (eT (xK a b k)) (eT (yK c d k)) m
theorem raF_ok (i j : Int) (t u : Bool × Nat × Int) {m : Int} (hm : 1 ≤ m ∧ m ≤ 3) : raF i j t u m < 18446744073709551616 ∧ isNaN (raF i j t u m) = false := by
  unfold raF
  split
  · exact ⟨by omega, by decide⟩
  · split
    · split
      · exact ⟨by omega, by decide⟩
      · exact ⟨by omega, by decide⟩
    · exact ⟨pl_lt (rtF_lt hm), by rw [pl_nan]; exact tfF_nn8 hm⟩
set_option maxHeartbeats 16000000 in
set_option maxRecDepth 200000 in
theorem dquo8_1 (a b c d X Y : Nat) (zc zd z : Bool) (w : World) (ha : a < 18446744073709551616) (hb : b < 18446744073709551616) (hc : c < 18446744073709551616) (hd : d < 18446744073709551616)
    (hzc : (FloatKind.f64.format.order c 0 == some Ordering.lt || FloatKind.f64.format.order c 0 == some Ordering.eq) = zc) (hzd : (FloatKind.f64.format.order d 0 == some Ordering.gt || FloatKind.f64.format.order d 0 == some Ordering.eq) = zd) (HZ : Hid ((zc && zd) = z))
    (hXY : (vI a b && vI c d) = true → z = false → pl (lowF (rK a b c d 1) 4) = X ∧ pl (hiF (rK a b c d 3) 4) = Y ∧ sgE (eI c) (eT c) ≠ 0 ∧ sgE (eI d) (eT d) ≠ 0) :
    Calls Tryz.prog 11 #[.agg #[.float .f64 a, .float .f64 b], .agg #[.float .f64 c, .float .f64 d]] w fun r w' => r = .returned (quoV (vI a b && vI c d) z X Y) ∧ Below w.heap.size w w' := by
  have k1 := fun W => d8valid a b ha hb W
  have k2 := fun W => d8valid c d hc hd W
  have HN1 : Hid (vI a b = true → isNaN a = false ∧ isNaN b = false) := vI_nn
  have HN2 : Hid (vI c d = true → isNaN c = false ∧ isNaN d = false) := vI_nn
  have HXY : Hid ((vI a b && vI c d) = true → z = false → _) := hXY
  clear hXY
  generalize hu : vI a b = u at *
  generalize hv : vI c d = v at *
  clear hu hv
  obtain ⟨W, hW⟩ : ∃ W, W = (((w.alloc (.cells #[.float .f64 a, .float .f64 b] 24)).alloc (.cells #[.float .f64 c, .float .f64 d] 24)).alloc (.cells #[.float .f64 0, .float .f64 0] 24)) := ⟨_, rfl⟩
  have HX : Hid (Below w.heap.size w W ∧ IvB W (w.heap.size) a b ∧ IvB W (w.heap.size + 1) c d ∧ IvB W (w.heap.size + 1 + 1) 0 0) := by
    rw [hW]
    exact ⟨bxs3_0 w a b c d 0 0, bxs3_1 w a b c d 0 0, bxs3_2 w a b c d 0 0, bxs3_3 w a b c d 0 0⟩
  have HK : Hid (∀ w', Below W.heap.size W w' → IvF w' (w.heap.size) a b ∧ IvF w' (w.heap.size + 1) c d ∧ IvF w' (w.heap.size + 1 + 1) 0 0) := fun w' hb => ⟨(HX.out.2.1).later hb, (HX.out.2.2.1).later hb, (HX.out.2.2.2).later hb⟩
  obtain ⟨⟨c0, c1, z0, z1⟩, ⟨c2, c3, z2, z3⟩, ⟨c4, c5, z4, z5⟩⟩ := HK.out W (Below.refl _ _)
  have kv := k1 W
  clear k1
  go_enter Tryz.func11, Tryz.ntmps11
  go_upto_region 1 with fail
  rw [← hW]
  clear hW
  go_wp2_with fail
  refine kv.mono ?_
  rintro r w1 ⟨rfl, hb1⟩
  clear kv
  clear c0 z0 c1 z1 c2 z2 c3 z3 c4 z4 c5 z5
  obtain ⟨⟨c0, c1, z0, z1⟩, ⟨c2, c3, z2, z3⟩, ⟨c4, c5, z4, z5⟩⟩ := HK.out w1 hb1
  cases u
  · have HB : Hid (Below w.heap.size w w1) := HX.out.1.trans (hb1.mono HX.out.1.size)
    have HR : Hid (IvB w1 (w.heap.size + 1 + 1) 0 0) := HX.out.2.2.2.box hb1
    clear hb1 HK HX k2
    go_wp2
    refine bodyPost_ret (results_cell_tmp_row rfl _ _ (w.heap.size + 1 + 1) 24 #[.float .f64 0, .float .f64 0] (0, 0) _ rfl (HR.out.set _ _) Tryz.underlying24 rfl iv_info) rfl ?_
    exact ⟨rfl, below_store2 HB.out (by omega) _ _⟩
  have kv := k2 w1
  have HB1 : Hid (Below W.heap.size W w1) := hb1
  clear hb1 k2
  go_wp2_with fail
  refine kv.mono ?_
  rintro r w2 ⟨rfl, hb2⟩
  have hb3 : Below W.heap.size W w2 := HB1.out.trans (hb2.mono HB1.out.size)
  clear kv hb2 HB1
  clear c0 z0 c1 z1 c2 z2 c3 z3 c4 z4 c5 z5
  obtain ⟨⟨c0, c1, z0, z1⟩, ⟨c2, c3, z2, z3⟩, ⟨c4, c5, z4, z5⟩⟩ := HK.out w2 hb3
  cases v
  · have HB : Hid (Below w.heap.size w w2) := HX.out.1.trans (hb3.mono HX.out.1.size)
    have HR : Hid (IvB w2 (w.heap.size + 1 + 1) 0 0) := HX.out.2.2.2.box hb3
    clear hb3 HK HX
    go_wp2
    refine bodyPost_ret (results_cell_tmp_row rfl _ _ (w.heap.size + 1 + 1) 24 #[.float .f64 0, .float .f64 0] (0, 0) _ rfl (HR.out.set _ _) Tryz.underlying24 rfl iv_info) rfl ?_
    exact ⟨rfl, below_store2 HB.out (by omega) _ _⟩
  obtain ⟨Na, Nb⟩ := HN1.out (by simp)
  obtain ⟨Nc, Nd⟩ := HN2.out (by simp)
  have HB2 : Hid (Below W.heap.size W w2) := hb3
  have HAB : Hid ((a < 18446744073709551616 ∧ isNaN a = false) ∧ (b < 18446744073709551616 ∧ isNaN b = false) ∧ (c < 18446744073709551616 ∧ isNaN c = false) ∧ (d < 18446744073709551616 ∧ isNaN d = false)) := ⟨⟨ha, Na⟩, ⟨hb, Nb⟩, ⟨hc, Nc⟩, hd, Nd⟩
  clear hb3 HN1 HN2 ha hb hc hd Na Nb Nc Nd
  go_upto_region 3 with fail
  go_cut [26] from 27 to 34 (fun p0 wx => p0 = .bool z ∧ w2 = wx)
  case first =>
    have hz := HZ.out
    subst hz
    cases zc <;> cases zd <;> (go_wp2_with fail; go_meet; exact ⟨rfl, rfl⟩)
  rename_i p26 wc hcut
  obtain ⟨rfl, rfl⟩ := hcut
  clear hzc hzd HZ
  cases z
  rotate_left
  · have HB : Hid (Below w.heap.size w w2) := HX.out.1.trans (HB2.out.mono HX.out.1.size)
    have HR : Hid (IvB w2 (w.heap.size + 1 + 1) 0 0) := HX.out.2.2.2.box HB2.out
    clear HB2 HK HX HXY
    go_wp2
    refine bodyPost_ret (results_cell_tmp_row rfl _ _ (w.heap.size + 1 + 1) 24 #[.float .f64 0, .float .f64 0] (0, 0) _ rfl (HR.out.set _ _) Tryz.underlying24 rfl iv_info) rfl ?_
    exact ⟨rfl, below_store2 HB.out (by omega) _ _⟩
  go_upto_region 5 with fail
  go_cut [6, 7, 8, 9] from 36 to 47 (fun p0 p1 p2 p3 wx => ∃ (g0 g1 g2 g3 : Nat) (s0 : Bool) (ao0 : Option Addr) (n0 cap0 : Nat) (e0 : Int) (s1 : Bool) (ao1 : Option Addr) (n1 cap1 : Nat) (e1 : Int) (s2 : Bool) (ao2 : Option Addr) (n2 cap2 : Nat) (e2 : Int) (s3 : Bool) (ao3 : Option Addr) (n3 cap3 : Nat) (e3 : Int), p0 = .pointer (some ⟨g0, 0, none⟩) ∧ p1 = .pointer (some ⟨g1, 0, none⟩) ∧ p2 = .pointer (some ⟨g2, 0, none⟩) ∧ p3 = .pointer (some ⟨g3, 0, none⟩) ∧ Hid (Below w2.heap.size w2 wx ∧ EnB wx g0 (.int .i64 (eI a)) (.bool s0) (.slice ao0 n0 cap0) (.int .i64 e0) ∧ EnB wx g1 (.int .i64 (eI b)) (.bool s1) (.slice ao1 n1 cap1) (.int .i64 e1) ∧ EnB wx g2 (.int .i64 (eI c)) (.bool s2) (.slice ao2 n2 cap2) (.int .i64 e2) ∧ EnB wx g3 (.int .i64 (eI d)) (.bool s3) (.slice ao3 n3 cap3) (.int .i64 e3) ∧ EN wx (.agg #[.int .i64 (eI a), .bool s0, .slice ao0 n0 cap0, .int .i64 e0]) (eI a) (eT a) ∧ EN wx (.agg #[.int .i64 (eI b), .bool s1, .slice ao1 n1 cap1, .int .i64 e1]) (eI b) (eT b) ∧ EN wx (.agg #[.int .i64 (eI c), .bool s2, .slice ao2 n2 cap2, .int .i64 e2]) (eI c) (eT c) ∧ EN wx (.agg #[.int .i64 (eI d), .bool s3, .slice ao3 n3 cap3, .int .i64 e3]) (eI d) (eT d)))
  case first =>
    refine ends_region 4 (fun k => if k < 2 then 2 else 3) (fun k => 36 + 3 * k) (fun k => 37 + 3 * k) (fun k => 38 + 3 * k) (fun k => 6 + k) (fun k => if k < 2 then w.heap.size else w.heap.size + 1) (fun k => k % 2) (fun k => if k = 0 then a else if k = 1 then b else if k = 2 then c else d) w2 _ rfl (ord_of (by kernel_rfl)) ?_ ?_ ?_ ?_ ?_ ?_ ?_ ?_ ?_ ?_ ?_ ?_ ?_
    · intro k hk
      rcases lt48 hk with rfl | rfl | rfl | rfl
      · exact ⟨rfl, .inl rfl, fun w' hw => (HK.out w' (HB2.out.trans (hw.mono HB2.out.size))).1.1, HAB.out.1⟩
      · exact ⟨rfl, .inr rfl, fun w' hw => (HK.out w' (HB2.out.trans (hw.mono HB2.out.size))).1.2.1, HAB.out.2.1⟩
      · exact ⟨rfl, .inl rfl, fun w' hw => (HK.out w' (HB2.out.trans (hw.mono HB2.out.size))).2.1.1, HAB.out.2.2.1⟩
      · exact ⟨rfl, .inr rfl, fun w' hw => (HK.out w' (HB2.out.trans (hw.mono HB2.out.size))).2.1.2.1, HAB.out.2.2.2⟩
    · intro k hk
      rcases lt48 hk with rfl | rfl | rfl | rfl <;> decide
    · intro k hk
      rcases lt48 hk with rfl | rfl | rfl | rfl <;> exact ⟨_, rfl, rfl, rfl, rfl⟩
    · intro k hk
      rcases lt48 hk with rfl | rfl | rfl | rfl <;> exact ⟨_, rfl, rfl, rfl, rfl, ⟨_, .data⟩, by simp, rfl, rfl⟩
    · intro k hk
      rcases lt48 hk with rfl | rfl | rfl | rfl <;> exact ⟨_, rfl, rfl, ⟨_, rfl⟩, rfl, ⟨_, .data⟩, by simp, rfl, rfl⟩
    · intro k hk
      rcases lt48 hk with rfl | rfl | rfl | rfl <;> exact ⟨_, rfl, rfl, rfl, rfl⟩
    · intro k hk
      rcases lt48 hk with rfl | rfl | rfl | rfl <;> exact ⟨_, rfl, rfl, rfl, rfl, ⟨⟨_, .data⟩, by simp, rfl, rfl⟩, ⟨_, .data⟩, by simp, rfl, rfl⟩
    · show ∀ j, j < 3 * 4 → eslot (fun k => 36 + 3 * k) (fun k => 37 + 3 * k) (fun k => 38 + 3 * k) j < 91
      decide
    · show ∀ k, k < 4 → 6 + k < 91
      decide
    · decide
    · decide
    · decide
    · intro u g wx hb hk
      obtain ⟨x0, y0, cs0, z0, q0⟩ := hk 0 (by omega)
      have t0 := x0
      obtain ⟨s0, ao0, n0, cap0, e0, r0, -⟩ := t0
      have v0 : cs0 = #[.int .i64 (eI a), .bool s0, .slice ao0 n0 cap0, .int .i64 e0] := by
        have := z0.symm.trans r0
        simpa using this
      rw [v0] at q0
      rw [r0] at x0
      obtain ⟨x1, y1, cs1, z1, q1⟩ := hk 1 (by omega)
      have t1 := x1
      obtain ⟨s1, ao1, n1, cap1, e1, r1, -⟩ := t1
      have v1 : cs1 = #[.int .i64 (eI b), .bool s1, .slice ao1 n1 cap1, .int .i64 e1] := by
        have := z1.symm.trans r1
        simpa using this
      rw [v1] at q1
      rw [r1] at x1
      obtain ⟨x2, y2, cs2, z2, q2⟩ := hk 2 (by omega)
      have t2 := x2
      obtain ⟨s2, ao2, n2, cap2, e2, r2, -⟩ := t2
      have v2 : cs2 = #[.int .i64 (eI c), .bool s2, .slice ao2 n2 cap2, .int .i64 e2] := by
        have := z2.symm.trans r2
        simpa using this
      rw [v2] at q2
      rw [r2] at x2
      obtain ⟨x3, y3, cs3, z3, q3⟩ := hk 3 (by omega)
      have t3 := x3
      obtain ⟨s3, ao3, n3, cap3, e3, r3, -⟩ := t3
      have v3 : cs3 = #[.int .i64 (eI d), .bool s3, .slice ao3 n3 cap3, .int .i64 e3] := by
        have := z3.symm.trans r3
        simpa using this
      rw [v3] at q3
      rw [r3] at x3
      have HF : Hid (Below w2.heap.size w2 wx ∧ EnB wx (g 0) (.int .i64 (eI a)) (.bool s0) (.slice ao0 n0 cap0) (.int .i64 e0) ∧ EnB wx (g 1) (.int .i64 (eI b)) (.bool s1) (.slice ao1 n1 cap1) (.int .i64 e1) ∧ EnB wx (g 2) (.int .i64 (eI c)) (.bool s2) (.slice ao2 n2 cap2) (.int .i64 e2) ∧ EnB wx (g 3) (.int .i64 (eI d)) (.bool s3) (.slice ao3 n3 cap3) (.int .i64 e3) ∧ EN wx (.agg #[.int .i64 (eI a), .bool s0, .slice ao0 n0 cap0, .int .i64 e0]) (eI a) (eT a) ∧ EN wx (.agg #[.int .i64 (eI b), .bool s1, .slice ao1 n1 cap1, .int .i64 e1]) (eI b) (eT b) ∧ EN wx (.agg #[.int .i64 (eI c), .bool s2, .slice ao2 n2 cap2, .int .i64 e2]) (eI c) (eT c) ∧ EN wx (.agg #[.int .i64 (eI d), .bool s3, .slice ao3 n3 cap3, .int .i64 e3]) (eI d) (eT d)) := ⟨hb, q0, q1, q2, q3, x0, x1, x2, x3⟩
      clear hk hb x0 y0 z0 q0 r0 v0 x1 y1 z1 q1 r1 v1 x2 y2 z2 q2 r2 v2 x3 y3 z3 q3 r3 v3
      simp only [putL, eslot, show List.range (3 * 4) = [0, 1, 2, 3, 4, 5, 6, 7, 8, 9, 10, 11] from rfl, show List.range 4 = [0, 1, 2, 3] from rfl, List.map_cons, List.map_nil, List.cons_append, List.nil_append, List.foldl_cons, List.foldl_nil, Nat.reduceMod, Nat.reduceDiv, Nat.reduceMul, Nat.reduceAdd, Nat.reduceEqDiff, reduceIte, Nat.one_ne_zero, Act.put, List.setIfInBounds_toArray, List.set_cons_zero, List.set_cons_succ]
      go_wp2_with fail
      go_meet
      exact ⟨_, _, _, _, _, _, _, _, _, _, _, _, _, _, _, _, _, _, _, _, _, _, _, _, rfl, rfl, rfl, rfl, HF⟩
  case rest =>
    obtain ⟨w8, hw8⟩ : ∃ w8 : World, w8 = wc := ⟨_, rfl⟩
    subst hw8
    obtain ⟨g0, g1, g2, g3, s0, ao0, n0, cap0, e0, s1, ao1, n1, cap1, e1, s2, ao2, n2, cap2, e2, s3, ao3, n3, cap3, e3, rfl, rfl, rfl, rfl, HF⟩ := hcut
    clear HAB
    have HB8 : Hid (Below W.heap.size W w8) := HB2.out.trans (HF.out.1.mono HB2.out.size)
    have HE : Hid (EN w8 (.agg #[.int .i64 (eI a), .bool s0, .slice ao0 n0 cap0, .int .i64 e0]) (eI a) (eT a) ∧ EN w8 (.agg #[.int .i64 (eI b), .bool s1, .slice ao1 n1 cap1, .int .i64 e1]) (eI b) (eT b) ∧ EN w8 (.agg #[.int .i64 (eI c), .bool s2, .slice ao2 n2 cap2, .int .i64 e2]) (eI c) (eT c) ∧ EN w8 (.agg #[.int .i64 (eI d), .bool s3, .slice ao3 n3 cap3, .int .i64 e3]) (eI d) (eT d)) := HF.out.2.2.2.2.2
    obtain ⟨⟨a0, a1, a2, a3⟩, -⟩ := HF.out.2.1.facts
    obtain ⟨⟨b0, b1, b2, b3⟩, -⟩ := HF.out.2.2.1.facts
    obtain ⟨⟨d0, d1, d2, d3⟩, -⟩ := HF.out.2.2.2.1.facts
    obtain ⟨⟨f0, f1, f2, f3⟩, -⟩ := HF.out.2.2.2.2.1.facts
    clear c0 c1 c2 c3 c4 c5 z0 z1 z2 z3 z4 z5 HB2
    have kk := cinf_p w8
    go_wp2_with fail
    refine kk.mono ?_
    rintro r v0 ⟨rfl, rfl⟩
    have kk := cinf_m v0
    go_wp2_with fail
    refine kk.mono ?_
    rintro r v1 ⟨rfl, rfl⟩
    clear kk
    go_upto_region 8 with fail
    obtain ⟨V1, hV1⟩ : ∃ V, V = v1.alloc (.cells #[.int .i64 (eI a), .bool s0, .slice ao0 n0 cap0, .int .i64 e0, .int .i64 (eI b), .bool s1, .slice ao1 n1 cap1, .int .i64 e1] 61) := ⟨_, rfl⟩
    obtain ⟨gA, hgA⟩ : ∃ g, g = v1.heap.size := ⟨_, rfl⟩
    have HV1 : Hid (Below v1.heap.size v1 V1 ∧ V1.heap[gA]? = some (.cells #[.int .i64 (eI a), .bool s0, .slice ao0 n0 cap0, .int .i64 e0, .int .i64 (eI b), .bool s1, .slice ao1 n1 cap1, .int .i64 e1] 61 (0, 0))) := by
      rw [hV1, hgA]
      exact ⟨(Below.refl _ _).alloc (Nat.le_refl _) _, heap_alloc_new _ _⟩
    rw [← hV1, ← hgA]
    clear hV1 hgA a0 a1 a2 a3 b0 b1 b2 b3 d0 d1 d2 d3 f0 f1 f2 f3
    obtain ⟨⟨d0, d1, d2, d3⟩, -⟩ := (HF.out.2.2.2.1.box HV1.out.1).facts
    obtain ⟨⟨f0, f1, f2, f3⟩, -⟩ := (HF.out.2.2.2.2.1.box HV1.out.1).facts
    go_upto_region 9 with fail
    obtain ⟨V, hV⟩ : ∃ V, V = V1.alloc (.cells #[.int .i64 (eI c), .bool s2, .slice ao2 n2 cap2, .int .i64 e2, .int .i64 (eI d), .bool s3, .slice ao3 n3 cap3, .int .i64 e3] 61) := ⟨_, rfl⟩
    obtain ⟨gB, hgB⟩ : ∃ g, g = V1.heap.size := ⟨_, rfl⟩
    have HV : Hid (Below v1.heap.size v1 V ∧ V.heap[gA]? = some (.cells #[.int .i64 (eI a), .bool s0, .slice ao0 n0 cap0, .int .i64 e0, .int .i64 (eI b), .bool s1, .slice ao1 n1 cap1, .int .i64 e1] 61 (0, 0)) ∧ V.heap[gB]? = some (.cells #[.int .i64 (eI c), .bool s2, .slice ao2 n2 cap2, .int .i64 e2, .int .i64 (eI d), .bool s3, .slice ao3 n3 cap3, .int .i64 e3] 61 (0, 0))) := by
      rw [hV, hgB]
      refine ⟨HV1.out.1.alloc HV1.out.1.size _, ?_, heap_alloc_new _ _⟩
      exact (((Below.refl _ _).alloc (Nat.le_refl _) _).block _ (Array.getElem?_eq_some_iff.1 HV1.out.2).1).trans HV1.out.2
    rw [← hV, ← hgB]
    clear hV hgB HV1 d0 d1 d2 d3 f0 f1 f2 f3
    have HBV : Hid (Below W.heap.size W V) := HB8.out.trans (HV.out.1.mono HB8.out.size)
    have HL : Hid (∃ (ssA ssB : Nat → Bool) (ooA ooB : Nat → Option Addr) (nnA ccA nnB ccB : Nat → Nat) (eeA eeB : Nat → Int), (∀ k, k < 2 → (V.cell? ⟨gA, k * 4, none⟩ = some (.int .i64 (eI (pick8 a b k))) ∧ V.cell? ⟨gA, k * 4 + 1, none⟩ = some (.bool (ssA k)) ∧ V.cell? ⟨gA, k * 4 + 2, none⟩ = some (.slice (ooA k) (nnA k) (ccA k)) ∧ V.cell? ⟨gA, k * 4 + 3, none⟩ = some (.int .i64 (eeA k)))) ∧ (∀ k, k < 2 → (V.cell? ⟨gB, k * 4, none⟩ = some (.int .i64 (eI (pick8 c d k))) ∧ V.cell? ⟨gB, k * 4 + 1, none⟩ = some (.bool (ssB k)) ∧ V.cell? ⟨gB, k * 4 + 2, none⟩ = some (.slice (ooB k) (nnB k) (ccB k)) ∧ V.cell? ⟨gB, k * 4 + 3, none⟩ = some (.int .i64 (eeB k)))) ∧ (∀ k, k < 2 → EN V (.agg #[.int .i64 (eI (pick8 a b k)), .bool (ssA k), .slice (ooA k) (nnA k) (ccA k), .int .i64 (eeA k)]) (eI (pick8 a b k)) (eT (pick8 a b k))) ∧ ∀ k, k < 2 → EN V (.agg #[.int .i64 (eI (pick8 c d k)), .bool (ssB k), .slice (ooB k) (nnB k) (ccB k), .int .i64 (eeB k)]) (eI (pick8 c d k)) (eT (pick8 c d k))) := by
      refine ⟨fun k => if k = 0 then s0 else s1, fun k => if k = 0 then s2 else s3, fun k => if k = 0 then ao0 else ao1, fun k => if k = 0 then ao2 else ao3, fun k => if k = 0 then n0 else n1, fun k => if k = 0 then cap0 else cap1, fun k => if k = 0 then n2 else n3, fun k => if k = 0 then cap2 else cap3, fun k => if k = 0 then e0 else e1, fun k => if k = 0 then e2 else e3, ?_, ?_, ?_, ?_⟩
      · intro k hk
        rcases lt28 hk with rfl | rfl <;> (simp only [World.cell?, HV.out.2.1]; exact ⟨rfl, rfl, rfl, rfl⟩)
      · intro k hk
        rcases lt28 hk with rfl | rfl <;> (simp only [World.cell?, HV.out.2.2]; exact ⟨rfl, rfl, rfl, rfl⟩)
      · intro k hk
        rcases lt28 hk with rfl | rfl
        · exact HE.out.1.later HV.out.1
        · exact HE.out.2.1.later HV.out.1
      · intro k hk
        rcases lt28 hk with rfl | rfl
        · exact HE.out.2.2.1.later HV.out.1
        · exact HE.out.2.2.2.later HV.out.1
    clear HV HE HF HB8
    obtain ⟨ssA, ssB, ooA, ooB, nnA, ccA, nnB, ccB, eeA, eeB, hcA, hcB, hEA, hEB⟩ := HL.out
    clear HL
    have HC : Hid (∀ w', Below V.heap.size V w' → (∀ k, k < 2 → (w'.cell? ⟨gA, k * 4, none⟩ = some (.int .i64 (eI (pick8 a b k))) ∧ w'.cell? ⟨gA, k * 4 + 1, none⟩ = some (.bool (ssA k)) ∧ w'.cell? ⟨gA, k * 4 + 2, none⟩ = some (.slice (ooA k) (nnA k) (ccA k)) ∧ w'.cell? ⟨gA, k * 4 + 3, none⟩ = some (.int .i64 (eeA k)))) ∧ ∀ k, k < 2 → (w'.cell? ⟨gB, k * 4, none⟩ = some (.int .i64 (eI (pick8 c d k))) ∧ w'.cell? ⟨gB, k * 4 + 1, none⟩ = some (.bool (ssB k)) ∧ w'.cell? ⟨gB, k * 4 + 2, none⟩ = some (.slice (ooB k) (nnB k) (ccB k)) ∧ w'.cell? ⟨gB, k * 4 + 3, none⟩ = some (.int .i64 (eeB k)))) := fun w' hb => ⟨fun k hk => ⟨(hb.cell (World.block_lt_of_cell? _ _ (hcA k hk).1)).trans (hcA k hk).1, (hb.cell (World.block_lt_of_cell? _ _ (hcA k hk).2.1)).trans (hcA k hk).2.1, (hb.cell (World.block_lt_of_cell? _ _ (hcA k hk).2.2.1)).trans (hcA k hk).2.2.1, (hb.cell (World.block_lt_of_cell? _ _ (hcA k hk).2.2.2)).trans (hcA k hk).2.2.2⟩, fun k hk => ⟨(hb.cell (World.block_lt_of_cell? _ _ (hcB k hk).1)).trans (hcB k hk).1, (hb.cell (World.block_lt_of_cell? _ _ (hcB k hk).2.1)).trans (hcB k hk).2.1, (hb.cell (World.block_lt_of_cell? _ _ (hcB k hk).2.2.1)).trans (hcB k hk).2.2.1, (hb.cell (World.block_lt_of_cell? _ _ (hcB k hk).2.2.2)).trans (hcB k hk).2.2.2⟩⟩
    obtain ⟨hX, hY, hs1, hs2⟩ := HXY.out (by simp) (by simp)
    have HQ : Hid (pl (lowF (rK a b c d 1) 4) = X ∧ pl (hiF (rK a b c d 3) 4) = Y) := ⟨hX, hY⟩
    have HR : Hid (∀ k l : Nat, ∀ m : Int, k < 2 → l < 2 → (1 ≤ m ∧ m ≤ 3) → ∀ W', Below V.heap.size V W' → Calls Tryz.prog 46 #[.agg #[.int .i64 (eI (pick8 a b k)), .bool (ssA k), .slice (ooA k) (nnA k) (ccA k), .int .i64 (eeA k)], .agg #[.int .i64 (eI (pick8 c d l)), .bool (ssB l), .slice (ooB l) (nnB l) (ccB l), .int .i64 (eeB l)], .int .i64 m] W' fun r w' => r = .returned (.float .f64 (rK a b c d m (2 * k + l))) ∧ Below V.heap.size V w') := fun k l m hk hl hm W' hb => by
      have e : rK a b c d m (2 * k + l) = raF (eI (pick8 a b k)) (eI (pick8 c d l)) (eT (pick8 a b k)) (eT (pick8 c d l)) m := by
        rcases lt28 hk with rfl | rfl <;> rcases lt28 hl with rfl | rfl <;> rfl
      rw [e]
      exact (dratioE (eI_b _) (eI_b _) (eT_ok _) (eT_ok _) ((hEA k hk).later hb) ((hEB l hl).later hb) hm (by rcases lt28 hl with rfl | rfl; exact hs1; exact hs2)).mono fun r w' ⟨e1, e2⟩ => ⟨e1, hb.trans (e2.mono hb.size)⟩
    have HLO : Hid (∀ n, lowF (rK a b c d 1) n < 18446744073709551616 ∧ isNaN (lowF (rK a b c d 1) n) = false) := lowF_ok (fun i => raF_ok _ _ _ _ (by omega))
    have HHI : Hid (∀ n, hiF (rK a b c d 3) n < 18446744073709551616 ∧ isNaN (hiF (rK a b c d 3) n) = false) := hiF_ok (fun i => raF_ok _ _ _ _ (by omega))
    have HRK : Hid (∀ k m, (1 ≤ m ∧ m ≤ 3) → rK a b c d m k < 18446744073709551616 ∧ isNaN (rK a b c d m k) = false) := fun k m hm => raF_ok _ _ _ _ hm
    clear hcA hcB hEA hEB hX hY hs1 hs2 HXY
    go_wp2
    go_loopw [10, 11, 14, 15] (fun lo hi i k wr => ∃ n : Nat, n ≤ 2 ∧ lo = .float .f64 (lowF (rK a b c d 1) (2 * n)) ∧ hi = .float .f64 (hiF (rK a b c d 3) (2 * n)) ∧ i = .int .i64 n ∧ Hid (Below V.heap.size V wr)) (fun _ _ i _ _ => 2 - (intOf i).toNat)
    case atStart => exact ⟨0, by omega, rfl, rfl, rfl, Below.refl _ _⟩
    case round =>
      obtain ⟨n, hn, rfl, rfl, rfl, HB⟩ := hrel
      by_cases hn2 : n < 2
      · have hni : (n : Int) < 2 := by omega
        go_wp2
        go_loopw [10, 11, 15] (fun lo hi k wx => ∃ q : Nat, q ≤ 2 ∧ lo = .float .f64 (lowF (rK a b c d 1) (2 * n + q)) ∧ hi = .float .f64 (hiF (rK a b c d 3) (2 * n + q)) ∧ k = .int .i64 q ∧ Hid (Below V.heap.size V wx)) (fun _ _ k _ => 2 - (intOf k).toNat)
        case atStart => exact ⟨0, by omega, rfl, rfl, rfl, HB⟩
        case round =>
          obtain ⟨q, hq, rfl, rfl, rfl, HBq⟩ := hrel
          by_cases hq2 : q < 2
          · have hqi : (q : Int) < 2 := by omega
            have HS : Hid (∀ w', Below V.heap.size V w' → (w'.cell? ⟨gA, n * 4, none⟩ = some (.int .i64 (eI (pick8 a b n))) ∧ w'.cell? ⟨gA, n * 4 + 1, none⟩ = some (.bool (ssA n)) ∧ w'.cell? ⟨gA, n * 4 + 2, none⟩ = some (.slice (ooA n) (nnA n) (ccA n)) ∧ w'.cell? ⟨gA, n * 4 + 3, none⟩ = some (.int .i64 (eeA n))) ∧ (w'.cell? ⟨gB, q * 4, none⟩ = some (.int .i64 (eI (pick8 c d q))) ∧ w'.cell? ⟨gB, q * 4 + 1, none⟩ = some (.bool (ssB q)) ∧ w'.cell? ⟨gB, q * 4 + 2, none⟩ = some (.slice (ooB q) (nnB q) (ccB q)) ∧ w'.cell? ⟨gB, q * 4 + 3, none⟩ = some (.int .i64 (eeB q)))) := fun w' hb => ⟨(HC.out w' hb).1 n hn2, (HC.out w' hb).2 q hq2⟩
            have k1 := HR.out n q 1 hn2 hq2 (by omega)
            have k3 := HR.out n q 3 hn2 hq2 (by omega)
            have q1 : ∀ W', Below V.heap.size V W' → Calls Tryz.prog 45 #[.float .f64 (lowF (rK a b c d 1) (2 * n + q)), .float .f64 (rK a b c d 1 (2 * n + q))] W' fun r w' => r = .returned (.float .f64 (lowF (rK a b c d 1) (2 * n + (q + 1)))) ∧ Below V.heap.size V w' := fun W' hb => (dmin _ _ W' (HLO.out _).1 (HRK.out _ 1 (by omega)).1 (HLO.out _).2 (HRK.out _ 1 (by omega)).2).mono fun r w' ⟨e1, e2⟩ => ⟨e1, by rw [e2]; exact hb⟩
            have q3 : ∀ W', Below V.heap.size V W' → Calls Tryz.prog 47 #[.float .f64 (hiF (rK a b c d 3) (2 * n + q)), .float .f64 (rK a b c d 3 (2 * n + q))] W' fun r w' => r = .returned (.float .f64 (hiF (rK a b c d 3) (2 * n + (q + 1)))) ∧ Below V.heap.size V w' := fun W' hb => (dmax _ _ W' (HHI.out _).1 (HRK.out _ 3 (by omega)).1 (HHI.out _).2 (HRK.out _ 3 (by omega)).2).mono fun r w' ⟨e1, e2⟩ => ⟨e1, by rw [e2]; exact hb⟩
            have HG : Hid (∃ l0 l1 h0 h1, l0 = lowF (rK a b c d 1) (2 * n + q) ∧ l1 = lowF (rK a b c d 1) (2 * n + (q + 1)) ∧ h0 = hiF (rK a b c d 3) (2 * n + q) ∧ h1 = hiF (rK a b c d 3) (2 * n + (q + 1))) := ⟨_, _, _, _, rfl, rfl, rfl, rfl⟩
            obtain ⟨l0, l1, h0, h1, g1, g2, g3', g4⟩ := HG.out
            rw [← g1, ← g2] at q1
            rw [← g3', ← g4] at q3
            rw [← g1, ← g3']
            have HGG : Hid (l1 = lowF (rK a b c d 1) (2 * n + (q + 1)) ∧ h1 = hiF (rK a b c d 3) (2 * n + (q + 1))) := ⟨g2, g4⟩
            generalize rK a b c d 1 (2 * n + q) = r1 at k1 q1
            generalize rK a b c d 3 (2 * n + q) = r3 at k3 q3
            clear g1 g2 g3' g4 HG
            obtain ⟨⟨a0, a1, a2, a3⟩, b0, b1, b2, b3⟩ := HS.out wr HBq.out
            have hR : Below V.heap.size V wr.drew := HBq.out.drew
            go_upto_region 15 with fail
            go_region_held3 (fun w' => (w'.cell? ⟨gA, n * 4, none⟩ = some (.int .i64 (eI (pick8 a b n))) ∧ w'.cell? ⟨gA, n * 4 + 1, none⟩ = some (.bool (ssA n)) ∧ w'.cell? ⟨gA, n * 4 + 2, none⟩ = some (.slice (ooA n) (nnA n) (ccA n)) ∧ w'.cell? ⟨gA, n * 4 + 3, none⟩ = some (.int .i64 (eeA n))) ∧ (w'.cell? ⟨gB, q * 4, none⟩ = some (.int .i64 (eI (pick8 c d q))) ∧ w'.cell? ⟨gB, q * 4 + 1, none⟩ = some (.bool (ssB q)) ∧ w'.cell? ⟨gB, q * 4 + 2, none⟩ = some (.slice (ooB q) (nnB q) (ccB q)) ∧ w'.cell? ⟨gB, q * 4 + 3, none⟩ = some (.int .i64 (eeB q)))) (first | (with_reducible assumption) | (with_reducible exact HS.out _ hR) | (with_reducible refine HS.out _ ?_; with_reducible assumption) | go_keep)
              (first | (go_at_call 46; with_reducible refine (k1 _ (by first | (with_reducible assumption) | exact hR)).mono ?_; rintro r v2 ⟨rfl, B⟩)
                     | (go_at_call 45; with_reducible refine (q1 _ (by with_reducible assumption)).mono ?_; rintro r v3 ⟨rfl, hq'⟩; replace B := hq'; clear hq'))
            have HB3 : Hid (Below V.heap.size V v3) := B
            clear B hR k1 q1 a0 a1 a2 a3 b0 b1 b2 b3
            obtain ⟨⟨a0, a1, a2, a3⟩, b0, b1, b2, b3⟩ := HS.out v3 HB3.out
            have hR : Below V.heap.size V v3.drew := HB3.out.drew
            go_upto_region 16 with fail
            go_region_held3 (fun w' => (w'.cell? ⟨gA, n * 4, none⟩ = some (.int .i64 (eI (pick8 a b n))) ∧ w'.cell? ⟨gA, n * 4 + 1, none⟩ = some (.bool (ssA n)) ∧ w'.cell? ⟨gA, n * 4 + 2, none⟩ = some (.slice (ooA n) (nnA n) (ccA n)) ∧ w'.cell? ⟨gA, n * 4 + 3, none⟩ = some (.int .i64 (eeA n))) ∧ (w'.cell? ⟨gB, q * 4, none⟩ = some (.int .i64 (eI (pick8 c d q))) ∧ w'.cell? ⟨gB, q * 4 + 1, none⟩ = some (.bool (ssB q)) ∧ w'.cell? ⟨gB, q * 4 + 2, none⟩ = some (.slice (ooB q) (nnB q) (ccB q)) ∧ w'.cell? ⟨gB, q * 4 + 3, none⟩ = some (.int .i64 (eeB q)))) (first | (with_reducible assumption) | (with_reducible exact HS.out _ hR) | (with_reducible refine HS.out _ ?_; with_reducible assumption) | go_keep)
              (first | (go_at_call 46; with_reducible refine (k3 _ (by first | (with_reducible assumption) | exact hR)).mono ?_; rintro r v4 ⟨rfl, B⟩)
                     | (go_at_call 47; with_reducible refine (q3 _ (by with_reducible assumption)).mono ?_; rintro r v5 ⟨rfl, hq'⟩; replace B := hq'; clear hq'))
            have HB5 : Hid (Below V.heap.size V v5) := B
            clear B hR k3 q3 a0 a1 a2 a3 b0 b1 b2 b3 HS HB3
            go_wp2
            exact ⟨⟨q + 1, by omega, by rw [HGG.out.1], by rw [HGG.out.2], by simp, HB5⟩, by simp [intOf]; omega⟩
          · obtain rfl : q = 2 := by omega
            go_wp2
            exact ⟨⟨n + 1, by omega, rfl, rfl, by simp, HBq⟩, by simp [intOf]; omega⟩
      · obtain rfl : n = 2 := by omega
        have hb4 := HBV.out.trans (HB.out.mono HBV.out.size)
        have kl := dpl (lowF (rK a b c d 1) (2 * 2)) (HLO.out _).1 wr
        have kh := dpl (hiF (rK a b c d 3) (2 * 2)) (HHI.out _).1 wr
        have eX : pl (lowF (rK a b c d 1) (2 * 2)) = X := HQ.out.1
        have eY : pl (hiF (rK a b c d 3) (2 * 2)) = Y := HQ.out.2
        rw [eX] at kl
        rw [eY] at kh
        generalize lowF (rK a b c d 1) (2 * 2) = l4 at *
        generalize hiF (rK a b c d 3) (2 * 2) = h4 at *
        obtain ⟨-, -, x0, x1, x2, x3⟩ := HK.out wr hb4
        have HBf : Hid (Below w.heap.size w wr) := HX.out.1.trans (hb4.mono HX.out.1.size)
        have HR8 : Hid (IvB wr (w.heap.size + 1 + 1) 0 0) := HX.out.2.2.2.box hb4
        clear HC HR HLO HHI HRK HQ hb4 HK HX eX eY HBV
        go_wp2_with fail
        refine kl.mono ?_
        rintro r v2 ⟨rfl, rfl⟩
        clear kl
        go_wp2_with fail
        refine kh.mono ?_
        rintro r v3 ⟨rfl, rfl⟩
        clear kh
        go_wp2_with fail
        refine bodyPost_ret (results_cell_tmp_row rfl _ _ (w.heap.size + 1 + 1) 24 #[.float .f64 X, .float .f64 Y] (0, 0) _ rfl (HR8.out.set _ _) Tryz.underlying24 rfl iv_info) rfl ?_
        first | exact ⟨rfl, below_store2 HBf.out (by omega) _ _⟩ | exact ⟨rfl, (below_store2 HBf.out (by omega) _ _).drew⟩
end Go.Proofs.YtcoclopllbfjcaaGreatDoor
/- SpanProducts. -/
namespace Go.Proofs.YtcoclopllbfjcaaGreatDoor
set_option linter.unusedVariables false
set_option linter.unusedSimpArgs false
open Go.RowKit Go.Fl64
attribute [local go_sem] run_store_flt

theorem rK_div {a b c d : Nat} (ha : a < 18446744073709551616) (hb : b < 18446744073709551616) (hc : c < 18446744073709551616) (hd : d < 18446744073709551616) (na : isNaN a = false) (nb : isNaN b = false) (nc : isNaN c = false) (nd : isNaN d = false) (c0 : mag c ≠ 0) (d0 : mag d ≠ 0) {m : Int} (hm : 1 ≤ m ∧ m ≤ 3) : ∀ k, k < 4 → rK a b c d m k = pl (onF (fDiv (pk4 a a b b k) (pk4 c d c d k) m)) := fun k hk => by
  rcases lt48 hk with rfl | rfl | rfl | rfl
  · exact raF_div ha hc na nc hm c0
  · exact raF_div ha hd na nd hm d0
  · exact raF_div hb hc nb nc hm c0
  · exact raF_div hb hd nb nd hm d0
theorem quo_low {a b c d : Nat} (ha : a < 18446744073709551616) (hb : b < 18446744073709551616) (hc : c < 18446744073709551616) (hd : d < 18446744073709551616) (na : isNaN a = false) (nb : isNaN b = false) (nc : isNaN c = false) (nd : isNaN d = false) (c0 : mag c ≠ 0) (d0 : mag d ≠ 0) : pl (lowF (rK a b c d 1) 4) = qlo a b c d := by
  have hp := rK_div ha hb hc hd na nb nc nd c0 d0 (m := 1) (by omega)
  have hs : ∀ k, k < 4 → stp (rK a b c d 1 k) = stp (onF (fDiv (pk4 a a b b k) (pk4 c d c d k) 1)) := fun k hk => by rw [hp k hk, pl_stp]
  refine stp_inj (pl_lt (lowF_ok (fun i => raF_ok _ _ _ _ (by omega)) 4).1) (pl_lt (lowF_ok (D := fun i => onF (fDiv (pk4 a a b b i) (pk4 c d c d i) 1)) (fun i => onF_ok fDiv_lt) 4).1) ?_ (pl_nZ _) (pl_nZ _)
  unfold qlo
  rw [pl_stp, pl_stp]
  simp only [lowF, fMin_stp]
  rw [hs 0 (by omega), hs 1 (by omega), hs 2 (by omega), hs 3 (by omega)]
theorem quo_high {a b c d : Nat} (ha : a < 18446744073709551616) (hb : b < 18446744073709551616) (hc : c < 18446744073709551616) (hd : d < 18446744073709551616) (na : isNaN a = false) (nb : isNaN b = false) (nc : isNaN c = false) (nd : isNaN d = false) (c0 : mag c ≠ 0) (d0 : mag d ≠ 0) : pl (hiF (rK a b c d 3) 4) = qhi a b c d := by
  have hp := rK_div ha hb hc hd na nb nc nd c0 d0 (m := 3) (by omega)
  have hs : ∀ k, k < 4 → stp (rK a b c d 3 k) = stp (onF (fDiv (pk4 a a b b k) (pk4 c d c d k) 3)) := fun k hk => by rw [hp k hk, pl_stp]
  refine stp_inj (pl_lt (hiF_ok (fun i => raF_ok _ _ _ _ (by omega)) 4).1) (pl_lt (hiF_ok (D := fun i => onF (fDiv (pk4 a a b b i) (pk4 c d c d i) 3)) (fun i => onF_ok fDiv_lt) 4).1) ?_ (pl_nZ _) (pl_nZ _)
  unfold qhi
  rw [pl_stp, pl_stp]
  simp only [hiF, fMax_stp]
  rw [hs 0 (by omega), hs 1 (by omega), hs 2 (by omega), hs 3 (by omega)]
theorem no_zero8 {c d : Nat} (v : vI c d = true) (h : (le c 0 && le 0 d) = false) : mag c ≠ 0 ∧ mag d ≠ 0 := by
  obtain ⟨nc, nd⟩ := vI_nn v
  have hs : stp c ≤ stp d := by
    unfold vI le at v
    simp only [Bool.and_eq_true, decide_eq_true_eq] at v
    exact v.1.1.1.1.2
  have n0 : isNaN 0 = false := by decide
  have s0 : stp 0 = 0 := by decide
  have key : ¬ (stp c ≤ 0 ∧ 0 ≤ stp d) := by
    rintro ⟨h1, h2⟩
    unfold le at h
    rw [nc, nd, n0, s0, decide_eq_true h1, decide_eq_true h2] at h
    simp at h
  have zs : ∀ x, mag x = 0 → stp x = 0 := fun x hx => by unfold stp sgn; rw [hx]; cases neg x <;> rfl
  constructor
  · intro hz
    have := zs c hz
    omega
  · intro hz
    have := zs d hz
    omega
theorem quo_z (a b c d x y : Nat) : quoV (vI a b && vI c d) (le c 0 && le 0 d) x y = quoV (vI a b && vI c d) (hI c d 0) x y := by
  unfold hI
  cases vI c d
  · rw [Bool.and_false]; rfl
  · rw [show lt 9218868437227405311 (mag 0) = false by decide]
    simp only [Bool.not_false, Bool.true_and]
/-- the document's Quo is the program's -/
theorem dquo8 (a b c d : Nat) (w : World) (ha : a < 18446744073709551616) (hb : b < 18446744073709551616) (hc : c < 18446744073709551616) (hd : d < 18446744073709551616) : Calls Tryz.prog 11 #[.agg #[.float .f64 a, .float .f64 b], .agg #[.float .f64 c, .float .f64 d]] w fun r w' => r = .returned (quoV (vI a b && vI c d) (hI c d 0) (qlo a b c d) (qhi a b c d)) ∧ Below w.heap.size w w' :=
  (quo_z a b c d (qlo a b c d) (qhi a b c d)) ▸ dquo8_1 a b c d _ _ (le c 0) (le 0 d) (le c 0 && le 0 d) w ha hb hc hd (ord_le c 0 hc (by omega)) (ord_ge d 0 hd (by omega)) rfl (fun v z => by
    rw [Bool.and_eq_true] at v
    obtain ⟨na, nb⟩ := vI_nn v.1
    obtain ⟨nc, nd⟩ := vI_nn v.2
    obtain ⟨c0, d0⟩ := no_zero8 v.2 z
    have sc := sgn8 hc nc
    have sd := sgn8 hd nd
    rw [if_neg c0] at sc
    rw [if_neg d0] at sd
    exact ⟨quo_low ha hb hc hd na nb nc nd c0 d0, quo_high ha hb hc hd na nb nc nd c0 d0, by rw [sc]; cases neg c <;> simp, by rw [sd]; cases neg d <;> simp⟩)
theorem quoV_iv (v z : Bool) (x y : Nat) : quoV v z x y = .tuple #[.agg #[.float .f64 (if v && !z then x else 0), .float .f64 (if v && !z then y else 0)], .int .i64 (if v then (if z then 6 else 0) else 1)] := by
  cases v <;> cases z <;> rfl
set_option maxHeartbeats 16000000 in
set_option maxRecDepth 200000 in
theorem prods8_1 (a b c d x1 y1 x2 y2 : Nat) (f1 f2 : Int) (w : World)
    (k1 : ∀ W, Below w.heap.size w W → Calls Tryz.prog 8 #[.agg #[.float .f64 a, .float .f64 b], .agg #[.float .f64 c, .float .f64 d]] W fun r w' => r = .returned (.tuple #[.agg #[.float .f64 x1, .float .f64 y1], .int .i64 f1]) ∧ Below W.heap.size W w')
    (k2 : ∀ W, Below w.heap.size w W → Calls Tryz.prog 9 #[.agg #[.float .f64 a, .float .f64 b], .agg #[.float .f64 c, .float .f64 d]] W fun r w' => r = .returned (.tuple #[.agg #[.float .f64 x1, .float .f64 y1], .int .i64 f1]) ∧ Below W.heap.size W w')
    (k3 : ∀ W, Below w.heap.size w W → Calls Tryz.prog 10 #[.agg #[.float .f64 a, .float .f64 b], .agg #[.float .f64 c, .float .f64 d]] W fun r w' => r = .returned (.tuple #[.agg #[.float .f64 x2, .float .f64 y2], .int .i64 f2]) ∧ Below W.heap.size W w')
    (k4 : ∀ W, Below w.heap.size w W → Calls Tryz.prog 11 #[.agg #[.float .f64 a, .float .f64 b], .agg #[.float .f64 c, .float .f64 d]] W fun r w' => r = .returned (.tuple #[.agg #[.float .f64 x2, .float .f64 y2], .int .i64 f2]) ∧ Below W.heap.size W w')
    (m1 : ∀ W, Below w.heap.size w W → Calls Tryz.prog 12 #[.agg #[.float .f64 x1, .float .f64 y1], .agg #[.float .f64 x1, .float .f64 y1]] W fun r w' => r = .returned (.bool true) ∧ Below W.heap.size W w')
    (m2 : ∀ W, Below w.heap.size w W → Calls Tryz.prog 12 #[.agg #[.float .f64 x2, .float .f64 y2], .agg #[.float .f64 x2, .float .f64 y2]] W fun r w' => r = .returned (.bool true) ∧ Below W.heap.size W w')
    (m3 : ∀ W, Below w.heap.size w W → Calls Tryz.prog 13 #[] W fun r w' => r = .returned (.bool true) ∧ Below W.heap.size W w') :
    Calls Tryz.prog 3 #[.agg #[.float .f64 a, .float .f64 b], .agg #[.float .f64 c, .float .f64 d]] w fun r w' => r = .returned (.bool true) ∧ Below w.heap.size w w' := by
  have fe1 : (f1 == f1) = true := by simp
  have fe2 : (f2 == f2) = true := by simp
  have Hk1 : Hid (∀ W, Below w.heap.size w W → Calls Tryz.prog 8 #[.agg #[.float .f64 a, .float .f64 b], .agg #[.float .f64 c, .float .f64 d]] W fun r w' => r = .returned (.tuple #[.agg #[.float .f64 x1, .float .f64 y1], .int .i64 f1]) ∧ Below W.heap.size W w') := k1
  have Hk2 : Hid (∀ W, Below w.heap.size w W → Calls Tryz.prog 9 #[.agg #[.float .f64 a, .float .f64 b], .agg #[.float .f64 c, .float .f64 d]] W fun r w' => r = .returned (.tuple #[.agg #[.float .f64 x1, .float .f64 y1], .int .i64 f1]) ∧ Below W.heap.size W w') := k2
  have Hk3 : Hid (∀ W, Below w.heap.size w W → Calls Tryz.prog 10 #[.agg #[.float .f64 a, .float .f64 b], .agg #[.float .f64 c, .float .f64 d]] W fun r w' => r = .returned (.tuple #[.agg #[.float .f64 x2, .float .f64 y2], .int .i64 f2]) ∧ Below W.heap.size W w') := k3
  have Hk4 : Hid (∀ W, Below w.heap.size w W → Calls Tryz.prog 11 #[.agg #[.float .f64 a, .float .f64 b], .agg #[.float .f64 c, .float .f64 d]] W fun r w' => r = .returned (.tuple #[.agg #[.float .f64 x2, .float .f64 y2], .int .i64 f2]) ∧ Below W.heap.size W w') := k4
  have Hm1 : Hid (∀ W, Below w.heap.size w W → Calls Tryz.prog 12 #[.agg #[.float .f64 x1, .float .f64 y1], .agg #[.float .f64 x1, .float .f64 y1]] W fun r w' => r = .returned (.bool true) ∧ Below W.heap.size W w') := m1
  have Hm2 : Hid (∀ W, Below w.heap.size w W → Calls Tryz.prog 12 #[.agg #[.float .f64 x2, .float .f64 y2], .agg #[.float .f64 x2, .float .f64 y2]] W fun r w' => r = .returned (.bool true) ∧ Below W.heap.size W w') := m2
  have Hm3 : Hid (∀ W, Below w.heap.size w W → Calls Tryz.prog 13 #[] W fun r w' => r = .returned (.bool true) ∧ Below W.heap.size W w') := m3
  obtain ⟨W, hW⟩ : ∃ W, W = ((w.alloc (.cells #[.float .f64 a, .float .f64 b] 24)).alloc (.cells #[.float .f64 c, .float .f64 d] 24)) := ⟨_, rfl⟩
  have HX : Hid (Below w.heap.size w W ∧ IvB W (w.heap.size) a b ∧ IvB W (w.heap.size + 1) c d) := by
    rw [hW]
    exact ⟨bxs2_0 w a b c d, bxs2_1 w a b c d, bxs2_2 w a b c d⟩
  have HK : Hid (∀ w', Below W.heap.size W w' → IvF w' (w.heap.size) a b ∧ IvF w' (w.heap.size + 1) c d) := fun w' hb => ⟨(HX.out.2.1).later hb, (HX.out.2.2).later hb⟩
  have AW : Hid (Below w.heap.size w W) := HX.out.1
  have BW_W : Hid (Below W.heap.size W W) := Below.refl _ _
  clear k1 k2 k3 k4 m1 m2 m3
  go_enter Tryz.func3, Tryz.ntmps3
  go_upto_region 1 with fail
  rw [← hW]
  clear hW
  obtain ⟨⟨c0, c1, z0, z1⟩, ⟨c2, c3, z2, z3⟩⟩ := HK.out W BW_W.out
  clear z0 z1 z2 z3
  have kk := Hk1.out W AW.out
  clear Hk1
  go_wp2_with fail
  clear c0 c1 c2 c3
  refine kk.mono ?_
  rintro r w1 ⟨rfl, hb⟩
  clear kk
  have Aw1 : Hid (Below w.heap.size w w1) := AW.out.trans (hb.mono AW.out.size)
  have BW_w1 : Hid (Below W.heap.size W w1) := BW_W.out.trans (hb.mono BW_W.out.size)
  clear hb AW BW_W 
  obtain ⟨V1, hV1⟩ : ∃ V, V = w1.alloc (.cells #[.float .f64 x1, .float .f64 y1] 24) := ⟨_, rfl⟩
  have AV1 : Hid (Below w.heap.size w V1) := by rw [hV1]; exact Aw1.out.alloc Aw1.out.size _
  have BW_V1 : Hid (Below W.heap.size W V1) := by rw [hV1]; exact BW_w1.out.alloc BW_w1.out.size _
  have XV1 : Hid (IvB V1 w1.heap.size x1 y1) := by rw [hV1]; exact IvB.new _ _ _
  have BV1_V1 : Hid (Below V1.heap.size V1 V1) := Below.refl _ _
  clear Aw1 BW_w1 
  obtain ⟨⟨c0, c1, z0, z1⟩, ⟨c2, c3, z2, z3⟩⟩ := HK.out V1 BW_V1.out
  rw [hV1] at c0 c1 c2 c3
  clear z0 z1 z2 z3
  have kk := Hk2.out V1 AV1.out
  clear Hk2
  go_wp2_with fail
  rw [← hV1]
  clear hV1
  generalize hgV1 : w1.heap.size = gV1 at *
  clear hgV1
  clear c0 c1 c2 c3
  refine kk.mono ?_
  rintro r w2 ⟨rfl, hb⟩
  clear kk
  have Aw2 : Hid (Below w.heap.size w w2) := AV1.out.trans (hb.mono AV1.out.size)
  have BW_w2 : Hid (Below W.heap.size W w2) := BW_V1.out.trans (hb.mono BW_V1.out.size)
  have BV1_w2 : Hid (Below V1.heap.size V1 w2) := BV1_V1.out.trans (hb.mono BV1_V1.out.size)
  clear hb AV1 BW_V1 BV1_V1
  obtain ⟨V2, hV2⟩ : ∃ V, V = w2.alloc (.cells #[.float .f64 x1, .float .f64 y1] 24) := ⟨_, rfl⟩
  have AV2 : Hid (Below w.heap.size w V2) := by rw [hV2]; exact Aw2.out.alloc Aw2.out.size _
  have BW_V2 : Hid (Below W.heap.size W V2) := by rw [hV2]; exact BW_w2.out.alloc BW_w2.out.size _
  have XV2 : Hid (IvB V2 w2.heap.size x1 y1) := by rw [hV2]; exact IvB.new _ _ _
  have BV1_V2 : Hid (Below V1.heap.size V1 V2) := by rw [hV2]; exact BV1_w2.out.alloc BV1_w2.out.size _
  have BV2_V2 : Hid (Below V2.heap.size V2 V2) := Below.refl _ _
  clear Aw2 BW_w2 BV1_w2
  obtain ⟨⟨c0, c1, z0, z1⟩, ⟨c2, c3, z2, z3⟩⟩ := HK.out V2 BW_V2.out
  rw [hV2] at c0 c1 c2 c3
  clear z0 z1 z2 z3
  have kk := Hk3.out V2 AV2.out
  clear Hk3
  go_wp2_with fail
  rw [← hV2]
  clear hV2
  generalize hgV2 : w2.heap.size = gV2 at *
  clear hgV2
  clear c0 c1 c2 c3
  refine kk.mono ?_
  rintro r w3 ⟨rfl, hb⟩
  clear kk
  have Aw3 : Hid (Below w.heap.size w w3) := AV2.out.trans (hb.mono AV2.out.size)
  have BW_w3 : Hid (Below W.heap.size W w3) := BW_V2.out.trans (hb.mono BW_V2.out.size)
  have BV1_w3 : Hid (Below V1.heap.size V1 w3) := BV1_V2.out.trans (hb.mono BV1_V2.out.size)
  have BV2_w3 : Hid (Below V2.heap.size V2 w3) := BV2_V2.out.trans (hb.mono BV2_V2.out.size)
  clear hb AV2 BW_V2 BV1_V2 BV2_V2
  obtain ⟨V3, hV3⟩ : ∃ V, V = w3.alloc (.cells #[.float .f64 x2, .float .f64 y2] 24) := ⟨_, rfl⟩
  have AV3 : Hid (Below w.heap.size w V3) := by rw [hV3]; exact Aw3.out.alloc Aw3.out.size _
  have BW_V3 : Hid (Below W.heap.size W V3) := by rw [hV3]; exact BW_w3.out.alloc BW_w3.out.size _
  have XV3 : Hid (IvB V3 w3.heap.size x2 y2) := by rw [hV3]; exact IvB.new _ _ _
  have BV1_V3 : Hid (Below V1.heap.size V1 V3) := by rw [hV3]; exact BV1_w3.out.alloc BV1_w3.out.size _
  have BV2_V3 : Hid (Below V2.heap.size V2 V3) := by rw [hV3]; exact BV2_w3.out.alloc BV2_w3.out.size _
  have BV3_V3 : Hid (Below V3.heap.size V3 V3) := Below.refl _ _
  clear Aw3 BW_w3 BV1_w3 BV2_w3
  obtain ⟨⟨c0, c1, z0, z1⟩, ⟨c2, c3, z2, z3⟩⟩ := HK.out V3 BW_V3.out
  rw [hV3] at c0 c1 c2 c3
  clear z0 z1 z2 z3
  have kk := Hk4.out V3 AV3.out
  clear Hk4
  go_wp2_with fail
  rw [← hV3]
  clear hV3
  generalize hgV3 : w3.heap.size = gV3 at *
  clear hgV3
  clear c0 c1 c2 c3
  refine kk.mono ?_
  rintro r w4 ⟨rfl, hb⟩
  clear kk
  have Aw4 : Hid (Below w.heap.size w w4) := AV3.out.trans (hb.mono AV3.out.size)
  have BW_w4 : Hid (Below W.heap.size W w4) := BW_V3.out.trans (hb.mono BW_V3.out.size)
  have BV1_w4 : Hid (Below V1.heap.size V1 w4) := BV1_V3.out.trans (hb.mono BV1_V3.out.size)
  have BV2_w4 : Hid (Below V2.heap.size V2 w4) := BV2_V3.out.trans (hb.mono BV2_V3.out.size)
  have BV3_w4 : Hid (Below V3.heap.size V3 w4) := BV3_V3.out.trans (hb.mono BV3_V3.out.size)
  clear hb AV3 BW_V3 BV1_V3 BV2_V3 BV3_V3
  obtain ⟨V4, hV4⟩ : ∃ V, V = w4.alloc (.cells #[.float .f64 x2, .float .f64 y2] 24) := ⟨_, rfl⟩
  have AV4 : Hid (Below w.heap.size w V4) := by rw [hV4]; exact Aw4.out.alloc Aw4.out.size _
  have BW_V4 : Hid (Below W.heap.size W V4) := by rw [hV4]; exact BW_w4.out.alloc BW_w4.out.size _
  have XV4 : Hid (IvB V4 w4.heap.size x2 y2) := by rw [hV4]; exact IvB.new _ _ _
  have BV1_V4 : Hid (Below V1.heap.size V1 V4) := by rw [hV4]; exact BV1_w4.out.alloc BV1_w4.out.size _
  have BV2_V4 : Hid (Below V2.heap.size V2 V4) := by rw [hV4]; exact BV2_w4.out.alloc BV2_w4.out.size _
  have BV3_V4 : Hid (Below V3.heap.size V3 V4) := by rw [hV4]; exact BV3_w4.out.alloc BV3_w4.out.size _
  have BV4_V4 : Hid (Below V4.heap.size V4 V4) := Below.refl _ _
  clear Aw4 BW_w4 BV1_w4 BV2_w4 BV3_w4
  go_upto_region 5 with fail
  rw [← hV4]
  clear hV4
  generalize hgV4 : w4.heap.size = gV4 at *
  clear hgV4
  have HKK : Hid (∀ w', Below V4.heap.size V4 w' → w'.cell? ⟨w.heap.size, 0, none⟩ = some (.float .f64 a) ∧ w'.cell? ⟨w.heap.size, 1, none⟩ = some (.float .f64 b) ∧ w'.cell? ⟨w.heap.size + 1, 0, none⟩ = some (.float .f64 c) ∧ w'.cell? ⟨w.heap.size + 1, 1, none⟩ = some (.float .f64 d) ∧ w'.cell? ⟨gV1, 0, none⟩ = some (.float .f64 x1) ∧ w'.cell? ⟨gV1, 1, none⟩ = some (.float .f64 y1) ∧ w'.cell? ⟨gV2, 0, none⟩ = some (.float .f64 x1) ∧ w'.cell? ⟨gV2, 1, none⟩ = some (.float .f64 y1) ∧ w'.cell? ⟨gV3, 0, none⟩ = some (.float .f64 x2) ∧ w'.cell? ⟨gV3, 1, none⟩ = some (.float .f64 y2) ∧ w'.cell? ⟨gV4, 0, none⟩ = some (.float .f64 x2) ∧ w'.cell? ⟨gV4, 1, none⟩ = some (.float .f64 y2) ∧ Below V4.heap.size V4 w') := fun w' hb => ⟨(HK.out w' (BW_V4.out.trans (hb.mono BW_V4.out.size))).1.1, (HK.out w' (BW_V4.out.trans (hb.mono BW_V4.out.size))).1.2.1, (HK.out w' (BW_V4.out.trans (hb.mono BW_V4.out.size))).2.1, (HK.out w' (BW_V4.out.trans (hb.mono BW_V4.out.size))).2.2.1, (XV1.out.later (BV1_V4.out.trans (hb.mono BV1_V4.out.size))).1, (XV1.out.later (BV1_V4.out.trans (hb.mono BV1_V4.out.size))).2.1, (XV2.out.later (BV2_V4.out.trans (hb.mono BV2_V4.out.size))).1, (XV2.out.later (BV2_V4.out.trans (hb.mono BV2_V4.out.size))).2.1, (XV3.out.later (BV3_V4.out.trans (hb.mono BV3_V4.out.size))).1, (XV3.out.later (BV3_V4.out.trans (hb.mono BV3_V4.out.size))).2.1, (XV4.out.later (BV4_V4.out.trans (hb.mono BV4_V4.out.size))).1, (XV4.out.later (BV4_V4.out.trans (hb.mono BV4_V4.out.size))).2.1, hb⟩
  have hBR : Below V4.heap.size V4 V4.drew := (Below.refl _ _).drew
  have q1 : ∀ W, Below V4.heap.size V4 W → Calls Tryz.prog 12 #[.agg #[.float .f64 x1, .float .f64 y1], .agg #[.float .f64 x1, .float .f64 y1]] W fun r w' => r = .returned (.bool true) ∧ Below V4.heap.size V4 w' := fun W h => (Hm1.out W (AV4.out.trans (h.mono AV4.out.size))).mono fun r w' ⟨e1, e2⟩ => ⟨e1, h.trans (e2.mono h.size)⟩
  have q2 : ∀ W, Below V4.heap.size V4 W → Calls Tryz.prog 12 #[.agg #[.float .f64 x2, .float .f64 y2], .agg #[.float .f64 x2, .float .f64 y2]] W fun r w' => r = .returned (.bool true) ∧ Below V4.heap.size V4 w' := fun W h => (Hm2.out W (AV4.out.trans (h.mono AV4.out.size))).mono fun r w' ⟨e1, e2⟩ => ⟨e1, h.trans (e2.mono h.size)⟩
  have q3 : ∀ W, Below V4.heap.size V4 W → Calls Tryz.prog 13 #[] W fun r w' => r = .returned (.bool true) ∧ Below V4.heap.size V4 w' := fun W h => (Hm3.out W (AV4.out.trans (h.mono AV4.out.size))).mono fun r w' ⟨e1, e2⟩ => ⟨e1, h.trans (e2.mono h.size)⟩
  clear Hm1 Hm2 Hm3 XV1 BV1_V4 XV2 BV2_V4 XV3 BV3_V4 XV4 BV4_V4 HX HK BW_V4
  obtain ⟨a0, a1, a2, a3, a4, a5, a6, a7, a8, a9, a10, a11, -⟩ := HKK.out V4 (Below.refl _ _)
  have D0 : Hid (Below V4.heap.size V4 V4) := Below.refl _ _
  have kk := q1 V4 D0.out
  go_wp2_with fail
  refine kk.mono ?_
  rintro r z_1 ⟨rfl, hb⟩
  have D1 : Hid (Below V4.heap.size V4 z_1) := hb
  clear kk hb D0
  clear a0 a1 a2 a3 a4 a5 a6 a7 a8 a9 a10 a11
  obtain ⟨a0, a1, a2, a3, a4, a5, a6, a7, a8, a9, a10, a11, -⟩ := HKK.out z_1 D1.out
  have kk := q2 z_1 D1.out
  go_wp2_with fail
  refine kk.mono ?_
  rintro r z_2 ⟨rfl, hb⟩
  have D2 : Hid (Below V4.heap.size V4 z_2) := hb
  clear kk hb D1
  clear a0 a1 a2 a3 a4 a5 a6 a7 a8 a9 a10 a11
  obtain ⟨a0, a1, a2, a3, a4, a5, a6, a7, a8, a9, a10, a11, -⟩ := HKK.out z_2 D2.out
  have kk := q3 z_2 D2.out
  go_wp2_with fail
  refine kk.mono ?_
  rintro r wz ⟨rfl, hb⟩
  have D3 : Hid (Below V4.heap.size V4 wz) := hb
  clear kk hb D2
  clear a0 a1 a2 a3 a4 a5 a6 a7 a8 a9 a10 a11
  obtain ⟨a0, a1, a2, a3, a4, a5, a6, a7, a8, a9, a10, a11, -⟩ := HKK.out wz D3.out
  have hbz := D3.out
  have HF : Hid (Below w.heap.size w wz) := AV4.out.trans (hbz.mono AV4.out.size)
  clear q1 q2 q3 HKK hBR a0 a1 a2 a3 a4 a5 a6 a7 a8 a9 a10 a11 hbz
  go_wp2_with fail
  go_ret
  exact ⟨rfl, HF.out⟩
theorem low_lt (a b c d : Nat) : mlo a b c d < 18446744073709551616 ∧ mhi a b c d < 18446744073709551616 ∧ qlo a b c d < 18446744073709551616 ∧ qhi a b c d < 18446744073709551616 :=
  ⟨pl_lt (lowF_ok (D := fun i => onF (fMul (pk4 a a b b i) (pk4 c d c d i) 1)) (fun i => onF_ok fMul_lt) 4).1, pl_lt (hiF_ok (D := fun i => onF (fMul (pk4 a a b b i) (pk4 c d c d i) 3)) (fun i => onF_ok fMul_lt) 4).1, pl_lt (lowF_ok (D := fun i => onF (fDiv (pk4 a a b b i) (pk4 c d c d i) 1)) (fun i => onF_ok fDiv_lt) 4).1, pl_lt (hiF_ok (D := fun i => onF (fDiv (pk4 a a b b i) (pk4 c d c d i) 3)) (fun i => onF_ok fDiv_lt) 4).1⟩
/-- SpanProducts answers true -/
theorem spanProducts_ok (a b c d : Nat) (w : World) (ha : a < 18446744073709551616) (hb : b < 18446744073709551616) (hc : c < 18446744073709551616) (hd : d < 18446744073709551616) (hT : Tab32 w) (hJ : Ie.Tab w) :
    Calls Tryz.prog 3 #[.agg #[.float .f64 a, .float .f64 b], .agg #[.float .f64 c, .float .f64 d]] w fun r w' => r = .returned (.bool true) ∧ Below w.heap.size w w' :=
  prods8_1 a b c d _ _ _ _ _ _ w
    (fun W h => by have k := smul a b c d ha hb hc hd W (hT.later h) (Tab.later hJ h); rw [orV_i8] at k; exact k)
    (fun W _ => by have k := dmul8 a b c d W ha hb hc hd; rw [orV_i8] at k; exact k)
    (fun W h => by have k := squo a b c d ha hb hc hd W (hT.later h) (Tab.later hJ h); rw [quoV_iv] at k; exact k)
    (fun W _ => by have k := dquo8 a b c d W ha hb hc hd; rw [quoV_iv] at k; exact k)
    (fun W _ => isame _ _ (or_lt8 (low_lt a b c d).1) (or_lt8 (low_lt a b c d).2.1) W)
    (fun W _ => isame _ _ (or_lt8 (low_lt a b c d).2.2.1) (or_lt8 (low_lt a b c d).2.2.2) W)
    (fun W h => works8 W (hT.later h) (Tab.later hJ h))
end Go.Proofs.YtcoclopllbfjcaaGreatDoor
