/- Own work: contracts of the program's functions, part 14: UB4 UB5 UB6 UB7 UB8 UB9 UC1 UC2 UC3 UC4 UD1 UD2 UD3 UD4 UD5 UD6 UE1 UE2 UE3 UE4. -/
import Derived.Test.YthkgklkhlcbmaaaGreatDoorA13
import Derived.Deep.Slices
import Derived.Laws.Cover2
import Derived.OpenShut
import Derived.WideShapes
import Derived.ChangeAlike
import Derived.Laws.AppendOwnNone

set_option maxHeartbeats 16000000
namespace Go.Proofs.YthkgklkhlcbmaaaGreatDoor
set_option linter.unusedVariables false
set_option linter.unusedSimpArgs false
open Go.RowKit Go.Fl64
theorem fits_small {K : Nat} {lo hi hi' : Int} {x : Nat} {e : Int} (h : Fits lo hi x e) (hlo : 0 ≤ lo + K) (hv : x * 2 ^ (e + K).toNat < 2 ^ (hi' + K).toNat) : Fits lo hi' x e := by
  rcases h with h | ⟨h1, h2, h3⟩
  · exact .inl h
  · by_cases hx : x = 0
    · exact .inl hx
    · have hp : 2 ^ (e + K).toNat ≤ x * 2 ^ (e + K).toNat := Nat.le_mul_of_pos_left _ (by omega)
      have hlt : (e + K).toNat < (hi' + K).toNat := (Nat.pow_lt_pow_iff_right (by omega)).1 (Nat.lt_of_le_of_lt hp hv)
      refine .inr ⟨h1, by omega, ?_⟩
      rw [show (hi' + K).toNat = (hi' - e).toNat + (e + K).toNat by omega, Nat.pow_add] at hv
      exact Nat.lt_of_mul_lt_mul_right hv
theorem sv_abs (s : Bool) (x : Nat) : (sv s x).natAbs = x := by cases s <;> simp [sv]
theorem vz_abs (K : Nat) (s : Bool) (x : Nat) (e : Int) : (vz K s x e).natAbs = x * 2 ^ (e + K).toNat := by
  unfold vz
  rw [Int.natAbs_mul, sv_abs, Int.natAbs_natCast]
theorem vz_tF_le {K : Nat} (hK : 2000 ≤ K) (a : Nat) : (vz K (tF a).1 (tF a).2.1 (tF a).2.2).natAbs ≤ 2 ^ (1025 + K) := by
  rw [vz_abs]
  rcases tF_fits a with h | ⟨h1, h2, h3⟩
  · rw [h, Nat.zero_mul]; exact Nat.zero_le _
  · rw [show 1025 + K = ((1025 : Int) - (tF a).2.2).toNat + ((tF a).2.2 + K).toNat by omega, Nat.pow_add]
    exact Nat.mul_le_mul_right _ (Nat.le_of_lt h3)
theorem vz_tS {K : Nat} {lo hi : Int} {t1 t2 : Bool × Nat × Int} (h1 : Fits lo hi t1.2.1 t1.2.2) (h2 : Fits lo hi t2.2.1 t2.2.2) (e1 : 0 ≤ t1.2.2 + K) (e2 : 0 ≤ t2.2.2 + K) (hK : 0 ≤ lo + K) : vz K (tS t1 t2).1 (tS t1 t2).2.1 (tS t1 t2).2.2 = vz K t1.1 t1.2.1 t1.2.2 + vz K t2.1 t2.2.1 t2.2.2 := by
  unfold tS
  rw [vz_cnF (Fits.sum h1 h2) hK, vz_sumN e1 e2]
theorem tSum_num (xs : Nat → Nat) {K : Nat} (hK : 100000 ≤ K) : ∀ k : Nat, k ≤ 65536 → Ok (tSum xs k) ∧ Fits (-1074) 1042 (tSum xs k).2.1 (tSum xs k).2.2 ∧ (vz K (tSum xs k).1 (tSum xs k).2.1 (tSum xs k).2.2).natAbs ≤ k * 2 ^ (1025 + K)
  | 0, _ => ⟨by show Ok (false, 0, 0); unfold Ok; decide +kernel, .inl rfl, by show (vz K false 0 0).natAbs ≤ _; rw [vz_abs]; simp⟩
  | k + 1, hk => by
    obtain ⟨o, f, v⟩ := tSum_num xs hK k (by omega)
    have ft : Fits (-1074) 1042 (tF (xs k)).2.1 (tF (xs k)).2.2 := (tF_fits (xs k)).mono (Int.le_refl _) (by omega)
    have ok : Ok (tSum xs (k + 1)) := ok_cn (tS_okR f ft (by omega) (by omega) (by omega))
    have fs : Fits (-1074) 1043 (tSum xs (k + 1)).2.1 (tSum xs (k + 1)).2.2 := tS_fits f ft
    obtain ⟨-, f2, f3, -, -⟩ := o.facts
    obtain ⟨-, g2, g3, -, -⟩ := (tF_ok (xs k)).facts
    have hv : (vz K (tSum xs (k + 1)).1 (tSum xs (k + 1)).2.1 (tSum xs (k + 1)).2.2).natAbs ≤ (k + 1) * 2 ^ (1025 + K) := by
      show (vz K (tS (tSum xs k) (tF (xs k))).1 (tS (tSum xs k) (tF (xs k))).2.1 (tS (tSum xs k) (tF (xs k))).2.2).natAbs ≤ _
      rw [vz_tS f ft (by omega) (by omega) (by omega), Nat.add_mul, Nat.one_mul]
      have h1 := vz_tF_le (K := K) (by omega) (xs k)
      exact Nat.le_trans (Int.natAbs_add_le _ _) (Nat.add_le_add v h1)
    refine ⟨ok, fits_small (K := K) fs (by omega) ?_, hv⟩
    rw [vz_abs] at hv
    refine Nat.lt_of_le_of_lt hv ?_
    have e : ((1042 : Int) + K).toNat = 17 + (1025 + K) := by omega
    rw [e, Nat.pow_add 2 17 (1025 + K)]
    have hp := Nat.two_pow_pos (1025 + K)
    have h17 : k + 1 < 131072 := by omega
    rw [show (2 : Nat) ^ 17 = 131072 by decide]
    generalize 2 ^ (1025 + K) = P at *
    exact Nat.mul_lt_mul_of_pos_right h17 hp
theorem tSum_ok (xs : Nat → Nat) {k : Nat} (hk : k ≤ 65536) : Ok (tSum xs k) ∧ Fits (-1074) 1042 (tSum xs k).2.1 (tSum xs k).2.2 := by
  obtain ⟨K, hK⟩ : ∃ K : Nat, 100000 ≤ K := ⟨100000, Nat.le_refl _⟩
  have h := tSum_num xs hK k hk
  exact ⟨h.1, h.2.1⟩
theorem tSum_add (xs : Nat → Nat) {k : Nat} (hk : k ≤ 65536) : Op2 84 (tSum xs k) (tF (xs k)) (tSum xs (k + 1)) :=
  add_op (tSum_ok xs hk).1 (tF_ok (xs k)) (tS_okR (tSum_ok xs hk).2 ((tF_fits (xs k)).mono (Int.le_refl _) (by omega)) (by omega) (by omega) (by omega))
end Go.Proofs.YthkgklkhlcbmaaaGreatDoor
namespace Go.Proofs.YthkgklkhlcbmaaaGreatDoor
set_option linter.unusedVariables false
set_option linter.unusedSimpArgs false
open Go.RowKit Go.Fl64
set_option maxRecDepth 200000 in
theorem uex_err (ao : Option Addr) (len cap : Nat) (m c : Int) (w : World) (hc : (c == 0) = false)
    (k : ∀ W g, Below w.heap.size w W → W.cell? ⟨g, 0, none⟩ = some (.slice ao len cap) → Calls Tryz.prog 47 #[.int .i64 m, .slice (some ⟨g, 0, none⟩) 1 1] W fun r w' => r = .returned (.int .i64 c) ∧ Below W.heap.size W w') :
    Calls Tryz.prog 21 #[.slice ao len cap, .int .i64 m] w fun r w' => r = .returned (.tuple #[.float .f64 0, .int .i64 c]) ∧ Below w.heap.size w w' := by
  obtain ⟨V, hV⟩ : ∃ V, V = w.alloc (.cells #[.slice ao len cap] 22) := ⟨_, rfl⟩
  have hb : Below w.heap.size w V := by rw [hV]; exact (Below.refl _ _).alloc (Nat.le_refl _) _
  have k1 := k V w.heap.size hb (by unfold World.cell?; rw [hV, heap_alloc_new]; rfl)
  have HB : Hid (Below w.heap.size w V) := hb
  have hc' : (c != 0) = true := by rw [bne, hc]; rfl
  clear k hb
  go_enter Tryz.func21, Tryz.ntmps21
  go_wp2_with fail
  rw [← hV]
  clear hV
  refine k1.mono ?_
  rintro r w1 ⟨rfl, hb1⟩
  have HF : Hid (Below w.heap.size w w1) := HB.out.trans (hb1.mono HB.out.size)
  clear k1 hb1 HB
  go_wp2_with fail
  refine bodyPost_ret (results_tmp2 rfl _ _ _) rfl ?_
  exact ⟨rfl, HF.out⟩
set_option maxRecDepth 200000 in
theorem uex_ok (ao : Option Addr) (len cap F x0 : Nat) (m : Int) (mn : Bool) (ts : Bool × Nat × Int) (w : World)
    (hmn : mn = true → 0 < len ∧ (∀ W, Below w.heap.size w W → ∃ b off, ao = some ⟨b, off, none⟩ ∧ W.cell? ⟨b, off, none⟩ = some (.float .f64 x0)))
    (k : ∀ W g, Below w.heap.size w W → W.cell? ⟨g, 0, none⟩ = some (.slice ao len cap) → Calls Tryz.prog 47 #[.int .i64 m, .slice (some ⟨g, 0, none⟩) 1 1] W fun r w' => r = .returned (.int .i64 0) ∧ Below W.heap.size W w')
    (kM : 0 < len → ∀ W, Below w.heap.size w W → Calls Tryz.prog 48 #[.slice ao len cap] W fun r w' => r = .returned (.bool mn) ∧ Below W.heap.size W w')
    (kT : ∀ W Bs, Below w.heap.size w W → W.cell? ⟨Bs, 0, none⟩ = some (.slice ao len cap) → Calls Tryz.prog 44 #[.func (.func 85) #[] #[.pointer (some ⟨Bs, 0, none⟩)]] W fun r w' => OutA W ts r w')
    (kR : ∀ W A, Below w.heap.size w W → PN W A ts → Calls Tryz.prog 42 #[A, .int .i64 m] W fun r w' => r = .returned (.float .f64 F) ∧ Below W.heap.size W w') :
    Calls Tryz.prog 21 #[.slice ao len cap, .int .i64 m] w fun r w' => r = .returned (.tuple #[.float .f64 (if mn then x0 else F), .int .i64 0]) ∧ Below w.heap.size w w' := by
  obtain ⟨V, hV⟩ : ∃ V, V = w.alloc (.cells #[.slice ao len cap] 22) := ⟨_, rfl⟩
  have hb : Below w.heap.size w V := by rw [hV]; exact (Below.refl _ _).alloc (Nat.le_refl _) _
  have k1 := k V w.heap.size hb (by unfold World.cell?; rw [hV, heap_alloc_new]; rfl)
  have HB : Hid (Below w.heap.size w V) := hb
  have HM : Hid _ := kM
  have HT : Hid _ := kT
  have HR : Hid _ := kR
  have HN : Hid (mn = true → 0 < len ∧ (∀ W, Below w.heap.size w W → ∃ b off, ao = some ⟨b, off, none⟩ ∧ W.cell? ⟨b, off, none⟩ = some (.float .f64 x0))) := hmn
  clear k hb kM kT kR hmn
  go_enter Tryz.func21, Tryz.ntmps21
  go_wp2_with fail
  rw [← hV]
  clear hV
  refine k1.mono ?_
  rintro r w1 ⟨rfl, hb1⟩
  have HF : Hid (Below w.heap.size w w1) := HB.out.trans (hb1.mono HB.out.size)
  clear k1 hb1 HB
  by_cases h0 : 0 < len
  · have hi : (0 : Int) < (len : Int) := by omega
    have hd : decide ((0 : Int) < (len : Int)) = true := decide_eq_true hi
    have k2 := HM.out h0 w1 HF.out
    cases mn
    · go_wp2_with fail
      refine k2.mono ?_
      rintro r w2 ⟨rfl, hb2⟩
      have HF2 : Hid (Below w.heap.size w w2) := HF.out.trans (hb2.mono HF.out.size)
      clear k2 hb2 HF HM HN
      have k3 := ufloats ao len cap w2
      go_wp2_with fail
      refine k3.mono ?_
      rintro r w3 ⟨rfl, hw⟩
      have hb3 : Below w2.heap.size w2 w3 := by rw [hw]; exact (Below.refl _ _).alloc (Nat.le_refl _) _
      have c1 : w3.cell? ⟨w2.heap.size, 0, none⟩ = some (.slice ao len cap) := by unfold World.cell?; rw [hw, heap_alloc_new]; rfl
      have HF3 : Hid (Below w.heap.size w w3) := HF2.out.trans (hb3.mono HF2.out.size)
      have k4 := HT.out w3 w2.heap.size HF3.out c1
      clear k3 hw hb3 c1 HF2
      generalize w2.heap.size = g2 at *
      go_wp2_with fail
      refine k4.mono ?_
      rintro r w4 ⟨s4, ao4, n4, cap4, ex4, rfl, hP4, hb4⟩
      have HF4 : Hid (Below w.heap.size w w4) := HF3.out.trans (hb4.mono HF3.out.size)
      have k5 := HR.out w4 _ HF4.out hP4
      clear k4 hP4 hb4 HF3 HT HR
      go_wp2_with fail
      refine k5.mono ?_
      rintro r w5 ⟨rfl, hb5⟩
      have HF5 : Hid (Below w.heap.size w w5) := HF4.out.trans (hb5.mono HF4.out.size)
      clear k5 hb5 HF4
      go_wp2_with fail
      refine bodyPost_ret (results_tmp2 rfl _ _ _) rfl ?_
      exact ⟨rfl, HF5.out⟩
    · obtain ⟨b, off, rfl, hc1⟩ := (HN.out rfl).2 w1 HF.out
      go_wp2_with fail
      refine k2.mono ?_
      rintro r w2 ⟨rfl, hb2⟩
      have HF2 : Hid (Below w.heap.size w w2) := HF.out.trans (hb2.mono HF.out.size)
      have hc2 : w2.cell? ⟨b, off, none⟩ = some (.float .f64 x0) := (hb2.cell (p := ⟨b, off, none⟩) (World.block_lt_of_cell? _ _ hc1)).trans hc1
      clear k2 hb2 HF HM HN hc1
      go_wp2_with fail
      refine bodyPost_ret (results_tmp2 rfl _ _ _) rfl ?_
      exact ⟨rfl, HF2.out⟩
  · have hmf : mn = false := by
      cases hm : mn
      · rfl
      · exact absurd (HN.out hm).1 h0
    subst hmf
    have hi : ¬ (0 : Int) < (len : Int) := by omega
    have hd : decide ((0 : Int) < (len : Int)) = false := decide_eq_false hi
    have HF2 : Hid (Below w.heap.size w w1) := HF.out
    clear HF HM HN
    obtain ⟨w2, hw2⟩ : ∃ w2, w2 = w1 := ⟨_, rfl⟩
    rw [← hw2] at HF2 ⊢
    clear hw2
    have k3 := ufloats ao len cap w2
    go_wp2_with fail
    refine k3.mono ?_
    rintro r w3 ⟨rfl, hw⟩
    have hb3 : Below w2.heap.size w2 w3 := by rw [hw]; exact (Below.refl _ _).alloc (Nat.le_refl _) _
    have c1 : w3.cell? ⟨w2.heap.size, 0, none⟩ = some (.slice ao len cap) := by unfold World.cell?; rw [hw, heap_alloc_new]; rfl
    have HF3 : Hid (Below w.heap.size w w3) := HF2.out.trans (hb3.mono HF2.out.size)
    have k4 := HT.out w3 w2.heap.size HF3.out c1
    clear k3 hw hb3 c1 HF2
    generalize w2.heap.size = g2 at *
    go_wp2_with fail
    refine k4.mono ?_
    rintro r w4 ⟨s4, ao4, n4, cap4, ex4, rfl, hP4, hb4⟩
    have HF4 : Hid (Below w.heap.size w w4) := HF3.out.trans (hb4.mono HF3.out.size)
    have k5 := HR.out w4 _ HF4.out hP4
    clear k4 hP4 hb4 HF3 HT HR
    go_wp2_with fail
    refine k5.mono ?_
    rintro r w5 ⟨rfl, hb5⟩
    have HF5 : Hid (Below w.heap.size w w5) := HF4.out.trans (hb5.mono HF4.out.size)
    clear k5 hb5 HF4
    go_wp2_with fail
    refine bodyPost_ret (results_tmp2 rfl _ _ _) rfl ?_
    exact ⟨rfl, HF5.out⟩
end Go.Proofs.YthkgklkhlcbmaaaGreatDoor
namespace Go.Proofs.YthkgklkhlcbmaaaGreatDoor
set_option linter.unusedVariables false
set_option linter.unusedSimpArgs false
open Go.RowKit Go.Fl64
def mnA (xs : Nat → Nat) (len : Nat) : Bool := decide (0 < len) && !anyP (fun i => mnP (xs i)) len
def exR (xs : Nat → Nat) (len : Nat) (m : Int) : Nat := tfF (tSum xs len).1 true (tSum xs len).2.1 (tSum xs len).2.2 m
def exF (xs : Nat → Nat) (len : Nat) (m : Int) : Nat := if isM m = false then 0 else if chk1 xs len = 0 then (if mnA xs len then xs 0 else exR xs len m) else 0
def exE (xs : Nat → Nat) (len : Nat) (m : Int) : Int := if isM m = false then 1 else chk1 xs len
theorem chk1_zero {xs : Nat → Nat} {len : Nat} (h : chk1 xs len = 0) : len ≤ 65536 ∧ ∀ i, i < len → mag (xs i) < 9218868437227405312 := by
  unfold chk1 at h
  by_cases h1 : 65536 < len
  · rw [if_pos h1] at h; omega
  · rw [if_neg h1] at h
    refine ⟨by omega, ?_⟩
    cases h2 : anyP (fun i => isNaN (xs i)) len
    · rw [h2, if_neg (by decide)] at h
      cases h3 : anyP (fun i => !fin (xs i)) len
      · intro i hi
        have := anyP_none h3 i hi
        have hf : fin (xs i) = true := by simpa using this
        exact Nat.lt_of_not_le fun h => by rw [fin_false.2 (by omega)] at hf; cases hf
      · rw [h3, if_pos rfl] at h; omega
    · rw [h2, if_pos rfl] at h; omega
theorem uExact (ao : Option Addr) (len cap : Nat) (xs : Nat → Nat) (m : Int) (w : World) (hT : Tab32 w) (hI : Ie.Tab w) (hl : FAt w ao len xs) (hx : Fls xs len) (hlen : len ≤ 35184372088832) :
    Calls Tryz.prog 21 #[.slice ao len cap, .int .i64 m] w fun r w' => r = .returned (.tuple #[.float .f64 (exF xs len m), .int .i64 (exE xs len m)]) ∧ Below w.heap.size w w' := by
  unfold exF exE
  cases hm : isM m
  · rw [if_pos rfl, if_pos rfl]
    exact uex_err ao len cap m 1 w rfl fun W g hb hg => (uchecked_no m _ W hm).mono fun r w' ⟨e1, e2⟩ => ⟨e1, by rw [e2]; exact Below.refl _ _⟩
  · have e1 : ¬ (true = false) := by decide
    rw [if_neg e1, if_neg e1]
    have kc : ∀ W g, Below w.heap.size w W → W.cell? ⟨g, 0, none⟩ = some (.slice ao len cap) → Calls Tryz.prog 47 #[.int .i64 m, .slice (some ⟨g, 0, none⟩) 1 1] W fun r w' => r = .returned (.int .i64 (chk1 xs len)) ∧ Below W.heap.size W w' := fun W g hb hg => uchecked1 m g ao len cap xs W hm hg (hl.later hb) hx hlen
    by_cases hz : chk1 xs len = 0
    · rw [if_pos hz]
      obtain ⟨h1, h2⟩ := chk1_zero hz
      rw [hz] at kc ⊢
      refine uex_ok ao len cap (exR xs len m) (xs 0) m (mnA xs len) (tSum xs len) w (fun h => ?_) kc (fun h0 W hb => ?_) (fun W Bs hb hBs => ?_) (fun W A hb hA => ?_)
      · have hp : 0 < len := by
          unfold mnA at h
          simp only [Bool.and_eq_true, decide_eq_true_eq] at h
          exact h.1
        refine ⟨hp, fun W hb => ?_⟩
        obtain ⟨b, off, h3, h4⟩ := hl.later hb
        exact ⟨b, off, h3 hp, h4 0 hp⟩
      · have := uallmn ao len cap xs W (hl.later hb) hx hlen
        unfold mnA
        rw [decide_eq_true h0, Bool.true_and]
        exact this
      · exact total_floats Bs len cap ao xs W (by omega) (fun i hi => ⟨hx i hi, h2 i hi⟩) (fun k hk => tSum_add xs (by omega)) (hT.later hb) (Tab.later hI hb) (hl.later hb) hBs
      · exact urounded (hT.later hb) (tSum_ok xs h1).1 hA (isM_iff.1 hm)
    · rw [if_neg hz]
      exact uex_err ao len cap m _ w (beq_eq_false_iff_ne.2 hz) kc
def two (a b : Nat) : Nat → Nat := fun i => if i = 0 then a else b
theorem addX_non {a b : Nat} (hf : fin a = false ∨ fin b = false) : ¬ mag (addX a b) < 9218868437227405312 := by
  have ha : fin a = false → ¬ mag a < 9218868437227405312 := fun h => fin_false.1 h
  have hb : fin b = false → ¬ mag b < 9218868437227405312 := fun h => fin_false.1 h
  unfold addX
  split
  · decide
  · rename_i hn
    split
    · split
      · split
        · omega
        · decide
      · omega
    · rename_i hm
      have hn' : (isNaN a || isNaN b) = false := by simpa using hn
      simp only [Bool.or_eq_false_iff] at hn'
      obtain ⟨n1, n2⟩ := hn'
      unfold isNaN at n1
      simp only [decide_eq_false_iff_not] at n1
      rcases hf with h | h
      · have := ha h; omega
      · exact hb h
theorem fAdd_fin {a b : Nat} (ha : a < 18446744073709551616) (hb : b < 18446744073709551616) (h : mag (fAdd a b) < 9218868437227405312) : mag a < 9218868437227405312 ∧ mag b < 9218868437227405312 := by
  by_cases hf : fin a = false ∨ fin b = false
  · exfalso
    have e : fAdd a b = addX a b := if_pos hf
    rw [e] at h
    exact addX_non hf h
  · exact ⟨Nat.lt_of_not_le fun h => hf (.inl (fin_false.2 (by omega))), Nat.lt_of_not_le fun h => hf (.inr (fin_false.2 (by omega)))⟩
def tLost (a b : Nat) : Bool × Nat × Int := tD (tS (tF a) (tF b)) (tF (fAdd a b))
def lostF (a b : Nat) : Nat := if mag (fAdd a b) < 9218868437227405312 then (if (tLost a b).2.1 = 0 then 0 else tfF (tLost a b).1 true (tLost a b).2.1 (tLost a b).2.2 2) else 0
theorem tS_nought {t : Bool × Nat × Int} (o : Ok t) : tS (false, 0, 0) t = t := by
  have e : sumN false 0 0 t.1 t.2.1 t.2.2 = (t.1, t.2.1, t.2.2) := by unfold sumN; rfl
  unfold tS
  show cn (sumN false 0 0 t.1 t.2.1 t.2.2).1 (sumN false 0 0 t.1 t.2.1 t.2.2).2.1 (sumN false 0 0 t.1 t.2.1 t.2.2).2.2 = t
  rw [e]
  exact cn_ok o
theorem tSum_two (a b : Nat) : tSum (two a b) 2 = tS (tF a) (tF b) := by
  show tS (tS (false, 0, 0) (tF a)) (tF b) = _
  rw [tS_nought (tF_ok a)]
theorem tLost_okR (a b : Nat) : okR (sumN (tS (tF a) (tF b)).1 (tS (tF a) (tF b)).2.1 (tS (tF a) (tF b)).2.2 (!(tF (fAdd a b)).1 && decide (0 < dlen (tF (fAdd a b)).2.1)) (tF (fAdd a b)).2.1 (tF (fAdd a b)).2.2).1 (sumN (tS (tF a) (tF b)).1 (tS (tF a) (tF b)).2.1 (tS (tF a) (tF b)).2.2 (!(tF (fAdd a b)).1 && decide (0 < dlen (tF (fAdd a b)).2.1)) (tF (fAdd a b)).2.1 (tF (fAdd a b)).2.2).2.1 (sumN (tS (tF a) (tF b)).1 (tS (tF a) (tF b)).2.1 (tS (tF a) (tF b)).2.2 (!(tF (fAdd a b)).1 && decide (0 < dlen (tF (fAdd a b)).2.1)) (tF (fAdd a b)).2.1 (tF (fAdd a b)).2.2).2.2 = true :=
  (Fits.sum (tS_fits (tF_fits a) (tF_fits b)) ((tF_fits (fAdd a b)).mono (Int.le_refl _) (by omega))).ok (by omega) (by omega) (by omega)
theorem tLost_ok (a b : Nat) : Ok (tLost a b) := ok_cn (tLost_okR a b)
theorem tS2_ok (a b : Nat) : Ok (tS (tF a) (tF b)) := ok_cn (tS_okR (tF_fits a) (tF_fits b) (by omega) (by omega) (by omega))
theorem tf_nought0 : tfF false true 0 0 2 = 0 := by decide +kernel
theorem lost_tf {t : Bool × Nat × Int} (o : Ok t) : tfF t.1 true t.2.1 t.2.2 2 = if t.2.1 = 0 then 0 else tfF t.1 true t.2.1 t.2.2 2 := by
  by_cases h : t.2.1 = 0
  · rw [if_pos h]
    obtain ⟨-, -, -, f4, -⟩ := o.facts
    rw [f4 h]
    exact tf_nought0
  · rw [if_neg h]
theorem uTwo (a b : Nat) (ha : a < 18446744073709551616) (hb : b < 18446744073709551616) (w : World) (hT : Tab32 w) (hI : Ie.Tab w) :
    Calls Tryz.prog 19 #[.float .f64 a, .float .f64 b] w fun r w' => ∃ n, r = .returned (.tuple #[.float .f64 n, .float .f64 (lostF a b)]) ∧ lk n (fAdd a b) ∧ Below w.heap.size w w' := by
  have hX := fAdd_lt ha hb
  have kn := unear (lk.refl ha) (lk.refl hb) ha hb w hT hI
  unfold lostF
  by_cases hf : mag (fAdd a b) < 9218868437227405312
  · rw [if_pos hf]
    obtain ⟨fa, fb⟩ := fAdd_fin ha hb hf
    have hF : ∀ i, i < 2 → two a b i < 18446744073709551616 ∧ mag (two a b i) < 9218868437227405312 := by
      intro i hi
      unfold two
      split
      · exact ⟨ha, fa⟩
      · exact ⟨hb, fb⟩
    refine (utwo_y a b (fAdd a b) (tfF (tLost a b).1 true (tLost a b).2.1 (tLost a b).2.2 2) (tS (tF a) (tF b)) (tLost a b) w hX hf kn (fun W Bs g hbw c1 c2 c3 => ?_) (fun W A hbw hA => ?_) (fun W A hbw hA => ?_)).mono ?_
    · rw [← tSum_two a b]
      exact total_floats Bs 2 2 (some ⟨g, 0, none⟩) (two a b) W (by omega) hF (fun k hk => tSum_add _ (by omega)) (hT.later hbw) (Tab.later hI hbw) ⟨g, 0, fun _ => rfl, fun j hj => by
        rcases (show j = 0 ∨ j = 1 by omega) with rfl | rfl
        · exact c2
        · exact c3⟩ c1
    · exact utaken (hT.later hbw) (Tab.later hI hbw) hX hf hA (sub_op (tS2_ok a b) (tF_ok _) (tLost_okR a b))
    · exact urounded (hT.later hbw) (tLost_ok a b) hA (by omega)
    · rintro r w' ⟨rfl, hbw⟩
      exact ⟨fAdd a b, by rw [← lost_tf (tLost_ok a b)], lk.refl hX, hbw⟩
  · rw [if_neg hf]
    exact utwo_n a b (fAdd a b) w hX hf kn
def l4 (i : Nat) : Nat := if i = 0 then 4607182418800017408 else if i = 1 then 6103021453049119613 else if i = 2 then 4607182418800017408 else 15326393489903895421
theorem l4_fls : Fls l4 4 := by
  intro i hi
  unfold l4
  split
  · decide
  · split
    · decide
    · split <;> decide
theorem l4_ex : exF l4 4 2 = 4611686018427387904 := by decide +kernel
theorem l4_e : exE l4 4 2 = 0 := by decide +kernel
theorem l4_e0 : exE l4 4 0 = 1 := by decide +kernel
theorem l4_row : rowF l4 4 = 0 := by decide +kernel
theorem l4_kept : ktF l4 4 = 4611686018427387904 := by decide +kernel
theorem l4_hal : halF 4 l4 4 = 0 := by decide +kernel
theorem two_s : fAdd 4846369599423283200 4607182418800017408 = 4846369599423283200 := by decide +kernel
theorem two_c : lostF 4846369599423283200 4607182418800017408 = 4607182418800017408 := by decide +kernel
set_option maxRecDepth 200000 in
theorem sure5_ok (w : World) (hT : Tab32 w) (hI : Ie.Tab w) : Calls Tryz.prog 18 #[] w fun r w' => r = .returned (.bool true) ∧ Below w.heap.size w w' := by
  have e1 : (FloatKind.f64.format.order 0 0 == some Ordering.eq) = true := by decide +kernel
  have e2 : (FloatKind.f64.format.order 4611686018427387904 4611686018427387904 == some Ordering.eq) = true := by decide +kernel
  have e3 : (FloatKind.f64.format.order 4846369599423283200 4846369599423283200 == some Ordering.eq) = true := by decide +kernel
  have e4 : (FloatKind.f64.format.order 4607182418800017408 4607182418800017408 == some Ordering.eq) = true := by decide +kernel
  obtain ⟨V, hV⟩ : ∃ V, V = w.alloc (.cells #[.float .f64 4607182418800017408, .float .f64 6103021453049119613, .float .f64 4607182418800017408, .float .f64 15326393489903895421] 25) := ⟨_, rfl⟩
  have hbV : Below w.heap.size w V := by rw [hV]; exact (Below.refl _ _).alloc (Nat.le_refl _) _
  have hh : V.heap[w.heap.size]? = some (.cells #[.float .f64 4607182418800017408, .float .f64 6103021453049119613, .float .f64 4607182418800017408, .float .f64 15326393489903895421] 25 (0, 0)) := by rw [hV]; exact heap_alloc_new _ _
  have hl : FAt V (some ⟨w.heap.size, 0, none⟩) 4 l4 := ⟨w.heap.size, 0, fun _ => rfl, fun j hj => by
    unfold World.cell?
    rw [hh]
    rcases (show j = 0 ∨ j = 1 ∨ j = 2 ∨ j = 3 by omega) with rfl | rfl | rfl | rfl <;> rfl⟩
  have HT : Hid (∀ W, Below w.heap.size w W → Tab32 W ∧ Ie.Tab W) := fun W h => ⟨hT.later h, Tab.later hI h⟩
  have HL : Hid (∀ W, Below V.heap.size V W → FAt W (some ⟨w.heap.size, 0, none⟩) 4 l4) := fun W h => hl.later h
  have HV : Hid (Below w.heap.size w V) := hbV
  have HZ : Hid (w.heap.size ≤ V.heap.size) := hbV.size
  have kk := uExact (some ⟨w.heap.size, 0, none⟩) 4 4 l4 2 V (hT.later hbV) (Tab.later hI hbV) hl l4_fls (by omega)
  rw [l4_ex, l4_e] at kk
  clear hT hI hbV hh hl
  go_enter Tryz.func18, Tryz.ntmps18
  go_wp2_with fail
  rw [← hV]
  clear hV
  generalize hg0 : w.heap.size = g0 at *
  have HG : Hid (w.heap.size = g0) := hg0
  clear hg0
  refine kk.mono ?_
  rintro r w1 ⟨rfl, hb1⟩
  have HB1 : Hid (Below V.heap.size V w1) := hb1
  clear kk hb1
  have HW : Hid (∀ W, Below V.heap.size V W → Below g0 w W) := fun W h => HV.out.trans (h.mono HZ.out)
  have kk := uExact (some ⟨g0, 0, none⟩) 4 4 l4 0 w1 (HT.out _ (HW.out _ HB1.out)).1 (HT.out _ (HW.out _ HB1.out)).2 (HL.out _ HB1.out) l4_fls (by omega)
  rw [l4_e0] at kk
  go_wp2_with fail
  refine kk.mono ?_
  rintro r w2 ⟨rfl, hb2⟩
  have HB2 : Hid (Below V.heap.size V w2) := HB1.out.trans (hb2.mono HB1.out.size)
  clear kk hb2 HB1
  have kk := uTwo 4846369599423283200 4607182418800017408 (by decide) (by decide) w2 (HT.out _ (HW.out _ HB2.out)).1 (HT.out _ (HW.out _ HB2.out)).2
  rw [two_s, two_c] at kk
  go_wp2_with fail
  refine kk.mono ?_
  rintro r w3 ⟨n3, rfl, hl3, hb3⟩
  obtain rfl : n3 = 4846369599423283200 := hl3.eq (by decide)
  have HB3 : Hid (Below V.heap.size V w3) := HB2.out.trans (hb3.mono HB2.out.size)
  clear kk hb3 hl3 HB2
  have kk := urow (some ⟨g0, 0, none⟩) 4 4 l4 w3 (HT.out _ (HW.out _ HB3.out)).1 (HT.out _ (HW.out _ HB3.out)).2 (HL.out _ HB3.out) l4_fls (by omega) (by omega)
  rw [l4_row] at kk
  go_wp2_with fail
  refine kk.mono ?_
  rintro r w4 ⟨n4, rfl, hl4, hb4⟩
  obtain rfl : n4 = 0 := hl4.eq (by decide)
  have HB4 : Hid (Below V.heap.size V w4) := HB3.out.trans (hb4.mono HB3.out.size)
  clear kk hb4 hl4 HB3
  have kk := ukept (some ⟨g0, 0, none⟩) 4 4 l4 w4 (HT.out _ (HW.out _ HB4.out)).1 (HT.out _ (HW.out _ HB4.out)).2 (HL.out _ HB4.out) l4_fls (by omega)
  rw [l4_kept] at kk
  go_wp2_with fail
  refine kk.mono ?_
  rintro r w5 ⟨n5, rfl, hl5, hb5⟩
  obtain rfl : n5 = 4611686018427387904 := hl5.eq (by decide)
  have HB5 : Hid (Below V.heap.size V w5) := HB4.out.trans (hb5.mono HB4.out.size)
  clear kk hb5 hl5 HB4
  have kk := uhalves 4 (some ⟨g0, 0, none⟩) 4 4 l4 w5 (by omega) (HT.out _ (HW.out _ HB5.out)).1 (HT.out _ (HW.out _ HB5.out)).2 (HL.out _ HB5.out) l4_fls (by omega) (by omega)
  rw [l4_hal] at kk
  go_wp2_with fail
  refine kk.mono ?_
  rintro r w6 ⟨n6, rfl, hl6, hb6⟩
  obtain rfl : n6 = 0 := hl6.eq (by decide)
  have HB6 : Hid (Below g0 w w6) := HW.out _ (HB5.out.trans (hb6.mono HB5.out.size))
  clear kk hb6 hl6 HB5 HW HL HT HV
  go_wp2_with fail
  go_ret
  rw [HG.out]
  exact ⟨rfl, HB6.out⟩
theorem lsame5 {n X : Nat} (h : lk n X) (hX : X < 18446744073709551616) (w : World) : Calls Tryz.prog 10 #[.float .f64 n, .float .f64 X] w fun e w' => e = .returned (.bool true) ∧ w' = w := by
  have kd := Ie.dsame n X h.1 hX
  rw [h.2] at kd
  go_enter Tryz.func10, Tryz.ntmps10
  go_wp2_with (go_at_call 36; refine (kd _).mono ?_; rintro e w' ⟨rfl, rfl⟩)
  go_ret
  exact ⟨rfl, rfl⟩
theorem not_fin {a : Nat} (h : isNaN a = false) : Ie.isInf a = !fin a := by
  unfold isNaN at h
  simp only [decide_eq_false_iff_not] at h
  unfold fin
  rcases Nat.lt_or_ge (mag a) 9218868437227405312 with h1 | h1
  · rw [decide_eq_true h1, Ie.isInf_not.2 (by omega)]; rfl
  · rw [decide_eq_false (by omega), Ie.isInf_iff.2 (by omega)]; rfl
set_option maxRecDepth 200000 in
theorem dfault (ao : Option Addr) (len cap : Nat) (xs : Nat → Nat) (w : World) (hl : FAt w ao len xs) (hx : Fls xs len) (hlen : len ≤ 35184372088832) :
    Calls Tryz.prog 50 #[.slice ao len cap] w fun r w' => r = .returned (.int .i64 (chk1 xs len)) ∧ w' = w := by
  by_cases h1 : 65536 < len
  · have hi : (65536 : Int) < (len : Int) := by omega
    have hd : decide ((65536 : Int) < (len : Int)) = true := decide_eq_true hi
    have hc : chk1 xs len = 2 := if_pos h1
    go_enter Tryz.func50, Tryz.ntmps50
    go_wp2
    go_ret
    rw [hc]
    exact ⟨rfl, rfl⟩
  · have hi : ¬ (65536 : Int) < (len : Int) := by omega
    have hd : decide ((65536 : Int) < (len : Int)) = false := decide_eq_false hi
    obtain ⟨b, off, hao, hc⟩ := hl
    have HX : Hid (Fls xs len) := hx
    have HC : Hid (∀ j, j < len → w.cell? ⟨b, off + j, none⟩ = some (.float .f64 (xs j))) := hc
    have HA : Hid (0 < len → ao = some ⟨b, off, none⟩) := hao
    clear hx hc hao
    go_enter Tryz.func50, Tryz.ntmps50
    go_wp2
    go_loopw [3, 4] (fun e i wr => ∃ (j : Nat) (iv : Bool), j ≤ len ∧ i = .int .i64 (j : Int) ∧ wr = w ∧ e = .int .i64 (if iv then 5 else 0) ∧ Hid (anyP (fun i => isNaN (xs i)) j = false ∧ anyP (fun i => !fin (xs i)) j = iv)) (fun _ i _ => len - (intOf i).toNat)
    case atStart => exact ⟨0, false, by omega, rfl, rfl, rfl, rfl, rfl⟩
    case round =>
      obtain ⟨j, iv, hj, rfl, hwr, rfl, HR⟩ := hrel
      subst hwr
      by_cases hlt : j < len
      · obtain rfl := HA.out (by omega)
        have hcx : wr.cell? ⟨b, off + j, none⟩ = some (.float .f64 (xs j)) := HC.out j hlt
        have hxl := HX.out j hlt
        have kn := Ie.dnan (xs j) hxl
        have kj := Ie.dinf (xs j) hxl
        cases hp : isNaN (xs j)
        · rw [hp] at kn
          rw [not_fin hp] at kj
          cases hf : !fin (xs j)
          · rw [hf] at kj
            go_wp2_with (first | (go_at_call 70; refine (kn _).mono ?_; rintro r w' ⟨rfl, hw⟩; rw [hw]; clear hw w') | (go_at_call 71; refine (kj _).mono ?_; rintro r w' ⟨rfl, hw⟩; rw [hw]; clear hw w'))
            go_roundw
            case rel => exact ⟨j + 1, iv, by omega, by simp, by trivial, rfl, anyP_succ HR.out.1 hp, by show (anyP _ j || (!fin (xs j))) = iv; rw [HR.out.2, hf, Bool.or_false]⟩
            case measure => simp [intOf]; omega
          · rw [hf] at kj
            go_wp2_with (first | (go_at_call 70; refine (kn _).mono ?_; rintro r w' ⟨rfl, hw⟩; rw [hw]; clear hw w') | (go_at_call 71; refine (kj _).mono ?_; rintro r w' ⟨rfl, hw⟩; rw [hw]; clear hw w'))
            go_roundw
            case rel => exact ⟨j + 1, true, by omega, by simp, by trivial, rfl, anyP_succ HR.out.1 hp, by show (anyP _ j || (!fin (xs j))) = true; rw [hf, Bool.or_true]⟩
            case measure => simp [intOf]; omega
        · rw [hp] at kn
          have hc4 : Hid (chk1 xs len = 4) := (by unfold chk1; rw [if_neg h1, anyP_hit (p := fun i => isNaN (xs i)) hp hlt]; rfl : chk1 xs len = 4)
          generalize (if iv then (5 : Int) else 0) = ev
          go_wp2_with (first | (go_at_call 70; refine (kn _).mono ?_; rintro r w' ⟨rfl, hw⟩; rw [hw]; clear hw w'))
          go_ret
          rw [hc4.out]
          exact ⟨rfl, rfl⟩
      · obtain rfl : j = len := by omega
        have hce : Hid (chk1 xs j = if iv then 5 else 0) := (by unfold chk1; rw [if_neg h1, HR.out.1, HR.out.2]; rfl : chk1 xs j = if iv then 5 else 0)
        generalize (if iv then (5 : Int) else 0) = ev at *
        go_wp2
        go_ret
        rw [hce.out]
        exact ⟨rfl, rfl⟩
theorem dn_storeU {w : World} {A : Value} {t : Bool × Nat × Int} {g : Nat} {s : Bool} {ao : Option Addr} {n cap : Nat} {e : Int} (h : DN w A t) (hg : w.heap[g]? = some (.cells #[.bool s, .slice ao n cap, .int .i64 e] 50 (0, 0))) (a b c : Value) : DN (((w.setCell ⟨g, 0, none⟩ a).setCell ⟨g, 1, none⟩ b).setCell ⟨g, 2, none⟩ c) A t := by
  obtain ⟨oo, cc, h1, h2⟩ := h
  exact ⟨oo, cc, h1, h2.nil, at_box h2.at_ rfl hg (by simp) (by simp) (by simp) a b c, h2.le, h2.small⟩
theorem utf_zero {m : Int} (hm : isM m = true) : tfF false true 0 0 m = 0 := by
  have := isM_iff.1 hm
  rcases (show m = 1 ∨ m = 2 ∨ m = 3 by omega) with rfl | rfl | rfl <;> decide +kernel
end Go.Proofs.YthkgklkhlcbmaaaGreatDoor
namespace Go.Proofs.YthkgklkhlcbmaaaGreatDoor
set_option linter.unusedVariables false
set_option linter.unusedSimpArgs false
open Go.ChangeShapes Go.WideShapes Go.Deep Go.RowKit Go.Fl64
theorem cellsF64 : Tryz.prog.cellsOf 25 = 1 := by kernel_rfl
theorem bytesF64 : Tryz.prog.bytesOf 25 = 8 := by kernel_rfl
theorem trod_flt {H : Type} {enc : TypeId × Value → H} {W : World} {base : Nat} {spare : Nat → Bool} {held : Bool} {fuel : Nat} {v : Value} {x : DataW H × List MemPlace}
    (h : DataW.trod enc Tryz.prog W base spare held fuel 25 [v] = some x) : ∃ b, v = .float .f64 b ∧ b < 18446744073709551616 := by
  cases fuel with
  | zero => simp [DataW.trod] at h
  | succ n =>
    cases v with
    | float k b =>
      simp only [DataW.trod, Tryz.underlying25] at h
      by_cases hk : k = .f64
      · subst hk
        by_cases hw : (Lit.float .f64 b).wf = true
        · exact ⟨b, rfl, by simpa [Lit.wf] using hw⟩
        · simp [hw] at h
      · simp [hk] at h
    | _ => simp [DataW.trod, Tryz.underlying25] at h
set_option maxRecDepth 100000 in
theorem open_floats {H : Type} {enc : TypeId × Value → H} {W : World} {base : Nat} {v : Value} {d : DataW H} {p : List MemPlace} (hval : Value.okWide Tryz.prog W .any base 22 v)
    (h : DataW.Trod enc Tryz.prog W 0 (fun _ => true) true 22 v d p) (hw : ∀ n ∈ d.weights Tryz.prog 22, n ≤ reachBytes) :
    ∃ ao len cap xs, v = .slice ao len cap ∧ FAt W ao len xs ∧ Fls xs len ∧ (len = 0 → (∃ ad, ao = some ad) ∨ (ao = none ∧ cap = 0)) ∧ len ≤ cap ∧ cap ≤ 17592186043904 := by
  obtain ⟨a0, len0, cap0, rfl⟩ := okWide_slice Tryz.underlying22 hval
  obtain ⟨fuel, hf⟩ := h
  rcases open_slice1 Tryz.underlying22 cellsF64 hf with ⟨hcs, hx⟩ | ⟨a, len, cap, m, n, V, D, Pl, hcs, hb, hl, hm, hmm, hx, hcell⟩
  · simp [Value.cells] at hcs
    obtain ⟨rfl, rfl, rfl⟩ := hcs
    exact ⟨none, 0, 0, fun _ => 0, rfl, ⟨0, 0, fun h => by omega, fun j hj => by omega⟩, fun i hi => by omega, fun _ => .inr ⟨rfl, rfl⟩, Nat.le_refl _, by omega⟩
  · simp [Value.cells] at hcs
    obtain ⟨rfl, rfl, rfl⟩ := hcs
    simp only [Prod.mk.injEq] at hx
    obtain ⟨rfl, rfl⟩ := hx
    simp only [if_true] at hmm
    subst hmm
    have hcap : m ≤ 17592186043904 := by
      have := hw ((((List.range len0).map D).length + ((List.range (m - len0)).map fun j => D (len0 + j)).length) * Tryz.prog.bytesOf 25) (by
        simp only [DataW.weights, Tryz.underlying22, List.mem_cons]
        simp)
      rw [bytesF64] at this
      simp only [List.length_map, List.length_range, reachBytes] at this
      omega
    have each : ∀ i, ∃ x, i < m → V i = .float .f64 x ∧ x < 18446744073709551616 := fun i => by
      by_cases hi : i < m
      · obtain ⟨x, h1, h2⟩ := trod_flt (hcell i hi).2
        exact ⟨x, fun _ => ⟨h1, h2⟩⟩
      · exact ⟨0, fun h => absurd h hi⟩
    obtain ⟨xs, hxs⟩ : ∃ xs : Nat → Nat, ∀ i, i < m → V i = .float .f64 (xs i) ∧ xs i < 18446744073709551616 := ⟨fun i => Classical.choose (each i), fun i hi => Classical.choose_spec (each i) hi⟩
    refine ⟨some a, len0, m, xs, rfl, ?_, fun i hi => (hxs i (by omega)).2, fun _ => .inl ⟨a, rfl⟩, hl, hcap⟩
    by_cases h0 : len0 = 0
    · exact ⟨0, 0, fun h => by omega, fun j hj => by omega⟩
    · obtain ⟨b, off, spot⟩ := a
      have hspot : spot = none := by simpa [Addr.add] using World.cell?_spot (hcell 0 (by omega)).1
      subst hspot
      refine ⟨b, off, fun _ => rfl, fun j hj => ?_⟩
      have := (hcell j (by omega)).1
      rw [(hxs j (by omega)).1] at this
      by_cases hj0 : j = 0
      · subst hj0; simpa [Addr.add] using this
      · simpa [Addr.add, hj0] using this
end Go.Proofs.YthkgklkhlcbmaaaGreatDoor
namespace Go.Proofs.YthkgklkhlcbmaaaGreatDoor
set_option linter.unusedVariables false
set_option linter.unusedSimpArgs false
open Go.RowKit Go.Fl64
def fcells (xs : Nat → Nat) (n : Nat) : List Value := (List.range n).map fun i => .float .f64 (xs i)
theorem info_f64 : (Tryz.prog.info? 25).map (fun i => (i.zero, i.size, i.bytes)) = some (some (.float .f64 0), 1, 8) := by kernel_rfl
theorem fcells_length (xs : Nat → Nat) (n : Nat) : (fcells xs n).length = n := by simp [fcells]
theorem fcells_get {xs : Nat → Nat} {n i : Nat} (h : i < n) : (fcells xs n)[i]? = some (.float .f64 (xs i)) := by simp [fcells, h]
theorem fat_of_row {w : World} {base n : Nat} {xs : Nat → Nat} {v : Value} (h : w.ownsRow base 25 1 v n (fcells xs n)) : ∃ ao cap, v = .slice ao n cap ∧ FAt w ao n xs ∧ n ≤ cap ∧ cap ≤ 9223372036854775807 := by
  rcases h.2 with ⟨rfl, rfl⟩ | ⟨g, cap, cur, rfl, hg, hc2, hc3, hc4, hc5, hc6⟩
  · exact ⟨none, 0, rfl, ⟨0, 0, fun h => by omega, fun j hj => by omega⟩, Nat.le_refl _, by omega⟩
  · refine ⟨some ⟨g, 0, none⟩, cap, rfl, ⟨g, 0, fun _ => rfl, fun j hj => ?_⟩, hc3, by unfold maxLen at hc4; omega⟩
    have h7 : (fcells xs n)[j]? = cur[j]? := by
      rw [← hc6, Nat.mul_one, List.getElem?_take, if_pos hj, Array.getElem?_toList]
    rw [fcells_get hj] at h7
    unfold World.cell?
    rw [hc2]
    show (if false then none else cur[0 + j]?) = _
    rw [if_neg (by decide), Nat.zero_add, ← h7]
set_option maxRecDepth 200000 in
theorem wpList_append_flts {w : World} {ops : Array Oper} {rest : List Oper} {o : Oper} {a : Act} {Q : Exit → Act → World → Prop} (hgd : o.guard = none) (s x : Operand)
    (ho : o.op = .call { callee := .builtin .append, args := #[s, x], argTypes := #[22, 22] }) (hs : a.eval s = .slice none 0 0) {ao : Option Addr} {n cap : Nat} {xs : Nat → Nat} (hx : a.eval x = .slice ao n cap) (hA : FAt w ao n xs) (hn : n = 0 → (∃ ad, ao = some ad) ∨ (ao = none ∧ cap = 0)) (hsm : n ≤ 17592186043904)
    (h : ∀ ao' cap' w', FAt w' ao' n xs → n ≤ cap' → cap' ≤ 9223372036854775807 → Below w.heap.size w w' → wpList Tryz.prog ops Q rest (a.put o.dst (.slice ao' n cap')) w') : wpList Tryz.prog ops Q (o :: rest) a w := by
  obtain ⟨i0, hi0, hz0, hz1, hz2⟩ := info_parts info_f64
  by_cases h0 : n = 0
  · subst h0
    rcases hn rfl with ⟨ad, rfl⟩ | ⟨rfl, rfl⟩
    · refine wpList_append_own _ hgd s x 22 ho w.heap.size 25 i0 (.float .f64 0) 1 8 Tryz.underlying22 hi0 hz0 hz1 hz2 rfl (by decide) (.slice none 0 0) 0 [] hs (World.ownsRow_nil w _ _ _) ad 0 cap [] hx (by simp) (by intro j u hj; simp at hj) (by intro u hu; simp at hu) (by unfold maxLen; omega) (by omega) (Nat.le_refl _) ?_
      intro v' w' _ r2 r3
      obtain rfl : v' = .slice none 0 0 := r3.2 ⟨rfl, rfl⟩
      exact h none 0 w' ⟨0, 0, fun h => by omega, fun j hj => by omega⟩ (Nat.le_refl _) (by omega) (Below.grown (Below.refl _ _) r2 (Nat.le_refl _) (fun k hk => by simp [Value.ownBlock] at hk))
    · exact wpList_append_own_none hgd s x 22 ho w.heap.size 25 i0 1 Tryz.underlying22 hi0 (.slice none 0 0) 0 [] hs (World.ownsRow_nil w _ _ _) hx (h none 0 w ⟨0, 0, fun h => by omega, fun j hj => by omega⟩ (Nat.le_refl _) (by omega) (Below.refl _ _))
  · obtain ⟨b, o', h1, h2⟩ := hA
    obtain rfl := h1 (by omega)
    refine wpList_append_own _ hgd s x 22 ho w.heap.size 25 i0 (.float .f64 0) 1 8 Tryz.underlying22 hi0 hz0 hz1 hz2 rfl (by decide) (.slice none 0 0) 0 [] hs (World.ownsRow_nil w _ _ _) ⟨b, o', none⟩ n cap (fcells xs n) hx (by rw [fcells_length, Nat.mul_one]) (fun j u hj => by
      have hjl : j < n := by
        have := (List.getElem?_eq_some_iff.1 hj).1
        rwa [fcells_length] at this
      rw [fcells_get hjl] at hj
      rw [show (⟨b, o', none⟩ : Addr).add j = ⟨b, o' + j, none⟩ by simp [Addr.add], ← hj]
      exact h2 j hjl) (by intro u hu; simp [fcells] at hu; obtain ⟨j, -, rfl⟩ := hu; rfl) (by unfold maxLen; omega) (by omega) (Nat.le_refl _) ?_
    intro v' w' r1 r2 _
    rw [Nat.zero_add, List.nil_append] at r1
    obtain ⟨ao', cap', rfl, f1, f2, f3⟩ := fat_of_row r1
    exact h ao' cap' w' f1 f2 f3 (Below.grown (Below.refl _ _) r2 (Nat.le_refl _) (fun k hk => by simp [Value.ownBlock] at hk))
end Go.Proofs.YthkgklkhlcbmaaaGreatDoor
namespace Go.Proofs.YthkgklkhlcbmaaaGreatDoor
set_option linter.unusedVariables false
set_option linter.unusedSimpArgs false
open Go Go.RowKit Go.Fl64 Go.Shelf
attribute [local go_sem] Oper.semAt_some
def TotG (w : World) (B g3 : Nat) (ts : Nat → Bool × Nat × Int) (k : Nat) (W : World) : Prop :=
  Below w.heap.size w W ∧ B ≤ W.heap.size ∧ W.heap[w.heap.size]? = some (.cells #[.bool false, .slice none 0 0, .int .i64 0] 59 (0, 0)) ∧ ∃ s ao n cap e, W.heap[g3]? = some (.cells #[.bool s, .slice ao n cap, .int .i64 e] 59 (0, 0)) ∧ PN W (.agg #[.bool s, .slice ao n cap, .int .i64 e]) (ts k)
theorem TotG.later {w : World} {B g3 : Nat} {ts : Nat → Bool × Nat × Int} {k : Nat} {A C : World} (h : TotG w B g3 ts k A) (hb : Below A.heap.size A C) : TotG w B g3 ts k C := by
  obtain ⟨h1, h2, h3, s, ao, n, cap, e, h4, h5⟩ := h
  exact ⟨h1.trans (hb.mono h1.size), Nat.le_trans h2 hb.size, box_later h3 hb (lt_of_box h3), s, ao, n, cap, e, box_later h4 hb (lt_of_box h4), h5.later hb⟩
theorem TotG.put {w : World} {B g3 : Nat} {ts : Nat → Bool × Nat × Int} {k l : Nat} {A : World} {o o' : Obj} (h : TotG w B g3 ts k A) (hB : w.heap.size ≤ B) (hl : B ≤ l) (ho : A.heap[l]? = some o) (hc : o.isCells = false) : TotG w B g3 ts k (A.putObj l o') := by
  obtain ⟨h1, h2, h3, s, ao, n, cap, e, h4, h5⟩ := h
  have hb : Below w.heap.size A (A.putObj l o') := (Below.refl w.heap.size A).grown (grownBy_putObj' A l o') (by have := (Array.getElem?_eq_some_iff.1 ho).1; omega) (fun k e => by cases e; omega)
  exact ⟨h1.trans hb, Nat.le_trans h2 hb.size, box_put h3 ho hc, s, ao, n, cap, e, box_put h4 ho hc, pn_put h5 ho hc⟩
set_option maxRecDepth 200000 in
theorem total_gen (gf : Nat) (lb : Array Value) (len : Nat) (ts tx : Nat → Bool × Nat × Int) (w : World) (hz : ts 0 = (false, 0, 0)) (hadd : ∀ k, k < len → Op2 84 (ts k) (tx k) (ts (k + 1))) (hT : Tab32 w)
    (eg : ∀ args w, (callFunc gf args).run Tryz.prog w = .ok (.enter gf args) w)
    (hseq : ∀ (l : Nat) (J : Nat → World → Prop) (W : World), Below w.heap.size w W → (∀ k A B, J k A → Below A.heap.size A B → J k B) →
      (∀ k v W', J k W' → k < len → PN W' v (tx k) → YieldAt Fence.wide 1 Tryz.prog l #[v] W' fun e W'' => e = .returned (.bool true) ∧ J (k + 1) W'' ∧ Below w.heap.size W' W'') → J 0 W →
      CallsIn Fence.wide 2 Tryz.prog gf (#[.func (.yield l) #[] #[]] ++ lb) W fun e W' => (∃ v, e = .returned v) ∧ J len W') :
    Calls Tryz.prog 44 #[.func (.func gf) #[] lb] w fun r w' => OutA w (ts len) r w' := by
  obtain ⟨W, hW⟩ : ∃ W, W = w.alloc (.cells #[.bool false, .slice none 0 0, .int .i64 0] 59) := ⟨_, rfl⟩
  have HX : Hid (Below w.heap.size w W ∧ W.heap[w.heap.size]? = some (.cells #[.bool false, .slice none 0 0, .int .i64 0] 59 (0, 0))) := ⟨by rw [hW]; exact (Below.refl _ _).alloc (Nat.le_refl _) _, by rw [hW]; exact heap_alloc_new _ _⟩
  have k1 := whole0_pn W (hT.later HX.out.1)
  refine (callsIn_wide (n := 3)).1 ?_
  refine callsIn_of_wp_marks Tryz.func44 rfl trivial ?_ rfl
  simp only [Tryz.ntmps44, List.size_toArray, List.length_cons, List.length_nil, Nat.reduceAdd, Nat.reduceSub, Array.replicate_succ, Array.replicate_zero, List.push_toArray, List.append_toArray, List.nil_append, List.cons_append]
  gi_wp2
  rw [← hW]
  refine ⟨trivial, ?_⟩
  refine (callsIn_wide.2 k1).mono ?_
  rintro r w1 ⟨s1, ao1, n1, cap1, ex1, rfl, hP1, hb1⟩
  obtain ⟨V, hV⟩ : ∃ V, V = w1.alloc (.cells #[.bool s1, .slice ao1 n1 cap1, .int .i64 ex1] 59) := ⟨_, rfl⟩
  have hbV : Below W.heap.size W V := by rw [hV]; exact hb1.alloc hb1.size _
  have hg3 : w.heap.size < w1.heap.size := Nat.lt_of_lt_of_le (lt_of_box HX.out.2) hb1.size
  have hsz : V.heap.size = w1.heap.size + 1 := by rw [hV]; simp
  have HI : Hid (TotG w V.heap.size w1.heap.size ts 0 V) := ⟨HX.out.1.trans (hbV.mono HX.out.1.size), Nat.le_refl _, box_later HX.out.2 hbV (lt_of_box HX.out.2), s1, ao1, n1, cap1, ex1, by rw [hV]; exact heap_alloc_new _ _, by rw [hV, hz]; exact hP1.later ((Below.refl _ _).alloc (Nat.le_refl _) _)⟩
  have hwV : w.heap.size ≤ V.heap.size := HI.out.1.size
  clear k1 hP1 hb1 hbV HX hW
  gi_wp2
  rw [← hV]
  clear hV
  generalize w1.heap.size = g3 at *
  refine range_pre rfl (by omega) (gf := gf) (lb := lb) rfl trivial eg rfl (N := len) (n₀ := w.heap.size) hwV
    (Pre := fun k v W' => PN W' v (tx k)) ?seq (TotG w V.heap.size g3 ts) (fun k A B h hb => h.later hb) (fun k A l o o' h hl ho hc => h.put hwV hl ho hc) HI.out
    (fun k a' W' => ∃ g4 s ao n cap e, V.heap.size ≤ g4 ∧ a' = { tmps := #[.func (.func gf) #[] lb, undef, .pointer (some ⟨w.heap.size, 0, none⟩), .pointer (some ⟨g3, 0, none⟩), .pointer (some ⟨g4, 0, none⟩), .agg #[.bool s1, .slice ao1 n1 cap1, .int .i64 ex1], .func (.func gf) #[] lb, .agg #[.bool s, .slice ao n cap, .int .i64 e], undef, undef, undef, undef, undef, undef, undef], defers := [] } ∧ W'.heap[g4]? = some (.cells #[.bool s, .slice ao n cap, .int .i64 e] 59 (0, 0)) ∧ PN W' (.agg #[.bool s, .slice ao n cap, .int .i64 e]) (tx k))
    ?put ?assign ?body ?done
  case seq =>
    intro l J W' hbW hJb hY h0
    exact hseq l J W' (HI.out.1.trans hbW) hJb hY h0
  case put =>
    rintro k a' A l o o' ⟨g4, s, ao, n, cap, e, h1, h2, h3, h4⟩ hl ho hc
    exact ⟨g4, s, ao, n, cap, e, h1, h2, box_put h3 ho hc, pn_put h4 ho hc⟩
  case assign =>
    intro l k v W' K hi hk hpre hK
    obtain ⟨s, ao, n, cap, e, rfl⟩ := hpre.shape
    have hB : V.heap.size ≤ W'.heap.size := hi.2.1
    have hq := hK { tmps := #[.func (.func gf) #[] lb, undef, .pointer (some ⟨w.heap.size, 0, none⟩), .pointer (some ⟨g3, 0, none⟩), .pointer (some ⟨W'.heap.size, 0, none⟩), .agg #[.bool s1, .slice ao1 n1 cap1, .int .i64 ex1], .func (.func gf) #[] lb, .agg #[.bool s, .slice ao n cap, .int .i64 e], undef, undef, undef, undef, undef, undef, undef], defers := [] } (W'.alloc (.cells #[.bool s, .slice ao n cap, .int .i64 e] 59)) ((Below.refl _ _).alloc (Nat.le_refl _) _)
      ⟨W'.heap.size, s, ao, n, cap, e, hB, rfl, heap_alloc_new _ _, hpre.later ((Below.refl _ _).alloc (Nat.le_refl _) _)⟩
    clear hK hi hpre
    gi_wp2
    exact hq
  case body =>
    rintro l k a' W' hi hk ⟨g4, s, ao, n, cap, e, hg4, rfl, hb4, hp4⟩
    obtain ⟨i1, i2, i3, s2, ao2, n2, cap2, ex2, i4, i5⟩ := hi
    obtain ⟨⟨a0, a1, a2⟩, -⟩ := box_cells i4
    obtain ⟨⟨b0, b1, b2⟩, -⟩ := box_cells hb4
    have ka := hadd k hk W' _ _ (hT.later i1) i5 hp4
    gi_wp2
    refine ⟨trivial, ?_⟩
    refine (CallsIn.inRound l (callsIn_wide.2 ka)).mono ?_
    rintro r w6 ⟨s6, ao6, n6, cap6, ex6, rfl, hP6, hb6⟩
    have z3 := box_later i4 hb6 (lt_of_box i4)
    obtain ⟨⟨y0, y1, y2⟩, y3, y4, y5⟩ := box_cells z3
    have hbx : Below (w.heap.size + 1) W' (((w6.setCell ⟨g3, 0, none⟩ (.bool s6)).setCell ⟨g3, 1, none⟩ (.slice ao6 n6 cap6)).setCell ⟨g3, 2, none⟩ (.int .i64 ex6)) := below_store3 (hb6.mono (by omega)) (by omega) _ _ _
    have HF : Hid (KeepsFrom V.heap.size W' (((w6.setCell ⟨g3, 0, none⟩ (.bool s6)).setCell ⟨g3, 1, none⟩ (.slice ao6 n6 cap6)).setCell ⟨g3, 2, none⟩ (.int .i64 ex6)) ∧ Below w.heap.size W' (((w6.setCell ⟨g3, 0, none⟩ (.bool s6)).setCell ⟨g3, 1, none⟩ (.slice ao6 n6 cap6)).setCell ⟨g3, 2, none⟩ (.int .i64 ex6)) ∧ TotG w V.heap.size g3 ts (k + 1) (((w6.setCell ⟨g3, 0, none⟩ (.bool s6)).setCell ⟨g3, 1, none⟩ (.slice ao6 n6 cap6)).setCell ⟨g3, 2, none⟩ (.int .i64 ex6))) :=
      ⟨(KeepsFrom.below hb6).trans ((((KeepsOthers.setCell _ _ _).trans (KeepsOthers.setCell _ _ _)).trans (KeepsOthers.setCell _ _ _)).from _), hbx.mono (by omega), i1.trans (hbx.mono (by omega)), Nat.le_trans i2 hbx.size, box_later i3 hbx (by omega), s6, ao6, n6, cap6, ex6, store3 _ _ _ z3, pn_storeG hP6 z3 _ _ _⟩
    clear ka a0 a1 a2 b0 b1 b2 hP6 hb6 z3 hbx i1 i2 i3 i4 i5 hb4 hp4 HI hadd hT hseq eg hsz
    gi_wp2
    exact HF.out
  case done =>
    intro D W' hD hi hK
    obtain ⟨i1, i2, i3, s2, ao2, n2, cap2, ex2, i4, i5⟩ := hi
    obtain ⟨⟨a0, a1, a2⟩, -⟩ := box_cells i4
    obtain ⟨⟨b0, b1, b2⟩, b3, b4, b5⟩ := box_cells i3
    have hK' := ((((KeepsOthers.setCell W' ⟨w.heap.size, 0, none⟩ (.bool s2)).trans (KeepsOthers.setCell _ ⟨w.heap.size, 1, none⟩ (.slice ao2 n2 cap2))).trans (KeepsOthers.setCell _ ⟨w.heap.size, 2, none⟩ (.int .i64 ex2))).same D _ hK rfl)
    clear hsz
    gi_wp2
    refine ⟨by simp, .inl ⟨_, _, rfl, run_takeDeferred hK', ?_⟩⟩
    have hbx : (((W'.setCell ⟨w.heap.size, 0, none⟩ (.bool s2)).setCell ⟨w.heap.size, 1, none⟩ (.slice ao2 n2 cap2)).setCell ⟨w.heap.size, 2, none⟩ (.int .i64 ex2)).heap[w.heap.size]? = some (.cells #[.bool s2, .slice ao2 n2 cap2, .int .i64 ex2] 59 (0, 0)) := store3 _ _ _ i3
    have hbl : Below w.heap.size w (((W'.setCell ⟨w.heap.size, 0, none⟩ (.bool s2)).setCell ⟨w.heap.size, 1, none⟩ (.slice ao2 n2 cap2)).setCell ⟨w.heap.size, 2, none⟩ (.int .i64 ex2)) := below_store3 i1 (Nat.le_refl _) _ _ _
    refine ⟨_, results_cell_row rfl _ _ w.heap.size 59 #[.bool s2, .slice ao2 n2 cap2, .int .i64 ex2] (0, 0) _ rfl (box_put hbx hK' rfl) Tryz.underlying59 rfl Tryz.info59, ?_⟩
    exact ⟨_, _, _, _, _, rfl, pn_put (pn_storeG i5 i3 _ _ _) hK' rfl, hbl.trans ((Below.refl w.heap.size _).grown (grownBy_putObj' _ D _) (by have := (Array.getElem?_eq_some_iff.1 hK').1; omega) (fun k e => by cases e; omega))⟩
attribute [local go_sem] Oper.semAt_some
theorem PN.laterB {w w' : World} {A : Value} {t : Bool × Nat × Int} (h : PN w A t) (hk : ∀ (g : Nat) (o : Obj), w.heap[g]? = some o → w'.heap[g]? = some o) : PN w' A t := by
  obtain ⟨ao, cap, h1, ao', cap', h2, h3, h4, b, off, h5, h6⟩ := h
  refine ⟨ao, cap, h1, ao', cap', h2, h3, h4, b, off, h5, fun i hi => ?_⟩
  have := h6 i hi
  unfold World.cell? at *
  cases hh : w.heap[b]? with
  | none => rw [hh] at this; simp at this
  | some o => rw [hk b o hh]; rw [hh] at this; exact this
set_option maxRecDepth 200000 in
theorem products1_in (n l Bs1 Bs2 len cap1 cap2 : Nat) (ao1 ao2 : Option Addr) (xs ys : Nat → Nat) (w W : World) (J : Nat → World → Prop) (hreach : len * 8 ≤ 140737488351232)
    (hfx : ∀ i, i < len → xs i < 18446744073709551616 ∧ mag (xs i) < 9218868437227405312) (hfy : ∀ i, i < len → ys i < 18446744073709551616 ∧ mag (ys i) < 9218868437227405312) (tx : Nat → Bool × Nat × Int) (hmul : ∀ k, k < len → Op2 91 (tF (xs k)) (tF (ys k)) (tx k)) (hT : Tab32 w) (hI : Ie.Tab w) (hl1 : FAt w ao1 len xs) (hl2 : FAt w ao2 len ys)
    (hJb : ∀ k A B, J k A → Below A.heap.size A B → J k B)
    (hY : ∀ k v W', J k W' → k < len → PN W' v (tx k) → YieldAt Fence.wide (n - 1) Tryz.prog l #[v] W' fun e W'' => e = .returned (.bool true) ∧ J (k + 1) W'' ∧ Below w.heap.size W' W'')
    (hbW : Below w.heap.size w W) (hBs1 : w.cell? ⟨Bs1, 0, none⟩ = some (.slice ao1 len cap1)) (hBs2 : w.cell? ⟨Bs2, 0, none⟩ = some (.slice ao2 len cap2)) (h0 : J 0 W) :
    CallsIn Fence.wide n Tryz.prog 90 #[.func (.yield l) #[] #[], .pointer (some ⟨Bs1, 0, none⟩), .pointer (some ⟨Bs2, 0, none⟩)] W fun e W' => (∃ v, e = .returned v) ∧ J len W' := by
  obtain ⟨b1, off1, hao1, hc1⟩ := hl1
  obtain ⟨b2, off2, hao2, hc2⟩ := hl2
  have hB1 : W.cell? ⟨Bs1, 0, none⟩ = some (.slice ao1 len cap1) := (hbW.cell (p := ⟨Bs1, 0, none⟩) (World.block_lt_of_cell? _ _ hBs1)).trans hBs1
  refine callsIn_of_wp Tryz.func90 rfl trivial ?_ rfl
  simp only [Tryz.ntmps90, List.size_toArray, List.length_cons, List.length_nil, Nat.reduceAdd, Nat.reduceSub, Array.replicate_succ, Array.replicate_zero, List.push_toArray, List.append_toArray, List.nil_append, List.cons_append]
  gi_wp2
  gi_loopw [10] (fun i wr => ∃ k : Nat, k ≤ len ∧ i = .int .i64 k ∧ J k wr ∧ Below w.heap.size w wr)
    (fun i _ => len - (intOf i).toNat)
  case atStart => exact ⟨0, Nat.zero_le _, rfl, h0, hbW⟩
  case round =>
    obtain ⟨k, hk, rfl, hJs, hnx⟩ := hrel
    by_cases hlt : k < len
    · obtain rfl := hao1 (by omega)
      obtain rfl := hao2 (by omega)
      have hcx : wr.cell? ⟨b1, off1 + k, none⟩ = some (.float .f64 (xs k)) := FAt.cellAt (ao := none) hc1 hlt hnx
      have hcy : wr.cell? ⟨b2, off2 + k, none⟩ = some (.float .f64 (ys k)) := FAt.cellAt (ao := none) hc2 hlt hnx
      have hcb : wr.cell? ⟨Bs2, 0, none⟩ = some (.slice (some ⟨b2, off2, none⟩) len cap2) := (hnx.cell (p := ⟨Bs2, 0, none⟩) (World.block_lt_of_cell? _ _ hBs2)).trans hBs2
      have HY : Hid (∀ w3 v, Below wr.heap.size wr w3 → PN w3 v (tx k) → YieldAt Fence.wide (n - 1) Tryz.prog l #[v] w3 fun e W'' => e = .returned (.bool true) ∧ J (k + 1) W'' ∧ Below w.heap.size w W'') := fun w3 v hb h => by
        obtain ⟨fn, tmps, assign, body, hy, hR⟩ := hY k v w3 (hJb k wr w3 hJs hb) hlt h
        refine ⟨fn, tmps, assign, body, hy, hR.mono ?_⟩
        rintro e W3 ⟨rfl, hJ3, hk3⟩
        exact ⟨rfl, hJ3, (hnx.trans (hb.mono hnx.size)).trans hk3⟩
      have HW : Hid (∀ w4, Below wr.heap.size wr w4 → Below w.heap.size w w4) := fun w4 hb => hnx.trans (hb.mono hnx.size)
      have kx : ∀ w4, Below wr.heap.size wr w4 → Calls Tryz.prog 82 #[.float .f64 (xs k)] w4 fun r w' => ∃ s ao n cap e, r = .returned (.agg #[.bool s, .slice ao n cap, .int .i64 e]) ∧ PN w' (.agg #[.bool s, .slice ao n cap, .int .i64 e]) (tF (xs k)) ∧ Below wr.heap.size wr w' ∧ Hid (∀ g o, w4.heap[g]? = some o → w'.heap[g]? = some o) := fun w4 hb =>
        (uexact_ok (xs k) (hfx k hlt).1 (hfx k hlt).2 w4 (hT.later (HW.out w4 hb)) (Tab.later hI (HW.out w4 hb))).mono fun r w' ⟨s, ao, n, cap, e, e1, o1, o2⟩ => ⟨s, ao, n, cap, e, e1, o1, hb.trans (o2.mono hb.size), fun g o hg => box_later hg o2 (lt_of_box hg)⟩
      have ky : ∀ w4, Below wr.heap.size wr w4 → Calls Tryz.prog 82 #[.float .f64 (ys k)] w4 fun r w' => ∃ s ao n cap e, r = .returned (.agg #[.bool s, .slice ao n cap, .int .i64 e]) ∧ PN w' (.agg #[.bool s, .slice ao n cap, .int .i64 e]) (tF (ys k)) ∧ Below wr.heap.size wr w' ∧ Hid (∀ g o, w4.heap[g]? = some o → w'.heap[g]? = some o) := fun w4 hb =>
        (uexact_ok (ys k) (hfy k hlt).1 (hfy k hlt).2 w4 (hT.later (HW.out w4 hb)) (Tab.later hI (HW.out w4 hb))).mono fun r w' ⟨s, ao, n, cap, e, e1, o1, o2⟩ => ⟨s, ao, n, cap, e, e1, o1, hb.trans (o2.mono hb.size), fun g o hg => box_later hg o2 (lt_of_box hg)⟩
      have km : ∀ w4 X Y, Below wr.heap.size wr w4 → PN w4 X (tF (xs k)) → PN w4 Y (tF (ys k)) → Calls Tryz.prog 91 #[X, Y] w4 fun r w' => ∃ s ao n cap e, r = .returned (.tuple #[.agg #[.bool s, .slice ao n cap, .int .i64 e], .int .i64 0]) ∧ PN w' (.agg #[.bool s, .slice ao n cap, .int .i64 e]) (tx k) ∧ Below wr.heap.size wr w' ∧ Hid (∀ g o, w4.heap[g]? = some o → w'.heap[g]? = some o) := fun w4 X Y hb h1 h2 =>
        (hmul k hlt w4 X Y (hT.later (HW.out w4 hb)) h1 h2).mono fun r w' ⟨s, ao, n, cap, e, e1, o1, o2⟩ => ⟨s, ao, n, cap, e, e1, o1, hb.trans (o2.mono hb.size), fun g o hg => box_later hg o2 (lt_of_box hg)⟩
      generalize hxe : xs k = xe at hcx kx km
      generalize hye : ys k = ye at hcy ky km
      have HK : Hid (∀ w', Below wr.heap.size wr w' → (w'.cell? ⟨Bs2, 0, none⟩ = some (.slice (some ⟨b2, off2, none⟩) len cap2) ∧ w'.cell? ⟨b2, off2 + k, none⟩ = some (.float .f64 ye)) ∧ Below wr.heap.size wr w') := fun w' hb => ⟨⟨(hb.cell (p := ⟨Bs2, 0, none⟩) (World.block_lt_of_cell? _ _ hcb)).trans hcb, (hb.cell (p := ⟨b2, off2 + k, none⟩) (World.block_lt_of_cell? _ _ hcy)).trans hcy⟩, hb⟩
      have hBR : Below wr.heap.size wr wr.drew := (Below.refl _ _).drew
      have hji : (0 : Int) ≤ (k : Int) := by omega
      have hjn : (k : Int) < (len : Int) := by omega
      clear hY hmul hc1 hc2 hao1 hao2 hfx hfy hJb hT hI hJs hnx hbW h0 hBs1 hBs2 hB1 hxe hye
      refine wpIn_wide.2 ?_
      go_upto_region 3 with fail
      go_cut [6, 7] from 15 to 25 (fun p q wx => ∃ g s ao n cap ex, p = .pointer (some ⟨g, 0, none⟩) ∧ Hid (UxP wr wx g s ao n cap ex (tx k)))
      case first =>
        clear HY HW
        go_region_held3 (fun w' => (w'.cell? ⟨Bs2, 0, none⟩ = some (.slice (some ⟨b2, off2, none⟩) len cap2) ∧ w'.cell? ⟨b2, off2 + k, none⟩ = some (.float .f64 ye)) ∧ Below wr.heap.size wr w') (first | (with_reducible assumption) | (refine HK.out _ ?_; first | (with_reducible assumption) | exact hBR) | (refine HK.out _ ?_; refine Below.alloc (by first | (with_reducible assumption) | exact hBR) (Below.size (by first | (with_reducible assumption) | exact hBR)) _) | (refine HK.out _ (below_store3 (by first | (with_reducible assumption) | exact hb7.alloc hb7.size _) (by first | exact Nat.le_refl _ | exact hb5.size | exact hb6.size | exact hb7.size) _ _ _)) | go_keep)
          (first | (go_at_call 82; first | (have hq := ho5; clear hq; refine (ky _ (by first | (with_reducible assumption) | exact hb5.alloc hb5.size _)).mono ?_; rintro r w6 ⟨s6, ao6, n6, cap6, ex6, rfl, ho6, hb6, hk6⟩; first | (have HBZ := hidOf (hk6.out _ _ HBY.out)) | (have HBZ : Hid (w6.heap[w5.heap.size]? = some (.cells #[.bool false, .slice none 0 0, .int .i64 0] 59 (0, 0))) := hk6.out _ _ (heap_alloc_new w5 _)) | (have HBZ : Hid True := trivial)) | (refine (kx _ (by first | (with_reducible assumption) | exact hBR | exact hBR.alloc hBR.size _)).mono ?_; rintro r w5 ⟨s5, ao5, n5, cap5, ex5, rfl, ho5, hb5, hk5⟩; first | (have HBY : Hid (w5.heap[wr.heap.size]? = some (.cells #[.bool false, .slice none 0 0, .int .i64 0] 59 (0, 0))) := hk5.out _ _ (heap_alloc_new wr.drew _)) | (have HBY : Hid True := trivial)))
                 | (go_at_call 91; refine (km _ _ _ (by first | (with_reducible assumption) | exact hb6.alloc hb6.size _) (by first | exact PN.laterB ho5 hk6.out | exact PN.laterB (ho5.later ((Below.refl _ _).alloc (Nat.le_refl _) _)) hk6.out | exact (PN.laterB ho5 hk6.out).later ((Below.refl _ _).alloc (Nat.le_refl _) _)) (by first | (with_reducible assumption) | exact ho6.later ((Below.refl _ _).alloc (Nat.le_refl _) _))).mono ?_; rintro r w7 ⟨s7, ao7, n7, cap7, ex7, rfl, hn7, hb7, hk7⟩; first | (have HBW := hidOf (hk7.out _ _ HBZ.out); obtain ⟨⟨x1, x2, x3⟩, x4, x5, x6⟩ := box_cells HBW.out) | (have HBW : Hid (w7.heap[w6.heap.size]? = some (.cells #[.bool false, .slice none 0 0, .int .i64 0] 59 (0, 0))) := hk7.out _ _ (heap_alloc_new w6 _); obtain ⟨⟨x1, x2, x3⟩, x4, x5, x6⟩ := box_cells HBW.out) | (have HBW : Hid True := trivial)))
        all_goals go_wp2_with fail
        all_goals go_meet
        all_goals first
          | exact ⟨_, _, _, _, _, _, rfl, UxP.new hn7 hb7⟩
          | exact ⟨_, _, _, _, _, _, rfl, UxP.put hn7 hb7 hb6.size HBW.out⟩
          | exact ⟨_, _, _, _, _, _, rfl, UxP.put hn7 hb7 hb5.size HBW.out⟩
          | exact ⟨_, _, _, _, _, _, rfl, UxP.put hn7 hb7 (Nat.le_refl _) HBW.out⟩
      case rest =>
        obtain ⟨W2, rfl⟩ : ∃ W2 : World, W2 = wc := ⟨_, rfl⟩
        obtain ⟨g4, s4, ao4, n4, cap4, ex4, rfl, HR⟩ := hcut
        obtain ⟨⟨d0, d1, d2⟩, -⟩ := box_cells HR.out.1
        obtain ⟨fn, tmps, assign, body, hy, hR⟩ := HY.out W2 _ HR.out.2.2.1 HR.out.2.2.2
        clear kx ky km HK hBR HY HW hcx hcy hcb
        go_upto_region 4 with fail
        refine (wpIn_wide (n := n)).1 ?_
        gi_wp2
        refine ⟨fun h => (by cases h), hR.mono ?_⟩
        rintro e W3 ⟨rfl, hJ3, hk3⟩
        clear hy hR HR d0 d1 d2
        gi_wp2
        go_wp2_with fail
        go_roundw
        case rel => exact ⟨k + 1, by omega, by simp, hJ3, hk3⟩
        case measure => simp [intOf]; omega
    · obtain rfl : k = len := by omega
      gi_wp2
      go_end0
      exact ⟨⟨_, rfl⟩, hJs⟩
end Go.Proofs.YthkgklkhlcbmaaaGreatDoor
namespace Go.Proofs.YthkgklkhlcbmaaaGreatDoor
set_option linter.unusedVariables false
set_option linter.unusedSimpArgs false
open Go.RowKit Go.Fl64
def chk2 (xs ys : Nat → Nat) (len : Nat) : Int := if 65536 < len then 2 else if anyP (fun i => isNaN (ys i)) len then 4 else if chk1 xs len = 0 then (if anyP (fun i => !fin (ys i)) len then 5 else 0) else chk1 xs len
set_option maxRecDepth 200000 in
theorem uchecked2 (m : Int) (g : Nat) (ao ao' : Option Addr) (len cap cap' : Nat) (xs ys : Nat → Nat) (w : World) (hm : isM m = true) (hg : w.cell? ⟨g, 0, none⟩ = some (.slice ao len cap)) (hg' : w.cell? ⟨g, 1, none⟩ = some (.slice ao' len cap')) (hl : FAt w ao len xs) (hl' : FAt w ao' len ys) (hx : Fls xs len) (hy : Fls ys len) (hlen : len ≤ 35184372088832) :
    Calls Tryz.prog 47 #[.int .i64 m, .slice (some ⟨g, 0, none⟩) 2 2] w fun r w' => r = .returned (.int .i64 (chk2 xs ys len)) ∧ Below w.heap.size w w' := by
  have kv := pvalid m w
  rw [hm] at kv
  have ka := uany ao len cap xs w hl hx hlen
  have HN : Hid (∀ W, Below w.heap.size w W → Calls Tryz.prog 87 #[.slice ao' len cap'] W fun r w' => r = .returned (.bool (anyP (fun i => isNaN (ys i)) len)) ∧ Below W.heap.size W w') := fun W hb => uany ao' len cap' ys W (hl'.later hb) hy hlen
  have HG : Hid (∀ W, Below w.heap.size w W → W.cell? ⟨g, 1, none⟩ = some (.slice ao' len cap')) := fun W hb => (hb.cell (p := ⟨g, 1, none⟩) (World.block_lt_of_cell? _ _ hg')).trans hg'
  have HF : Hid (∀ W, Below w.heap.size w W → Calls Tryz.prog 88 #[.slice ao len cap] W fun r w' => r = .returned (.bool (!anyP (fun i => !fin (xs i)) len)) ∧ Below W.heap.size W w') := fun W hb => uallfin ao len cap xs W (hl.later hb) hx hlen
  have HF' : Hid (∀ W, Below w.heap.size w W → Calls Tryz.prog 88 #[.slice ao' len cap'] W fun r w' => r = .returned (.bool (!anyP (fun i => !fin (ys i)) len)) ∧ Below W.heap.size W w') := fun W hb => uallfin ao' len cap' ys W (hl'.later hb) hy hlen
  clear hl hx hm hl' hy hg'
  go_enter Tryz.func47, Tryz.ntmps47
  go_wp2_with fail
  refine kv.mono ?_
  rintro r w' ⟨rfl, hw⟩
  rw [hw]
  clear hw kv w'
  go_wp2_with fail
  go_loopw [6, 16] (fun e i wr => ∃ (j : Nat), i = .int .i64 (j : Int) ∧ ((j = 0 ∧ e = .int .i64 0 ∧ wr = w) ∨ (j = 1 ∧ e = .int .i64 (chk1 xs len) ∧ Hid (Below w.heap.size w wr ∧ ¬ 65536 < len)) ∨ (j = 2 ∧ e = .int .i64 (chk2 xs ys len) ∧ Hid (Below w.heap.size w wr)))) (fun _ i _ => 2 - (intOf i).toNat)
  case atStart => exact ⟨0, rfl, .inl ⟨rfl, rfl, rfl⟩⟩
  case round =>
    obtain ⟨j, rfl, ⟨rfl, rfl, hwr⟩ | ⟨rfl, rfl, HB⟩ | ⟨rfl, rfl, HB⟩⟩ := hrel
    · subst hwr
      clear HN HG HF'
      by_cases h1 : 65536 < len
      · have hi : (65536 : Int) < (len : Int) := by omega
        have hd : decide ((65536 : Int) < (len : Int)) = true := decide_eq_true hi
        have hc : Hid (chk2 xs ys len = 2) := (if_pos h1 : chk2 xs ys len = 2)
        clear ka HF
        go_wp2_with fail
        go_ret
        rw [hc.out]
        exact ⟨rfl, Below.refl _ _⟩
      · have hi : ¬ (65536 : Int) < (len : Int) := by omega
        have hd : decide ((65536 : Int) < (len : Int)) = false := decide_eq_false hi
        cases h2 : anyP (fun i => isNaN (xs i)) len
        · rw [h2] at ka
          go_wp2_with fail
          refine ka.mono ?_
          rintro r w2 ⟨rfl, hb2⟩
          have kf := HF.out w2 hb2
          have HB2 : Hid (Below wr.heap.size wr w2) := hb2
          clear ka hb2 HF
          cases h3 : anyP (fun i => !fin (xs i)) len
          · rw [h3] at kf
            have hc : Hid (chk1 xs len = 0) := (by unfold chk1; rw [if_neg h1, h2, h3]; rfl : chk1 xs len = 0)
            go_wp2_with fail
            refine kf.mono ?_
            rintro r w3 ⟨rfl, hb3⟩
            have HB3 : Hid (Below wr.heap.size wr w3) := HB2.out.trans (hb3.mono HB2.out.size)
            clear kf hb3 HB2 h2 h3
            go_wp2_with fail
            go_roundw
            case rel => exact ⟨1, by simp, .inr (.inl ⟨rfl, by rw [hc.out], HB3.out, h1⟩)⟩
            case measure => simp [intOf]
          · rw [h3] at kf
            have hc : Hid (chk1 xs len = 5) := (by unfold chk1; rw [if_neg h1, h2, h3]; rfl : chk1 xs len = 5)
            go_wp2_with fail
            refine kf.mono ?_
            rintro r w3 ⟨rfl, hb3⟩
            have HB3 : Hid (Below wr.heap.size wr w3) := HB2.out.trans (hb3.mono HB2.out.size)
            clear kf hb3 HB2 h2 h3
            go_wp2_with fail
            go_roundw
            case rel => exact ⟨1, by simp, .inr (.inl ⟨rfl, by rw [hc.out], HB3.out, h1⟩)⟩
            case measure => simp [intOf]
        · rw [h2] at ka
          have hc : Hid (chk1 xs len = 4) := (by unfold chk1; rw [if_neg h1, h2]; rfl : chk1 xs len = 4)
          go_wp2_with fail
          refine ka.mono ?_
          rintro r w2 ⟨rfl, hb2⟩
          have HB2 : Hid (Below wr.heap.size wr w2) := hb2
          clear ka hb2 HF h2
          go_wp2_with fail
          go_roundw
          case rel => exact ⟨1, by simp, .inr (.inl ⟨rfl, by rw [hc.out], HB2.out, h1⟩)⟩
          case measure => simp [intOf]
    · clear ka HF
      have h1 := HB.out.2
      have hi : ¬ (65536 : Int) < (len : Int) := by omega
      have hd : decide ((65536 : Int) < (len : Int)) = false := decide_eq_false hi
      have hgc := HG.out wr HB.out.1
      have kn := HN.out wr HB.out.1
      clear HN HG
      cases h2 : anyP (fun i => isNaN (ys i)) len
      · rw [h2] at kn
        by_cases h5 : chk1 xs len = 0
        · have e5 : (chk1 xs len == 0) = true := by rw [h5]; rfl
          cases h3 : anyP (fun i => !fin (ys i)) len
          · have hc : Hid (chk2 xs ys len = 0) := (by unfold chk2; rw [if_neg h1, h2, h3, if_pos h5]; rfl : chk2 xs ys len = 0)
            rw [h5]
            go_wp2_with fail
            refine kn.mono ?_
            rintro r w2 ⟨rfl, hb2⟩
            have HB2 : Hid (Below w.heap.size w w2) := HB.out.1.trans (hb2.mono HB.out.1.size)
            have kf := HF'.out w2 HB2.out
            rw [h3] at kf
            clear kn hb2 h2 h3 h5 e5
            go_wp2_with fail
            refine kf.mono ?_
            rintro r w3 ⟨rfl, hb3⟩
            have HB3 : Hid (Below w.heap.size w w3) := HB2.out.trans (hb3.mono HB2.out.size)
            clear kf hb3 HB2
            go_wp2_with fail
            go_roundw
            case rel => exact ⟨2, by simp, .inr (.inr ⟨rfl, by rw [hc.out], HB3⟩)⟩
            case measure => simp [intOf]
          · have hc : Hid (chk2 xs ys len = 5) := (by unfold chk2; rw [if_neg h1, h2, h3, if_pos h5]; rfl : chk2 xs ys len = 5)
            rw [h5]
            go_wp2_with fail
            refine kn.mono ?_
            rintro r w2 ⟨rfl, hb2⟩
            have HB2 : Hid (Below w.heap.size w w2) := HB.out.1.trans (hb2.mono HB.out.1.size)
            have kf := HF'.out w2 HB2.out
            rw [h3] at kf
            clear kn hb2 h2 h3 h5 e5
            go_wp2_with fail
            refine kf.mono ?_
            rintro r w3 ⟨rfl, hb3⟩
            have HB3 : Hid (Below w.heap.size w w3) := HB2.out.trans (hb3.mono HB2.out.size)
            clear kf hb3 HB2
            go_wp2_with fail
            go_roundw
            case rel => exact ⟨2, by simp, .inr (.inr ⟨rfl, by rw [hc.out], HB3⟩)⟩
            case measure => simp [intOf]
        · have e5 : (chk1 xs len == 0) = false := beq_eq_false_iff_ne.2 h5
          have hc : Hid (chk2 xs ys len = chk1 xs len) := (by unfold chk2; rw [if_neg h1, h2, if_neg (by decide), if_neg h5] : chk2 xs ys len = chk1 xs len)
          generalize chk1 xs len = c1 at *
          go_wp2_with fail
          refine kn.mono ?_
          rintro r w2 ⟨rfl, hb2⟩
          have HB2 : Hid (Below w.heap.size w w2) := HB.out.1.trans (hb2.mono HB.out.1.size)
          clear kn hb2 h2
          go_wp2_with fail
          go_roundw
          case rel => exact ⟨2, by simp, .inr (.inr ⟨rfl, by rw [hc.out], HB2⟩)⟩
          case measure => simp [intOf]
      · rw [h2] at kn
        have hc : Hid (chk2 xs ys len = 4) := (by unfold chk2; rw [if_neg h1, h2]; rfl : chk2 xs ys len = 4)
        generalize chk1 xs len = c1 at *
        go_wp2_with fail
        refine kn.mono ?_
        rintro r w2 ⟨rfl, hb2⟩
        have HB2 : Hid (Below w.heap.size w w2) := HB.out.1.trans (hb2.mono HB.out.1.size)
        clear kn hb2 h2
        go_wp2_with fail
        go_roundw
        case rel => exact ⟨2, by simp, .inr (.inr ⟨rfl, by rw [hc.out], HB2⟩)⟩
        case measure => simp [intOf]
    · clear ka HF HN HG HF'
      go_wp2_with fail
      go_ret
      exact ⟨rfl, HB.out⟩
def tPr (xs ys : Nat → Nat) (k : Nat) : Bool × Nat × Int := tP (tF (xs k)) (tF (ys k))
def tDot (xs ys : Nat → Nat) : Nat → Bool × Nat × Int
  | 0 => (false, 0, 0)
  | k + 1 => tS (tDot xs ys k) (tPr xs ys k)
theorem tPr_fits (xs ys : Nat → Nat) (k : Nat) : Fits (-2148) 2050 (tPr xs ys k).2.1 (tPr xs ys k).2.2 := (tP_fits (tF_fits (xs k)) (tF_fits (ys k))).mono (by omega) (by omega)
theorem tPr_okR (xs ys : Nat → Nat) (k : Nat) : okR (!((tF (xs k)).1 == (tF (ys k)).1)) ((tF (xs k)).2.1 * (tF (ys k)).2.1) ((tF (xs k)).2.2 + (tF (ys k)).2.2) = true := (Fits.mul (tF_fits (xs k)) (tF_fits (ys k))).ok (by omega) (by omega) (by omega)
theorem tPr_ok (xs ys : Nat → Nat) (k : Nat) : Ok (tPr xs ys k) := ok_cn (tPr_okR xs ys k)
theorem tPr_mul (xs ys : Nat → Nat) (k : Nat) : Op2 91 (tF (xs k)) (tF (ys k)) (tPr xs ys k) := mul_op (tF_ok _) (tF_ok _) (tPr_okR xs ys k)
theorem vz_fits_le {K : Nat} {lo hi : Int} {t : Bool × Nat × Int} (h : Fits lo hi t.2.1 t.2.2) (hlo : 0 ≤ lo + K) {N : Nat} (hN : (N : Int) = hi + K) : (vz K t.1 t.2.1 t.2.2).natAbs ≤ 2 ^ N := by
  rw [vz_abs]
  rcases h with h | ⟨h1, h2, h3⟩
  · rw [h, Nat.zero_mul]; exact Nat.zero_le _
  · rw [show N = (hi - t.2.2).toNat + (t.2.2 + K).toNat by omega, Nat.pow_add]
    exact Nat.mul_le_mul_right _ (Nat.le_of_lt h3)
theorem tDot_num (xs ys : Nat → Nat) {K N : Nat} (hK : 100000 ≤ K) (hN : N = 2050 + K) : ∀ k : Nat, k ≤ 65536 → Ok (tDot xs ys k) ∧ Fits (-2148) 2067 (tDot xs ys k).2.1 (tDot xs ys k).2.2 ∧ (vz K (tDot xs ys k).1 (tDot xs ys k).2.1 (tDot xs ys k).2.2).natAbs ≤ k * 2 ^ N
  | 0, _ => ⟨by show Ok (false, 0, 0); unfold Ok; decide +kernel, .inl rfl, by show (vz K false 0 0).natAbs ≤ _; rw [vz_abs]; simp⟩
  | k + 1, hk => by
    obtain ⟨o, f, v⟩ := tDot_num xs ys hK hN k (by omega)
    have ft : Fits (-2148) 2067 (tPr xs ys k).2.1 (tPr xs ys k).2.2 := (tPr_fits xs ys k).mono (Int.le_refl _) (by omega)
    have ok : Ok (tDot xs ys (k + 1)) := ok_cn (tS_okR f ft (by omega) (by omega) (by omega))
    have fs : Fits (-2148) 2068 (tDot xs ys (k + 1)).2.1 (tDot xs ys (k + 1)).2.2 := tS_fits f ft
    obtain ⟨-, f2, f3, -, -⟩ := o.facts
    obtain ⟨-, g2, g3, -, -⟩ := (tPr_ok xs ys k).facts
    have hv : (vz K (tDot xs ys (k + 1)).1 (tDot xs ys (k + 1)).2.1 (tDot xs ys (k + 1)).2.2).natAbs ≤ (k + 1) * 2 ^ N := by
      show (vz K (tS (tDot xs ys k) (tPr xs ys k)).1 (tS (tDot xs ys k) (tPr xs ys k)).2.1 (tS (tDot xs ys k) (tPr xs ys k)).2.2).natAbs ≤ _
      rw [vz_tS f ft (by omega) (by omega) (by omega), Nat.add_mul, Nat.one_mul]
      have h1 := vz_fits_le (K := K) (N := N) (tPr_fits xs ys k) (by omega) (by omega)
      exact Nat.le_trans (Int.natAbs_add_le _ _) (Nat.add_le_add v h1)
    refine ⟨ok, fits_small (K := K) fs (by omega) ?_, hv⟩
    rw [vz_abs] at hv
    refine Nat.lt_of_le_of_lt hv ?_
    have e : ((2067 : Int) + K).toNat = 17 + N := by omega
    rw [e, Nat.pow_add 2 17 N]
    have hp := Nat.two_pow_pos N
    have h17 : k + 1 < 131072 := by omega
    rw [show (2 : Nat) ^ 17 = 131072 by decide]
    generalize 2 ^ N = P at *
    exact Nat.mul_lt_mul_of_pos_right h17 hp
theorem tDot_ok (xs ys : Nat → Nat) {k : Nat} (hk : k ≤ 65536) : Ok (tDot xs ys k) ∧ Fits (-2148) 2067 (tDot xs ys k).2.1 (tDot xs ys k).2.2 := by
  obtain ⟨K, hK⟩ : ∃ K : Nat, 100000 ≤ K := ⟨100000, Nat.le_refl _⟩
  obtain ⟨N, hN⟩ : ∃ N : Nat, N = 2050 + K := ⟨_, rfl⟩
  have h := tDot_num xs ys hK hN k hk
  exact ⟨h.1, h.2.1⟩
theorem tDot_add (xs ys : Nat → Nat) {k : Nat} (hk : k ≤ 65536) : Op2 84 (tDot xs ys k) (tPr xs ys k) (tDot xs ys (k + 1)) :=
  add_op (tDot_ok xs ys hk).1 (tPr_ok xs ys k) (tS_okR (tDot_ok xs ys hk).2 ((tPr_fits xs ys k).mono (Int.le_refl _) (by omega)) (by omega) (by omega) (by omega))
theorem uproducts (ao ao' : Option Addr) (len cap len' cap' : Nat) (w : World) : Calls Tryz.prog 55 #[.slice ao len cap, .slice ao' len' cap'] w fun r w' => r = .returned (.func (.func 90) #[] #[.pointer (some ⟨w.heap.size, 0, none⟩), .pointer (some ⟨w.heap.size + 1, 0, none⟩)]) ∧ w' = (w.alloc (.cells #[.slice ao len cap] 22)).alloc (.cells #[.slice ao' len' cap'] 22) := by
  go_enter Tryz.func55, Tryz.ntmps55
  go_wp2
  go_ret
  exact ⟨rfl, rfl⟩
theorem udot_len (ao ao' : Option Addr) (len cap len' cap' : Nat) (m : Int) (w : World) (hne : len ≠ len') : Calls Tryz.prog 23 #[.slice ao len cap, .slice ao' len' cap', .int .i64 m] w fun r w' => r = .returned (.tuple #[.float .f64 0, .int .i64 1]) ∧ Below w.heap.size w w' := by
  have hnn : ((len : Int) != (len' : Int)) = true := by simp; omega
  go_enter Tryz.func23, Tryz.ntmps23
  go_wp2_with fail
  refine bodyPost_ret (results_tmp2 rfl _ _ _) rfl ?_
  exact ⟨rfl, Below.refl _ _⟩
set_option maxRecDepth 200000 in
theorem udot_err (ao ao' : Option Addr) (len cap cap' : Nat) (m c : Int) (w : World) (hc : (c == 0) = false)
    (k : ∀ W g, Below w.heap.size w W → W.cell? ⟨g, 0, none⟩ = some (.slice ao len cap) → W.cell? ⟨g, 1, none⟩ = some (.slice ao' len cap') → Calls Tryz.prog 47 #[.int .i64 m, .slice (some ⟨g, 0, none⟩) 2 2] W fun r w' => r = .returned (.int .i64 c) ∧ Below W.heap.size W w') :
    Calls Tryz.prog 23 #[.slice ao len cap, .slice ao' len cap', .int .i64 m] w fun r w' => r = .returned (.tuple #[.float .f64 0, .int .i64 c]) ∧ Below w.heap.size w w' := by
  obtain ⟨V, hV⟩ : ∃ V, V = w.alloc (.cells #[.slice ao len cap, .slice ao' len cap'] 22) := ⟨_, rfl⟩
  have hb : Below w.heap.size w V := by rw [hV]; exact (Below.refl _ _).alloc (Nat.le_refl _) _
  have k1 := k V w.heap.size hb (by unfold World.cell?; rw [hV, heap_alloc_new]; rfl) (by unfold World.cell?; rw [hV, heap_alloc_new]; rfl)
  have HB : Hid (Below w.heap.size w V) := hb
  have hc' : (c != 0) = true := by rw [bne, hc]; rfl
  have hnn : ((len : Int) != (len : Int)) = false := by simp
  clear k hb
  go_enter Tryz.func23, Tryz.ntmps23
  go_wp2_with fail
  rw [← hV]
  clear hV
  refine k1.mono ?_
  rintro r w1 ⟨rfl, hb1⟩
  have HF : Hid (Below w.heap.size w w1) := HB.out.trans (hb1.mono HB.out.size)
  clear k1 hb1 HB
  go_wp2_with fail
  refine bodyPost_ret (results_tmp2 rfl _ _ _) rfl ?_
  exact ⟨rfl, HF.out⟩
set_option maxRecDepth 200000 in
theorem udot_ok (ao ao' : Option Addr) (len cap cap' F : Nat) (m : Int) (ts : Bool × Nat × Int) (w : World)
    (k : ∀ W g, Below w.heap.size w W → W.cell? ⟨g, 0, none⟩ = some (.slice ao len cap) → W.cell? ⟨g, 1, none⟩ = some (.slice ao' len cap') → Calls Tryz.prog 47 #[.int .i64 m, .slice (some ⟨g, 0, none⟩) 2 2] W fun r w' => r = .returned (.int .i64 0) ∧ Below W.heap.size W w')
    (kT : ∀ W B1 B2, Below w.heap.size w W → W.cell? ⟨B1, 0, none⟩ = some (.slice ao len cap) → W.cell? ⟨B2, 0, none⟩ = some (.slice ao' len cap') → Calls Tryz.prog 44 #[.func (.func 90) #[] #[.pointer (some ⟨B1, 0, none⟩), .pointer (some ⟨B2, 0, none⟩)]] W fun r w' => OutA W ts r w')
    (kR : ∀ W A, Below w.heap.size w W → PN W A ts → Calls Tryz.prog 42 #[A, .int .i64 m] W fun r w' => r = .returned (.float .f64 F) ∧ Below W.heap.size W w') :
    Calls Tryz.prog 23 #[.slice ao len cap, .slice ao' len cap', .int .i64 m] w fun r w' => r = .returned (.tuple #[.float .f64 F, .int .i64 0]) ∧ Below w.heap.size w w' := by
  obtain ⟨V, hV⟩ : ∃ V, V = w.alloc (.cells #[.slice ao len cap, .slice ao' len cap'] 22) := ⟨_, rfl⟩
  have hb : Below w.heap.size w V := by rw [hV]; exact (Below.refl _ _).alloc (Nat.le_refl _) _
  have k1 := k V w.heap.size hb (by unfold World.cell?; rw [hV, heap_alloc_new]; rfl) (by unfold World.cell?; rw [hV, heap_alloc_new]; rfl)
  have HB : Hid (Below w.heap.size w V) := hb
  have HT : Hid _ := kT
  have HR : Hid _ := kR
  have hnn : ((len : Int) != (len : Int)) = false := by simp
  clear k hb kT kR
  go_enter Tryz.func23, Tryz.ntmps23
  go_wp2_with fail
  rw [← hV]
  clear hV
  refine k1.mono ?_
  rintro r w2 ⟨rfl, hb1⟩
  have HF2 : Hid (Below w.heap.size w w2) := HB.out.trans (hb1.mono HB.out.size)
  clear k1 hb1 HB
  have k3 := uproducts ao ao' len cap len cap' w2
  go_wp2_with fail
  refine k3.mono ?_
  rintro r w3 ⟨rfl, hw⟩
  have hb3 : Below w2.heap.size w2 w3 := by rw [hw]; exact ((Below.refl _ _).alloc (Nat.le_refl _) _).alloc (by simp) _
  have c1 : w3.cell? ⟨w2.heap.size, 0, none⟩ = some (.slice ao len cap) := by
    unfold World.cell?
    rw [hw, (Below.heap_alloc _ _ _ (by simp)).trans (heap_alloc_new w2 _)]; rfl
  have c2 : w3.cell? ⟨w2.heap.size + 1, 0, none⟩ = some (.slice ao' len cap') := by
    unfold World.cell?
    have := heap_alloc_new (w2.alloc (.cells #[.slice ao len cap] 22)) (.cells #[.slice ao' len cap'] 22)
    rw [World.size_alloc] at this
    rw [hw, this]; rfl
  have HF3 : Hid (Below w.heap.size w w3) := HF2.out.trans (hb3.mono HF2.out.size)
  have k4 := HT.out w3 w2.heap.size (w2.heap.size + 1) HF3.out c1 c2
  clear k3 hw hb3 c1 c2 HF2
  generalize w2.heap.size = g2 at *
  go_wp2_with fail
  refine k4.mono ?_
  rintro r w4 ⟨s4, ao4, n4, cap4, ex4, rfl, hP4, hb4⟩
  have HF4 : Hid (Below w.heap.size w w4) := HF3.out.trans (hb4.mono HF3.out.size)
  have k5 := HR.out w4 _ HF4.out hP4
  clear k4 hP4 hb4 HF3 HT HR
  go_wp2_with fail
  refine k5.mono ?_
  rintro r w5 ⟨rfl, hb5⟩
  have HF5 : Hid (Below w.heap.size w w5) := HF4.out.trans (hb5.mono HF4.out.size)
  clear k5 hb5 HF4
  go_wp2_with fail
  refine bodyPost_ret (results_tmp2 rfl _ _ _) rfl ?_
  exact ⟨rfl, HF5.out⟩
end Go.Proofs.YthkgklkhlcbmaaaGreatDoor
