/- Own work: contracts of the program's functions, part 13: UB5 UB6 UB7 UB8 UB9. -/
import Derived.Test.YthkgklkhlcbmaaaGreatDoorA12

set_option maxHeartbeats 16000000
namespace Go.Proofs.YthkgklkhlcbmaaaGreatDoor
set_option linter.unusedVariables false
set_option linter.unusedSimpArgs false
open Go.RowKit Go.Fl64
set_option maxRecDepth 200000 in
theorem uex_err (ao : Option Addr) (len cap : Nat) (m c : Int) (w : World) (hc : (c == 0) = false)
    (k : ∀ W g, Below w.heap.size w W → W.cell? ⟨g, 0, none⟩ = some (.slice ao len cap) → Calls Tryz.prog 47 #[.int .i64 m, .slice (some ⟨g, 0, none⟩) 1 1] W fun r w' => r = .returned (.int .i64 c) ∧ Below W.heap.size W w') :
    Calls Tryz.prog 21 #[.slice ao len cap, .int .i64 m] w fun r w' => r = .returned (.tuple #[.float .f64 0, .int .i64 c]) ∧ Below w.heap.size w w' := by
  obtain ⟨V, hV⟩ : ∃ V, V = w.alloc (.cells #[.slice ao len cap] 22) := ⟨_, rfl⟩
  have hb : Below w.heap.size w V := by rw [hV]; exact (Below.refl _ _).alloc (Nat.le_refl _) _
  have k1 := k V w.heap.size hb (by unfold World.cell?; rw [hV, heap_alloc_new]; rfl)
  have HB : Hid (Below w.heap.size w V) := hb
  have hc' : (c != 0) = true := by rw [bne, hc]; rfl
  clear k hb
  go_enter Tryz.func21, Tryz.ntmps21
  go_wp2_with fail
  rw [← hV]
  clear hV
  refine k1.mono ?_
  rintro r w1 ⟨rfl, hb1⟩
  have HF : Hid (Below w.heap.size w w1) := HB.out.trans (hb1.mono HB.out.size)
  clear k1 hb1 HB
  go_wp2_with fail
  refine bodyPost_ret (results_tmp2 rfl _ _ _) rfl ?_
  exact ⟨rfl, HF.out⟩
set_option maxRecDepth 200000 in
theorem uex_ok (ao : Option Addr) (len cap F x0 : Nat) (m : Int) (mn : Bool) (ts : Bool × Nat × Int) (w : World)
    (hmn : mn = true → 0 < len ∧ (∀ W, Below w.heap.size w W → ∃ b off, ao = some ⟨b, off, none⟩ ∧ W.cell? ⟨b, off, none⟩ = some (.float .f64 x0)))
    (k : ∀ W g, Below w.heap.size w W → W.cell? ⟨g, 0, none⟩ = some (.slice ao len cap) → Calls Tryz.prog 47 #[.int .i64 m, .slice (some ⟨g, 0, none⟩) 1 1] W fun r w' => r = .returned (.int .i64 0) ∧ Below W.heap.size W w')
    (kM : 0 < len → ∀ W, Below w.heap.size w W → Calls Tryz.prog 48 #[.slice ao len cap] W fun r w' => r = .returned (.bool mn) ∧ Below W.heap.size W w')
    (kT : ∀ W Bs, Below w.heap.size w W → W.cell? ⟨Bs, 0, none⟩ = some (.slice ao len cap) → Calls Tryz.prog 44 #[.func (.func 85) #[] #[.pointer (some ⟨Bs, 0, none⟩)]] W fun r w' => OutA W ts r w')
    (kR : ∀ W A, Below w.heap.size w W → PN W A ts → Calls Tryz.prog 42 #[A, .int .i64 m] W fun r w' => r = .returned (.float .f64 F) ∧ Below W.heap.size W w') :
    Calls Tryz.prog 21 #[.slice ao len cap, .int .i64 m] w fun r w' => r = .returned (.tuple #[.float .f64 (if mn then x0 else F), .int .i64 0]) ∧ Below w.heap.size w w' := by
  obtain ⟨V, hV⟩ : ∃ V, V = w.alloc (.cells #[.slice ao len cap] 22) := ⟨_, rfl⟩
  have hb : Below w.heap.size w V := by rw [hV]; exact (Below.refl _ _).alloc (Nat.le_refl _) _
  have k1 := k V w.heap.size hb (by unfold World.cell?; rw [hV, heap_alloc_new]; rfl)
  have HB : Hid (Below w.heap.size w V) := hb
  have HM : Hid _ := kM
  have HT : Hid _ := kT
  have HR : Hid _ := kR
  have HN : Hid (mn = true → 0 < len ∧ (∀ W, Below w.heap.size w W → ∃ b off, ao = some ⟨b, off, none⟩ ∧ W.cell? ⟨b, off, none⟩ = some (.float .f64 x0))) := hmn
  clear k hb kM kT kR hmn
  go_enter Tryz.func21, Tryz.ntmps21
  go_wp2_with fail
  rw [← hV]
  clear hV
  refine k1.mono ?_
  rintro r w1 ⟨rfl, hb1⟩
  have HF : Hid (Below w.heap.size w w1) := HB.out.trans (hb1.mono HB.out.size)
  clear k1 hb1 HB
  by_cases h0 : 0 < len
  · have hi : (0 : Int) < (len : Int) := by omega
    have hd : decide ((0 : Int) < (len : Int)) = true := decide_eq_true hi
    have k2 := HM.out h0 w1 HF.out
    cases mn
    · go_wp2_with fail
      refine k2.mono ?_
      rintro r w2 ⟨rfl, hb2⟩
      have HF2 : Hid (Below w.heap.size w w2) := HF.out.trans (hb2.mono HF.out.size)
      clear k2 hb2 HF HM HN
      have k3 := ufloats ao len cap w2
      go_wp2_with fail
      refine k3.mono ?_
      rintro r w3 ⟨rfl, hw⟩
      have hb3 : Below w2.heap.size w2 w3 := by rw [hw]; exact (Below.refl _ _).alloc (Nat.le_refl _) _
      have c1 : w3.cell? ⟨w2.heap.size, 0, none⟩ = some (.slice ao len cap) := by unfold World.cell?; rw [hw, heap_alloc_new]; rfl
      have HF3 : Hid (Below w.heap.size w w3) := HF2.out.trans (hb3.mono HF2.out.size)
      have k4 := HT.out w3 w2.heap.size HF3.out c1
      clear k3 hw hb3 c1 HF2
      generalize w2.heap.size = g2 at *
      go_wp2_with fail
      refine k4.mono ?_
      rintro r w4 ⟨s4, ao4, n4, cap4, ex4, rfl, hP4, hb4⟩
      have HF4 : Hid (Below w.heap.size w w4) := HF3.out.trans (hb4.mono HF3.out.size)
      have k5 := HR.out w4 _ HF4.out hP4
      clear k4 hP4 hb4 HF3 HT HR
      go_wp2_with fail
      refine k5.mono ?_
      rintro r w5 ⟨rfl, hb5⟩
      have HF5 : Hid (Below w.heap.size w w5) := HF4.out.trans (hb5.mono HF4.out.size)
      clear k5 hb5 HF4
      go_wp2_with fail
      refine bodyPost_ret (results_tmp2 rfl _ _ _) rfl ?_
      exact ⟨rfl, HF5.out⟩
    · obtain ⟨b, off, rfl, hc1⟩ := (HN.out rfl).2 w1 HF.out
      go_wp2_with fail
      refine k2.mono ?_
      rintro r w2 ⟨rfl, hb2⟩
      have HF2 : Hid (Below w.heap.size w w2) := HF.out.trans (hb2.mono HF.out.size)
      have hc2 : w2.cell? ⟨b, off, none⟩ = some (.float .f64 x0) := (hb2.cell (p := ⟨b, off, none⟩) (World.block_lt_of_cell? _ _ hc1)).trans hc1
      clear k2 hb2 HF HM HN hc1
      go_wp2_with fail
      refine bodyPost_ret (results_tmp2 rfl _ _ _) rfl ?_
      exact ⟨rfl, HF2.out⟩
  · have hmf : mn = false := by
      cases hm : mn
      · rfl
      · exact absurd (HN.out hm).1 h0
    subst hmf
    have hi : ¬ (0 : Int) < (len : Int) := by omega
    have hd : decide ((0 : Int) < (len : Int)) = false := decide_eq_false hi
    have HF2 : Hid (Below w.heap.size w w1) := HF.out
    clear HF HM HN
    obtain ⟨w2, hw2⟩ : ∃ w2, w2 = w1 := ⟨_, rfl⟩
    rw [← hw2] at HF2 ⊢
    clear hw2
    have k3 := ufloats ao len cap w2
    go_wp2_with fail
    refine k3.mono ?_
    rintro r w3 ⟨rfl, hw⟩
    have hb3 : Below w2.heap.size w2 w3 := by rw [hw]; exact (Below.refl _ _).alloc (Nat.le_refl _) _
    have c1 : w3.cell? ⟨w2.heap.size, 0, none⟩ = some (.slice ao len cap) := by unfold World.cell?; rw [hw, heap_alloc_new]; rfl
    have HF3 : Hid (Below w.heap.size w w3) := HF2.out.trans (hb3.mono HF2.out.size)
    have k4 := HT.out w3 w2.heap.size HF3.out c1
    clear k3 hw hb3 c1 HF2
    generalize w2.heap.size = g2 at *
    go_wp2_with fail
    refine k4.mono ?_
    rintro r w4 ⟨s4, ao4, n4, cap4, ex4, rfl, hP4, hb4⟩
    have HF4 : Hid (Below w.heap.size w w4) := HF3.out.trans (hb4.mono HF3.out.size)
    have k5 := HR.out w4 _ HF4.out hP4
    clear k4 hP4 hb4 HF3 HT HR
    go_wp2_with fail
    refine k5.mono ?_
    rintro r w5 ⟨rfl, hb5⟩
    have HF5 : Hid (Below w.heap.size w w5) := HF4.out.trans (hb5.mono HF4.out.size)
    clear k5 hb5 HF4
    go_wp2_with fail
    refine bodyPost_ret (results_tmp2 rfl _ _ _) rfl ?_
    exact ⟨rfl, HF5.out⟩
end Go.Proofs.YthkgklkhlcbmaaaGreatDoor
namespace Go.Proofs.YthkgklkhlcbmaaaGreatDoor
set_option linter.unusedVariables false
set_option linter.unusedSimpArgs false
open Go.RowKit Go.Fl64
def mnA (xs : Nat → Nat) (len : Nat) : Bool := decide (0 < len) && !anyP (fun i => mnP (xs i)) len
def exR (xs : Nat → Nat) (len : Nat) (m : Int) : Nat := tfF (tSum xs len).1 true (tSum xs len).2.1 (tSum xs len).2.2 m
def exF (xs : Nat → Nat) (len : Nat) (m : Int) : Nat := if isM m = false then 0 else if chk1 xs len = 0 then (if mnA xs len then xs 0 else exR xs len m) else 0
def exE (xs : Nat → Nat) (len : Nat) (m : Int) : Int := if isM m = false then 1 else chk1 xs len
theorem chk1_zero {xs : Nat → Nat} {len : Nat} (h : chk1 xs len = 0) : len ≤ 65536 ∧ ∀ i, i < len → mag (xs i) < 9218868437227405312 := by
  unfold chk1 at h
  by_cases h1 : 65536 < len
  · rw [if_pos h1] at h; omega
  · rw [if_neg h1] at h
    refine ⟨by omega, ?_⟩
    cases h2 : anyP (fun i => isNaN (xs i)) len
    · rw [h2, if_neg (by decide)] at h
      cases h3 : anyP (fun i => !fin (xs i)) len
      · intro i hi
        have := anyP_none h3 i hi
        have hf : fin (xs i) = true := by simpa using this
        exact Nat.lt_of_not_le fun h => by rw [fin_false.2 (by omega)] at hf; cases hf
      · rw [h3, if_pos rfl] at h; omega
    · rw [h2, if_pos rfl] at h; omega
theorem uExact (ao : Option Addr) (len cap : Nat) (xs : Nat → Nat) (m : Int) (w : World) (hT : Tab32 w) (hI : Ie.Tab w) (hl : FAt w ao len xs) (hx : Fls xs len) (hlen : len ≤ 35184372088832) :
    Calls Tryz.prog 21 #[.slice ao len cap, .int .i64 m] w fun r w' => r = .returned (.tuple #[.float .f64 (exF xs len m), .int .i64 (exE xs len m)]) ∧ Below w.heap.size w w' := by
  unfold exF exE
  cases hm : isM m
  · rw [if_pos rfl, if_pos rfl]
    exact uex_err ao len cap m 1 w rfl fun W g hb hg => (uchecked_no m _ W hm).mono fun r w' ⟨e1, e2⟩ => ⟨e1, by rw [e2]; exact Below.refl _ _⟩
  · have e1 : ¬ (true = false) := by decide
    rw [if_neg e1, if_neg e1]
    have kc : ∀ W g, Below w.heap.size w W → W.cell? ⟨g, 0, none⟩ = some (.slice ao len cap) → Calls Tryz.prog 47 #[.int .i64 m, .slice (some ⟨g, 0, none⟩) 1 1] W fun r w' => r = .returned (.int .i64 (chk1 xs len)) ∧ Below W.heap.size W w' := fun W g hb hg => uchecked1 m g ao len cap xs W hm hg (hl.later hb) hx hlen
    by_cases hz : chk1 xs len = 0
    · rw [if_pos hz]
      obtain ⟨h1, h2⟩ := chk1_zero hz
      rw [hz] at kc ⊢
      refine uex_ok ao len cap (exR xs len m) (xs 0) m (mnA xs len) (tSum xs len) w (fun h => ?_) kc (fun h0 W hb => ?_) (fun W Bs hb hBs => ?_) (fun W A hb hA => ?_)
      · have hp : 0 < len := by
          unfold mnA at h
          simp only [Bool.and_eq_true, decide_eq_true_eq] at h
          exact h.1
        refine ⟨hp, fun W hb => ?_⟩
        obtain ⟨b, off, h3, h4⟩ := hl.later hb
        exact ⟨b, off, h3 hp, h4 0 hp⟩
      · have := uallmn ao len cap xs W (hl.later hb) hx hlen
        unfold mnA
        rw [decide_eq_true h0, Bool.true_and]
        exact this
      · exact total_floats Bs len cap ao xs W (by omega) (fun i hi => ⟨hx i hi, h2 i hi⟩) (fun k hk => tSum_add xs (by omega)) (hT.later hb) (Tab.later hI hb) (hl.later hb) hBs
      · exact urounded (hT.later hb) (tSum_ok xs h1).1 hA (isM_iff.1 hm)
    · rw [if_neg hz]
      exact uex_err ao len cap m _ w (beq_eq_false_iff_ne.2 hz) kc
def two (a b : Nat) : Nat → Nat := fun i => if i = 0 then a else b
theorem addX_non {a b : Nat} (hf : fin a = false ∨ fin b = false) : ¬ mag (addX a b) < 9218868437227405312 := by
  have ha : fin a = false → ¬ mag a < 9218868437227405312 := fun h => fin_false.1 h
  have hb : fin b = false → ¬ mag b < 9218868437227405312 := fun h => fin_false.1 h
  unfold addX
  split
  · decide
  · rename_i hn
    split
    · split
      · split
        · omega
        · decide
      · omega
    · rename_i hm
      have hn' : (isNaN a || isNaN b) = false := by simpa using hn
      simp only [Bool.or_eq_false_iff] at hn'
      obtain ⟨n1, n2⟩ := hn'
      unfold isNaN at n1
      simp only [decide_eq_false_iff_not] at n1
      rcases hf with h | h
      · have := ha h; omega
      · exact hb h
theorem fAdd_fin {a b : Nat} (ha : a < 18446744073709551616) (hb : b < 18446744073709551616) (h : mag (fAdd a b) < 9218868437227405312) : mag a < 9218868437227405312 ∧ mag b < 9218868437227405312 := by
  by_cases hf : fin a = false ∨ fin b = false
  · exfalso
    have e : fAdd a b = addX a b := if_pos hf
    rw [e] at h
    exact addX_non hf h
  · exact ⟨Nat.lt_of_not_le fun h => hf (.inl (fin_false.2 (by omega))), Nat.lt_of_not_le fun h => hf (.inr (fin_false.2 (by omega)))⟩
def tLost (a b : Nat) : Bool × Nat × Int := tD (tS (tF a) (tF b)) (tF (fAdd a b))
def lostF (a b : Nat) : Nat := if mag (fAdd a b) < 9218868437227405312 then (if (tLost a b).2.1 = 0 then 0 else tfF (tLost a b).1 true (tLost a b).2.1 (tLost a b).2.2 2) else 0
theorem tS_nought {t : Bool × Nat × Int} (o : Ok t) : tS (false, 0, 0) t = t := by
  have e : sumN false 0 0 t.1 t.2.1 t.2.2 = (t.1, t.2.1, t.2.2) := by unfold sumN; rfl
  unfold tS
  show cn (sumN false 0 0 t.1 t.2.1 t.2.2).1 (sumN false 0 0 t.1 t.2.1 t.2.2).2.1 (sumN false 0 0 t.1 t.2.1 t.2.2).2.2 = t
  rw [e]
  exact cn_ok o
theorem tSum_two (a b : Nat) : tSum (two a b) 2 = tS (tF a) (tF b) := by
  show tS (tS (false, 0, 0) (tF a)) (tF b) = _
  rw [tS_nought (tF_ok a)]
theorem tLost_okR (a b : Nat) : okR (sumN (tS (tF a) (tF b)).1 (tS (tF a) (tF b)).2.1 (tS (tF a) (tF b)).2.2 (!(tF (fAdd a b)).1 && decide (0 < dlen (tF (fAdd a b)).2.1)) (tF (fAdd a b)).2.1 (tF (fAdd a b)).2.2).1 (sumN (tS (tF a) (tF b)).1 (tS (tF a) (tF b)).2.1 (tS (tF a) (tF b)).2.2 (!(tF (fAdd a b)).1 && decide (0 < dlen (tF (fAdd a b)).2.1)) (tF (fAdd a b)).2.1 (tF (fAdd a b)).2.2).2.1 (sumN (tS (tF a) (tF b)).1 (tS (tF a) (tF b)).2.1 (tS (tF a) (tF b)).2.2 (!(tF (fAdd a b)).1 && decide (0 < dlen (tF (fAdd a b)).2.1)) (tF (fAdd a b)).2.1 (tF (fAdd a b)).2.2).2.2 = true :=
  (Fits.sum (tS_fits (tF_fits a) (tF_fits b)) ((tF_fits (fAdd a b)).mono (Int.le_refl _) (by omega))).ok (by omega) (by omega) (by omega)
theorem tLost_ok (a b : Nat) : Ok (tLost a b) := ok_cn (tLost_okR a b)
theorem tS2_ok (a b : Nat) : Ok (tS (tF a) (tF b)) := ok_cn (tS_okR (tF_fits a) (tF_fits b) (by omega) (by omega) (by omega))
theorem tf_nought0 : tfF false true 0 0 2 = 0 := by decide +kernel
theorem lost_tf {t : Bool × Nat × Int} (o : Ok t) : tfF t.1 true t.2.1 t.2.2 2 = if t.2.1 = 0 then 0 else tfF t.1 true t.2.1 t.2.2 2 := by
  by_cases h : t.2.1 = 0
  · rw [if_pos h]
    obtain ⟨-, -, -, f4, -⟩ := o.facts
    rw [f4 h]
    exact tf_nought0
  · rw [if_neg h]
theorem uTwo (a b : Nat) (ha : a < 18446744073709551616) (hb : b < 18446744073709551616) (w : World) (hT : Tab32 w) (hI : Ie.Tab w) :
    Calls Tryz.prog 19 #[.float .f64 a, .float .f64 b] w fun r w' => ∃ n, r = .returned (.tuple #[.float .f64 n, .float .f64 (lostF a b)]) ∧ lk n (fAdd a b) ∧ Below w.heap.size w w' := by
  have hX := fAdd_lt ha hb
  have kn := unear (lk.refl ha) (lk.refl hb) ha hb w hT hI
  unfold lostF
  by_cases hf : mag (fAdd a b) < 9218868437227405312
  · rw [if_pos hf]
    obtain ⟨fa, fb⟩ := fAdd_fin ha hb hf
    have hF : ∀ i, i < 2 → two a b i < 18446744073709551616 ∧ mag (two a b i) < 9218868437227405312 := by
      intro i hi
      unfold two
      split
      · exact ⟨ha, fa⟩
      · exact ⟨hb, fb⟩
    refine (utwo_y a b (fAdd a b) (tfF (tLost a b).1 true (tLost a b).2.1 (tLost a b).2.2 2) (tS (tF a) (tF b)) (tLost a b) w hX hf kn (fun W Bs g hbw c1 c2 c3 => ?_) (fun W A hbw hA => ?_) (fun W A hbw hA => ?_)).mono ?_
    · rw [← tSum_two a b]
      exact total_floats Bs 2 2 (some ⟨g, 0, none⟩) (two a b) W (by omega) hF (fun k hk => tSum_add _ (by omega)) (hT.later hbw) (Tab.later hI hbw) ⟨g, 0, fun _ => rfl, fun j hj => by
        rcases (show j = 0 ∨ j = 1 by omega) with rfl | rfl
        · exact c2
        · exact c3⟩ c1
    · exact utaken (hT.later hbw) (Tab.later hI hbw) hX hf hA (sub_op (tS2_ok a b) (tF_ok _) (tLost_okR a b))
    · exact urounded (hT.later hbw) (tLost_ok a b) hA (by omega)
    · rintro r w' ⟨rfl, hbw⟩
      exact ⟨fAdd a b, by rw [← lost_tf (tLost_ok a b)], lk.refl hX, hbw⟩
  · rw [if_neg hf]
    exact utwo_n a b (fAdd a b) w hX hf kn
set_option maxRecDepth 200000 in
theorem dtwo_1 (a b X C : Nat) (ta tb ts tx td : Bool × Nat × Int) (fx : Bool) (w : World)
    (kA : Calls Tryz.prog 38 #[.float .f64 a, .float .f64 b] w fun r w' => OutD w X r w')
    (kF : ∀ W, Calls Tryz.prog 31 #[.float .f64 X] W fun r w' => r = .returned (.bool fx) ∧ w' = W)
    (k1 : ∀ W, Calls Tryz.prog 30 #[.float .f64 a] W fun r w' => ∃ A, r = .returned A ∧ DN w' A ta ∧ Below W.heap.size W w')
    (k2 : ∀ W, Calls Tryz.prog 30 #[.float .f64 b] W fun r w' => ∃ A, r = .returned A ∧ DN w' A tb ∧ Below W.heap.size W w')
    (k3 : ∀ W, Calls Tryz.prog 30 #[.float .f64 X] W fun r w' => ∃ A, r = .returned A ∧ DN w' A tx ∧ Below W.heap.size W w')
    (kP : ∀ W A B, DN W A ta → DN W B tb → Calls Tryz.prog 29 #[A, B] W fun r w' => ∃ C, r = .returned C ∧ DN w' C ts ∧ Below W.heap.size W w')
    (kL : ∀ W A B, DN W A ts → DN W B tx → Calls Tryz.prog 34 #[A, B] W fun r w' => ∃ C, r = .returned C ∧ DN w' C td ∧ Below W.heap.size W w')
    (kR : ∀ W A, DN W A td → Calls Tryz.prog 46 #[A, .int .i64 2, .float .f64 0] W fun r w' => r = .returned (.float .f64 C) ∧ Below W.heap.size W w') :
    Calls Tryz.prog 20 #[.float .f64 a, .float .f64 b] w fun r w' => r = .returned (.tuple #[.float .f64 X, .float .f64 (if fx then C else 0)]) ∧ Below w.heap.size w w' := by
  have H1 : Hid _ := k1
  have H2 : Hid _ := k2
  have H3 : Hid _ := k3
  have HP : Hid _ := kP
  have HL : Hid _ := kL
  have HR : Hid _ := kR
  clear k1 k2 k3 kP kL kR
  go_enter Tryz.func20, Tryz.ntmps20
  go_wp2_with fail
  refine kA.mono ?_
  rintro r w1 ⟨rfl, hb1⟩
  have HB1 : Hid (Below w.heap.size w w1) := hb1
  have kf := kF w1
  clear kA kF hb1
  cases fx
  · go_wp2_with fail
    refine kf.mono ?_
    rintro r w' ⟨rfl, hw⟩
    rw [hw]
    clear hw kf w'
    go_wp2_with fail
    refine bodyPost_ret (results_tmp2 rfl _ _ _) rfl ?_
    exact ⟨rfl, HB1.out⟩
  · go_wp2_with fail
    refine kf.mono ?_
    rintro r w' ⟨rfl, hw⟩
    rw [hw]
    clear hw kf w'
    have kk := H1.out w1
    go_wp2_with fail
    refine kk.mono ?_
    rintro r w2 ⟨A2, rfl, hP2, hb2⟩
    have HB2 : Hid (Below w.heap.size w w2 ∧ DN w2 A2 ta) := ⟨HB1.out.trans (hb2.mono HB1.out.size), hP2⟩
    have kk := H2.out w2
    clear hP2 hb2 HB1 H1
    go_wp2_with fail
    refine kk.mono ?_
    rintro r w3 ⟨A3, rfl, hP3, hb3⟩
    have HB3 : Hid (Below w.heap.size w w3) := HB2.out.1.trans (hb3.mono HB2.out.1.size)
    have kk := HP.out w3 _ _ (HB2.out.2.later hb3) hP3
    clear hP3 hb3 HB2 H2 HP
    go_wp2_with fail
    refine kk.mono ?_
    rintro r w4 ⟨A4, rfl, hP4, hb4⟩
    have HB4 : Hid (Below w.heap.size w w4 ∧ DN w4 A4 ts) := ⟨HB3.out.trans (hb4.mono HB3.out.size), hP4⟩
    have kk := H3.out w4
    clear hP4 hb4 HB3 H3
    go_wp2_with fail
    refine kk.mono ?_
    rintro r w5 ⟨A5, rfl, hP5, hb5⟩
    have HB5 : Hid (Below w.heap.size w w5) := HB4.out.1.trans (hb5.mono HB4.out.1.size)
    have kk := HL.out w5 _ _ (HB4.out.2.later hb5) hP5
    clear hP5 hb5 HB4 HL
    go_wp2_with fail
    refine kk.mono ?_
    rintro r w6 ⟨A6, rfl, hP6, hb6⟩
    have HB6 : Hid (Below w.heap.size w w6) := HB5.out.trans (hb6.mono HB5.out.size)
    have kk := HR.out w6 _ hP6
    clear hP6 hb6 HB5 HR
    go_wp2_with fail
    refine kk.mono ?_
    rintro r w7 ⟨rfl, hb7⟩
    have HB7 : Hid (Below w.heap.size w w7) := HB6.out.trans (hb7.mono HB6.out.size)
    clear kk hb7 HB6
    go_wp2_with fail
    refine bodyPost_ret (results_tmp2 rfl _ _ _) rfl ?_
    exact ⟨rfl, HB7.out⟩
theorem dTwo (a b : Nat) (ha : a < 18446744073709551616) (hb : b < 18446744073709551616) (w : World) :
    Calls Tryz.prog 20 #[.float .f64 a, .float .f64 b] w fun r w' => r = .returned (.tuple #[.float .f64 (fAdd a b), .float .f64 (lostF a b)]) ∧ Below w.heap.size w w' := by
  have hX := fAdd_lt ha hb
  obtain ⟨g1, g2, g3, g4, g5⟩ := (tLost_ok a b).facts
  have k := dtwo_1 a b (fAdd a b) (if (tLost a b).2.1 = 0 then 0 else tfF (tLost a b).1 true (tLost a b).2.1 (tLost a b).2.2 2) (tF a) (tF b) (tS (tF a) (tF b)) (tF (fAdd a b)) (tLost a b) (decide ((mag (fAdd a b) : Int) < 9218868437227405312)) w (dadd5 a b ha hb w) (Ie.dfinite _ hX) (float_dn a ha) (float_dn b hb) (float_dn _ hX)
    (fun W A B p q => plus_dn (tF_ok a) (tF_ok b) p q) (fun W A B p q => less_dn (tS2_ok a b) (tF_ok _) p q) (fun W A p => dR p g5 (by omega) (by omega) (by omega) (by omega))
  unfold lostF
  by_cases hf : mag (fAdd a b) < 9218868437227405312
  · rw [decide_eq_true (by omega), if_pos rfl] at k
    rw [if_pos hf]
    exact k
  · rw [decide_eq_false (by omega), if_neg (by decide)] at k
    rw [if_neg hf]
    exact k
def l4 (i : Nat) : Nat := if i = 0 then 4607182418800017408 else if i = 1 then 6103021453049119613 else if i = 2 then 4607182418800017408 else 15326393489903895421
theorem l4_fls : Fls l4 4 := by
  intro i hi
  unfold l4
  split
  · decide
  · split
    · decide
    · split <;> decide
theorem l4_ex : exF l4 4 2 = 4611686018427387904 := by decide +kernel
theorem l4_e : exE l4 4 2 = 0 := by decide +kernel
theorem l4_e0 : exE l4 4 0 = 1 := by decide +kernel
theorem l4_row : rowF l4 4 = 0 := by decide +kernel
theorem l4_kept : ktF l4 4 = 4611686018427387904 := by decide +kernel
theorem l4_hal : halF 4 l4 4 = 0 := by decide +kernel
theorem two_s : fAdd 4846369599423283200 4607182418800017408 = 4846369599423283200 := by decide +kernel
theorem two_c : lostF 4846369599423283200 4607182418800017408 = 4607182418800017408 := by decide +kernel
set_option maxRecDepth 200000 in
theorem sure5_ok (w : World) (hT : Tab32 w) (hI : Ie.Tab w) : Calls Tryz.prog 18 #[] w fun r w' => r = .returned (.bool true) ∧ Below w.heap.size w w' := by
  have e1 : (FloatKind.f64.format.order 0 0 == some Ordering.eq) = true := by decide +kernel
  have e2 : (FloatKind.f64.format.order 4611686018427387904 4611686018427387904 == some Ordering.eq) = true := by decide +kernel
  have e3 : (FloatKind.f64.format.order 4846369599423283200 4846369599423283200 == some Ordering.eq) = true := by decide +kernel
  have e4 : (FloatKind.f64.format.order 4607182418800017408 4607182418800017408 == some Ordering.eq) = true := by decide +kernel
  obtain ⟨V, hV⟩ : ∃ V, V = w.alloc (.cells #[.float .f64 4607182418800017408, .float .f64 6103021453049119613, .float .f64 4607182418800017408, .float .f64 15326393489903895421] 25) := ⟨_, rfl⟩
  have hbV : Below w.heap.size w V := by rw [hV]; exact (Below.refl _ _).alloc (Nat.le_refl _) _
  have hh : V.heap[w.heap.size]? = some (.cells #[.float .f64 4607182418800017408, .float .f64 6103021453049119613, .float .f64 4607182418800017408, .float .f64 15326393489903895421] 25 (0, 0)) := by rw [hV]; exact heap_alloc_new _ _
  have hl : FAt V (some ⟨w.heap.size, 0, none⟩) 4 l4 := ⟨w.heap.size, 0, fun _ => rfl, fun j hj => by
    unfold World.cell?
    rw [hh]
    rcases (show j = 0 ∨ j = 1 ∨ j = 2 ∨ j = 3 by omega) with rfl | rfl | rfl | rfl <;> rfl⟩
  have HT : Hid (∀ W, Below w.heap.size w W → Tab32 W ∧ Ie.Tab W) := fun W h => ⟨hT.later h, Tab.later hI h⟩
  have HL : Hid (∀ W, Below V.heap.size V W → FAt W (some ⟨w.heap.size, 0, none⟩) 4 l4) := fun W h => hl.later h
  have HV : Hid (Below w.heap.size w V) := hbV
  have HZ : Hid (w.heap.size ≤ V.heap.size) := hbV.size
  have kk := uExact (some ⟨w.heap.size, 0, none⟩) 4 4 l4 2 V (hT.later hbV) (Tab.later hI hbV) hl l4_fls (by omega)
  rw [l4_ex, l4_e] at kk
  clear hT hI hbV hh hl
  go_enter Tryz.func18, Tryz.ntmps18
  go_wp2_with fail
  rw [← hV]
  clear hV
  generalize hg0 : w.heap.size = g0 at *
  have HG : Hid (w.heap.size = g0) := hg0
  clear hg0
  refine kk.mono ?_
  rintro r w1 ⟨rfl, hb1⟩
  have HB1 : Hid (Below V.heap.size V w1) := hb1
  clear kk hb1
  have HW : Hid (∀ W, Below V.heap.size V W → Below g0 w W) := fun W h => HV.out.trans (h.mono HZ.out)
  have kk := uExact (some ⟨g0, 0, none⟩) 4 4 l4 0 w1 (HT.out _ (HW.out _ HB1.out)).1 (HT.out _ (HW.out _ HB1.out)).2 (HL.out _ HB1.out) l4_fls (by omega)
  rw [l4_e0] at kk
  go_wp2_with fail
  refine kk.mono ?_
  rintro r w2 ⟨rfl, hb2⟩
  have HB2 : Hid (Below V.heap.size V w2) := HB1.out.trans (hb2.mono HB1.out.size)
  clear kk hb2 HB1
  have kk := uTwo 4846369599423283200 4607182418800017408 (by decide) (by decide) w2 (HT.out _ (HW.out _ HB2.out)).1 (HT.out _ (HW.out _ HB2.out)).2
  rw [two_s, two_c] at kk
  go_wp2_with fail
  refine kk.mono ?_
  rintro r w3 ⟨n3, rfl, hl3, hb3⟩
  obtain rfl : n3 = 4846369599423283200 := hl3.eq (by decide)
  have HB3 : Hid (Below V.heap.size V w3) := HB2.out.trans (hb3.mono HB2.out.size)
  clear kk hb3 hl3 HB2
  have kk := urow (some ⟨g0, 0, none⟩) 4 4 l4 w3 (HT.out _ (HW.out _ HB3.out)).1 (HT.out _ (HW.out _ HB3.out)).2 (HL.out _ HB3.out) l4_fls (by omega) (by omega)
  rw [l4_row] at kk
  go_wp2_with fail
  refine kk.mono ?_
  rintro r w4 ⟨n4, rfl, hl4, hb4⟩
  obtain rfl : n4 = 0 := hl4.eq (by decide)
  have HB4 : Hid (Below V.heap.size V w4) := HB3.out.trans (hb4.mono HB3.out.size)
  clear kk hb4 hl4 HB3
  have kk := ukept (some ⟨g0, 0, none⟩) 4 4 l4 w4 (HT.out _ (HW.out _ HB4.out)).1 (HT.out _ (HW.out _ HB4.out)).2 (HL.out _ HB4.out) l4_fls (by omega)
  rw [l4_kept] at kk
  go_wp2_with fail
  refine kk.mono ?_
  rintro r w5 ⟨n5, rfl, hl5, hb5⟩
  obtain rfl : n5 = 4611686018427387904 := hl5.eq (by decide)
  have HB5 : Hid (Below V.heap.size V w5) := HB4.out.trans (hb5.mono HB4.out.size)
  clear kk hb5 hl5 HB4
  have kk := uhalves 4 (some ⟨g0, 0, none⟩) 4 4 l4 w5 (by omega) (HT.out _ (HW.out _ HB5.out)).1 (HT.out _ (HW.out _ HB5.out)).2 (HL.out _ HB5.out) l4_fls (by omega) (by omega)
  rw [l4_hal] at kk
  go_wp2_with fail
  refine kk.mono ?_
  rintro r w6 ⟨n6, rfl, hl6, hb6⟩
  obtain rfl : n6 = 0 := hl6.eq (by decide)
  have HB6 : Hid (Below g0 w w6) := HW.out _ (HB5.out.trans (hb6.mono HB5.out.size))
  clear kk hb6 hl6 HB5 HW HL HT HV
  go_wp2_with fail
  go_ret
  rw [HG.out]
  exact ⟨rfl, HB6.out⟩
theorem lsame5 {n X : Nat} (h : lk n X) (hX : X < 18446744073709551616) (w : World) : Calls Tryz.prog 10 #[.float .f64 n, .float .f64 X] w fun e w' => e = .returned (.bool true) ∧ w' = w := by
  have kd := Ie.dsame n X h.1 hX
  rw [h.2] at kd
  go_enter Tryz.func10, Tryz.ntmps10
  go_wp2_with (go_at_call 36; refine (kd _).mono ?_; rintro e w' ⟨rfl, rfl⟩)
  go_ret
  exact ⟨rfl, rfl⟩
theorem lostF_lt (a b : Nat) : lostF a b < 18446744073709551616 := by
  unfold lostF
  split
  · split
    · omega
    · exact tfF_lt (by omega)
  · omega
set_option maxRecDepth 200000 in
theorem sumsTwo_ok (a b : Nat) (w : World) (ha : a < 18446744073709551616) (hb : b < 18446744073709551616) (hT : Tab32 w) (hI : Ie.Tab w) :
    Calls Tryz.prog 4 #[.float .f64 a, .float .f64 b] w fun r w' => r = .returned (.bool true) ∧ Below w.heap.size w w' := by
  have HX : Hid (fAdd a b < 18446744073709551616 ∧ lostF a b < 18446744073709551616) := ⟨fAdd_lt ha hb, lostF_lt a b⟩
  have HT : Hid (∀ W, Below w.heap.size w W → Tab32 W ∧ Ie.Tab W) := fun W h => ⟨hT.later h, Tab.later hI h⟩
  have kk := uTwo a b ha hb w hT hI
  have HD : Hid (∀ W, Calls Tryz.prog 20 #[.float .f64 a, .float .f64 b] W fun r w' => r = .returned (.tuple #[.float .f64 (fAdd a b), .float .f64 (lostF a b)]) ∧ Below W.heap.size W w') := fun W => dTwo a b ha hb W
  clear ha hb hT hI
  generalize fAdd a b = X at *
  generalize lostF a b = C at *
  go_enter Tryz.func4, Tryz.ntmps4
  go_wp2_with fail
  refine kk.mono ?_
  rintro r w1 ⟨n1, rfl, hl1, hb1⟩
  have HB1 : Hid (lk n1 X ∧ Below w.heap.size w w1) := ⟨hl1, hb1⟩
  clear kk hl1 hb1
  have kk := HD.out w1
  go_wp2_with fail
  refine kk.mono ?_
  rintro r w2 ⟨rfl, hb2⟩
  have HB2 : Hid (Below w.heap.size w w2) := HB1.out.2.trans (hb2.mono HB1.out.2.size)
  clear kk hb2 HD
  have kk := lsame5 HB1.out.1 HX.out.1 w2
  go_wp2_with fail
  refine kk.mono ?_
  rintro r w' ⟨rfl, hw⟩
  rw [hw]
  clear hw kk w' HB1
  have kk := lsame5 (lk.refl HX.out.2) HX.out.2 w2
  go_wp2_with fail
  refine kk.mono ?_
  rintro r w' ⟨rfl, hw⟩
  rw [hw]
  clear hw kk w'
  have kk := sure5_ok w2 (HT.out _ HB2.out).1 (HT.out _ HB2.out).2
  go_wp2_with fail
  refine kk.mono ?_
  rintro r w3 ⟨rfl, hb3⟩
  have HB3 : Hid (Below w.heap.size w w3) := HB2.out.trans (hb3.mono HB2.out.size)
  clear kk hb3 HB2
  go_wp2_with fail
  go_ret
  exact ⟨rfl, HB3.out⟩
end Go.Proofs.YthkgklkhlcbmaaaGreatDoor
