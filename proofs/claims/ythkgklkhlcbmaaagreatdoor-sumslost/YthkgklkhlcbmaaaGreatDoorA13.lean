/- Own work: contracts of the program's functions, part 13: UB5 UB6 UB7 UB8 UB9 UC1 UC2 UC3 UC4 UD1 UF1 UF2 UD2 UD3 UD4 UD5 UD6 UE1 UE2 UE3 UF4 UF5 UF6 UE4 UE5 UE6 UE7. -/
import Derived.Test.YthkgklkhlcbmaaaGreatDoorA12
import Derived.Deep.Slices
import Derived.Laws.Cover2
import Derived.OpenShut
import Derived.WideShapes
import Derived.ChangeAlike
import Derived.Laws.AppendOwnNone
import Derived.Deep.RegionHeld

set_option maxHeartbeats 16000000
namespace Go.Proofs.YthkgklkhlcbmaaaGreatDoor
set_option linter.unusedVariables false
set_option linter.unusedSimpArgs false
open Go.RowKit Go.Fl64
set_option maxRecDepth 200000 in
theorem uex_err (ao : Option Addr) (len cap : Nat) (m c : Int) (w : World) (hc : (c == 0) = false)
    (k : ∀ W g, Below w.heap.size w W → W.cell? ⟨g, 0, none⟩ = some (.slice ao len cap) → Calls Tryz.prog 47 #[.int .i64 m, .slice (some ⟨g, 0, none⟩) 1 1] W fun r w' => r = .returned (.int .i64 c) ∧ Below W.heap.size W w') :
    Calls Tryz.prog 21 #[.slice ao len cap, .int .i64 m] w fun r w' => r = .returned (.tuple #[.float .f64 0, .int .i64 c]) ∧ Below w.heap.size w w' := by
  obtain ⟨V, hV⟩ : ∃ V, V = w.alloc (.cells #[.slice ao len cap] 22) := ⟨_, rfl⟩
  have hb : Below w.heap.size w V := by rw [hV]; exact (Below.refl _ _).alloc (Nat.le_refl _) _
  have k1 := k V w.heap.size hb (by unfold World.cell?; rw [hV, heap_alloc_new]; rfl)
  have HB : Hid (Below w.heap.size w V) := hb
  have hc' : (c != 0) = true := by rw [bne, hc]; rfl
  clear k hb
  go_enter Tryz.func21, Tryz.ntmps21
  go_wp2_with fail
  rw [← hV]
  clear hV
  refine k1.mono ?_
  rintro r w1 ⟨rfl, hb1⟩
  have HF : Hid (Below w.heap.size w w1) := HB.out.trans (hb1.mono HB.out.size)
  clear k1 hb1 HB
  go_wp2_with fail
  refine bodyPost_ret (results_tmp2 rfl _ _ _) rfl ?_
  exact ⟨rfl, HF.out⟩
set_option maxRecDepth 200000 in
theorem uex_ok (ao : Option Addr) (len cap F x0 : Nat) (m : Int) (mn : Bool) (ts : Bool × Nat × Int) (w : World)
    (hmn : mn = true → 0 < len ∧ (∀ W, Below w.heap.size w W → ∃ b off, ao = some ⟨b, off, none⟩ ∧ W.cell? ⟨b, off, none⟩ = some (.float .f64 x0)))
    (k : ∀ W g, Below w.heap.size w W → W.cell? ⟨g, 0, none⟩ = some (.slice ao len cap) → Calls Tryz.prog 47 #[.int .i64 m, .slice (some ⟨g, 0, none⟩) 1 1] W fun r w' => r = .returned (.int .i64 0) ∧ Below W.heap.size W w')
    (kM : 0 < len → ∀ W, Below w.heap.size w W → Calls Tryz.prog 48 #[.slice ao len cap] W fun r w' => r = .returned (.bool mn) ∧ Below W.heap.size W w')
    (kT : ∀ W Bs, Below w.heap.size w W → W.cell? ⟨Bs, 0, none⟩ = some (.slice ao len cap) → Calls Tryz.prog 44 #[.func (.func 85) #[] #[.pointer (some ⟨Bs, 0, none⟩)]] W fun r w' => OutA W ts r w')
    (kR : ∀ W A, Below w.heap.size w W → PN W A ts → Calls Tryz.prog 42 #[A, .int .i64 m] W fun r w' => r = .returned (.float .f64 F) ∧ Below W.heap.size W w') :
    Calls Tryz.prog 21 #[.slice ao len cap, .int .i64 m] w fun r w' => r = .returned (.tuple #[.float .f64 (if mn then x0 else F), .int .i64 0]) ∧ Below w.heap.size w w' := by
  obtain ⟨V, hV⟩ : ∃ V, V = w.alloc (.cells #[.slice ao len cap] 22) := ⟨_, rfl⟩
  have hb : Below w.heap.size w V := by rw [hV]; exact (Below.refl _ _).alloc (Nat.le_refl _) _
  have k1 := k V w.heap.size hb (by unfold World.cell?; rw [hV, heap_alloc_new]; rfl)
  have HB : Hid (Below w.heap.size w V) := hb
  have HM : Hid _ := kM
  have HT : Hid _ := kT
  have HR : Hid _ := kR
  have HN : Hid (mn = true → 0 < len ∧ (∀ W, Below w.heap.size w W → ∃ b off, ao = some ⟨b, off, none⟩ ∧ W.cell? ⟨b, off, none⟩ = some (.float .f64 x0))) := hmn
  clear k hb kM kT kR hmn
  go_enter Tryz.func21, Tryz.ntmps21
  go_wp2_with fail
  rw [← hV]
  clear hV
  refine k1.mono ?_
  rintro r w1 ⟨rfl, hb1⟩
  have HF : Hid (Below w.heap.size w w1) := HB.out.trans (hb1.mono HB.out.size)
  clear k1 hb1 HB
  by_cases h0 : 0 < len
  · have hi : (0 : Int) < (len : Int) := by omega
    have hd : decide ((0 : Int) < (len : Int)) = true := decide_eq_true hi
    have k2 := HM.out h0 w1 HF.out
    cases mn
    · go_wp2_with fail
      refine k2.mono ?_
      rintro r w2 ⟨rfl, hb2⟩
      have HF2 : Hid (Below w.heap.size w w2) := HF.out.trans (hb2.mono HF.out.size)
      clear k2 hb2 HF HM HN
      have k3 := ufloats ao len cap w2
      go_wp2_with fail
      refine k3.mono ?_
      rintro r w3 ⟨rfl, hw⟩
      have hb3 : Below w2.heap.size w2 w3 := by rw [hw]; exact (Below.refl _ _).alloc (Nat.le_refl _) _
      have c1 : w3.cell? ⟨w2.heap.size, 0, none⟩ = some (.slice ao len cap) := by unfold World.cell?; rw [hw, heap_alloc_new]; rfl
      have HF3 : Hid (Below w.heap.size w w3) := HF2.out.trans (hb3.mono HF2.out.size)
      have k4 := HT.out w3 w2.heap.size HF3.out c1
      clear k3 hw hb3 c1 HF2
      generalize w2.heap.size = g2 at *
      go_wp2_with fail
      refine k4.mono ?_
      rintro r w4 ⟨s4, ao4, n4, cap4, ex4, rfl, hP4, hb4⟩
      have HF4 : Hid (Below w.heap.size w w4) := HF3.out.trans (hb4.mono HF3.out.size)
      have k5 := HR.out w4 _ HF4.out hP4
      clear k4 hP4 hb4 HF3 HT HR
      go_wp2_with fail
      refine k5.mono ?_
      rintro r w5 ⟨rfl, hb5⟩
      have HF5 : Hid (Below w.heap.size w w5) := HF4.out.trans (hb5.mono HF4.out.size)
      clear k5 hb5 HF4
      go_wp2_with fail
      refine bodyPost_ret (results_tmp2 rfl _ _ _) rfl ?_
      exact ⟨rfl, HF5.out⟩
    · obtain ⟨b, off, rfl, hc1⟩ := (HN.out rfl).2 w1 HF.out
      go_wp2_with fail
      refine k2.mono ?_
      rintro r w2 ⟨rfl, hb2⟩
      have HF2 : Hid (Below w.heap.size w w2) := HF.out.trans (hb2.mono HF.out.size)
      have hc2 : w2.cell? ⟨b, off, none⟩ = some (.float .f64 x0) := (hb2.cell (p := ⟨b, off, none⟩) (World.block_lt_of_cell? _ _ hc1)).trans hc1
      clear k2 hb2 HF HM HN hc1
      go_wp2_with fail
      refine bodyPost_ret (results_tmp2 rfl _ _ _) rfl ?_
      exact ⟨rfl, HF2.out⟩
  · have hmf : mn = false := by
      cases hm : mn
      · rfl
      · exact absurd (HN.out hm).1 h0
    subst hmf
    have hi : ¬ (0 : Int) < (len : Int) := by omega
    have hd : decide ((0 : Int) < (len : Int)) = false := decide_eq_false hi
    have HF2 : Hid (Below w.heap.size w w1) := HF.out
    clear HF HM HN
    obtain ⟨w2, hw2⟩ : ∃ w2, w2 = w1 := ⟨_, rfl⟩
    rw [← hw2] at HF2 ⊢
    clear hw2
    have k3 := ufloats ao len cap w2
    go_wp2_with fail
    refine k3.mono ?_
    rintro r w3 ⟨rfl, hw⟩
    have hb3 : Below w2.heap.size w2 w3 := by rw [hw]; exact (Below.refl _ _).alloc (Nat.le_refl _) _
    have c1 : w3.cell? ⟨w2.heap.size, 0, none⟩ = some (.slice ao len cap) := by unfold World.cell?; rw [hw, heap_alloc_new]; rfl
    have HF3 : Hid (Below w.heap.size w w3) := HF2.out.trans (hb3.mono HF2.out.size)
    have k4 := HT.out w3 w2.heap.size HF3.out c1
    clear k3 hw hb3 c1 HF2
    generalize w2.heap.size = g2 at *
    go_wp2_with fail
    refine k4.mono ?_
    rintro r w4 ⟨s4, ao4, n4, cap4, ex4, rfl, hP4, hb4⟩
    have HF4 : Hid (Below w.heap.size w w4) := HF3.out.trans (hb4.mono HF3.out.size)
    have k5 := HR.out w4 _ HF4.out hP4
    clear k4 hP4 hb4 HF3 HT HR
    go_wp2_with fail
    refine k5.mono ?_
    rintro r w5 ⟨rfl, hb5⟩
    have HF5 : Hid (Below w.heap.size w w5) := HF4.out.trans (hb5.mono HF4.out.size)
    clear k5 hb5 HF4
    go_wp2_with fail
    refine bodyPost_ret (results_tmp2 rfl _ _ _) rfl ?_
    exact ⟨rfl, HF5.out⟩
end Go.Proofs.YthkgklkhlcbmaaaGreatDoor
namespace Go.Proofs.YthkgklkhlcbmaaaGreatDoor
set_option linter.unusedVariables false
set_option linter.unusedSimpArgs false
open Go.RowKit Go.Fl64
def mnA (xs : Nat → Nat) (len : Nat) : Bool := decide (0 < len) && !anyP (fun i => mnP (xs i)) len
def exR (xs : Nat → Nat) (len : Nat) (m : Int) : Nat := tfF (tSum xs len).1 true (tSum xs len).2.1 (tSum xs len).2.2 m
def exF (xs : Nat → Nat) (len : Nat) (m : Int) : Nat := if isM m = false then 0 else if chk1 xs len = 0 then (if mnA xs len then xs 0 else exR xs len m) else 0
def exE (xs : Nat → Nat) (len : Nat) (m : Int) : Int := if isM m = false then 1 else chk1 xs len
theorem chk1_zero {xs : Nat → Nat} {len : Nat} (h : chk1 xs len = 0) : len ≤ 65536 ∧ ∀ i, i < len → mag (xs i) < 9218868437227405312 := by
  unfold chk1 at h
  by_cases h1 : 65536 < len
  · rw [if_pos h1] at h; omega
  · rw [if_neg h1] at h
    refine ⟨by omega, ?_⟩
    cases h2 : anyP (fun i => isNaN (xs i)) len
    · rw [h2, if_neg (by decide)] at h
      cases h3 : anyP (fun i => !fin (xs i)) len
      · intro i hi
        have := anyP_none h3 i hi
        have hf : fin (xs i) = true := by simpa using this
        exact Nat.lt_of_not_le fun h => by rw [fin_false.2 (by omega)] at hf; cases hf
      · rw [h3, if_pos rfl] at h; omega
    · rw [h2, if_pos rfl] at h; omega
theorem uExact (ao : Option Addr) (len cap : Nat) (xs : Nat → Nat) (m : Int) (w : World) (hT : Tab32 w) (hI : Ie.Tab w) (hl : FAt w ao len xs) (hx : Fls xs len) (hlen : len ≤ 35184372088832) :
    Calls Tryz.prog 21 #[.slice ao len cap, .int .i64 m] w fun r w' => r = .returned (.tuple #[.float .f64 (exF xs len m), .int .i64 (exE xs len m)]) ∧ Below w.heap.size w w' := by
  unfold exF exE
  cases hm : isM m
  · rw [if_pos rfl, if_pos rfl]
    exact uex_err ao len cap m 1 w rfl fun W g hb hg => (uchecked_no m _ W hm).mono fun r w' ⟨e1, e2⟩ => ⟨e1, by rw [e2]; exact Below.refl _ _⟩
  · have e1 : ¬ (true = false) := by decide
    rw [if_neg e1, if_neg e1]
    have kc : ∀ W g, Below w.heap.size w W → W.cell? ⟨g, 0, none⟩ = some (.slice ao len cap) → Calls Tryz.prog 47 #[.int .i64 m, .slice (some ⟨g, 0, none⟩) 1 1] W fun r w' => r = .returned (.int .i64 (chk1 xs len)) ∧ Below W.heap.size W w' := fun W g hb hg => uchecked1 m g ao len cap xs W hm hg (hl.later hb) hx hlen
    by_cases hz : chk1 xs len = 0
    · rw [if_pos hz]
      obtain ⟨h1, h2⟩ := chk1_zero hz
      rw [hz] at kc ⊢
      refine uex_ok ao len cap (exR xs len m) (xs 0) m (mnA xs len) (tSum xs len) w (fun h => ?_) kc (fun h0 W hb => ?_) (fun W Bs hb hBs => ?_) (fun W A hb hA => ?_)
      · have hp : 0 < len := by
          unfold mnA at h
          simp only [Bool.and_eq_true, decide_eq_true_eq] at h
          exact h.1
        refine ⟨hp, fun W hb => ?_⟩
        obtain ⟨b, off, h3, h4⟩ := hl.later hb
        exact ⟨b, off, h3 hp, h4 0 hp⟩
      · have := uallmn ao len cap xs W (hl.later hb) hx hlen
        unfold mnA
        rw [decide_eq_true h0, Bool.true_and]
        exact this
      · exact total_floats Bs len cap ao xs W (by omega) (fun i hi => ⟨hx i hi, h2 i hi⟩) (fun k hk => tSum_add xs (by omega)) (hT.later hb) (Tab.later hI hb) (hl.later hb) hBs
      · exact urounded (hT.later hb) (tSum_ok xs h1).1 hA (isM_iff.1 hm)
    · rw [if_neg hz]
      exact uex_err ao len cap m _ w (beq_eq_false_iff_ne.2 hz) kc
def two (a b : Nat) : Nat → Nat := fun i => if i = 0 then a else b
theorem addX_non {a b : Nat} (hf : fin a = false ∨ fin b = false) : ¬ mag (addX a b) < 9218868437227405312 := by
  have ha : fin a = false → ¬ mag a < 9218868437227405312 := fun h => fin_false.1 h
  have hb : fin b = false → ¬ mag b < 9218868437227405312 := fun h => fin_false.1 h
  unfold addX
  split
  · decide
  · rename_i hn
    split
    · split
      · split
        · omega
        · decide
      · omega
    · rename_i hm
      have hn' : (isNaN a || isNaN b) = false := by simpa using hn
      simp only [Bool.or_eq_false_iff] at hn'
      obtain ⟨n1, n2⟩ := hn'
      unfold isNaN at n1
      simp only [decide_eq_false_iff_not] at n1
      rcases hf with h | h
      · have := ha h; omega
      · exact hb h
theorem fAdd_fin {a b : Nat} (ha : a < 18446744073709551616) (hb : b < 18446744073709551616) (h : mag (fAdd a b) < 9218868437227405312) : mag a < 9218868437227405312 ∧ mag b < 9218868437227405312 := by
  by_cases hf : fin a = false ∨ fin b = false
  · exfalso
    have e : fAdd a b = addX a b := if_pos hf
    rw [e] at h
    exact addX_non hf h
  · exact ⟨Nat.lt_of_not_le fun h => hf (.inl (fin_false.2 (by omega))), Nat.lt_of_not_le fun h => hf (.inr (fin_false.2 (by omega)))⟩
def tLost (a b : Nat) : Bool × Nat × Int := tD (tS (tF a) (tF b)) (tF (fAdd a b))
def lostF (a b : Nat) : Nat := if mag (fAdd a b) < 9218868437227405312 then (if (tLost a b).2.1 = 0 then 0 else tfF (tLost a b).1 true (tLost a b).2.1 (tLost a b).2.2 2) else 0
theorem tS_nought {t : Bool × Nat × Int} (o : Ok t) : tS (false, 0, 0) t = t := by
  have e : sumN false 0 0 t.1 t.2.1 t.2.2 = (t.1, t.2.1, t.2.2) := by unfold sumN; rfl
  unfold tS
  show cn (sumN false 0 0 t.1 t.2.1 t.2.2).1 (sumN false 0 0 t.1 t.2.1 t.2.2).2.1 (sumN false 0 0 t.1 t.2.1 t.2.2).2.2 = t
  rw [e]
  exact cn_ok o
theorem tSum_two (a b : Nat) : tSum (two a b) 2 = tS (tF a) (tF b) := by
  show tS (tS (false, 0, 0) (tF a)) (tF b) = _
  rw [tS_nought (tF_ok a)]
theorem tLost_okR (a b : Nat) : okR (sumN (tS (tF a) (tF b)).1 (tS (tF a) (tF b)).2.1 (tS (tF a) (tF b)).2.2 (!(tF (fAdd a b)).1 && decide (0 < dlen (tF (fAdd a b)).2.1)) (tF (fAdd a b)).2.1 (tF (fAdd a b)).2.2).1 (sumN (tS (tF a) (tF b)).1 (tS (tF a) (tF b)).2.1 (tS (tF a) (tF b)).2.2 (!(tF (fAdd a b)).1 && decide (0 < dlen (tF (fAdd a b)).2.1)) (tF (fAdd a b)).2.1 (tF (fAdd a b)).2.2).2.1 (sumN (tS (tF a) (tF b)).1 (tS (tF a) (tF b)).2.1 (tS (tF a) (tF b)).2.2 (!(tF (fAdd a b)).1 && decide (0 < dlen (tF (fAdd a b)).2.1)) (tF (fAdd a b)).2.1 (tF (fAdd a b)).2.2).2.2 = true :=
  (Fits.sum (tS_fits (tF_fits a) (tF_fits b)) ((tF_fits (fAdd a b)).mono (Int.le_refl _) (by omega))).ok (by omega) (by omega) (by omega)
theorem tLost_ok (a b : Nat) : Ok (tLost a b) := ok_cn (tLost_okR a b)
theorem tS2_ok (a b : Nat) : Ok (tS (tF a) (tF b)) := ok_cn (tS_okR (tF_fits a) (tF_fits b) (by omega) (by omega) (by omega))
theorem tf_nought0 : tfF false true 0 0 2 = 0 := by decide +kernel
theorem lost_tf {t : Bool × Nat × Int} (o : Ok t) : tfF t.1 true t.2.1 t.2.2 2 = if t.2.1 = 0 then 0 else tfF t.1 true t.2.1 t.2.2 2 := by
  by_cases h : t.2.1 = 0
  · rw [if_pos h]
    obtain ⟨-, -, -, f4, -⟩ := o.facts
    rw [f4 h]
    exact tf_nought0
  · rw [if_neg h]
theorem uTwo (a b : Nat) (ha : a < 18446744073709551616) (hb : b < 18446744073709551616) (w : World) (hT : Tab32 w) (hI : Ie.Tab w) :
    Calls Tryz.prog 19 #[.float .f64 a, .float .f64 b] w fun r w' => ∃ n, r = .returned (.tuple #[.float .f64 n, .float .f64 (lostF a b)]) ∧ lk n (fAdd a b) ∧ Below w.heap.size w w' := by
  have hX := fAdd_lt ha hb
  have kn := unear (lk.refl ha) (lk.refl hb) ha hb w hT hI
  unfold lostF
  by_cases hf : mag (fAdd a b) < 9218868437227405312
  · rw [if_pos hf]
    obtain ⟨fa, fb⟩ := fAdd_fin ha hb hf
    have hF : ∀ i, i < 2 → two a b i < 18446744073709551616 ∧ mag (two a b i) < 9218868437227405312 := by
      intro i hi
      unfold two
      split
      · exact ⟨ha, fa⟩
      · exact ⟨hb, fb⟩
    refine (utwo_y a b (fAdd a b) (tfF (tLost a b).1 true (tLost a b).2.1 (tLost a b).2.2 2) (tS (tF a) (tF b)) (tLost a b) w hX hf kn (fun W Bs g hbw c1 c2 c3 => ?_) (fun W A hbw hA => ?_) (fun W A hbw hA => ?_)).mono ?_
    · rw [← tSum_two a b]
      exact total_floats Bs 2 2 (some ⟨g, 0, none⟩) (two a b) W (by omega) hF (fun k hk => tSum_add _ (by omega)) (hT.later hbw) (Tab.later hI hbw) ⟨g, 0, fun _ => rfl, fun j hj => by
        rcases (show j = 0 ∨ j = 1 by omega) with rfl | rfl
        · exact c2
        · exact c3⟩ c1
    · exact utaken (hT.later hbw) (Tab.later hI hbw) hX hf hA (sub_op (tS2_ok a b) (tF_ok _) (tLost_okR a b))
    · exact urounded (hT.later hbw) (tLost_ok a b) hA (by omega)
    · rintro r w' ⟨rfl, hbw⟩
      exact ⟨fAdd a b, by rw [← lost_tf (tLost_ok a b)], lk.refl hX, hbw⟩
  · rw [if_neg hf]
    exact utwo_n a b (fAdd a b) w hX hf kn
def l4 (i : Nat) : Nat := if i = 0 then 4607182418800017408 else if i = 1 then 6103021453049119613 else if i = 2 then 4607182418800017408 else 15326393489903895421
theorem l4_fls : Fls l4 4 := by
  intro i hi
  unfold l4
  split
  · decide
  · split
    · decide
    · split <;> decide
theorem l4_ex : exF l4 4 2 = 4611686018427387904 := by decide +kernel
theorem l4_e : exE l4 4 2 = 0 := by decide +kernel
theorem l4_e0 : exE l4 4 0 = 1 := by decide +kernel
theorem l4_row : rowF l4 4 = 0 := by decide +kernel
theorem l4_kept : ktF l4 4 = 4611686018427387904 := by decide +kernel
theorem l4_hal : halF 4 l4 4 = 0 := by decide +kernel
theorem two_s : fAdd 4846369599423283200 4607182418800017408 = 4846369599423283200 := by decide +kernel
theorem two_c : lostF 4846369599423283200 4607182418800017408 = 4607182418800017408 := by decide +kernel
set_option maxRecDepth 200000 in
theorem sure5_ok (w : World) (hT : Tab32 w) (hI : Ie.Tab w) : Calls Tryz.prog 18 #[] w fun r w' => r = .returned (.bool true) ∧ Below w.heap.size w w' := by
  have e1 : (FloatKind.f64.format.order 0 0 == some Ordering.eq) = true := by decide +kernel
  have e2 : (FloatKind.f64.format.order 4611686018427387904 4611686018427387904 == some Ordering.eq) = true := by decide +kernel
  have e3 : (FloatKind.f64.format.order 4846369599423283200 4846369599423283200 == some Ordering.eq) = true := by decide +kernel
  have e4 : (FloatKind.f64.format.order 4607182418800017408 4607182418800017408 == some Ordering.eq) = true := by decide +kernel
  obtain ⟨V, hV⟩ : ∃ V, V = w.alloc (.cells #[.float .f64 4607182418800017408, .float .f64 6103021453049119613, .float .f64 4607182418800017408, .float .f64 15326393489903895421] 25) := ⟨_, rfl⟩
  have hbV : Below w.heap.size w V := by rw [hV]; exact (Below.refl _ _).alloc (Nat.le_refl _) _
  have hh : V.heap[w.heap.size]? = some (.cells #[.float .f64 4607182418800017408, .float .f64 6103021453049119613, .float .f64 4607182418800017408, .float .f64 15326393489903895421] 25 (0, 0)) := by rw [hV]; exact heap_alloc_new _ _
  have hl : FAt V (some ⟨w.heap.size, 0, none⟩) 4 l4 := ⟨w.heap.size, 0, fun _ => rfl, fun j hj => by
    unfold World.cell?
    rw [hh]
    rcases (show j = 0 ∨ j = 1 ∨ j = 2 ∨ j = 3 by omega) with rfl | rfl | rfl | rfl <;> rfl⟩
  have HT : Hid (∀ W, Below w.heap.size w W → Tab32 W ∧ Ie.Tab W) := fun W h => ⟨hT.later h, Tab.later hI h⟩
  have HL : Hid (∀ W, Below V.heap.size V W → FAt W (some ⟨w.heap.size, 0, none⟩) 4 l4) := fun W h => hl.later h
  have HV : Hid (Below w.heap.size w V) := hbV
  have HZ : Hid (w.heap.size ≤ V.heap.size) := hbV.size
  have kk := uExact (some ⟨w.heap.size, 0, none⟩) 4 4 l4 2 V (hT.later hbV) (Tab.later hI hbV) hl l4_fls (by omega)
  rw [l4_ex, l4_e] at kk
  clear hT hI hbV hh hl
  go_enter Tryz.func18, Tryz.ntmps18
  go_wp2_with fail
  rw [← hV]
  clear hV
  generalize hg0 : w.heap.size = g0 at *
  have HG : Hid (w.heap.size = g0) := hg0
  clear hg0
  refine kk.mono ?_
  rintro r w1 ⟨rfl, hb1⟩
  have HB1 : Hid (Below V.heap.size V w1) := hb1
  clear kk hb1
  have HW : Hid (∀ W, Below V.heap.size V W → Below g0 w W) := fun W h => HV.out.trans (h.mono HZ.out)
  have kk := uExact (some ⟨g0, 0, none⟩) 4 4 l4 0 w1 (HT.out _ (HW.out _ HB1.out)).1 (HT.out _ (HW.out _ HB1.out)).2 (HL.out _ HB1.out) l4_fls (by omega)
  rw [l4_e0] at kk
  go_wp2_with fail
  refine kk.mono ?_
  rintro r w2 ⟨rfl, hb2⟩
  have HB2 : Hid (Below V.heap.size V w2) := HB1.out.trans (hb2.mono HB1.out.size)
  clear kk hb2 HB1
  have kk := uTwo 4846369599423283200 4607182418800017408 (by decide) (by decide) w2 (HT.out _ (HW.out _ HB2.out)).1 (HT.out _ (HW.out _ HB2.out)).2
  rw [two_s, two_c] at kk
  go_wp2_with fail
  refine kk.mono ?_
  rintro r w3 ⟨n3, rfl, hl3, hb3⟩
  obtain rfl : n3 = 4846369599423283200 := hl3.eq (by decide)
  have HB3 : Hid (Below V.heap.size V w3) := HB2.out.trans (hb3.mono HB2.out.size)
  clear kk hb3 hl3 HB2
  have kk := urow (some ⟨g0, 0, none⟩) 4 4 l4 w3 (HT.out _ (HW.out _ HB3.out)).1 (HT.out _ (HW.out _ HB3.out)).2 (HL.out _ HB3.out) l4_fls (by omega) (by omega)
  rw [l4_row] at kk
  go_wp2_with fail
  refine kk.mono ?_
  rintro r w4 ⟨n4, rfl, hl4, hb4⟩
  obtain rfl : n4 = 0 := hl4.eq (by decide)
  have HB4 : Hid (Below V.heap.size V w4) := HB3.out.trans (hb4.mono HB3.out.size)
  clear kk hb4 hl4 HB3
  have kk := ukept (some ⟨g0, 0, none⟩) 4 4 l4 w4 (HT.out _ (HW.out _ HB4.out)).1 (HT.out _ (HW.out _ HB4.out)).2 (HL.out _ HB4.out) l4_fls (by omega)
  rw [l4_kept] at kk
  go_wp2_with fail
  refine kk.mono ?_
  rintro r w5 ⟨n5, rfl, hl5, hb5⟩
  obtain rfl : n5 = 4611686018427387904 := hl5.eq (by decide)
  have HB5 : Hid (Below V.heap.size V w5) := HB4.out.trans (hb5.mono HB4.out.size)
  clear kk hb5 hl5 HB4
  have kk := uhalves 4 (some ⟨g0, 0, none⟩) 4 4 l4 w5 (by omega) (HT.out _ (HW.out _ HB5.out)).1 (HT.out _ (HW.out _ HB5.out)).2 (HL.out _ HB5.out) l4_fls (by omega) (by omega)
  rw [l4_hal] at kk
  go_wp2_with fail
  refine kk.mono ?_
  rintro r w6 ⟨n6, rfl, hl6, hb6⟩
  obtain rfl : n6 = 0 := hl6.eq (by decide)
  have HB6 : Hid (Below g0 w w6) := HW.out _ (HB5.out.trans (hb6.mono HB5.out.size))
  clear kk hb6 hl6 HB5 HW HL HT HV
  go_wp2_with fail
  go_ret
  rw [HG.out]
  exact ⟨rfl, HB6.out⟩
theorem lsame5 {n X : Nat} (h : lk n X) (hX : X < 18446744073709551616) (w : World) : Calls Tryz.prog 10 #[.float .f64 n, .float .f64 X] w fun e w' => e = .returned (.bool true) ∧ w' = w := by
  have kd := Ie.dsame n X h.1 hX
  rw [h.2] at kd
  go_enter Tryz.func10, Tryz.ntmps10
  go_wp2_with (go_at_call 36; refine (kd _).mono ?_; rintro e w' ⟨rfl, rfl⟩)
  go_ret
  exact ⟨rfl, rfl⟩
theorem not_fin {a : Nat} (h : isNaN a = false) : Ie.isInf a = !fin a := by
  unfold isNaN at h
  simp only [decide_eq_false_iff_not] at h
  unfold fin
  rcases Nat.lt_or_ge (mag a) 9218868437227405312 with h1 | h1
  · rw [decide_eq_true h1, Ie.isInf_not.2 (by omega)]; rfl
  · rw [decide_eq_false (by omega), Ie.isInf_iff.2 (by omega)]; rfl
set_option maxRecDepth 200000 in
theorem dfault (ao : Option Addr) (len cap : Nat) (xs : Nat → Nat) (w : World) (hl : FAt w ao len xs) (hx : Fls xs len) (hlen : len ≤ 35184372088832) :
    Calls Tryz.prog 50 #[.slice ao len cap] w fun r w' => r = .returned (.int .i64 (chk1 xs len)) ∧ w' = w := by
  by_cases h1 : 65536 < len
  · have hi : (65536 : Int) < (len : Int) := by omega
    have hd : decide ((65536 : Int) < (len : Int)) = true := decide_eq_true hi
    have hc : chk1 xs len = 2 := if_pos h1
    go_enter Tryz.func50, Tryz.ntmps50
    go_wp2
    go_ret
    rw [hc]
    exact ⟨rfl, rfl⟩
  · have hi : ¬ (65536 : Int) < (len : Int) := by omega
    have hd : decide ((65536 : Int) < (len : Int)) = false := decide_eq_false hi
    obtain ⟨b, off, hao, hc⟩ := hl
    have HX : Hid (Fls xs len) := hx
    have HC : Hid (∀ j, j < len → w.cell? ⟨b, off + j, none⟩ = some (.float .f64 (xs j))) := hc
    have HA : Hid (0 < len → ao = some ⟨b, off, none⟩) := hao
    clear hx hc hao
    go_enter Tryz.func50, Tryz.ntmps50
    go_wp2
    go_loopw [3, 4] (fun e i wr => ∃ (j : Nat) (iv : Bool), j ≤ len ∧ i = .int .i64 (j : Int) ∧ wr = w ∧ e = .int .i64 (if iv then 5 else 0) ∧ Hid (anyP (fun i => isNaN (xs i)) j = false ∧ anyP (fun i => !fin (xs i)) j = iv)) (fun _ i _ => len - (intOf i).toNat)
    case atStart => exact ⟨0, false, by omega, rfl, rfl, rfl, rfl, rfl⟩
    case round =>
      obtain ⟨j, iv, hj, rfl, hwr, rfl, HR⟩ := hrel
      subst hwr
      by_cases hlt : j < len
      · obtain rfl := HA.out (by omega)
        have hcx : wr.cell? ⟨b, off + j, none⟩ = some (.float .f64 (xs j)) := HC.out j hlt
        have hxl := HX.out j hlt
        have kn := Ie.dnan (xs j) hxl
        have kj := Ie.dinf (xs j) hxl
        cases hp : isNaN (xs j)
        · rw [hp] at kn
          rw [not_fin hp] at kj
          cases hf : !fin (xs j)
          · rw [hf] at kj
            go_wp2_with (first | (go_at_call 70; refine (kn _).mono ?_; rintro r w' ⟨rfl, hw⟩; rw [hw]; clear hw w') | (go_at_call 71; refine (kj _).mono ?_; rintro r w' ⟨rfl, hw⟩; rw [hw]; clear hw w'))
            go_roundw
            case rel => exact ⟨j + 1, iv, by omega, by simp, by trivial, rfl, anyP_succ HR.out.1 hp, by show (anyP _ j || (!fin (xs j))) = iv; rw [HR.out.2, hf, Bool.or_false]⟩
            case measure => simp [intOf]; omega
          · rw [hf] at kj
            go_wp2_with (first | (go_at_call 70; refine (kn _).mono ?_; rintro r w' ⟨rfl, hw⟩; rw [hw]; clear hw w') | (go_at_call 71; refine (kj _).mono ?_; rintro r w' ⟨rfl, hw⟩; rw [hw]; clear hw w'))
            go_roundw
            case rel => exact ⟨j + 1, true, by omega, by simp, by trivial, rfl, anyP_succ HR.out.1 hp, by show (anyP _ j || (!fin (xs j))) = true; rw [hf, Bool.or_true]⟩
            case measure => simp [intOf]; omega
        · rw [hp] at kn
          have hc4 : Hid (chk1 xs len = 4) := (by unfold chk1; rw [if_neg h1, anyP_hit (p := fun i => isNaN (xs i)) hp hlt]; rfl : chk1 xs len = 4)
          generalize (if iv then (5 : Int) else 0) = ev
          go_wp2_with (first | (go_at_call 70; refine (kn _).mono ?_; rintro r w' ⟨rfl, hw⟩; rw [hw]; clear hw w'))
          go_ret
          rw [hc4.out]
          exact ⟨rfl, rfl⟩
      · obtain rfl : j = len := by omega
        have hce : Hid (chk1 xs j = if iv then 5 else 0) := (by unfold chk1; rw [if_neg h1, HR.out.1, HR.out.2]; rfl : chk1 xs j = if iv then 5 else 0)
        generalize (if iv then (5 : Int) else 0) = ev at *
        go_wp2
        go_ret
        rw [hce.out]
        exact ⟨rfl, rfl⟩
theorem dn_storeU {w : World} {A : Value} {t : Bool × Nat × Int} {g : Nat} {s : Bool} {ao : Option Addr} {n cap : Nat} {e : Int} (h : DN w A t) (hg : w.heap[g]? = some (.cells #[.bool s, .slice ao n cap, .int .i64 e] 50 (0, 0))) (a b c : Value) : DN (((w.setCell ⟨g, 0, none⟩ a).setCell ⟨g, 1, none⟩ b).setCell ⟨g, 2, none⟩ c) A t := by
  obtain ⟨oo, cc, h1, h2⟩ := h
  exact ⟨oo, cc, h1, h2.nil, at_box h2.at_ rfl hg (by simp) (by simp) (by simp) a b c, h2.le, h2.small⟩
set_option maxRecDepth 200000 in
theorem dtotal (ao : Option Addr) (len cap : Nat) (xs : Nat → Nat) (w : World) (hl : FAt w ao len xs) (hx : Fls xs len) (hlen : len ≤ 65536) :
    Calls Tryz.prog 53 #[.slice ao len cap] w fun r w' => ∃ A, r = .returned A ∧ DN w' A (tSum xs len) ∧ Below w.heap.size w w' := by
  obtain ⟨b, off, hao, hc⟩ := hl
  obtain ⟨W, hW⟩ : ∃ W, W = (w.alloc (.cells #[.bool false, .slice none 0 0, .int .i64 0] 50)).alloc (.cells #[.bool false, .slice none 0 0, .int .i64 0] 50) := ⟨_, rfl⟩
  obtain ⟨hA, hB, hsz, hBW⟩ := two29 _ _ hW
  have HX : Hid (Fls xs len) := hx
  have HC : Hid (∀ j, j < len → w.cell? ⟨b, off + j, none⟩ = some (.float .f64 (xs j))) := hc
  have HA : Hid (0 < len → ao = some ⟨b, off, none⟩) := hao
  have HI : Hid (Below w.heap.size w W ∧ W.heap[w.heap.size]? = some (.cells #[.bool false, .slice none 0 0, .int .i64 0] 50 (0, 0)) ∧ ∃ s ao n cap e, W.heap[w.heap.size + 1]? = some (.cells #[.bool s, .slice ao n cap, .int .i64 e] 50 (0, 0)) ∧ DN W (.agg #[.bool s, .slice ao n cap, .int .i64 e]) (tSum xs 0)) := ⟨hBW, hA, _, _, _, _, _, hB, dn_nought W⟩
  clear hx hc hao hA hB hsz hBW
  go_enter Tryz.func53, Tryz.ntmps53
  go_wp2
  rw [← hW]
  clear hW
  go_loopw [4] (fun i wr => ∃ j : Nat, j ≤ len ∧ i = .int .i64 (j : Int) ∧ Hid (Below w.heap.size w wr ∧ wr.heap[w.heap.size]? = some (.cells #[.bool false, .slice none 0 0, .int .i64 0] 50 (0, 0)) ∧ ∃ s ao n cap e, wr.heap[w.heap.size + 1]? = some (.cells #[.bool s, .slice ao n cap, .int .i64 e] 50 (0, 0)) ∧ DN wr (.agg #[.bool s, .slice ao n cap, .int .i64 e]) (tSum xs j))) (fun i _ => len - (intOf i).toNat)
  case atStart => exact ⟨0, by omega, rfl, HI⟩
  case round =>
    obtain ⟨j, hj, rfl, HR⟩ := hrel
    clear HI
    by_cases hlt : j < len
    · obtain rfl := HA.out (by omega)
      have hcx : wr.cell? ⟨b, off + j, none⟩ = some (.float .f64 (xs j)) := FAt.cellAt (ao := none) HC.out (j := j) (by omega) HR.out.1
      obtain ⟨s1, ao1, n1, cap1, ex1, hb1, hp1⟩ := HR.out.2.2
      obtain ⟨⟨a0, a1, a2⟩, -⟩ := box_cells29 hb1
      have HK : Hid (∀ w', Below wr.heap.size wr w' → (w'.cell? ⟨w.heap.size + 1, 0, none⟩ = some (.bool s1) ∧ w'.cell? ⟨w.heap.size + 1, 1, none⟩ = some (.slice ao1 n1 cap1) ∧ w'.cell? ⟨w.heap.size + 1, 2, none⟩ = some (.int .i64 ex1)) ∧ w'.cell? ⟨b, off + j, none⟩ = some (.float .f64 (xs j)) ∧ Below wr.heap.size wr w') := fun w' hb => ⟨(box_cells29 (box_later hb1 hb (lt_of_box hb1))).1, (hb.cell (p := ⟨b, off + j, none⟩) (World.block_lt_of_cell? _ _ hcx)).trans hcx, hb⟩
      have hBR : Below wr.heap.size wr wr.drew := (Below.refl _ _).drew
      have qf : ∀ w4, Below wr.heap.size wr w4 → Calls Tryz.prog 30 #[.float .f64 (xs j)] w4 fun r w' => ∃ A, r = .returned A ∧ DN w' A (tF (xs j)) ∧ (w'.cell? ⟨w.heap.size + 1, 0, none⟩ = some (.bool s1) ∧ w'.cell? ⟨w.heap.size + 1, 1, none⟩ = some (.slice ao1 n1 cap1) ∧ w'.cell? ⟨w.heap.size + 1, 2, none⟩ = some (.int .i64 ex1)) ∧ Below wr.heap.size wr w' := fun w4 hb => (float_dn (xs j) (HX.out j hlt) w4).mono fun r w' ⟨A, e1, e2, e3⟩ => ⟨A, e1, e2, (HK.out _ (hb.trans (e3.mono hb.size))).1, hb.trans (e3.mono hb.size)⟩
      have qp : ∀ w4 Y, Below wr.heap.size wr w4 → DN w4 Y (tF (xs j)) → Calls Tryz.prog 29 #[.agg #[.bool s1, .slice ao1 n1 cap1, .int .i64 ex1], Y] w4 fun r w' => ∃ s ao n cap e, r = .returned (.agg #[.bool s, .slice ao n cap, .int .i64 e]) ∧ DN w' (.agg #[.bool s, .slice ao n cap, .int .i64 e]) (tSum xs (j + 1)) ∧ Below wr.heap.size wr w' ∧ w'.heap[w.heap.size + 1]? = some (.cells #[.bool s1, .slice ao1 n1 cap1, .int .i64 ex1] 50 (0, 0)) := fun w4 Y hb h => (plus_dn (tSum_ok xs (by omega)).1 (tF_ok _) (hp1.later hb) h).mono fun r w' ⟨A, e1, e2, e3⟩ => by
        obtain ⟨s, ao, n, cap, e, rfl⟩ := e2.shape
        exact ⟨s, ao, n, cap, e, e1, e2, hb.trans (e3.mono hb.size), box_later hb1 (hb.trans (e3.mono hb.size)) (lt_of_box hb1)⟩
      clear hb1 hp1
      generalize hxe : xs j = xe at hcx qf qp
      go_upto_region 5 with fail
      go_region_with (first | (go_at_call 30; refine (qf _ hBR).mono ?_; rintro r w5 ⟨A5, rfl, hP5, ⟨b0, b1, b2⟩, hb5⟩) | (go_at_call 29; refine (qp _ _ hb5 hP5).mono ?_; rintro r w6 ⟨s6, ao6, n6, cap6, ex6, rfl, hP6, hb6, hz6⟩; obtain ⟨⟨y0, y1, y2⟩, y3, y4, y5⟩ := box_cells29 hz6))
      all_goals
        have hbx : Below (w.heap.size + 1) wr (((w6.setCell ⟨w.heap.size + 1, 0, none⟩ (.bool s6)).setCell ⟨w.heap.size + 1, 1, none⟩ (.slice ao6 n6 cap6)).setCell ⟨w.heap.size + 1, 2, none⟩ (.int .i64 ex6)) := below_store3 (hb6.mono (by have := lt_of_box HR.out.2.1; omega)) (Nat.le_refl _) _ _ _
        have HF : Hid (Below w.heap.size w (((w6.setCell ⟨w.heap.size + 1, 0, none⟩ (.bool s6)).setCell ⟨w.heap.size + 1, 1, none⟩ (.slice ao6 n6 cap6)).setCell ⟨w.heap.size + 1, 2, none⟩ (.int .i64 ex6)) ∧ (((w6.setCell ⟨w.heap.size + 1, 0, none⟩ (.bool s6)).setCell ⟨w.heap.size + 1, 1, none⟩ (.slice ao6 n6 cap6)).setCell ⟨w.heap.size + 1, 2, none⟩ (.int .i64 ex6)).heap[w.heap.size]? = some (.cells #[.bool false, .slice none 0 0, .int .i64 0] 50 (0, 0)) ∧ ∃ s ao n cap e, (((w6.setCell ⟨w.heap.size + 1, 0, none⟩ (.bool s6)).setCell ⟨w.heap.size + 1, 1, none⟩ (.slice ao6 n6 cap6)).setCell ⟨w.heap.size + 1, 2, none⟩ (.int .i64 ex6)).heap[w.heap.size + 1]? = some (.cells #[.bool s, .slice ao n cap, .int .i64 e] 50 (0, 0)) ∧ DN (((w6.setCell ⟨w.heap.size + 1, 0, none⟩ (.bool s6)).setCell ⟨w.heap.size + 1, 1, none⟩ (.slice ao6 n6 cap6)).setCell ⟨w.heap.size + 1, 2, none⟩ (.int .i64 ex6)) (.agg #[.bool s, .slice ao n cap, .int .i64 e]) (tSum xs (j + 1))) :=
          ⟨HR.out.1.trans (hbx.mono (by omega)), box_later HR.out.2.1 hbx (by omega), _, _, _, _, _, store3_29 _ _ _ hz6, dn_storeU hP6 hz6 _ _ _⟩
        clear hP5 hb5 hP6 hb6 hz6 qf qp HK hBR a0 a1 a2 b0 b1 b2 HR hbx hcx
        go_wp2_with fail
        go_roundw
        case rel => exact ⟨j + 1, by omega, by simp, HF⟩
        case measure => simp [intOf]; omega
    · obtain rfl : j = len := by omega
      obtain ⟨s1, ao1, n1, cap1, ex1, hb1, hp1⟩ := HR.out.2.2
      obtain ⟨⟨a0, a1, a2⟩, -⟩ := box_cells29 hb1
      obtain ⟨⟨z0, z1, z2⟩, z3, z4, z5⟩ := box_cells29 HR.out.2.1
      have HS : Hid (DN wr (.agg #[.bool s1, .slice ao1 n1 cap1, .int .i64 ex1]) (tSum xs j)) := hp1
      clear hb1 hp1
      go_wp2_with fail
      refine bodyPost_ret (results_cell_row rfl _ _ w.heap.size 50 #[.bool s1, .slice ao1 n1 cap1, .int .i64 ex1] (0, 0) _ rfl (store3_29 _ _ _ HR.out.2.1) Tryz.underlying50 rfl Tryz.info50) rfl ?_
      exact ⟨_, rfl, dn_storeU HS.out HR.out.2.1 _ _ _, below_store3 HR.out.1 (Nat.le_refl _) _ _ _⟩
theorem utf_zero {m : Int} (hm : isM m = true) : tfF false true 0 0 m = 0 := by
  have := isM_iff.1 hm
  rcases (show m = 1 ∨ m = 2 ∨ m = 3 by omega) with rfl | rfl | rfl <;> decide +kernel
end Go.Proofs.YthkgklkhlcbmaaaGreatDoor
namespace Go.Proofs.YthkgklkhlcbmaaaGreatDoor
set_option linter.unusedVariables false
set_option linter.unusedSimpArgs false
open Go.ChangeShapes Go.WideShapes Go.Deep Go.RowKit Go.Fl64
theorem cellsF64 : Tryz.prog.cellsOf 25 = 1 := by kernel_rfl
theorem bytesF64 : Tryz.prog.bytesOf 25 = 8 := by kernel_rfl
theorem trod_flt {H : Type} {enc : TypeId × Value → H} {W : World} {base : Nat} {spare : Nat → Bool} {held : Bool} {fuel : Nat} {v : Value} {x : DataW H × List MemPlace}
    (h : DataW.trod enc Tryz.prog W base spare held fuel 25 [v] = some x) : ∃ b, v = .float .f64 b ∧ b < 18446744073709551616 := by
  cases fuel with
  | zero => simp [DataW.trod] at h
  | succ n =>
    cases v with
    | float k b =>
      simp only [DataW.trod, Tryz.underlying25] at h
      by_cases hk : k = .f64
      · subst hk
        by_cases hw : (Lit.float .f64 b).wf = true
        · exact ⟨b, rfl, by simpa [Lit.wf] using hw⟩
        · simp [hw] at h
      · simp [hk] at h
    | _ => simp [DataW.trod, Tryz.underlying25] at h
set_option maxRecDepth 100000 in
theorem open_floats {H : Type} {enc : TypeId × Value → H} {W : World} {base : Nat} {v : Value} {d : DataW H} {p : List MemPlace} (hval : Value.okWide Tryz.prog W .any base 22 v)
    (h : DataW.Trod enc Tryz.prog W 0 (fun _ => true) true 22 v d p) (hw : ∀ n ∈ d.weights Tryz.prog 22, n ≤ reachBytes) :
    ∃ ao len cap xs, v = .slice ao len cap ∧ FAt W ao len xs ∧ Fls xs len ∧ (len = 0 → (∃ ad, ao = some ad) ∨ (ao = none ∧ cap = 0)) ∧ len ≤ cap ∧ cap ≤ 17592186043904 := by
  obtain ⟨a0, len0, cap0, rfl⟩ := okWide_slice Tryz.underlying22 hval
  obtain ⟨fuel, hf⟩ := h
  rcases open_slice1 Tryz.underlying22 cellsF64 hf with ⟨hcs, hx⟩ | ⟨a, len, cap, m, n, V, D, Pl, hcs, hb, hl, hm, hmm, hx, hcell⟩
  · simp [Value.cells] at hcs
    obtain ⟨rfl, rfl, rfl⟩ := hcs
    exact ⟨none, 0, 0, fun _ => 0, rfl, ⟨0, 0, fun h => by omega, fun j hj => by omega⟩, fun i hi => by omega, fun _ => .inr ⟨rfl, rfl⟩, Nat.le_refl _, by omega⟩
  · simp [Value.cells] at hcs
    obtain ⟨rfl, rfl, rfl⟩ := hcs
    simp only [Prod.mk.injEq] at hx
    obtain ⟨rfl, rfl⟩ := hx
    simp only [if_true] at hmm
    subst hmm
    have hcap : m ≤ 17592186043904 := by
      have := hw ((((List.range len0).map D).length + ((List.range (m - len0)).map fun j => D (len0 + j)).length) * Tryz.prog.bytesOf 25) (by
        simp only [DataW.weights, Tryz.underlying22, List.mem_cons]
        simp)
      rw [bytesF64] at this
      simp only [List.length_map, List.length_range, reachBytes] at this
      omega
    have each : ∀ i, ∃ x, i < m → V i = .float .f64 x ∧ x < 18446744073709551616 := fun i => by
      by_cases hi : i < m
      · obtain ⟨x, h1, h2⟩ := trod_flt (hcell i hi).2
        exact ⟨x, fun _ => ⟨h1, h2⟩⟩
      · exact ⟨0, fun h => absurd h hi⟩
    obtain ⟨xs, hxs⟩ : ∃ xs : Nat → Nat, ∀ i, i < m → V i = .float .f64 (xs i) ∧ xs i < 18446744073709551616 := ⟨fun i => Classical.choose (each i), fun i hi => Classical.choose_spec (each i) hi⟩
    refine ⟨some a, len0, m, xs, rfl, ?_, fun i hi => (hxs i (by omega)).2, fun _ => .inl ⟨a, rfl⟩, hl, hcap⟩
    by_cases h0 : len0 = 0
    · exact ⟨0, 0, fun h => by omega, fun j hj => by omega⟩
    · obtain ⟨b, off, spot⟩ := a
      have hspot : spot = none := by simpa [Addr.add] using World.cell?_spot (hcell 0 (by omega)).1
      subst hspot
      refine ⟨b, off, fun _ => rfl, fun j hj => ?_⟩
      have := (hcell j (by omega)).1
      rw [(hxs j (by omega)).1] at this
      by_cases hj0 : j = 0
      · subst hj0; simpa [Addr.add] using this
      · simpa [Addr.add, hj0] using this
end Go.Proofs.YthkgklkhlcbmaaaGreatDoor
namespace Go.Proofs.YthkgklkhlcbmaaaGreatDoor
set_option linter.unusedVariables false
set_option linter.unusedSimpArgs false
open Go.RowKit Go.Fl64
theorem bv_has (j : Nat) : ∀ q, q ≤ 9007199254740992 → ∃ m, bv m = q * 2 ^ j := by
  induction j with
  | zero => exact fun q hq => ⟨0 * 4503599627370496 + q, bv_at (.inl ⟨rfl, hq⟩)⟩
  | succ j ih =>
    intro q hq
    by_cases h : 4503599627370496 ≤ q
    · exact ⟨(j + 1) * 4503599627370496 + q, bv_at (.inr ⟨h, hq⟩)⟩
    · obtain ⟨m, hm⟩ := ih (2 * q) (by omega)
      exact ⟨m, by rw [hm, Nat.pow_succ]; rw [Nat.mul_comm 2 q, Nat.mul_assoc, Nat.mul_comm 2]⟩
theorem Rounds.near {N u b : Nat} (hu : 0 < u) (h : Rounds (N * u) u b 1) (m : Nat) : ((N : Int) - bv b).natAbs ≤ ((N : Int) - bv m).natAbs := by
  obtain ⟨b0, ⟨l, g⟩, -, -, w1⟩ := h.fl
  have w := w1 rfl
  have l' : bv b0 ≤ N := Nat.le_of_mul_le_mul_right l hu
  have g' : N < bv (b0 + 1) := Nat.lt_of_mul_lt_mul_right g
  have i1 : 2 * (N * u) < (bv b0 + bv (b0 + 1)) * u ↔ 2 * N < bv b0 + bv (b0 + 1) := by
    rw [← Nat.mul_assoc]; exact Nat.mul_lt_mul_right hu
  have i2 : 2 * (N * u) = (bv b0 + bv (b0 + 1)) * u ↔ 2 * N = bv b0 + bv (b0 + 1) := by
    rw [← Nat.mul_assoc]; exact Nat.mul_left_inj (by omega)
  simp only [i1, i2] at w
  have hb : (b = b0 ∧ 2 * N ≤ bv b0 + bv (b0 + 1)) ∨ (b = b0 + 1 ∧ bv b0 + bv (b0 + 1) ≤ 2 * N) := by
    split at w
    · exact .inl ⟨w, by omega⟩
    · split at w
      · rcases (show b0 % 2 = 0 ∨ b0 % 2 = 1 by omega) with p | p
        · exact .inl ⟨by omega, by omega⟩
        · exact .inr ⟨by omega, by omega⟩
      · exact .inr ⟨w, by omega⟩
  have hm : bv m ≤ bv b0 ∨ bv (b0 + 1) ≤ bv m := by
    rcases (show m ≤ b0 ∨ b0 + 1 ≤ m by omega) with p | p
    · exact .inl (bv_le p)
    · exact .inr (bv_le p)
  rcases hb with ⟨rfl, p⟩ | ⟨rfl, p⟩ <;> rcases hm with q | q <;> omega
theorem vz_num5 {a : Nat} (ha : a < 18446744073709551616) (hf : mag a < 9218868437227405312) : vz 70000 (tF a).1 (tF a).2.1 (tF a).2.2 = sv (neg a) (bv (mag a)) * (UU 70000 : Nat) := by
  obtain ⟨m, hm, -⟩ := sM_lt a ha
  have e : nM a = m := by unfold nM; rw [hm]; rfl
  have hE : -1074 ≤ Ie.sE a := by
    by_cases h0 : mag a = 0
    · rw [(num_zero h0).2]; omega
    · exact (num_parts hf h0).2.2.1
  rw [← sv_scale, ← cn_parts a m ha hf hm, vz_cn (by omega), ← vz_num (K := 70000) (by omega) hf, e]
  unfold nN
  by_cases h0 : mag a = 0
  · have : nM a = 0 := (num_zero h0).1
    rw [← e, this]
    unfold vz
    rw [sv_zero, sv_zero]
  · rw [if_neg h0]
theorem fits_low {lo hi : Int} {t : Bool × Nat × Int} (o : Ok t) : 0 ≤ t.2.2 + (70000 : Nat) := by
  obtain ⟨f1, f2, f3, -, -⟩ := o.facts
  omega
theorem tf_near {s : Bool} {x : Nat} {e : Int} (he : -65536 ≤ e) (hx : x ≠ 0) (hf : mag (tfF s true x e 2) < 9218868437227405312) : mag (tfF s true x e 2) = rwb x e 1 ∧ neg (tfF s true x e 2) = s := by
  rw [tf_bdy (by omega)] at hf ⊢
  have e1 : wyN s 2 = 1 := by unfold wyN; rw [if_pos rfl]
  rw [e1] at hf ⊢
  obtain ⟨h1, h2, -⟩ := mag_sig (s := s) (bdy_le x e 1)
  rw [h1] at hf
  refine ⟨?_, h2⟩
  rw [h1]
  unfold bdy at hf ⊢
  rw [if_neg hx] at hf ⊢
  split at hf
  · rename_i g; rw [if_pos g]
  · rw [if_neg (by decide)] at hf; omega
theorem sv_pos_of {s : Bool} {V U : Nat} {P : Int} (hU : 0 < U) (hV : 0 < V) (h : sv s V = P * (U : Int)) : sv s P.natAbs = P ∧ V = P.natAbs * U := by
  rcases Int.natAbs_eq P with q | q <;> generalize P.natAbs = n at q <;> subst q
  · have h' : sv s V = ((n * U : Nat) : Int) := by rw [h]; rw [Int.natCast_mul]
    cases s
    · have : (V : Int) = ((n * U : Nat) : Int) := h'
      exact ⟨rfl, by omega⟩
    · have : -(V : Int) = ((n * U : Nat) : Int) := h'
      omega
  · have h' : sv s V = -((n * U : Nat) : Int) := by rw [h, Int.natCast_mul, Int.neg_mul]
    cases s
    · have : (V : Int) = -((n * U : Nat) : Int) := h'
      omega
    · have : -(V : Int) = -((n * U : Nat) : Int) := h'
      exact ⟨rfl, by omega⟩
def fcells (xs : Nat → Nat) (n : Nat) : List Value := (List.range n).map fun i => .float .f64 (xs i)
theorem info_f64 : (Tryz.prog.info? 25).map (fun i => (i.zero, i.size, i.bytes)) = some (some (.float .f64 0), 1, 8) := by kernel_rfl
theorem fcells_get {xs : Nat → Nat} {n i : Nat} (h : i < n) : (fcells xs n)[i]? = some (.float .f64 (xs i)) := by simp [fcells, h]
theorem fat_of_row {w : World} {base n : Nat} {xs : Nat → Nat} {v : Value} (h : w.ownsRow base 25 1 v n (fcells xs n)) : ∃ ao cap, v = .slice ao n cap ∧ FAt w ao n xs ∧ n ≤ cap ∧ cap ≤ 9223372036854775807 := by
  rcases h.2 with ⟨rfl, rfl⟩ | ⟨g, cap, cur, rfl, hg, hc2, hc3, hc4, hc5, hc6⟩
  · exact ⟨none, 0, rfl, ⟨0, 0, fun h => by omega, fun j hj => by omega⟩, Nat.le_refl _, by omega⟩
  · refine ⟨some ⟨g, 0, none⟩, cap, rfl, ⟨g, 0, fun _ => rfl, fun j hj => ?_⟩, hc3, by unfold maxLen at hc4; omega⟩
    have h7 : (fcells xs n)[j]? = cur[j]? := by
      rw [← hc6, Nat.mul_one, List.getElem?_take, if_pos hj, Array.getElem?_toList]
    rw [fcells_get hj] at h7
    unfold World.cell?
    rw [hc2]
    show (if false then none else cur[0 + j]?) = _
    rw [if_neg (by decide), Nat.zero_add, ← h7]
set_option maxRecDepth 200000 in
theorem lall5 {ao ao' : Option Addr} {n cap cap' : Nat} {xs : Nat → Nat} {w : World} (h1 : FAt w ao n xs) (h2 : FAt w ao' n xs) (hx : Fls xs n) (hsm : n ≤ 17592186043904) :
    Calls Tryz.prog 17 #[.slice ao n cap, .slice ao' n cap'] w fun r w' => r = .returned (.bool true) ∧ Below w.heap.size w w' := by
  obtain ⟨b, off, hao, hc⟩ := h1
  obtain ⟨b', off', hao', hc'⟩ := h2
  have HX : Hid (Fls xs n) := hx
  have HC : Hid ((∀ j, j < n → w.cell? ⟨b, off + j, none⟩ = some (.float .f64 (xs j))) ∧ (∀ j, j < n → w.cell? ⟨b', off' + j, none⟩ = some (.float .f64 (xs j)))) := ⟨hc, hc'⟩
  have HA : Hid (0 < n → ao = some ⟨b, off, none⟩ ∧ ao' = some ⟨b', off', none⟩) := fun h => ⟨hao h, hao' h⟩
  have hnn : ((n : Int) != (n : Int)) = false := by simp
  clear hx hc hao hc' hao'
  go_enter Tryz.func17, Tryz.ntmps17
  go_wp2
  go_loopw [5] (fun i wr => ∃ j : Nat, j ≤ n ∧ i = .int .i64 (j : Int) ∧ Hid (Below w.heap.size w wr)) (fun i _ => n - (intOf i).toNat)
  case atStart => exact ⟨0, by omega, rfl, Below.refl _ _⟩
  case round =>
    obtain ⟨j, hj, rfl, HR⟩ := hrel
    by_cases hlt : j < n
    · obtain ⟨rfl, rfl⟩ := HA.out (by omega)
      have hBR : Below w.heap.size w wr.drew := HR.out.drew
      have HK : Hid (∀ w', Below w.heap.size w w' → (w'.cell? ⟨b, off + j, none⟩ = some (.float .f64 (xs j)) ∧ w'.cell? ⟨b', off' + j, none⟩ = some (.float .f64 (xs j))) ∧ Below w.heap.size w w') := fun w' hb => ⟨⟨FAt.cellAt (ao := none) HC.out.1 (by omega) hb, FAt.cellAt (ao := none) HC.out.2 (by omega) hb⟩, hb⟩
      obtain ⟨⟨c1, c2⟩, -⟩ := HK.out wr HR.out
      have hji : (0 : Int) ≤ (j : Int) := by omega
      have hjn : (j : Int) < (n : Int) := by omega
      have ks := fun W => lsame5 (lk.refl (HX.out j hlt)) (HX.out j hlt) W
      generalize hxe : xs j = xe at *
      go_upto_region 6 with fail
      go_region_held3 (fun w' => (w'.cell? ⟨b, off + j, none⟩ = some (.float .f64 xe) ∧ w'.cell? ⟨b', off' + j, none⟩ = some (.float .f64 xe)) ∧ Below w.heap.size w w') (first | (with_reducible assumption) | (refine HK.out _ ?_; first | (with_reducible assumption) | exact hBR) | go_keep)
        (first | (go_at_call 10; refine (ks _).mono ?_; rintro r w' ⟨rfl, hw⟩; rw [hw]; clear hw w'))
      go_wp2_with fail
      go_roundw
      case rel => exact ⟨j + 1, by omega, by simp, hBR⟩
      case measure => simp [intOf]; omega
    · obtain rfl : j = n := by omega
      go_wp2
      go_ret
      exact ⟨rfl, HR.out⟩
end Go.Proofs.YthkgklkhlcbmaaaGreatDoor
namespace Go.Proofs.YthkgklkhlcbmaaaGreatDoor
set_option linter.unusedVariables false
set_option linter.unusedSimpArgs false
open Go Go.RowKit Go.Fl64 Go.Shelf
attribute [local go_sem] Oper.semAt_some
def TotG (w : World) (B g3 : Nat) (ts : Nat → Bool × Nat × Int) (k : Nat) (W : World) : Prop :=
  Below w.heap.size w W ∧ B ≤ W.heap.size ∧ W.heap[w.heap.size]? = some (.cells #[.bool false, .slice none 0 0, .int .i64 0] 59 (0, 0)) ∧ ∃ s ao n cap e, W.heap[g3]? = some (.cells #[.bool s, .slice ao n cap, .int .i64 e] 59 (0, 0)) ∧ PN W (.agg #[.bool s, .slice ao n cap, .int .i64 e]) (ts k)
theorem TotG.later {w : World} {B g3 : Nat} {ts : Nat → Bool × Nat × Int} {k : Nat} {A C : World} (h : TotG w B g3 ts k A) (hb : Below A.heap.size A C) : TotG w B g3 ts k C := by
  obtain ⟨h1, h2, h3, s, ao, n, cap, e, h4, h5⟩ := h
  exact ⟨h1.trans (hb.mono h1.size), Nat.le_trans h2 hb.size, box_later h3 hb (lt_of_box h3), s, ao, n, cap, e, box_later h4 hb (lt_of_box h4), h5.later hb⟩
theorem TotG.put {w : World} {B g3 : Nat} {ts : Nat → Bool × Nat × Int} {k l : Nat} {A : World} {o o' : Obj} (h : TotG w B g3 ts k A) (hB : w.heap.size ≤ B) (hl : B ≤ l) (ho : A.heap[l]? = some o) (hc : o.isCells = false) : TotG w B g3 ts k (A.putObj l o') := by
  obtain ⟨h1, h2, h3, s, ao, n, cap, e, h4, h5⟩ := h
  have hb : Below w.heap.size A (A.putObj l o') := (Below.refl w.heap.size A).grown (grownBy_putObj' A l o') (by have := (Array.getElem?_eq_some_iff.1 ho).1; omega) (fun k e => by cases e; omega)
  exact ⟨h1.trans hb, Nat.le_trans h2 hb.size, box_put h3 ho hc, s, ao, n, cap, e, box_put h4 ho hc, pn_put h5 ho hc⟩
attribute [local go_sem] Oper.semAt_some
end Go.Proofs.YthkgklkhlcbmaaaGreatDoor
namespace Go.Proofs.YthkgklkhlcbmaaaGreatDoor
set_option linter.unusedVariables false
set_option linter.unusedSimpArgs false
open Go.RowKit Go.Fl64
def chk3 (xs ys : Nat → Nat) (len len' : Nat) : Int := if 65536 < len then 2 else if anyP (fun i => isNaN (ys i)) len' then 4 else if chk1 xs len = 0 then (if anyP (fun i => !fin (ys i)) len' then 5 else 0) else chk1 xs len
set_option maxRecDepth 200000 in
theorem uchecked3 (m : Int) (g : Nat) (ao ao' : Option Addr) (len cap len' cap' : Nat) (xs ys : Nat → Nat) (w : World) (hm : isM m = true) (hg : w.cell? ⟨g, 0, none⟩ = some (.slice ao len cap)) (hg' : w.cell? ⟨g, 1, none⟩ = some (.slice ao' len' cap')) (hl : FAt w ao len xs) (hl' : FAt w ao' len' ys) (hx : Fls xs len) (hy : Fls ys len') (hlen : len ≤ 35184372088832) (hlen' : len' ≤ 65536) :
    Calls Tryz.prog 47 #[.int .i64 m, .slice (some ⟨g, 0, none⟩) 2 2] w fun r w' => r = .returned (.int .i64 (chk3 xs ys len len')) ∧ Below w.heap.size w w' := by
  have kv := pvalid m w
  rw [hm] at kv
  have ka := uany ao len cap xs w hl hx hlen
  have HN : Hid (∀ W, Below w.heap.size w W → Calls Tryz.prog 87 #[.slice ao' len' cap'] W fun r w' => r = .returned (.bool (anyP (fun i => isNaN (ys i)) len')) ∧ Below W.heap.size W w') := fun W hb => uany ao' len' cap' ys W (hl'.later hb) hy (by omega)
  have HG : Hid (∀ W, Below w.heap.size w W → W.cell? ⟨g, 1, none⟩ = some (.slice ao' len' cap')) := fun W hb => (hb.cell (p := ⟨g, 1, none⟩) (World.block_lt_of_cell? _ _ hg')).trans hg'
  have HF : Hid (∀ W, Below w.heap.size w W → Calls Tryz.prog 88 #[.slice ao len cap] W fun r w' => r = .returned (.bool (!anyP (fun i => !fin (xs i)) len)) ∧ Below W.heap.size W w') := fun W hb => uallfin ao len cap xs W (hl.later hb) hx hlen
  have HF' : Hid (∀ W, Below w.heap.size w W → Calls Tryz.prog 88 #[.slice ao' len' cap'] W fun r w' => r = .returned (.bool (!anyP (fun i => !fin (ys i)) len')) ∧ Below W.heap.size W w') := fun W hb => uallfin ao' len' cap' ys W (hl'.later hb) hy (by omega)
  clear hl hx hm hl' hy hg'
  go_enter Tryz.func47, Tryz.ntmps47
  go_wp2_with fail
  refine kv.mono ?_
  rintro r w' ⟨rfl, hw⟩
  rw [hw]
  clear hw kv w'
  go_wp2_with fail
  go_loopw [6, 16] (fun e i wr => ∃ (j : Nat), i = .int .i64 (j : Int) ∧ ((j = 0 ∧ e = .int .i64 0 ∧ wr = w) ∨ (j = 1 ∧ e = .int .i64 (chk1 xs len) ∧ Hid (Below w.heap.size w wr ∧ ¬ 65536 < len)) ∨ (j = 2 ∧ e = .int .i64 (chk3 xs ys len len') ∧ Hid (Below w.heap.size w wr)))) (fun _ i _ => 2 - (intOf i).toNat)
  case atStart => exact ⟨0, rfl, .inl ⟨rfl, rfl, rfl⟩⟩
  case round =>
    obtain ⟨j, rfl, ⟨rfl, rfl, hwr⟩ | ⟨rfl, rfl, HB⟩ | ⟨rfl, rfl, HB⟩⟩ := hrel
    · subst hwr
      clear HN HG HF'
      by_cases h1 : 65536 < len
      · have hi : (65536 : Int) < (len : Int) := by omega
        have hd : decide ((65536 : Int) < (len : Int)) = true := decide_eq_true hi
        have hc : Hid (chk3 xs ys len len' = 2) := (if_pos h1 : chk3 xs ys len len' = 2)
        clear ka HF
        go_wp2_with fail
        go_ret
        rw [hc.out]
        exact ⟨rfl, Below.refl _ _⟩
      · have hi : ¬ (65536 : Int) < (len : Int) := by omega
        have hd : decide ((65536 : Int) < (len : Int)) = false := decide_eq_false hi
        cases h2 : anyP (fun i => isNaN (xs i)) len
        · rw [h2] at ka
          go_wp2_with fail
          refine ka.mono ?_
          rintro r w2 ⟨rfl, hb2⟩
          have kf := HF.out w2 hb2
          have HB2 : Hid (Below wr.heap.size wr w2) := hb2
          clear ka hb2 HF
          cases h3 : anyP (fun i => !fin (xs i)) len
          · rw [h3] at kf
            have hc : Hid (chk1 xs len = 0) := (by unfold chk1; rw [if_neg h1, h2, h3]; rfl : chk1 xs len = 0)
            go_wp2_with fail
            refine kf.mono ?_
            rintro r w3 ⟨rfl, hb3⟩
            have HB3 : Hid (Below wr.heap.size wr w3) := HB2.out.trans (hb3.mono HB2.out.size)
            clear kf hb3 HB2 h2 h3
            go_wp2_with fail
            go_roundw
            case rel => exact ⟨1, by simp, .inr (.inl ⟨rfl, by rw [hc.out], HB3.out, h1⟩)⟩
            case measure => simp [intOf]
          · rw [h3] at kf
            have hc : Hid (chk1 xs len = 5) := (by unfold chk1; rw [if_neg h1, h2, h3]; rfl : chk1 xs len = 5)
            go_wp2_with fail
            refine kf.mono ?_
            rintro r w3 ⟨rfl, hb3⟩
            have HB3 : Hid (Below wr.heap.size wr w3) := HB2.out.trans (hb3.mono HB2.out.size)
            clear kf hb3 HB2 h2 h3
            go_wp2_with fail
            go_roundw
            case rel => exact ⟨1, by simp, .inr (.inl ⟨rfl, by rw [hc.out], HB3.out, h1⟩)⟩
            case measure => simp [intOf]
        · rw [h2] at ka
          have hc : Hid (chk1 xs len = 4) := (by unfold chk1; rw [if_neg h1, h2]; rfl : chk1 xs len = 4)
          go_wp2_with fail
          refine ka.mono ?_
          rintro r w2 ⟨rfl, hb2⟩
          have HB2 : Hid (Below wr.heap.size wr w2) := hb2
          clear ka hb2 HF h2
          go_wp2_with fail
          go_roundw
          case rel => exact ⟨1, by simp, .inr (.inl ⟨rfl, by rw [hc.out], HB2.out, h1⟩)⟩
          case measure => simp [intOf]
    · clear ka HF
      have h1 := HB.out.2
      have hi : ¬ (65536 : Int) < (len' : Int) := by omega
      have hd : decide ((65536 : Int) < (len' : Int)) = false := decide_eq_false hi
      have hgc := HG.out wr HB.out.1
      have kn := HN.out wr HB.out.1
      clear HN HG
      cases h2 : anyP (fun i => isNaN (ys i)) len'
      · rw [h2] at kn
        by_cases h5 : chk1 xs len = 0
        · have e5 : (chk1 xs len == 0) = true := by rw [h5]; rfl
          cases h3 : anyP (fun i => !fin (ys i)) len'
          · have hc : Hid (chk3 xs ys len len' = 0) := (by unfold chk3; rw [if_neg h1, h2, h3, if_pos h5]; rfl : chk3 xs ys len len' = 0)
            rw [h5]
            go_wp2_with fail
            refine kn.mono ?_
            rintro r w2 ⟨rfl, hb2⟩
            have HB2 : Hid (Below w.heap.size w w2) := HB.out.1.trans (hb2.mono HB.out.1.size)
            have kf := HF'.out w2 HB2.out
            rw [h3] at kf
            clear kn hb2 h2 h3 h5 e5
            go_wp2_with fail
            refine kf.mono ?_
            rintro r w3 ⟨rfl, hb3⟩
            have HB3 : Hid (Below w.heap.size w w3) := HB2.out.trans (hb3.mono HB2.out.size)
            clear kf hb3 HB2
            go_wp2_with fail
            go_roundw
            case rel => exact ⟨2, by simp, .inr (.inr ⟨rfl, by rw [hc.out], HB3⟩)⟩
            case measure => simp [intOf]
          · have hc : Hid (chk3 xs ys len len' = 5) := (by unfold chk3; rw [if_neg h1, h2, h3, if_pos h5]; rfl : chk3 xs ys len len' = 5)
            rw [h5]
            go_wp2_with fail
            refine kn.mono ?_
            rintro r w2 ⟨rfl, hb2⟩
            have HB2 : Hid (Below w.heap.size w w2) := HB.out.1.trans (hb2.mono HB.out.1.size)
            have kf := HF'.out w2 HB2.out
            rw [h3] at kf
            clear kn hb2 h2 h3 h5 e5
            go_wp2_with fail
            refine kf.mono ?_
            rintro r w3 ⟨rfl, hb3⟩
            have HB3 : Hid (Below w.heap.size w w3) := HB2.out.trans (hb3.mono HB2.out.size)
            clear kf hb3 HB2
            go_wp2_with fail
            go_roundw
            case rel => exact ⟨2, by simp, .inr (.inr ⟨rfl, by rw [hc.out], HB3⟩)⟩
            case measure => simp [intOf]
        · have e5 : (chk1 xs len == 0) = false := beq_eq_false_iff_ne.2 h5
          have hc : Hid (chk3 xs ys len len' = chk1 xs len) := (by unfold chk3; rw [if_neg h1, h2, if_neg (by decide), if_neg h5] : chk3 xs ys len len' = chk1 xs len)
          generalize chk1 xs len = c1 at *
          go_wp2_with fail
          refine kn.mono ?_
          rintro r w2 ⟨rfl, hb2⟩
          have HB2 : Hid (Below w.heap.size w w2) := HB.out.1.trans (hb2.mono HB.out.1.size)
          clear kn hb2 h2
          go_wp2_with fail
          go_roundw
          case rel => exact ⟨2, by simp, .inr (.inr ⟨rfl, by rw [hc.out], HB2⟩)⟩
          case measure => simp [intOf]
      · rw [h2] at kn
        have hc : Hid (chk3 xs ys len len' = 4) := (by unfold chk3; rw [if_neg h1, h2]; rfl : chk3 xs ys len len' = 4)
        generalize chk1 xs len = c1 at *
        go_wp2_with fail
        refine kn.mono ?_
        rintro r w2 ⟨rfl, hb2⟩
        have HB2 : Hid (Below w.heap.size w w2) := HB.out.1.trans (hb2.mono HB.out.1.size)
        clear kn hb2 h2
        go_wp2_with fail
        go_roundw
        case rel => exact ⟨2, by simp, .inr (.inr ⟨rfl, by rw [hc.out], HB2⟩)⟩
        case measure => simp [intOf]
    · clear ka HF HN HG HF'
      go_wp2_with fail
      go_ret
      exact ⟨rfl, HB.out⟩
theorem one_cell {w : World} {s : Nat} {ao : Option Addr} {len cap : Nat} {V : World} (hV : V = (w.alloc (.cells #[.float .f64 s] 25)).alloc (.cells #[.slice ao len cap, .slice (some ⟨w.heap.size, 0, none⟩) 1 1] 22)) :
    Below w.heap.size w V ∧ V.cell? ⟨w.heap.size + 1, 0, none⟩ = some (.slice ao len cap) ∧ V.cell? ⟨w.heap.size + 1, 1, none⟩ = some (.slice (some ⟨w.heap.size, 0, none⟩) 1 1) ∧ V.cell? ⟨w.heap.size, 0, none⟩ = some (.float .f64 s) := by
  have h2 := heap_alloc_new (w.alloc (.cells #[.float .f64 s] 25)) (.cells #[.slice ao len cap, .slice (some ⟨w.heap.size, 0, none⟩) 1 1] 22)
  rw [World.size_alloc] at h2
  refine ⟨?_, ?_, ?_, ?_⟩
  · rw [hV]; exact ((Below.refl _ _).alloc (Nat.le_refl _) _).alloc (by simp) _
  · unfold World.cell?; rw [hV, h2]; rfl
  · unfold World.cell?; rw [hV, h2]; rfl
  · unfold World.cell?
    rw [hV, (Below.heap_alloc _ _ _ (by simp)).trans (heap_alloc_new w _)]; rfl
set_option maxRecDepth 200000 in
theorem ulost_err (ao : Option Addr) (len cap s : Nat) (c : Int) (w : World) (hc : (c == 0) = false)
    (k : ∀ W g h, Below w.heap.size w W → W.cell? ⟨g, 0, none⟩ = some (.slice ao len cap) → W.cell? ⟨g, 1, none⟩ = some (.slice (some ⟨h, 0, none⟩) 1 1) → W.cell? ⟨h, 0, none⟩ = some (.float .f64 s) → Calls Tryz.prog 47 #[.int .i64 3, .slice (some ⟨g, 0, none⟩) 2 2] W fun r w' => r = .returned (.int .i64 c) ∧ Below W.heap.size W w') :
    Calls Tryz.prog 25 #[.slice ao len cap, .float .f64 s] w fun r w' => r = .returned (.tuple #[.float .f64 0, .int .i64 c]) ∧ Below w.heap.size w w' := by
  obtain ⟨V, hV⟩ : ∃ V, V = (w.alloc (.cells #[.float .f64 s] 25)).alloc (.cells #[.slice ao len cap, .slice (some ⟨w.heap.size, 0, none⟩) 1 1] 22) := ⟨_, rfl⟩
  obtain ⟨hb, c1, c2, c3⟩ := one_cell hV
  have k1 := k V (w.heap.size + 1) w.heap.size hb c1 c2 c3
  have HB : Hid (Below w.heap.size w V) := hb
  have hc' : (c != 0) = true := by rw [bne, hc]; rfl
  clear k hb c1 c2 c3
  go_enter Tryz.func25, Tryz.ntmps25
  go_wp2_with fail
  rw [← hV]
  clear hV
  refine k1.mono ?_
  rintro r w1 ⟨rfl, hb1⟩
  have HF : Hid (Below w.heap.size w w1) := HB.out.trans (hb1.mono HB.out.size)
  clear k1 hb1 HB
  go_wp2_with fail
  refine bodyPost_ret (results_tmp2 rfl _ _ _) rfl ?_
  exact ⟨rfl, HF.out⟩
set_option maxRecDepth 200000 in
theorem ulost_ok (ao : Option Addr) (len cap s F : Nat) (ts tl tm : Bool × Nat × Int) (w : World)
    (k : ∀ W g h, Below w.heap.size w W → W.cell? ⟨g, 0, none⟩ = some (.slice ao len cap) → W.cell? ⟨g, 1, none⟩ = some (.slice (some ⟨h, 0, none⟩) 1 1) → W.cell? ⟨h, 0, none⟩ = some (.float .f64 s) → Calls Tryz.prog 47 #[.int .i64 3, .slice (some ⟨g, 0, none⟩) 2 2] W fun r w' => r = .returned (.int .i64 0) ∧ Below W.heap.size W w')
    (kT : ∀ W Bs, Below w.heap.size w W → W.cell? ⟨Bs, 0, none⟩ = some (.slice ao len cap) → Calls Tryz.prog 44 #[.func (.func 85) #[] #[.pointer (some ⟨Bs, 0, none⟩)]] W fun r w' => OutA W ts r w')
    (kL : ∀ W A, Below w.heap.size w W → PN W A ts → Calls Tryz.prog 43 #[A, .float .f64 s] W fun r w' => OutA W tl r w')
    (kA : ∀ W A, Below w.heap.size w W → PN W A tl → Calls Tryz.prog 57 #[A] W fun r w' => OutA W tm r w')
    (kR : ∀ W A, Below w.heap.size w W → PN W A tm → Calls Tryz.prog 42 #[A, .int .i64 3] W fun r w' => r = .returned (.float .f64 F) ∧ Below W.heap.size W w') :
    Calls Tryz.prog 25 #[.slice ao len cap, .float .f64 s] w fun r w' => r = .returned (.tuple #[.float .f64 F, .int .i64 0]) ∧ Below w.heap.size w w' := by
  obtain ⟨V, hV⟩ : ∃ V, V = (w.alloc (.cells #[.float .f64 s] 25)).alloc (.cells #[.slice ao len cap, .slice (some ⟨w.heap.size, 0, none⟩) 1 1] 22) := ⟨_, rfl⟩
  obtain ⟨hb, c1, c2, c3⟩ := one_cell hV
  have k1 := k V (w.heap.size + 1) w.heap.size hb c1 c2 c3
  have HB : Hid (Below w.heap.size w V) := hb
  have HT : Hid _ := kT
  have HL : Hid _ := kL
  have HA : Hid _ := kA
  have HR : Hid _ := kR
  clear k hb c1 c2 c3 kT kL kA kR
  go_enter Tryz.func25, Tryz.ntmps25
  go_wp2_with fail
  rw [← hV]
  clear hV
  refine k1.mono ?_
  rintro r w2 ⟨rfl, hb1⟩
  have HF2 : Hid (Below w.heap.size w w2) := HB.out.trans (hb1.mono HB.out.size)
  clear k1 hb1 HB
  have k3 := ufloats ao len cap w2
  go_wp2_with fail
  refine k3.mono ?_
  rintro r w3 ⟨rfl, hw⟩
  have hb3 : Below w2.heap.size w2 w3 := by rw [hw]; exact (Below.refl _ _).alloc (Nat.le_refl _) _
  have c1 : w3.cell? ⟨w2.heap.size, 0, none⟩ = some (.slice ao len cap) := by unfold World.cell?; rw [hw, heap_alloc_new]; rfl
  have HF3 : Hid (Below w.heap.size w w3) := HF2.out.trans (hb3.mono HF2.out.size)
  have k4 := HT.out w3 w2.heap.size HF3.out c1
  clear k3 hw hb3 c1 HF2
  generalize w2.heap.size = g2 at *
  go_wp2_with fail
  refine k4.mono ?_
  rintro r w4 ⟨s4, ao4, n4, cap4, ex4, rfl, hP4, hb4⟩
  have HF4 : Hid (Below w.heap.size w w4) := HF3.out.trans (hb4.mono HF3.out.size)
  have k5 := HL.out w4 _ HF4.out hP4
  clear k4 hP4 hb4 HF3 HT HL
  go_wp2_with fail
  refine k5.mono ?_
  rintro r w5 ⟨s5, ao5, n5, cap5, ex5, rfl, hP5, hb5⟩
  have HF5 : Hid (Below w.heap.size w w5) := HF4.out.trans (hb5.mono HF4.out.size)
  have k6 := HA.out w5 _ HF5.out hP5
  clear k5 hP5 hb5 HF4 HA
  go_wp2_with fail
  refine k6.mono ?_
  rintro r w6 ⟨s6, ao6, n6, cap6, ex6, rfl, hP6, hb6⟩
  have HF6 : Hid (Below w.heap.size w w6) := HF5.out.trans (hb6.mono HF5.out.size)
  have k7 := HR.out w6 _ HF6.out hP6
  clear k6 hP6 hb6 HF5 HR
  go_wp2_with fail
  refine k7.mono ?_
  rintro r w7 ⟨rfl, hb7⟩
  have HF7 : Hid (Below w.heap.size w w7) := HF6.out.trans (hb7.mono HF6.out.size)
  clear k7 hb7 HF6
  go_wp2_with fail
  refine bodyPost_ret (results_tmp2 rfl _ _ _) rfl ?_
  exact ⟨rfl, HF7.out⟩
end Go.Proofs.YthkgklkhlcbmaaaGreatDoor
namespace Go.Proofs.YthkgklkhlcbmaaaGreatDoor
set_option linter.unusedVariables false
set_option linter.unusedSimpArgs false
open Go.RowKit Go.Fl64
set_option maxRecDepth 200000 in
theorem dlost_2 (ao : Option Addr) (len cap s : Nat) (w : World) (k1 : Calls Tryz.prog 50 #[.slice ao len cap] w fun r w' => r = .returned (.int .i64 2) ∧ w' = w) : Calls Tryz.prog 26 #[.slice ao len cap, .float .f64 s] w fun r w' => r = .returned (.tuple #[.float .f64 0, .int .i64 2]) ∧ Below w.heap.size w w' := by
  go_enter Tryz.func26, Tryz.ntmps26
  go_wp2_with fail
  refine k1.mono ?_
  rintro r w' ⟨rfl, hw⟩
  rw [hw]
  clear hw k1 w'
  go_wp2_with fail
  refine bodyPost_ret (results_tmp2 rfl _ _ _) rfl ?_
  exact ⟨rfl, Below.refl _ _⟩
set_option maxRecDepth 200000 in
theorem dlost_40 (ao : Option Addr) (len cap s : Nat) (w : World) (k1 : Calls Tryz.prog 50 #[.slice ao len cap] w fun r w' => r = .returned (.int .i64 4) ∧ w' = w) (k2 : ∀ W h, Below w.heap.size w W → W.cell? ⟨h, 0, none⟩ = some (.float .f64 s) → Calls Tryz.prog 50 #[.slice (some ⟨h, 0, none⟩) 1 1] W fun r w' => r = .returned (.int .i64 0) ∧ w' = W) : Calls Tryz.prog 26 #[.slice ao len cap, .float .f64 s] w fun r w' => r = .returned (.tuple #[.float .f64 0, .int .i64 4]) ∧ Below w.heap.size w w' := by
  obtain ⟨V, hV⟩ : ∃ V, V = w.alloc (.cells #[.float .f64 s] 25) := ⟨_, rfl⟩
  have hb : Below w.heap.size w V := by rw [hV]; exact (Below.refl _ _).alloc (Nat.le_refl _) _
  have kk := k2 V w.heap.size hb (by unfold World.cell?; rw [hV, heap_alloc_new]; rfl)
  have HB : Hid (Below w.heap.size w V) := hb
  clear k2 hb
  go_enter Tryz.func26, Tryz.ntmps26
  go_wp2_with fail
  refine k1.mono ?_
  rintro r w' ⟨rfl, hw⟩
  rw [hw]
  clear hw k1 w'
  go_wp2_with fail
  rw [← hV]
  clear hV
  refine kk.mono ?_
  rintro r w' ⟨rfl, hw⟩
  rw [hw]
  clear hw kk w'
  go_wp2_with fail
  refine bodyPost_ret (results_tmp2 rfl _ _ _) rfl ?_
  exact ⟨rfl, HB.out⟩
set_option maxRecDepth 200000 in
theorem dlost_44 (ao : Option Addr) (len cap s : Nat) (w : World) (k1 : Calls Tryz.prog 50 #[.slice ao len cap] w fun r w' => r = .returned (.int .i64 4) ∧ w' = w) (k2 : ∀ W h, Below w.heap.size w W → W.cell? ⟨h, 0, none⟩ = some (.float .f64 s) → Calls Tryz.prog 50 #[.slice (some ⟨h, 0, none⟩) 1 1] W fun r w' => r = .returned (.int .i64 4) ∧ w' = W) : Calls Tryz.prog 26 #[.slice ao len cap, .float .f64 s] w fun r w' => r = .returned (.tuple #[.float .f64 0, .int .i64 4]) ∧ Below w.heap.size w w' := by
  obtain ⟨V, hV⟩ : ∃ V, V = w.alloc (.cells #[.float .f64 s] 25) := ⟨_, rfl⟩
  have hb : Below w.heap.size w V := by rw [hV]; exact (Below.refl _ _).alloc (Nat.le_refl _) _
  have kk := k2 V w.heap.size hb (by unfold World.cell?; rw [hV, heap_alloc_new]; rfl)
  have HB : Hid (Below w.heap.size w V) := hb
  clear k2 hb
  go_enter Tryz.func26, Tryz.ntmps26
  go_wp2_with fail
  refine k1.mono ?_
  rintro r w' ⟨rfl, hw⟩
  rw [hw]
  clear hw k1 w'
  go_wp2_with fail
  rw [← hV]
  clear hV
  refine kk.mono ?_
  rintro r w' ⟨rfl, hw⟩
  rw [hw]
  clear hw kk w'
  go_wp2_with fail
  refine bodyPost_ret (results_tmp2 rfl _ _ _) rfl ?_
  exact ⟨rfl, HB.out⟩
set_option maxRecDepth 200000 in
theorem dlost_45 (ao : Option Addr) (len cap s : Nat) (w : World) (k1 : Calls Tryz.prog 50 #[.slice ao len cap] w fun r w' => r = .returned (.int .i64 4) ∧ w' = w) (k2 : ∀ W h, Below w.heap.size w W → W.cell? ⟨h, 0, none⟩ = some (.float .f64 s) → Calls Tryz.prog 50 #[.slice (some ⟨h, 0, none⟩) 1 1] W fun r w' => r = .returned (.int .i64 5) ∧ w' = W) : Calls Tryz.prog 26 #[.slice ao len cap, .float .f64 s] w fun r w' => r = .returned (.tuple #[.float .f64 0, .int .i64 4]) ∧ Below w.heap.size w w' := by
  obtain ⟨V, hV⟩ : ∃ V, V = w.alloc (.cells #[.float .f64 s] 25) := ⟨_, rfl⟩
  have hb : Below w.heap.size w V := by rw [hV]; exact (Below.refl _ _).alloc (Nat.le_refl _) _
  have kk := k2 V w.heap.size hb (by unfold World.cell?; rw [hV, heap_alloc_new]; rfl)
  have HB : Hid (Below w.heap.size w V) := hb
  clear k2 hb
  go_enter Tryz.func26, Tryz.ntmps26
  go_wp2_with fail
  refine k1.mono ?_
  rintro r w' ⟨rfl, hw⟩
  rw [hw]
  clear hw k1 w'
  go_wp2_with fail
  rw [← hV]
  clear hV
  refine kk.mono ?_
  rintro r w' ⟨rfl, hw⟩
  rw [hw]
  clear hw kk w'
  go_wp2_with fail
  refine bodyPost_ret (results_tmp2 rfl _ _ _) rfl ?_
  exact ⟨rfl, HB.out⟩
set_option maxRecDepth 200000 in
theorem dlost_04 (ao : Option Addr) (len cap s : Nat) (w : World) (k1 : Calls Tryz.prog 50 #[.slice ao len cap] w fun r w' => r = .returned (.int .i64 0) ∧ w' = w) (k2 : ∀ W h, Below w.heap.size w W → W.cell? ⟨h, 0, none⟩ = some (.float .f64 s) → Calls Tryz.prog 50 #[.slice (some ⟨h, 0, none⟩) 1 1] W fun r w' => r = .returned (.int .i64 4) ∧ w' = W) : Calls Tryz.prog 26 #[.slice ao len cap, .float .f64 s] w fun r w' => r = .returned (.tuple #[.float .f64 0, .int .i64 4]) ∧ Below w.heap.size w w' := by
  obtain ⟨V, hV⟩ : ∃ V, V = w.alloc (.cells #[.float .f64 s] 25) := ⟨_, rfl⟩
  have hb : Below w.heap.size w V := by rw [hV]; exact (Below.refl _ _).alloc (Nat.le_refl _) _
  have kk := k2 V w.heap.size hb (by unfold World.cell?; rw [hV, heap_alloc_new]; rfl)
  have HB : Hid (Below w.heap.size w V) := hb
  clear k2 hb
  go_enter Tryz.func26, Tryz.ntmps26
  go_wp2_with fail
  refine k1.mono ?_
  rintro r w' ⟨rfl, hw⟩
  rw [hw]
  clear hw k1 w'
  go_wp2_with fail
  rw [← hV]
  clear hV
  refine kk.mono ?_
  rintro r w' ⟨rfl, hw⟩
  rw [hw]
  clear hw kk w'
  go_wp2_with fail
  refine bodyPost_ret (results_tmp2 rfl _ _ _) rfl ?_
  exact ⟨rfl, HB.out⟩
set_option maxRecDepth 200000 in
theorem dlost_54 (ao : Option Addr) (len cap s : Nat) (w : World) (k1 : Calls Tryz.prog 50 #[.slice ao len cap] w fun r w' => r = .returned (.int .i64 5) ∧ w' = w) (k2 : ∀ W h, Below w.heap.size w W → W.cell? ⟨h, 0, none⟩ = some (.float .f64 s) → Calls Tryz.prog 50 #[.slice (some ⟨h, 0, none⟩) 1 1] W fun r w' => r = .returned (.int .i64 4) ∧ w' = W) : Calls Tryz.prog 26 #[.slice ao len cap, .float .f64 s] w fun r w' => r = .returned (.tuple #[.float .f64 0, .int .i64 4]) ∧ Below w.heap.size w w' := by
  obtain ⟨V, hV⟩ : ∃ V, V = w.alloc (.cells #[.float .f64 s] 25) := ⟨_, rfl⟩
  have hb : Below w.heap.size w V := by rw [hV]; exact (Below.refl _ _).alloc (Nat.le_refl _) _
  have kk := k2 V w.heap.size hb (by unfold World.cell?; rw [hV, heap_alloc_new]; rfl)
  have HB : Hid (Below w.heap.size w V) := hb
  clear k2 hb
  go_enter Tryz.func26, Tryz.ntmps26
  go_wp2_with fail
  refine k1.mono ?_
  rintro r w' ⟨rfl, hw⟩
  rw [hw]
  clear hw k1 w'
  go_wp2_with fail
  rw [← hV]
  clear hV
  refine kk.mono ?_
  rintro r w' ⟨rfl, hw⟩
  rw [hw]
  clear hw kk w'
  go_wp2_with fail
  refine bodyPost_ret (results_tmp2 rfl _ _ _) rfl ?_
  exact ⟨rfl, HB.out⟩
set_option maxRecDepth 200000 in
theorem dlost_50 (ao : Option Addr) (len cap s : Nat) (w : World) (k1 : Calls Tryz.prog 50 #[.slice ao len cap] w fun r w' => r = .returned (.int .i64 5) ∧ w' = w) (k2 : ∀ W h, Below w.heap.size w W → W.cell? ⟨h, 0, none⟩ = some (.float .f64 s) → Calls Tryz.prog 50 #[.slice (some ⟨h, 0, none⟩) 1 1] W fun r w' => r = .returned (.int .i64 0) ∧ w' = W) : Calls Tryz.prog 26 #[.slice ao len cap, .float .f64 s] w fun r w' => r = .returned (.tuple #[.float .f64 0, .int .i64 5]) ∧ Below w.heap.size w w' := by
  obtain ⟨V, hV⟩ : ∃ V, V = w.alloc (.cells #[.float .f64 s] 25) := ⟨_, rfl⟩
  have hb : Below w.heap.size w V := by rw [hV]; exact (Below.refl _ _).alloc (Nat.le_refl _) _
  have kk := k2 V w.heap.size hb (by unfold World.cell?; rw [hV, heap_alloc_new]; rfl)
  have HB : Hid (Below w.heap.size w V) := hb
  clear k2 hb
  go_enter Tryz.func26, Tryz.ntmps26
  go_wp2_with fail
  refine k1.mono ?_
  rintro r w' ⟨rfl, hw⟩
  rw [hw]
  clear hw k1 w'
  go_wp2_with fail
  rw [← hV]
  clear hV
  refine kk.mono ?_
  rintro r w' ⟨rfl, hw⟩
  rw [hw]
  clear hw kk w'
  go_wp2_with fail
  refine bodyPost_ret (results_tmp2 rfl _ _ _) rfl ?_
  exact ⟨rfl, HB.out⟩
set_option maxRecDepth 200000 in
theorem dlost_55 (ao : Option Addr) (len cap s : Nat) (w : World) (k1 : Calls Tryz.prog 50 #[.slice ao len cap] w fun r w' => r = .returned (.int .i64 5) ∧ w' = w) (k2 : ∀ W h, Below w.heap.size w W → W.cell? ⟨h, 0, none⟩ = some (.float .f64 s) → Calls Tryz.prog 50 #[.slice (some ⟨h, 0, none⟩) 1 1] W fun r w' => r = .returned (.int .i64 5) ∧ w' = W) : Calls Tryz.prog 26 #[.slice ao len cap, .float .f64 s] w fun r w' => r = .returned (.tuple #[.float .f64 0, .int .i64 5]) ∧ Below w.heap.size w w' := by
  obtain ⟨V, hV⟩ : ∃ V, V = w.alloc (.cells #[.float .f64 s] 25) := ⟨_, rfl⟩
  have hb : Below w.heap.size w V := by rw [hV]; exact (Below.refl _ _).alloc (Nat.le_refl _) _
  have kk := k2 V w.heap.size hb (by unfold World.cell?; rw [hV, heap_alloc_new]; rfl)
  have HB : Hid (Below w.heap.size w V) := hb
  clear k2 hb
  go_enter Tryz.func26, Tryz.ntmps26
  go_wp2_with fail
  refine k1.mono ?_
  rintro r w' ⟨rfl, hw⟩
  rw [hw]
  clear hw k1 w'
  go_wp2_with fail
  rw [← hV]
  clear hV
  refine kk.mono ?_
  rintro r w' ⟨rfl, hw⟩
  rw [hw]
  clear hw kk w'
  go_wp2_with fail
  refine bodyPost_ret (results_tmp2 rfl _ _ _) rfl ?_
  exact ⟨rfl, HB.out⟩
set_option maxRecDepth 200000 in
theorem dlost_05 (ao : Option Addr) (len cap s : Nat) (w : World) (k1 : Calls Tryz.prog 50 #[.slice ao len cap] w fun r w' => r = .returned (.int .i64 0) ∧ w' = w) (k2 : ∀ W h, Below w.heap.size w W → W.cell? ⟨h, 0, none⟩ = some (.float .f64 s) → Calls Tryz.prog 50 #[.slice (some ⟨h, 0, none⟩) 1 1] W fun r w' => r = .returned (.int .i64 5) ∧ w' = W) : Calls Tryz.prog 26 #[.slice ao len cap, .float .f64 s] w fun r w' => r = .returned (.tuple #[.float .f64 0, .int .i64 5]) ∧ Below w.heap.size w w' := by
  obtain ⟨V, hV⟩ : ∃ V, V = w.alloc (.cells #[.float .f64 s] 25) := ⟨_, rfl⟩
  have hb : Below w.heap.size w V := by rw [hV]; exact (Below.refl _ _).alloc (Nat.le_refl _) _
  have kk := k2 V w.heap.size hb (by unfold World.cell?; rw [hV, heap_alloc_new]; rfl)
  have HB : Hid (Below w.heap.size w V) := hb
  clear k2 hb
  go_enter Tryz.func26, Tryz.ntmps26
  go_wp2_with fail
  refine k1.mono ?_
  rintro r w' ⟨rfl, hw⟩
  rw [hw]
  clear hw k1 w'
  go_wp2_with fail
  rw [← hV]
  clear hV
  refine kk.mono ?_
  rintro r w' ⟨rfl, hw⟩
  rw [hw]
  clear hw kk w'
  go_wp2_with fail
  refine bodyPost_ret (results_tmp2 rfl _ _ _) rfl ?_
  exact ⟨rfl, HB.out⟩
set_option maxRecDepth 200000 in
theorem dlost_ok (ao : Option Addr) (len cap s F : Nat) (ts tf td : Bool × Nat × Int) (w : World) (k1 : Calls Tryz.prog 50 #[.slice ao len cap] w fun r w' => r = .returned (.int .i64 0) ∧ w' = w) (k2 : ∀ W h, Below w.heap.size w W → W.cell? ⟨h, 0, none⟩ = some (.float .f64 s) → Calls Tryz.prog 50 #[.slice (some ⟨h, 0, none⟩) 1 1] W fun r w' => r = .returned (.int .i64 0) ∧ w' = W)
    (kT : ∀ W, Below w.heap.size w W → Calls Tryz.prog 53 #[.slice ao len cap] W fun r w' => ∃ A, r = .returned A ∧ DN w' A ts ∧ Below W.heap.size W w')
    (kF : ∀ W, Calls Tryz.prog 30 #[.float .f64 s] W fun r w' => ∃ A, r = .returned A ∧ DN w' A tf ∧ Below W.heap.size W w')
    (kL : ∀ W A B, DN W A ts → DN W B tf → Calls Tryz.prog 34 #[A, B] W fun r w' => ∃ C, r = .returned C ∧ DN w' C td ∧ Below W.heap.size W w')
    (kR : ∀ W A, DN W A (false, td.2.1, td.2.2) → Calls Tryz.prog 46 #[A, .int .i64 3, .float .f64 0] W fun r w' => r = .returned (.float .f64 F) ∧ Below W.heap.size W w') :
    Calls Tryz.prog 26 #[.slice ao len cap, .float .f64 s] w fun r w' => r = .returned (.tuple #[.float .f64 F, .int .i64 0]) ∧ Below w.heap.size w w' := by
  have HT : Hid _ := kT
  have HF : Hid _ := kF
  have HL : Hid _ := kL
  have HR : Hid _ := kR
  clear kT kF kL kR
  obtain ⟨V, hV⟩ : ∃ V, V = w.alloc (.cells #[.float .f64 s] 25) := ⟨_, rfl⟩
  have hb : Below w.heap.size w V := by rw [hV]; exact (Below.refl _ _).alloc (Nat.le_refl _) _
  have kk := k2 V w.heap.size hb (by unfold World.cell?; rw [hV, heap_alloc_new]; rfl)
  have HB : Hid (Below w.heap.size w V) := hb
  clear k2 hb
  go_enter Tryz.func26, Tryz.ntmps26
  go_wp2_with fail
  refine k1.mono ?_
  rintro r w' ⟨rfl, hw⟩
  rw [hw]
  clear hw k1 w'
  go_wp2_with fail
  rw [← hV]
  clear hV
  refine kk.mono ?_
  rintro r w' ⟨rfl, hw⟩
  rw [hw]
  clear hw kk w'
  have kk := HT.out V HB.out
  go_wp2_with fail
  refine kk.mono ?_
  rintro r w2 ⟨A2, rfl, hP2, hb2⟩
  have HB2 : Hid (Below w.heap.size w w2 ∧ DN w2 A2 ts) := ⟨HB.out.trans (hb2.mono HB.out.size), hP2⟩
  have kk := HF.out w2
  clear hP2 hb2 HB HT
  go_wp2_with fail
  refine kk.mono ?_
  rintro r w3 ⟨A3, rfl, hP3, hb3⟩
  have HB3 : Hid (Below w.heap.size w w3) := HB2.out.1.trans (hb3.mono HB2.out.1.size)
  have kk := HL.out w3 _ _ (HB2.out.2.later hb3) hP3
  clear hP3 hb3 HB2 HF HL
  go_wp2_with fail
  refine kk.mono ?_
  rintro r w4 ⟨A4, rfl, hP4, hb4⟩
  obtain ⟨ao4, cap4, rfl, hA4⟩ := hP4
  have HB4 : Hid (Below w.heap.size w w4) := HB3.out.trans (hb4.mono HB3.out.size)
  obtain ⟨W, hW⟩ : ∃ W, W = w4.alloc (.cells #[.bool td.1, .slice ao4 (dlen td.2.1) cap4, .int .i64 td.2.2] 50) := ⟨_, rfl⟩
  have hb5 : Below w4.heap.size w4 W := by rw [hW]; exact (Below.refl _ _).alloc (Nat.le_refl _) _
  have HB5 : Hid (Below w.heap.size w W) := HB4.out.trans (hb5.mono HB4.out.size)
  have hbx : W.heap[w4.heap.size]? = some (.cells #[.bool td.1, .slice ao4 (dlen td.2.1) cap4, .int .i64 td.2.2] 50 (0, 0)) := by rw [hW]; exact heap_alloc_new _ _
  obtain ⟨⟨a0, a1, a2⟩, -⟩ := box_cells29 hbx
  have hD : DN W (.agg #[.bool td.1, .slice ao4 (dlen td.2.1) cap4, .int .i64 td.2.2]) td := DN.later (w := w4) ⟨ao4, cap4, rfl, hA4⟩ hb5
  have kr := HR.out W (.agg #[.bool false, .slice ao4 (dlen td.2.1) cap4, .int .i64 td.2.2]) (by
    obtain ⟨ao', cap', e1, e2⟩ := hD
    injection e1 with e1
    have e3 : (Value.slice ao4 (dlen td.2.1) cap4) = .slice ao' (dlen td.2.1) cap' := by simpa using e1
    injection e3 with e4 e5 e6
    subst e4; subst e6
    exact ⟨_, _, rfl, e2⟩)
  clear kk hA4 hb4 HB3 HB4 hb5 hbx hD HR
  generalize td.1 = s5 at *
  generalize dlen td.2.1 = n5 at *
  generalize td.2.2 = e5 at *
  go_wp2_with (fail)
  rw [← hW]
  clear hW
  go_wp2_with fail
  refine kr.mono ?_
  rintro r w6 ⟨rfl, hb6⟩
  have HB6 : Hid (Below w.heap.size w w6) := HB5.out.trans (hb6.mono HB5.out.size)
  clear kr hb6 HB5 a0 a1 a2
  go_wp2_with fail
  refine bodyPost_ret (results_tmp2 rfl _ _ _) rfl ?_
  exact ⟨rfl, HB6.out⟩
end Go.Proofs.YthkgklkhlcbmaaaGreatDoor
namespace Go.Proofs.YthkgklkhlcbmaaaGreatDoor
set_option linter.unusedVariables false
set_option linter.unusedSimpArgs false
open Go.RowKit Go.Fl64
end Go.Proofs.YthkgklkhlcbmaaaGreatDoor
namespace Go.Proofs.YthkgklkhlcbmaaaGreatDoor
set_option linter.unusedVariables false
set_option linter.unusedSimpArgs false
open Go Go.RowKit Go.Fl64
end Go.Proofs.YthkgklkhlcbmaaaGreatDoor
