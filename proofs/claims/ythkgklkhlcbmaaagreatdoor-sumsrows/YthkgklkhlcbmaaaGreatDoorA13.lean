/- Own work: contracts of the program's functions, part 13: UB5 UB6 UB7 UB8 UB9 UC1 UC2 UC3 UC4 UD1 UD2 UD3 UD4 UD5 UD6. -/
import Derived.Test.YthkgklkhlcbmaaaGreatDoorA12
import Derived.Deep.Slices
import Derived.Laws.Cover2
import Derived.OpenShut
import Derived.WideShapes
import Derived.ChangeAlike
import Derived.Laws.AppendOwnNone

set_option maxHeartbeats 16000000
namespace Go.Proofs.YthkgklkhlcbmaaaGreatDoor
set_option linter.unusedVariables false
set_option linter.unusedSimpArgs false
open Go.RowKit Go.Fl64
set_option maxRecDepth 200000 in
theorem uex_err (ao : Option Addr) (len cap : Nat) (m c : Int) (w : World) (hc : (c == 0) = false)
    (k : ∀ W g, Below w.heap.size w W → W.cell? ⟨g, 0, none⟩ = some (.slice ao len cap) → Calls Tryz.prog 47 #[.int .i64 m, .slice (some ⟨g, 0, none⟩) 1 1] W fun r w' => r = .returned (.int .i64 c) ∧ Below W.heap.size W w') :
    Calls Tryz.prog 21 #[.slice ao len cap, .int .i64 m] w fun r w' => r = .returned (.tuple #[.float .f64 0, .int .i64 c]) ∧ Below w.heap.size w w' := by
  obtain ⟨V, hV⟩ : ∃ V, V = w.alloc (.cells #[.slice ao len cap] 22) := ⟨_, rfl⟩
  have hb : Below w.heap.size w V := by rw [hV]; exact (Below.refl _ _).alloc (Nat.le_refl _) _
  have k1 := k V w.heap.size hb (by unfold World.cell?; rw [hV, heap_alloc_new]; rfl)
  have HB : Hid (Below w.heap.size w V) := hb
  have hc' : (c != 0) = true := by rw [bne, hc]; rfl
  clear k hb
  go_enter Tryz.func21, Tryz.ntmps21
  go_wp2_with fail
  rw [← hV]
  clear hV
  refine k1.mono ?_
  rintro r w1 ⟨rfl, hb1⟩
  have HF : Hid (Below w.heap.size w w1) := HB.out.trans (hb1.mono HB.out.size)
  clear k1 hb1 HB
  go_wp2_with fail
  refine bodyPost_ret (results_tmp2 rfl _ _ _) rfl ?_
  exact ⟨rfl, HF.out⟩
set_option maxRecDepth 200000 in
theorem uex_ok (ao : Option Addr) (len cap F x0 : Nat) (m : Int) (mn : Bool) (ts : Bool × Nat × Int) (w : World)
    (hmn : mn = true → 0 < len ∧ (∀ W, Below w.heap.size w W → ∃ b off, ao = some ⟨b, off, none⟩ ∧ W.cell? ⟨b, off, none⟩ = some (.float .f64 x0)))
    (k : ∀ W g, Below w.heap.size w W → W.cell? ⟨g, 0, none⟩ = some (.slice ao len cap) → Calls Tryz.prog 47 #[.int .i64 m, .slice (some ⟨g, 0, none⟩) 1 1] W fun r w' => r = .returned (.int .i64 0) ∧ Below W.heap.size W w')
    (kM : 0 < len → ∀ W, Below w.heap.size w W → Calls Tryz.prog 48 #[.slice ao len cap] W fun r w' => r = .returned (.bool mn) ∧ Below W.heap.size W w')
    (kT : ∀ W Bs, Below w.heap.size w W → W.cell? ⟨Bs, 0, none⟩ = some (.slice ao len cap) → Calls Tryz.prog 44 #[.func (.func 85) #[] #[.pointer (some ⟨Bs, 0, none⟩)]] W fun r w' => OutA W ts r w')
    (kR : ∀ W A, Below w.heap.size w W → PN W A ts → Calls Tryz.prog 42 #[A, .int .i64 m] W fun r w' => r = .returned (.float .f64 F) ∧ Below W.heap.size W w') :
    Calls Tryz.prog 21 #[.slice ao len cap, .int .i64 m] w fun r w' => r = .returned (.tuple #[.float .f64 (if mn then x0 else F), .int .i64 0]) ∧ Below w.heap.size w w' := by
  obtain ⟨V, hV⟩ : ∃ V, V = w.alloc (.cells #[.slice ao len cap] 22) := ⟨_, rfl⟩
  have hb : Below w.heap.size w V := by rw [hV]; exact (Below.refl _ _).alloc (Nat.le_refl _) _
  have k1 := k V w.heap.size hb (by unfold World.cell?; rw [hV, heap_alloc_new]; rfl)
  have HB : Hid (Below w.heap.size w V) := hb
  have HM : Hid _ := kM
  have HT : Hid _ := kT
  have HR : Hid _ := kR
  have HN : Hid (mn = true → 0 < len ∧ (∀ W, Below w.heap.size w W → ∃ b off, ao = some ⟨b, off, none⟩ ∧ W.cell? ⟨b, off, none⟩ = some (.float .f64 x0))) := hmn
  clear k hb kM kT kR hmn
  go_enter Tryz.func21, Tryz.ntmps21
  go_wp2_with fail
  rw [← hV]
  clear hV
  refine k1.mono ?_
  rintro r w1 ⟨rfl, hb1⟩
  have HF : Hid (Below w.heap.size w w1) := HB.out.trans (hb1.mono HB.out.size)
  clear k1 hb1 HB
  by_cases h0 : 0 < len
  · have hi : (0 : Int) < (len : Int) := by omega
    have hd : decide ((0 : Int) < (len : Int)) = true := decide_eq_true hi
    have k2 := HM.out h0 w1 HF.out
    cases mn
    · go_wp2_with fail
      refine k2.mono ?_
      rintro r w2 ⟨rfl, hb2⟩
      have HF2 : Hid (Below w.heap.size w w2) := HF.out.trans (hb2.mono HF.out.size)
      clear k2 hb2 HF HM HN
      have k3 := ufloats ao len cap w2
      go_wp2_with fail
      refine k3.mono ?_
      rintro r w3 ⟨rfl, hw⟩
      have hb3 : Below w2.heap.size w2 w3 := by rw [hw]; exact (Below.refl _ _).alloc (Nat.le_refl _) _
      have c1 : w3.cell? ⟨w2.heap.size, 0, none⟩ = some (.slice ao len cap) := by unfold World.cell?; rw [hw, heap_alloc_new]; rfl
      have HF3 : Hid (Below w.heap.size w w3) := HF2.out.trans (hb3.mono HF2.out.size)
      have k4 := HT.out w3 w2.heap.size HF3.out c1
      clear k3 hw hb3 c1 HF2
      generalize w2.heap.size = g2 at *
      go_wp2_with fail
      refine k4.mono ?_
      rintro r w4 ⟨s4, ao4, n4, cap4, ex4, rfl, hP4, hb4⟩
      have HF4 : Hid (Below w.heap.size w w4) := HF3.out.trans (hb4.mono HF3.out.size)
      have k5 := HR.out w4 _ HF4.out hP4
      clear k4 hP4 hb4 HF3 HT HR
      go_wp2_with fail
      refine k5.mono ?_
      rintro r w5 ⟨rfl, hb5⟩
      have HF5 : Hid (Below w.heap.size w w5) := HF4.out.trans (hb5.mono HF4.out.size)
      clear k5 hb5 HF4
      go_wp2_with fail
      refine bodyPost_ret (results_tmp2 rfl _ _ _) rfl ?_
      exact ⟨rfl, HF5.out⟩
    · obtain ⟨b, off, rfl, hc1⟩ := (HN.out rfl).2 w1 HF.out
      go_wp2_with fail
      refine k2.mono ?_
      rintro r w2 ⟨rfl, hb2⟩
      have HF2 : Hid (Below w.heap.size w w2) := HF.out.trans (hb2.mono HF.out.size)
      have hc2 : w2.cell? ⟨b, off, none⟩ = some (.float .f64 x0) := (hb2.cell (p := ⟨b, off, none⟩) (World.block_lt_of_cell? _ _ hc1)).trans hc1
      clear k2 hb2 HF HM HN hc1
      go_wp2_with fail
      refine bodyPost_ret (results_tmp2 rfl _ _ _) rfl ?_
      exact ⟨rfl, HF2.out⟩
  · have hmf : mn = false := by
      cases hm : mn
      · rfl
      · exact absurd (HN.out hm).1 h0
    subst hmf
    have hi : ¬ (0 : Int) < (len : Int) := by omega
    have hd : decide ((0 : Int) < (len : Int)) = false := decide_eq_false hi
    have HF2 : Hid (Below w.heap.size w w1) := HF.out
    clear HF HM HN
    obtain ⟨w2, hw2⟩ : ∃ w2, w2 = w1 := ⟨_, rfl⟩
    rw [← hw2] at HF2 ⊢
    clear hw2
    have k3 := ufloats ao len cap w2
    go_wp2_with fail
    refine k3.mono ?_
    rintro r w3 ⟨rfl, hw⟩
    have hb3 : Below w2.heap.size w2 w3 := by rw [hw]; exact (Below.refl _ _).alloc (Nat.le_refl _) _
    have c1 : w3.cell? ⟨w2.heap.size, 0, none⟩ = some (.slice ao len cap) := by unfold World.cell?; rw [hw, heap_alloc_new]; rfl
    have HF3 : Hid (Below w.heap.size w w3) := HF2.out.trans (hb3.mono HF2.out.size)
    have k4 := HT.out w3 w2.heap.size HF3.out c1
    clear k3 hw hb3 c1 HF2
    generalize w2.heap.size = g2 at *
    go_wp2_with fail
    refine k4.mono ?_
    rintro r w4 ⟨s4, ao4, n4, cap4, ex4, rfl, hP4, hb4⟩
    have HF4 : Hid (Below w.heap.size w w4) := HF3.out.trans (hb4.mono HF3.out.size)
    have k5 := HR.out w4 _ HF4.out hP4
    clear k4 hP4 hb4 HF3 HT HR
    go_wp2_with fail
    refine k5.mono ?_
    rintro r w5 ⟨rfl, hb5⟩
    have HF5 : Hid (Below w.heap.size w w5) := HF4.out.trans (hb5.mono HF4.out.size)
    clear k5 hb5 HF4
    go_wp2_with fail
    refine bodyPost_ret (results_tmp2 rfl _ _ _) rfl ?_
    exact ⟨rfl, HF5.out⟩
end Go.Proofs.YthkgklkhlcbmaaaGreatDoor
namespace Go.Proofs.YthkgklkhlcbmaaaGreatDoor
set_option linter.unusedVariables false
set_option linter.unusedSimpArgs false
open Go.RowKit Go.Fl64
def mnA (xs : Nat → Nat) (len : Nat) : Bool := decide (0 < len) && !anyP (fun i => mnP (xs i)) len
def exR (xs : Nat → Nat) (len : Nat) (m : Int) : Nat := tfF (tSum xs len).1 true (tSum xs len).2.1 (tSum xs len).2.2 m
def exF (xs : Nat → Nat) (len : Nat) (m : Int) : Nat := if isM m = false then 0 else if chk1 xs len = 0 then (if mnA xs len then xs 0 else exR xs len m) else 0
def exE (xs : Nat → Nat) (len : Nat) (m : Int) : Int := if isM m = false then 1 else chk1 xs len
theorem chk1_zero {xs : Nat → Nat} {len : Nat} (h : chk1 xs len = 0) : len ≤ 65536 ∧ ∀ i, i < len → mag (xs i) < 9218868437227405312 := by
  unfold chk1 at h
  by_cases h1 : 65536 < len
  · rw [if_pos h1] at h; omega
  · rw [if_neg h1] at h
    refine ⟨by omega, ?_⟩
    cases h2 : anyP (fun i => isNaN (xs i)) len
    · rw [h2, if_neg (by decide)] at h
      cases h3 : anyP (fun i => !fin (xs i)) len
      · intro i hi
        have := anyP_none h3 i hi
        have hf : fin (xs i) = true := by simpa using this
        exact Nat.lt_of_not_le fun h => by rw [fin_false.2 (by omega)] at hf; cases hf
      · rw [h3, if_pos rfl] at h; omega
    · rw [h2, if_pos rfl] at h; omega
theorem uExact (ao : Option Addr) (len cap : Nat) (xs : Nat → Nat) (m : Int) (w : World) (hT : Tab32 w) (hI : Ie.Tab w) (hl : FAt w ao len xs) (hx : Fls xs len) (hlen : len ≤ 35184372088832) :
    Calls Tryz.prog 21 #[.slice ao len cap, .int .i64 m] w fun r w' => r = .returned (.tuple #[.float .f64 (exF xs len m), .int .i64 (exE xs len m)]) ∧ Below w.heap.size w w' := by
  unfold exF exE
  cases hm : isM m
  · rw [if_pos rfl, if_pos rfl]
    exact uex_err ao len cap m 1 w rfl fun W g hb hg => (uchecked_no m _ W hm).mono fun r w' ⟨e1, e2⟩ => ⟨e1, by rw [e2]; exact Below.refl _ _⟩
  · have e1 : ¬ (true = false) := by decide
    rw [if_neg e1, if_neg e1]
    have kc : ∀ W g, Below w.heap.size w W → W.cell? ⟨g, 0, none⟩ = some (.slice ao len cap) → Calls Tryz.prog 47 #[.int .i64 m, .slice (some ⟨g, 0, none⟩) 1 1] W fun r w' => r = .returned (.int .i64 (chk1 xs len)) ∧ Below W.heap.size W w' := fun W g hb hg => uchecked1 m g ao len cap xs W hm hg (hl.later hb) hx hlen
    by_cases hz : chk1 xs len = 0
    · rw [if_pos hz]
      obtain ⟨h1, h2⟩ := chk1_zero hz
      rw [hz] at kc ⊢
      refine uex_ok ao len cap (exR xs len m) (xs 0) m (mnA xs len) (tSum xs len) w (fun h => ?_) kc (fun h0 W hb => ?_) (fun W Bs hb hBs => ?_) (fun W A hb hA => ?_)
      · have hp : 0 < len := by
          unfold mnA at h
          simp only [Bool.and_eq_true, decide_eq_true_eq] at h
          exact h.1
        refine ⟨hp, fun W hb => ?_⟩
        obtain ⟨b, off, h3, h4⟩ := hl.later hb
        exact ⟨b, off, h3 hp, h4 0 hp⟩
      · have := uallmn ao len cap xs W (hl.later hb) hx hlen
        unfold mnA
        rw [decide_eq_true h0, Bool.true_and]
        exact this
      · exact total_floats Bs len cap ao xs W (by omega) (fun i hi => ⟨hx i hi, h2 i hi⟩) (fun k hk => tSum_add xs (by omega)) (hT.later hb) (Tab.later hI hb) (hl.later hb) hBs
      · exact urounded (hT.later hb) (tSum_ok xs h1).1 hA (isM_iff.1 hm)
    · rw [if_neg hz]
      exact uex_err ao len cap m _ w (beq_eq_false_iff_ne.2 hz) kc
def two (a b : Nat) : Nat → Nat := fun i => if i = 0 then a else b
theorem addX_non {a b : Nat} (hf : fin a = false ∨ fin b = false) : ¬ mag (addX a b) < 9218868437227405312 := by
  have ha : fin a = false → ¬ mag a < 9218868437227405312 := fun h => fin_false.1 h
  have hb : fin b = false → ¬ mag b < 9218868437227405312 := fun h => fin_false.1 h
  unfold addX
  split
  · decide
  · rename_i hn
    split
    · split
      · split
        · omega
        · decide
      · omega
    · rename_i hm
      have hn' : (isNaN a || isNaN b) = false := by simpa using hn
      simp only [Bool.or_eq_false_iff] at hn'
      obtain ⟨n1, n2⟩ := hn'
      unfold isNaN at n1
      simp only [decide_eq_false_iff_not] at n1
      rcases hf with h | h
      · have := ha h; omega
      · exact hb h
theorem fAdd_fin {a b : Nat} (ha : a < 18446744073709551616) (hb : b < 18446744073709551616) (h : mag (fAdd a b) < 9218868437227405312) : mag a < 9218868437227405312 ∧ mag b < 9218868437227405312 := by
  by_cases hf : fin a = false ∨ fin b = false
  · exfalso
    have e : fAdd a b = addX a b := if_pos hf
    rw [e] at h
    exact addX_non hf h
  · exact ⟨Nat.lt_of_not_le fun h => hf (.inl (fin_false.2 (by omega))), Nat.lt_of_not_le fun h => hf (.inr (fin_false.2 (by omega)))⟩
def tLost (a b : Nat) : Bool × Nat × Int := tD (tS (tF a) (tF b)) (tF (fAdd a b))
def lostF (a b : Nat) : Nat := if mag (fAdd a b) < 9218868437227405312 then (if (tLost a b).2.1 = 0 then 0 else tfF (tLost a b).1 true (tLost a b).2.1 (tLost a b).2.2 2) else 0
theorem tS_nought {t : Bool × Nat × Int} (o : Ok t) : tS (false, 0, 0) t = t := by
  have e : sumN false 0 0 t.1 t.2.1 t.2.2 = (t.1, t.2.1, t.2.2) := by unfold sumN; rfl
  unfold tS
  show cn (sumN false 0 0 t.1 t.2.1 t.2.2).1 (sumN false 0 0 t.1 t.2.1 t.2.2).2.1 (sumN false 0 0 t.1 t.2.1 t.2.2).2.2 = t
  rw [e]
  exact cn_ok o
theorem tSum_two (a b : Nat) : tSum (two a b) 2 = tS (tF a) (tF b) := by
  show tS (tS (false, 0, 0) (tF a)) (tF b) = _
  rw [tS_nought (tF_ok a)]
theorem tLost_okR (a b : Nat) : okR (sumN (tS (tF a) (tF b)).1 (tS (tF a) (tF b)).2.1 (tS (tF a) (tF b)).2.2 (!(tF (fAdd a b)).1 && decide (0 < dlen (tF (fAdd a b)).2.1)) (tF (fAdd a b)).2.1 (tF (fAdd a b)).2.2).1 (sumN (tS (tF a) (tF b)).1 (tS (tF a) (tF b)).2.1 (tS (tF a) (tF b)).2.2 (!(tF (fAdd a b)).1 && decide (0 < dlen (tF (fAdd a b)).2.1)) (tF (fAdd a b)).2.1 (tF (fAdd a b)).2.2).2.1 (sumN (tS (tF a) (tF b)).1 (tS (tF a) (tF b)).2.1 (tS (tF a) (tF b)).2.2 (!(tF (fAdd a b)).1 && decide (0 < dlen (tF (fAdd a b)).2.1)) (tF (fAdd a b)).2.1 (tF (fAdd a b)).2.2).2.2 = true :=
  (Fits.sum (tS_fits (tF_fits a) (tF_fits b)) ((tF_fits (fAdd a b)).mono (Int.le_refl _) (by omega))).ok (by omega) (by omega) (by omega)
theorem tLost_ok (a b : Nat) : Ok (tLost a b) := ok_cn (tLost_okR a b)
theorem tS2_ok (a b : Nat) : Ok (tS (tF a) (tF b)) := ok_cn (tS_okR (tF_fits a) (tF_fits b) (by omega) (by omega) (by omega))
theorem tf_nought0 : tfF false true 0 0 2 = 0 := by decide +kernel
theorem lost_tf {t : Bool × Nat × Int} (o : Ok t) : tfF t.1 true t.2.1 t.2.2 2 = if t.2.1 = 0 then 0 else tfF t.1 true t.2.1 t.2.2 2 := by
  by_cases h : t.2.1 = 0
  · rw [if_pos h]
    obtain ⟨-, -, -, f4, -⟩ := o.facts
    rw [f4 h]
    exact tf_nought0
  · rw [if_neg h]
theorem uTwo (a b : Nat) (ha : a < 18446744073709551616) (hb : b < 18446744073709551616) (w : World) (hT : Tab32 w) (hI : Ie.Tab w) :
    Calls Tryz.prog 19 #[.float .f64 a, .float .f64 b] w fun r w' => ∃ n, r = .returned (.tuple #[.float .f64 n, .float .f64 (lostF a b)]) ∧ lk n (fAdd a b) ∧ Below w.heap.size w w' := by
  have hX := fAdd_lt ha hb
  have kn := unear (lk.refl ha) (lk.refl hb) ha hb w hT hI
  unfold lostF
  by_cases hf : mag (fAdd a b) < 9218868437227405312
  · rw [if_pos hf]
    obtain ⟨fa, fb⟩ := fAdd_fin ha hb hf
    have hF : ∀ i, i < 2 → two a b i < 18446744073709551616 ∧ mag (two a b i) < 9218868437227405312 := by
      intro i hi
      unfold two
      split
      · exact ⟨ha, fa⟩
      · exact ⟨hb, fb⟩
    refine (utwo_y a b (fAdd a b) (tfF (tLost a b).1 true (tLost a b).2.1 (tLost a b).2.2 2) (tS (tF a) (tF b)) (tLost a b) w hX hf kn (fun W Bs g hbw c1 c2 c3 => ?_) (fun W A hbw hA => ?_) (fun W A hbw hA => ?_)).mono ?_
    · rw [← tSum_two a b]
      exact total_floats Bs 2 2 (some ⟨g, 0, none⟩) (two a b) W (by omega) hF (fun k hk => tSum_add _ (by omega)) (hT.later hbw) (Tab.later hI hbw) ⟨g, 0, fun _ => rfl, fun j hj => by
        rcases (show j = 0 ∨ j = 1 by omega) with rfl | rfl
        · exact c2
        · exact c3⟩ c1
    · exact utaken (hT.later hbw) (Tab.later hI hbw) hX hf hA (sub_op (tS2_ok a b) (tF_ok _) (tLost_okR a b))
    · exact urounded (hT.later hbw) (tLost_ok a b) hA (by omega)
    · rintro r w' ⟨rfl, hbw⟩
      exact ⟨fAdd a b, by rw [← lost_tf (tLost_ok a b)], lk.refl hX, hbw⟩
  · rw [if_neg hf]
    exact utwo_n a b (fAdd a b) w hX hf kn
def l4 (i : Nat) : Nat := if i = 0 then 4607182418800017408 else if i = 1 then 6103021453049119613 else if i = 2 then 4607182418800017408 else 15326393489903895421
theorem l4_fls : Fls l4 4 := by
  intro i hi
  unfold l4
  split
  · decide
  · split
    · decide
    · split <;> decide
theorem l4_ex : exF l4 4 2 = 4611686018427387904 := by decide +kernel
theorem l4_e : exE l4 4 2 = 0 := by decide +kernel
theorem l4_e0 : exE l4 4 0 = 1 := by decide +kernel
theorem l4_row : rowF l4 4 = 0 := by decide +kernel
theorem l4_kept : ktF l4 4 = 4611686018427387904 := by decide +kernel
theorem l4_hal : halF 4 l4 4 = 0 := by decide +kernel
theorem two_s : fAdd 4846369599423283200 4607182418800017408 = 4846369599423283200 := by decide +kernel
theorem two_c : lostF 4846369599423283200 4607182418800017408 = 4607182418800017408 := by decide +kernel
set_option maxRecDepth 200000 in
theorem sure5_ok (w : World) (hT : Tab32 w) (hI : Ie.Tab w) : Calls Tryz.prog 18 #[] w fun r w' => r = .returned (.bool true) ∧ Below w.heap.size w w' := by
  have e1 : (FloatKind.f64.format.order 0 0 == some Ordering.eq) = true := by decide +kernel
  have e2 : (FloatKind.f64.format.order 4611686018427387904 4611686018427387904 == some Ordering.eq) = true := by decide +kernel
  have e3 : (FloatKind.f64.format.order 4846369599423283200 4846369599423283200 == some Ordering.eq) = true := by decide +kernel
  have e4 : (FloatKind.f64.format.order 4607182418800017408 4607182418800017408 == some Ordering.eq) = true := by decide +kernel
  obtain ⟨V, hV⟩ : ∃ V, V = w.alloc (.cells #[.float .f64 4607182418800017408, .float .f64 6103021453049119613, .float .f64 4607182418800017408, .float .f64 15326393489903895421] 25) := ⟨_, rfl⟩
  have hbV : Below w.heap.size w V := by rw [hV]; exact (Below.refl _ _).alloc (Nat.le_refl _) _
  have hh : V.heap[w.heap.size]? = some (.cells #[.float .f64 4607182418800017408, .float .f64 6103021453049119613, .float .f64 4607182418800017408, .float .f64 15326393489903895421] 25 (0, 0)) := by rw [hV]; exact heap_alloc_new _ _
  have hl : FAt V (some ⟨w.heap.size, 0, none⟩) 4 l4 := ⟨w.heap.size, 0, fun _ => rfl, fun j hj => by
    unfold World.cell?
    rw [hh]
    rcases (show j = 0 ∨ j = 1 ∨ j = 2 ∨ j = 3 by omega) with rfl | rfl | rfl | rfl <;> rfl⟩
  have HT : Hid (∀ W, Below w.heap.size w W → Tab32 W ∧ Ie.Tab W) := fun W h => ⟨hT.later h, Tab.later hI h⟩
  have HL : Hid (∀ W, Below V.heap.size V W → FAt W (some ⟨w.heap.size, 0, none⟩) 4 l4) := fun W h => hl.later h
  have HV : Hid (Below w.heap.size w V) := hbV
  have HZ : Hid (w.heap.size ≤ V.heap.size) := hbV.size
  have kk := uExact (some ⟨w.heap.size, 0, none⟩) 4 4 l4 2 V (hT.later hbV) (Tab.later hI hbV) hl l4_fls (by omega)
  rw [l4_ex, l4_e] at kk
  clear hT hI hbV hh hl
  go_enter Tryz.func18, Tryz.ntmps18
  go_wp2_with fail
  rw [← hV]
  clear hV
  generalize hg0 : w.heap.size = g0 at *
  have HG : Hid (w.heap.size = g0) := hg0
  clear hg0
  refine kk.mono ?_
  rintro r w1 ⟨rfl, hb1⟩
  have HB1 : Hid (Below V.heap.size V w1) := hb1
  clear kk hb1
  have HW : Hid (∀ W, Below V.heap.size V W → Below g0 w W) := fun W h => HV.out.trans (h.mono HZ.out)
  have kk := uExact (some ⟨g0, 0, none⟩) 4 4 l4 0 w1 (HT.out _ (HW.out _ HB1.out)).1 (HT.out _ (HW.out _ HB1.out)).2 (HL.out _ HB1.out) l4_fls (by omega)
  rw [l4_e0] at kk
  go_wp2_with fail
  refine kk.mono ?_
  rintro r w2 ⟨rfl, hb2⟩
  have HB2 : Hid (Below V.heap.size V w2) := HB1.out.trans (hb2.mono HB1.out.size)
  clear kk hb2 HB1
  have kk := uTwo 4846369599423283200 4607182418800017408 (by decide) (by decide) w2 (HT.out _ (HW.out _ HB2.out)).1 (HT.out _ (HW.out _ HB2.out)).2
  rw [two_s, two_c] at kk
  go_wp2_with fail
  refine kk.mono ?_
  rintro r w3 ⟨n3, rfl, hl3, hb3⟩
  obtain rfl : n3 = 4846369599423283200 := hl3.eq (by decide)
  have HB3 : Hid (Below V.heap.size V w3) := HB2.out.trans (hb3.mono HB2.out.size)
  clear kk hb3 hl3 HB2
  have kk := urow (some ⟨g0, 0, none⟩) 4 4 l4 w3 (HT.out _ (HW.out _ HB3.out)).1 (HT.out _ (HW.out _ HB3.out)).2 (HL.out _ HB3.out) l4_fls (by omega) (by omega)
  rw [l4_row] at kk
  go_wp2_with fail
  refine kk.mono ?_
  rintro r w4 ⟨n4, rfl, hl4, hb4⟩
  obtain rfl : n4 = 0 := hl4.eq (by decide)
  have HB4 : Hid (Below V.heap.size V w4) := HB3.out.trans (hb4.mono HB3.out.size)
  clear kk hb4 hl4 HB3
  have kk := ukept (some ⟨g0, 0, none⟩) 4 4 l4 w4 (HT.out _ (HW.out _ HB4.out)).1 (HT.out _ (HW.out _ HB4.out)).2 (HL.out _ HB4.out) l4_fls (by omega)
  rw [l4_kept] at kk
  go_wp2_with fail
  refine kk.mono ?_
  rintro r w5 ⟨n5, rfl, hl5, hb5⟩
  obtain rfl : n5 = 4611686018427387904 := hl5.eq (by decide)
  have HB5 : Hid (Below V.heap.size V w5) := HB4.out.trans (hb5.mono HB4.out.size)
  clear kk hb5 hl5 HB4
  have kk := uhalves 4 (some ⟨g0, 0, none⟩) 4 4 l4 w5 (by omega) (HT.out _ (HW.out _ HB5.out)).1 (HT.out _ (HW.out _ HB5.out)).2 (HL.out _ HB5.out) l4_fls (by omega) (by omega)
  rw [l4_hal] at kk
  go_wp2_with fail
  refine kk.mono ?_
  rintro r w6 ⟨n6, rfl, hl6, hb6⟩
  obtain rfl : n6 = 0 := hl6.eq (by decide)
  have HB6 : Hid (Below g0 w w6) := HW.out _ (HB5.out.trans (hb6.mono HB5.out.size))
  clear kk hb6 hl6 HB5 HW HL HT HV
  go_wp2_with fail
  go_ret
  rw [HG.out]
  exact ⟨rfl, HB6.out⟩
theorem lsame5 {n X : Nat} (h : lk n X) (hX : X < 18446744073709551616) (w : World) : Calls Tryz.prog 10 #[.float .f64 n, .float .f64 X] w fun e w' => e = .returned (.bool true) ∧ w' = w := by
  have kd := Ie.dsame n X h.1 hX
  rw [h.2] at kd
  go_enter Tryz.func10, Tryz.ntmps10
  go_wp2_with (go_at_call 36; refine (kd _).mono ?_; rintro e w' ⟨rfl, rfl⟩)
  go_ret
  exact ⟨rfl, rfl⟩
end Go.Proofs.YthkgklkhlcbmaaaGreatDoor
namespace Go.Proofs.YthkgklkhlcbmaaaGreatDoor
set_option linter.unusedVariables false
set_option linter.unusedSimpArgs false
open Go.ChangeShapes Go.WideShapes Go.Deep Go.RowKit Go.Fl64
theorem cellsF64 : Tryz.prog.cellsOf 25 = 1 := by kernel_rfl
theorem bytesF64 : Tryz.prog.bytesOf 25 = 8 := by kernel_rfl
theorem trod_flt {H : Type} {enc : TypeId × Value → H} {W : World} {base : Nat} {spare : Nat → Bool} {held : Bool} {fuel : Nat} {v : Value} {x : DataW H × List MemPlace}
    (h : DataW.trod enc Tryz.prog W base spare held fuel 25 [v] = some x) : ∃ b, v = .float .f64 b ∧ b < 18446744073709551616 := by
  cases fuel with
  | zero => simp [DataW.trod] at h
  | succ n =>
    cases v with
    | float k b =>
      simp only [DataW.trod, Tryz.underlying25] at h
      by_cases hk : k = .f64
      · subst hk
        by_cases hw : (Lit.float .f64 b).wf = true
        · exact ⟨b, rfl, by simpa [Lit.wf] using hw⟩
        · simp [hw] at h
      · simp [hk] at h
    | _ => simp [DataW.trod, Tryz.underlying25] at h
set_option maxRecDepth 100000 in
theorem open_floats {H : Type} {enc : TypeId × Value → H} {W : World} {base : Nat} {v : Value} {d : DataW H} {p : List MemPlace} (hval : Value.okWide Tryz.prog W .any base 22 v)
    (h : DataW.Trod enc Tryz.prog W 0 (fun _ => true) true 22 v d p) (hw : ∀ n ∈ d.weights Tryz.prog 22, n ≤ reachBytes) :
    ∃ ao len cap xs, v = .slice ao len cap ∧ FAt W ao len xs ∧ Fls xs len ∧ (len = 0 → (∃ ad, ao = some ad) ∨ (ao = none ∧ cap = 0)) ∧ len ≤ cap ∧ cap ≤ 17592186043904 := by
  obtain ⟨a0, len0, cap0, rfl⟩ := okWide_slice Tryz.underlying22 hval
  obtain ⟨fuel, hf⟩ := h
  rcases open_slice1 Tryz.underlying22 cellsF64 hf with ⟨hcs, hx⟩ | ⟨a, len, cap, m, n, V, D, Pl, hcs, hb, hl, hm, hmm, hx, hcell⟩
  · simp [Value.cells] at hcs
    obtain ⟨rfl, rfl, rfl⟩ := hcs
    exact ⟨none, 0, 0, fun _ => 0, rfl, ⟨0, 0, fun h => by omega, fun j hj => by omega⟩, fun i hi => by omega, fun _ => .inr ⟨rfl, rfl⟩, Nat.le_refl _, by omega⟩
  · simp [Value.cells] at hcs
    obtain ⟨rfl, rfl, rfl⟩ := hcs
    simp only [Prod.mk.injEq] at hx
    obtain ⟨rfl, rfl⟩ := hx
    simp only [if_true] at hmm
    subst hmm
    have hcap : m ≤ 17592186043904 := by
      have := hw ((((List.range len0).map D).length + ((List.range (m - len0)).map fun j => D (len0 + j)).length) * Tryz.prog.bytesOf 25) (by
        simp only [DataW.weights, Tryz.underlying22, List.mem_cons]
        simp)
      rw [bytesF64] at this
      simp only [List.length_map, List.length_range, reachBytes] at this
      omega
    have each : ∀ i, ∃ x, i < m → V i = .float .f64 x ∧ x < 18446744073709551616 := fun i => by
      by_cases hi : i < m
      · obtain ⟨x, h1, h2⟩ := trod_flt (hcell i hi).2
        exact ⟨x, fun _ => ⟨h1, h2⟩⟩
      · exact ⟨0, fun h => absurd h hi⟩
    obtain ⟨xs, hxs⟩ : ∃ xs : Nat → Nat, ∀ i, i < m → V i = .float .f64 (xs i) ∧ xs i < 18446744073709551616 := ⟨fun i => Classical.choose (each i), fun i hi => Classical.choose_spec (each i) hi⟩
    refine ⟨some a, len0, m, xs, rfl, ?_, fun i hi => (hxs i (by omega)).2, fun _ => .inl ⟨a, rfl⟩, hl, hcap⟩
    by_cases h0 : len0 = 0
    · exact ⟨0, 0, fun h => by omega, fun j hj => by omega⟩
    · obtain ⟨b, off, spot⟩ := a
      have hspot : spot = none := by simpa [Addr.add] using World.cell?_spot (hcell 0 (by omega)).1
      subst hspot
      refine ⟨b, off, fun _ => rfl, fun j hj => ?_⟩
      have := (hcell j (by omega)).1
      rw [(hxs j (by omega)).1] at this
      by_cases hj0 : j = 0
      · subst hj0; simpa [Addr.add] using this
      · simpa [Addr.add, hj0] using this
end Go.Proofs.YthkgklkhlcbmaaaGreatDoor
namespace Go.Proofs.YthkgklkhlcbmaaaGreatDoor
set_option linter.unusedVariables false
set_option linter.unusedSimpArgs false
open Go.RowKit Go.Fl64
end Go.Proofs.YthkgklkhlcbmaaaGreatDoor
namespace Go.Proofs.YthkgklkhlcbmaaaGreatDoor
set_option linter.unusedVariables false
set_option linter.unusedSimpArgs false
open Go.RowKit Go.Fl64
set_option maxRecDepth 200000 in
theorem drow (ao : Option Addr) (len cap : Nat) (xs : Nat → Nat) (w : World) (hl : FAt w ao len xs) (hx : Fls xs len) (hlen : len ≤ 35184372088832) :
    Calls Tryz.prog 12 #[.slice ao len cap] w fun r w' => OutD w (rowF xs len) r w' := by
  obtain ⟨b, off, hao, hc⟩ := hl
  have HX : Hid (Fls xs len) := hx
  have HC : Hid (∀ j, j < len → w.cell? ⟨b, off + j, none⟩ = some (.float .f64 (xs j))) := hc
  have HA : Hid (0 < len → ao = some ⟨b, off, none⟩) := hao
  clear hx hc hao
  go_enter Tryz.func12, Tryz.ntmps12
  go_wp2
  go_loopw [3, 4] (fun s i wr => ∃ (j n : Nat), j ≤ len ∧ i = .int .i64 (j : Int) ∧ s = .float .f64 n ∧ Hid (n = rowF xs j ∧ Below w.heap.size w wr)) (fun _ i _ => len - (intOf i).toNat)
  case atStart => exact ⟨0, 0, by omega, rfl, rfl, rfl, Below.refl _ _⟩
  case round =>
    obtain ⟨j, n, hj, rfl, rfl, HR⟩ := hrel
    by_cases hlt : j < len
    · obtain rfl := HA.out (by omega)
      have hcx : wr.cell? ⟨b, off + j, none⟩ = some (.float .f64 (xs j)) := FAt.cellAt (ao := none) HC.out (j := j) (by omega) HR.out.2
      by_cases h0 : j = 0
      · subst h0
        have hc0 : wr.cell? ⟨b, off, none⟩ = some (.float .f64 (xs 0)) := hcx
        go_wp2_with fail
        go_roundw
        case rel => exact ⟨1, xs 0, by omega, by simp, rfl, rfl, HR.out.2⟩
        case measure => simp [intOf]; omega
      · have hi : ((j : Int) == 0) = false := by rw [beq_eq_false_iff_ne]; omega
        have hn : n < 18446744073709551616 := by rw [HR.out.1]; exact rowF_lt HX.out (by omega)
        have ka := dadd5 n (xs j) hn (HX.out j hlt) wr
        have he : fAdd n (xs j) = rowF xs (j + 1) := by
          obtain ⟨k, rfl⟩ : ∃ k, j = k + 1 := ⟨j - 1, by omega⟩
          rw [HR.out.1]; rfl
        rw [he] at ka
        clear he hn
        go_wp2_with fail
        refine ka.mono ?_
        rintro r w3 ⟨rfl, hb3⟩
        have HF : Hid (Below w.heap.size w w3) := HR.out.2.trans (hb3.mono HR.out.2.size)
        clear ka hb3 hcx HR
        go_wp2_with fail
        go_roundw
        case rel => exact ⟨j + 1, _, by omega, by simp, rfl, rfl, HF.out⟩
        case measure => simp [intOf]; omega
    · obtain rfl : j = len := by omega
      go_wp2
      go_ret
      rw [HR.out.1]
      exact ⟨rfl, HR.out.2⟩
set_option maxRecDepth 200000 in
theorem dhalves_g (b off len cap half : Nat) (H1 H2 : Nat) (w : World) (hh1 : 0 < half) (hh2 : half < len) (hlen : len ≤ cap) (hcap : cap ≤ 9223372036854775807) (hq : half = len / 2)
    (hH1 : H1 < 18446744073709551616) (hH2 : H2 < 18446744073709551616)
    (k1 : ∀ W, Below w.heap.size w W → Calls Tryz.prog 14 #[.slice (some ⟨b, off, none⟩) half cap] W fun r w' => OutD W H1 r w')
    (k2 : ∀ W, Below w.heap.size w W → Calls Tryz.prog 14 #[.slice (some ⟨b, off + half, none⟩) (len - half) (cap - half)] W fun r w' => OutD W H2 r w') :
    Calls Tryz.prog 14 #[.slice (some ⟨b, off, none⟩) len cap] w fun r w' => OutD w (fAdd H1 H2) r w' := by
  have e0 : ((len : Int) == 0) = false := by rw [beq_eq_false_iff_ne]; omega
  have e1 : ((len : Int) == 1) = false := by rw [beq_eq_false_iff_ne]; omega
  have j4 : IntKind.i64.wrap ((len : Int) / 2) = (half : Int) := by rw [IntKind.wrap_i64]; omega
  have hcn : ¬ cap = half := by omega
  have i1 : (0 : Int) ≤ (half : Int) := by omega
  have i2 : (half : Int) ≤ (len : Int) := by omega
  have i3 : (half : Int) ≤ (cap : Int) := by omega
  have i4 : (len : Int) ≤ (cap : Int) := by omega
  have i5 : ¬ cap ≤ half := by omega
  have i6 : ¬ cap - half = 0 := by omega
  have HX : Hid (H1 < 18446744073709551616 ∧ H2 < 18446744073709551616) := ⟨hH1, hH2⟩
  have q1 : ∀ W, Below w.heap.size w W → Calls Tryz.prog 14 #[.slice (some ⟨b, off, none⟩) half cap] W fun r w' => r = .returned (.float .f64 H1) ∧ Below w.heap.size w w' := fun W hb => (k1 W hb).mono fun r w' ⟨e1, e3⟩ => ⟨e1, hb.trans (e3.mono hb.size)⟩
  have q2 : ∀ W, Below w.heap.size w W → Calls Tryz.prog 14 #[.slice (some ⟨b, off + half, none⟩) (len - half) (cap - half)] W fun r w' => r = .returned (.float .f64 H2) ∧ Below w.heap.size w w' := fun W hb => (k2 W hb).mono fun r w' ⟨e1, e3⟩ => ⟨e1, hb.trans (e3.mono hb.size)⟩
  have hBR : Below w.heap.size w w.drew := (Below.refl _ _).drew
  clear k1 k2 hH1 hH2 hq
  go_enter Tryz.func14, Tryz.ntmps14
  go_upto_region 6 with fail
  go_region_held3 (fun w' => Below w.heap.size w w') (first | (with_reducible assumption) | exact hBR | go_keep)
    (first | (go_at_call 14; first | (have hq := hb4; clear hq; with_reducible refine (q2 _ hb4).mono ?_; rintro r w5 ⟨rfl, hb5⟩) | (with_reducible refine (q1 _ hBR).mono ?_; rintro r w4 ⟨rfl, hb4⟩))
           | (go_at_call 38; refine (dadd5 H1 H2 HX.out.1 HX.out.2 _).mono ?_; rintro r w6 ⟨rfl, hb6⟩; replace hb6 := hb5.trans (hb6.mono hb5.size)))
  all_goals
    have HF : Hid (Below w.heap.size w w6) := hb6
    clear hb4 hb5 hb6 q1 q2 hBR
    go_wp2_with fail
    go_ret
    exact ⟨rfl, HF.out⟩
theorem dhalves_0 (ao : Option Addr) (cap : Nat) (w : World) : Calls Tryz.prog 14 #[.slice ao 0 cap] w fun r w' => OutD w 0 r w' := by
  go_enter Tryz.func14, Tryz.ntmps14
  go_wp2
  go_ret
  exact ⟨rfl, Below.refl _ _⟩
theorem dhalves_1 (b off cap x : Nat) (w : World) (hc : w.cell? ⟨b, off, none⟩ = some (.float .f64 x)) : Calls Tryz.prog 14 #[.slice (some ⟨b, off, none⟩) 1 cap] w fun r w' => OutD w x r w' := by
  go_enter Tryz.func14, Tryz.ntmps14
  go_wp2
  go_ret
  exact ⟨rfl, Below.refl _ _⟩
theorem dhalves : ∀ (f : Nat) (ao : Option Addr) (len cap : Nat) (xs : Nat → Nat) (w : World), len ≤ f → FAt w ao len xs → Fls xs len → len ≤ cap → cap ≤ 9223372036854775807 →
    Calls Tryz.prog 14 #[.slice ao len cap] w fun r w' => OutD w (halF f xs len) r w' := by
  intro f
  induction f with
  | zero =>
    intro ao len cap xs w hf hl hx hlen hcap
    obtain rfl : len = 0 := by omega
    exact dhalves_0 ao cap w
  | succ f ih =>
    intro ao len cap xs w hf hl hx hlen hcap
    unfold halF
    by_cases h0 : len = 0
    · subst h0
      rw [if_pos rfl]
      exact dhalves_0 ao cap w
    · rw [if_neg h0]
      obtain ⟨b, off, hao, hc⟩ := hl
      obtain rfl := hao (by omega)
      by_cases h1 : len = 1
      · subst h1
        rw [if_pos rfl]
        exact dhalves_1 b off cap (xs 0) w (hc 0 (by omega))
      · rw [if_neg h1]
        have hx1 : Fls xs (len / 2) := fun i hi => hx i (by omega)
        have hx2 : Fls (fun i => xs (len / 2 + i)) (len - len / 2) := fun i hi => hx (len / 2 + i) (by omega)
        refine dhalves_g b off len cap (len / 2) _ _ w (by omega) (by omega) hlen hcap rfl (halF_lt hx1) (halF_lt hx2) (fun W hb => ?_) (fun W hb => ?_)
        · exact ih _ (len / 2) cap xs W (by omega) ⟨b, off, fun _ => rfl, fun j hj => FAt.cellAt (ao := none) hc (by omega) hb⟩ hx1 (by omega) hcap
        · exact ih _ (len - len / 2) (cap - len / 2) _ W (by omega) ⟨b, off + len / 2, fun _ => rfl, fun j hj => by
            have := FAt.cellAt (ao := none) hc (j := len / 2 + j) (by omega) hb
            rwa [show off + (len / 2 + j) = off + len / 2 + j by omega] at this⟩ hx2 (by omega) (by omega)
end Go.Proofs.YthkgklkhlcbmaaaGreatDoor
namespace Go.Proofs.YthkgklkhlcbmaaaGreatDoor
set_option linter.unusedVariables false
set_option linter.unusedSimpArgs false
open Go.RowKit Go.Fl64
theorem dabs1 (a : Nat) (ha : a < 18446744073709551616) (w : World) : Calls Tryz.prog 32 #[.float .f64 a] w fun e w' => e = .returned (.float .f64 (mag a)) ∧ w' = w := by
  go_enter Tryz.func32, Tryz.ntmps32
  go_wp2_with (first | (go_at_call 68; refine (Ie.dmag a ha _).mono ?_; rintro e w' ⟨rfl, rfl⟩) | (go_at_call 69; refine (Ie.dof _ _).mono ?_; rintro e w' ⟨rfl, rfl⟩))
  go_ret
  exact ⟨rfl, rfl⟩
set_option maxRecDepth 200000 in
theorem dkept (ao : Option Addr) (len cap : Nat) (xs : Nat → Nat) (w : World) (hl : FAt w ao len xs) (hx : Fls xs len) (hlen : len ≤ 35184372088832) :
    Calls Tryz.prog 16 #[.slice ao len cap] w fun r w' => OutD w (ktF xs len) r w' := by
  obtain ⟨b, off, hao, hc⟩ := hl
  have HX : Hid (Fls xs len) := hx
  have HC : Hid (∀ j, j < len → w.cell? ⟨b, off + j, none⟩ = some (.float .f64 (xs j))) := hc
  have HA : Hid (0 < len → ao = some ⟨b, off, none⟩) := hao
  clear hx hc hao
  go_enter Tryz.func16, Tryz.ntmps16
  go_wp2
  go_loopw [3, 4, 5] (fun s c i wr => ∃ (j : Nat), j ≤ len ∧ i = .int .i64 (j : Int) ∧ s = .float .f64 (ktS xs j) ∧ c = .float .f64 (ktC xs j) ∧ Hid (Below w.heap.size w wr)) (fun _ _ i _ => len - (intOf i).toNat)
  case atStart => exact ⟨0, by omega, rfl, rfl, rfl, Below.refl _ _⟩
  case round =>
    obtain ⟨j, hj, rfl, rfl, rfl, HR⟩ := hrel
    by_cases hlt : j < len
    · obtain rfl := HA.out (by omega)
      have hcx : wr.cell? ⟨b, off + j, none⟩ = some (.float .f64 (xs j)) := FAt.cellAt (ao := none) HC.out (j := j) (by omega) HR.out
      have hxl := HX.out j hlt
      have sl : ktS xs j < 18446744073709551616 := ktS_lt HX.out (by omega)
      have cl : ktC xs j < 18446744073709551616 := ktC_lt HX.out (by omega)
      have tl : ktS xs (j + 1) < 18446744073709551616 := ktS_lt HX.out (by omega)
      have k1 := dadd5 (ktS xs j) (xs j) sl hxl wr
      have e1 : fAdd (ktS xs j) (xs j) = ktS xs (j + 1) := rfl
      rw [e1] at k1
      go_wp2_with fail
      refine k1.mono ?_
      rintro r w1 ⟨rfl, hb1⟩
      have HB1 : Hid (Below w.heap.size w w1) := HR.out.trans (hb1.mono HR.out.size)
      have ka := dabs1 (ktS xs j) sl
      have kb := dabs1 (xs j) hxl
      clear k1 hb1 e1 HR
      cases hg : geF (mag (ktS xs j)) (mag (xs j))
      · have hg' : (FloatKind.f64.format.order (mag (ktS xs j)) (mag (xs j)) == some Ordering.gt || FloatKind.f64.format.order (mag (ktS xs j)) (mag (xs j)) == some Ordering.eq) = false := hg
        have e : ktC xs (j + 1) = fAdd (ktC xs j) (fAdd (fAdd (xs j) (ngt (ktS xs (j + 1)))) (ktS xs j)) := by
          show (if geF (mag (ktS xs j)) (mag (xs j)) then _ else _) = _
          rw [hg]
          rfl
        have HE : Hid (ktC xs (j + 1) = fAdd (ktC xs j) (fAdd (fAdd (xs j) (ngt (ktS xs (j + 1)))) (ktS xs j))) := e
        clear e hg
        go_wp2_with (first | (go_at_call 32; first | (with_reducible refine (ka _).mono ?_; rintro e w' ⟨rfl, hw⟩; rw [hw]; clear hw w') | (with_reducible refine (kb _).mono ?_; rintro e w' ⟨rfl, hw⟩; rw [hw]; clear hw w')))
        have k2 := dsub5 (xs j) (ktS xs (j + 1)) hxl tl w1
        refine k2.mono ?_
        rintro r w2 ⟨rfl, hb2⟩
        have HB2 : Hid (Below w.heap.size w w2) := HB1.out.trans (hb2.mono HB1.out.size)
        clear k2 hb2 ka kb
        have k3 := dadd5 (fAdd (xs j) (ngt (ktS xs (j + 1)))) (ktS xs j) (fAdd_lt hxl (ngt_lt tl)) sl w2
        go_wp2_with fail
        refine k3.mono ?_
        rintro r w3 ⟨rfl, hb3⟩
        have HB3 : Hid (Below w.heap.size w w3) := HB2.out.trans (hb3.mono HB2.out.size)
        clear k3 hb3
        have k4 := dadd5 (ktC xs j) (fAdd (fAdd (xs j) (ngt (ktS xs (j + 1)))) (ktS xs j)) cl (fAdd_lt (fAdd_lt hxl (ngt_lt tl)) sl) w3
        rw [← HE.out] at k4
        go_wp2_with fail
        refine k4.mono ?_
        rintro r w4 ⟨rfl, hb4⟩
        have HF : Hid (Below w.heap.size w w4) := HB3.out.trans (hb4.mono HB3.out.size)
        clear k4 hb4 HB1 HB2 HB3 hcx
        go_wp2_with fail
        go_roundw
        case rel => exact ⟨j + 1, by omega, by simp, rfl, rfl, HF⟩
        case measure => simp [intOf]; omega
      · have hg' : (FloatKind.f64.format.order (mag (ktS xs j)) (mag (xs j)) == some Ordering.gt || FloatKind.f64.format.order (mag (ktS xs j)) (mag (xs j)) == some Ordering.eq) = true := hg
        have e : ktC xs (j + 1) = fAdd (ktC xs j) (fAdd (fAdd (ktS xs j) (ngt (ktS xs (j + 1)))) (xs j)) := by
          show (if geF (mag (ktS xs j)) (mag (xs j)) then _ else _) = _
          rw [hg]
          rfl
        have HE : Hid (ktC xs (j + 1) = fAdd (ktC xs j) (fAdd (fAdd (ktS xs j) (ngt (ktS xs (j + 1)))) (xs j))) := e
        clear e hg
        go_wp2_with (first | (go_at_call 32; first | (with_reducible refine (ka _).mono ?_; rintro e w' ⟨rfl, hw⟩; rw [hw]; clear hw w') | (with_reducible refine (kb _).mono ?_; rintro e w' ⟨rfl, hw⟩; rw [hw]; clear hw w')))
        have k2 := dsub5 (ktS xs j) (ktS xs (j + 1)) sl tl w1
        refine k2.mono ?_
        rintro r w2 ⟨rfl, hb2⟩
        have HB2 : Hid (Below w.heap.size w w2) := HB1.out.trans (hb2.mono HB1.out.size)
        clear k2 hb2 ka kb
        have k3 := dadd5 (fAdd (ktS xs j) (ngt (ktS xs (j + 1)))) (xs j) (fAdd_lt sl (ngt_lt tl)) hxl w2
        go_wp2_with fail
        refine k3.mono ?_
        rintro r w3 ⟨rfl, hb3⟩
        have HB3 : Hid (Below w.heap.size w w3) := HB2.out.trans (hb3.mono HB2.out.size)
        clear k3 hb3
        have k4 := dadd5 (ktC xs j) (fAdd (fAdd (ktS xs j) (ngt (ktS xs (j + 1)))) (xs j)) cl (fAdd_lt (fAdd_lt sl (ngt_lt tl)) hxl) w3
        rw [← HE.out] at k4
        go_wp2_with fail
        refine k4.mono ?_
        rintro r w4 ⟨rfl, hb4⟩
        have HF : Hid (Below w.heap.size w w4) := HB3.out.trans (hb4.mono HB3.out.size)
        clear k4 hb4 HB1 HB2 HB3 hcx
        go_wp2_with fail
        go_roundw
        case rel => exact ⟨j + 1, by omega, by simp, rfl, rfl, HF⟩
        case measure => simp [intOf]; omega
    · obtain rfl : j = len := by omega
      have k1 := dadd5 (ktS xs j) (ktC xs j) (ktS_lt HX.out (by omega)) (ktC_lt HX.out (by omega)) wr
      have e1 : fAdd (ktS xs j) (ktC xs j) = ktF xs j := rfl
      rw [e1] at k1
      go_wp2_with fail
      refine k1.mono ?_
      rintro r w1 ⟨rfl, hb1⟩
      have HB1 : Hid (Below w.heap.size w w1) := HR.out.trans (hb1.mono HR.out.size)
      clear k1 hb1 e1
      go_wp2_with fail
      go_ret
      exact ⟨rfl, HB1.out⟩
def fcells (xs : Nat → Nat) (n : Nat) : List Value := (List.range n).map fun i => .float .f64 (xs i)
theorem info_f64 : (Tryz.prog.info? 25).map (fun i => (i.zero, i.size, i.bytes)) = some (some (.float .f64 0), 1, 8) := by kernel_rfl
theorem fcells_length (xs : Nat → Nat) (n : Nat) : (fcells xs n).length = n := by simp [fcells]
theorem fcells_get {xs : Nat → Nat} {n i : Nat} (h : i < n) : (fcells xs n)[i]? = some (.float .f64 (xs i)) := by simp [fcells, h]
theorem fat_of_row {w : World} {base n : Nat} {xs : Nat → Nat} {v : Value} (h : w.ownsRow base 25 1 v n (fcells xs n)) : ∃ ao cap, v = .slice ao n cap ∧ FAt w ao n xs ∧ n ≤ cap ∧ cap ≤ 9223372036854775807 := by
  rcases h.2 with ⟨rfl, rfl⟩ | ⟨g, cap, cur, rfl, hg, hc2, hc3, hc4, hc5, hc6⟩
  · exact ⟨none, 0, rfl, ⟨0, 0, fun h => by omega, fun j hj => by omega⟩, Nat.le_refl _, by omega⟩
  · refine ⟨some ⟨g, 0, none⟩, cap, rfl, ⟨g, 0, fun _ => rfl, fun j hj => ?_⟩, hc3, by unfold maxLen at hc4; omega⟩
    have h7 : (fcells xs n)[j]? = cur[j]? := by
      rw [← hc6, Nat.mul_one, List.getElem?_take, if_pos hj, Array.getElem?_toList]
    rw [fcells_get hj] at h7
    unfold World.cell?
    rw [hc2]
    show (if false then none else cur[0 + j]?) = _
    rw [if_neg (by decide), Nat.zero_add, ← h7]
set_option maxRecDepth 200000 in
theorem wpList_append_flts {w : World} {ops : Array Oper} {rest : List Oper} {o : Oper} {a : Act} {Q : Exit → Act → World → Prop} (hgd : o.guard = none) (s x : Operand)
    (ho : o.op = .call { callee := .builtin .append, args := #[s, x], argTypes := #[22, 22] }) (hs : a.eval s = .slice none 0 0) {ao : Option Addr} {n cap : Nat} {xs : Nat → Nat} (hx : a.eval x = .slice ao n cap) (hA : FAt w ao n xs) (hn : n = 0 → (∃ ad, ao = some ad) ∨ (ao = none ∧ cap = 0)) (hsm : n ≤ 17592186043904)
    (h : ∀ ao' cap' w', FAt w' ao' n xs → n ≤ cap' → cap' ≤ 9223372036854775807 → Below w.heap.size w w' → wpList Tryz.prog ops Q rest (a.put o.dst (.slice ao' n cap')) w') : wpList Tryz.prog ops Q (o :: rest) a w := by
  obtain ⟨i0, hi0, hz0, hz1, hz2⟩ := info_parts info_f64
  by_cases h0 : n = 0
  · subst h0
    rcases hn rfl with ⟨ad, rfl⟩ | ⟨rfl, rfl⟩
    · refine wpList_append_own _ hgd s x 22 ho w.heap.size 25 i0 (.float .f64 0) 1 8 Tryz.underlying22 hi0 hz0 hz1 hz2 rfl (by decide) (.slice none 0 0) 0 [] hs (World.ownsRow_nil w _ _ _) ad 0 cap [] hx (by simp) (by intro j u hj; simp at hj) (by intro u hu; simp at hu) (by unfold maxLen; omega) (by omega) (Nat.le_refl _) ?_
      intro v' w' _ r2 r3
      obtain rfl : v' = .slice none 0 0 := r3.2 ⟨rfl, rfl⟩
      exact h none 0 w' ⟨0, 0, fun h => by omega, fun j hj => by omega⟩ (Nat.le_refl _) (by omega) (Below.grown (Below.refl _ _) r2 (Nat.le_refl _) (fun k hk => by simp [Value.ownBlock] at hk))
    · exact wpList_append_own_none hgd s x 22 ho w.heap.size 25 i0 1 Tryz.underlying22 hi0 (.slice none 0 0) 0 [] hs (World.ownsRow_nil w _ _ _) hx (h none 0 w ⟨0, 0, fun h => by omega, fun j hj => by omega⟩ (Nat.le_refl _) (by omega) (Below.refl _ _))
  · obtain ⟨b, o', h1, h2⟩ := hA
    obtain rfl := h1 (by omega)
    refine wpList_append_own _ hgd s x 22 ho w.heap.size 25 i0 (.float .f64 0) 1 8 Tryz.underlying22 hi0 hz0 hz1 hz2 rfl (by decide) (.slice none 0 0) 0 [] hs (World.ownsRow_nil w _ _ _) ⟨b, o', none⟩ n cap (fcells xs n) hx (by rw [fcells_length, Nat.mul_one]) (fun j u hj => by
      have hjl : j < n := by
        have := (List.getElem?_eq_some_iff.1 hj).1
        rwa [fcells_length] at this
      rw [fcells_get hjl] at hj
      rw [show (⟨b, o', none⟩ : Addr).add j = ⟨b, o' + j, none⟩ by simp [Addr.add], ← hj]
      exact h2 j hjl) (by intro u hu; simp [fcells] at hu; obtain ⟨j, -, rfl⟩ := hu; rfl) (by unfold maxLen; omega) (by omega) (Nat.le_refl _) ?_
    intro v' w' r1 r2 _
    rw [Nat.zero_add, List.nil_append] at r1
    obtain ⟨ao', cap', rfl, f1, f2, f3⟩ := fat_of_row r1
    exact h ao' cap' w' f1 f2 f3 (Below.grown (Below.refl _ _) r2 (Nat.le_refl _) (fun k hk => by simp [Value.ownBlock] at hk))
set_option maxRecDepth 200000 in
theorem ltwin5 {ao : Option Addr} {n cap : Nat} {xs : Nat → Nat} {w : World} (hA : FAt w ao n xs) (hn : n = 0 → (∃ ad, ao = some ad) ∨ (ao = none ∧ cap = 0)) (hsm : n ≤ 17592186043904) :
    Calls Tryz.prog 9 #[.slice ao n cap] w fun r w' => ∃ ao' cap', r = .returned (.slice ao' n cap') ∧ FAt w' ao' n xs ∧ n ≤ cap' ∧ cap' ≤ 9223372036854775807 ∧ Below w.heap.size w w' := by
  go_enter Tryz.func9, Tryz.ntmps9
  go_wp2_with (at_builtin; refine wpList_append_flts rfl _ _ rfl rfl rfl hA hn hsm ?_)
  intro ao2 cap2 w2 h1 h2 h3 hb
  have HR : Hid (FAt w2 ao2 n xs ∧ n ≤ cap2 ∧ cap2 ≤ 9223372036854775807 ∧ Below w.heap.size w w2) := ⟨h1, h2, h3, hb⟩
  clear h1 h2 h3 hb hA hn
  go_wp2
  go_ret
  exact ⟨_, _, rfl, HR.out⟩
set_option maxRecDepth 200000 in
theorem lall5 {ao ao' : Option Addr} {n cap cap' : Nat} {xs : Nat → Nat} {w : World} (h1 : FAt w ao n xs) (h2 : FAt w ao' n xs) (hx : Fls xs n) (hsm : n ≤ 17592186043904) :
    Calls Tryz.prog 17 #[.slice ao n cap, .slice ao' n cap'] w fun r w' => r = .returned (.bool true) ∧ Below w.heap.size w w' := by
  obtain ⟨b, off, hao, hc⟩ := h1
  obtain ⟨b', off', hao', hc'⟩ := h2
  have HX : Hid (Fls xs n) := hx
  have HC : Hid ((∀ j, j < n → w.cell? ⟨b, off + j, none⟩ = some (.float .f64 (xs j))) ∧ (∀ j, j < n → w.cell? ⟨b', off' + j, none⟩ = some (.float .f64 (xs j)))) := ⟨hc, hc'⟩
  have HA : Hid (0 < n → ao = some ⟨b, off, none⟩ ∧ ao' = some ⟨b', off', none⟩) := fun h => ⟨hao h, hao' h⟩
  have hnn : ((n : Int) != (n : Int)) = false := by simp
  clear hx hc hao hc' hao'
  go_enter Tryz.func17, Tryz.ntmps17
  go_wp2
  go_loopw [5] (fun i wr => ∃ j : Nat, j ≤ n ∧ i = .int .i64 (j : Int) ∧ Hid (Below w.heap.size w wr)) (fun i _ => n - (intOf i).toNat)
  case atStart => exact ⟨0, by omega, rfl, Below.refl _ _⟩
  case round =>
    obtain ⟨j, hj, rfl, HR⟩ := hrel
    by_cases hlt : j < n
    · obtain ⟨rfl, rfl⟩ := HA.out (by omega)
      have hBR : Below w.heap.size w wr.drew := HR.out.drew
      have HK : Hid (∀ w', Below w.heap.size w w' → (w'.cell? ⟨b, off + j, none⟩ = some (.float .f64 (xs j)) ∧ w'.cell? ⟨b', off' + j, none⟩ = some (.float .f64 (xs j))) ∧ Below w.heap.size w w') := fun w' hb => ⟨⟨FAt.cellAt (ao := none) HC.out.1 (by omega) hb, FAt.cellAt (ao := none) HC.out.2 (by omega) hb⟩, hb⟩
      obtain ⟨⟨c1, c2⟩, -⟩ := HK.out wr HR.out
      have hji : (0 : Int) ≤ (j : Int) := by omega
      have hjn : (j : Int) < (n : Int) := by omega
      have ks := fun W => lsame5 (lk.refl (HX.out j hlt)) (HX.out j hlt) W
      generalize hxe : xs j = xe at *
      go_upto_region 6 with fail
      go_region_held3 (fun w' => (w'.cell? ⟨b, off + j, none⟩ = some (.float .f64 xe) ∧ w'.cell? ⟨b', off' + j, none⟩ = some (.float .f64 xe)) ∧ Below w.heap.size w w') (first | (with_reducible assumption) | (refine HK.out _ ?_; first | (with_reducible assumption) | exact hBR) | go_keep)
        (first | (go_at_call 10; refine (ks _).mono ?_; rintro r w' ⟨rfl, hw⟩; rw [hw]; clear hw w'))
      go_wp2_with fail
      go_roundw
      case rel => exact ⟨j + 1, by omega, by simp, hBR⟩
      case measure => simp [intOf]; omega
    · obtain rfl : j = n := by omega
      go_wp2
      go_ret
      exact ⟨rfl, HR.out⟩
theorem ktF_lt {xs : Nat → Nat} {len : Nat} (h : Fls xs len) : ktF xs len < 18446744073709551616 := fAdd_lt (ktS_lt h (Nat.le_refl _)) (ktC_lt h (Nat.le_refl _))
set_option maxRecDepth 200000 in
theorem sumsRows_ok (ao : Option Addr) (len cap : Nat) (xs : Nat → Nat) (w : World) (hl : FAt w ao len xs) (hx : Fls xs len) (hn : len = 0 → (∃ ad, ao = some ad) ∨ (ao = none ∧ cap = 0)) (h1 : len ≤ cap) (h2 : cap ≤ 17592186043904) (hT : Tab32 w) (hI : Ie.Tab w) :
    Calls Tryz.prog 3 #[.slice ao len cap] w fun r w' => r = .returned (.bool true) ∧ Below w.heap.size w w' := by
  have HT : Hid (∀ W, Below w.heap.size w W → Tab32 W ∧ Ie.Tab W) := fun W h => ⟨hT.later h, Tab.later hI h⟩
  have HL : Hid (∀ W, Below w.heap.size w W → FAt W ao len xs) := fun W h => hl.later h
  have HX : Hid (Fls xs len) := hx
  have HN : Hid (len ≤ cap ∧ cap ≤ 17592186043904) := ⟨h1, h2⟩
  have kk := ltwin5 hl hn (by omega : len ≤ 17592186043904)
  clear hT hI hl hx hn h1 h2
  go_enter Tryz.func3, Tryz.ntmps3
  go_wp2_with fail
  refine kk.mono ?_
  rintro r w1 ⟨ao1, cap1, rfl, hf1, hc1, hc2, hb1⟩
  have HB1 : Hid (Below w.heap.size w w1 ∧ FAt w1 ao1 len xs ∧ len ≤ cap1 ∧ cap1 ≤ 9223372036854775807) := ⟨hb1, hf1, hc1, hc2⟩
  clear kk hf1 hc1 hc2 hb1
  -- Row
  have kk := urow ao1 len cap1 xs w1 (HT.out _ HB1.out.1).1 (HT.out _ HB1.out.1).2 HB1.out.2.1 HX.out HB1.out.2.2.1 HB1.out.2.2.2
  go_wp2_with fail
  refine kk.mono ?_
  rintro r w2 ⟨n2, rfl, hl2, hb2⟩
  have HB2 : Hid (Below w.heap.size w w2 ∧ FAt w2 ao1 len xs ∧ lk n2 (rowF xs len)) := ⟨HB1.out.1.trans (hb2.mono HB1.out.1.size), HB1.out.2.1.later hb2, hl2⟩
  clear kk hl2 hb2
  have kk := drow ao len cap xs w2 (HL.out _ HB2.out.1) HX.out (by have := HN.out; omega)
  go_wp2_with fail
  refine kk.mono ?_
  rintro r w3 ⟨rfl, hb3⟩
  have HB3 : Hid (Below w.heap.size w w3 ∧ FAt w3 ao1 len xs) := ⟨HB2.out.1.trans (hb3.mono HB2.out.1.size), HB2.out.2.1.later hb3⟩
  clear kk hb3
  have kk := lsame5 HB2.out.2.2 (rowF_lt HX.out (Nat.le_refl _)) w3
  go_wp2_with fail
  refine kk.mono ?_
  rintro r w' ⟨rfl, hw⟩
  rw [hw]
  clear hw kk w' HB2
  -- Halves
  have kk := uhalves len ao1 len cap1 xs w3 (Nat.le_refl _) (HT.out _ HB3.out.1).1 (HT.out _ HB3.out.1).2 HB3.out.2 HX.out HB1.out.2.2.1 HB1.out.2.2.2
  go_wp2_with fail
  refine kk.mono ?_
  rintro r w4 ⟨n4, rfl, hl4, hb4⟩
  have HB4 : Hid (Below w.heap.size w w4 ∧ FAt w4 ao1 len xs ∧ lk n4 (halF len xs len)) := ⟨HB3.out.1.trans (hb4.mono HB3.out.1.size), HB3.out.2.later hb4, hl4⟩
  clear kk hl4 hb4
  have kk := dhalves len ao len cap xs w4 (Nat.le_refl _) (HL.out _ HB4.out.1) HX.out HN.out.1 (by have := HN.out; omega)
  go_wp2_with fail
  refine kk.mono ?_
  rintro r w5 ⟨rfl, hb5⟩
  have HB5 : Hid (Below w.heap.size w w5 ∧ FAt w5 ao1 len xs) := ⟨HB4.out.1.trans (hb5.mono HB4.out.1.size), HB4.out.2.1.later hb5⟩
  clear kk hb5
  have kk := lsame5 HB4.out.2.2 (halF_lt HX.out) w5
  go_wp2_with fail
  refine kk.mono ?_
  rintro r w' ⟨rfl, hw⟩
  rw [hw]
  clear hw kk w' HB4
  -- Kept
  have kk := ukept ao1 len cap1 xs w5 (HT.out _ HB5.out.1).1 (HT.out _ HB5.out.1).2 HB5.out.2 HX.out (by have := HN.out; omega)
  go_wp2_with fail
  refine kk.mono ?_
  rintro r w6 ⟨n6, rfl, hl6, hb6⟩
  have HB6 : Hid (Below w.heap.size w w6 ∧ FAt w6 ao1 len xs ∧ lk n6 (ktF xs len)) := ⟨HB5.out.1.trans (hb6.mono HB5.out.1.size), HB5.out.2.later hb6, hl6⟩
  clear kk hl6 hb6
  have kk := dkept ao len cap xs w6 (HL.out _ HB6.out.1) HX.out (by have := HN.out; omega)
  go_wp2_with fail
  refine kk.mono ?_
  rintro r w7 ⟨rfl, hb7⟩
  have HB7 : Hid (Below w.heap.size w w7 ∧ FAt w7 ao1 len xs) := ⟨HB6.out.1.trans (hb7.mono HB6.out.1.size), HB6.out.2.1.later hb7⟩
  clear kk hb7
  have kk := lsame5 HB6.out.2.2 (ktF_lt HX.out) w7
  go_wp2_with fail
  refine kk.mono ?_
  rintro r w' ⟨rfl, hw⟩
  rw [hw]
  clear hw kk w' HB6
  -- all
  have kk := lall5 (cap := cap1) (cap' := cap) HB7.out.2 (HL.out _ HB7.out.1) HX.out (by have := HN.out; omega)
  go_wp2_with fail
  refine kk.mono ?_
  rintro r w8 ⟨rfl, hb8⟩
  have HB8 : Hid (Below w.heap.size w w8) := HB7.out.1.trans (hb8.mono HB7.out.1.size)
  clear kk hb8
  have kk := sure5_ok w8 (HT.out _ HB8.out).1 (HT.out _ HB8.out).2
  go_wp2_with fail
  refine kk.mono ?_
  rintro r w9 ⟨rfl, hb9⟩
  have HB9 : Hid (Below w.heap.size w w9) := HB8.out.trans (hb9.mono HB8.out.size)
  clear kk hb9
  go_wp2_with fail
  go_ret
  exact ⟨rfl, HB9.out⟩
end Go.Proofs.YthkgklkhlcbmaaaGreatDoor
