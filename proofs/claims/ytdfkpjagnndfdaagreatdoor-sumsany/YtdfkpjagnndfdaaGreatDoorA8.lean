/- Own work: contracts of the program's functions, part 8: UA6 UA7 UA8 UA9 UB1 UB2 UB3 SB1 SB2 SB3 SB4 SB5 SH5 SB6 SH6 SH7 SH8 SH9 SI1 FL2 SC1 RY6 SC2 RY7 SD1 SD2 SI2 SI3 SI4 UB4 UB5 UB6 UB7 UB8 UB9 UC1 UC2 UC3 UC4. -/
import Derived.Test.YtdfkpjagnndfdaaGreatDoorA7
import Derived.Test.YtdfkpjagnndfdaaGreatDoorA4
import Derived.Test.YtdfkpjagnndfdaaGreatDoorA6
import Derived.Test.YtdfkpjagnndfdaaGreatDoorA2
import Derived.Test.YtdfkpjagnndfdaaGreatDoorA5

/- sums.finite, sums.near, sums.floats, sums.Two. -/
namespace Go.Proofs.YtdfkpjagnndfdaaGreatDoor
set_option linter.unusedVariables false
set_option linter.unusedSimpArgs false
open Go.RowKit Go.Fl64

theorem ufin_y (a : Nat) (ha : a < 18446744073709551616) (hf : mag a < 9218868437227405312) (w : World) : Calls Tryz.prog 21 #[.float .f64 a] w fun r w' => r = .returned (.bool true) ∧ w' = w := by
  have hs : ∀ w, (binOp .sub 23 (.float .f64 a) (.float .f64 a)).run Tryz.prog w = .ok (.float .f64 0) w := fun w => run_float_arith w .sub 23 .f64 a a _ (sub_fin ha hf)
  have he := eq_nought0
  go_enter Tryz.func21, Tryz.ntmps21
  go_wp2
  go_ret
  exact ⟨rfl, rfl⟩
theorem ufin_n (a : Nat) (ha : a < 18446744073709551616) (hf : ¬ mag a < 9218868437227405312) (w : World) : Calls Tryz.prog 21 #[.float .f64 a] w fun r w' => r = .returned (.bool false) ∧ w' = w.drew := by
  obtain ⟨n, n1, n2, hs⟩ := run_nan (P := Tryz.prog) w .sub 23 a a (by simp) (sub_non ha (by omega))
  have he := ord_eq n 0 n1 (by decide)
  have hq : eq n 0 = false := by unfold Fl64.eq; rw [n2]; rfl
  rw [hq] at he
  go_enter Tryz.func21, Tryz.ntmps21
  go_wp2
  go_ret
  exact ⟨rfl, rfl⟩


theorem lk_non {n X : Nat} (h : lk n X) (hX : X < 18446744073709551616) (hf : ¬ mag X < 9218868437227405312) : ¬ mag n < 9218868437227405312 := by
  cases hn : isNaN X
  · rw [h.eq hn]; exact hf
  · intro hlt
    have h2 : isNaN n = false := by unfold isNaN; simp; omega
    have := h.2
    unfold same at this
    rw [hn, h2] at this
    have e : n = X := by simp at this; omega
    rw [e, hn] at h2
    cases h2
theorem unear_1 (a b X : Nat) (w : World) (k : ∀ W, Below w.heap.size w W → Calls Tryz.prog 71 #[.float .f64 a, .float .f64 b, .int .i64 2] W fun r w' => OutF2 W X r w') :
    Calls Tryz.prog 56 #[.float .f64 a, .float .f64 b] w fun r w' => OutF2 w X r w' := by
  have k1 := k w (Below.refl _ _)
  clear k
  go_enter Tryz.func56, Tryz.ntmps56
  go_wp2_with fail
  refine k1.mono ?_
  rintro r w1 ⟨n, rfl, hl, hb⟩
  have HB : Hid (lk n X ∧ Below w.heap.size w w1) := ⟨hl, hb⟩
  clear k1 hl hb
  go_wp2_with fail
  go_ret
  exact ⟨n, rfl, HB.out⟩
theorem ufloats (ao : Option Addr) (len cap : Nat) (w : World) : Calls Tryz.prog 19 #[.slice ao len cap] w fun r w' => r = .returned (.func (.func 49) #[] #[.pointer (some ⟨w.heap.size, 0, none⟩)]) ∧ w' = w.alloc (.cells #[.slice ao len cap] 22) := by
  go_enter Tryz.func19, Tryz.ntmps19
  go_wp2
  go_ret
  exact ⟨rfl, rfl⟩

set_option maxHeartbeats 4000000 in
set_option maxRecDepth 200000 in
theorem utwo_n (a b X : Nat) (w : World) (hX : X < 18446744073709551616) (hf : ¬ mag X < 9218868437227405312)
    (kN : Calls Tryz.prog 56 #[.float .f64 a, .float .f64 b] w fun r w' => OutF2 w X r w') :
    Calls Tryz.prog 24 #[.float .f64 a, .float .f64 b] w fun r w' => ∃ n, r = .returned (.tuple #[.float .f64 n, .float .f64 0]) ∧ lk n X ∧ Below w.heap.size w w' := by
  go_enter Tryz.func24, Tryz.ntmps24
  go_wp2_with fail
  refine kN.mono ?_
  rintro r w1 ⟨n, rfl, hl, hb⟩
  have hn : ¬ mag n < 9218868437227405312 := lk_non hl hX hf
  have HB : Hid (lk n X ∧ Below w.heap.size w w1) := ⟨hl, hb⟩
  have kf := ufin_n n hl.1 hn w1
  clear kN hl hb hX hf hn
  go_wp2_with fail
  refine kf.mono ?_
  rintro r w' ⟨rfl, hw⟩
  rw [hw]
  clear hw kf w'
  go_wp2_with fail
  refine bodyPost_ret (results_tmp2 rfl _ _ _) rfl ?_
  exact ⟨n, rfl, HB.out.1, HB.out.2.drew⟩

set_option maxHeartbeats 4000000 in
set_option maxRecDepth 200000 in
theorem utwo_y (a b X C : Nat) (ts td : Bool × Nat × Int) (w : World) (hX : X < 18446744073709551616) (hf : mag X < 9218868437227405312)
    (kN : Calls Tryz.prog 56 #[.float .f64 a, .float .f64 b] w fun r w' => OutF2 w X r w')
    (kT : ∀ W Bs g, Below w.heap.size w W → W.cell? ⟨Bs, 0, none⟩ = some (.slice (some ⟨g, 0, none⟩) 2 2) → W.cell? ⟨g, 0, none⟩ = some (.float .f64 a) → W.cell? ⟨g, 1, none⟩ = some (.float .f64 b) → Calls Tryz.prog 18 #[.func (.func 49) #[] #[.pointer (some ⟨Bs, 0, none⟩)]] W fun r w' => OutA W ts r w')
    (kD : ∀ W A, Below w.heap.size w W → PN W A ts → Calls Tryz.prog 55 #[A, .float .f64 X] W fun r w' => OutA W td r w')
    (kR : ∀ W A, Below w.heap.size w W → PN W A td → Calls Tryz.prog 17 #[A, .int .i64 2] W fun r w' => r = .returned (.float .f64 C) ∧ Below W.heap.size W w') :
    Calls Tryz.prog 24 #[.float .f64 a, .float .f64 b] w fun r w' => r = .returned (.tuple #[.float .f64 X, .float .f64 C]) ∧ Below w.heap.size w w' := by
  have HT : Hid (∀ W Bs g, Below w.heap.size w W → W.cell? ⟨Bs, 0, none⟩ = some (.slice (some ⟨g, 0, none⟩) 2 2) → W.cell? ⟨g, 0, none⟩ = some (.float .f64 a) → W.cell? ⟨g, 1, none⟩ = some (.float .f64 b) → Calls Tryz.prog 18 #[.func (.func 49) #[] #[.pointer (some ⟨Bs, 0, none⟩)]] W fun r w' => OutA W ts r w') := kT
  have HD : Hid (∀ W A, Below w.heap.size w W → PN W A ts → Calls Tryz.prog 55 #[A, .float .f64 X] W fun r w' => OutA W td r w') := kD
  have HR : Hid (∀ W A, Below w.heap.size w W → PN W A td → Calls Tryz.prog 17 #[A, .int .i64 2] W fun r w' => r = .returned (.float .f64 C) ∧ Below W.heap.size W w') := kR
  clear kT kD kR
  go_enter Tryz.func24, Tryz.ntmps24
  go_wp2_with fail
  refine kN.mono ?_
  rintro r w1 ⟨n, rfl, hl, hb⟩
  obtain rfl : n = X := hl.eq (by unfold isNaN; simp; omega)
  have HB : Hid (Below w.heap.size w w1) := hb
  have kf := ufin_y n hX hf w1
  clear kN hl hb hX hf
  go_wp2_with fail
  refine kf.mono ?_
  rintro r w' ⟨rfl, hw⟩
  rw [hw]
  clear hw kf w'
  obtain ⟨V, hV⟩ : ∃ V, V = w1.alloc (.cells #[.float .f64 a, .float .f64 b] 23) := ⟨_, rfl⟩
  have kf := ufloats (some ⟨w1.heap.size, 0, none⟩) 2 2 V
  go_wp2_with fail
  rw [← hV]
  refine kf.mono ?_
  rintro r w2 ⟨rfl, hw⟩
  have hbV : Below w.heap.size w V := by rw [hV]; exact HB.out.alloc HB.out.size _
  have hb2 : Below V.heap.size V w2 := by rw [hw]; exact (Below.refl _ _).alloc (Nat.le_refl _) _
  have hbU : Below w.heap.size w w2 := hbV.trans (hb2.mono hbV.size)
  have hh : V.heap[w1.heap.size]? = some (.cells #[.float .f64 a, .float .f64 b] 23 (0, 0)) := by rw [hV]; exact heap_alloc_new _ _
  have hh2 := box_later hh hb2 (lt_of_box hh)
  have c1 : w2.cell? ⟨V.heap.size, 0, none⟩ = some (.slice (some ⟨w1.heap.size, 0, none⟩) 2 2) := by unfold World.cell?; rw [hw, heap_alloc_new]; rfl
  have c2 : w2.cell? ⟨w1.heap.size, 0, none⟩ = some (.float .f64 a) := by unfold World.cell?; rw [hh2]; rfl
  have c3 : w2.cell? ⟨w1.heap.size, 1, none⟩ = some (.float .f64 b) := by unfold World.cell?; rw [hh2]; rfl
  have kk := HT.out w2 V.heap.size w1.heap.size hbU c1 c2 c3
  have HU : Hid (Below w.heap.size w w2) := hbU
  clear kf hw hV hbV hb2 hbU hh hh2 c1 c2 c3 HB HT
  generalize V.heap.size = g5 at *
  go_wp2_with fail
  refine kk.mono ?_
  rintro r w3 ⟨s3, ao3, n3, cap3, ex3, rfl, hP3, hb3⟩
  have HV : Hid (Below w.heap.size w w3) := HU.out.trans (hb3.mono HU.out.size)
  have kk2 := HD.out w3 _ HV.out hP3
  clear kk hP3 hb3 HU HD
  go_wp2_with fail
  refine kk2.mono ?_
  rintro r w4 ⟨s4, ao4, n4, cap4, ex4, rfl, hP4, hb4⟩
  have HW : Hid (Below w.heap.size w w4) := HV.out.trans (hb4.mono HV.out.size)
  have kk3 := HR.out w4 _ HW.out hP4
  clear kk2 hP4 hb4 HV HR
  go_wp2_with fail
  refine kk3.mono ?_
  rintro r w5 ⟨rfl, hb5⟩
  have HF : Hid (Below w.heap.size w w5) := HW.out.trans (hb5.mono HW.out.size)
  clear kk3 hb5 HW
  go_wp2_with fail
  refine bodyPost_ret (results_tmp2 rfl _ _ _) rfl ?_
  exact ⟨rfl, HF.out⟩
end Go.Proofs.YtdfkpjagnndfdaaGreatDoor
/- The sum of two floats to the nearest, as a function; sums.near and the document's add. -/
namespace Go.Proofs.YtdfkpjagnndfdaaGreatDoor
set_option linter.unusedVariables false
set_option linter.unusedSimpArgs false
open Go.RowKit Go.Fl64

/-- the sum of two floats, rounded to the nearest, by the document -/
def fAdd (a b : Nat) : Nat := if fin a = false ∨ fin b = false then addX a b else if (tS (tF a) (tF b)).2.1 = 0 then sig (z0 (neg a) (neg b) 2) 0 else tfF (tS (tF a) (tF b)).1 true (tS (tF a) (tF b)).2.1 (tS (tF a) (tF b)).2.2 2

theorem fadd_p (a b : Nat) (ha : a < 18446744073709551616) (hb : b < 18446744073709551616) :
    fAdd a b < 18446744073709551616 ∧ ((isNaN a = true ∨ isNaN b = true) → fAdd a b = 9221120237041090560) ∧
      (∀ W, Tab32 W → Ie.Tab W → Calls Tryz.prog 71 #[.float .f64 a, .float .f64 b, .int .i64 2] W fun r w' => OutF2 W (fAdd a b) r w') := by
  have hm : isM 2 = true := by decide
  have hm' : (1 : Int) ≤ 2 ∧ (2 : Int) ≤ 3 := by omega
  by_cases hf : fin a = false ∨ fin b = false
  · have e : fAdd a b = addX a b := if_pos hf
    rw [e]
    refine ⟨addX_lt ha hb, fun h => ?_, fun W _ _ => ?_⟩
    · unfold addX
      rcases h with h | h
      · rw [h, Bool.true_or, if_pos rfl]
      · rw [h, Bool.or_true, if_pos rfl]
    · have hrun : (∀ W, (binOp .add 23 (.float .f64 a) (.float .f64 b)).run Tryz.prog W = .ok (.float .f64 (addX a b)) W) ∨ ∀ W, ∃ n, lk n (addX a b) ∧ (binOp .add 23 (.float .f64 a) (.float .f64 b)).run Tryz.prog W = .ok (.float .f64 n) W.drew := by
        rcases add_non ha hb hf with ⟨h1, h2⟩ | h1
        · refine .inr fun W => ?_
          obtain ⟨n, n1, n2, hs⟩ := run_nan (P := Tryz.prog) W .add 23 a b (by simp) h1
          exact ⟨n, lk.nan n1 n2 h2, hs⟩
        · exact .inl fun W => run_float_arith W .add 23 .f64 a b _ h1
      by_cases hfa : mag a < 9218868437227405312
      · have hfb : ¬ mag b < 9218868437227405312 := by
          rcases hf with h | h
          · exact absurd hfa (fin_false.1 h)
          · exact fin_false.1 h
        exact padd_b a b (addX a b) 2 W hm (pfin_y a ha hfa) (pfin_n b hb hfb) hrun (addX_lt ha hb)
      · exact padd_a a b (addX a b) 2 W hm (pfin_n a ha hfa) hrun (addX_lt ha hb)
  · have hfa : mag a < 9218868437227405312 := Nat.lt_of_not_le fun h => hf (.inl (fin_false.2 (by omega)))
    have hfb : mag b < 9218868437227405312 := Nat.lt_of_not_le fun h => hf (.inr (fin_false.2 (by omega)))
    have hfs := tS_fits (tF_fits a) (tF_fits b)
    have hokR := tS_okR (tF_fits a) (tF_fits b) (by omega) (by omega) (by omega)
    have hok : Ok (tS (tF a) (tF b)) := ok_cn hokR
    obtain ⟨f1, f2, f3, f4, f5⟩ := hok.facts
    have hadd := add_op (tF_ok a) (tF_ok b) hokR
    have e : fAdd a b = if (tS (tF a) (tF b)).2.1 = 0 then sig (z0 (neg a) (neg b) 2) 0 else tfF (tS (tF a) (tF b)).1 true (tS (tF a) (tF b)).2.1 (tS (tF a) (tF b)).2.2 2 := if_neg hf
    rw [e]
    refine ⟨?_, fun h => (by unfold isNaN at h; simp only [decide_eq_true_eq] at h; rcases h with h | h; omega; omega), fun W hT hI => ?_⟩
    · split
      · exact sig_lt (by omega)
      · exact tfF_lt hm'
    · by_cases h0 : (tS (tF a) (tF b)).2.1 = 0
      · rw [if_pos h0]
        refine (padd_z a b _ 2 _ (tF a) (tF b) (tS (tF a) (tF b)) W hm ha hb (pfin_y a ha hfa) (pfin_y b hb hfb) (exact_ok a ha hfa W hT hI) (fun W' h => exact_ok b hb hfb W' (hT.later h) (Tab.later hI h)) (fun W' X Y h h1 h2 => added_op hadd (hT.later h) h1 h2) (fun W' X h => psign hok h) (by rw [sgI_nought, decide_eq_true h0]) (fun W' => pnought _ _ 2 hm' W')).mono ?_
        rintro r w' ⟨rfl, hb'⟩
        exact ⟨_, rfl, lk.refl (sig_lt (by omega)), hb'⟩
      · rw [if_neg h0]
        refine (padd_r a b _ 2 _ (tF a) (tF b) (tS (tF a) (tF b)) W hm ha hb (pfin_y a ha hfa) (pfin_y b hb hfb) (exact_ok a ha hfa W hT hI) (fun W' h => exact_ok b hb hfb W' (hT.later h) (Tab.later hI h)) (fun W' X Y h h1 h2 => added_op hadd (hT.later h) h1 h2) (fun W' X h => psign hok h) (by rw [sgI_nought, decide_eq_false h0]) (fun W' X h h1 => prounded (hT.later h) hok h1 hm')).mono ?_
        rintro r w' ⟨rfl, hb'⟩
        exact ⟨_, rfl, lk.refl (tfF_lt hm'), hb'⟩

theorem fAdd_lt {a b : Nat} (ha : a < 18446744073709551616) (hb : b < 18446744073709551616) : fAdd a b < 18446744073709551616 := (fadd_p a b ha hb).1
theorem lk_or {n X : Nat} (h : lk n X) : n = X ∨ (isNaN n = true ∧ isNaN X = true) := by
  cases hn : isNaN X
  · exact .inl (h.eq hn)
  · cases h2 : isNaN n
    · have := h.2
      unfold same at this
      rw [hn, h2] at this
      have e : n = X := by simp at this; omega
      rw [e, hn] at h2
      cases h2
    · exact .inr ⟨rfl, rfl⟩
/-- alike numbers have the same sum -/
theorem fAdd_lk {n X p Y : Nat} (h1 : lk n X) (h2 : lk p Y) (hX : X < 18446744073709551616) (hY : Y < 18446744073709551616) : fAdd n p = fAdd X Y := by
  rcases lk_or h1 with rfl | ⟨a1, a2⟩
  · rcases lk_or h2 with rfl | ⟨b1, b2⟩
    · rfl
    · rw [(fadd_p n p h1.1 h2.1).2.1 (.inr b1), (fadd_p n Y hX hY).2.1 (.inr b2)]
  · rw [(fadd_p n p h1.1 h2.1).2.1 (.inl a1), (fadd_p X Y hX hY).2.1 (.inl a2)]
theorem unear {n X p Y : Nat} (h1 : lk n X) (h2 : lk p Y) (hX : X < 18446744073709551616) (hY : Y < 18446744073709551616) (w : World) (hT : Tab32 w) (hI : Ie.Tab w) :
    Calls Tryz.prog 56 #[.float .f64 n, .float .f64 p] w fun r w' => OutF2 w (fAdd X Y) r w' := by
  rw [← fAdd_lk h1 h2 hX hY]
  exact unear_1 n p _ w fun W hW => (fadd_p n p h1.1 h2.1).2.2 W (hT.later hW) (Tab.later hI hW)

end Go.Proofs.YtdfkpjagnndfdaaGreatDoor
/- sums.Row. -/
namespace Go.Proofs.YtdfkpjagnndfdaaGreatDoor
set_option linter.unusedVariables false
set_option linter.unusedSimpArgs false
open Go.RowKit Go.Fl64

/-- the sum of the first floats of a list, in order -/
def rowF (xs : Nat → Nat) : Nat → Nat
  | 0 => 0
  | 1 => xs 0
  | k + 2 => fAdd (rowF xs (k + 1)) (xs (k + 1))
/-- all of a list's first floats are floats -/
def Fls (xs : Nat → Nat) (len : Nat) : Prop := ∀ i, i < len → xs i < 18446744073709551616
theorem rowF_lt {xs : Nat → Nat} : ∀ {k len : Nat}, Fls xs len → k ≤ len → rowF xs k < 18446744073709551616
  | 0, _, _, _ => by show 0 < _; omega
  | 1, _, h, hk => h 0 (by omega)
  | k + 2, len, h, hk => fAdd_lt (rowF_lt (k := k + 1) h (by omega)) (h (k + 1) (by omega))
theorem FAt.cellAt {w : World} {b off len : Nat} {ao : Option Addr} {xs : Nat → Nat} (hc : ∀ j, j < len → w.cell? ⟨b, off + j, none⟩ = some (.float .f64 (xs j))) {j : Nat} (hj : j < len) {w' : World} (hb : Below w.heap.size w w') : w'.cell? ⟨b, off + j, none⟩ = some (.float .f64 (xs j)) :=
  (hb.cell (p := ⟨b, off + j, none⟩) (World.block_lt_of_cell? _ _ (hc j hj))).trans (hc j hj)

set_option maxHeartbeats 4000000 in
set_option maxRecDepth 200000 in
theorem urow (ao : Option Addr) (len cap : Nat) (xs : Nat → Nat) (w : World) (hT : Tab32 w) (hI : Ie.Tab w) (hl : FAt w ao len xs) (hx : Fls xs len) (hlen : len ≤ cap) (hcap : cap ≤ 9223372036854775807) :
    Calls Tryz.prog 25 #[.slice ao len cap] w fun r w' => OutF2 w (rowF xs len) r w' := by
  obtain ⟨b, off, hao, hc⟩ := hl
  by_cases h0 : len = 0
  · subst h0
    go_enter Tryz.func25, Tryz.ntmps25
    go_wp2
    go_ret
    exact ⟨0, rfl, lk.refl (by omega), Below.refl _ _⟩
  · obtain rfl := hao (by omega)
    have c0 : w.cell? ⟨b, off, none⟩ = some (.float .f64 (xs 0)) := hc 0 (by omega)
    have e0 : ((len : Int) == 0) = false := by rw [beq_eq_false_iff_ne]; omega
    obtain ⟨m, rfl⟩ : ∃ m, len = m + 1 := ⟨len - 1, by omega⟩
    have HX : Hid (Tab32 w ∧ Ie.Tab w ∧ Fls xs (m + 1)) := ⟨hT, hI, hx⟩
    have HC : Hid (∀ j, j < m + 1 → w.cell? ⟨b, off + j, none⟩ = some (.float .f64 (xs j))) := hc
    clear hT hI hx hc hao h0
    go_enter Tryz.func25, Tryz.ntmps25
    by_cases hc1 : cap = 1
    · obtain rfl : m = 0 := by omega
      subst hc1
      go_wp2
      try simp only [reduceIte] at *
      go_loopw [3, 15] (fun s i wr => ∃ (j n : Nat), j ≤ 0 ∧ i = .int .i64 (j : Int) ∧ s = .float .f64 n ∧ Hid (lk n (rowF xs (j + 1)) ∧ Below w.heap.size w wr)) (fun _ i _ => 0 - (intOf i).toNat)
      case atStart => exact ⟨0, xs 0, by omega, rfl, rfl, lk.refl (HX.out.2.2 0 (by omega)), Below.refl _ _⟩
      case round =>
        obtain ⟨j, n, hj, rfl, rfl, HR⟩ := hrel
        by_cases hlt : j < 0
        · omega
        · obtain rfl : j = 0 := by omega
          go_wp2
          go_ret
          exact ⟨n, rfl, HR.out⟩
    · go_wp2
      go_loopw [3, 15] (fun s i wr => ∃ (j n : Nat), j ≤ m ∧ i = .int .i64 (j : Int) ∧ s = .float .f64 n ∧ Hid (lk n (rowF xs (j + 1)) ∧ Below w.heap.size w wr)) (fun _ i _ => m - (intOf i).toNat)
      case atStart => exact ⟨0, xs 0, by omega, rfl, rfl, lk.refl (HX.out.2.2 0 (by omega)), Below.refl _ _⟩
      case round =>
        obtain ⟨j, n, hj, rfl, rfl, HR⟩ := hrel
        by_cases hlt : j < m
        · have hcx : wr.cell? ⟨b, off + 1 + j, none⟩ = some (.float .f64 (xs (j + 1))) := by
            have := FAt.cellAt (ao := none) HC.out (j := j + 1) (by omega) HR.out.2
            rwa [show off + (j + 1) = off + 1 + j by omega] at this
          have kn := unear HR.out.1 (lk.refl (HX.out.2.2 (j + 1) (by omega))) (rowF_lt HX.out.2.2 (by omega)) (HX.out.2.2 (j + 1) (by omega)) wr (HX.out.1.later HR.out.2) (Tab.later HX.out.2.1 HR.out.2)
          generalize hxe : xs (j + 1) = xe at *
          go_wp2_with fail
          refine kn.mono ?_
          rintro r w3 ⟨n3, rfl, hl3, hb3⟩
          have HF : Hid (lk n3 (rowF xs (j + 1 + 1)) ∧ Below w.heap.size w w3) := ⟨by show lk n3 (fAdd (rowF xs (j + 1)) (xs (j + 1))); rw [hxe]; exact hl3, HR.out.2.trans (hb3.mono HR.out.2.size)⟩
          clear kn hl3 hb3 hcx HR
          go_wp2_with fail
          go_roundw
          case rel =>
            simp only [show ((m : Int) + 1 == 0) = false by rw [beq_eq_false_iff_ne]; omega]
            exact ⟨_, _, _, _, _, _, _, _, _, _, ⟨j + 1, n3, by omega, by simp, rfl, HF⟩, rfl⟩
          case measure => simp [intOf]; omega
        · obtain rfl : j = m := by omega
          go_wp2
          go_ret
          exact ⟨n, rfl, HR.out⟩
end Go.Proofs.YtdfkpjagnndfdaaGreatDoor
/- sums.Kept. -/
namespace Go.Proofs.YtdfkpjagnndfdaaGreatDoor
set_option linter.unusedVariables false
set_option linter.unusedSimpArgs false
open Go.RowKit Go.Fl64

/-- is the one float not less than the other? -/
def geF (a b : Nat) : Bool := (FloatKind.f64.format.order a b == some Ordering.gt) || (FloatKind.f64.format.order a b == some Ordering.eq)
/-- the sum in order, from nought on -/
def ktS (xs : Nat → Nat) : Nat → Nat
  | 0 => 0
  | k + 1 => fAdd (ktS xs k) (xs k)
/-- what was lost -/
def ktC (xs : Nat → Nat) : Nat → Nat
  | 0 => 0
  | k + 1 => if geF (mag (ktS xs k)) (mag (xs k)) then fAdd (ktC xs k) (fAdd (fAdd (ktS xs k) (ngt (ktS xs (k + 1)))) (xs k)) else fAdd (ktC xs k) (fAdd (fAdd (xs k) (ngt (ktS xs (k + 1)))) (ktS xs k))
theorem ktS_lt {xs : Nat → Nat} : ∀ {k len : Nat}, Fls xs len → k ≤ len → ktS xs k < 18446744073709551616
  | 0, _, _, _ => by show 0 < _; omega
  | k + 1, len, h, hk => fAdd_lt (ktS_lt (k := k) h (by omega)) (h k (by omega))
theorem ktC_lt {xs : Nat → Nat} : ∀ {k len : Nat}, Fls xs len → k ≤ len → ktC xs k < 18446744073709551616
  | 0, _, _, _ => by show 0 < _; omega
  | k + 1, len, h, hk => by
    have h1 := ktS_lt (k := k) h (by omega)
    have h2 := ktS_lt (k := k + 1) h (by omega)
    have h3 := ktC_lt (k := k) h (by omega)
    have h4 := h k (by omega)
    unfold ktC
    split
    · exact fAdd_lt h3 (fAdd_lt (fAdd_lt h1 (ngt_lt h2)) h4)
    · exact fAdd_lt h3 (fAdd_lt (fAdd_lt h4 (ngt_lt h2)) h1)
def ktF (xs : Nat → Nat) (k : Nat) : Nat := fAdd (ktS xs k) (ktC xs k)

theorem ngt_nan {b : Nat} (hb : b < 18446744073709551616) : isNaN (ngt b) = isNaN b := by unfold isNaN; rw [ngt_mag hb]
theorem lk_ngt {n X : Nat} (h : lk n X) (hX : X < 18446744073709551616) : lk (ngt n) (ngt X) := by
  rcases lk_or h with rfl | ⟨a1, a2⟩
  · exact lk.refl (ngt_lt hX)
  · exact lk.nan (ngt_lt h.1) (by rw [ngt_nan h.1]; exact a1) (by rw [ngt_nan hX]; exact a2)
theorem magLt {a : Nat} (ha : a < 18446744073709551616) : mag a < 18446744073709551616 := by unfold mag; omega
theorem magMag {a : Nat} : mag (mag a) = mag a := by unfold mag; omega
theorem geF_nan {a b : Nat} (ha : a < 18446744073709551616) (hb : b < 18446744073709551616) (h : isNaN a = true) : geF (mag a) (mag b) = false := by
  have h2 : isNaN (mag a) = true := by unfold isNaN at *; rw [magMag]; exact h
  unfold geF
  rw [ord_gt _ _ (magLt ha) (magLt hb), ord_eq _ _ (magLt ha) (magLt hb)]
  unfold Fl64.lt Fl64.eq
  rw [h2]
  simp
theorem geF_lk {n X b : Nat} (h : lk n X) (hX : X < 18446744073709551616) (hb : b < 18446744073709551616) : geF (mag n) (mag b) = geF (mag X) (mag b) := by
  rcases lk_or h with rfl | ⟨a1, a2⟩
  · rfl
  · rw [geF_nan h.1 hb a1, geF_nan hX hb a2]

set_option maxHeartbeats 4000000 in
set_option maxRecDepth 200000 in
theorem ukept (ao : Option Addr) (len cap : Nat) (xs : Nat → Nat) (w : World) (hT : Tab32 w) (hI : Ie.Tab w) (hl : FAt w ao len xs) (hx : Fls xs len) (hlen : len ≤ 35184372088832) :
    Calls Tryz.prog 26 #[.slice ao len cap] w fun r w' => OutF2 w (ktF xs len) r w' := by
  obtain ⟨b, off, hao, hc⟩ := hl
  have HX : Hid (Tab32 w ∧ Ie.Tab w ∧ Fls xs len) := ⟨hT, hI, hx⟩
  have HC : Hid (∀ j, j < len → w.cell? ⟨b, off + j, none⟩ = some (.float .f64 (xs j))) := hc
  have HA : Hid (0 < len → ao = some ⟨b, off, none⟩) := hao
  clear hT hI hx hc hao
  go_enter Tryz.func26, Tryz.ntmps26
  go_wp2
  go_loopw [3, 4, 10] (fun s c i wr => ∃ (j n d : Nat), j ≤ len ∧ i = .int .i64 (j : Int) ∧ s = .float .f64 n ∧ c = .float .f64 d ∧ Hid (lk n (ktS xs j) ∧ lk d (ktC xs j) ∧ Below w.heap.size w wr)) (fun _ _ i _ => len - (intOf i).toNat)
  case atStart => exact ⟨0, 0, 0, by omega, rfl, rfl, rfl, lk.refl (by omega), lk.refl (by omega), Below.refl _ _⟩
  case round =>
    obtain ⟨j, n, d, hj, rfl, rfl, rfl, HR⟩ := hrel
    by_cases hlt : j < len
    · obtain rfl := HA.out (by omega)
      have hcx : wr.cell? ⟨b, off + j, none⟩ = some (.float .f64 (xs j)) := FAt.cellAt (ao := none) HC.out (j := j) (by omega) HR.out.2.2
      have hxl := HX.out.2.2 j hlt
      have sl : ktS xs j < 18446744073709551616 := ktS_lt HX.out.2.2 (by omega)
      have cl : ktC xs j < 18446744073709551616 := ktC_lt HX.out.2.2 (by omega)
      have k1 := unear HR.out.1 (lk.refl hxl) sl hxl wr (HX.out.1.later HR.out.2.2) (Tab.later HX.out.2.1 HR.out.2.2)
      have e1 : fAdd (ktS xs j) (xs j) = ktS xs (j + 1) := rfl
      rw [e1] at k1
      go_wp2_with fail
      refine k1.mono ?_
      rintro r w1 ⟨n1, rfl, l1, hb1⟩
      have HB1 : Hid (lk n1 (ktS xs (j + 1)) ∧ Below w.heap.size w w1) := ⟨l1, HR.out.2.2.trans (hb1.mono HR.out.2.2.size)⟩
      have hn := HR.out.1.1
      have ka := c159 n hn
      have kb := c159 (xs j) hxl
      have tl : ktS xs (j + 1) < 18446744073709551616 := ktS_lt HX.out.2.2 (by omega)
      have hng : ∀ w, (Op.unary UnOp.neg (.float .f64 n1)).run Tryz.prog w = .ok (.float .f64 (ngt n1)) w := fun w => by rw [← negF n1 HB1.out.1.1]; rfl
      have hge : geF (mag (ktS xs j)) (mag (xs j)) = geF (mag n) (mag (xs j)) := (geF_lk HR.out.1 sl hxl).symm
      clear k1 l1 hb1
      cases hg : geF (mag n) (mag (xs j))
      · have hg' : (FloatKind.f64.format.order (mag n) (mag (xs j)) == some Ordering.gt || FloatKind.f64.format.order (mag n) (mag (xs j)) == some Ordering.eq) = false := hg
        go_wp2_with (first | (go_at_call 57; first | (with_reducible refine (ka _).mono ?_; rintro e w' ⟨rfl, hw⟩; rw [hw]; clear hw w') | (with_reducible refine (kb _).mono ?_; rintro e w' ⟨rfl, hw⟩; rw [hw]; clear hw w')))
        have k2 := unear (lk.refl hxl) (lk_ngt HB1.out.1 tl) hxl (ngt_lt tl) w1 (HX.out.1.later HB1.out.2) (Tab.later HX.out.2.1 HB1.out.2)
        refine k2.mono ?_
        rintro r w2 ⟨n2, rfl, l2, hb2⟩
        have HB2 : Hid (lk n2 (fAdd (xs j) (ngt (ktS xs (j + 1)))) ∧ Below w.heap.size w w2) := ⟨l2, HB1.out.2.trans (hb2.mono HB1.out.2.size)⟩
        clear k2 l2 hb2 ka kb
        have k3 := unear HB2.out.1 HR.out.1 (fAdd_lt hxl (ngt_lt tl)) sl w2 (HX.out.1.later HB2.out.2) (Tab.later HX.out.2.1 HB2.out.2)
        go_wp2_with fail
        refine k3.mono ?_
        rintro r w3 ⟨n3, rfl, l3, hb3⟩
        have HB3 : Hid (lk n3 (fAdd (fAdd (xs j) (ngt (ktS xs (j + 1)))) (ktS xs j)) ∧ Below w.heap.size w w3) := ⟨l3, HB2.out.2.trans (hb3.mono HB2.out.2.size)⟩
        clear k3 l3 hb3
        have k4 := unear HR.out.2.1 HB3.out.1 cl (fAdd_lt (fAdd_lt hxl (ngt_lt tl)) sl) w3 (HX.out.1.later HB3.out.2) (Tab.later HX.out.2.1 HB3.out.2)
        go_wp2_with fail
        refine k4.mono ?_
        rintro r w4 ⟨n4, rfl, l4, hb4⟩
        have HF : Hid (lk n1 (ktS xs (j + 1)) ∧ lk n4 (ktC xs (j + 1)) ∧ Below w.heap.size w w4) := ⟨HB1.out.1, by
          have e : ktC xs (j + 1) = fAdd (ktC xs j) (fAdd (fAdd (xs j) (ngt (ktS xs (j + 1)))) (ktS xs j)) := by
            show (if geF (mag (ktS xs j)) (mag (xs j)) then _ else _) = _
            rw [hge, hg]
            rfl
          rw [e]; exact l4, HB3.out.2.trans (hb4.mono HB3.out.2.size)⟩
        clear k4 l4 hb4 HB1 HB2 HB3 HR hcx
        go_wp2_with fail
        go_roundw
        case rel => exact ⟨j + 1, n1, n4, by omega, by simp, rfl, rfl, HF⟩
        case measure => simp [intOf]; omega
      · have hg' : (FloatKind.f64.format.order (mag n) (mag (xs j)) == some Ordering.gt || FloatKind.f64.format.order (mag n) (mag (xs j)) == some Ordering.eq) = true := hg
        go_wp2_with (first | (go_at_call 57; first | (with_reducible refine (ka _).mono ?_; rintro e w' ⟨rfl, hw⟩; rw [hw]; clear hw w') | (with_reducible refine (kb _).mono ?_; rintro e w' ⟨rfl, hw⟩; rw [hw]; clear hw w')))
        have k2 := unear HR.out.1 (lk_ngt HB1.out.1 tl) sl (ngt_lt tl) w1 (HX.out.1.later HB1.out.2) (Tab.later HX.out.2.1 HB1.out.2)
        refine k2.mono ?_
        rintro r w2 ⟨n2, rfl, l2, hb2⟩
        have HB2 : Hid (lk n2 (fAdd (ktS xs j) (ngt (ktS xs (j + 1)))) ∧ Below w.heap.size w w2) := ⟨l2, HB1.out.2.trans (hb2.mono HB1.out.2.size)⟩
        clear k2 l2 hb2 ka kb
        have k3 := unear HB2.out.1 (lk.refl hxl) (fAdd_lt sl (ngt_lt tl)) hxl w2 (HX.out.1.later HB2.out.2) (Tab.later HX.out.2.1 HB2.out.2)
        go_wp2_with fail
        refine k3.mono ?_
        rintro r w3 ⟨n3, rfl, l3, hb3⟩
        have HB3 : Hid (lk n3 (fAdd (fAdd (ktS xs j) (ngt (ktS xs (j + 1)))) (xs j)) ∧ Below w.heap.size w w3) := ⟨l3, HB2.out.2.trans (hb3.mono HB2.out.2.size)⟩
        clear k3 l3 hb3
        have k4 := unear HR.out.2.1 HB3.out.1 cl (fAdd_lt (fAdd_lt sl (ngt_lt tl)) hxl) w3 (HX.out.1.later HB3.out.2) (Tab.later HX.out.2.1 HB3.out.2)
        go_wp2_with fail
        refine k4.mono ?_
        rintro r w4 ⟨n4, rfl, l4, hb4⟩
        have HF : Hid (lk n1 (ktS xs (j + 1)) ∧ lk n4 (ktC xs (j + 1)) ∧ Below w.heap.size w w4) := ⟨HB1.out.1, by
          have e : ktC xs (j + 1) = fAdd (ktC xs j) (fAdd (fAdd (ktS xs j) (ngt (ktS xs (j + 1)))) (xs j)) := by
            show (if geF (mag (ktS xs j)) (mag (xs j)) then _ else _) = _
            rw [hge, hg]
            rfl
          rw [e]; exact l4, HB3.out.2.trans (hb4.mono HB3.out.2.size)⟩
        clear k4 l4 hb4 HB1 HB2 HB3 HR hcx
        go_wp2_with fail
        go_roundw
        case rel => exact ⟨j + 1, n1, n4, by omega, by simp, rfl, rfl, HF⟩
        case measure => simp [intOf]; omega
    · obtain rfl : j = len := by omega
      have k1 := unear HR.out.1 HR.out.2.1 (ktS_lt HX.out.2.2 (by omega)) (ktC_lt HX.out.2.2 (by omega)) wr (HX.out.1.later HR.out.2.2) (Tab.later HX.out.2.1 HR.out.2.2)
      go_wp2_with fail
      refine k1.mono ?_
      rintro r w1 ⟨n1, rfl, l1, hb1⟩
      have HB1 : Hid (lk n1 (ktF xs j) ∧ Below w.heap.size w w1) := ⟨l1, HR.out.2.2.trans (hb1.mono HR.out.2.2.size)⟩
      clear k1 l1 hb1
      go_wp2_with fail
      go_ret
      exact ⟨n1, rfl, HB1.out⟩
end Go.Proofs.YtdfkpjagnndfdaaGreatDoor
/- sums.Halves. -/
namespace Go.Proofs.YtdfkpjagnndfdaaGreatDoor
set_option linter.unusedVariables false
set_option linter.unusedSimpArgs false
open Go.RowKit Go.Fl64

/-- the sum by halves -/
def halF : Nat → (Nat → Nat) → Nat → Nat
  | 0, _, _ => 0
  | f + 1, xs, len => if len = 0 then 0 else if len = 1 then xs 0 else fAdd (halF f xs (len / 2)) (halF f (fun i => xs (len / 2 + i)) (len - len / 2))
theorem halF_lt : ∀ {f : Nat} {xs : Nat → Nat} {len : Nat}, Fls xs len → halF f xs len < 18446744073709551616
  | 0, _, _, _ => by show 0 < _; omega
  | f + 1, xs, len, h => by
    unfold halF
    split
    · omega
    · split
      · exact h 0 (by omega)
      · exact fAdd_lt (halF_lt (fun i hi => h i (by omega))) (halF_lt (fun i hi => h (len / 2 + i) (by omega)))

set_option maxHeartbeats 4000000 in
set_option maxRecDepth 200000 in
theorem uhalves_g (b off len cap half : Nat) (H1 H2 x0 : Nat) (w : World) (hh1 : 0 < half) (hh2 : half < len) (hlen : len ≤ cap) (hcap : cap ≤ 9223372036854775807) (hq : half = len / 2)
    (hH1 : H1 < 18446744073709551616) (hH2 : H2 < 18446744073709551616) (hT : Tab32 w) (hI : Ie.Tab w)
    (k1 : ∀ W, Below w.heap.size w W → Calls Tryz.prog 27 #[.slice (some ⟨b, off, none⟩) half cap] W fun r w' => OutF2 W H1 r w')
    (k2 : ∀ W, Below w.heap.size w W → Calls Tryz.prog 27 #[.slice (some ⟨b, off + half, none⟩) (len - half) (cap - half)] W fun r w' => OutF2 W H2 r w') :
    Calls Tryz.prog 27 #[.slice (some ⟨b, off, none⟩) len cap] w fun r w' => OutF2 w (fAdd H1 H2) r w' := by
  have e0 : ((len : Int) == 0) = false := by rw [beq_eq_false_iff_ne]; omega
  have e1 : ((len : Int) == 1) = false := by rw [beq_eq_false_iff_ne]; omega
  have hdv : Int.tdiv (len : Int) 2 = (half : Int) := by rw [hq]; simp [Int.tdiv]
  have hcn : ¬ cap = half := by omega
  have i1 : (0 : Int) ≤ (half : Int) := by omega
  have i2 : (half : Int) ≤ (len : Int) := by omega
  have i3 : (half : Int) ≤ (cap : Int) := by omega
  have i4 : (len : Int) ≤ (cap : Int) := by omega
  have i5 : ¬ cap ≤ half := by omega
  have i6 : ¬ cap - half = 0 := by omega
  have HX : Hid (Tab32 w ∧ Ie.Tab w ∧ H1 < 18446744073709551616 ∧ H2 < 18446744073709551616) := ⟨hT, hI, hH1, hH2⟩
  have q1 : ∀ W, Below w.heap.size w W → Calls Tryz.prog 27 #[.slice (some ⟨b, off, none⟩) half cap] W fun r w' => ∃ n, r = .returned (.float .f64 n) ∧ lk n H1 ∧ Below w.heap.size w w' := fun W hb => (k1 W hb).mono fun r w' ⟨n, e1, e2, e3⟩ => ⟨n, e1, e2, hb.trans (e3.mono hb.size)⟩
  have q2 : ∀ W, Below w.heap.size w W → Calls Tryz.prog 27 #[.slice (some ⟨b, off + half, none⟩) (len - half) (cap - half)] W fun r w' => ∃ n, r = .returned (.float .f64 n) ∧ lk n H2 ∧ Below w.heap.size w w' := fun W hb => (k2 W hb).mono fun r w' ⟨n, e1, e2, e3⟩ => ⟨n, e1, e2, hb.trans (e3.mono hb.size)⟩
  have hBR : Below w.heap.size w w.drew := (Below.refl _ _).drew
  clear k1 k2 hT hI hH1 hH2 hq
  go_enter Tryz.func27, Tryz.ntmps27
  go_upto_region 7 with fail
  go_region_held3 (fun w' => Below w.heap.size w w') (first | (with_reducible assumption) | exact hBR | go_keep)
    (first | (go_at_call 27; first | (have hq := hl4; clear hq; with_reducible refine (q2 _ hb4).mono ?_; rintro r w5 ⟨n5, rfl, hl5, hb5⟩) | (with_reducible refine (q1 _ hBR).mono ?_; rintro r w4 ⟨n4, rfl, hl4, hb4⟩))
           | (go_at_call 56; refine (unear hl4 hl5 HX.out.2.2.1 HX.out.2.2.2 _ (HX.out.1.later hb5) (Tab.later HX.out.2.1 hb5)).mono ?_; rintro r w6 ⟨n6, rfl, hl6, hb6⟩; replace hb6 := hb5.trans (hb6.mono hb5.size)))
  all_goals
    have HF : Hid (lk n6 (fAdd H1 H2) ∧ Below w.heap.size w w6) := ⟨hl6, hb6⟩
    clear hl4 hb4 hl5 hb5 hl6 hb6 q1 q2 hBR
    go_wp2_with fail
    go_ret
    exact ⟨n6, rfl, HF.out⟩

theorem uhalves_0 (ao : Option Addr) (cap : Nat) (w : World) : Calls Tryz.prog 27 #[.slice ao 0 cap] w fun r w' => r = .returned (.float .f64 0) ∧ w' = w := by
  go_enter Tryz.func27, Tryz.ntmps27
  go_wp2
  go_ret
  exact ⟨rfl, rfl⟩
theorem uhalves_1 (b off cap x : Nat) (w : World) (hc : w.cell? ⟨b, off, none⟩ = some (.float .f64 x)) : Calls Tryz.prog 27 #[.slice (some ⟨b, off, none⟩) 1 cap] w fun r w' => r = .returned (.float .f64 x) ∧ w' = w := by
  go_enter Tryz.func27, Tryz.ntmps27
  go_wp2
  go_ret
  exact ⟨rfl, rfl⟩
theorem uhalves : ∀ (f : Nat) (ao : Option Addr) (len cap : Nat) (xs : Nat → Nat) (w : World), len ≤ f → Tab32 w → Ie.Tab w → FAt w ao len xs → Fls xs len → len ≤ cap → cap ≤ 9223372036854775807 →
    Calls Tryz.prog 27 #[.slice ao len cap] w fun r w' => OutF2 w (halF f xs len) r w' := by
  intro f
  induction f with
  | zero =>
    intro ao len cap xs w hf hT hI hl hx hlen hcap
    obtain rfl : len = 0 := by omega
    refine (uhalves_0 ao cap w).mono ?_
    rintro r w' ⟨rfl, rfl⟩
    exact ⟨0, rfl, lk.refl (by omega), Below.refl _ _⟩
  | succ f ih =>
    intro ao len cap xs w hf hT hI hl hx hlen hcap
    unfold halF
    by_cases h0 : len = 0
    · subst h0
      rw [if_pos rfl]
      refine (uhalves_0 ao cap w).mono ?_
      rintro r w' ⟨rfl, rfl⟩
      exact ⟨0, rfl, lk.refl (by omega), Below.refl _ _⟩
    · rw [if_neg h0]
      obtain ⟨b, off, hao, hc⟩ := hl
      obtain rfl := hao (by omega)
      by_cases h1 : len = 1
      · subst h1
        rw [if_pos rfl]
        refine (uhalves_1 b off cap (xs 0) w (hc 0 (by omega))).mono ?_
        rintro r w' ⟨rfl, rfl⟩
        exact ⟨xs 0, rfl, lk.refl (hx 0 (by omega)), Below.refl _ _⟩
      · rw [if_neg h1]
        have hx1 : Fls xs (len / 2) := fun i hi => hx i (by omega)
        have hx2 : Fls (fun i => xs (len / 2 + i)) (len - len / 2) := fun i hi => hx (len / 2 + i) (by omega)
        refine uhalves_g b off len cap (len / 2) _ _ 0 w (by omega) (by omega) hlen hcap rfl (halF_lt hx1) (halF_lt hx2) hT hI (fun W hb => ?_) (fun W hb => ?_)
        · exact ih _ (len / 2) cap xs W (by omega) (hT.later hb) (Tab.later hI hb) ⟨b, off, fun _ => rfl, fun j hj => FAt.cellAt (ao := none) hc (by omega) hb⟩ hx1 (by omega) hcap
        · exact ih _ (len - len / 2) (cap - len / 2) _ W (by omega) (hT.later hb) (Tab.later hI hb) ⟨b, off + len / 2, fun _ => rfl, fun j hj => by
            have := FAt.cellAt (ao := none) hc (j := len / 2 + j) (by omega) hb
            rwa [show off + (len / 2 + j) = off + len / 2 + j by omega] at this⟩ hx2 (by omega) (by omega)
end Go.Proofs.YtdfkpjagnndfdaaGreatDoor
/- sums.anyNaN, sums.allFinite, sums.allMinusNought. -/
namespace Go.Proofs.YtdfkpjagnndfdaaGreatDoor
set_option linter.unusedVariables false
set_option linter.unusedSimpArgs false
open Go.RowKit Go.Fl64

def anyP (p : Nat → Bool) : Nat → Bool
  | 0 => false
  | k + 1 => anyP p k || p k
theorem anyP_mono {p : Nat → Bool} {k : Nat} (h : anyP p k = true) : ∀ {n : Nat}, k ≤ n → anyP p n = true
  | 0, hn => by obtain rfl : k = 0 := by omega
                exact h
  | n + 1, hn => by
    by_cases e : k = n + 1
    · rw [← e]; exact h
    · show (anyP p n || p n) = true
      rw [anyP_mono h (by omega)]; rfl
theorem anyP_succ {p : Nat → Bool} {k : Nat} (h : anyP p k = false) (h2 : p k = false) : anyP p (k + 1) = false := by
  show (anyP p k || p k) = false
  rw [h, h2]; rfl
theorem anyP_hit {p : Nat → Bool} {k n : Nat} (h2 : p k = true) (hn : k < n) : anyP p n = true :=
  anyP_mono (k := k + 1) (by show (anyP p k || p k) = true; rw [h2]; simp) hn
theorem anyP_none {p : Nat → Bool} : ∀ {n : Nat}, anyP p n = false → ∀ i, i < n → p i = false
  | 0, _, i, hi => by omega
  | n + 1, h, i, hi => by
    have h' : (anyP p n || p n) = false := h
    simp only [Bool.or_eq_false_iff] at h'
    by_cases e : i = n
    · rw [e]; exact h'.2
    · exact anyP_none h'.1 i (by omega)
/-- is it anything but -0? -/
def mnP (x : Nat) : Bool := !(decide (mag x = 0) && neg x)
theorem unought {a : Nat} (ha : a < 18446744073709551616) : (FloatKind.f64.format.order a 0 != some Ordering.eq) = !decide (mag a = 0) := by
  have h : (FloatKind.f64.format.order a 0 == some Ordering.eq) = decide (mag a = 0) := by
    rw [ord_eq a 0 ha (by decide)]
    have nb : isNaN 0 = false := by decide
    unfold Fl64.eq
    rw [nb]
    have e0 : stp 0 = 0 := by decide
    rw [e0]
    by_cases h : mag a = 0
    · have : stp a = 0 := by unfold stp sgn; rw [h]; simp
      have na : isNaN a = false := by unfold isNaN; simp; omega
      simp [this, h, na]
    · have : stp a ≠ 0 := by unfold stp sgn; split <;> omega
      simp [this, h]
  rw [← h]; rfl

set_option maxHeartbeats 4000000 in
set_option maxRecDepth 200000 in
theorem uany (ao : Option Addr) (len cap : Nat) (xs : Nat → Nat) (w : World) (hl : FAt w ao len xs) (hx : Fls xs len) (hlen : len ≤ 35184372088832) :
    Calls Tryz.prog 43 #[.slice ao len cap] w fun r w' => r = .returned (.bool (anyP (fun i => isNaN (xs i)) len)) ∧ Below w.heap.size w w' := by
  obtain ⟨b, off, hao, hc⟩ := hl
  have HX : Hid (Fls xs len) := hx
  have HC : Hid (∀ j, j < len → w.cell? ⟨b, off + j, none⟩ = some (.float .f64 (xs j))) := hc
  have HA : Hid (0 < len → ao = some ⟨b, off, none⟩) := hao
  clear hx hc hao
  go_enter Tryz.func43, Tryz.ntmps43
  go_wp2
  go_loopw [7] (fun i wr => ∃ j : Nat, j ≤ len ∧ i = .int .i64 (j : Int) ∧ wr = w ∧ Hid (anyP (fun i => isNaN (xs i)) j = false)) (fun i _ => len - (intOf i).toNat)
  case atStart => exact ⟨0, by omega, rfl, rfl, rfl⟩
  case round =>
    obtain ⟨j, hj, rfl, hwr, HR⟩ := hrel
    subst hwr
    by_cases hlt : j < len
    · obtain rfl := HA.out (by omega)
      have hcx : wr.cell? ⟨b, off + j, none⟩ = some (.float .f64 (xs j)) := HC.out j hlt
      have hxl := HX.out j hlt
      have hs := self_ne (xs j) hxl
      cases hp : isNaN (xs j)
      · rw [hp] at hs
        go_wp2
        go_roundw
        case rel => exact ⟨j + 1, by omega, by simp, by trivial, anyP_succ HR.out hp⟩
        case measure => simp [intOf]; omega
      · rw [hp] at hs
        go_wp2
        go_ret
        rw [anyP_hit (p := fun i => isNaN (xs i)) hp hlt]
        exact ⟨rfl, Below.refl _ _⟩
    · obtain rfl : j = len := by omega
      go_wp2
      go_ret
      rw [HR.out]
      exact ⟨rfl, Below.refl _ _⟩

set_option maxHeartbeats 4000000 in
set_option maxRecDepth 200000 in
theorem uallfin (ao : Option Addr) (len cap : Nat) (xs : Nat → Nat) (w : World) (hl : FAt w ao len xs) (hx : Fls xs len) (hlen : len ≤ 35184372088832) :
    Calls Tryz.prog 44 #[.slice ao len cap] w fun r w' => r = .returned (.bool (!anyP (fun i => !fin (xs i)) len)) ∧ Below w.heap.size w w' := by
  obtain ⟨b, off, hao, hc⟩ := hl
  have HX : Hid (Fls xs len) := hx
  have HC : Hid (∀ j, j < len → w.cell? ⟨b, off + j, none⟩ = some (.float .f64 (xs j))) := hc
  have HA : Hid (0 < len → ao = some ⟨b, off, none⟩) := hao
  clear hx hc hao
  go_enter Tryz.func44, Tryz.ntmps44
  go_wp2
  go_loopw [7] (fun i wr => ∃ j : Nat, j ≤ len ∧ i = .int .i64 (j : Int) ∧ wr = w ∧ Hid (anyP (fun i => !fin (xs i)) j = false)) (fun i _ => len - (intOf i).toNat)
  case atStart => exact ⟨0, by omega, rfl, rfl, rfl⟩
  case round =>
    obtain ⟨j, hj, rfl, hwr, HR⟩ := hrel
    subst hwr
    by_cases hlt : j < len
    · obtain rfl := HA.out (by omega)
      have hcx : wr.cell? ⟨b, off + j, none⟩ = some (.float .f64 (xs j)) := HC.out j hlt
      have hxl := HX.out j hlt
      cases hp : !fin (xs j)
      · have hp' : mag (xs j) < 9218868437227405312 := Nat.lt_of_not_le fun h => by
          have := (fin_false (a := xs j)).2 (by omega)
          rw [this] at hp
          cases hp
        have kf := ufin_y (xs j) hxl hp' wr
        go_wp2_with fail
        refine kf.mono ?_
        rintro r w' ⟨rfl, hw⟩
        rw [hw]
        clear hw kf w'
        go_wp2
        go_roundw
        case rel => exact ⟨j + 1, by omega, by simp, by trivial, anyP_succ HR.out hp⟩
        case measure => simp [intOf]; omega
      · have hp' : ¬ mag (xs j) < 9218868437227405312 := fin_false.1 (by simpa using hp)
        have kf := ufin_n (xs j) hxl hp' wr
        go_wp2_with fail
        refine kf.mono ?_
        rintro r w' ⟨rfl, hw⟩
        rw [hw]
        clear hw kf w'
        go_wp2
        go_ret
        rw [anyP_hit (p := fun i => !fin (xs i)) hp hlt]
        exact ⟨rfl, (Below.refl _ _).drew⟩
    · obtain rfl : j = len := by omega
      go_wp2
      go_ret
      rw [HR.out]
      exact ⟨rfl, Below.refl _ _⟩

set_option maxHeartbeats 4000000 in
set_option maxRecDepth 200000 in
theorem uallmn (ao : Option Addr) (len cap : Nat) (xs : Nat → Nat) (w : World) (hl : FAt w ao len xs) (hx : Fls xs len) (hlen : len ≤ 35184372088832) :
    Calls Tryz.prog 16 #[.slice ao len cap] w fun r w' => r = .returned (.bool (!anyP (fun i => mnP (xs i)) len)) ∧ Below w.heap.size w w' := by
  obtain ⟨b, off, hao, hc⟩ := hl
  have HX : Hid (Fls xs len) := hx
  have HC : Hid (∀ j, j < len → w.cell? ⟨b, off + j, none⟩ = some (.float .f64 (xs j))) := hc
  have HA : Hid (0 < len → ao = some ⟨b, off, none⟩) := hao
  clear hx hc hao
  go_enter Tryz.func16, Tryz.ntmps16
  go_wp2
  go_loopw [7] (fun i wr => ∃ j : Nat, j ≤ len ∧ i = .int .i64 (j : Int) ∧ wr = w ∧ Hid (anyP (fun i => mnP (xs i)) j = false)) (fun i _ => len - (intOf i).toNat)
  case atStart => exact ⟨0, by omega, rfl, rfl, rfl⟩
  case round =>
    obtain ⟨j, hj, rfl, hwr, HR⟩ := hrel
    subst hwr
    by_cases hlt : j < len
    · obtain rfl := HA.out (by omega)
      have hcx : wr.cell? ⟨b, off + j, none⟩ = some (.float .f64 (xs j)) := HC.out j hlt
      have hxl := HX.out j hlt
      have hs := unought hxl
      have ks := Ie.c33 (xs j) hxl
      cases hz : decide (mag (xs j) = 0)
      · rw [hz] at hs
        go_wp2
        go_ret
        rw [anyP_hit (p := fun i => mnP (xs i)) (by show mnP (xs j) = true; unfold mnP; rw [hz]; rfl) hlt]
        exact ⟨rfl, Below.refl _ _⟩
      · rw [hz] at hs
        cases hn : neg (xs j)
        · rw [hn] at ks
          go_wp2_with (go_at_call 45; refine (ks _).mono ?_; rintro r w' ⟨rfl, hw⟩; rw [hw]; clear hw w')
          go_ret
          rw [anyP_hit (p := fun i => mnP (xs i)) (by show mnP (xs j) = true; unfold mnP; rw [hz, hn]; rfl) hlt]
          exact ⟨rfl, Below.refl _ _⟩
        · rw [hn] at ks
          have hp : (fun i => mnP (xs i)) j = false := by show mnP (xs j) = false; unfold mnP; rw [hz, hn]; rfl
          go_wp2_with (go_at_call 45; refine (ks _).mono ?_; rintro r w' ⟨rfl, hw⟩; rw [hw]; clear hw w')
          go_roundw
          case rel => exact ⟨j + 1, by omega, by simp, by trivial, anyP_succ HR.out hp⟩
          case measure => simp [intOf]; omega

    · obtain rfl : j = len := by omega
      go_wp2
      go_ret
      rw [HR.out]
      exact ⟨rfl, Below.refl _ _⟩
end Go.Proofs.YtdfkpjagnndfdaaGreatDoor
/- sums.checked of one list. -/
namespace Go.Proofs.YtdfkpjagnndfdaaGreatDoor
set_option linter.unusedVariables false
set_option linter.unusedSimpArgs false
open Go.RowKit Go.Fl64

/-- what is wrong with a list -/
def chk1 (xs : Nat → Nat) (len : Nat) : Int := if 65536 < len then 2 else if anyP (fun i => isNaN (xs i)) len then 4 else if anyP (fun i => !fin (xs i)) len then 5 else 0

theorem uchecked_no (m : Int) (l : Value) (w : World) (hm : isM m = false) : Calls Tryz.prog 15 #[.int .i64 m, l] w fun r w' => r = .returned (.int .i64 1) ∧ w' = w := by
  have kv := pvalid m w
  rw [hm] at kv
  go_enter Tryz.func15, Tryz.ntmps15
  go_wp2_with fail
  refine kv.mono ?_
  rintro r w' ⟨rfl, hw⟩
  rw [hw]
  clear hw kv w'
  go_wp2
  go_ret
  exact ⟨rfl, rfl⟩

set_option maxHeartbeats 4000000 in
set_option maxRecDepth 200000 in
theorem uchecked1 (m : Int) (g : Nat) (ao : Option Addr) (len cap : Nat) (xs : Nat → Nat) (w : World) (hm : isM m = true) (hg : w.cell? ⟨g, 0, none⟩ = some (.slice ao len cap)) (hl : FAt w ao len xs) (hx : Fls xs len) (hlen : len ≤ 35184372088832) :
    Calls Tryz.prog 15 #[.int .i64 m, .slice (some ⟨g, 0, none⟩) 1 1] w fun r w' => r = .returned (.int .i64 (chk1 xs len)) ∧ Below w.heap.size w w' := by
  have kv := pvalid m w
  rw [hm] at kv
  have ka := uany ao len cap xs w hl hx hlen
  have HF : Hid (∀ W, Below w.heap.size w W → Calls Tryz.prog 44 #[.slice ao len cap] W fun r w' => r = .returned (.bool (!anyP (fun i => !fin (xs i)) len)) ∧ Below W.heap.size W w') := fun W hb => uallfin ao len cap xs W (hl.later hb) hx hlen
  clear hl hx hm
  go_enter Tryz.func15, Tryz.ntmps15
  go_wp2_with fail
  refine kv.mono ?_
  rintro r w' ⟨rfl, hw⟩
  rw [hw]
  clear hw kv w'
  go_wp2_with fail
  go_loopw [6, 16] (fun e i wr => ∃ (j : Nat), j ≤ 1 ∧ i = .int .i64 (j : Int) ∧ ((j = 0 ∧ e = .int .i64 0 ∧ wr = w) ∨ (j = 1 ∧ e = .int .i64 (chk1 xs len) ∧ Hid (Below w.heap.size w wr)))) (fun _ i _ => 1 - (intOf i).toNat)
  case atStart => exact ⟨0, by omega, rfl, .inl ⟨rfl, rfl, rfl⟩⟩
  case round =>
    obtain ⟨j, hj, rfl, ⟨rfl, rfl, hwr⟩ | ⟨rfl, rfl, HB⟩⟩ := hrel
    · subst hwr
      by_cases h1 : 65536 < len
      · have hi : (65536 : Int) < (len : Int) := by omega
        have hd : decide ((65536 : Int) < (len : Int)) = true := decide_eq_true hi
        have hc : chk1 xs len = 2 := if_pos h1
        clear ka HF
        go_wp2_with fail
        go_ret
        rw [hc]
        exact ⟨rfl, Below.refl _ _⟩
      · have hi : ¬ (65536 : Int) < (len : Int) := by omega
        have hd : decide ((65536 : Int) < (len : Int)) = false := decide_eq_false hi
        cases h2 : anyP (fun i => isNaN (xs i)) len
        · rw [h2] at ka
          go_wp2_with fail
          refine ka.mono ?_
          rintro r w2 ⟨rfl, hb2⟩
          have kf := HF.out w2 hb2
          have HB2 : Hid (Below wr.heap.size wr w2) := hb2
          clear ka hb2 HF
          cases h3 : anyP (fun i => !fin (xs i)) len
          · rw [h3] at kf
            have hc : chk1 xs len = 0 := by unfold chk1; rw [if_neg h1, h2, h3]; rfl
            go_wp2_with fail
            refine kf.mono ?_
            rintro r w3 ⟨rfl, hb3⟩
            have HB3 : Hid (Below wr.heap.size wr w3) := HB2.out.trans (hb3.mono HB2.out.size)
            clear kf hb3 HB2 h2 h3
            go_wp2_with fail
            go_roundw
            case rel => exact ⟨1, by omega, by simp, .inr ⟨rfl, by rw [hc], HB3⟩⟩
            case measure => simp [intOf]
          · rw [h3] at kf
            have hc : chk1 xs len = 5 := by unfold chk1; rw [if_neg h1, h2, h3]; rfl
            go_wp2_with fail
            refine kf.mono ?_
            rintro r w3 ⟨rfl, hb3⟩
            have HB3 : Hid (Below wr.heap.size wr w3) := HB2.out.trans (hb3.mono HB2.out.size)
            clear kf hb3 HB2 h2 h3
            go_wp2_with fail
            go_roundw
            case rel => exact ⟨1, by omega, by simp, .inr ⟨rfl, by rw [hc], HB3⟩⟩
            case measure => simp [intOf]
        · rw [h2] at ka
          have hc : chk1 xs len = 4 := by unfold chk1; rw [if_neg h1, h2]; rfl
          go_wp2_with fail
          refine ka.mono ?_
          rintro r w2 ⟨rfl, hb2⟩
          have HB2 : Hid (Below wr.heap.size wr w2) := hb2
          clear ka hb2 HF h2
          go_wp2_with fail
          go_roundw
          case rel => exact ⟨1, by omega, by simp, .inr ⟨rfl, by rw [hc], HB2⟩⟩
          case measure => simp [intOf]
    · clear ka HF
      go_wp2_with fail
      go_ret
      exact ⟨rfl, HB.out⟩
end Go.Proofs.YtdfkpjagnndfdaaGreatDoor
/- The program's Div of floats where something is to be rounded. -/
namespace Go.Proofs.YtdfkpjagnndfdaaGreatDoor
set_option linter.unusedVariables false
set_option linter.unusedSimpArgs false
open Go.RowKit Go.Fl64

end Go.Proofs.YtdfkpjagnndfdaaGreatDoor
/- The program's Hypot of finite floats. -/
namespace Go.Proofs.YtdfkpjagnndfdaaGreatDoor
set_option linter.unusedVariables false
set_option linter.unusedSimpArgs false
open Go.RowKit Go.Fl64

end Go.Proofs.YtdfkpjagnndfdaaGreatDoor
/- Hypot of 3 and 4, and a float made whole: what the law's own test asks. -/
namespace Go.Proofs.YtdfkpjagnndfdaaGreatDoor
set_option linter.unusedVariables false
set_option linter.unusedSimpArgs false
open Go.RowKit Go.Fl64

end Go.Proofs.YtdfkpjagnndfdaaGreatDoor
/- A float made whole, with a sign: what the law's own test asks. -/
namespace Go.Proofs.YtdfkpjagnndfdaaGreatDoor
set_option linter.unusedVariables false
set_option linter.unusedSimpArgs false
open Go.RowKit Go.Fl64

end Go.Proofs.YtdfkpjagnndfdaaGreatDoor
/- The program's leastRest: the least that is left. -/
namespace Go.Proofs.YtdfkpjagnndfdaaGreatDoor
set_option linter.unusedVariables false
set_option linter.unusedSimpArgs false
open Go.RowKit Go.Fl64

/-- a number in its box, made since a world -/
def BxP (w3 wc : World) (g : Nat) (s : Bool) (ao : Option Addr) (n cap : Nat) (ex : Int) (t : Bool × Nat × Int) : Prop := wc.heap[g]? = some (.cells #[.bool s, .slice ao n cap, .int .i64 ex] 43 (0, 0)) ∧ w3.heap.size ≤ g ∧ Below w3.heap.size w3 wc ∧ PN wc (.agg #[.bool s, .slice ao n cap, .int .i64 ex]) t
theorem BxP.new {w3 w7 : World} {s : Bool} {ao : Option Addr} {n cap : Nat} {ex : Int} {t : Bool × Nat × Int} (hn : PN w7 (.agg #[.bool s, .slice ao n cap, .int .i64 ex]) t) (hb : Below w3.heap.size w3 w7) : BxP w3 (w7.alloc (.cells #[.bool s, .slice ao n cap, .int .i64 ex] 43)) w7.heap.size s ao n cap ex t :=
  ⟨heap_alloc_new _ _, hb.size, hb.alloc hb.size _, hn.later ((Below.refl _ _).alloc (Nat.le_refl _) _)⟩
theorem BxP.put {w3 w7 : World} {g : Nat} {s : Bool} {ao : Option Addr} {n cap : Nat} {ex : Int} {t : Bool × Nat × Int} (hn : PN w7 (.agg #[.bool s, .slice ao n cap, .int .i64 ex]) t) (hb : Below w3.heap.size w3 w7) (hg : w3.heap.size ≤ g) (hbx : w7.heap[g]? = some (.cells #[.bool false, .slice none 0 0, .int .i64 0] 43 (0, 0))) :
    BxP w3 (((w7.setCell ⟨g, 0, none⟩ (.bool s)).setCell ⟨g, 1, none⟩ (.slice ao n cap)).setCell ⟨g, 2, none⟩ (.int .i64 ex)) g s ao n cap ex t :=
  ⟨store3 _ _ _ hbx, hg, below_store3 hb hg _ _ _, pn_store hn hbx _ _ _⟩

end Go.Proofs.YtdfkpjagnndfdaaGreatDoor
/- The program's leastRest: its other ways out. -/
namespace Go.Proofs.YtdfkpjagnndfdaaGreatDoor
set_option linter.unusedVariables false
set_option linter.unusedSimpArgs false
open Go.RowKit Go.Fl64

end Go.Proofs.YtdfkpjagnndfdaaGreatDoor
/- The law's own test of layer 3: it answers true. -/
namespace Go.Proofs.YtdfkpjagnndfdaaGreatDoor
set_option linter.unusedVariables false
set_option linter.unusedSimpArgs false
open Go.RowKit Go.Fl64

end Go.Proofs.YtdfkpjagnndfdaaGreatDoor
/- The program's odd: whether a whole number is odd. -/
namespace Go.Proofs.YtdfkpjagnndfdaaGreatDoor
set_option linter.unusedVariables false
set_option linter.unusedSimpArgs false
open Go.RowKit Go.Fl64

end Go.Proofs.YtdfkpjagnndfdaaGreatDoor
/- What is left of a division to the nearest: in numbers. -/
namespace Go.Proofs.YtdfkpjagnndfdaaGreatDoor
set_option linter.unusedVariables false
set_option linter.unusedSimpArgs false
open Go.RowKit Go.Fl64

end Go.Proofs.YtdfkpjagnndfdaaGreatDoor
/- The program's leastRest: what it answers, in numbers. -/
namespace Go.Proofs.YtdfkpjagnndfdaaGreatDoor
set_option linter.unusedVariables false
set_option linter.unusedSimpArgs false
open Go.RowKit Go.Fl64

theorem vz_cnF {K : Nat} {lo hi : Int} {s : Bool} {z : Nat} {e : Int} (h : Fits lo hi z e) (hK : 0 ≤ lo + K) : vz K (cn s z e).1 (cn s z e).2.1 (cn s z e).2.2 = vz K s z e := by
  rcases h with h | ⟨h, -, -⟩
  · subst h; rw [show cn s 0 e = (false, 0, 0) from if_pos rfl, vz_zero, vz_zero]
  · exact vz_cn (by omega)
theorem vz_turn {K : Nat} {s : Bool} {x : Nat} {e : Int} : vz K (!s && decide (0 < dlen x)) x e = - vz K s x e := by
  by_cases h : x = 0
  · subst h; rw [vz_zero, vz_zero]; rfl
  · have h1 : 0 < dlen x := by have := dlen_pos h; omega
    rw [decide_eq_true h1, Bool.and_true]
    unfold vz sv
    cases s <;> simp [Int.neg_mul]
/-- one number less another -/
def tD (t1 t2 : Bool × Nat × Int) : Bool × Nat × Int := cn (sumN t1.1 t1.2.1 t1.2.2 (!t2.1 && decide (0 < dlen t2.2.1)) t2.2.1 t2.2.2).1 (sumN t1.1 t1.2.1 t1.2.2 (!t2.1 && decide (0 < dlen t2.2.1)) t2.2.1 t2.2.2).2.1 (sumN t1.1 t1.2.1 t1.2.2 (!t2.1 && decide (0 < dlen t2.2.1)) t2.2.1 t2.2.2).2.2
theorem tD_fits {lo hi : Int} {t1 t2 : Bool × Nat × Int} (h1 : Fits lo hi t1.2.1 t1.2.2) (h2 : Fits lo hi t2.2.1 t2.2.2) : Fits lo (hi + 1) (tD t1 t2).2.1 (tD t1 t2).2.2 := Fits.cn (Fits.sum h1 h2)
theorem vz_tD {K : Nat} {lo hi : Int} {t1 t2 : Bool × Nat × Int} (h1 : Fits lo hi t1.2.1 t1.2.2) (h2 : Fits lo hi t2.2.1 t2.2.2) (e1 : 0 ≤ t1.2.2 + K) (e2 : 0 ≤ t2.2.2 + K) (hK : 0 ≤ lo + K) :
    vz K (tD t1 t2).1 (tD t1 t2).2.1 (tD t1 t2).2.2 = vz K t1.1 t1.2.1 t1.2.2 - vz K t2.1 t2.2.1 t2.2.2 := by
  unfold tD
  rw [vz_cnF (Fits.sum h1 h2) hK, vz_sumN e1 e2, vz_turn]
  omega
end Go.Proofs.YtdfkpjagnndfdaaGreatDoor
/- The program's leastRest: what is left of a division to the nearest. -/
namespace Go.Proofs.YtdfkpjagnndfdaaGreatDoor
set_option linter.unusedVariables false
set_option linter.unusedSimpArgs false
open Go.RowKit Go.Fl64

end Go.Proofs.YtdfkpjagnndfdaaGreatDoor
/- The program's leastRest and Rest. -/
namespace Go.Proofs.YtdfkpjagnndfdaaGreatDoor
set_option linter.unusedVariables false
set_option linter.unusedSimpArgs false
open Go.RowKit Go.Fl64

end Go.Proofs.YtdfkpjagnndfdaaGreatDoor
/- Products and quotients of floats of which one is nought or not finite. -/
namespace Go.Fl64
set_option linter.unusedVariables false
set_option linter.unusedSimpArgs false

end Go.Fl64
/- The program's Mul and Div of floats, in every case. -/
namespace Go.Proofs.YtdfkpjagnndfdaaGreatDoor
set_option linter.unusedVariables false
set_option linter.unusedSimpArgs false
open Go.RowKit Go.Fl64

end Go.Proofs.YtdfkpjagnndfdaaGreatDoor
/- The document's quotient, rounded: the program's float. -/
namespace Go.Proofs.YtdfkpjagnndfdaaGreatDoor
set_option linter.unusedVariables false
set_option linter.unusedSimpArgs false
open Go.RowKit Go.Fl64
open Ie

end Go.Proofs.YtdfkpjagnndfdaaGreatDoor
/- The document's product of numbers, that can be handed on; its Mul and Div of floats. -/
namespace Go.Proofs.YtdfkpjagnndfdaaGreatDoor
set_option linter.unusedVariables false
set_option linter.unusedSimpArgs false
open Go.RowKit Go.Fl64

end Go.Proofs.YtdfkpjagnndfdaaGreatDoor
/- The document's root, rounded: the program's float. -/
namespace Go.Proofs.YtdfkpjagnndfdaaGreatDoor
set_option linter.unusedVariables false
set_option linter.unusedSimpArgs false
open Go.RowKit Go.Fl64

end Go.Proofs.YtdfkpjagnndfdaaGreatDoor
/- Square roots of numbers: the program's and the document's are one float; Sqrt of floats. -/
namespace Go.Proofs.YtdfkpjagnndfdaaGreatDoor
set_option linter.unusedVariables false
set_option linter.unusedSimpArgs false
open Go.RowKit Go.Fl64

end Go.Proofs.YtdfkpjagnndfdaaGreatDoor
/- Hypot of floats, on both sides. -/
namespace Go.Proofs.YtdfkpjagnndfdaaGreatDoor
set_option linter.unusedVariables false
set_option linter.unusedSimpArgs false
open Go.RowKit Go.Fl64

theorem dn_store {w : World} {A : Value} {t : Bool × Nat × Int} {g : Nat} (h : DN w A t) (hg : w.heap[g]? = some (.cells #[.bool false, .slice none 0 0, .int .i64 0] 33 (0, 0))) (a b c : Value) : DN (((w.setCell ⟨g, 0, none⟩ a).setCell ⟨g, 1, none⟩ b).setCell ⟨g, 2, none⟩ c) A t := by
  obtain ⟨ao, cap, h1, h2⟩ := h
  exact ⟨ao, cap, h1, h2.nil, at_box h2.at_ rfl hg (by simp) (by simp) (by simp) a b c, h2.le, h2.small⟩
/-- a number of the document in its box, made since a world -/
def BxD (w3 wc : World) (g : Nat) (s : Bool) (ao : Option Addr) (n cap : Nat) (ex : Int) (t : Bool × Nat × Int) : Prop := wc.heap[g]? = some (.cells #[.bool s, .slice ao n cap, .int .i64 ex] 33 (0, 0)) ∧ w3.heap.size ≤ g ∧ Below w3.heap.size w3 wc ∧ DN wc (.agg #[.bool s, .slice ao n cap, .int .i64 ex]) t
theorem BxD.new {w3 w7 : World} {s : Bool} {ao : Option Addr} {n cap : Nat} {ex : Int} {t : Bool × Nat × Int} (hn : DN w7 (.agg #[.bool s, .slice ao n cap, .int .i64 ex]) t) (hb : Below w3.heap.size w3 w7) : BxD w3 (w7.alloc (.cells #[.bool s, .slice ao n cap, .int .i64 ex] 33)) w7.heap.size s ao n cap ex t :=
  ⟨heap_alloc_new _ _, hb.size, hb.alloc hb.size _, hn.later ((Below.refl _ _).alloc (Nat.le_refl _) _)⟩
theorem BxD.put {w3 w7 : World} {g : Nat} {s : Bool} {ao : Option Addr} {n cap : Nat} {ex : Int} {t : Bool × Nat × Int} (hn : DN w7 (.agg #[.bool s, .slice ao n cap, .int .i64 ex]) t) (hb : Below w3.heap.size w3 w7) (hg : w3.heap.size ≤ g) (hbx : w7.heap[g]? = some (.cells #[.bool false, .slice none 0 0, .int .i64 0] 33 (0, 0))) :
    BxD w3 (((w7.setCell ⟨g, 0, none⟩ (.bool s)).setCell ⟨g, 1, none⟩ (.slice ao n cap)).setCell ⟨g, 2, none⟩ (.int .i64 ex)) g s ao n cap ex t :=
  ⟨store3_29 _ _ _ hbx, hg, below_store3 hb hg _ _ _, dn_store hn hbx _ _ _⟩

end Go.Proofs.YtdfkpjagnndfdaaGreatDoor
/- The program's Rest, all its ways out. -/
namespace Go.Proofs.YtdfkpjagnndfdaaGreatDoor
set_option linter.unusedVariables false
set_option linter.unusedSimpArgs false
open Go.RowKit Go.Fl64

end Go.Proofs.YtdfkpjagnndfdaaGreatDoor
/- The document's Rest, walked over what it calls. -/
namespace Go.Proofs.YtdfkpjagnndfdaaGreatDoor
set_option linter.unusedVariables false
set_option linter.unusedSimpArgs false
open Go.RowKit Go.Fl64

end Go.Proofs.YtdfkpjagnndfdaaGreatDoor
/- The document's Over, Scaled, Less of numbers in their shortest form. -/
namespace Go.Proofs.YtdfkpjagnndfdaaGreatDoor
set_option linter.unusedVariables false
set_option linter.unusedSimpArgs false
open Go.RowKit Go.Fl64

theorem arg_nought (w : World) : Arg w none 0 0 0 := ⟨fun _ => .inr ⟨rfl, rfl⟩, ⟨0, 0, fun h => absurd h (by omega), fun i hi => absurd hi (by omega)⟩, Nat.le_refl _, by omega⟩
theorem arg_noughtD (w : World) : Arg w none (dlen 0) 0 0 := by rw [dlen_zero]; exact arg_nought w
theorem dn_nought (w : World) : DN w (.agg #[.bool false, .slice none 0 0, .int .i64 0]) (false, 0, 0) := ⟨none, 0, by show _ = Value.agg #[.bool false, .slice none (dlen 0) 0, .int .i64 0]; rw [dlen_zero], arg_noughtD w⟩

end Go.Proofs.YtdfkpjagnndfdaaGreatDoor
/- The exact sum of a list in numbers: how great it can be. -/
namespace Go.Proofs.YtdfkpjagnndfdaaGreatDoor
set_option linter.unusedVariables false
set_option linter.unusedSimpArgs false
open Go.RowKit Go.Fl64

theorem fits_small {K : Nat} {lo hi hi' : Int} {x : Nat} {e : Int} (h : Fits lo hi x e) (hlo : 0 ≤ lo + K) (hv : x * 2 ^ (e + K).toNat < 2 ^ (hi' + K).toNat) : Fits lo hi' x e := by
  rcases h with h | ⟨h1, h2, h3⟩
  · exact .inl h
  · by_cases hx : x = 0
    · exact .inl hx
    · have hp : 2 ^ (e + K).toNat ≤ x * 2 ^ (e + K).toNat := Nat.le_mul_of_pos_left _ (by omega)
      have hlt : (e + K).toNat < (hi' + K).toNat := (Nat.pow_lt_pow_iff_right (by omega)).1 (Nat.lt_of_le_of_lt hp hv)
      refine .inr ⟨h1, by omega, ?_⟩
      rw [show (hi' + K).toNat = (hi' - e).toNat + (e + K).toNat by omega, Nat.pow_add] at hv
      exact Nat.lt_of_mul_lt_mul_right hv
theorem sv_abs (s : Bool) (x : Nat) : (sv s x).natAbs = x := by cases s <;> simp [sv]
theorem vz_abs (K : Nat) (s : Bool) (x : Nat) (e : Int) : (vz K s x e).natAbs = x * 2 ^ (e + K).toNat := by
  unfold vz
  rw [Int.natAbs_mul, sv_abs, Int.natAbs_natCast]
theorem vz_tF_le {K : Nat} (hK : 2000 ≤ K) (a : Nat) : (vz K (tF a).1 (tF a).2.1 (tF a).2.2).natAbs ≤ 2 ^ (1025 + K) := by
  rw [vz_abs]
  rcases tF_fits a with h | ⟨h1, h2, h3⟩
  · rw [h, Nat.zero_mul]; exact Nat.zero_le _
  · rw [show 1025 + K = ((1025 : Int) - (tF a).2.2).toNat + ((tF a).2.2 + K).toNat by omega, Nat.pow_add]
    exact Nat.mul_le_mul_right _ (Nat.le_of_lt h3)
theorem vz_tS {K : Nat} {lo hi : Int} {t1 t2 : Bool × Nat × Int} (h1 : Fits lo hi t1.2.1 t1.2.2) (h2 : Fits lo hi t2.2.1 t2.2.2) (e1 : 0 ≤ t1.2.2 + K) (e2 : 0 ≤ t2.2.2 + K) (hK : 0 ≤ lo + K) : vz K (tS t1 t2).1 (tS t1 t2).2.1 (tS t1 t2).2.2 = vz K t1.1 t1.2.1 t1.2.2 + vz K t2.1 t2.2.1 t2.2.2 := by
  unfold tS
  rw [vz_cnF (Fits.sum h1 h2) hK, vz_sumN e1 e2]

theorem tSum_num (xs : Nat → Nat) {K : Nat} (hK : 100000 ≤ K) : ∀ k : Nat, k ≤ 65536 → Ok (tSum xs k) ∧ Fits (-1074) 1042 (tSum xs k).2.1 (tSum xs k).2.2 ∧ (vz K (tSum xs k).1 (tSum xs k).2.1 (tSum xs k).2.2).natAbs ≤ k * 2 ^ (1025 + K)
  | 0, _ => ⟨by show Ok (false, 0, 0); unfold Ok; decide +kernel, .inl rfl, by show (vz K false 0 0).natAbs ≤ _; rw [vz_abs]; simp⟩
  | k + 1, hk => by
    obtain ⟨o, f, v⟩ := tSum_num xs hK k (by omega)
    have ft : Fits (-1074) 1042 (tF (xs k)).2.1 (tF (xs k)).2.2 := (tF_fits (xs k)).mono (Int.le_refl _) (by omega)
    have ok : Ok (tSum xs (k + 1)) := ok_cn (tS_okR f ft (by omega) (by omega) (by omega))
    have fs : Fits (-1074) 1043 (tSum xs (k + 1)).2.1 (tSum xs (k + 1)).2.2 := tS_fits f ft
    obtain ⟨-, f2, f3, -, -⟩ := o.facts
    obtain ⟨-, g2, g3, -, -⟩ := (tF_ok (xs k)).facts
    have hv : (vz K (tSum xs (k + 1)).1 (tSum xs (k + 1)).2.1 (tSum xs (k + 1)).2.2).natAbs ≤ (k + 1) * 2 ^ (1025 + K) := by
      show (vz K (tS (tSum xs k) (tF (xs k))).1 (tS (tSum xs k) (tF (xs k))).2.1 (tS (tSum xs k) (tF (xs k))).2.2).natAbs ≤ _
      rw [vz_tS f ft (by omega) (by omega) (by omega), Nat.add_mul, Nat.one_mul]
      have h1 := vz_tF_le (K := K) (by omega) (xs k)
      exact Nat.le_trans (Int.natAbs_add_le _ _) (Nat.add_le_add v h1)
    refine ⟨ok, fits_small (K := K) fs (by omega) ?_, hv⟩
    rw [vz_abs] at hv
    refine Nat.lt_of_le_of_lt hv ?_
    have e : ((1042 : Int) + K).toNat = 17 + (1025 + K) := by omega
    rw [e, Nat.pow_add 2 17 (1025 + K)]
    have hp := Nat.two_pow_pos (1025 + K)
    have h17 : k + 1 < 131072 := by omega
    rw [show (2 : Nat) ^ 17 = 131072 by decide]
    generalize 2 ^ (1025 + K) = P at *
    exact Nat.mul_lt_mul_of_pos_right h17 hp
theorem tSum_ok (xs : Nat → Nat) {k : Nat} (hk : k ≤ 65536) : Ok (tSum xs k) ∧ Fits (-1074) 1042 (tSum xs k).2.1 (tSum xs k).2.2 := by
  obtain ⟨K, hK⟩ : ∃ K : Nat, 100000 ≤ K := ⟨100000, Nat.le_refl _⟩
  have h := tSum_num xs hK k hk
  exact ⟨h.1, h.2.1⟩
theorem tSum_add (xs : Nat → Nat) {k : Nat} (hk : k ≤ 65536) : Op2 48 (tSum xs k) (tF (xs k)) (tSum xs (k + 1)) :=
  add_op (tSum_ok xs hk).1 (tF_ok (xs k)) (tS_okR (tSum_ok xs hk).2 ((tF_fits (xs k)).mono (Int.le_refl _) (by omega)) (by omega) (by omega) (by omega))
end Go.Proofs.YtdfkpjagnndfdaaGreatDoor
/- sums.Exact. -/
namespace Go.Proofs.YtdfkpjagnndfdaaGreatDoor
set_option linter.unusedVariables false
set_option linter.unusedSimpArgs false
open Go.RowKit Go.Fl64

set_option maxHeartbeats 4000000 in
set_option maxRecDepth 200000 in
theorem uex_err (ao : Option Addr) (len cap : Nat) (m c : Int) (w : World) (hc : (c == 0) = false)
    (k : ∀ W g, Below w.heap.size w W → W.cell? ⟨g, 0, none⟩ = some (.slice ao len cap) → Calls Tryz.prog 15 #[.int .i64 m, .slice (some ⟨g, 0, none⟩) 1 1] W fun r w' => r = .returned (.int .i64 c) ∧ Below W.heap.size W w') :
    Calls Tryz.prog 4 #[.slice ao len cap, .int .i64 m] w fun r w' => r = .returned (.tuple #[.float .f64 0, .int .i64 c]) ∧ Below w.heap.size w w' := by
  obtain ⟨V, hV⟩ : ∃ V, V = w.alloc (.cells #[.slice ao len cap] 22) := ⟨_, rfl⟩
  have hb : Below w.heap.size w V := by rw [hV]; exact (Below.refl _ _).alloc (Nat.le_refl _) _
  have k1 := k V w.heap.size hb (by unfold World.cell?; rw [hV, heap_alloc_new]; rfl)
  have HB : Hid (Below w.heap.size w V) := hb
  have hc' : (c != 0) = true := by rw [bne, hc]; rfl
  clear k hb
  go_enter Tryz.func4, Tryz.ntmps4
  go_wp2_with fail
  rw [← hV]
  clear hV
  refine k1.mono ?_
  rintro r w1 ⟨rfl, hb1⟩
  have HF : Hid (Below w.heap.size w w1) := HB.out.trans (hb1.mono HB.out.size)
  clear k1 hb1 HB
  go_wp2_with fail
  refine bodyPost_ret (results_tmp2 rfl _ _ _) rfl ?_
  exact ⟨rfl, HF.out⟩

set_option maxHeartbeats 4000000 in
set_option maxRecDepth 200000 in
theorem uex_ok (ao : Option Addr) (len cap F x0 : Nat) (m : Int) (mn : Bool) (ts : Bool × Nat × Int) (w : World)
    (hmn : mn = true → 0 < len ∧ (∀ W, Below w.heap.size w W → ∃ b off, ao = some ⟨b, off, none⟩ ∧ W.cell? ⟨b, off, none⟩ = some (.float .f64 x0)))
    (k : ∀ W g, Below w.heap.size w W → W.cell? ⟨g, 0, none⟩ = some (.slice ao len cap) → Calls Tryz.prog 15 #[.int .i64 m, .slice (some ⟨g, 0, none⟩) 1 1] W fun r w' => r = .returned (.int .i64 0) ∧ Below W.heap.size W w')
    (kM : 0 < len → ∀ W, Below w.heap.size w W → Calls Tryz.prog 16 #[.slice ao len cap] W fun r w' => r = .returned (.bool mn) ∧ Below W.heap.size W w')
    (kT : ∀ W Bs, Below w.heap.size w W → W.cell? ⟨Bs, 0, none⟩ = some (.slice ao len cap) → Calls Tryz.prog 18 #[.func (.func 49) #[] #[.pointer (some ⟨Bs, 0, none⟩)]] W fun r w' => OutA W ts r w')
    (kR : ∀ W A, Below w.heap.size w W → PN W A ts → Calls Tryz.prog 17 #[A, .int .i64 m] W fun r w' => r = .returned (.float .f64 F) ∧ Below W.heap.size W w') :
    Calls Tryz.prog 4 #[.slice ao len cap, .int .i64 m] w fun r w' => r = .returned (.tuple #[.float .f64 (if mn then x0 else F), .int .i64 0]) ∧ Below w.heap.size w w' := by
  obtain ⟨V, hV⟩ : ∃ V, V = w.alloc (.cells #[.slice ao len cap] 22) := ⟨_, rfl⟩
  have hb : Below w.heap.size w V := by rw [hV]; exact (Below.refl _ _).alloc (Nat.le_refl _) _
  have k1 := k V w.heap.size hb (by unfold World.cell?; rw [hV, heap_alloc_new]; rfl)
  have HB : Hid (Below w.heap.size w V) := hb
  have HM : Hid (0 < len → ∀ W, Below w.heap.size w W → Calls Tryz.prog 16 #[.slice ao len cap] W fun r w' => r = .returned (.bool mn) ∧ Below W.heap.size W w') := kM
  have HT : Hid (∀ W Bs, Below w.heap.size w W → W.cell? ⟨Bs, 0, none⟩ = some (.slice ao len cap) → Calls Tryz.prog 18 #[.func (.func 49) #[] #[.pointer (some ⟨Bs, 0, none⟩)]] W fun r w' => OutA W ts r w') := kT
  have HR : Hid (∀ W A, Below w.heap.size w W → PN W A ts → Calls Tryz.prog 17 #[A, .int .i64 m] W fun r w' => r = .returned (.float .f64 F) ∧ Below W.heap.size W w') := kR
  have HN : Hid (mn = true → 0 < len ∧ (∀ W, Below w.heap.size w W → ∃ b off, ao = some ⟨b, off, none⟩ ∧ W.cell? ⟨b, off, none⟩ = some (.float .f64 x0))) := hmn
  clear k hb kM kT kR hmn
  go_enter Tryz.func4, Tryz.ntmps4
  go_wp2_with fail
  rw [← hV]
  clear hV
  refine k1.mono ?_
  rintro r w1 ⟨rfl, hb1⟩
  have HF : Hid (Below w.heap.size w w1) := HB.out.trans (hb1.mono HB.out.size)
  clear k1 hb1 HB
  by_cases h0 : 0 < len
  · have hi : (0 : Int) < (len : Int) := by omega
    have hd : decide ((0 : Int) < (len : Int)) = true := decide_eq_true hi
    have k2 := HM.out h0 w1 HF.out
    cases mn
    · go_wp2_with fail
      refine k2.mono ?_
      rintro r w2 ⟨rfl, hb2⟩
      have HF2 : Hid (Below w.heap.size w w2) := HF.out.trans (hb2.mono HF.out.size)
      clear k2 hb2 HF HM HN
      have k3 := ufloats ao len cap w2
      go_wp2_with fail
      refine k3.mono ?_
      rintro r w3 ⟨rfl, hw⟩
      have hb3 : Below w2.heap.size w2 w3 := by rw [hw]; exact (Below.refl _ _).alloc (Nat.le_refl _) _
      have c1 : w3.cell? ⟨w2.heap.size, 0, none⟩ = some (.slice ao len cap) := by unfold World.cell?; rw [hw, heap_alloc_new]; rfl
      have HF3 : Hid (Below w.heap.size w w3) := HF2.out.trans (hb3.mono HF2.out.size)
      have k4 := HT.out w3 w2.heap.size HF3.out c1
      clear k3 hw hb3 c1 HF2
      generalize w2.heap.size = g2 at *
      go_wp2_with fail
      refine k4.mono ?_
      rintro r w4 ⟨s4, ao4, n4, cap4, ex4, rfl, hP4, hb4⟩
      have HF4 : Hid (Below w.heap.size w w4) := HF3.out.trans (hb4.mono HF3.out.size)
      have k5 := HR.out w4 _ HF4.out hP4
      clear k4 hP4 hb4 HF3 HT HR
      go_wp2_with fail
      refine k5.mono ?_
      rintro r w5 ⟨rfl, hb5⟩
      have HF5 : Hid (Below w.heap.size w w5) := HF4.out.trans (hb5.mono HF4.out.size)
      clear k5 hb5 HF4
      go_wp2_with fail
      refine bodyPost_ret (results_tmp2 rfl _ _ _) rfl ?_
      exact ⟨rfl, HF5.out⟩
    · obtain ⟨b, off, rfl, hc1⟩ := (HN.out rfl).2 w1 HF.out
      go_wp2_with fail
      refine k2.mono ?_
      rintro r w2 ⟨rfl, hb2⟩
      have HF2 : Hid (Below w.heap.size w w2) := HF.out.trans (hb2.mono HF.out.size)
      have hc2 : w2.cell? ⟨b, off, none⟩ = some (.float .f64 x0) := (hb2.cell (p := ⟨b, off, none⟩) (World.block_lt_of_cell? _ _ hc1)).trans hc1
      clear k2 hb2 HF HM HN hc1
      go_wp2_with fail
      refine bodyPost_ret (results_tmp2 rfl _ _ _) rfl ?_
      exact ⟨rfl, HF2.out⟩
  · have hmf : mn = false := by
      cases hm : mn
      · rfl
      · exact absurd (HN.out hm).1 h0
    subst hmf
    have hi : ¬ (0 : Int) < (len : Int) := by omega
    have hd : decide ((0 : Int) < (len : Int)) = false := decide_eq_false hi
    have HF2 : Hid (Below w.heap.size w w1) := HF.out
    clear HF HM HN
    obtain ⟨w2, hw2⟩ : ∃ w2, w2 = w1 := ⟨_, rfl⟩
    rw [← hw2] at HF2 ⊢
    clear hw2
    have k3 := ufloats ao len cap w2
    go_wp2_with fail
    refine k3.mono ?_
    rintro r w3 ⟨rfl, hw⟩
    have hb3 : Below w2.heap.size w2 w3 := by rw [hw]; exact (Below.refl _ _).alloc (Nat.le_refl _) _
    have c1 : w3.cell? ⟨w2.heap.size, 0, none⟩ = some (.slice ao len cap) := by unfold World.cell?; rw [hw, heap_alloc_new]; rfl
    have HF3 : Hid (Below w.heap.size w w3) := HF2.out.trans (hb3.mono HF2.out.size)
    have k4 := HT.out w3 w2.heap.size HF3.out c1
    clear k3 hw hb3 c1 HF2
    generalize w2.heap.size = g2 at *
    go_wp2_with fail
    refine k4.mono ?_
    rintro r w4 ⟨s4, ao4, n4, cap4, ex4, rfl, hP4, hb4⟩
    have HF4 : Hid (Below w.heap.size w w4) := HF3.out.trans (hb4.mono HF3.out.size)
    have k5 := HR.out w4 _ HF4.out hP4
    clear k4 hP4 hb4 HF3 HT HR
    go_wp2_with fail
    refine k5.mono ?_
    rintro r w5 ⟨rfl, hb5⟩
    have HF5 : Hid (Below w.heap.size w w5) := HF4.out.trans (hb5.mono HF4.out.size)
    clear k5 hb5 HF4
    go_wp2_with fail
    refine bodyPost_ret (results_tmp2 rfl _ _ _) rfl ?_
    exact ⟨rfl, HF5.out⟩
end Go.Proofs.YtdfkpjagnndfdaaGreatDoor
/- sums.Exact and sums.Two, in numbers. -/
namespace Go.Proofs.YtdfkpjagnndfdaaGreatDoor
set_option linter.unusedVariables false
set_option linter.unusedSimpArgs false
open Go.RowKit Go.Fl64

/-- are there floats, and all of them -0? -/
def mnA (xs : Nat → Nat) (len : Nat) : Bool := decide (0 < len) && !anyP (fun i => mnP (xs i)) len
/-- the exact sum, rounded -/
def exR (xs : Nat → Nat) (len : Nat) (m : Int) : Nat := tfF (tSum xs len).1 true (tSum xs len).2.1 (tSum xs len).2.2 m
def exF (xs : Nat → Nat) (len : Nat) (m : Int) : Nat := if isM m = false then 0 else if chk1 xs len = 0 then (if mnA xs len then xs 0 else exR xs len m) else 0
def exE (xs : Nat → Nat) (len : Nat) (m : Int) : Int := if isM m = false then 1 else chk1 xs len

theorem chk1_zero {xs : Nat → Nat} {len : Nat} (h : chk1 xs len = 0) : len ≤ 65536 ∧ ∀ i, i < len → mag (xs i) < 9218868437227405312 := by
  unfold chk1 at h
  by_cases h1 : 65536 < len
  · rw [if_pos h1] at h; omega
  · rw [if_neg h1] at h
    refine ⟨by omega, ?_⟩
    cases h2 : anyP (fun i => isNaN (xs i)) len
    · rw [h2, if_neg (by decide)] at h
      cases h3 : anyP (fun i => !fin (xs i)) len
      · intro i hi
        have := anyP_none h3 i hi
        have hf : fin (xs i) = true := by simpa using this
        exact Nat.lt_of_not_le fun h => by rw [fin_false.2 (by omega)] at hf; cases hf
      · rw [h3, if_pos rfl] at h; omega
    · rw [h2, if_pos rfl] at h; omega

theorem uExact (ao : Option Addr) (len cap : Nat) (xs : Nat → Nat) (m : Int) (w : World) (hT : Tab32 w) (hI : Ie.Tab w) (hl : FAt w ao len xs) (hx : Fls xs len) (hlen : len ≤ 35184372088832) :
    Calls Tryz.prog 4 #[.slice ao len cap, .int .i64 m] w fun r w' => r = .returned (.tuple #[.float .f64 (exF xs len m), .int .i64 (exE xs len m)]) ∧ Below w.heap.size w w' := by
  unfold exF exE
  cases hm : isM m
  · rw [if_pos rfl, if_pos rfl]
    exact uex_err ao len cap m 1 w rfl fun W g hb hg => (uchecked_no m _ W hm).mono fun r w' ⟨e1, e2⟩ => ⟨e1, by rw [e2]; exact Below.refl _ _⟩
  · have e1 : ¬ (true = false) := by decide
    rw [if_neg e1, if_neg e1]
    have kc : ∀ W g, Below w.heap.size w W → W.cell? ⟨g, 0, none⟩ = some (.slice ao len cap) → Calls Tryz.prog 15 #[.int .i64 m, .slice (some ⟨g, 0, none⟩) 1 1] W fun r w' => r = .returned (.int .i64 (chk1 xs len)) ∧ Below W.heap.size W w' := fun W g hb hg => uchecked1 m g ao len cap xs W hm hg (hl.later hb) hx hlen
    by_cases hz : chk1 xs len = 0
    · rw [if_pos hz]
      obtain ⟨h1, h2⟩ := chk1_zero hz
      rw [hz] at kc ⊢
      refine uex_ok ao len cap (exR xs len m) (xs 0) m (mnA xs len) (tSum xs len) w (fun h => ?_) kc (fun h0 W hb => ?_) (fun W Bs hb hBs => ?_) (fun W A hb hA => ?_)
      · have hp : 0 < len := by
          unfold mnA at h
          simp only [Bool.and_eq_true, decide_eq_true_eq] at h
          exact h.1
        refine ⟨hp, fun W hb => ?_⟩
        obtain ⟨b, off, h3, h4⟩ := hl.later hb
        exact ⟨b, off, h3 hp, h4 0 hp⟩
      · have := uallmn ao len cap xs W (hl.later hb) hx hlen
        unfold mnA
        rw [decide_eq_true h0, Bool.true_and]
        exact this
      · exact total_floats Bs len cap ao xs W (by omega) (fun i hi => ⟨hx i hi, h2 i hi⟩) (fun k hk => tSum_add xs (by omega)) (hT.later hb) (Tab.later hI hb) (hl.later hb) hBs
      · exact urounded (hT.later hb) (tSum_ok xs h1).1 hA (isM_iff.1 hm)
    · rw [if_neg hz]
      exact uex_err ao len cap m _ w (beq_eq_false_iff_ne.2 hz) kc

/-- two floats as a list -/
def two (a b : Nat) : Nat → Nat := fun i => if i = 0 then a else b
theorem addX_non {a b : Nat} (hf : fin a = false ∨ fin b = false) : ¬ mag (addX a b) < 9218868437227405312 := by
  have ha : fin a = false → ¬ mag a < 9218868437227405312 := fun h => fin_false.1 h
  have hb : fin b = false → ¬ mag b < 9218868437227405312 := fun h => fin_false.1 h
  unfold addX
  split
  · decide
  · rename_i hn
    split
    · split
      · split
        · omega
        · decide
      · omega
    · rename_i hm
      have hn' : (isNaN a || isNaN b) = false := by simpa using hn
      simp only [Bool.or_eq_false_iff] at hn'
      obtain ⟨n1, n2⟩ := hn'
      unfold isNaN at n1
      simp only [decide_eq_false_iff_not] at n1
      rcases hf with h | h
      · have := ha h; omega
      · exact hb h
theorem fAdd_fin {a b : Nat} (ha : a < 18446744073709551616) (hb : b < 18446744073709551616) (h : mag (fAdd a b) < 9218868437227405312) : mag a < 9218868437227405312 ∧ mag b < 9218868437227405312 := by
  by_cases hf : fin a = false ∨ fin b = false
  · exfalso
    have e : fAdd a b = addX a b := if_pos hf
    rw [e] at h
    exact addX_non hf h
  · exact ⟨Nat.lt_of_not_le fun h => hf (.inl (fin_false.2 (by omega))), Nat.lt_of_not_le fun h => hf (.inr (fin_false.2 (by omega)))⟩
/-- what a sum of two lost, as a number -/
def tLost (a b : Nat) : Bool × Nat × Int := tD (tS (tF a) (tF b)) (tF (fAdd a b))
/-- .. rounded -/
def lostF (a b : Nat) : Nat := if mag (fAdd a b) < 9218868437227405312 then (if (tLost a b).2.1 = 0 then 0 else tfF (tLost a b).1 true (tLost a b).2.1 (tLost a b).2.2 2) else 0
end Go.Proofs.YtdfkpjagnndfdaaGreatDoor
/- Two, by the program and by the document. -/
namespace Go.Proofs.YtdfkpjagnndfdaaGreatDoor
set_option linter.unusedVariables false
set_option linter.unusedSimpArgs false
open Go.RowKit Go.Fl64

theorem tS_nought {t : Bool × Nat × Int} (o : Ok t) : tS (false, 0, 0) t = t := by
  have e : sumN false 0 0 t.1 t.2.1 t.2.2 = (t.1, t.2.1, t.2.2) := by unfold sumN; rfl
  unfold tS
  show cn (sumN false 0 0 t.1 t.2.1 t.2.2).1 (sumN false 0 0 t.1 t.2.1 t.2.2).2.1 (sumN false 0 0 t.1 t.2.1 t.2.2).2.2 = t
  rw [e]
  exact cn_ok o
theorem tSum_two (a b : Nat) : tSum (two a b) 2 = tS (tF a) (tF b) := by
  show tS (tS (false, 0, 0) (tF a)) (tF b) = _
  rw [tS_nought (tF_ok a)]
theorem tLost_okR (a b : Nat) : okR (sumN (tS (tF a) (tF b)).1 (tS (tF a) (tF b)).2.1 (tS (tF a) (tF b)).2.2 (!(tF (fAdd a b)).1 && decide (0 < dlen (tF (fAdd a b)).2.1)) (tF (fAdd a b)).2.1 (tF (fAdd a b)).2.2).1 (sumN (tS (tF a) (tF b)).1 (tS (tF a) (tF b)).2.1 (tS (tF a) (tF b)).2.2 (!(tF (fAdd a b)).1 && decide (0 < dlen (tF (fAdd a b)).2.1)) (tF (fAdd a b)).2.1 (tF (fAdd a b)).2.2).2.1 (sumN (tS (tF a) (tF b)).1 (tS (tF a) (tF b)).2.1 (tS (tF a) (tF b)).2.2 (!(tF (fAdd a b)).1 && decide (0 < dlen (tF (fAdd a b)).2.1)) (tF (fAdd a b)).2.1 (tF (fAdd a b)).2.2).2.2 = true :=
  (Fits.sum (tS_fits (tF_fits a) (tF_fits b)) ((tF_fits (fAdd a b)).mono (Int.le_refl _) (by omega))).ok (by omega) (by omega) (by omega)
theorem tLost_ok (a b : Nat) : Ok (tLost a b) := ok_cn (tLost_okR a b)
theorem tS2_ok (a b : Nat) : Ok (tS (tF a) (tF b)) := ok_cn (tS_okR (tF_fits a) (tF_fits b) (by omega) (by omega) (by omega))
theorem tf_nought0 : tfF false true 0 0 2 = 0 := by decide +kernel
theorem lost_tf {t : Bool × Nat × Int} (o : Ok t) : tfF t.1 true t.2.1 t.2.2 2 = if t.2.1 = 0 then 0 else tfF t.1 true t.2.1 t.2.2 2 := by
  by_cases h : t.2.1 = 0
  · rw [if_pos h]
    obtain ⟨-, -, -, f4, -⟩ := o.facts
    rw [f4 h]
    exact tf_nought0
  · rw [if_neg h]

theorem uTwo (a b : Nat) (ha : a < 18446744073709551616) (hb : b < 18446744073709551616) (w : World) (hT : Tab32 w) (hI : Ie.Tab w) :
    Calls Tryz.prog 24 #[.float .f64 a, .float .f64 b] w fun r w' => ∃ n, r = .returned (.tuple #[.float .f64 n, .float .f64 (lostF a b)]) ∧ lk n (fAdd a b) ∧ Below w.heap.size w w' := by
  have hX := fAdd_lt ha hb
  have kn := unear (lk.refl ha) (lk.refl hb) ha hb w hT hI
  unfold lostF
  by_cases hf : mag (fAdd a b) < 9218868437227405312
  · rw [if_pos hf]
    obtain ⟨fa, fb⟩ := fAdd_fin ha hb hf
    have hF : ∀ i, i < 2 → two a b i < 18446744073709551616 ∧ mag (two a b i) < 9218868437227405312 := by
      intro i hi
      unfold two
      split
      · exact ⟨ha, fa⟩
      · exact ⟨hb, fb⟩
    refine (utwo_y a b (fAdd a b) (tfF (tLost a b).1 true (tLost a b).2.1 (tLost a b).2.2 2) (tS (tF a) (tF b)) (tLost a b) w hX hf kn (fun W Bs g hbw c1 c2 c3 => ?_) (fun W A hbw hA => ?_) (fun W A hbw hA => ?_)).mono ?_
    · rw [← tSum_two a b]
      exact total_floats Bs 2 2 (some ⟨g, 0, none⟩) (two a b) W (by omega) hF (fun k hk => tSum_add _ (by omega)) (hT.later hbw) (Tab.later hI hbw) ⟨g, 0, fun _ => rfl, fun j hj => by
        rcases (show j = 0 ∨ j = 1 by omega) with rfl | rfl
        · exact c2
        · exact c3⟩ c1
    · exact utaken (hT.later hbw) (Tab.later hI hbw) hX hf hA (sub_op (tS2_ok a b) (tF_ok _) (tLost_okR a b))
    · exact urounded (hT.later hbw) (tLost_ok a b) hA (by omega)
    · rintro r w' ⟨rfl, hbw⟩
      exact ⟨fAdd a b, by rw [← lost_tf (tLost_ok a b)], lk.refl hX, hbw⟩
  · rw [if_neg hf]
    exact utwo_n a b (fAdd a b) w hX hf kn

end Go.Proofs.YtdfkpjagnndfdaaGreatDoor
/- The head of layer 5's laws answers true. -/
namespace Go.Proofs.YtdfkpjagnndfdaaGreatDoor
set_option linter.unusedVariables false
set_option linter.unusedSimpArgs false
open Go.RowKit Go.Fl64

/-- 1, 1e100, 1, -1e100 -/
def l4 (i : Nat) : Nat := if i = 0 then 4607182418800017408 else if i = 1 then 6103021453049119613 else if i = 2 then 4607182418800017408 else 15326393489903895421
theorem l4_fls : Fls l4 4 := by
  intro i hi
  unfold l4
  split
  · decide
  · split
    · decide
    · split <;> decide
theorem l4_ex : exF l4 4 2 = 4611686018427387904 := by decide +kernel
theorem l4_e : exE l4 4 2 = 0 := by decide +kernel
theorem l4_e0 : exE l4 4 0 = 1 := by decide +kernel
theorem l4_row : rowF l4 4 = 0 := by decide +kernel
theorem l4_kept : ktF l4 4 = 4611686018427387904 := by decide +kernel
theorem l4_hal : halF 4 l4 4 = 0 := by decide +kernel
theorem two_s : fAdd 4846369599423283200 4607182418800017408 = 4846369599423283200 := by decide +kernel
theorem two_c : lostF 4846369599423283200 4607182418800017408 = 4607182418800017408 := by decide +kernel

set_option maxHeartbeats 8000000 in
set_option maxRecDepth 200000 in
theorem sure5_ok (w : World) (hT : Tab32 w) (hI : Ie.Tab w) : Calls Tryz.prog 7 #[] w fun r w' => r = .returned (.bool true) ∧ Below w.heap.size w w' := by
  have e1 : (FloatKind.f64.format.order 0 0 == some Ordering.eq) = true := by decide +kernel
  have e2 : (FloatKind.f64.format.order 4611686018427387904 4611686018427387904 == some Ordering.eq) = true := by decide +kernel
  have e3 : (FloatKind.f64.format.order 4846369599423283200 4846369599423283200 == some Ordering.eq) = true := by decide +kernel
  have e4 : (FloatKind.f64.format.order 4607182418800017408 4607182418800017408 == some Ordering.eq) = true := by decide +kernel
  obtain ⟨V, hV⟩ : ∃ V, V = w.alloc (.cells #[.float .f64 4607182418800017408, .float .f64 6103021453049119613, .float .f64 4607182418800017408, .float .f64 15326393489903895421] 23) := ⟨_, rfl⟩
  have hbV : Below w.heap.size w V := by rw [hV]; exact (Below.refl _ _).alloc (Nat.le_refl _) _
  have hh : V.heap[w.heap.size]? = some (.cells #[.float .f64 4607182418800017408, .float .f64 6103021453049119613, .float .f64 4607182418800017408, .float .f64 15326393489903895421] 23 (0, 0)) := by rw [hV]; exact heap_alloc_new _ _
  have hl : FAt V (some ⟨w.heap.size, 0, none⟩) 4 l4 := ⟨w.heap.size, 0, fun _ => rfl, fun j hj => by
    unfold World.cell?
    rw [hh]
    rcases (show j = 0 ∨ j = 1 ∨ j = 2 ∨ j = 3 by omega) with rfl | rfl | rfl | rfl <;> rfl⟩
  have HT : Hid (∀ W, Below w.heap.size w W → Tab32 W ∧ Ie.Tab W) := fun W h => ⟨hT.later h, Tab.later hI h⟩
  have HL : Hid (∀ W, Below V.heap.size V W → FAt W (some ⟨w.heap.size, 0, none⟩) 4 l4) := fun W h => hl.later h
  have HV : Hid (Below w.heap.size w V) := hbV
  have HZ : Hid (w.heap.size ≤ V.heap.size) := hbV.size
  have kk := uExact (some ⟨w.heap.size, 0, none⟩) 4 4 l4 2 V (hT.later hbV) (Tab.later hI hbV) hl l4_fls (by omega)
  rw [l4_ex, l4_e] at kk
  clear hT hI hbV hh hl
  go_enter Tryz.func7, Tryz.ntmps7
  go_wp2_with fail
  rw [← hV]
  clear hV
  generalize hg0 : w.heap.size = g0 at *
  have HG : Hid (w.heap.size = g0) := hg0
  clear hg0
  refine kk.mono ?_
  rintro r w1 ⟨rfl, hb1⟩
  have HB1 : Hid (Below V.heap.size V w1) := hb1
  clear kk hb1
  have HW : Hid (∀ W, Below V.heap.size V W → Below g0 w W) := fun W h => HV.out.trans (h.mono HZ.out)
  have kk := uExact (some ⟨g0, 0, none⟩) 4 4 l4 0 w1 (HT.out _ (HW.out _ HB1.out)).1 (HT.out _ (HW.out _ HB1.out)).2 (HL.out _ HB1.out) l4_fls (by omega)
  rw [l4_e0] at kk
  go_wp2_with fail
  refine kk.mono ?_
  rintro r w2 ⟨rfl, hb2⟩
  have HB2 : Hid (Below V.heap.size V w2) := HB1.out.trans (hb2.mono HB1.out.size)
  clear kk hb2 HB1
  have kk := uTwo 4846369599423283200 4607182418800017408 (by decide) (by decide) w2 (HT.out _ (HW.out _ HB2.out)).1 (HT.out _ (HW.out _ HB2.out)).2
  rw [two_s, two_c] at kk
  go_wp2_with fail
  refine kk.mono ?_
  rintro r w3 ⟨n3, rfl, hl3, hb3⟩
  obtain rfl : n3 = 4846369599423283200 := hl3.eq (by decide)
  have HB3 : Hid (Below V.heap.size V w3) := HB2.out.trans (hb3.mono HB2.out.size)
  clear kk hb3 hl3 HB2
  have kk := urow (some ⟨g0, 0, none⟩) 4 4 l4 w3 (HT.out _ (HW.out _ HB3.out)).1 (HT.out _ (HW.out _ HB3.out)).2 (HL.out _ HB3.out) l4_fls (by omega) (by omega)
  rw [l4_row] at kk
  go_wp2_with fail
  refine kk.mono ?_
  rintro r w4 ⟨n4, rfl, hl4, hb4⟩
  obtain rfl : n4 = 0 := hl4.eq (by decide)
  have HB4 : Hid (Below V.heap.size V w4) := HB3.out.trans (hb4.mono HB3.out.size)
  clear kk hb4 hl4 HB3
  have kk := ukept (some ⟨g0, 0, none⟩) 4 4 l4 w4 (HT.out _ (HW.out _ HB4.out)).1 (HT.out _ (HW.out _ HB4.out)).2 (HL.out _ HB4.out) l4_fls (by omega)
  rw [l4_kept] at kk
  go_wp2_with fail
  refine kk.mono ?_
  rintro r w5 ⟨n5, rfl, hl5, hb5⟩
  obtain rfl : n5 = 4611686018427387904 := hl5.eq (by decide)
  have HB5 : Hid (Below V.heap.size V w5) := HB4.out.trans (hb5.mono HB4.out.size)
  clear kk hb5 hl5 HB4
  have kk := uhalves 4 (some ⟨g0, 0, none⟩) 4 4 l4 w5 (by omega) (HT.out _ (HW.out _ HB5.out)).1 (HT.out _ (HW.out _ HB5.out)).2 (HL.out _ HB5.out) l4_fls (by omega) (by omega)
  rw [l4_hal] at kk
  go_wp2_with fail
  refine kk.mono ?_
  rintro r w6 ⟨n6, rfl, hl6, hb6⟩
  obtain rfl : n6 = 0 := hl6.eq (by decide)
  have HB6 : Hid (Below g0 w w6) := HW.out _ (HB5.out.trans (hb6.mono HB5.out.size))
  clear kk hb6 hl6 HB5 HW HL HT HV
  go_wp2_with fail
  go_ret
  rw [HG.out]
  exact ⟨rfl, HB6.out⟩
end Go.Proofs.YtdfkpjagnndfdaaGreatDoor
/- SumsTwo. -/
namespace Go.Proofs.YtdfkpjagnndfdaaGreatDoor
set_option linter.unusedVariables false
set_option linter.unusedSimpArgs false
open Go.RowKit Go.Fl64

theorem lsame5 {n X : Nat} (h : lk n X) (hX : X < 18446744073709551616) (w : World) : Calls Tryz.prog 5 #[.float .f64 n, .float .f64 X] w fun e w' => e = .returned (.bool true) ∧ w' = w := by
  have kd := Ie.dsame n X h.1 hX
  rw [h.2] at kd
  go_enter Tryz.func5, Tryz.ntmps5
  go_wp2_with (go_at_call 20; refine (kd _).mono ?_; rintro e w' ⟨rfl, rfl⟩)
  go_ret
  exact ⟨rfl, rfl⟩
end Go.Proofs.YtdfkpjagnndfdaaGreatDoor
/- The document's Fault and Total. -/
namespace Go.Proofs.YtdfkpjagnndfdaaGreatDoor
set_option linter.unusedVariables false
set_option linter.unusedSimpArgs false
open Go.RowKit Go.Fl64

end Go.Proofs.YtdfkpjagnndfdaaGreatDoor
/- The document's Total. -/
namespace Go.Proofs.YtdfkpjagnndfdaaGreatDoor
set_option linter.unusedVariables false
set_option linter.unusedSimpArgs false
open Go.RowKit Go.Fl64

theorem dn_storeU {w : World} {A : Value} {t : Bool × Nat × Int} {g : Nat} {s : Bool} {ao : Option Addr} {n cap : Nat} {e : Int} (h : DN w A t) (hg : w.heap[g]? = some (.cells #[.bool s, .slice ao n cap, .int .i64 e] 33 (0, 0))) (a b c : Value) : DN (((w.setCell ⟨g, 0, none⟩ a).setCell ⟨g, 1, none⟩ b).setCell ⟨g, 2, none⟩ c) A t := by
  obtain ⟨oo, cc, h1, h2⟩ := h
  exact ⟨oo, cc, h1, h2.nil, at_box h2.at_ rfl hg (by simp) (by simp) (by simp) a b c, h2.le, h2.small⟩

end Go.Proofs.YtdfkpjagnndfdaaGreatDoor
/- The document's Exact. -/
namespace Go.Proofs.YtdfkpjagnndfdaaGreatDoor
set_option linter.unusedVariables false
set_option linter.unusedSimpArgs false
open Go.RowKit Go.Fl64

end Go.Proofs.YtdfkpjagnndfdaaGreatDoor
/- Exact, by the program and by the document; SumsExact. -/
namespace Go.Proofs.YtdfkpjagnndfdaaGreatDoor
set_option linter.unusedVariables false
set_option linter.unusedSimpArgs false
open Go.RowKit Go.Fl64

theorem exF_lt {xs : Nat → Nat} {len : Nat} {m : Int} (hx : Fls xs len) : exF xs len m < 18446744073709551616 := by
  unfold exF
  cases hm : isM m
  · rw [if_pos rfl]; omega
  · rw [if_neg (by decide)]
    split
    · cases ha : mnA xs len
      · rw [if_neg (by decide)]; exact tfF_lt (isM_iff.1 hm)
      · rw [if_pos rfl]
        unfold mnA at ha
        simp only [Bool.and_eq_true, decide_eq_true_eq] at ha
        exact hx 0 ha.1
    · omega

end Go.Proofs.YtdfkpjagnndfdaaGreatDoor
