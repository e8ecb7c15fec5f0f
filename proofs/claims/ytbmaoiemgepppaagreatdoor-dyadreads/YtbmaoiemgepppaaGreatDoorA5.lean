/- Own work: contracts of the program's functions, part 5: IW4 W24 W30 NW W25 W26 W27 W31 W32 W36 W37 PR R1 R2 R3 W38 W39 W40 W34 W28 W29. -/
import Derived.Test.YtbmaoiemgepppaaGreatDoorA4
import Derived.Deep.QuietTactic
import Derived.BigQuiet
import Derived.Test.YtbmaoiemgepppaaGreatDoorA2
import Derived.Deep.CutRange
import Derived.Orders
import Derived.Laws.Tables
import Derived.Test.YtbmaoiemgepppaaGreatDoorA3
import Derived.Deep.RegionHeld3
import Derived.Laws.AppendOwnNone
import Derived.Lib.SliceRun
import Derived.Laws.IdiomStrings

/- What the program's lastPlace and Split answer. -/
namespace Go.Proofs.YtbmaoiemgepppaaGreatDoor.Ie
set_option linter.unusedVariables false
set_option linter.unusedSimpArgs false
open Go.RowKit Go.Fl64

/-- The place of the last bit. -/
def lp (a : Nat) : Int := -1075 + max 1 ((mag a / 4503599627370496 : Nat) : Int)
/-- The mantissa, as it is laid. -/
def mant (a : Nat) : Nat := if mag a < 4503599627370496 then mag a else 4503599627370496 + mag a % 4503599627370496

theorem c47 (a : Nat) (ha : a < 18446744073709551616) (w : World) :
    Calls Tryz.prog 81 #[.float .f64 a] w fun e w' => e = .returned (.int .i64 (lp a)) ∧ w' = w := by
  have k32 := c32 a ha
  have e : Hid (wrap64 (-1075 + max 1 (wrap64 ((mag a : Int) / 4503599627370496))) = lp a) := by
    have := mag_lt a
    show wrap64 (-1075 + max 1 (wrap64 ((mag a : Int) / 4503599627370496))) = lp a
    unfold lp wrap64
    omega
  clear ha
  generalize (mag a : Int) = m at k32 e ⊢
  generalize lp a = r at e ⊢
  go_enter Tryz.func81, Tryz.ntmps81
  go_wp2_with (first | (go_at_call 79; refine (k32 _).mono ?_; rintro e w' ⟨rfl, rfl⟩))
  all_goals go_ret
  · refine ⟨?_, rfl⟩
    show Ending.returned (.int .i64 (wrap64 (-1075 + wrap64 (m / 4503599627370496)))) = _
    rw [← e.out, Int.max_eq_right (Int.le_of_lt (by assumption))]
  · refine ⟨?_, rfl⟩
    show Ending.returned (.int .i64 (wrap64 (-1074))) = _
    rw [← e.out, Int.max_eq_left (by assumption)]
    rfl

theorem results_tmp4 {fn : Func} {t u v x : Tmp} (h : fn.results = #[.tmp t, .tmp u, .tmp v, .tmp x]) (tmps : Array Value) (P : Program) (w : World) :
    (results fn tmps).run P w = .ok (.tuple #[tmps.getD t undef, tmps.getD u undef, tmps.getD v undef, tmps.getD x undef]) w := by
  simp [results, h]

theorem cls1 {a : Nat} (h : 9218868437227405312 < mag a) : cls a = 1 ∧ cneg a = false := by
  unfold cls cneg
  rw [if_pos (by omega), if_pos (by omega)]
  exact ⟨rfl, rfl⟩
theorem cls2 {a : Nat} (h : mag a = 9218868437227405312) : cls a = 2 ∧ cneg a = neg a := by
  unfold cls cneg
  rw [h]
  exact ⟨rfl, rfl⟩
theorem cls3 {a : Nat} (h : mag a = 0) : cls a = 3 ∧ cneg a = neg a := by
  unfold cls cneg
  rw [h]
  exact ⟨rfl, rfl⟩
theorem int_beq_false {x y : Int} (h : x ≠ y) : (x == y) = false := by simpa using h
theorem cls4 {a : Nat} (h0 : mag a ≠ 0) (h : mag a < 4503599627370496) : cls a = 4 ∧ cneg a = neg a := by
  have e1 : ¬ (9218868437227405312 : Int) < (mag a : Int) := by omega
  have e2 : ((mag a : Int) == 9218868437227405312) = false := int_beq_false (by omega)
  have e3 : ((mag a : Int) == 0) = false := int_beq_false (by omega)
  have e4 : (mag a : Int) < 4503599627370496 := by omega
  refine ⟨?_, if_neg e1⟩
  simp only [cls, e1, e2, e3, e4, if_true, if_false, Bool.false_eq_true]
theorem cls5 {a : Nat} (h : 4503599627370496 ≤ mag a) (h1 : mag a < 9218868437227405312) : cls a = 5 ∧ cneg a = neg a := by
  have e1 : ¬ (9218868437227405312 : Int) < (mag a : Int) := by omega
  have e2 : ((mag a : Int) == 9218868437227405312) = false := int_beq_false (by omega)
  have e3 : ((mag a : Int) == 0) = false := int_beq_false (by omega)
  have e4 : ¬ (mag a : Int) < 4503599627370496 := by omega
  refine ⟨?_, if_neg e1⟩
  simp only [cls, e1, e2, e3, e4, if_false, Bool.false_eq_true]

/-- What Split answers: the odd mantissa, its place, the sign, whether the float is finite. -/
def sM (a : Nat) : Int := if 9218868437227405312 ≤ mag a then 0 else if mag a = 0 then 0 else (mant a : Int) / 2 ^ Lib.ctz 64 (mant a)
def sE (a : Nat) : Int := if 9218868437227405312 ≤ mag a then 0 else if mag a = 0 then 0 else lp a + (Lib.ctz 64 (mant a) : Int)
def sN (a : Nat) : Bool := if 9218868437227405312 ≤ mag a then false else neg a
def sO (a : Nat) : Bool := if 9218868437227405312 ≤ mag a then false else true

theorem c22_12 (a : Nat) (w : World) (s : Bool) (M c : Int) (hc : c = 1 ∨ c = 2)
    (k9 : ∀ w, Calls Tryz.prog 78 #[.float .f64 a] w fun e w' => e = .returned (.tuple #[.int .i64 c, .bool s]) ∧ w' = w)
    (k32 : ∀ w, Calls Tryz.prog 79 #[.float .f64 a] w fun e w' => e = .returned (.int .u64 M) ∧ w' = w) :
    Calls Tryz.prog 45 #[.float .f64 a] w fun e w' => e = .returned (.tuple #[.int .u64 0, .int .i64 0, .bool false, .bool false]) ∧ w' = w := by
  rcases hc with rfl | rfl
  · go_enter Tryz.func45, Tryz.ntmps45
    go_wp2_with (first | (go_at_call 78; refine (k9 _).mono ?_; rintro e w' ⟨rfl, rfl⟩) | (go_at_call 79; refine (k32 _).mono ?_; rintro e w' ⟨rfl, rfl⟩))
    refine bodyPost_ret (results_tmp4 rfl _ _ _) rfl ?_
    exact ⟨rfl, rfl⟩
  · go_enter Tryz.func45, Tryz.ntmps45
    go_wp2_with (first | (go_at_call 78; refine (k9 _).mono ?_; rintro e w' ⟨rfl, rfl⟩) | (go_at_call 79; refine (k32 _).mono ?_; rintro e w' ⟨rfl, rfl⟩))
    refine bodyPost_ret (results_tmp4 rfl _ _ _) rfl ?_
    exact ⟨rfl, rfl⟩

theorem c22_3 (a : Nat) (w : World) (s : Bool) (M : Int)
    (k9 : ∀ w, Calls Tryz.prog 78 #[.float .f64 a] w fun e w' => e = .returned (.tuple #[.int .i64 3, .bool s]) ∧ w' = w)
    (k32 : ∀ w, Calls Tryz.prog 79 #[.float .f64 a] w fun e w' => e = .returned (.int .u64 M) ∧ w' = w) :
    Calls Tryz.prog 45 #[.float .f64 a] w fun e w' => e = .returned (.tuple #[.int .u64 0, .int .i64 0, .bool s, .bool true]) ∧ w' = w := by
  go_enter Tryz.func45, Tryz.ntmps45
  go_wp2_with (first | (go_at_call 78; refine (k9 _).mono ?_; rintro e w' ⟨rfl, rfl⟩) | (go_at_call 79; refine (k32 _).mono ?_; rintro e w' ⟨rfl, rfl⟩))
  refine bodyPost_ret (results_tmp4 rfl _ _ _) rfl ?_
  exact ⟨rfl, rfl⟩

theorem c22_4 (a : Nat) (w : World) (s : Bool) (x : Nat) (T L M : Int)
    (k9 : ∀ w, Calls Tryz.prog 78 #[.float .f64 a] w fun e w' => e = .returned (.tuple #[.int .i64 4, .bool s]) ∧ w' = w)
    (k32 : ∀ w, Calls Tryz.prog 79 #[.float .f64 a] w fun e w' => e = .returned (.int .u64 M) ∧ w' = w)
    (k47 : ∀ w, Calls Tryz.prog 81 #[.float .f64 a] w fun e w' => e = .returned (.int .i64 L) ∧ w' = w)
    (k51 : ∀ w, Tab w → Calls Tryz.prog 80 #[.int .u64 x] w fun e w' => e = .returned (.int .i64 T) ∧ w' = w)
    (hand : bits .and .u64 M 4503599627370495 = (x : Int)) (hT0 : 0 ≤ T) (hT1 : T < 64) (hT : Tab w) :
    Calls Tryz.prog 45 #[.float .f64 a] w fun e w' => e = .returned (.tuple #[.int .u64 ((x : Int) / 2 ^ T.toNat), .int .i64 (wrap64 (L + T)), .bool s, .bool true]) ∧ ∃ n, w' = w.drewN n := by
  have KT : Hid (Tab w) := hT
  clear hT
  go_enter Tryz.func45, Tryz.ntmps45
  go_wp2_with (first | (go_at_call 78; refine (k9 _).mono ?_; rintro e w' ⟨rfl, rfl⟩) | (go_at_call 79; refine (k32 _).mono ?_; rintro e w' ⟨rfl, rfl⟩) | (go_at_call 80; refine (k51 _ KT.out).mono ?_; rintro e w' ⟨rfl, rfl⟩))
  go_quiet (first | (go_at_call 81; refine Calls.quiet_of_same (k47 _)))
  go_wp2
  refine bodyPost_ret (results_tmp4 rfl _ _ _) rfl ?_
  exact ⟨rfl, _, rfl⟩

theorem c22_5 (a : Nat) (w : World) (s : Bool) (x : Nat) (T L M m : Int)
    (k9 : ∀ w, Calls Tryz.prog 78 #[.float .f64 a] w fun e w' => e = .returned (.tuple #[.int .i64 5, .bool s]) ∧ w' = w)
    (k32 : ∀ w, Calls Tryz.prog 79 #[.float .f64 a] w fun e w' => e = .returned (.int .u64 M) ∧ w' = w)
    (k47 : ∀ w, Calls Tryz.prog 81 #[.float .f64 a] w fun e w' => e = .returned (.int .i64 L) ∧ w' = w)
    (k51 : ∀ w, Tab w → Calls Tryz.prog 80 #[.int .u64 x] w fun e w' => e = .returned (.int .i64 T) ∧ w' = w)
    (hand : bits .and .u64 M 4503599627370495 = m) (hor : bits .or .u64 m 4503599627370496 = (x : Int)) (hT0 : 0 ≤ T) (hT1 : T < 64) (hT : Tab w) :
    Calls Tryz.prog 45 #[.float .f64 a] w fun e w' => e = .returned (.tuple #[.int .u64 ((x : Int) / 2 ^ T.toNat), .int .i64 (wrap64 (L + T)), .bool s, .bool true]) ∧ ∃ n, w' = w.drewN n := by
  have KT : Hid (Tab w) := hT
  clear hT
  go_enter Tryz.func45, Tryz.ntmps45
  go_wp2_with (first | (go_at_call 78; refine (k9 _).mono ?_; rintro e w' ⟨rfl, rfl⟩) | (go_at_call 79; refine (k32 _).mono ?_; rintro e w' ⟨rfl, rfl⟩) | (go_at_call 80; refine (k51 _ KT.out).mono ?_; rintro e w' ⟨rfl, rfl⟩))
  go_quiet (first | (go_at_call 81; refine Calls.quiet_of_same (k47 _)))
  go_wp2
  refine bodyPost_ret (results_tmp4 rfl _ _ _) rfl ?_
  exact ⟨rfl, _, rfl⟩

theorem and_mant (x : Nat) (h : x < 18446744073709551616) : bits .and .u64 (x : Int) 4503599627370495 = ((x % 4503599627370496 : Nat) : Int) := by
  have e := u64_and_nat x 4503599627370495 h (by decide)
  rw [show ((4503599627370495 : Nat) : Int) = 4503599627370495 from rfl] at e
  rw [e]
  congr 1
  have := Nat.and_two_pow_sub_one_eq_mod x 52
  simpa using this
theorem or_mant (x : Nat) (h : x < 4503599627370496) : bits .or .u64 (x : Int) 4503599627370496 = ((4503599627370496 + x : Nat) : Int) := by
  have e := u64_or_nat x 4503599627370496 (by omega) (by decide)
  rw [show ((4503599627370496 : Nat) : Int) = 4503599627370496 from rfl] at e
  rw [e]
  congr 1
  have := Nat.two_pow_add_eq_or_of_lt (i := 52) h 1
  rw [Nat.or_comm, ← (show 2 ^ 52 * 1 = 4503599627370496 from rfl), ← this]

theorem mant_bound (a : Nat) : mant a < 9007199254740992 := by
  unfold mant
  split <;> omega
theorem mant_ne {a : Nat} (h : mag a ≠ 0) : mant a ≠ 0 := by
  unfold mant
  split <;> omega
theorem lp_bound (a : Nat) : -1074 ≤ lp a ∧ lp a ≤ 972 := by
  have := mag_lt a
  unfold lp
  omega

theorem c22 (a : Nat) (ha : a < 18446744073709551616) (w : World) (hT : Tab w) :
    Calls Tryz.prog 45 #[.float .f64 a] w fun e w' => e = .returned (.tuple #[.int .u64 (sM a), .int .i64 (sE a), .bool (sN a), .bool (sO a)]) ∧ ∃ n, w' = w.drewN n := by
  have k9 := c9 a ha
  have k32 := c32 a ha
  have k47 := c47 a ha
  by_cases h1 : 9218868437227405312 ≤ mag a
  · unfold sM sE sN sO
    rw [if_pos h1, if_pos h1, if_pos h1, if_pos h1]
    by_cases h2 : mag a = 9218868437227405312
    · rw [(cls2 h2).1] at k9
      exact (c22_12 a w _ _ 2 (.inr rfl) k9 k32).mono fun e w' h => ⟨h.1, 0, h.2⟩
    · rw [(cls1 (a := a) (by omega)).1] at k9
      exact (c22_12 a w _ _ 1 (.inl rfl) k9 k32).mono fun e w' h => ⟨h.1, 0, h.2⟩
  · unfold sM sE sN sO
    rw [if_neg h1, if_neg h1, if_neg h1, if_neg h1]
    by_cases h2 : mag a = 0
    · rw [if_pos h2, if_pos h2]
      rw [(cls3 h2).1, (cls3 h2).2] at k9
      exact (c22_3 a w _ _ k9 k32).mono fun e w' h => ⟨h.1, 0, h.2⟩
    · rw [if_neg h2, if_neg h2]
      have hm := mant_ne h2
      have hb := mant_bound a
      have hl := lp_bound a
      obtain ⟨_, hk⟩ := Lib.lowest_bit 64 (mant a) hm (by omega)
      have k51 := fun w hT => c51 (mant a) (by omega) hm w hT
      have ew : wrap64 (lp a + (Lib.ctz 64 (mant a) : Int)) = lp a + (Lib.ctz 64 (mant a) : Int) := by unfold wrap64; omega
      by_cases h3 : mag a < 4503599627370496
      · rw [(cls4 h2 h3).1, (cls4 h2 h3).2] at k9
        have e : mant a = mag a := if_pos h3
        have := c22_4 a w _ (mant a) (Lib.ctz 64 (mant a)) (lp a) (mag a) k9 k32 k47 k51 (by rw [and_mant _ (by omega), e]; omega) (by omega) (by omega) hT
        rw [ew, Int.toNat_natCast] at this
        exact this
      · rw [(cls5 (a := a) (by omega) (by omega)).1, (cls5 (a := a) (by omega) (by omega)).2] at k9
        have e : mant a = 4503599627370496 + mag a % 4503599627370496 := if_neg h3
        have := c22_5 a w _ (mant a) (Lib.ctz 64 (mant a)) (lp a) (mag a) _ k9 k32 k47 k51 (and_mant _ (by omega)) (by rw [or_mant _ (by omega), e]) (by omega) (by omega) hT
        rw [ew, Int.toNat_natCast] at this
        exact this

end Go.Proofs.YtbmaoiemgepppaaGreatDoor.Ie
/- Of. -/
namespace Go.Proofs.YtbmaoiemgepppaaGreatDoor
set_option linter.unusedVariables false
set_option linter.unusedSimpArgs false
open Go.RowKit Go.Fl64

set_option maxRecDepth 200000 in
theorem c9_1 (a m : Nat) (e : Int) (s : Bool) (w : World) (hT : Tab32 w) (hm : m < 18446744073709551616) (he1 : -4000000 ≤ e) (he2 : e ≤ 4000000) (hnn : (FloatKind.f64.format.order a a != some Ordering.eq) = false)
    (k55 : ∀ W, Below w.heap.size w W → Calls Tryz.prog 45 #[.float .f64 a] W fun r w' => r = .returned (.tuple #[.int .u64 m, .int .i64 e, .bool s, .bool true]) ∧ ∃ n, w' = W.drewN n) :
    Calls Tryz.prog 21 #[.float .f64 a] w fun r w' => ∃ A, r = .returned (.tuple #[A, .int .i64 0]) ∧ Nrm w' w.heap.size A s m e ∧ Below w.heap.size w w' := by
  obtain ⟨W, hW⟩ : ∃ W, W = w.alloc (.cells #[.bool false, .slice none 0 0, .int .i64 0] 24) := ⟨_, rfl⟩
  have hBW : Below w.heap.size w W := by rw [hW]; exact (Below.refl _ _).alloc (Nat.le_refl _) _
  have hC : W.heap[w.heap.size]? = some (.cells #[.bool false, .slice none 0 0, .int .i64 0] 24 (0, 0)) := by rw [hW]; exact heap_alloc_new _ _
  have hsz : W.heap.size = w.heap.size + 1 := by rw [hW]; simp
  have HH : Hid (W.heap[w.heap.size]? = some (.cells #[.bool false, .slice none 0 0, .int .i64 0] 24 (0, 0)) ∧ W.heap.size = w.heap.size + 1 ∧ Below w.heap.size w W ∧ Tab32 W ∧ m < 18446744073709551616) := ⟨hC, hsz, hBW, hT.later hBW, hm⟩
  have k1 := k55 W hBW
  have HW : Hid (W = w.alloc (.cells #[.bool false, .slice none 0 0, .int .i64 0] 24)) := hW
  clear k55 hC hsz hBW hT hm
  go_enter Tryz.func21, Tryz.ntmps21
  go_wp2_with fail
  rw [← hW]
  clear hW
  refine k1.mono ?_
  rintro r w1' ⟨rfl, dd, rfl⟩
  obtain ⟨w1, hw1⟩ : ∃ w1, w1 = W.drewN dd := ⟨_, rfl⟩
  rw [← hw1]
  have HH0 := HH.out
  clear HH
  have HH : Hid (w1.heap[w.heap.size]? = some (.cells #[.bool false, .slice none 0 0, .int .i64 0] 24 (0, 0)) ∧ w1.heap.size = w.heap.size + 1 ∧ Below w.heap.size w w1 ∧ Tab32 w1 ∧ m < 18446744073709551616) := by
    rw [hw1]
    exact ⟨HH0.1, HH0.2.1, HH0.2.2.1.trans ⟨rfl, rfl, rfl, Nat.le_refl _, fun _ _ => rfl⟩, HH0.2.2.2.1, HH0.2.2.2.2⟩
  have k57 := c57 m w1 HH0.2.2.2.2
  clear k1 hw1 HH0 HW
  go_wp2_with fail
  refine k57.mono ?_
  rintro r w2 ⟨v, rfl, hO, hB2⟩
  clear k57
  have hl : dlen m ≤ 2 := (dlen_le 2 m).2 (by have := HH.out.2.2.2.2; unfold B; omega)
  have k56 := c56 (neg := s) (e := e) hO.is (by omega) (HH.out.2.2.2.1.later hB2) (by omega)
  have HB2 : Hid (Below w1.heap.size w1 w2) := hB2
  clear hO hB2 hl
  go_wp2_with fail
  refine k56.mono ?_
  rintro r w3 ⟨A, rfl, hN, hB3⟩
  clear k56
  obtain ⟨s', ao, n', cap, ex, rfl⟩ := hN.shape
  have HB3 : Hid (Below w1.heap.size w1 w3) := HB2.out.trans (hB3.mono HB2.out.size)
  have HC3 : Hid (w3.heap[w.heap.size]? = some (.cells #[.bool false, .slice none 0 0, .int .i64 0] 24 (0, 0))) := box_later HH.out.1 HB3.out (by have := HH.out.2.1; omega)
  obtain ⟨⟨a1, a2, a3⟩, a4, a5, a6⟩ := box_cells HC3.out
  have HN : Hid (Nrm w3 w1.heap.size (.agg #[.bool s', .slice ao n' cap, .int .i64 ex]) s m e) := hN.mono HB2.out.size
  clear hN hB3
  go_wp2
  refine bodyPost_ret (results_cell_tmp_row rfl _ _ w.heap.size 24 #[.bool s', .slice ao n' cap, .int .i64 ex] (0, 0) _ rfl (store3 _ _ _ HC3.out) Tryz.underlying24 rfl Tryz.info24) rfl ?_
  have hs := HH.out.2.1
  exact ⟨_, rfl, (HN.out.store (by omega) _ _ _).mono (by omega), below_store3 (HH.out.2.2.1.trans (HB3.out.mono (by omega))) (Nat.le_refl _) _ _ _⟩

set_option maxRecDepth 200000 in
theorem c9_2 (a m : Nat) (e : Int) (s fin : Bool) (w : World) (hnn : (FloatKind.f64.format.order a a != some Ordering.eq) = true)
    (k55 : ∀ W, Below w.heap.size w W → Calls Tryz.prog 45 #[.float .f64 a] W fun r w' => r = .returned (.tuple #[.int .u64 m, .int .i64 e, .bool s, .bool fin]) ∧ ∃ n, w' = W.drewN n) :
    Calls Tryz.prog 21 #[.float .f64 a] w fun r w' => r = .returned (.tuple #[.agg #[.bool false, .slice none 0 0, .int .i64 0], .int .i64 4]) ∧ Below w.heap.size w w' := by
  have hBW : Below w.heap.size w (w.alloc (.cells #[.bool false, .slice none 0 0, .int .i64 0] 24)) := (Below.refl _ _).alloc (Nat.le_refl _) _
  have k1 := k55 _ hBW
  have HB : Hid (Below w.heap.size w (w.alloc (.cells #[.bool false, .slice none 0 0, .int .i64 0] 24))) := hBW
  clear k55 hBW
  go_enter Tryz.func21, Tryz.ntmps21
  go_wp2_with fail
  refine k1.mono ?_
  rintro r w1' ⟨rfl, dd, rfl⟩
  have HC : Hid (((w.alloc (.cells #[.bool false, .slice none 0 0, .int .i64 0] 24)).drewN dd).heap[w.heap.size]? = some (.cells #[.bool false, .slice none 0 0, .int .i64 0] 24 (0, 0)) ∧ Below w.heap.size w ((w.alloc (.cells #[.bool false, .slice none 0 0, .int .i64 0] 24)).drewN dd)) := ⟨heap_alloc_new w _, HB.out.trans ⟨rfl, rfl, rfl, Nat.le_refl _, fun _ _ => rfl⟩⟩
  clear k1 HB
  generalize (w.alloc (.cells #[.bool false, .slice none 0 0, .int .i64 0] 24)).drewN dd = w1 at *
  obtain ⟨⟨a1, a2, a3⟩, a4, a5, a6⟩ := box_cells HC.out.1
  go_wp2
  refine bodyPost_ret (results_cell_tmp_row rfl _ _ w.heap.size 24 #[.bool false, .slice none 0 0, .int .i64 0] (0, 0) _ rfl (store3 _ _ _ HC.out.1) Tryz.underlying24 rfl Tryz.info24) rfl ?_
  exact ⟨rfl, below_store3 HC.out.2 (Nat.le_refl _) _ _ _⟩
set_option maxRecDepth 200000 in
theorem c9_3 (a m : Nat) (e : Int) (s : Bool) (w : World) (hnn : (FloatKind.f64.format.order a a != some Ordering.eq) = false)
    (k55 : ∀ W, Below w.heap.size w W → Calls Tryz.prog 45 #[.float .f64 a] W fun r w' => r = .returned (.tuple #[.int .u64 m, .int .i64 e, .bool s, .bool false]) ∧ ∃ n, w' = W.drewN n) :
    Calls Tryz.prog 21 #[.float .f64 a] w fun r w' => r = .returned (.tuple #[.agg #[.bool false, .slice none 0 0, .int .i64 0], .int .i64 5]) ∧ Below w.heap.size w w' := by
  have hBW : Below w.heap.size w (w.alloc (.cells #[.bool false, .slice none 0 0, .int .i64 0] 24)) := (Below.refl _ _).alloc (Nat.le_refl _) _
  have k1 := k55 _ hBW
  have HB : Hid (Below w.heap.size w (w.alloc (.cells #[.bool false, .slice none 0 0, .int .i64 0] 24))) := hBW
  clear k55 hBW
  go_enter Tryz.func21, Tryz.ntmps21
  go_wp2_with fail
  refine k1.mono ?_
  rintro r w1' ⟨rfl, dd, rfl⟩
  have HC : Hid (((w.alloc (.cells #[.bool false, .slice none 0 0, .int .i64 0] 24)).drewN dd).heap[w.heap.size]? = some (.cells #[.bool false, .slice none 0 0, .int .i64 0] 24 (0, 0)) ∧ Below w.heap.size w ((w.alloc (.cells #[.bool false, .slice none 0 0, .int .i64 0] 24)).drewN dd)) := ⟨heap_alloc_new w _, HB.out.trans ⟨rfl, rfl, rfl, Nat.le_refl _, fun _ _ => rfl⟩⟩
  clear k1 HB
  generalize (w.alloc (.cells #[.bool false, .slice none 0 0, .int .i64 0] 24)).drewN dd = w1 at *
  obtain ⟨⟨a1, a2, a3⟩, a4, a5, a6⟩ := box_cells HC.out.1
  go_wp2
  refine bodyPost_ret (results_cell_tmp_row rfl _ _ w.heap.size 24 #[.bool false, .slice none 0 0, .int .i64 0] (0, 0) _ rfl (store3 _ _ _ HC.out.1) Tryz.underlying24 rfl Tryz.info24) rfl ?_
  exact ⟨rfl, below_store3 HC.out.2 (Nat.le_refl _) _ _ _⟩

theorem Tab.later {w w' : World} (h : Ie.Tab w) (hb : Below w.heap.size w w') : Ie.Tab w' := fun i hi => (hb.cell (World.block_lt_of_cell? _ _ (h i hi))).trans (h i hi)

theorem sM_lt (a : Nat) (ha : a < 18446744073709551616) : ∃ m : Nat, Ie.sM a = (m : Int) ∧ m < 18446744073709551616 := by
  unfold Ie.sM
  split
  · exact ⟨0, rfl, by omega⟩
  · split
    · exact ⟨0, rfl, by omega⟩
    · rename_i h1 h2
      have hm : Ie.mant a < 18446744073709551616 := by
        unfold Ie.mant
        split <;> omega
      refine ⟨Ie.mant a / 2 ^ Lib.ctz 64 (Ie.mant a), by simp, Nat.lt_of_le_of_lt (Nat.div_le_self ..) hm⟩
end Go.Proofs.YtbmaoiemgepppaaGreatDoor
/- Of, joined with Split. -/
namespace Go.Proofs.YtbmaoiemgepppaaGreatDoor
set_option linter.unusedVariables false
open Go.RowKit Go.Fl64

theorem sE_le (a : Nat) : -4000000 ≤ Ie.sE a ∧ Ie.sE a ≤ 4000000 := by
  unfold Ie.sE
  split
  · omega
  · split
    · omega
    · rename_i h1 h2
      have hm := Ie.mant_ne h2
      have hb := Ie.mant_bound a
      have hl := Ie.lp_bound a
      obtain ⟨_, hk⟩ := Lib.lowest_bit 64 (Ie.mant a) hm (by omega)
      omega

theorem k55_at (a : Nat) (ha : a < 18446744073709551616) (w : World) (hI : Ie.Tab w) :
    ∀ W, Below w.heap.size w W → Calls Tryz.prog 45 #[.float .f64 a] W fun r w' => r = .returned (.tuple #[.int .u64 (Ie.sM a), .int .i64 (Ie.sE a), .bool (Ie.sN a), .bool (Ie.sO a)]) ∧ ∃ n, w' = W.drewN n :=
  fun W hW => Ie.c22 a ha W (Tab.later hI hW)

/-- Of a finite number -/
theorem of_fin (a m : Nat) (ha : a < 18446744073709551616) (w : World) (hT : Tab32 w) (hI : Ie.Tab w) (hf : mag a < 9218868437227405312)
    (hm : Ie.sM a = (m : Int)) :
    Calls Tryz.prog 21 #[.float .f64 a] w fun r w' => ∃ A, r = .returned (.tuple #[A, .int .i64 0]) ∧ Nrm w' w.heap.size A (neg a) m (Ie.sE a) ∧ Below w.heap.size w w' := by
  have k := k55_at a ha w hI
  have hnn : (FloatKind.f64.format.order a a != some Ordering.eq) = false := by rw [self_ne a ha]; unfold isNaN; exact decide_eq_false (by omega)
  have hN : Ie.sN a = neg a := if_neg (by omega)
  have hO : Ie.sO a = true := if_neg (by omega)
  rw [hm, hN, hO] at k
  obtain ⟨m', h1, h2⟩ := sM_lt a ha
  have : m = m' := by omega
  exact c9_1 a m (Ie.sE a) (neg a) w hT (by omega) (sE_le a).1 (sE_le a).2 hnn k

/-- Of an infinity -/
theorem of_inf (a : Nat) (ha : a < 18446744073709551616) (w : World) (hI : Ie.Tab w) (hf : mag a = 9218868437227405312) :
    Calls Tryz.prog 21 #[.float .f64 a] w fun r w' => r = .returned (.tuple #[.agg #[.bool false, .slice none 0 0, .int .i64 0], .int .i64 5]) ∧ Below w.heap.size w w' := by
  have k := k55_at a ha w hI
  obtain ⟨m, h1, h2⟩ := sM_lt a ha
  have hnn : (FloatKind.f64.format.order a a != some Ordering.eq) = false := by rw [self_ne a ha]; unfold isNaN; exact decide_eq_false (by omega)
  have hO : Ie.sO a = false := if_pos (by omega)
  rw [h1, hO] at k
  exact c9_3 a m (Ie.sE a) (Ie.sN a) w hnn k
end Go.Proofs.YtbmaoiemgepppaaGreatDoor
/- A number below 2^64 as a word. -/
namespace Go.Proofs.YtbmaoiemgepppaaGreatDoor
set_option linter.unusedVariables false
set_option linter.unusedSimpArgs false
open Go.RowKit

theorem tf0 {x q d : Nat} (h : x % B ^ (0 + 1) = q + B ^ 0 * d ∧ q < B ^ 0 ∧ d < B) : bits .or .u64 (q : Int) (IntKind.u64.wrap (IntKind.u64.wrap (d : Int))) = (x % B ^ 1 : Nat) := by
  obtain ⟨h1, h2, h3⟩ := h
  rw [Nat.pow_zero] at h1 h2
  have hq : q = 0 := by omega
  subst hq
  rw [wrap_d h3, wrap_d h3, u64_or_nat 0 d (by omega) (by unfold B at h3; omega), Nat.zero_or, show (1 : Nat) = 0 + 1 from rfl, h1]
  simp
theorem tf1 {x q d : Nat} (h : x % B ^ (1 + 1) = q + B ^ 1 * d ∧ q < B ^ 1 ∧ d < B) : bits .or .u64 (q : Int) (IntKind.u64.wrap (IntKind.u64.wrap (d : Int) * 4294967296)) = (x % B ^ 2 : Nat) := by
  obtain ⟨h1, h2, h3⟩ := h
  rw [Nat.pow_one] at h1 h2
  have := two_digits h2 h3
  rw [wrap_d h2] at this
  rw [this, show (2 : Nat) = 1 + 1 from rfl, h1, Nat.mul_comm]

set_option maxRecDepth 200000 in
theorem cword (v : Value) (x n : Nat) (w : World) (h : Is w v x) (hn : Hid (dlen x = n)) (hn2 : n ≤ 2) :
    Calls Tryz.prog 127 #[v] w fun r w' => r = .returned (.int .u64 x) ∧ w' = w := by
  obtain ⟨ao, cap, rfl, -, -, b, o, h3, h4⟩ := h
  rw [hn.out] at h3 h4 ⊢
  go_enter Tryz.func127, Tryz.ntmps127
  go_wp2
  go_loop [3, 8] (fun c s => ∃ i : Nat, i ≤ n ∧ c = .int .u64 (x % B ^ i : Nat) ∧ s = .int .i64 i) (fun _ s => n - (intOf s).toNat)
  case atStart => exact ⟨0, Nat.zero_le _, by simp [Nat.mod_one], rfl⟩
  case round =>
    obtain ⟨i, hi, rfl, rfl⟩ := hrel
    by_cases hin : i < n
    · obtain rfl := h3 (by omega)
      have g := h4 i hin
      have hii : (i : Int) < (n : Int) := by omega
      have HS : Hid (x % B ^ (i + 1) = x % B ^ i + B ^ i * dg x i ∧ x % B ^ i < B ^ i ∧ dg x i < B) := ⟨mod_succ x i, Nat.mod_lt _ (Bpow_pos i), dg_lt _ _⟩
      generalize hq : x % B ^ i = q at *
      generalize hd : dg x i = d at *
      clear h4 hq hd
      rcases (show i = 0 ∨ i = 1 by omega) with rfl | rfl
      · rw [Nat.add_zero] at g
        have hl0 : (0 : Int) < (n : Int) := by omega
        go_wp2
        exact ⟨⟨1, by omega, by rw [tf0 HS.out], rfl⟩, by simp [intOf]; omega⟩
      · have hl1 : (1 : Int) < (n : Int) := by omega
        go_wp2
        exact ⟨⟨2, by omega, by rw [tf1 HS.out], rfl⟩, by simp [intOf]; omega⟩
    · obtain rfl : i = n := by omega
      have hfull : x % B ^ i = x := Nat.mod_eq_of_lt ((dlen_le i x).1 (by rw [hn.out]; omega))
      rw [hfull]
      clear h3 h4 hfull
      go_wp2
      go_ret
      exact ⟨rfl, rfl⟩
end Go.Proofs.YtbmaoiemgepppaaGreatDoor
/- toFloat. -/
namespace Go.Proofs.YtbmaoiemgepppaaGreatDoor
set_option linter.unusedVariables false
set_option linter.unusedSimpArgs false
open Go.RowKit Go.Fl64

set_option maxRecDepth 200000 in
theorem c110_A (neg exact : Bool) (v : Value) (x bx n tzx : Nat) (e mode : Int) (w : World) (h : Is w v x) (hx : dlen x ≤ 2) (hbx : Hid (bl x = bx)) (hb : (bx : Int) ≤ 64) (hn : Hid (dlen x = n)) (hn2 : n ≤ 2) (he1 : -4000000 ≤ e) (he2 : e ≤ 4000000) :
    Calls Tryz.prog 91 #[.bool neg, v, .int .i64 e, .bool exact, .int .i64 mode] w fun r w' => r = .returned (.float .f64 (Ie.mk neg (if exact then x else x ||| 1) e mode 9221120237041090561)) ∧ Below w.heap.size w w' := by
  have k74 := c74 h (by omega)
  rw [hbx.out] at k74
  have k120 := c120 h 0 (by omega) (by omega)
  rw [Nat.pow_zero, Nat.div_one] at k120
  have HX : Hid (dlen x ≤ 2) := hx
  clear h hx
  go_enter Tryz.func91, Tryz.ntmps91
  go_wp2_with fail
  refine k74.mono ?_
  rintro r w1 ⟨rfl, rfl⟩
  clear k74
  go_wp2_with fail
  refine k120.mono ?_
  rintro r w2 ⟨v2, rfl, hO, hB⟩
  clear k120
  have kW := cword v2 x n w2 hO.is hn hn2
  have HB : Hid (Below w1.heap.size w1 w2) := hB
  clear hO hB
  go_wp2_with fail
  refine kW.mono ?_
  rintro r w3 ⟨rfl, rfl⟩
  clear kW
  have hxl : x < 18446744073709551616 := by
    have := (dlen_le 2 x).1 HX.out
    unfold B at this
    omega
  have k154 := fun w => Ie.c24 neg x e mode hxl w
  have k154b := fun w => Ie.c24 neg (x ||| 1) e mode (by have := Nat.or_lt_two_pow (n := 64) hxl (show 1 < 2 ^ 64 by omega); exact this) w
  have hor : bits .or .u64 (x : Int) 1 = ((x ||| 1 : Nat) : Int) := u64_or_nat x 1 hxl (by omega)
  have HOR : Hid (bits .or .u64 (x : Int) 1 = ((x ||| 1 : Nat) : Int)) := hor
  clear hxl hor
  cases exact
  · go_wp2_with fail
    rw [HOR.out]
    refine (k154b _).mono ?_
    rintro r w5 ⟨rfl, rfl⟩
    go_wp2
    go_ret
    exact ⟨by simp, HB.out⟩
  · go_wp2_with fail
    refine (k154 _).mono ?_
    rintro r w5 ⟨rfl, rfl⟩
    go_wp2
    go_ret
    exact ⟨by simp, HB.out⟩

set_option maxRecDepth 200000 in
theorem c110_B (neg exact : Bool) (v : Value) (x z drop t n : Nat) (e mode : Int) (w : World) (hT : Tab32 w) (h : Is w v x) (hx : dlen x ≤ 1000000) (hx0 : x ≠ 0) (hbx : Hid (bl x = drop + 64)) (hd0 : 0 < drop) (hd1 : drop ≤ 32000000) (hz : Hid (x / 2 ^ drop = z)) (hn : Hid (dlen z = n)) (hn2 : n ≤ 2) (ht : Hid (tz x = t)) (wd : Nat) (hwd : Hid ((if exact && !(decide (t < drop)) then z else z ||| 1) = wd)) (he1 : -4000000 ≤ e) (he2 : e ≤ 4000000) :
    Calls Tryz.prog 91 #[.bool neg, v, .int .i64 e, .bool exact, .int .i64 mode] w fun r w' => r = .returned (.float .f64 (Ie.mk neg wd (e + drop) mode 9221120237041090561)) ∧ Below w.heap.size w w' := by
  have k74 := c74 h (by omega)
  rw [hbx.out] at k74
  have k120 := c120 h drop (by omega) (by omega)
  rw [hz.out] at k120
  have HI : Hid (Is w v x ∧ Tab32 w ∧ x ≠ 0 ∧ dlen x ≤ 1000000) := ⟨h, hT, hx0, hx⟩
  have hmx : (0 : Int) < (drop : Int) := by omega
  rw [show ((drop + 64 : Nat) : Int) = (drop : Int) + 64 by omega] at k74
  clear h hx hT hx0
  go_enter Tryz.func91, Tryz.ntmps91
  go_wp2_with fail
  refine k74.mono ?_
  rintro r w1 ⟨rfl, rfl⟩
  clear k74
  go_wp2_with fail
  refine k120.mono ?_
  rintro r w2 ⟨v2, rfl, hO, hB⟩
  clear k120
  have kW := cword v2 z n w2 hO.is hn hn2
  have k119 := c119 (HI.out.1.later hB) (by have := HI.out.2.2.2; omega) HI.out.2.2.1 (HI.out.2.1.later hB)
  rw [ht.out] at k119
  have HB : Hid (Below w1.heap.size w1 w2) := hB
  clear hO hB
  go_wp2_with fail
  refine kW.mono ?_
  rintro r w3 ⟨rfl, rfl⟩
  clear kW
  have hzl : z < 18446744073709551616 := by
    have := (dlen_le 2 z).1 (by rw [hn.out]; exact hn2)
    unfold B at this
    omega
  have k154 := fun w => Ie.c24 neg z (e + drop) mode hzl w
  have k154b := fun w => Ie.c24 neg (z ||| 1) (e + drop) mode (by have := Nat.or_lt_two_pow (n := 64) hzl (show 1 < 2 ^ 64 by omega); exact this) w
  have HOR : Hid (bits .or .u64 (z : Int) 1 = ((z ||| 1 : Nat) : Int)) := u64_or_nat z 1 hzl (by omega)
  clear hzl
  cases exact
  · clear k119
    go_wp2_with fail
    rw [HOR.out]
    refine (k154b _).mono ?_
    rintro r w5 ⟨rfl, rfl⟩
    go_wp2
    go_ret
    have hw : wd = z ||| 1 := by rw [← hwd.out]; simp
    rw [hw]
    exact ⟨rfl, HB.out⟩
  · go_wp2_with fail
    refine k119.mono ?_
    rintro r w4 ⟨rfl, rfl⟩
    clear k119
    by_cases htd : t < drop
    · have htd' : (t : Int) < (drop : Int) := by omega
      go_wp2_with fail
      rw [HOR.out]
      refine (k154b _).mono ?_
      rintro r w5 ⟨rfl, rfl⟩
      go_wp2
      go_ret
      have hw : wd = z ||| 1 := by rw [← hwd.out]; simp [htd]
      rw [hw]
      exact ⟨rfl, HB.out⟩
    · have htd' : ¬ (t : Int) < (drop : Int) := by omega
      go_wp2_with fail
      refine (k154 _).mono ?_
      rintro r w5 ⟨rfl, rfl⟩
      go_wp2
      go_ret
      have hw : wd = z := by rw [← hwd.out]; simp [htd]
      rw [hw]
      exact ⟨rfl, HB.out⟩
end Go.Proofs.YtbmaoiemgepppaaGreatDoor
/- sign, top, rounded, math.Inf. -/
namespace Go.Proofs.YtbmaoiemgepppaaGreatDoor
set_option linter.unusedVariables false
set_option linter.unusedSimpArgs false
open Go.RowKit Go.Fl64

def sgI (neg : Bool) (n : Nat) : Int := if n = 0 then 0 else if neg then -1 else 1

theorem c72 (neg : Bool) (ao : Option Addr) (n cap : Nat) (e : Int) (w : World) (hn : n ≤ 35184372088832) :
    Calls Tryz.prog 96 #[.agg #[.bool neg, .slice ao n cap, .int .i64 e]] w fun r w' => r = .returned (.int .i64 (sgI neg n)) ∧ w' = w.alloc (.cells #[.bool neg, .slice ao n cap, .int .i64 e] 24) := by
  unfold sgI
  by_cases h0 : n = 0
  · subst h0
    go_enter Tryz.func96, Tryz.ntmps96
    go_wp2
    go_ret
    exact ⟨rfl, rfl⟩
  · have hn0 : ((n : Int) == 0) = false := by simp; omega
    rw [if_neg h0]
    cases neg
    · go_enter Tryz.func96, Tryz.ntmps96
      go_wp2
      go_ret
      exact ⟨rfl, rfl⟩
    · go_enter Tryz.func96, Tryz.ntmps96
      go_wp2
      go_ret
      exact ⟨rfl, rfl⟩

set_option maxRecDepth 200000 in
theorem c75_1 (neg : Bool) (ao : Option Addr) (n cap b : Nat) (e : Int) (w : World) (hb : b ≤ 64000000) (he1 : -4000000 ≤ e) (he2 : e ≤ 4000000)
    (k74 : ∀ W, Below w.heap.size w W → Calls Tryz.prog 124 #[.slice ao n cap] W fun r w' => r = .returned (.int .i64 b) ∧ w' = W) :
    Calls Tryz.prog 98 #[.agg #[.bool neg, .slice ao n cap, .int .i64 e]] w fun r w' => r = .returned (.int .i64 (b + e)) ∧ Below w.heap.size w w' := by
  obtain ⟨W, hW⟩ : ∃ W, W = w.alloc (.cells #[.bool neg, .slice ao n cap, .int .i64 e] 24) := ⟨_, rfl⟩
  have hBW : Below w.heap.size w W := by rw [hW]; exact (Below.refl _ _).alloc (Nat.le_refl _) _
  have hbA : W.heap[w.heap.size]? = some (.cells #[.bool neg, .slice ao n cap, .int .i64 e] 24 (0, 0)) := by rw [hW]; exact heap_alloc_new _ _
  obtain ⟨⟨a0, a1, a2⟩, -⟩ := box_cells hbA
  have k := fun d => k74 (W.drewN d) (hBW.trans ⟨rfl, rfl, rfl, Nat.le_refl _, fun _ _ => rfl⟩)
  have HB : Hid (Below w.heap.size w W) := hBW
  clear k74 hBW hbA
  go_enter Tryz.func98, Tryz.ntmps98
  go_wp2
  rw [← hW]
  clear hW
  go_quiet ((go_at_call 124; exact Calls.quiet_of_same (k _)))
  go_wp2
  go_ret
  refine ⟨congrArg Ending.returned (congrArg (Value.int IntKind.i64) ?_), HB.out.trans ⟨rfl, rfl, rfl, Nat.le_refl _, fun _ _ => rfl⟩⟩
  first | rfl | omega | (rw [IntKind.wrap_i64]; omega) | (unfold wrap64; omega)

set_option maxRecDepth 200000 in
theorem c106_1 (neg : Bool) (ao : Option Addr) (n cap F : Nat) (e mode : Int) (w : World)
    (k110 : ∀ W, Below w.heap.size w W → Calls Tryz.prog 91 #[.bool neg, .slice ao n cap, .int .i64 e, .bool true, .int .i64 mode] W fun r w' => r = .returned (.float .f64 F) ∧ Below W.heap.size W w') :
    Calls Tryz.prog 56 #[.agg #[.bool neg, .slice ao n cap, .int .i64 e], .int .i64 mode] w fun r w' => r = .returned (.float .f64 F) ∧ Below w.heap.size w w' := by
  obtain ⟨W, hW⟩ : ∃ W, W = w.alloc (.cells #[.bool neg, .slice ao n cap, .int .i64 e] 24) := ⟨_, rfl⟩
  have hBW : Below w.heap.size w W := by rw [hW]; exact (Below.refl _ _).alloc (Nat.le_refl _) _
  have k := k110 W hBW
  have HB : Hid (Below w.heap.size w W) := hBW
  clear k110 hBW
  go_enter Tryz.func56, Tryz.ntmps56
  go_wp2_with fail
  rw [← hW]
  clear hW
  refine k.mono ?_
  rintro r w1 ⟨rfl, hB1⟩
  have HF : Hid (Below w.heap.size w w1) := HB.out.trans (hB1.mono HB.out.size)
  clear k hB1
  go_wp2
  go_ret
  exact ⟨rfl, HF.out⟩

theorem c61 (w : World) : Calls Tryz.prog 26 #[.int .i64 1] w fun r w' => r = .returned (.float .f64 9218868437227405312) ∧ w' = w := by
  have hb := Ie.run_frombits
  go_enter Tryz.func26, Tryz.ntmps26
  go_wp2
  go_ret
  exact ⟨rfl, rfl⟩
theorem c54 (a b : Nat) (w : World) : Calls Tryz.prog 27 #[.float .f64 a, .float .f64 b] w fun r w' => r = .returned (.bool ((a : Int) == (b : Int))) ∧ w' = w := by
  have hb := Ie.run_bits
  go_enter Tryz.func27, Tryz.ntmps27
  go_wp2
  go_ret
  exact ⟨rfl, rfl⟩
end Go.Proofs.YtbmaoiemgepppaaGreatDoor
/- compare where the signs differ; Cmp. -/
namespace Go.Proofs.YtbmaoiemgepppaaGreatDoor
set_option linter.unusedVariables false
set_option linter.unusedSimpArgs false
open Go.RowKit Go.Fl64

set_option maxRecDepth 200000 in
theorem c77_1 (na nb : Bool) (ua va : Option Addr) (un uc vn vc : Nat) (ea eb s t : Int) (w : World) (hs : Hid (sgI na un = s)) (ht : Hid (sgI nb vn = t)) (hst : (s != t) = true) (hun : un ≤ 35184372088832) (hvn : vn ≤ 35184372088832) :
    Calls Tryz.prog 62 #[.agg #[.bool na, .slice ua un uc, .int .i64 ea], .agg #[.bool nb, .slice va vn vc, .int .i64 eb]] w fun r w' => r = .returned (.int .i64 (cmpI s t)) ∧ Below w.heap.size w w' := by
  obtain ⟨W, hW⟩ : ∃ W, W = (w.alloc (.cells #[.bool na, .slice ua un uc, .int .i64 ea] 24)).alloc (.cells #[.bool nb, .slice va vn vc, .int .i64 eb] 24) := ⟨_, rfl⟩
  have hBW : Below w.heap.size w W := by rw [hW]; exact ((Below.refl _ _).alloc (Nat.le_refl _) _).alloc (by simp) _
  have hbA : W.heap[w.heap.size]? = some (.cells #[.bool na, .slice ua un uc, .int .i64 ea] 24 (0, 0)) := by
    rw [hW, Below.heap_alloc _ _ _ (by simp)]; exact heap_alloc_new _ _
  have hbB : W.heap[w.heap.size + 1]? = some (.cells #[.bool nb, .slice va vn vc, .int .i64 eb] 24 (0, 0)) := by
    have := heap_alloc_new (w.alloc (.cells #[.bool na, .slice ua un uc, .int .i64 ea] 24)) (.cells #[.bool nb, .slice va vn vc, .int .i64 eb] 24)
    rw [hW]; simpa using this
  have hsz : W.heap.size = w.heap.size + 1 + 1 := by rw [hW]; simp
  have HC : Hid (∀ w', Below W.heap.size W w' → (w'.cell? ⟨w.heap.size + 1, 0, none⟩ = some (.bool nb) ∧ w'.cell? ⟨w.heap.size + 1, 1, none⟩ = some (.slice va vn vc) ∧ w'.cell? ⟨w.heap.size + 1, 2, none⟩ = some (.int .i64 eb))) := fun w' hb => (box_cells (box_later hbB hb (by omega))).1
  have ka : ∀ W', Calls Tryz.prog 96 #[.agg #[.bool na, .slice ua un uc, .int .i64 ea]] W' fun r w' => r = .returned (.int .i64 s) ∧ Below W'.heap.size W' w' := fun W' =>
    (c72 na ua un uc ea W' hun).mono fun r w' ⟨e1, e2⟩ => ⟨by rw [e1, hs.out], by rw [e2]; exact (Below.refl _ _).alloc (Nat.le_refl _) _⟩
  have kb : ∀ W', Calls Tryz.prog 96 #[.agg #[.bool nb, .slice va vn vc, .int .i64 eb]] W' fun r w' => r = .returned (.int .i64 t) ∧ Below W'.heap.size W' w' := fun W' =>
    (c72 nb va vn vc eb W' hvn).mono fun r w' ⟨e1, e2⟩ => ⟨by rw [e1, ht.out], by rw [e2]; exact (Below.refl _ _).alloc (Nat.le_refl _) _⟩
  have k128 := c128 s t
  have HB : Hid (Below w.heap.size w W) := hBW
  generalize cmpI s t = cv at *
  clear hBW hbA hbB hsz hs ht
  go_enter Tryz.func62, Tryz.ntmps62
  go_wp2_with fail
  rw [← hW]
  clear hW
  refine (ka W).mono ?_
  rintro r w1 ⟨rfl, hB1⟩
  obtain ⟨x1, x2, x3⟩ := HC.out w1 hB1
  go_wp2_with fail
  refine (kb _).mono ?_
  rintro r w2 ⟨rfl, hB2⟩
  have hB12 := below_step hB1 hB2
  obtain ⟨y1, y2, y3⟩ := HC.out w2 hB12
  clear x1 x2 x3 hB1 hB2
  go_wp2_with fail
  refine (kb _).mono ?_
  rintro r w3 ⟨rfl, hB3⟩
  have HF : Hid (Below w.heap.size w w3) := HB.out.trans ((below_step hB12 hB3).mono HB.out.size)
  clear y1 y2 y3 hB12 hB3 ka kb
  go_wp2_with fail
  refine (k128 _).mono ?_
  rintro r w4 ⟨rfl, rfl⟩
  go_wp2
  go_ret
  exact ⟨rfl, HF.out⟩

set_option maxRecDepth 200000 in
theorem c30_1 (na nb : Bool) (ua va : Option Addr) (un uc vn vc : Nat) (ea eb c : Int) (w : World)
    (k67 : ∀ W g, Below w.heap.size w W → W.heap[g]? = some (.cells #[.bool na, .slice ua un uc, .int .i64 ea, .bool nb, .slice va vn vc, .int .i64 eb] 24 (0, 0)) → Calls Tryz.prog 35 #[.slice (some ⟨g, 0, none⟩) 2 2] W fun r w' => r = .returned (.bool true) ∧ Below W.heap.size W w')
    (k77 : ∀ W, Below w.heap.size w W → Calls Tryz.prog 62 #[.agg #[.bool na, .slice ua un uc, .int .i64 ea], .agg #[.bool nb, .slice va vn vc, .int .i64 eb]] W fun r w' => r = .returned (.int .i64 c) ∧ Below W.heap.size W w') :
    Calls Tryz.prog 29 #[.agg #[.bool na, .slice ua un uc, .int .i64 ea], .agg #[.bool nb, .slice va vn vc, .int .i64 eb]] w fun r w' => r = .returned (.int .i64 c) ∧ Below w.heap.size w w' := by
  obtain ⟨W, hW⟩ : ∃ W, W = ((w.alloc (.cells #[.bool na, .slice ua un uc, .int .i64 ea] 24)).alloc (.cells #[.bool nb, .slice va vn vc, .int .i64 eb] 24)).alloc (.cells #[.bool na, .slice ua un uc, .int .i64 ea, .bool nb, .slice va vn vc, .int .i64 eb] 24) := ⟨_, rfl⟩
  obtain ⟨hA, hBb, hC, hsz, hBW⟩ := boxes3 _ _ _ hW
  have k1 := k67 W (w.heap.size + 1 + 1) hBW hC
  have HH : Hid ((W.heap[w.heap.size]? = some (.cells #[.bool na, .slice ua un uc, .int .i64 ea] 24 (0, 0)) ∧ W.heap[w.heap.size + 1]? = some (.cells #[.bool nb, .slice va vn vc, .int .i64 eb] 24 (0, 0))) ∧ W.heap.size = w.heap.size + 1 + 1 + 1 ∧ Below w.heap.size w W) := ⟨⟨hA, hBb⟩, hsz, hBW⟩
  have HK : Hid (∀ W, Below w.heap.size w W → Calls Tryz.prog 62 #[.agg #[.bool na, .slice ua un uc, .int .i64 ea], .agg #[.bool nb, .slice va vn vc, .int .i64 eb]] W fun r w' => r = .returned (.int .i64 c) ∧ Below W.heap.size W w') := k77
  clear hA hBb hC hsz hBW k67 k77
  go_enter Tryz.func29, Tryz.ntmps29
  go_wp2_with fail
  rw [← hW]
  clear hW
  refine k1.mono ?_
  rintro r w1 ⟨rfl, hB1⟩
  clear k1
  have HB1 : Hid (Below w.heap.size w w1) := HH.out.2.2.trans (hB1.mono HH.out.2.2.size)
  obtain ⟨⟨a0, a1, a2⟩, -⟩ := box_cells (box_later HH.out.1.1 hB1 (by have := HH.out.2.1; omega))
  obtain ⟨⟨b0, b1, b2⟩, -⟩ := box_cells (box_later HH.out.1.2 hB1 (by have := HH.out.2.1; omega))
  clear hB1
  go_wp2_with fail
  refine (HK.out w1 HB1.out).mono ?_
  rintro r w2 ⟨rfl, hB2⟩
  have HF : Hid (Below w.heap.size w w2) := HB1.out.trans (hB2.mono HB1.out.size)
  clear hB2
  go_wp2
  go_ret
  exact ⟨rfl, HF.out⟩
end Go.Proofs.YtbmaoiemgepppaaGreatDoor
/- toFloat, rounded and rootAt, joined. -/
namespace Go.Proofs.YtbmaoiemgepppaaGreatDoor
set_option linter.unusedVariables false
open Go.RowKit Go.Fl64

/-- how many binary digits toFloat leaves out -/
def tfD (x : Nat) : Nat := bl x - 64
/-- the digits that it keeps, the last one odd where something was left out -/
def tfM (exact : Bool) (x : Nat) : Nat := if exact && !(decide (tz x < tfD x)) then x / 2 ^ tfD x else x / 2 ^ tfD x ||| 1
/-- toFloat's answer -/
def tfF (neg exact : Bool) (x : Nat) (e mode : Int) : Nat := Ie.mk neg (tfM exact x) (e + (tfD x : Int)) mode 9221120237041090561

theorem bl_le_dlen (x : Nat) : bl x ≤ 32 * dlen x := by
  have h := (dlen_le (dlen x) x).1 (Nat.le_refl _)
  refine (bl_le x _).2 ?_
  rw [Nat.pow_mul]
  exact h

theorem dlen_div_tfD (x : Nat) : dlen (x / 2 ^ tfD x) ≤ 2 := by
  refine (dlen_le 2 _).2 ?_
  have h1 : x < 2 ^ (tfD x + 64) := Nat.lt_of_lt_of_le (lt_bl x) (Nat.pow_le_pow_right (by decide) (by unfold tfD; omega))
  have h2 : B ^ 2 = 2 ^ 64 := by unfold B; decide
  rw [h2]
  rw [Nat.pow_add] at h1
  exact Nat.div_lt_of_lt_mul h1

theorem c110 {neg exact : Bool} {v : Value} {x : Nat} {e mode : Int} {w : World} (hT : Tab32 w) (h : Is w v x) (hx : dlen x ≤ 1000000) (he1 : -4000000 ≤ e) (he2 : e ≤ 4000000) :
    Calls Tryz.prog 91 #[.bool neg, v, .int .i64 e, .bool exact, .int .i64 mode] w fun r w' => r = .returned (.float .f64 (tfF neg exact x e mode)) ∧ Below w.heap.size w w' := by
  have hz := dlen_div_tfD x
  have hbd := bl_le_dlen x
  by_cases hb : bl x ≤ 64
  · have hd : tfD x = 0 := by unfold tfD; omega
    have e1 : tfF neg exact x e mode = Ie.mk neg (if exact then x else x ||| 1) e mode 9221120237041090561 := by
      unfold tfF tfM
      rw [hd, Nat.pow_zero, Nat.div_one, decide_eq_false (Nat.not_lt_zero _), Bool.not_false, Bool.and_true]
      simp
    rw [hd, Nat.pow_zero, Nat.div_one] at hz
    rw [e1]
    exact c110_A neg exact v x (bl x) (dlen x) 0 e mode w h hz rfl (by omega) rfl hz he1 he2
  · have hx0 : x ≠ 0 := by
      intro h0
      apply hb
      rw [h0]
      decide
    exact c110_B neg exact v x (x / 2 ^ tfD x) (tfD x) (tz x) (dlen (x / 2 ^ tfD x)) e mode w hT h hx hx0 (show bl x = tfD x + 64 by unfold tfD; omega) (by unfold tfD; omega) (by unfold tfD; omega) rfl rfl hz rfl (tfM exact x) rfl he1 he2

theorem c106 {neg : Bool} {v : Value} {x : Nat} {e mode : Int} {w : World} (hT : Tab32 w) (h : Is w v x) (hx : dlen x ≤ 1000000) (he1 : -4000000 ≤ e) (he2 : e ≤ 4000000) :
    Calls Tryz.prog 56 #[NumV neg v e, .int .i64 mode] w fun r w' => r = .returned (.float .f64 (tfF neg true x e mode)) ∧ Below w.heap.size w w' := by
  have h' := h
  obtain ⟨ua, uc, rfl, -, -, -⟩ := h'
  exact c106_1 neg ua _ uc _ e mode w fun W hW => c110 (hT.later hW) (h.later hW) hx he1 he2

/-- the scaled number of which rootAt takes the root -/
def rtQ (x : Nat) (ea place : Int) : Nat := if 0 ≤ ea + 2 * place then x * 2 ^ (ea + 2 * place).toNat else x / 2 ^ (-(ea + 2 * place)).toNat

theorem c102 {neg : Bool} {u : Value} {x : Nat} {ea place : Int} {w : World} (h : Is w u x) (hx : dlen x ≤ 1000000) (hq : dlen (rtQ x ea place) ≤ 1000000) (he : -2000000 ≤ ea ∧ ea ≤ 2000000) (hp : -1000000 ≤ place ∧ place ≤ 1000000) :
    Calls Tryz.prog 54 #[NumV neg u ea, .int .i64 place] w fun r w' => ∃ v m, r = .returned (.tuple #[v, .bool (decide (0 ≤ ea + 2 * place ∨ x = 0) && decide (m * m = rtQ x ea place))]) ∧ Own w' w.heap.size v m ∧ m * m ≤ rtQ x ea place ∧ rtQ x ea place < (m + 1) * (m + 1) ∧ Below w.heap.size w w' := by
  have h' := h
  obtain ⟨ua, uc, rfl, -, -, -⟩ := h'
  exact c102_1 neg ua _ uc x _ _ ea place w hq hp.1 hp.2 fun W hW => c95 (h.later hW) hx he (by omega)
end Go.Proofs.YtbmaoiemgepppaaGreatDoor
/- mayBe of one and of three. -/
namespace Go.Proofs.YtbmaoiemgepppaaGreatDoor
set_option linter.unusedVariables false
set_option linter.unusedSimpArgs false
open Go.RowKit

theorem maybe1 {na : Bool} {ua : Option Addr} {uc x g : Nat} {ea : Int} {W : World} (hg : W.heap[g]? = some (.cells #[.bool na, .slice ua (dlen x) uc, .int .i64 ea] 24 (0, 0)))
    (h1 : Is W (.slice ua (dlen x) uc) x) (hx : dlen x ≤ 35184372088832) :
    Calls Tryz.prog 35 #[.slice (some ⟨g, 0, none⟩) 1 1] W fun r w' => r = .returned (.bool (okN na (dlen x) x ea)) ∧ Below W.heap.size W w' := by
  obtain ⟨ao1, c1, e1, -, -, a1⟩ := h1
  simp only [Value.slice.injEq] at e1
  obtain ⟨rfl, -, rfl⟩ := e1
  have k := c67 g 1 (fun _ => na) (fun _ => ua) (fun _ => dlen x) (fun _ => uc) (fun _ => x) (fun _ => ea) W (by omega)
    (fun i hi => by obtain rfl : i = 0 := by omega
                    simp [World.cell?, hg])
    (fun i hi => by obtain rfl : i = 0 := by omega
                    simp [World.cell?, hg])
    (fun i hi => by obtain rfl : i = 0 := by omega
                    simp [World.cell?, hg])
    (fun i hi => a1) (fun i hi => hx)
  refine k.mono ?_
  rintro r w' ⟨rfl, hb⟩
  refine ⟨congrArg Ending.returned (congrArg Value.bool ?_), hb⟩
  rw [Bool.eq_iff_iff]
  simp only [decide_eq_true_eq]
  exact ⟨fun h => h 0 (by omega), fun h i hi => h⟩

theorem maybe3 {na nb nc : Bool} {ua va wa : Option Addr} {uc vc wc x y z g : Nat} {ea eb ec : Int} {W : World} (hg : W.heap[g]? = some (.cells #[.bool na, .slice ua (dlen x) uc, .int .i64 ea, .bool nb, .slice va (dlen y) vc, .int .i64 eb, .bool nc, .slice wa (dlen z) wc, .int .i64 ec] 24 (0, 0)))
    (h1 : Is W (.slice ua (dlen x) uc) x) (h2 : Is W (.slice va (dlen y) vc) y) (h3 : Is W (.slice wa (dlen z) wc) z) (hx : dlen x ≤ 35184372088832) (hy : dlen y ≤ 35184372088832) (hz : dlen z ≤ 35184372088832) :
    Calls Tryz.prog 35 #[.slice (some ⟨g, 0, none⟩) 3 3] W fun r w' => r = .returned (.bool (okN na (dlen x) x ea && okN nb (dlen y) y eb && okN nc (dlen z) z ec)) ∧ Below W.heap.size W w' := by
  obtain ⟨ao1, c1, e1, -, -, a1⟩ := h1
  obtain ⟨ao2, c2, e2, -, -, a2⟩ := h2
  obtain ⟨ao3, c3, e3, -, -, a3⟩ := h3
  simp only [Value.slice.injEq] at e1 e2 e3
  obtain ⟨rfl, -, rfl⟩ := e1
  obtain ⟨rfl, -, rfl⟩ := e2
  obtain ⟨rfl, -, rfl⟩ := e3
  have k := c67 g 3 (fun i => if i = 0 then na else if i = 1 then nb else nc) (fun i => if i = 0 then ua else if i = 1 then va else wa) (fun i => if i = 0 then dlen x else if i = 1 then dlen y else dlen z) (fun i => if i = 0 then uc else if i = 1 then vc else wc) (fun i => if i = 0 then x else if i = 1 then y else z) (fun i => if i = 0 then ea else if i = 1 then eb else ec) W (by omega)
    (fun i hi => by rcases (show i = 0 ∨ i = 1 ∨ i = 2 by omega) with rfl | rfl | rfl <;> simp [World.cell?, hg])
    (fun i hi => by rcases (show i = 0 ∨ i = 1 ∨ i = 2 by omega) with rfl | rfl | rfl <;> simp [World.cell?, hg])
    (fun i hi => by rcases (show i = 0 ∨ i = 1 ∨ i = 2 by omega) with rfl | rfl | rfl <;> simp [World.cell?, hg])
    (fun i hi => by rcases (show i = 0 ∨ i = 1 ∨ i = 2 by omega) with rfl | rfl | rfl <;> simp <;> assumption)
    (fun i hi => by rcases (show i = 0 ∨ i = 1 ∨ i = 2 by omega) with rfl | rfl | rfl <;> simp <;> omega)
  refine k.mono ?_
  rintro r w' ⟨rfl, hb⟩
  refine ⟨congrArg Ending.returned (congrArg Value.bool ?_), hb⟩
  rw [Bool.eq_iff_iff]
  simp only [decide_eq_true_eq, Bool.and_eq_true]
  constructor
  · intro h
    have h0 := h 0 (by omega)
    have h1 := h 1 (by omega)
    have h2 := h 2 (by omega)
    simp at h0 h1 h2
    exact ⟨⟨h0, h1⟩, h2⟩
  · rintro ⟨⟨h0, h1⟩, h2⟩ i hi
    rcases (show i = 0 ∨ i = 1 ∨ i = 2 by omega) with rfl | rfl | rfl
    · simpa using h0
    · simpa using h1
    · simpa using h2
end Go.Proofs.YtbmaoiemgepppaaGreatDoor
/- product, Mul. -/
namespace Go.Proofs.YtbmaoiemgepppaaGreatDoor
set_option linter.unusedVariables false
set_option linter.unusedSimpArgs false
open Go.RowKit

end Go.Proofs.YtbmaoiemgepppaaGreatDoor
/- Sign. -/
namespace Go.Proofs.YtbmaoiemgepppaaGreatDoor
set_option linter.unusedVariables false
set_option linter.unusedSimpArgs false
open Go.RowKit

end Go.Proofs.YtbmaoiemgepppaaGreatDoor
/- Regions that draw their order, by an invariant: values that are called for, and laid into new boxes all at once. -/
namespace Go.Proofs.YtbmaoiemgepppaaGreatDoor
set_option linter.unusedVariables false
set_option linter.unusedSimpArgs false
open Go.RowKit

theorem wpAny_inv {P : Program} {ops : Array Oper} {Q : Exit → Act → World → Prop} {md : Region.Mode} (I : Array Bool → Act → World → Prop)
    (hs : ∀ listed a w i, listed.size = ops.size → I listed a w → i ∈ Region.ready md ops listed → wpOp P ops Q i (fun a' w' => I (listed.setIfInBounds i true) a' w') a w)
    (he : ∀ listed a w, listed.size = ops.size → I listed a w → Region.ready md ops listed = [] → Q .normal a w) :
    ∀ (fuel : Nat) (listed : Array Bool) (a : Act) (w : World), listed.size = ops.size → I listed a w → listed.toList.count false ≤ fuel → wpAny P md ops Q fuel listed a w := by
  have hcount : ∀ (listed : Array Bool) i, listed.getD i true = false → i < listed.toList.length ∧ listed.toList[i]? = some false := by
    intro listed i h
    by_cases hl : i < listed.size
    · refine ⟨by simpa using hl, ?_⟩
      simp only [Array.getD_eq_getD_getElem?, Array.getElem?_eq_getElem hl, Option.getD_some] at h
      simp [Array.getElem?_toList, Array.getElem?_eq_getElem hl, h]
    · simp [Array.getD_eq_getD_getElem?, Array.getElem?_eq_none (Nat.le_of_not_lt hl)] at h
  intro fuel
  induction fuel with
  | zero =>
    intro listed a w hl hI hc
    have h0 : Region.ready md ops listed = [] := by
      cases hr : Region.ready md ops listed with
      | nil => rfl
      | cons x xs =>
        have hx := (mem_ready.1 (show x ∈ Region.ready md ops listed by rw [hr]; exact List.mem_cons_self ..)).1
        have h1 := (hcount listed x hx).2
        have h2 : false ∈ listed.toList := List.mem_of_getElem? h1
        have := List.count_pos_iff.2 h2
        omega
    exact ⟨h0, he listed a w hl hI h0⟩
  | succ fuel ih =>
    intro listed a w hl hI hc
    refine ⟨fun h => he listed a w hl hI h, fun i hi => ?_⟩
    refine wpOp_mono (fun a' w' hI' => ih _ a' w' (by simpa using hl) hI' ?_) (hs listed a w i hl hI hi)
    obtain ⟨h1, h2⟩ := hcount listed i (mem_ready.1 hi).1
    have h3 : listed.toList[i] = false := by
      have := List.getElem?_eq_getElem h1
      rw [this] at h2
      exact Option.some.inj h2
    have h4 := List.count_set (l := listed.toList) (i := i) (a := true) (b := false) h1
    have h5 : 0 < listed.toList.count false := List.count_pos_iff.2 (List.mem_of_getElem? h2)
    rw [Array.toList_setIfInBounds, h4, h3]
    have e1 : (if (false == false) = true then 1 else 0) = 1 := rfl
    have e2 : (if (true == false) = true then 1 else 0) = 0 := rfl
    rw [e1, e2]
    omega

theorem not_listed {listed : Array Bool} {i : Nat} (h : listed.getD i true = false) : listed.getD i false = false := by
  by_cases hl : i < listed.size
  · simp only [Array.getD_eq_getD_getElem?, Array.getElem?_eq_getElem hl, Option.getD_some] at h ⊢
    exact h
  · simp [Array.getD_eq_getD_getElem?, Array.getElem?_eq_none (Nat.le_of_not_lt hl)]
theorem listed_set {listed : Array Bool} {i : Nat} (h : i < listed.size) : (listed.setIfInBounds i true).getD i false = true := by
  simp [Array.getD_eq_getD_getElem?, h]

theorem put_get_ne {a : Act} {d s : Tmp} {v : Value} (h : s ≠ d) : (a.put (some d) v).tmps[s]? = a.tmps[s]? := by
  simp [Act.put, Array.getElem?_setIfInBounds, Ne.symm h]
theorem put_get {a : Act} {d : Tmp} {v : Value} (h : d < a.tmps.size) : (a.put (some d) v).tmps[d]? = some v := by
  simp [Act.put, Array.getElem?_setIfInBounds, h]
theorem put_size {a : Act} {d : Option Tmp} {v : Value} : (a.put d v).tmps.size = a.tmps.size := by
  cases d <;> simp [Act.put]
theorem put_defers {a : Act} {d : Option Tmp} {v : Value} : (a.put d v).defers = a.defers := by
  cases d <;> simp [Act.put]
theorem eval_get {a : Act} {s : Tmp} {v : Value} (h : a.tmps[s]? = some v) : a.eval (.tmp s) = v := by
  simp [Act.eval, Array.getD_eq_getD_getElem?, h]

theorem step_wanted {P : Program} {ops : Array Oper} {Q : Exit → Act → World → Prop} {i : Nat} {o : Oper} {K : Act → World → Prop} {a : Act} {w : World}
    (hi : ops[i]? = some o) (hg : o.guard = none) (h : o.wp P a w K Q) : wpOp P ops Q i K a w := by
  unfold wpOp
  simp only [hi]
  rw [if_pos (by simp [Region.wanted, hg])]
  exact .inl h

theorem enters {P : Program} {f : FuncId} {fn : Func} (hf : P.funcs[f]? = some fn) (hname : (fn.name == "runtime.NumGoroutine") = false) (hb : fn.body.isNone = false) (vs : Array Value) (w : World) :
    (callFunc f vs).run P w = .ok (.enter f vs) w := by
  have h1 : ¬ fn.name = "runtime.NumGoroutine" := by simpa using hname
  have h2 : ¬ fn.body = none := by intro e; rw [e] at hb; simp at hb
  simp [callFunc, hf, h1, h2]

end Go.Proofs.YtbmaoiemgepppaaGreatDoor
/- The document's trim. -/
namespace Go.Proofs.YtbmaoiemgepppaaGreatDoor
set_option linter.unusedVariables false
set_option linter.unusedSimpArgs false
open Go.RowKit

theorem r40 (ao : Option Addr) (n cap x : Nat) (w : World) (hx : dlen x ≤ n) (hn : n ≤ cap) (hc : n ≤ 70368744177664) (h : At w ao n x) :
    Calls Tryz.prog 18 #[.slice ao n cap] w fun e w' => e = .returned (.slice ao (dlen x) cap) ∧ w' = w := by
  obtain ⟨b, o, hb, hcell⟩ := h
  go_enter Tryz.func18, Tryz.ntmps18
  go_wp2
  go_loop [3] (fun v => ∃ k : Nat, k ≤ n ∧ v = .int .i64 (k : Int) ∧ dlen x ≤ k) (fun v => (intOf v).toNat)
  case atStart => exact ⟨n, Nat.le_refl _, rfl, hx⟩
  case round =>
    obtain ⟨k, hk, rfl, hd⟩ := hrel
    by_cases h0 : k = 0
    · subst h0
      have e : dlen x = 0 := by omega
      clear hd hx
      go_wp2
      go_ret
      exact ⟨rfl, rfl⟩
    · obtain ⟨j, rfl⟩ : ∃ j, k = j + 1 := ⟨k - 1, by omega⟩
      have hj : j < n := by omega
      obtain rfl := hb (by omega)
      have g := hcell j hj
      have HD : Hid (dlen x ≤ j + 1) := hd
      clear hd hcell hx
      generalize hq : dg x j = q at g
      have HQ : Hid (dg x j = q) := hq
      clear hq
      by_cases hq0 : q = 0
      · subst hq0
        go_wp2
        exact ⟨⟨j, by omega, by simp, dlen_down HD.out (by omega) HQ.out⟩, by simp [intOf]⟩
      · have hq1 : ((q : Int) == 0) = false := by simp; exact hq0
        go_wp2
        go_ret
        rw [dlen_here HD.out (.inr (by rw [Nat.add_sub_cancel, HQ.out]; exact hq0))]
        exact ⟨rfl, rfl⟩
end Go.Proofs.YtbmaoiemgepppaaGreatDoor
/- The document's down. -/
namespace Go.Proofs.YtbmaoiemgepppaaGreatDoor
set_option linter.unusedVariables false
set_option linter.unusedSimpArgs false
open Go.RowKit

theorem cells_succ (x n : Nat) : cells x (n + 1) = cells x n ++ [.int .u32 (dg x n : Nat)] := by
  simp [cells, List.range_succ]
/-- a row that append made: its digits can be read -/
theorem at_of_row {w : World} {base : Nat} {v : Value} {y n : Nat} (h : w.ownsRow base 49 1 v n (cells y n)) :
    ∃ ao cap, v = .slice ao n cap ∧ n ≤ cap ∧ At w ao n y := by
  rcases h.2 with ⟨hv, h0⟩ | ⟨g, cap, c, hv, hb, hc, h1, h2, h3, h4⟩
  · exact ⟨none, 0, by rw [hv, h0], by omega, 0, 0, fun h => by omega, fun i hi => by omega⟩
  · refine ⟨_, cap, hv, h1, g, 0, fun _ => rfl, fun i hi => ?_⟩
    have h5 : (cells y n)[i]? = c[i]? := by
      rw [← h4, Nat.mul_one, List.getElem?_take, if_pos hi, Array.getElem?_toList]
    rw [cells_get hi] at h5
    rw [Nat.zero_add]
    simp [World.cell?, hc, ← h5]
theorem at_short {w : World} {ao : Option Addr} {n m y : Nat} (h : At w ao n y) (hm : m ≤ n) : At w ao m y := by
  obtain ⟨b, o, h1, h2⟩ := h
  exact ⟨b, o, fun h => h1 (by omega), fun i hi => h2 i (by omega)⟩

end Go.Proofs.YtbmaoiemgepppaaGreatDoor
/- The document's norm. -/
namespace Go.Proofs.YtbmaoiemgepppaaGreatDoor
set_option linter.unusedVariables false
set_option linter.unusedSimpArgs false
open Go.RowKit

theorem Tryz.info28 : (Tryz.prog.info? 28).map (·.size) = some 3 := by kernel_rfl
theorem store3_29 {w : World} {g : Nat} {a b c : Value} (a' b' c' : Value) (h : w.heap[g]? = some (.cells #[a, b, c] 28 (0, 0))) :
    (((w.setCell ⟨g, 0, none⟩ a').setCell ⟨g, 1, none⟩ b').setCell ⟨g, 2, none⟩ c').heap[g]? = some (.cells #[a', b', c'] 28 (0, 0)) := by
  simp [World.setCell, Array.getElem?_modify, h]
theorem box_cells29 {w : World} {g : Nat} {a b c : Value} (h : w.heap[g]? = some (.cells #[a, b, c] 28 (0, 0))) :
    (w.cell? ⟨g, 0, none⟩ = some a ∧ w.cell? ⟨g, 1, none⟩ = some b ∧ w.cell? ⟨g, 2, none⟩ = some c) ∧ (w.frozen? ⟨g, 0, none⟩ = false ∧ w.frozen? ⟨g, 1, none⟩ = false ∧ w.frozen? ⟨g, 2, none⟩ = false) := by
  simp [World.cell?, World.frozen?, h]
/-- what the document's norm makes -/
def Nr (w' : World) (base : Nat) (a : Value) (neg : Bool) (x : Nat) (e : Int) : Prop :=
  (x = 0 ∧ a = NumV false (.slice none 0 0) 0) ∨ (x ≠ 0 ∧ ∃ g cap, a = NumV neg (.slice (some ⟨g, 0, none⟩) (dlen (x / 2 ^ tz x)) cap) (e + tz x) ∧ base ≤ g ∧ At w' (some ⟨g, 0, none⟩) (dlen (x / 2 ^ tz x)) (x / 2 ^ tz x))

theorem and_one32 (a : Nat) (h : a < 4294967296) : bits .and .u32 (a : Int) 1 = ((a % 2 : Nat) : Int) := by
  have e := u32_and_nat a 1 h (by decide)
  rw [show ((1 : Nat) : Int) = 1 from rfl] at e
  rw [e, Nat.and_one_is_mod]
end Go.Proofs.YtbmaoiemgepppaaGreatDoor
/- slices.Clone, negated. -/
namespace Go.Proofs.YtbmaoiemgepppaaGreatDoor
set_option linter.unusedVariables false
set_option linter.unusedSimpArgs false
open Go.RowKit

end Go.Proofs.YtbmaoiemgepppaaGreatDoor
/- negated, of a number below nought. -/
namespace Go.Proofs.YtbmaoiemgepppaaGreatDoor
set_option linter.unusedVariables false
set_option linter.unusedSimpArgs false
open Go.RowKit

end Go.Proofs.YtbmaoiemgepppaaGreatDoor
/- negated. -/
namespace Go.Proofs.YtbmaoiemgepppaaGreatDoor
set_option linter.unusedVariables false
set_option linter.unusedSimpArgs false
open Go.RowKit

end Go.Proofs.YtbmaoiemgepppaaGreatDoor
/- Up, refused. -/
namespace Go.Proofs.YtbmaoiemgepppaaGreatDoor
set_option linter.unusedVariables false
set_option linter.unusedSimpArgs false
open Go.RowKit

end Go.Proofs.YtbmaoiemgepppaaGreatDoor
/- math.Abs, math.IsInf. -/
namespace Go.Proofs.YtbmaoiemgepppaaGreatDoor
set_option linter.unusedVariables false
set_option linter.unusedSimpArgs false
open Go.RowKit Go.Fl64

theorem c159 (a : Nat) (ha : a < 18446744073709551616) (w : World) :
    Calls Tryz.prog 92 #[.float .f64 a] w fun e w' => e = .returned (.float .f64 (mag a)) ∧ w' = w := by
  have hb := Ie.run_bits
  have hf := Ie.run_frombits
  go_enter Tryz.func92, Tryz.ntmps92
  go_wp2
  go_ret
  refine ⟨?_, rfl⟩
  show Ending.returned (.float .f64 (bits .andNot .u64 a 9223372036854775808).toNat) = _
  rw [andNot_sign a ha]
  simp

theorem mag_lt' (a : Nat) (ha : a < 18446744073709551616) : mag a < 18446744073709551616 := by unfold mag; omega

theorem c123 (a : Nat) (ha : a < 18446744073709551616) (w : World) :
    Calls Tryz.prog 57 #[.float .f64 a, .int .i64 0] w fun e w' => e = .returned (.bool (lt 9218868437227405311 (mag a))) ∧ w' = w := by
  have k := c159 a ha
  have h := ord_gt (mag a) 9218868437227405311 (mag_lt' a ha) (by omega)
  generalize mag a = m at *
  have H : Hid ((FloatKind.f64.format.order m 9218868437227405311 == some Ordering.gt) = lt 9218868437227405311 m) := h
  clear h
  go_enter Tryz.func57, Tryz.ntmps57
  go_wp2_with (first | (go_at_call 92; refine (k _).mono ?_; rintro e w' ⟨rfl, rfl⟩))
  go_ret
  exact ⟨congrArg Ending.returned (congrArg Value.bool H.out), rfl⟩

theorem c185 (w : World) : Calls Tryz.prog 137 #[.int .i64 16] w fun e w' => e = .returned (.bool true) ∧ w' = w := by
  have h : (bits .and .i64 16 15 == 0) = true := by decide +kernel
  have H : Hid ((bits .and .i64 16 15 == 0) = true) := h
  clear h
  go_enter Tryz.func137, Tryz.ntmps137
  go_wp2
  go_ret
  exact ⟨congrArg Ending.returned (congrArg Value.bool H.out), rfl⟩
theorem c186 (w : World) (hT : Ie.Tab w) : Calls Tryz.prog 138 #[.int .u64 16] w fun e w' => e = .returned (.int .i64 4) ∧ w' = w := by
  have k := Ie.c51 16 (by omega) (by omega) w hT
  have e : Lib.ctz 64 16 = 4 := by decide
  rw [e] at k
  clear e
  go_enter Tryz.func138, Tryz.ntmps138
  go_wp2_with fail
  refine k.mono ?_
  rintro r w1 ⟨rfl, rfl⟩
  go_wp2
  go_ret
  exact ⟨rfl, rfl⟩

/-- the digits' signs in base 16, as the library writes them -/
def hx (d : Nat) : Nat := if d < 10 then 48 + d else 87 + d

end Go.Proofs.YtbmaoiemgepppaaGreatDoor
/- formatBits at base 16. -/
namespace Go.Proofs.YtbmaoiemgepppaaGreatDoor
set_option linter.unusedVariables false
set_option linter.unusedSimpArgs false
open Go.RowKit Go.Fl64

theorem z147 : Tryz.zeroCells159 = Array.replicate 65 (.int .u8 0) := by kernel_rfl

/-- the array of 65 bytes that the call lays, its bytes f -/
structure Bt (w wr : World) (f : Nat → Nat) : Prop where
  below : Below w.heap.size w wr
  row : ∃ c : Array Value, wr.heap[w.heap.size]? = some (.cells c 159 (0, 0)) ∧ c.size = 65 ∧ ∀ t, t < 65 → c[t]? = some (.int .u8 (f t : Nat))
theorem Bt.start (w : World) : Bt w (w.alloc (.cells Tryz.zeroCells159 159)) (fun _ => 0) :=
  ⟨(Below.refl _ _).alloc (Nat.le_refl _) _, _, heap_alloc_new _ _, by rw [z147]; simp, fun t ht => by rw [z147]; simp [ht]⟩
theorem Bt.cell {w wr : World} {f : Nat → Nat} (h : Bt w wr f) {i : Nat} (hi : i < 65) : wr.cell? ⟨w.heap.size, i, none⟩ = some (.int .u8 (f i : Nat)) := by
  obtain ⟨c, h1, h2, h3⟩ := h.row
  simp [World.cell?, h1, h3 i hi]
theorem Bt.frozen {w wr : World} {f : Nat → Nat} (h : Bt w wr f) (i : Nat) : wr.frozen? ⟨w.heap.size, i, none⟩ = false := by
  obtain ⟨c, h1, _, _⟩ := h.row
  simp [World.frozen?, h1]

theorem Bt.set {w wr : World} {f : Nat → Nat} (h : Bt w wr f) (i d : Nat) : Bt w (wr.setCell ⟨w.heap.size, i, none⟩ (.int .u8 (d : Nat))) (fun t => if t = i then d else f t) := by
  obtain ⟨c, h1, h2, h3⟩ := h.row
  refine ⟨h.below.setCell (Nat.le_refl _) _, c.setIfInBounds i (.int .u8 (d : Nat)), ?_, by simpa using h2, fun t ht => ?_⟩
  · simp [World.setCell, Array.getElem?_modify, h1]
  · rw [Array.getElem?_setIfInBounds]
    by_cases e : t = i
    · subst e; simp [h2, ht]
    · rw [if_neg (fun h => e h.symm), h3 t ht]; simp [e]
theorem Bt.congr {w wr : World} {f g : Nat → Nat} (h : Bt w wr f) (e : ∀ t, t < 65 → f t = g t) : Bt w wr g := by
  obtain ⟨c, h1, h2, h3⟩ := h.row
  exact ⟨h.below, c, h1, h2, fun t ht => by rw [h3 t ht, e t ht]⟩
theorem hex_get (m : Nat) (hm : m < 16) (h : m < (⟨#[48, 49, 50, 51, 52, 53, 54, 55, 56, 57, 97, 98, 99, 100, 101, 102, 103, 104, 105, 106, 107, 108, 109, 110, 111, 112, 113, 114, 115, 116, 117, 118, 119, 120, 121, 122]⟩ : ByteArray).size) : ((⟨#[48, 49, 50, 51, 52, 53, 54, 55, 56, 57, 97, 98, 99, 100, 101, 102, 103, 104, 105, 106, 107, 108, 109, 110, 111, 112, 113, 114, 115, 116, 117, 118, 119, 120, 121, 122]⟩ : ByteArray)[m]'h).toNat = hx m := by
  have : m = 0 ∨ m = 1 ∨ m = 2 ∨ m = 3 ∨ m = 4 ∨ m = 5 ∨ m = 6 ∨ m = 7 ∨ m = 8 ∨ m = 9 ∨ m = 10 ∨ m = 11 ∨ m = 12 ∨ m = 13 ∨ m = 14 ∨ m = 15 := by omega
  rcases this with rfl | rfl | rfl | rfl | rfl | rfl | rfl | rfl | rfl | rfl | rfl | rfl | rfl | rfl | rfl | rfl <;> rfl
/-- one sign more -/
theorem hex_step {w wr : World} {u j k d : Nat} (hM : Bt w wr (fun t => if 65 - j ≤ t then hx (u / 16 ^ (64 - t) % 16) else 0)) (hk : 65 - j = k + 1) (hd : d = hx (u / 16 ^ j % 16)) (hj : j ≤ 8) :
    Bt w (wr.setCell ⟨w.heap.size, k, none⟩ (.int .u8 (d : Nat))) (fun t => if 65 - (j + 1) ≤ t then hx (u / 16 ^ (64 - t) % 16) else 0) := by
  refine (hM.set k d).congr fun t ht => ?_
  by_cases e : t = k
  · subst e
    rw [if_pos rfl, if_pos (by omega), hd, show 64 - t = j by omega]
  · rw [if_neg e]
    by_cases e2 : 65 - j ≤ t
    · rw [if_pos e2, if_pos (by omega)]
    · rw [if_neg e2, if_neg (by omega)]

/-- the signs of u in base 16, j + 1 of them, the highest first -/
def hexL (u j : Nat) : List UInt8 := (List.range (j + 1)).map fun i => UInt8.ofNat (hx (u / 16 ^ (j - i) % 16))
theorem hexL_length (u j : Nat) : (hexL u j).length = j + 1 := by simp [hexL]
theorem hx_lt (d : Nat) (h : d < 16) : hx d < 256 := by unfold hx; split <;> omega
theorem hexL_get {u j i : Nat} (h : i < (hexL u j).length) : ((hexL u j)[i].toNat : Int) = (hx (u / 16 ^ (j - i) % 16) : Nat) := by
  simp only [hexL, List.getElem_map, List.getElem_range]
  have := hx_lt (u / 16 ^ (j - i) % 16) (Nat.mod_lt _ (by omega))
  rw [UInt8.toNat_ofNat_of_lt' this]
theorem arr147 (W : World) (g k : Nat) (hk : k < 65) : (Instr.sliceAt 159 (.pointer (some ⟨g, 0, none⟩)) (some (.int .i64 (k : Int))) none none).run Tryz.prog W = .ok (.slice (some ⟨g, k, none⟩) (65 - k) (65 - k)) W := by
  have hal : Tryz.prog.arrayLen 159 = 65 := by kernel_rfl
  rw [run_sliceAt_array_l W 159 ⟨g, 0, none⟩ (by kernel_rfl) .i64 (k : Int) (by omega) (by rw [hal]; omega)]
  have hs : ∀ W, (sizeOf (Tryz.prog.elem 159)).run Tryz.prog W = .ok 1 W := fun W => by kernel_rfl
  rw [hs, hal]
  show Result.ok (slicedAt ⟨g, 0, none⟩ (k : Int).toNat 65 65 1) W = _
  unfold slicedAt
  rw [Int.toNat_natCast, if_neg (by omega), Nat.mul_one]
  have : (⟨g, 0, none⟩ : Addr).add k = ⟨g, k, none⟩ := by simp [Addr.add]; omega
  rw [this]

set_option maxRecDepth 200000 in
theorem c168_1 (u : Nat) (w : World) (hT : Ie.Tab w) (hu : u < 4294967296) :
    Calls Tryz.prog 111 #[.slice none 0 0, .int .u64 u, .int .i64 16, .bool false, .bool false] w fun e w' => ∃ j : Nat, u / 16 ^ j < 16 ∧ (j = 0 ∨ 16 ≤ u / 16 ^ (j - 1)) ∧ e = .returned (.tuple #[.slice none 0 0, .string ⟨(hexL u j).toArray⟩]) ∧ Below w.heap.size w w' := by
  have h0 := Bt.start w
  have k186 := c186 _ (Tab.later hT h0.below)
  generalize hW : w.alloc (.cells Tryz.zeroCells159 159) = W at *
  have HW : Hid (w.alloc (.cells Tryz.zeroCells159 159) = W) := hW
  have H0 : Hid (Bt w W (fun _ => 0)) := h0
  clear h0 hT
  go_enter Tryz.func111, Tryz.ntmps111
  go_wp2_with fail
  clear hW
  refine (c185 _).mono ?_
  rintro r w1 ⟨rfl, rfl⟩
  go_wp2_with fail
  refine k186.mono ?_
  rintro r w1' ⟨rfl, rfl⟩
  clear k186
  go_wp2
  go_loopw [1, 13] (fun a b wr => ∃ j v : Nat, a = .int .u64 v ∧ b = .int .i64 ((65 - j : Nat) : Int) ∧ Hid (u / 16 ^ j = v ∧ (j = 0 ∨ 16 ≤ u / 16 ^ (j - 1))) ∧ v < 4294967296 ∧ j ≤ 8 ∧ Bt w wr (fun t => if 65 - j ≤ t then hx (u / 16 ^ (64 - t) % 16) else 0)) (fun a _ _ => (intOf a).toNat)
  case atStart => exact ⟨0, u, rfl, rfl, ⟨(by simp : u / 16 ^ 0 = u), .inl rfl⟩, hu, by omega, H0.out.congr fun t ht => by rw [if_neg (by omega)]⟩
  case round =>
    obtain ⟨j, v, rfl, rfl, hv, hvl, hj8, hM⟩ := hrel
    by_cases hge : 16 ≤ v
    · have hgi : (16 : Int) ≤ (v : Int) := by omega
      have hj7 : j < 7 := by
        refine Nat.lt_of_not_le fun h7 => ?_
        have h1 : 16 * 16 ^ j ≤ u := by
          have := hv.out.1
          rw [← this] at hge
          exact (Nat.le_div_iff_mul_le (Nat.pow_pos (by omega))).1 hge
        have h2 : 16 ^ 7 ≤ 16 ^ j := Nat.pow_le_pow_right (by omega) h7
        omega
      have g2 := hM.cell (i := 65 - j - 1) (by omega)
      have g3 := hM.frozen (65 - j - 1)
      have HM : Hid (Bt w wr (fun t => if 65 - j ≤ t then hx (u / 16 ^ (64 - t) % 16) else 0)) := hM
      clear hM
      obtain ⟨k, hk⟩ : ∃ k, 65 - j = k + 1 := ⟨64 - j, by omega⟩
      rw [hk] at g2 g3 ⊢
      rw [Nat.add_sub_cancel] at g2 g3
      generalize (if 65 - j ≤ k then hx (u / 16 ^ (64 - k) % 16) else 0) = old at *
      have hkb : k < 65 := by omega
      have hki : (k : Int) < 65 := by omega
      have hand : bits .and .u64 (v : Int) 15 = ((v % 16 : Nat) : Int) := by
        rw [show (15 : Int) = ((15 : Nat) : Int) from rfl, u64_and_nat v 15 (by omega) (by omega), show (15 : Nat) = 2 ^ 4 - 1 from rfl, Nat.and_two_pow_sub_one_eq_mod]
      have hml : v % 16 < 16 := Nat.mod_lt _ (by omega)
      generalize hm : v % 16 = m at *
      have HMM : Hid (v % 16 = m) := hm
      have HK : Hid (65 - j = k + 1) := hk
      clear hm hk
      go_wp2
      refine ⟨⟨j + 1, v / 16, by simp, ?_, ?_, by omega, by omega, ?_⟩, by simp [intOf]; omega⟩
      · have := HK.out
        congr 1
        omega
      · refine ⟨?_, .inr (by rw [Nat.add_sub_cancel, hv.out.1]; exact hge)⟩
        rw [Nat.pow_succ, ← Nat.div_div_eq_div_mul, hv.out.1]
      · exact hex_step HM.out HK.out (by rw [hex_get m hml, hv.out.1, HMM.out]) (by omega)
    · have hgi : ¬ (16 : Int) ≤ (v : Int) := by omega
      have g2 := hM.cell (i := 65 - j - 1) (by omega)
      have g3 := hM.frozen (65 - j - 1)
      have HM : Hid (Bt w wr (fun t => if 65 - j ≤ t then hx (u / 16 ^ (64 - t) % 16) else 0)) := hM
      clear hM
      obtain ⟨k, hk⟩ : ∃ k, 65 - j = k + 1 := ⟨64 - j, by omega⟩
      rw [hk] at g2 g3 ⊢
      rw [Nat.add_sub_cancel] at g2 g3
      have hkb : k < 65 := by omega
      have hki : (k : Int) < 65 := by omega
      have hvi : (v : Int) < 36 := by omega
      have HK : Hid (65 - j = k + 1) := hk
      clear hk
      have hsl := fun W => arr147 W w.heap.size k hkb
      go_wp2
      rw [hex_get v (by omega)]
      have hE := hex_step HM.out HK.out (d := hx v) (by rw [hv.out.1, Nat.mod_eq_of_lt (by omega)]) hj8
      generalize wr.setCell ⟨w.heap.size, k, none⟩ (.int .u8 (hx v : Nat)) = wf at *
      have hkj : k = 64 - j := by have := HK.out; omega
      have hcv := run_convert_bytes_back (P := Tryz.prog) wf 70 9 5 ⟨w.heap.size, k, none⟩ (65 - k) (hexL u j) Tryz.underlying70 Tryz.underlying5 Tryz.underlying9 (fun i hi => by
        rw [hexL_length] at hi
        have ea : (⟨w.heap.size, k, none⟩ : Addr).add i = ⟨w.heap.size, k + i, none⟩ := by simp [Addr.add]
        rw [ea]
        rw [hE.cell (by omega), if_pos (by omega), hexL_get, show 64 - (k + i) = j - i by omega])
      rw [hexL_length, show j + 1 = 65 - k by omega] at hcv
      have HF : Hid (Below w.heap.size w wf ∧ u / 16 ^ j < 16 ∧ (j = 0 ∨ 16 ≤ u / 16 ^ (j - 1))) := ⟨hE.below, by rw [hv.out.1]; omega, hv.out.2⟩
      clear hE hkj g2 g3 HM hsl
      rw [hcv]
      go_wp2
      go_ret2
      exact ⟨j, HF.out.2.1, HF.out.2.2, rfl, HF.out.1⟩

set_option maxRecDepth 200000 in
theorem c132 (u : Nat) (w : World) (hT : Ie.Tab w) (hu : u < 4294967296) :
    Calls Tryz.prog 72 #[.int .u64 u, .int .i64 16] w fun e w' => ∃ j : Nat, u / 16 ^ j < 16 ∧ (j = 0 ∨ 16 ≤ u / 16 ^ (j - 1)) ∧ e = .returned (.string ⟨(hexL u j).toArray⟩) ∧ Below w.heap.size w w' := by
  have k := c168_1 u w hT hu
  clear hT hu
  go_enter Tryz.func72, Tryz.ntmps72
  go_wp2_with fail
  refine k.mono ?_
  rintro r w1 ⟨j, h1, h2, rfl, hb⟩
  have HF : Hid (u / 16 ^ j < 16 ∧ (j = 0 ∨ 16 ≤ u / 16 ^ (j - 1)) ∧ Below w.heap.size w w1) := ⟨h1, h2, hb⟩
  clear k h1 h2 hb
  generalize hl : hexL u j = l at *
  have HL : Hid (hexL u j = l) := hl
  clear hl
  go_wp2
  go_ret
  exact ⟨j, HF.out.1, HF.out.2.1, by rw [HL.out]; rfl, HF.out.2.2⟩
set_option maxRecDepth 200000 in
theorem c81 (u : Nat) (w : World) (hT : Ie.Tab w) (hu : u < 4294967296) :
    Calls Tryz.prog 38 #[.int .u64 u, .int .i64 16] w fun e w' => ∃ j : Nat, u / 16 ^ j < 16 ∧ (j = 0 ∨ 16 ≤ u / 16 ^ (j - 1)) ∧ e = .returned (.string ⟨(hexL u j).toArray⟩) ∧ Below w.heap.size w w' := by
  have k := c132 u w hT hu
  clear hT hu
  go_enter Tryz.func38, Tryz.ntmps38
  go_wp2_with fail
  refine k.mono ?_
  rintro r w1 ⟨j, h1, h2, rfl, hb⟩
  have HF : Hid (u / 16 ^ j < 16 ∧ (j = 0 ∨ 16 ≤ u / 16 ^ (j - 1)) ∧ Below w.heap.size w w1) := ⟨h1, h2, hb⟩
  clear k h1 h2 hb
  generalize hl : hexL u j = l at *
  have HL : Hid (hexL u j = l) := hl
  clear hl
  go_wp2
  go_ret
  exact ⟨j, HF.out.1, HF.out.2.1, by rw [HL.out]; rfl, HF.out.2.2⟩
end Go.Proofs.YtbmaoiemgepppaaGreatDoor
