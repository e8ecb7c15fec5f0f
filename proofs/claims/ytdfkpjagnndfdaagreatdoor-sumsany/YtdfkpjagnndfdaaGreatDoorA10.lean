/- Own work: contracts of the program's functions, part 10: UH1 UH2 UH3 UH4. -/
import Derived.Test.YtdfkpjagnndfdaaGreatDoorA9
import Derived.Test.YtdfkpjagnndfdaaGreatDoorA8

/- SumsAny in numbers: a list in another order has the same sum, the same error, and is of minus noughts alike. -/
namespace Go.Proofs.YtdfkpjagnndfdaaGreatDoor
set_option linter.unusedVariables false
set_option linter.unusedSimpArgs false
open Go.RowKit Go.Fl64

/-- the first n values of a list -/
def lst (xs : Nat → Nat) (n : Nat) : List Nat := (List.range n).map xs
theorem lst_length (xs : Nat → Nat) (n : Nat) : (lst xs n).length = n := by simp [lst]
theorem lst_get (xs : Nat → Nat) {n i : Nat} (h : i < n) : (lst xs n)[i]? = some (xs i) := by simp [lst, h]
theorem lst_none (xs : Nat → Nat) {n i : Nat} (h : n ≤ i) : (lst xs n)[i]? = none := by simp [lst, h]
theorem lst_succ (xs : Nat → Nat) (n : Nat) : lst xs (n + 1) = lst xs n ++ [xs n] := by simp [lst, List.range_succ]
/-- neighbours exchanged -/
def swl : List Nat → List Nat
  | a :: b :: t => b :: a :: swl t
  | l => l
theorem swl_perm : ∀ l : List Nat, (swl l).Perm l
  | [] => List.Perm.refl _
  | [_] => List.Perm.refl _
  | a :: b :: t => (List.Perm.swap a b (swl t)).trans (((swl_perm t).cons b).cons a)
theorem swl_length : ∀ l : List Nat, (swl l).length = l.length := fun l => (swl_perm l).length_eq
theorem swl_get : ∀ (l : List Nat) (j : Nat), j < l.length → (swl l)[j]? = if j % 2 = 0 then (if j + 1 < l.length then l[j + 1]? else l[j]?) else l[j - 1]?
  | [], j, h => by simp at h
  | [a], j, h => by
    have : j = 0 := by simp at h; omega
    subst this
    simp [swl]
  | a :: b :: t, 0, _ => by simp [swl]
  | a :: b :: t, 1, _ => by simp [swl]
  | a :: b :: t, j + 2, h => by
    show (swl t)[j]? = _
    have hj : j < t.length := by simpa using h
    rw [swl_get t j hj]
    have e1 : (j + 2) % 2 = j % 2 := by omega
    rw [e1]
    by_cases h : j % 2 = 0
    · rw [if_pos h, if_pos h]
      have e2 : (j + 2 + 1 < (a :: b :: t).length) ↔ (j + 1 < t.length) := by simp only [List.length_cons]; omega
      by_cases h2 : j + 1 < t.length
      · rw [if_pos h2, if_pos (e2.2 h2)]; rfl
      · rw [if_neg h2, if_neg (fun h => h2 (e2.1 h))]; rfl
    · rw [if_neg h, if_neg h]
      have e3 : j + 2 - 1 = (j - 1) + 2 := by omega
      rw [e3]
      rfl
/-- a list from its k-th on, what is ahead of that behind it -/
def rotN (xs : Nat → Nat) (len k : Nat) : Nat → Nat := fun j => if j < len - k then xs (k + j) else xs (j - (len - k))
/-- neighbours exchanged, as far as i -/
def swpN (len : Nat) (r : Nat → Nat) (i : Nat) : Nat → Nat := fun j => if j < i then (if j % 2 = 0 then (if j + 1 < len then r (j + 1) else r j) else r (j - 1)) else r j
theorem rot_perm (xs : Nat → Nat) {len k : Nat} (hk : k ≤ len) : (lst (rotN xs len k) len).Perm (lst xs len) := by
  have e : lst (rotN xs len k) len = (lst xs len).drop k ++ (lst xs len).take k := by
    apply List.ext_getElem?
    intro i
    rw [List.getElem?_append]
    have hl : ((lst xs len).drop k).length = len - k := by rw [List.length_drop, lst_length]
    rw [hl]
    by_cases h : i < len
    · rw [lst_get _ h]
      unfold rotN
      by_cases h1 : i < len - k
      · rw [if_pos h1, if_pos h1, List.getElem?_drop, lst_get _ (by omega)]
      · rw [if_neg h1, if_neg h1, List.getElem?_take, if_pos (by omega), lst_get _ (by omega)]
    · rw [lst_none _ (by omega), if_neg (by omega), List.getElem?_take, if_neg (by omega)]
  rw [e]
  exact List.perm_append_comm.trans (by rw [List.take_append_drop])
theorem swp_perm (r : Nat → Nat) {len i : Nat} (hi : len ≤ i + 1) (hi0 : i % 2 = 0) : (lst (swpN len r i) len).Perm (lst r len) := by
  have e : lst (swpN len r i) len = swl (lst r len) := by
    apply List.ext_getElem?
    intro j
    by_cases h : j < len
    · rw [lst_get _ h, swl_get _ _ (by rw [lst_length]; exact h), lst_length]
      unfold swpN
      by_cases h1 : j < i
      · rw [if_pos h1]
        by_cases h2 : j % 2 = 0
        · rw [if_pos h2, if_pos h2]
          by_cases h3 : j + 1 < len
          · rw [if_pos h3, if_pos h3, lst_get _ h3]
          · rw [if_neg h3, if_neg h3, lst_get _ h]
        · rw [if_neg h2, if_neg h2, lst_get _ (by omega)]
      · rw [if_neg h1, if_pos (by omega), if_neg (by omega), lst_get _ h]
    · rw [lst_none _ (by omega), List.getElem?_eq_none (by rw [swl_length, lst_length]; omega)]
  rw [e]
  exact swl_perm _
theorem perm_sum {l l' : List Nat} (f : Nat → Int) (h : l.Perm l') : (l.map f).sum = (l'.map f).sum := by
  induction h with
  | nil => rfl
  | cons x _ ih => simp only [List.map_cons, List.sum_cons, ih]
  | swap x y l => simp only [List.map_cons, List.sum_cons]; omega
  | trans _ _ i1 i2 => exact i1.trans i2
theorem anyP_lst (P : Nat → Bool) (xs : Nat → Nat) : ∀ n, anyP (fun i => P (xs i)) n = (lst xs n).any P
  | 0 => rfl
  | n + 1 => by
    rw [lst_succ, List.any_append]
    show (anyP (fun i => P (xs i)) n || P (xs n)) = _
    rw [anyP_lst P xs n]
    simp
theorem any_perm {l l' : List Nat} (P : Nat → Bool) (h : l.Perm l') : l.any P = l'.any P := by
  rw [Bool.eq_iff_iff, List.any_eq_true, List.any_eq_true]
  constructor
  · rintro ⟨x, h1, h2⟩; exact ⟨x, h.mem_iff.1 h1, h2⟩
  · rintro ⟨x, h1, h2⟩; exact ⟨x, h.mem_iff.2 h1, h2⟩
theorem anyP_perm {xs ys : Nat → Nat} {n : Nat} (P : Nat → Bool) (h : (lst ys n).Perm (lst xs n)) : anyP (fun i => P (ys i)) n = anyP (fun i => P (xs i)) n := by
  rw [anyP_lst, anyP_lst, any_perm P h]
theorem fls_perm {xs ys : Nat → Nat} {n : Nat} (h : (lst ys n).Perm (lst xs n)) (hx : Fls xs n) : Fls ys n := by
  intro i hi
  have h1 : ys i ∈ lst ys n := List.mem_iff_getElem?.2 ⟨i, lst_get _ hi⟩
  have h2 := h.mem_iff.1 h1
  obtain ⟨j, hj⟩ := List.mem_iff_getElem?.1 h2
  by_cases hjn : j < n
  · rw [lst_get _ hjn] at hj
    have := Option.some.inj hj
    rw [← this]
    exact hx j hjn
  · rw [lst_none _ (by omega)] at hj; cases hj
theorem tSum_sum {xs : Nat → Nat} {len : Nat} (hx : Fls xs len) (hf : ∀ i, i < len → mag (xs i) < 9218868437227405312) (hlen : len ≤ 65536) : ∀ k, k ≤ len → vz 70000 (tSum xs k).1 (tSum xs k).2.1 (tSum xs k).2.2 = ((lst xs k).map fun a => sv (neg a) (bv (mag a))).sum * ((UU 70000 : Nat) : Int)
  | 0, _ => by
    show vz 70000 (tSum xs 0).1 (tSum xs 0).2.1 (tSum xs 0).2.2 = 0 * _
    rw [Int.zero_mul]; exact vz_eq_zero.2 rfl
  | k + 1, hk => by
    have hZ := tSum_sum hx hf hlen k (by omega)
    have h1 := tSum_ok xs (k := k) (by omega)
    show vz 70000 (tS (tSum xs k) (tF (xs k))).1 (tS (tSum xs k) (tF (xs k))).2.1 (tS (tSum xs k) (tF (xs k))).2.2 = _
    rw [vz_tS h1.2 ((tF_fits (xs k)).mono (Int.le_refl _) (by omega)) (fits_low (lo := 0) (hi := 0) h1.1) (fits_low (lo := 0) (hi := 0) (tF_ok _)) (by omega), hZ, vz_num5 (hx k (by omega)) (hf k (by omega)), ← Int.add_mul, lst_succ, List.map_append, List.sum_append]
    simp
theorem tSum_perm {xs ys : Nat → Nat} {len : Nat} (h : (lst ys len).Perm (lst xs len)) (hx : Fls xs len) (hf : ∀ i, i < len → mag (xs i) < 9218868437227405312) (hg : ∀ i, i < len → mag (ys i) < 9218868437227405312) (hlen : len ≤ 65536) : tSum ys len = tSum xs len := by
  have h1 := (tSum_ok xs hlen).1
  have h2 := (tSum_ok ys hlen).1
  obtain ⟨-, f2, f3, -, -⟩ := h1.facts
  obtain ⟨-, g2, g3, -, -⟩ := h2.facts
  rw [← cn_ok h1, ← cn_ok h2]
  refine cn_eq (K := 70000) (by omega) (by omega) ?_
  rw [tSum_sum hx hf hlen len (Nat.le_refl _), tSum_sum (fls_perm h hx) hg hlen len (Nat.le_refl _), perm_sum _ h]
theorem chk1_perm {xs ys : Nat → Nat} {len : Nat} (h : (lst ys len).Perm (lst xs len)) : chk1 ys len = chk1 xs len := by
  unfold chk1
  rw [anyP_perm (fun a => isNaN a) h, anyP_perm (fun a => !fin a) h]
theorem mnA_perm {xs ys : Nat → Nat} {len : Nat} (h : (lst ys len).Perm (lst xs len)) : mnA ys len = mnA xs len := by
  unfold mnA
  rw [anyP_perm (fun a => mnP a) h]
theorem mnA_first {xs : Nat → Nat} {len : Nat} (hx : Fls xs len) (h : mnA xs len = true) : xs 0 = 9223372036854775808 := by
  unfold mnA at h
  simp only [Bool.and_eq_true, decide_eq_true_eq, Bool.not_eq_true'] at h
  have h1 := anyP_none h.2 0 h.1
  have h2 := hx 0 h.1
  simp only [mnP, Bool.not_eq_false', Bool.and_eq_true, decide_eq_true_eq] at h1
  have h3 := h1.2
  have h4 := h1.1
  unfold mag at h4
  unfold neg at h3
  simp only [decide_eq_true_eq] at h3
  omega
theorem exE_perm {xs ys : Nat → Nat} {len : Nat} (h : (lst ys len).Perm (lst xs len)) (m : Int) : exE ys len m = exE xs len m := by
  unfold exE
  rw [chk1_perm h]
theorem exF_perm {xs ys : Nat → Nat} {len : Nat} (h : (lst ys len).Perm (lst xs len)) (hx : Fls xs len) (m : Int) : exF ys len m = exF xs len m := by
  unfold exF
  rw [chk1_perm h, mnA_perm h]
  by_cases hc : chk1 xs len = 0
  · rw [if_pos hc, if_pos hc]
    obtain ⟨c1, c2⟩ := chk1_zero hc
    obtain ⟨-, c3⟩ := chk1_zero ((chk1_perm h).trans hc)
    have e1 : exR ys len m = exR xs len m := by
      unfold exR
      rw [tSum_perm h hx c2 c3 c1]
    rw [e1]
    cases hm : mnA xs len
    · rfl
    · rw [mnA_first hx hm, mnA_first (fls_perm h hx) ((mnA_perm h).trans hm)]
  · rw [if_neg hc, if_neg hc]
end Go.Proofs.YtdfkpjagnndfdaaGreatDoor
/- The unit of a float by the document, and half of it; how great the parts of a sum are. -/
namespace Go.Proofs.YtdfkpjagnndfdaaGreatDoor
set_option linter.unusedVariables false
set_option linter.unusedSimpArgs false
open Go.RowKit Go.Fl64

theorem dparts_1 (a : Nat) (m f x y : Int) (w : World)
    (k34 : ∀ w, Calls Tryz.prog 35 #[.float .f64 a] w fun e w' => e = .returned (.int .u64 m) ∧ w' = w)
    (hq : wrap64 (m / 4503599627370496) = f) (hand : bits .and .u64 m 4503599627370495 = x) (hor : bits .or .u64 x 4503599627370496 = y) :
    Calls Tryz.prog 40 #[.float .f64 a] w fun e w' => e = .returned (.tuple #[.int .u64 (if f == 0 then x else y), .int .i64 (if f == 0 then -1074 else wrap64 (f - 1075))]) ∧ w' = w := by
  cases h : (f == 0) with
  | true =>
    simp only [if_true]
    go_enter Tryz.func40, Tryz.ntmps40
    go_wp2_with (first | (go_at_call 35; refine (k34 _).mono ?_; rintro e w' ⟨rfl, rfl⟩))
    go_ret2
    exact ⟨rfl, rfl⟩
  | false =>
    simp only [if_false, Bool.false_eq_true]
    go_enter Tryz.func40, Tryz.ntmps40
    go_wp2_with (first | (go_at_call 35; refine (k34 _).mono ?_; rintro e w' ⟨rfl, rfl⟩))
    go_ret2
    exact ⟨rfl, rfl⟩
theorem dparts (a : Nat) (ha : a < 18446744073709551616) (w : World) :
    Calls Tryz.prog 40 #[.float .f64 a] w fun e w' => e = .returned (.tuple #[.int .u64 (Ie.mant a), .int .i64 (Ie.lp a)]) ∧ w' = w := by
  have hm := mag_lt a
  have hq : wrap64 ((mag a : Int) / 4503599627370496) = ((mag a / 4503599627370496 : Nat) : Int) := by unfold wrap64; omega
  have := dparts_1 a (mag a) _ _ _ w (Ie.dmag a ha) hq (Ie.and_mant _ (by omega)) (Ie.or_mant (mag a % 4503599627370496) (by omega))
  by_cases h : mag a < 4503599627370496
  · have e1 : Ie.mant a = mag a % 4503599627370496 := by unfold Ie.mant; rw [if_pos h]; omega
    have e2 : Ie.lp a = -1074 := by unfold Ie.lp; omega
    have e3 : (((mag a / 4503599627370496 : Nat) : Int) == 0) = true := by simp; omega
    rw [e3] at this
    rw [e1, e2]
    exact this
  · have e1 : Ie.mant a = 4503599627370496 + mag a % 4503599627370496 := by unfold Ie.mant; rw [if_neg h]
    have e2 : wrap64 (((mag a / 4503599627370496 : Nat) : Int) - 1075) = Ie.lp a := by unfold Ie.lp wrap64; omega
    have e3 : (((mag a / 4503599627370496 : Nat) : Int) == 0) = false := by rw [beq_eq_false_iff_ne]; omega
    rw [e3, e2] at this
    rw [e1]
    exact this
/-- The unit at the place E. -/
def unE (E : Int) : Nat := if -1022 ≤ E then ((E + 1023) * 4503599627370496).toNat else (IntKind.u64.wrap (2 ^ (E + 1074).toNat)).toNat
theorem dunit_1 (a : Nat) (x E : Int) (w : World)
    (k31 : ∀ w, Calls Tryz.prog 37 #[.float .f64 a] w fun e w' => e = .returned (.bool false) ∧ w' = w)
    (k48 : ∀ w, Calls Tryz.prog 38 #[.float .f64 a] w fun e w' => e = .returned (.bool false) ∧ w' = w)
    (k50 : ∀ w, Calls Tryz.prog 40 #[.float .f64 a] w fun e w' => e = .returned (.tuple #[.int .u64 x, .int .i64 E]) ∧ w' = w)
    (h0 : -1074 ≤ E) (h1 : E ≤ 971) :
    Calls Tryz.prog 12 #[.float .f64 a] w fun e w' => e = .returned (.float .f64 (unE E)) ∧ w' = w := by
  unfold unE
  by_cases h : -1022 ≤ E
  · rw [if_pos h]
    go_enter Tryz.func12, Tryz.ntmps12
    go_wp2_with (first | (go_at_call 37; refine (k31 _).mono ?_; rintro e w' ⟨rfl, rfl⟩) | (go_at_call 38; refine (k48 _).mono ?_; rintro e w' ⟨rfl, rfl⟩) | (go_at_call 40; refine (k50 _).mono ?_; rintro e w' ⟨rfl, rfl⟩) | (go_at_call 36; refine (Ie.dof _ _).mono ?_; rintro e w' ⟨rfl, rfl⟩))
    go_ret
    exact ⟨rfl, rfl⟩
  · rw [if_neg h]
    go_enter Tryz.func12, Tryz.ntmps12
    go_wp2_with (first | (go_at_call 37; refine (k31 _).mono ?_; rintro e w' ⟨rfl, rfl⟩) | (go_at_call 38; refine (k48 _).mono ?_; rintro e w' ⟨rfl, rfl⟩) | (go_at_call 40; refine (k50 _).mono ?_; rintro e w' ⟨rfl, rfl⟩) | (go_at_call 36; refine (Ie.dof _ _).mono ?_; rintro e w' ⟨rfl, rfl⟩))
    go_ret
    exact ⟨rfl, rfl⟩
/-- half a unit, by its bits, for the exponent field x -/
def hfX (x : Nat) : Nat := if 54 ≤ x then (x - 53) * 4503599627370496 else if 2 ≤ x then 2 ^ (x - 2) else 0
theorem hf_tab : ∀ k : Nat, k < 2046 → floatBits .quo .f64 (unE ((k : Int) - 1074)) 4611686018427387904 = some (hfX (k + 1)) := by decide +kernel
theorem dunit (a : Nat) (ha : a < 18446744073709551616) (hf : mag a < 9218868437227405312) :
    ∃ U, (∀ w, Calls Tryz.prog 12 #[.float .f64 a] w fun e w' => e = .returned (.float .f64 U) ∧ w' = w) ∧ floatBits .quo .f64 U 4611686018427387904 = some (hfX (max 1 (mag a / 4503599627370496))) := by
  have h1 : -1074 ≤ Ie.lp a ∧ Ie.lp a ≤ 971 := by unfold Ie.lp; omega
  refine ⟨unE (Ie.lp a), fun w => dunit_1 a (Ie.mant a) (Ie.lp a) w (fun W => ?_) (fun W => ?_) (fun W => dparts a ha W) h1.1 h1.2, ?_⟩
  · have := Ie.dnan a ha W
    rw [show isNaN a = false from decide_eq_false (by omega)] at this
    exact this
  · have := Ie.dinf a ha W
    rw [Ie.isInf_not.2 (by omega)] at this
    exact this
  · have := hf_tab (max 1 (mag a / 4503599627370496) - 1) (by omega)
    rw [show ((max 1 (mag a / 4503599627370496) - 1 : Nat) : Int) - 1074 = Ie.lp a by unfold Ie.lp; omega, show max 1 (mag a / 4503599627370496) - 1 + 1 = max 1 (mag a / 4503599627370496) by omega] at this
    exact this

/-- how far the next float is -/
theorem bv_gap (b : Nat) : bv (b + 1) = bv b + 2 ^ (max 1 (b / 4503599627370496) - 1) := by
  by_cases h : b < 4503599627370496
  · have e0 := bv_at (j := 0) (q := b) (.inl ⟨rfl, by omega⟩)
    have e1 := bv_at (j := 0) (q := b + 1) (.inl ⟨rfl, by omega⟩)
    rw [show max 1 (b / 4503599627370496) - 1 = 0 by omega]
    simp at e0 e1 ⊢
    rw [e0, e1]
  · have e0 := bv_at (j := b / 4503599627370496 - 1) (q := 4503599627370496 + b % 4503599627370496) (.inr ⟨by omega, by omega⟩)
    have e1 := bv_at (j := b / 4503599627370496 - 1) (q := 4503599627370496 + b % 4503599627370496 + 1) (.inr ⟨by omega, by omega⟩)
    rw [show (b / 4503599627370496 - 1) * 4503599627370496 + (4503599627370496 + b % 4503599627370496) = b by omega] at e0
    rw [show (b / 4503599627370496 - 1) * 4503599627370496 + (4503599627370496 + b % 4503599627370496 + 1) = b + 1 by omega] at e1
    rw [e0, e1, show max 1 (b / 4503599627370496) - 1 = b / 4503599627370496 - 1 by omega, Nat.add_mul _ 1, Nat.one_mul]
/-- twice half a unit is a unit -/
theorem bv_half {x : Nat} (h : 2 ≤ x) : 2 * bv (hfX x) = 2 ^ (x - 1) := by
  unfold hfX
  by_cases h1 : 54 ≤ x
  · rw [if_pos h1]
    have e0 := bv_at (j := x - 54) (q := 4503599627370496) (.inr ⟨by omega, by omega⟩)
    rw [show (x - 53) * 4503599627370496 = (x - 54) * 4503599627370496 + 4503599627370496 by omega, e0]
    obtain ⟨k, rfl⟩ : ∃ k, x = k + 54 := ⟨x - 54, by omega⟩
    rw [show k + 54 - 54 = k by omega, show k + 54 - 1 = k + 53 by omega, Nat.pow_add]
    omega
  · rw [if_neg h1, if_pos h]
    have hp : 2 ^ (x - 2) ≤ 2 ^ 51 := Nat.pow_le_pow_right (by omega) (by omega)
    have e0 := bv_at (j := 0) (q := 2 ^ (x - 2)) (.inl ⟨rfl, by omega⟩)
    rw [Nat.zero_mul, Nat.zero_add, Nat.pow_zero, Nat.mul_one] at e0
    rw [e0, show x - 1 = x - 2 + 1 by omega, Nat.pow_succ, Nat.mul_comm]
/-- what is left is at most half a unit -/
theorem Rounds.gap {N u b : Nat} (hu : 0 < u) (h : Rounds (N * u) u b 1) : 2 * ((N : Int) - bv b).natAbs ≤ 2 ^ (max 1 (b / 4503599627370496) - 1) := by
  have h1 := h.near hu (b + 1)
  have e1 := bv_gap b
  by_cases hb : b = 0
  · subst hb
    have e0 : bv 0 = 0 := rfl
    have hp : 0 < 2 ^ (max 1 (0 / 4503599627370496) - 1) := Nat.two_pow_pos _
    generalize 2 ^ (max 1 (0 / 4503599627370496) - 1) = P at *
    omega
  · have h2 := h.near hu (b - 1)
    have e2 := bv_gap (b - 1)
    rw [show b - 1 + 1 = b by omega] at e2
    have hm : 2 ^ (max 1 ((b - 1) / 4503599627370496) - 1) ≤ 2 ^ (max 1 (b / 4503599627370496) - 1) := Nat.pow_le_pow_right (by omega) (by omega)
    have hp : 0 < 2 ^ (max 1 ((b - 1) / 4503599627370496) - 1) := Nat.two_pow_pos _
    generalize 2 ^ (max 1 (b / 4503599627370496) - 1) = P at *
    generalize 2 ^ (max 1 ((b - 1) / 4503599627370496) - 1) = Q at *
    omega
/-- each part is at most half a unit of the part ahead of it -/
theorem Ap.next {t : Bool × Nat × Int} {Z : Int} (h : Ap t Z) (h0 : t.2.1 ≠ 0) (h1 : (nxT t).2.1 ≠ 0) : mag (nrF (nxT t)) ≤ hfX (max 1 (mag (nrF t) / 4503599627370496)) := by
  have hU : 0 < UU 70000 := UU_pos _
  obtain ⟨f1, f2, f3, -, -⟩ := h.ok.facts
  obtain ⟨Z', hn, -⟩ := h.step
  obtain ⟨g1, g2, g3, -, -⟩ := hn.ok.facts
  have vL : vz 70000 (nxT t).1 (nxT t).2.1 (nxT t).2.2 = vz 70000 t.1 t.2.1 t.2.2 - vz 70000 (tF (nrF t)).1 (tF (nrF t)).2.1 (tF (nrF t)).2.2 :=
    vz_tD h.fits ((tF_fits (nrF t)).mono (Int.le_refl _) (by omega)) (fits_low (lo := 0) (hi := 0) h.ok) (fits_low (lo := 0) (hi := 0) (tF_ok _)) (by omega)
  rw [vz_num5 (nrF_lt t) h.fin, h.val, hn.val, ← Int.sub_mul] at vL
  have hUi : ((UU 70000 : Nat) : Int) ≠ 0 := by omega
  have eZ : Z' = Z - sv (neg (nrF t)) (bv (mag (nrF t))) := Int.eq_of_mul_eq_mul_right hUi vL
  have gap : 2 * Z'.natAbs ≤ 2 ^ (max 1 (mag (nrF t) / 4503599627370496) - 1) := by
    have hv := h.val
    rw [vz_VA] at hv
    obtain ⟨p1, p2⟩ := sv_pos_of hU (VA_ne h0) hv
    have hr := VA_rounds (K := 70000) (Nat.le_refl _) h0 (e := t.2.2) (by omega) (way := 1)
    rw [p2] at hr
    obtain ⟨m1, m2⟩ := tf_near (s := t.1) (e := t.2.2) f2 h0 h.fin
    have hh := hr.gap hU
    have e0 : (Z - sv t.1 (bv (rwb t.2.1 t.2.2 1))).natAbs = ((Z.natAbs : Int) - bv (rwb t.2.1 t.2.2 1)).natAbs := by
      revert p1
      generalize Z.natAbs = n
      generalize bv (rwb t.2.1 t.2.2 1) = c
      intro p1
      rw [← p1]
      cases t.1 <;> unfold sv <;> simp <;> omega
    have m1' : mag (nrF t) = rwb t.2.1 t.2.2 1 := m1
    have m2' : neg (nrF t) = t.1 := m2
    rw [eZ, m1', m2', e0]
    exact hh
  have hZ0 : Z' ≠ 0 := fun e => h1 (hn.zero.2 e)
  have hx : 2 ≤ max 1 (mag (nrF t) / 4503599627370496) := by
    apply Decidable.byContradiction
    intro hc
    rw [show max 1 (mag (nrF t) / 4503599627370496) - 1 = 0 by omega, Nat.pow_zero] at gap
    omega
  have hh := bv_half hx
  generalize max 1 (mag (nrF t) / 4503599627370496) = x at *
  have hv := hn.val
  rw [vz_VA] at hv
  obtain ⟨p1, p2⟩ := sv_pos_of hU (VA_ne h1) hv
  have hr := VA_rounds (K := 70000) (Nat.le_refl _) h1 (e := (nxT t).2.2) (by omega) (way := 1)
  rw [p2] at hr
  obtain ⟨m1, m2⟩ := tf_near (s := (nxT t).1) (e := (nxT t).2.2) g2 h1 hn.fin
  have m1' : mag (nrF (nxT t)) = rwb (nxT t).2.1 (nxT t).2.2 1 := m1
  rw [m1']
  apply Decidable.byContradiction
  intro hc
  have hl := bv_lt (Nat.lt_of_not_le hc)
  have hq := hr.near hU (hfX x)
  omega
theorem part_next {t : Bool × Nat × Int} {Z : Int} (h : Ap t Z) {i : Nat} (h0 : (apT t i).2.1 ≠ 0) (h1 : (apT t (i + 1)).2.1 ≠ 0) : mag (apF t (i + 1)) ≤ hfX (max 1 (mag (apF t i) / 4503599627370496)) := by
  obtain ⟨Z', h2, -⟩ := ap_all h i
  exact h2.next h0 h1
end Go.Proofs.YtdfkpjagnndfdaaGreatDoor
/- SumsAny: a list put together of two parts of another one, neighbours exchanged in place. -/
namespace Go.Proofs.YtdfkpjagnndfdaaGreatDoor
set_option linter.unusedVariables false
set_option linter.unusedSimpArgs false
open Go Go.RowKit Go.Fl64

set_option maxRecDepth 200000 in
theorem wpList_append_row {w : World} {ops : Array Oper} {rest : List Oper} {o : Oper} {a : Act} {Q : Exit → Act → World → Prop} (hgd : o.guard = none) (s x : Operand)
    (ho : o.op = .call { callee := .builtin .append, args := #[s, x], argTypes := #[22, 22] }) {base n0 : Nat} {v : Value} {L : List Value} (hs : a.eval s = v) (hown : w.ownsRow base 23 1 v n0 L) {ao : Option Addr} {n cap : Nat} {xs : Nat → Nat} (hx : a.eval x = .slice ao n cap) (hA : FAt w ao n xs) (hn : n = 0 → (∃ ad, ao = some ad) ∨ (ao = none ∧ cap = 0)) (hsm : n0 + n ≤ 17592186043904) (hbase : base ≤ w.heap.size)
    (h : ∀ v' w', w'.ownsRow base 23 1 v' (n0 + n) (L ++ fcells xs n) → Below base w w' → wpList Tryz.prog ops Q rest (a.put o.dst v') w') : wpList Tryz.prog ops Q (o :: rest) a w := by
  obtain ⟨i0, hi0, hz0, hz1, hz2⟩ := info_parts info_f64
  have hbl : ∀ w', w.grownBy w' v.ownBlock → Below base w w' := fun w' r2 => Below.grown (Below.refl _ _) r2 hbase (fun k hk => (row_block hown hk).2)
  by_cases h0 : n = 0
  · subst h0
    rcases hn rfl with ⟨ad, rfl⟩ | ⟨rfl, rfl⟩
    · refine wpList_append_own _ hgd s x 22 ho base 23 i0 (.float .f64 0) 1 8 Tryz.underlying22 hi0 hz0 hz1 hz2 rfl (by decide) v n0 L hs hown ad 0 cap [] hx (by simp) (by intro j u hj; simp at hj) (by intro u hu; simp at hu) (by unfold maxLen; omega) (by omega) hbase ?_
      intro v' w' r1 r2 r3
      exact h v' w' r1 (hbl w' r2)
    · refine wpList_append_own_none hgd s x 22 ho base 23 i0 1 Tryz.underlying22 hi0 v n0 L hs hown hx (h v w ?_ (Below.refl _ _))
      simpa [fcells] using hown
  · obtain ⟨b, o', h1, h2⟩ := hA
    obtain rfl := h1 (by omega)
    refine wpList_append_own _ hgd s x 22 ho base 23 i0 (.float .f64 0) 1 8 Tryz.underlying22 hi0 hz0 hz1 hz2 rfl (by decide) v n0 L hs hown ⟨b, o', none⟩ n cap (fcells xs n) hx (by rw [fcells_length, Nat.mul_one]) (fun j u hj => by
      have hjl : j < n := by
        have := (List.getElem?_eq_some_iff.1 hj).1
        rwa [fcells_length] at this
      rw [fcells_get hjl] at hj
      rw [show (⟨b, o', none⟩ : Addr).add j = ⟨b, o' + j, none⟩ by simp [Addr.add], ← hj]
      exact h2 j hjl) (by intro u hu; simp [fcells] at hu; obtain ⟨j, -, rfl⟩ := hu; rfl) (by unfold maxLen; omega) (by omega) hbase ?_
    intro v' w' r1 r2 _
    exact h v' w' r1 (hbl w' r2)
theorem fcells_rot (xs : Nat → Nat) {len k : Nat} (hk : k ≤ len) : fcells (fun j => xs (k + j)) (len - k) ++ fcells xs k = fcells (rotN xs len k) len := by
  apply List.ext_getElem?
  intro i
  rw [List.getElem?_append, fcells_length]
  by_cases h : i < len
  · rw [fcells_get h]
    unfold rotN
    by_cases h1 : i < len - k
    · rw [if_pos h1, if_pos h1, fcells_get h1]
    · rw [if_neg h1, if_neg h1, fcells_get (by omega)]
  · rw [if_neg (by omega), List.getElem?_eq_none (by rw [fcells_length]; omega), List.getElem?_eq_none (by rw [fcells_length]; omega)]

/-- a list that is put together, its floats in place -/
def RowF (w : World) (base : Nat) (v : Value) (n : Nat) (f : Nat → Nat) : Prop :=
  (n = 0 ∧ ∃ ao cap, v = .slice ao 0 cap) ∨ ∃ g cap cur, v = .slice (some ⟨g, 0, none⟩) n cap ∧ base ≤ g ∧ n ≤ cap ∧ w.heap[g]? = some (.cells cur 23 (0, 0)) ∧ ∀ j, j < n → cur[j]? = some (.float .f64 (f j))
theorem rowF_of {w : World} {base n : Nat} {f : Nat → Nat} {v : Value} (h : w.ownsRow base 23 1 v n (fcells f n)) : RowF w base v n f := by
  rcases h.2 with ⟨rfl, rfl⟩ | ⟨g, cap, cur, rfl, hg, hc2, hc3, hc4, hc5, hc6⟩
  · exact .inl ⟨rfl, none, 0, rfl⟩
  · refine .inr ⟨g, cap, cur, rfl, hg, hc3, hc2, fun j hj => ?_⟩
    have h7 : (fcells f n)[j]? = cur[j]? := by
      rw [← hc6, Nat.mul_one, List.getElem?_take, if_pos hj, Array.getElem?_toList]
    rw [← h7, fcells_get hj]
end Go.Proofs.YtdfkpjagnndfdaaGreatDoor
/- SumsAny: the walk. -/
namespace Go.Proofs.YtdfkpjagnndfdaaGreatDoor
set_option linter.unusedVariables false
set_option linter.unusedSimpArgs false
open Go Go.RowKit Go.Fl64

theorem rot_k (bi : Int) {len : Nat} (h : 0 < len) (hl : len ≤ 17592186043904) : ∃ k : Nat, (wrap64 (bi.tmod (len : Int) + (len : Int))).tmod (len : Int) = (k : Int) ∧ k < len := by
  have h1 : bi.tmod (len : Int) < len := Int.tmod_lt_of_pos _ (by omega)
  have h2 : -(len : Int) < bi.tmod (len : Int) := by have := Int.lt_tmod_of_pos bi (b := (len : Int)) (by omega); omega
  rw [show wrap64 (bi.tmod (len : Int) + (len : Int)) = bi.tmod (len : Int) + (len : Int) by unfold wrap64; omega]
  have h5 : 0 ≤ bi.tmod (len : Int) + (len : Int) := by omega
  generalize bi.tmod (len : Int) + (len : Int) = x at *
  have h3 : x.tmod (len : Int) < len := Int.tmod_lt_of_pos _ (by omega)
  have h4 : 0 ≤ x.tmod (len : Int) := Int.tmod_nonneg _ h5
  exact ⟨(x.tmod (len : Int)).toNat, by omega, by omega⟩
theorem fat_drop {w : World} {b off len : Nat} {xs : Nat → Nat} (h : FAt w (some ⟨b, off, none⟩) len xs) {k : Nat} (hk : k < len) : FAt w (some ⟨b, off + k, none⟩) (len - k) (fun j => xs (k + j)) := by
  obtain ⟨b', off', e, h⟩ := h
  have e := e (by omega)
  cases e
  exact ⟨b, off + k, fun _ => rfl, fun j hj => by rw [Nat.add_assoc]; exact h _ (by omega)⟩
theorem fat_take {w : World} {ao : Option Addr} {len : Nat} {xs : Nat → Nat} (h : FAt w ao len xs) {k : Nat} (hk : k ≤ len) : FAt w ao k xs := by
  obtain ⟨b', off', e, h⟩ := h
  exact ⟨b', off', fun h0 => e (by omega), fun j hj => h _ (by omega)⟩

theorem run_store_float (P : Program) (w : World) (a : Addr) (m : Mode) (k : FloatKind) (n : Nat) : (store a (.float k n) m).run P w = stored P w a (.float k n) m := run_store P w a _ m rfl
attribute [local go_sem] run_store_float
theorem swpN_self (len : Nat) (r : Nat → Nat) : swpN len r 0 = r := by
  funext j
  unfold swpN
  rw [if_neg (by omega)]
theorem swpN_step {len j : Nat} (r : Nat → Nat) (hj : j % 2 = 0) (hl : j + 1 < len) (i : Nat) : swpN len r (j + 2) i = if i = j then swpN len r j (j + 1) else if i = j + 1 then swpN len r j j else swpN len r j i := by
  unfold swpN
  rw [if_neg (show ¬ j + 1 < j by omega), if_neg (show ¬ j < j by omega)]
  by_cases h1 : i = j
  · subst h1
    rw [if_pos rfl, if_pos (by omega), if_pos hj, if_pos hl]
  · rw [if_neg h1]
    by_cases h2 : i = j + 1
    · subst h2
      rw [if_pos rfl, if_pos (by omega), if_neg (by omega), Nat.add_sub_cancel]
    · rw [if_neg h2]
      by_cases h3 : i < j
      · rw [if_pos h3, if_pos (by omega)]
      · rw [if_neg h3, if_neg (by omega)]
/-- a row in place -/
def RowG (w : World) (g n : Nat) (f : Nat → Nat) : Prop := ∃ cur, w.heap[g]? = some (.cells cur 23 (0, 0)) ∧ ∀ j, j < n → cur[j]? = some (.float .f64 (f j))
theorem RowG.cell {w : World} {g n : Nat} {f : Nat → Nat} (h : RowG w g n f) {j : Nat} (hj : j < n) : w.cell? ⟨g, j, none⟩ = some (.float .f64 (f j)) ∧ w.frozen? ⟨g, j, none⟩ = false := by
  obtain ⟨cur, h1, h2⟩ := h
  have h3 := h2 j hj
  refine ⟨?_, by simp [World.frozen?, h1]⟩
  unfold World.cell?
  rw [h1]
  show (if false then none else cur[j]?) = _
  rw [if_neg (by decide), h3]
theorem RowG.fat {w : World} {g n : Nat} {f : Nat → Nat} (h : RowG w g n f) : FAt w (some ⟨g, 0, none⟩) n f := ⟨g, 0, fun _ => rfl, fun j hj => by rw [Nat.zero_add]; exact (h.cell hj).1⟩
theorem RowG.set {w : World} {g n : Nat} {f : Nat → Nat} (h : RowG w g n f) {j : Nat} (hj : j < n) (x : Nat) : RowG (w.setCell ⟨g, j, none⟩ (.float .f64 x)) g n (fun i => if i = j then x else f i) := by
  obtain ⟨cur, h1, h2⟩ := h
  have hs : j < cur.size := (Array.getElem?_eq_some_iff.1 (h2 j hj)).1
  refine ⟨cur.set j (.float .f64 x) hs, ?_, fun i hi => ?_⟩
  · simp [World.setCell, Array.getElem?_modify, h1, Array.setIfInBounds, hs]
  · rw [Array.getElem?_set]
    by_cases e : i = j
    · subst e; simp
    · rw [if_neg (by omega), h2 i hi]; simp [e]
theorem RowG.drew {w : World} {g n : Nat} {f : Nat → Nat} (h : RowG w g n f) : RowG w.drew g n f := h
theorem RowG.congr {w : World} {g n : Nat} {f f' : Nat → Nat} (h : RowG w g n f) (e : ∀ i, i < n → f i = f' i) : RowG w g n f' := by
  obtain ⟨cur, h1, h2⟩ := h
  exact ⟨cur, h1, fun j hj => by rw [h2 j hj, e j hj]⟩
theorem RowG.swap {w : World} {g n : Nat} {r : Nat → Nat} {j : Nat} (h : RowG w g n (swpN n r j)) (hj : j % 2 = 0) (hl : j + 1 < n) : RowG ((w.setCell ⟨g, j, none⟩ (.float .f64 (swpN n r j (j + 1)))).setCell ⟨g, j + 1, none⟩ (.float .f64 (swpN n r j j))) g n (swpN n r (j + 2)) := by
  refine ((h.set (j := j) (by omega) (swpN n r j (j + 1))).set (j := j + 1) hl (swpN n r j j)).congr fun i hi => ?_
  rw [swpN_step r hj hl i]
  by_cases h1 : i = j
  · subst h1; simp
  · by_cases h2 : i = j + 1
    · simp [h2]
    · simp [h1, h2]

theorem hfX_lt {x B : Nat} (h : x < B) (hB : B ≤ 2048) : hfX x < 9218868437227405312 := by
  unfold hfX
  by_cases h1 : 54 ≤ x
  · rw [if_pos h1]; omega
  · rw [if_neg h1]
    by_cases h2 : 2 ≤ x
    · rw [if_pos h2]
      have : 2 ^ (x - 2) ≤ 2 ^ 51 := Nat.pow_le_pow_right (by omega) (by omega)
      omega
    · rw [if_neg h2]; omega
theorem ord_no {a b : Nat} (ha : a < 9218868437227405312) (h : a ≤ b) (hb : b < 9218868437227405312) : (FloatKind.f64.format.order a b == some Ordering.gt) = false := by
  rw [ord_gt a b (by omega) (by omega)]
  unfold lt
  rw [decide_eq_false, Bool.and_false]
  have e1 : stp a = a := by unfold stp sgn neg mag; rw [decide_eq_false (by omega)]; simp; omega
  have e2 : stp b = b := by unfold stp sgn neg mag; rw [decide_eq_false (by omega)]; simp; omega
  rw [e1, e2]; omega
theorem fat0 (w : World) (ao : Option Addr) (xs : Nat → Nat) : FAt w ao 0 xs := ⟨0, 0, fun h => by omega, fun j hj => by omega⟩
theorem len_onlyA {t : Bool × Nat × Int} {n m : Nat} (h1 : (apT t n).2.1 = 0) (h2 : ∀ i, i < n → (apT t i).2.1 ≠ 0) (h3 : (apT t m).2.1 = 0) (h4 : ∀ i, i < m → (apT t i).2.1 ≠ 0) : n = m := by
  rcases (show n < m ∨ n = m ∨ m < n by omega) with h | h | h
  · exact absurd h1 (h4 n h)
  · exact h
  · exact absurd h3 (h2 m h)
/-- what Apart answers: floats and an error; where there is none, the floats are the parts -/
theorem apart_one (ao : Option Addr) (len cap : Nat) (xs : Nat → Nat) (w : World) (hT : Tab32 w) (hI : Ie.Tab w) (hl : FAt w ao len xs) (hx : Fls xs len) (hlen : len ≤ 17592186043904) :
    ∃ (n : Nat) (G : Int), n ≤ 2116 ∧ (G = 0 → chk1 xs len = 0 ∧ (∃ Z, Ap (tSum xs len) Z) ∧ (apT (tSum xs len) n).2.1 = 0 ∧ ∀ i, i < n → (apT (tSum xs len) i).2.1 ≠ 0) ∧
      (∀ W, Below w.heap.size w W → Calls Tryz.prog 6 #[.slice ao len cap] W fun r w' => ∃ ao' cap', r = .returned (.tuple #[.slice ao' n cap', .int .i64 G]) ∧ FAt w' ao' n (apF (tSum xs len)) ∧ Below W.heap.size W w') := by
  by_cases hc : chk1 xs len = 0
  · by_cases hf : mag (nrF (tSum xs len)) < 9218868437227405312
    · obtain ⟨Z, hZ⟩ := tSum_ap hx hc hf
      obtain ⟨N, hN, hz, hnz⟩ := ap_len hZ
      refine ⟨N, 0, hN, fun _ => ⟨hc, ⟨Z, hZ⟩, hz, hnz⟩, fun W hb => ?_⟩
      refine (uApart_ok ao len cap xs W (hT.later hb) (Tab.later hI hb) (hl.later hb) hx hlen hc hf).mono ?_
      rintro r w' ⟨v, rfl, ao', n', cap', rfl, h1, h2, h3, h4, h5⟩
      obtain rfl := len_onlyA h2 h3 hz hnz
      exact ⟨_, _, rfl, h1, h5⟩
    · refine ⟨0, 5, by omega, fun h => by omega, fun W hb => ?_⟩
      refine (uApart_inf ao len cap xs W (hT.later hb) (Tab.later hI hb) (hl.later hb) hx hlen hc hf).mono ?_
      rintro r w' ⟨v, rfl, rfl, h5⟩
      exact ⟨_, _, rfl, ⟨0, 0, fun h => by omega, fun j hj => by omega⟩, h5⟩
  · refine ⟨0, chk1 xs len, by omega, fun h => absurd h hc, fun W hb => ?_⟩
    refine (uApart_err ao len cap xs W (hl.later hb) hx hlen hc).mono ?_
    rintro r w' ⟨rfl, h5⟩
    exact ⟨_, _, rfl, ⟨0, 0, fun h => by omega, fun j hj => by omega⟩, h5⟩

set_option maxHeartbeats 8000000 in
set_option maxRecDepth 200000 in
theorem sumsAny_1 (ao : Option Addr) (len cap : Nat) (xs : Nat → Nat) (bi m : Int) (w : World) (F : Nat) (E : Int) (n : Nat) (G : Int) (hl : FAt w ao len xs) (hx : Fls xs len) (hn : len = 0 → (∃ ad, ao = some ad) ∨ (ao = none ∧ cap = 0)) (h1 : len ≤ cap) (h2 : cap ≤ 17592186043904) (hF : F < 18446744073709551616) (hn6 : n ≤ 2116)
    (kE : ∀ W ao' len' cap' ys, Below w.heap.size w W → len' = len → FAt W ao' len' ys → (lst ys len).Perm (lst xs len) → Calls Tryz.prog 4 #[.slice ao' len' cap', .int .i64 m] W fun r w' => r = .returned (.tuple #[.float .f64 F, .int .i64 E]) ∧ Below W.heap.size W w')
    (kA : ∀ W, Below w.heap.size w W → Calls Tryz.prog 6 #[.slice ao len cap] W fun r w' => ∃ ao' cap', r = .returned (.tuple #[.slice ao' n cap', .int .i64 G]) ∧ FAt w' ao' n (apF (tSum xs len)) ∧ Below W.heap.size W w')
    (kS : ∀ W, Below w.heap.size w W → Calls Tryz.prog 7 #[] W fun r w' => r = .returned (.bool true) ∧ Below W.heap.size W w')
    (hG : G = 0 → chk1 xs len = 0 ∧ (∃ Z, Ap (tSum xs len) Z) ∧ (apT (tSum xs len) n).2.1 = 0 ∧ ∀ i, i < n → (apT (tSum xs len) i).2.1 ≠ 0) :
    Calls Tryz.prog 3 #[.slice ao len cap, .int .i64 bi, .int .i64 m] w fun r w' => r = .returned (.bool true) ∧ Below w.heap.size w w' := by
  have HE : Hid (∀ W ao' len' cap' ys, Below w.heap.size w W → len' = len → FAt W ao' len' ys → (lst ys len).Perm (lst xs len) → Calls Tryz.prog 4 #[.slice ao' len' cap', .int .i64 m] W fun r w' => r = .returned (.tuple #[.float .f64 F, .int .i64 E]) ∧ Below W.heap.size W w') := kE
  have HA : Hid (∀ W, Below w.heap.size w W → Calls Tryz.prog 6 #[.slice ao len cap] W fun r w' => ∃ ao' cap', r = .returned (.tuple #[.slice ao' n cap', .int .i64 G]) ∧ FAt w' ao' n (apF (tSum xs len)) ∧ Below W.heap.size W w') := kA
  have HS : Hid (∀ W, Below w.heap.size w W → Calls Tryz.prog 7 #[] W fun r w' => r = .returned (.bool true) ∧ Below W.heap.size W w') := kS
  have HG : Hid (G = 0 → chk1 xs len = 0 ∧ (∃ Z, Ap (tSum xs len) Z) ∧ (apT (tSum xs len) n).2.1 = 0 ∧ ∀ i, i < n → (apT (tSum xs len) i).2.1 ≠ 0) := hG
  have HX : Hid (F < 18446744073709551616 ∧ Fls xs len ∧ n ≤ 2116) := ⟨hF, hx, hn6⟩
  have HL : Hid (FAt w ao len xs) := hl
  have kk := kE w ao len cap xs (Below.refl _ _) rfl hl (List.Perm.refl _)
  clear kE kA kS hG hF hx hn6
  by_cases hp : 0 < len
  · obtain ⟨b, off, rfl⟩ : ∃ b off, ao = some ⟨b, off, none⟩ := by
      obtain ⟨b, off, e, -⟩ := hl
      exact ⟨b, off, e hp⟩
    obtain ⟨k, hk, hkl⟩ := rot_k bi hp (by omega)
    have hlp : decide ((len : Int) > 0) = true := by simp; omega
    have hl0 : (len : Int) ≠ 0 := by omega
    have hck : cap ≠ k := by omega
    have hkn : (k : Int).toNat = k := by omega
    have hk0 : (0 : Int) ≤ (k : Int) := by omega
    have hk1 : (k : Int) ≤ (len : Int) := by omega
    clear hl hn
    go_enter Tryz.func3, Tryz.ntmps3
    go_wp2_with fail
    refine kk.mono ?_
    rintro r w1 ⟨rfl, hb1⟩
    have HB1 : Hid (Below w.heap.size w w1) := hb1
    clear kk hb1
    go_wp2_with (at_builtin; refine wpList_append_row (base := w1.heap.size) (xs := fun j => xs (k + j)) rfl _ _ rfl rfl (World.ownsRow_nil w1 _ _ _) rfl (fat_drop (HL.out.later HB1.out) hkl) (fun h => by omega) (by omega) (Nat.le_refl _) ?_)
    intro v2 w2 r2 hb2
    have HB2 : Hid (Below w1.heap.size w1 w2 ∧ w2.ownsRow w1.heap.size 23 1 v2 (len - k) (fcells (fun j => xs (k + j)) (len - k))) := ⟨hb2, by simpa using r2⟩
    clear r2 hb2
    go_wp2_with (at_builtin; refine wpList_append_row (base := w1.heap.size) (xs := xs) rfl _ _ rfl rfl HB2.out.2 rfl (fat_take ((HL.out.later HB1.out).later HB2.out.1) (by omega)) (fun h => .inl ⟨_, rfl⟩) (by omega) HB2.out.1.size ?_)
    intro v3 w3 r3 hb3
    rw [fcells_rot xs (by omega), show len - k + k = len by omega] at r3
    obtain ⟨h0, -⟩ | ⟨g, cap3, cur, rfl, hg, hc, hh, hf⟩ := rowF_of r3
    · omega
    have HB3 : Hid (Below w1.heap.size w1 w3 ∧ w1.heap.size ≤ g ∧ RowG w3 g len (rotN xs len k)) := ⟨HB2.out.1.trans hb3, hg, cur, hh, hf⟩
    clear r3 hb3 hg hh hf HB2
    go_wp2_with fail
    go_loopw [11] (fun i wr => ∃ j : Nat, j ≤ len ∧ j % 2 = 0 ∧ i = .int .i64 (j : Int) ∧ Hid (Below w1.heap.size w1 wr ∧ RowG wr g len (swpN len (rotN xs len k) j))) (fun i _ => len - (intOf i).toNat)
    case atStart => exact ⟨0, by omega, rfl, rfl, HB3.out.1, by rw [swpN_self]; exact HB3.out.2.2⟩
    case round =>
      obtain ⟨j, hj, hj2, rfl, HR⟩ := hrel
      have hw2 : IntKind.i64.wrap ((j : Int) + 1) = ((j + 1 : Nat) : Int) := by rw [IntKind.wrap_i64]; omega
      have hw1 : wrap64 ((j : Int) + 1) = ((j + 1 : Nat) : Int) := by unfold wrap64; omega
      by_cases hlt : j + 1 < len
      · obtain ⟨c0, z0⟩ := HR.out.2.cell (j := j) (by omega)
        obtain ⟨c1, z1⟩ := HR.out.2.cell (j := j + 1) (by omega)
        obtain ⟨c2, z2⟩ := HR.out.2.drew.cell (j := j) (by omega)
        obtain ⟨c3, z3⟩ := HR.out.2.drew.cell (j := j + 1) (by omega)
        obtain ⟨c4, z4⟩ := (HR.out.2.drew.set (j := j) (by omega) (swpN len (rotN xs len k) j (j + 1))).cell (j := j + 1) (by omega)
        have hji : (0 : Int) ≤ (j : Int) := by omega
        have hjn : (j : Int) < (len : Int) := by omega
        have hjn1 : ((j + 1 : Nat) : Int) < (len : Int) := by omega
        have HF : Hid (Below w1.heap.size w1 ((wr.drew.setCell ⟨g, j, none⟩ (.float .f64 (swpN len (rotN xs len k) j (j + 1)))).setCell ⟨g, j + 1, none⟩ (.float .f64 (swpN len (rotN xs len k) j j))) ∧ RowG ((wr.drew.setCell ⟨g, j, none⟩ (.float .f64 (swpN len (rotN xs len k) j (j + 1)))).setCell ⟨g, j + 1, none⟩ (.float .f64 (swpN len (rotN xs len k) j j))) g len (swpN len (rotN xs len k) (j + 2))) := ⟨(HR.out.1.drew.setCell HB3.out.2.1 _).setCell HB3.out.2.1 _, HR.out.2.drew.swap hj2 hlt⟩
        clear HR
        generalize swpN len (rotN xs len k) j (j + 1) = x1 at *
        generalize swpN len (rotN xs len k) j j = x0 at *
        go_upto_region 11 with fail
        go_region
        go_wp2_with fail
        go_roundw
        case rel => exact ⟨j + 2, by omega, by omega, by simp, HF⟩
        case measure => simp [intOf]; omega
      · have kk := HE.out wr _ len cap3 _ (HB1.out.trans (HR.out.1.mono HB1.out.size)) rfl HR.out.2.fat ((swp_perm _ (by omega) hj2).trans (rot_perm xs (by omega)))
        have HBR : Hid (Below w.heap.size w wr) := HB1.out.trans (HR.out.1.mono HB1.out.size)
        clear HR HB3 HB1
        go_wp2_with fail
        refine kk.mono ?_
        rintro r w4 ⟨rfl, hb4⟩
        have HB4 : Hid (Below w.heap.size w w4) := HBR.out.trans (hb4.mono HBR.out.size)
        clear kk hb4 HBR
        have hee : (E != E) = false := by simp
        have kk := lsame5 (lk.refl HX.out.1) HX.out.1 w4
        go_wp2_with fail
        refine kk.mono ?_
        rintro r w' ⟨rfl, hw⟩
        rw [hw]
        clear hw kk w'
        have kk := HA.out w4 HB4.out
        go_wp2_with fail
        refine kk.mono ?_
        rintro r w5 ⟨aoP, capP, rfl, hfP, hb5⟩
        have HB5 : Hid (Below w.heap.size w w5 ∧ FAt w5 aoP n (apF (tSum xs len))) := ⟨HB4.out.trans (hb5.mono HB4.out.size), hfP⟩
        clear kk hb5 hfP HB4
        by_cases hG0 : G = 0
        · by_cases hE0 : E = 0
          · subst hG0
            subst hE0
            obtain ⟨W, hW⟩ : ∃ W, W = w5.alloc (.cells #[.bool false, .slice none 0 0, .int .i64 0] 33) := ⟨_, rfl⟩
            have HI : Hid (Below w5.heap.size w5 W ∧ ∃ s ao' n' cap' e, W.heap[w5.heap.size]? = some (.cells #[.bool s, .slice ao' n' cap', .int .i64 e] 33 (0, 0)) ∧ DN W (.agg #[.bool s, .slice ao' n' cap', .int .i64 e]) (tSum xs 0)) := ⟨by rw [hW]; exact (Below.refl _ _).alloc (Nat.le_refl _) _, _, _, _, _, _, by rw [hW]; exact heap_alloc_new _ _, dn_nought W⟩
            have HGG : Hid (chk1 xs len = 0 ∧ (∃ Z, Ap (tSum xs len) Z) ∧ (apT (tSum xs len) n).2.1 = 0 ∧ ∀ i, i < n → (apT (tSum xs len) i).2.1 ≠ 0) := HG.out rfl
            have HCL : Hid (∀ wr, Below w5.heap.size w5 wr → ∀ j, j < len → wr.cell? ⟨b, off + j, none⟩ = some (.float .f64 (xs j))) := fun wr hb j hj => by
              obtain ⟨b', off', e, h⟩ := HL.out.later (HB5.out.1.trans (hb.mono HB5.out.1.size))
              have e := e hp
              cases e
              exact h j hj
            have HL5 : Hid (len ≤ 65536) := (chk1_zero HGG.out.1).1
            clear HG HA HE hee HL
            clear hj hj2 hw2 hw1 hlt
            go_wp2_with fail
            rw [← hW]
            clear hW
            go_loopw [17] (fun i wr => ∃ j : Nat, j ≤ len ∧ i = .int .i64 (j : Int) ∧ Hid (Below w5.heap.size w5 wr ∧ ∃ s ao' n' cap' e, wr.heap[w5.heap.size]? = some (.cells #[.bool s, .slice ao' n' cap', .int .i64 e] 33 (0, 0)) ∧ DN wr (.agg #[.bool s, .slice ao' n' cap', .int .i64 e]) (tSum xs j))) (fun i _ => len - (intOf i).toNat)
            case atStart => exact ⟨0, by omega, rfl, HI⟩
            case round =>
              obtain ⟨j, hj, rfl, HR⟩ := hrel
              clear HI
              by_cases hlt2 : j < len
              · have hcx := HCL.out wr HR.out.1 j hlt2
                have hvl := HX.out.2.1 j hlt2
                obtain ⟨s1, ao1, n1, cap1, ex1, hb1, hp1⟩ := HR.out.2
                obtain ⟨⟨a0, a1, a2⟩, -⟩ := box_cells29 hb1
                have HK : Hid (∀ w', Below wr.heap.size wr w' → (w'.cell? ⟨w5.heap.size, 0, none⟩ = some (.bool s1) ∧ w'.cell? ⟨w5.heap.size, 1, none⟩ = some (.slice ao1 n1 cap1) ∧ w'.cell? ⟨w5.heap.size, 2, none⟩ = some (.int .i64 ex1)) ∧ Below wr.heap.size wr w') := fun w' hb => ⟨(box_cells29 (box_later hb1 hb (lt_of_box hb1))).1, hb⟩
                have hBR : Below wr.heap.size wr wr.drew := (Below.refl _ _).drew
                have qf : ∀ w4, Below wr.heap.size wr w4 → Calls Tryz.prog 9 #[.float .f64 (xs j)] w4 fun r w' => ∃ A, r = .returned A ∧ DN w' A (tF (xs j)) ∧ (w'.cell? ⟨w5.heap.size, 0, none⟩ = some (.bool s1) ∧ w'.cell? ⟨w5.heap.size, 1, none⟩ = some (.slice ao1 n1 cap1) ∧ w'.cell? ⟨w5.heap.size, 2, none⟩ = some (.int .i64 ex1)) ∧ Below wr.heap.size wr w' := fun w4 hb => (float_dn (xs j) hvl w4).mono fun r w' ⟨A, e1, e2, e3⟩ => ⟨A, e1, e2, (HK.out _ (hb.trans (e3.mono hb.size))).1, hb.trans (e3.mono hb.size)⟩
                have qp : ∀ w4 Y, Below wr.heap.size wr w4 → DN w4 Y (tF (xs j)) → Calls Tryz.prog 8 #[.agg #[.bool s1, .slice ao1 n1 cap1, .int .i64 ex1], Y] w4 fun r w' => ∃ s ao n cap e, r = .returned (.agg #[.bool s, .slice ao n cap, .int .i64 e]) ∧ DN w' (.agg #[.bool s, .slice ao n cap, .int .i64 e]) (tSum xs (j + 1)) ∧ Below wr.heap.size wr w' ∧ w'.heap[w5.heap.size]? = some (.cells #[.bool s1, .slice ao1 n1 cap1, .int .i64 ex1] 33 (0, 0)) := fun w4 Y hb h => (plus_dn (tSum_ok xs (by have := HL5.out; omega)).1 (tF_ok _) (hp1.later hb) h).mono fun r w' ⟨A, e1, e2, e3⟩ => by
                        obtain ⟨s, ao, n, cap, e, rfl⟩ := e2.shape
                        exact ⟨s, ao, n, cap, e, e1, e2, hb.trans (e3.mono hb.size), box_later hb1 (hb.trans (e3.mono hb.size)) (lt_of_box hb1)⟩
                clear hb1 hp1
                generalize hxe : xs j = xe at *
                go_upto_region 22 with fail
                go_region_with (first | (go_at_call 9; refine (qf _ hBR).mono ?_; rintro r w6 ⟨A5, rfl, hP5, ⟨b0, b1, b2⟩, hb5⟩) | (go_at_call 8; refine (qp _ _ hb5 hP5).mono ?_; rintro r w7 ⟨s6, ao6, n6, cap6, ex6, rfl, hP6, hb6, hz6⟩; obtain ⟨⟨y0, y1, y2⟩, y3, y4, y5⟩ := box_cells29 hz6))
                all_goals
                  have HF : Hid (Below w5.heap.size w5 (((w7.setCell ⟨w5.heap.size, 0, none⟩ (.bool s6)).setCell ⟨w5.heap.size, 1, none⟩ (.slice ao6 n6 cap6)).setCell ⟨w5.heap.size, 2, none⟩ (.int .i64 ex6)) ∧ ∃ s ao' n' cap' e, (((w7.setCell ⟨w5.heap.size, 0, none⟩ (.bool s6)).setCell ⟨w5.heap.size, 1, none⟩ (.slice ao6 n6 cap6)).setCell ⟨w5.heap.size, 2, none⟩ (.int .i64 ex6)).heap[w5.heap.size]? = some (.cells #[.bool s, .slice ao' n' cap', .int .i64 e] 33 (0, 0)) ∧ DN (((w7.setCell ⟨w5.heap.size, 0, none⟩ (.bool s6)).setCell ⟨w5.heap.size, 1, none⟩ (.slice ao6 n6 cap6)).setCell ⟨w5.heap.size, 2, none⟩ (.int .i64 ex6)) (.agg #[.bool s, .slice ao' n' cap', .int .i64 e]) (tSum xs (j + 1))) :=
                    ⟨below_store3 (HR.out.1.trans (hb6.mono HR.out.1.size)) (Nat.le_refl _) _ _ _, _, _, _, _, _, store3_29 _ _ _ hz6, dn_storeU hP6 hz6 _ _ _⟩
                  clear hP5 hb5 hP6 hb6 hz6 qf qp HK hBR a0 a1 a2 b0 b1 b2 HR hcx
                  go_wp2_with fail
                  go_roundw
                  case rel => exact ⟨j + 1, by omega, by simp, HF⟩
                  case measure => simp [intOf]; omega
              · obtain rfl : len = j := by omega
                go_wp2_with fail
                clear HCL HL5 hp hk hkl hlp hl0 hk1 hck hkn hk0
                go_loopw [18] (fun i wr => ∃ j : Nat, j ≤ n ∧ i = .int .i64 (j : Int) ∧ Hid (Below w5.heap.size w5 wr ∧ ∃ s ao' n' cap' e, wr.heap[w5.heap.size]? = some (.cells #[.bool s, .slice ao' n' cap', .int .i64 e] 33 (0, 0)) ∧ DN wr (.agg #[.bool s, .slice ao' n' cap', .int .i64 e]) (apT (tSum xs len) j))) (fun i _ => n - (intOf i).toNat)
                case atStart => exact ⟨0, by omega, rfl, HR⟩
                case round =>
                  clear HR
                  obtain ⟨j, hj, rfl, HR⟩ := hrel
                  obtain ⟨s1, ao1, n1, cap1, ex1, hb1, hp1⟩ := HR.out.2
                  have h6 : n ≤ 2116 := HX.out.2.2
                  by_cases hlt3 : j < n
                  · obtain ⟨bP, offP, hao, hcP⟩ := HB5.out.2
                    obtain rfl := hao (by omega)
                    obtain ⟨Z, hZ⟩ := HGG.out.2.1
                    obtain ⟨Zj, hAp, -⟩ := ap_all hZ j
                    have hnz := HGG.out.2.2.2 j hlt3
                    have hvl : apF (tSum xs len) j < 18446744073709551616 := nrF_lt _
                    have HK : Hid (∀ w', Below wr.heap.size wr w' → (w'.cell? ⟨w5.heap.size, 0, none⟩ = some (.bool s1) ∧ w'.cell? ⟨w5.heap.size, 1, none⟩ = some (.slice ao1 n1 cap1) ∧ w'.cell? ⟨w5.heap.size, 2, none⟩ = some (.int .i64 ex1)) ∧ w'.cell? ⟨bP, offP + j, none⟩ = some (.float .f64 (apF (tSum xs len) j)) ∧ (∀ i, i < n → w'.cell? ⟨bP, offP + i, none⟩ = some (.float .f64 (apF (tSum xs len) i))) ∧ Below wr.heap.size wr w') := fun w' hb => ⟨(box_cells29 (box_later hb1 hb (lt_of_box hb1))).1, FAt.cellAt (ao := none) hcP hlt3 (HR.out.1.trans (hb.mono HR.out.1.size)), fun i hi => FAt.cellAt (ao := none) hcP hi (HR.out.1.trans (hb.mono HR.out.1.size)), hb⟩
                    have HQF : Hid (∀ w4, Below wr.heap.size wr w4 → Calls Tryz.prog 9 #[.float .f64 (apF (tSum xs len) j)] w4 fun r w' => ∃ A, r = .returned A ∧ DN w' A (tF (apF (tSum xs len) j)) ∧ (w'.cell? ⟨w5.heap.size, 0, none⟩ = some (.bool s1) ∧ w'.cell? ⟨w5.heap.size, 1, none⟩ = some (.slice ao1 n1 cap1) ∧ w'.cell? ⟨w5.heap.size, 2, none⟩ = some (.int .i64 ex1)) ∧ Below wr.heap.size wr w') := fun w4 hb => (float_dn (apF (tSum xs len) j) hvl w4).mono fun r w' ⟨A, e1, e2, e3⟩ => ⟨A, e1, e2, (HK.out _ (hb.trans (e3.mono hb.size))).1, hb.trans (e3.mono hb.size)⟩
                    have HQP : Hid (∀ w4 Y, Below wr.heap.size wr w4 → DN w4 Y (tF (apF (tSum xs len) j)) → Calls Tryz.prog 13 #[.agg #[.bool s1, .slice ao1 n1 cap1, .int .i64 ex1], Y] w4 fun r w' => ∃ s ao n cap e, r = .returned (.agg #[.bool s, .slice ao n cap, .int .i64 e]) ∧ DN w' (.agg #[.bool s, .slice ao n cap, .int .i64 e]) (apT (tSum xs len) (j + 1)) ∧ Below wr.heap.size wr w' ∧ w'.heap[w5.heap.size]? = some (.cells #[.bool s1, .slice ao1 n1 cap1, .int .i64 ex1] 33 (0, 0))) := fun w4 Y hb h => (less_db hAp.ok (tF_ok _) (hp1.later hb) h).mono fun r w' ⟨s, ao, n, cap, e, e1, e2, e3⟩ => ⟨s, ao, n, cap, e, e1, e2.1, hb.trans (e3.mono hb.size), box_later hb1 (hb.trans (e3.mono hb.size)) (lt_of_box hb1)⟩
                    have k1 := fun W => fin_of6 (a := apF (tSum xs len) j) hvl hAp.fin W
                    have k2 := fun W => dabs1 (apF (tSum xs len) j) hvl W
                    clear hb1 hp1
                    by_cases hj0 : j = 0
                    · subst hj0
                      obtain ⟨-, hcx0, -, -⟩ := HK.out wr (Below.refl _ _)
                      have hcx1 : wr.cell? ⟨bP, offP, none⟩ = some (.float .f64 (apF (tSum xs len) 0)) := hcx0
                      have hn0 : (0 : Int) < (n : Int) := by omega
                      clear hvl hcx0 hao hcP hAp hZ hnz
                      generalize hxe : apF (tSum xs len) 0 = xe at hcx1 k1 k2 HK HQF HQP
                      clear hxe
                      go_upto_region 26 with fail
                      go_quiet (first | (go_at_call 10; refine Calls.quiet_of_same (k1 _)))
                      have hBN : Below wr.heap.size wr (wr.drewN nq) := ⟨rfl, rfl, rfl, Nat.le_refl _, fun _ _ => rfl⟩
                      obtain ⟨⟨a0, a1, a2⟩, hcq, -, -⟩ := HK.out _ hBN
                      have hcq : (wr.drewN nq).cell? ⟨bP, offP, none⟩ = some (.float .f64 xe) := hcq
                      have hBR : Below wr.heap.size wr (wr.drewN nq).drew := hBN.drew
                      have qf := HQF.out
                      have qp := HQP.out
                      clear hBN k1 k2 hcx1
                      generalize wr.drewN nq = wq at *
                      go_upto_region 28 with fail
                      go_region_with (first | (go_at_call 9; refine (qf _ hBR).mono ?_; rintro r w6 ⟨A5, rfl, hP5, ⟨b0, b1, b2⟩, hb5⟩) | (go_at_call 13; refine (qp _ _ hb5 hP5).mono ?_; rintro r w7 ⟨s6, ao6, n6, cap6, ex6, rfl, hP6, hb6, hz6⟩; obtain ⟨⟨y0, y1, y2⟩, y3, y4, y5⟩ := box_cells29 hz6))
                      all_goals
                        have HF : Hid (Below w5.heap.size w5 (((w7.setCell ⟨w5.heap.size, 0, none⟩ (.bool s6)).setCell ⟨w5.heap.size, 1, none⟩ (.slice ao6 n6 cap6)).setCell ⟨w5.heap.size, 2, none⟩ (.int .i64 ex6)) ∧ ∃ s ao' n' cap' e, (((w7.setCell ⟨w5.heap.size, 0, none⟩ (.bool s6)).setCell ⟨w5.heap.size, 1, none⟩ (.slice ao6 n6 cap6)).setCell ⟨w5.heap.size, 2, none⟩ (.int .i64 ex6)).heap[w5.heap.size]? = some (.cells #[.bool s, .slice ao' n' cap', .int .i64 e] 33 (0, 0)) ∧ DN (((w7.setCell ⟨w5.heap.size, 0, none⟩ (.bool s6)).setCell ⟨w5.heap.size, 1, none⟩ (.slice ao6 n6 cap6)).setCell ⟨w5.heap.size, 2, none⟩ (.int .i64 ex6)) (.agg #[.bool s, .slice ao' n' cap', .int .i64 e]) (apT (tSum xs len) (0 + 1))) :=
                          ⟨below_store3 (HR.out.1.trans (hb6.mono HR.out.1.size)) (Nat.le_refl _) _ _ _, _, _, _, _, _, store3_29 _ _ _ hz6, dn_storeU hP6 hz6 _ _ _⟩
                        clear hP5 hb5 hP6 hb6 hz6 qf qp HK hBR a0 a1 a2 b0 b1 b2 HR hcq
                        go_wp2_with fail
                        go_roundw
                        case rel => exact ⟨0 + 1, by omega, by simp, HF⟩
                        case measure => simp [intOf]; omega
                    · obtain ⟨i, hij⟩ : ∃ i, j = i + 1 := ⟨j - 1, by omega⟩
                      obtain ⟨Zi, hAi, -⟩ := ap_all hZ i
                      obtain ⟨U, kU, hU⟩ := dunit (apF (tSum xs len) i) (nrF_lt _) hAi.fin
                      have hle := part_next hZ (HGG.out.2.2.2 i (by omega)) (by rw [← hij]; exact hnz)
                      rw [← hij] at hle
                      obtain ⟨-, hcx0, hci, -⟩ := HK.out wr (Below.refl _ _)
                      have hcy := hci i (by omega)
                      have hin : (0 : Int) ≤ (i : Int) := by omega
                      have hin2 : (i : Int) < (n : Int) := by omega
                      have hjn0 : (0 : Int) ≤ (j : Int) := by omega
                      have hin3 : (j : Int) < (n : Int) := by omega
                      have hpos : (j : Int) > 0 := by omega
                      have hpos2 : (0 : Int) < (j : Int) := by omega
                      have hposd2 : decide ((0 : Int) < (j : Int)) = true := decide_eq_true hpos2
                      have hposn : 0 < j := by omega
                      have hposd : decide ((j : Int) > 0) = true := decide_eq_true hpos
                      have hw1 : IntKind.i64.wrap ((j : Int) - 1) = (i : Int) := by rw [IntKind.wrap_i64]; omega
                      have f1 : mag (apF (tSum xs len) i) < 9218868437227405312 := hAi.fin
                      have f2 : mag (apF (tSum xs len) j) < 9218868437227405312 := hAp.fin
                      have f3 : max 1 (mag (apF (tSum xs len) i) / 4503599627370496) < 2048 := by omega
                      have hgt : (FloatKind.f64.format.order (mag (apF (tSum xs len) j)) (hfX (max 1 (mag (apF (tSum xs len) i) / 4503599627370496))) == some Ordering.gt) = false := ord_no f2 hle (hfX_lt f3 (Nat.le_refl _))
                      clear hvl hao hcP hAp hZ hnz hci hAi hle hj0 f1 f2 f3 hij
                      generalize hfX (max 1 (mag (apF (tSum xs len) i) / 4503599627370496)) = Hf at hU hgt
                      have hrq : ∀ W, (binOp .quo 23 (.float .f64 U) (.float .f64 4611686018427387904)).run Tryz.prog W = .ok (.float .f64 Hf) W := fun W => run_float_arith W .quo 23 .f64 U _ _ hU
                      generalize hye : apF (tSum xs len) i = ye at hcy kU
                      generalize hxe : apF (tSum xs len) j = xe at hcx0 k1 k2 HK HQF HQP hgt
                      clear hxe hye
                      generalize mag xe = mx at k2 hgt
                      go_upto_region 26 with fail
                      go_quiet (first | (go_at_call 10; refine Calls.quiet_of_same (k1 _)) | (go_at_call 11; refine Calls.quiet_of_same (k2 _)) | (go_at_call 12; refine Calls.quiet_of_same (kU _)))
                      have hBN : Below wr.heap.size wr (wr.drewN nq) := ⟨rfl, rfl, rfl, Nat.le_refl _, fun _ _ => rfl⟩
                      obtain ⟨⟨a0, a1, a2⟩, hcq, -, -⟩ := HK.out _ hBN
                      have hBR : Below wr.heap.size wr (wr.drewN nq).drew := hBN.drew
                      have qf := HQF.out
                      have qp := HQP.out
                      clear hBN k1 k2 kU hcx0 hcy hU hgt hw1 hrq
                      generalize wr.drewN nq = wq at *
                      go_upto_region 28 with fail
                      go_region_with (first | (go_at_call 9; refine (qf _ hBR).mono ?_; rintro r w6 ⟨A5, rfl, hP5, ⟨b0, b1, b2⟩, hb5⟩) | (go_at_call 13; refine (qp _ _ hb5 hP5).mono ?_; rintro r w7 ⟨s6, ao6, n6, cap6, ex6, rfl, hP6, hb6, hz6⟩; obtain ⟨⟨y0, y1, y2⟩, y3, y4, y5⟩ := box_cells29 hz6))
                      all_goals
                        have HF : Hid (Below w5.heap.size w5 (((w7.setCell ⟨w5.heap.size, 0, none⟩ (.bool s6)).setCell ⟨w5.heap.size, 1, none⟩ (.slice ao6 n6 cap6)).setCell ⟨w5.heap.size, 2, none⟩ (.int .i64 ex6)) ∧ ∃ s ao' n' cap' e, (((w7.setCell ⟨w5.heap.size, 0, none⟩ (.bool s6)).setCell ⟨w5.heap.size, 1, none⟩ (.slice ao6 n6 cap6)).setCell ⟨w5.heap.size, 2, none⟩ (.int .i64 ex6)).heap[w5.heap.size]? = some (.cells #[.bool s, .slice ao' n' cap', .int .i64 e] 33 (0, 0)) ∧ DN (((w7.setCell ⟨w5.heap.size, 0, none⟩ (.bool s6)).setCell ⟨w5.heap.size, 1, none⟩ (.slice ao6 n6 cap6)).setCell ⟨w5.heap.size, 2, none⟩ (.int .i64 ex6)) (.agg #[.bool s, .slice ao' n' cap', .int .i64 e]) (apT (tSum xs len) (j + 1))) :=
                          ⟨below_store3 (HR.out.1.trans (hb6.mono HR.out.1.size)) (Nat.le_refl _) _ _ _, _, _, _, _, _, store3_29 _ _ _ hz6, dn_storeU hP6 hz6 _ _ _⟩
                        clear hP5 hb5 hP6 hb6 hz6 qf qp HK hBR a0 a1 a2 b0 b1 b2 HR hcq
                        go_wp2_with fail
                        go_roundw
                        case rel => exact ⟨j + 1, by omega, by simp, HF⟩
                        case measure => simp [intOf]; omega
                  · obtain rfl : n = j := by omega
                    obtain ⟨⟨a0, a1, a2⟩, -⟩ := box_cells29 hb1
                    obtain ⟨Z, hZ⟩ := HGG.out.2.1
                    obtain ⟨Zj, hAp, -⟩ := ap_all hZ n
                    obtain ⟨sg, hsg, ksg⟩ := dsgn hAp.ok
                    have kk := ksg wr _ hp1
                    have hs0 : (sg == 0) = true := by
                      have h := hsg
                      rw [decide_eq_false (by simp [HGG.out.2.2.1])] at h
                      simpa using h
                    have HB6 : Hid (Below w.heap.size w wr) := HB5.out.1.trans (HR.out.1.mono HB5.out.1.size)
                    clear HR hb1 hp1 hZ hAp ksg hsg
                    go_wp2_with fail
                    refine kk.mono ?_
                    rintro r w8 ⟨rfl, hb8⟩
                    have HB8 : Hid (Below w.heap.size w w8) := HB6.out.trans (hb8.mono HB6.out.size)
                    clear kk hb8 HB6 a0 a1 a2
                    have kk := HS.out w8 HB8.out
                    go_wp2_with fail
                    refine kk.mono ?_
                    rintro r w9 ⟨rfl, hb9⟩
                    have HB9 : Hid (Below w.heap.size w w9) := HB8.out.trans (hb9.mono HB8.out.size)
                    clear kk hb9 HB8
                    go_wp2_with fail
                    go_ret
                    exact ⟨rfl, HB9.out⟩
          · have hgb : (G != 0) = false := by simp [hG0]
            have heb : (E != 0) = true := by simp [hE0]
            have kk := HS.out w5 HB5.out.1
            go_wp2_with fail
            refine kk.mono ?_
            rintro r w6 ⟨rfl, hb6⟩
            have HB6 : Hid (Below w.heap.size w w6) := HB5.out.1.trans (hb6.mono HB5.out.1.size)
            clear kk hb6 HB5
            go_wp2_with fail
            go_ret
            exact ⟨rfl, HB6.out⟩
        · have hgb : (G != 0) = true := by simp [hG0]
          have kk := HS.out w5 HB5.out.1
          go_wp2_with fail
          refine kk.mono ?_
          rintro r w6 ⟨rfl, hb6⟩
          have HB6 : Hid (Below w.heap.size w w6) := HB5.out.1.trans (hb6.mono HB5.out.1.size)
          clear kk hb6 HB5
          go_wp2_with fail
          go_ret
          exact ⟨rfl, HB6.out⟩
  · obtain rfl : len = 0 := by omega
    have hlp : decide (((0 : Nat) : Int) > 0) = false := by simp
    rcases hn rfl with ⟨ad, rfl⟩ | ⟨rfl, rfl⟩
    · clear hl hn
      go_enter Tryz.func3, Tryz.ntmps3
      go_wp2_with fail
      refine kk.mono ?_
      rintro r w1 ⟨rfl, hb1⟩
      have HB1 : Hid (Below w.heap.size w w1) := hb1
      clear kk hb1
      go_wp2_with (at_builtin; refine wpList_append_row (base := w1.heap.size) (xs := xs) rfl _ _ rfl rfl (World.ownsRow_nil w1 _ _ _) rfl (fat0 _ _ _) (fun _ => .inl ⟨_, rfl⟩) (by omega) (Nat.le_refl _) ?_)
      all_goals
        intro v2 w2 r2 hb2
        have HB2 : Hid (Below w1.heap.size w1 w2 ∧ w2.ownsRow w1.heap.size 23 1 v2 0 []) := ⟨hb2, by simpa [fcells] using r2⟩
        clear r2 hb2
        go_wp2_with (at_builtin; refine wpList_append_row (base := w1.heap.size) (xs := xs) rfl _ _ rfl rfl HB2.out.2 rfl (fat0 _ _ _) (fun _ => .inl ⟨_, rfl⟩) (by omega) HB2.out.1.size ?_)
        intro v3 w3 r3 hb3
        obtain ⟨ao3, cap3, rfl⟩ : ∃ ao3 cap3, v3 = .slice ao3 0 cap3 := by
          obtain ⟨-, h⟩ | ⟨g, cap3, cur, rfl, -⟩ := rowF_of (n := 0) (f := xs) (show w3.ownsRow w1.heap.size 23 1 v3 0 [] by simpa [fcells] using r3)
          · exact h
          · exact ⟨_, _, rfl⟩
        have HBR : Hid (Below w.heap.size w w3) := HB1.out.trans ((HB2.out.1.trans hb3).mono HB1.out.size)
        clear r3 hb3 HB2 HB1
        have kk := HE.out w3 ao3 0 cap3 xs HBR.out rfl (fat0 _ _ _) (List.Perm.refl _)
        go_wp2_with fail
        go_loopw [11] (fun i wr => i = .int .i64 0 ∧ wr = w3) (fun _ _ => 0)
        case atStart => exact ⟨rfl, rfl⟩
        case round =>
          obtain ⟨rfl, rfl⟩ := hrel
          go_wp2_with fail
          refine kk.mono ?_
          rintro r w4 ⟨rfl, hb4⟩
          have HB4 : Hid (Below w.heap.size w w4) := HBR.out.trans (hb4.mono HBR.out.size)
          clear kk hb4 HBR
          have hee : (E != E) = false := by simp
          have kk := lsame5 (lk.refl HX.out.1) HX.out.1 w4
          go_wp2_with fail
          refine kk.mono ?_
          rintro r w' ⟨rfl, hw⟩
          rw [hw]
          clear hw kk w'
          have kk := HA.out w4 HB4.out
          go_wp2_with fail
          refine kk.mono ?_
          rintro r w5 ⟨aoP, capP, rfl, hfP, hb5⟩
          have HB5 : Hid (Below w.heap.size w w5 ∧ FAt w5 aoP n (apF (tSum xs 0))) := ⟨HB4.out.trans (hb5.mono HB4.out.size), hfP⟩
          clear kk hb5 hfP HB4
          by_cases hG0 : G = 0
          · by_cases hE0 : E = 0
            · subst hG0
              subst hE0
              obtain rfl : n = 0 := by
                rcases Nat.eq_zero_or_pos n with h | h
                · exact h
                · exact absurd rfl ((HG.out rfl).2.2.2 0 h)
              obtain ⟨W, hW⟩ : ∃ W, W = w5.alloc (.cells #[.bool false, .slice none 0 0, .int .i64 0] 33) := ⟨_, rfl⟩
              obtain ⟨⟨a0, a1, a2⟩, -⟩ := box_cells29 (show W.heap[w5.heap.size]? = some (.cells #[.bool false, .slice none 0 0, .int .i64 0] 33 (0, 0)) by rw [hW]; exact heap_alloc_new _ _)
              have HW : Hid (Below w.heap.size w W) := by rw [hW]; exact HB5.out.1.trans (((Below.refl _ _).alloc (Nat.le_refl _) _).mono HB5.out.1.size)
              obtain ⟨sg, hsg, ksg⟩ := dsgn (tSum_ok xs (k := 0) (by omega)).1
              have kk := ksg W _ (dn_nought W)
              have hs0 : (sg == 0) = true := by
                have h := hsg
                rw [decide_eq_false (by simp [tSum])] at h
                simpa using h
              clear hsg ksg HB5 HG HA HE
              go_wp2_with fail
              rw [← hW]
              clear hW
              go_loopw [17] (fun i wr => i = .int .i64 0 ∧ wr = W) (fun _ _ => 0)
              case atStart => exact ⟨rfl, rfl⟩
              case round =>
                obtain ⟨rfl, rfl⟩ := hrel
                go_wp2_with fail
                go_loopw [18] (fun i wr' => i = .int .i64 0 ∧ wr' = wr) (fun _ _ => 0)
                case atStart => exact ⟨rfl, rfl⟩
                case round =>
                  obtain ⟨rfl, hw⟩ := hrel
                  rw [hw]
                  go_wp2_with fail
                  refine kk.mono ?_
                  rintro r w8 ⟨rfl, hb8⟩
                  have HB8 : Hid (Below w.heap.size w w8) := HW.out.trans (hb8.mono HW.out.size)
                  clear kk hb8 a0 a1 a2
                  have kk := HS.out w8 HB8.out
                  go_wp2_with fail
                  refine kk.mono ?_
                  rintro r w9 ⟨rfl, hb9⟩
                  have HB9 : Hid (Below w.heap.size w w9) := HB8.out.trans (hb9.mono HB8.out.size)
                  clear kk hb9 HB8
                  go_wp2_with fail
                  go_ret
                  exact ⟨rfl, HB9.out⟩
            · have hgb : (G != 0) = false := by simp [hG0]
              have heb : (E != 0) = true := by simp [hE0]
              have kk := HS.out w5 HB5.out.1
              go_wp2_with fail
              refine kk.mono ?_
              rintro r w6 ⟨rfl, hb6⟩
              have HB6 : Hid (Below w.heap.size w w6) := HB5.out.1.trans (hb6.mono HB5.out.1.size)
              clear kk hb6 HB5
              go_wp2_with fail
              go_ret
              exact ⟨rfl, HB6.out⟩
          · have hgb : (G != 0) = true := by simp [hG0]
            have kk := HS.out w5 HB5.out.1
            go_wp2_with fail
            refine kk.mono ?_
            rintro r w6 ⟨rfl, hb6⟩
            have HB6 : Hid (Below w.heap.size w w6) := HB5.out.1.trans (hb6.mono HB5.out.1.size)
            clear kk hb6 HB5
            go_wp2_with fail
            go_ret
            exact ⟨rfl, HB6.out⟩
    · clear hl hn
      go_enter Tryz.func3, Tryz.ntmps3
      go_wp2_with fail
      refine kk.mono ?_
      rintro r w1 ⟨rfl, hb1⟩
      have HB1 : Hid (Below w.heap.size w w1) := hb1
      clear kk hb1
      go_wp2_with (at_builtin; refine wpList_append_row (base := w1.heap.size) (xs := xs) rfl _ _ rfl rfl (World.ownsRow_nil w1 _ _ _) rfl (fat0 _ _ _) (fun _ => .inr ⟨rfl, rfl⟩) (by omega) (Nat.le_refl _) ?_)
      all_goals
        intro v2 w2 r2 hb2
        have HB2 : Hid (Below w1.heap.size w1 w2 ∧ w2.ownsRow w1.heap.size 23 1 v2 0 []) := ⟨hb2, by simpa [fcells] using r2⟩
        clear r2 hb2
        go_wp2_with (at_builtin; refine wpList_append_row (base := w1.heap.size) (xs := xs) rfl _ _ rfl rfl HB2.out.2 rfl (fat0 _ _ _) (fun _ => .inr ⟨rfl, rfl⟩) (by omega) HB2.out.1.size ?_)
        intro v3 w3 r3 hb3
        obtain ⟨ao3, cap3, rfl⟩ : ∃ ao3 cap3, v3 = .slice ao3 0 cap3 := by
          obtain ⟨-, h⟩ | ⟨g, cap3, cur, rfl, -⟩ := rowF_of (n := 0) (f := xs) (show w3.ownsRow w1.heap.size 23 1 v3 0 [] by simpa [fcells] using r3)
          · exact h
          · exact ⟨_, _, rfl⟩
        have HBR : Hid (Below w.heap.size w w3) := HB1.out.trans ((HB2.out.1.trans hb3).mono HB1.out.size)
        clear r3 hb3 HB2 HB1
        have kk := HE.out w3 ao3 0 cap3 xs HBR.out rfl (fat0 _ _ _) (List.Perm.refl _)
        go_wp2_with fail
        go_loopw [11] (fun i wr => i = .int .i64 0 ∧ wr = w3) (fun _ _ => 0)
        case atStart => exact ⟨rfl, rfl⟩
        case round =>
          obtain ⟨rfl, rfl⟩ := hrel
          go_wp2_with fail
          refine kk.mono ?_
          rintro r w4 ⟨rfl, hb4⟩
          have HB4 : Hid (Below w.heap.size w w4) := HBR.out.trans (hb4.mono HBR.out.size)
          clear kk hb4 HBR
          have hee : (E != E) = false := by simp
          have kk := lsame5 (lk.refl HX.out.1) HX.out.1 w4
          go_wp2_with fail
          refine kk.mono ?_
          rintro r w' ⟨rfl, hw⟩
          rw [hw]
          clear hw kk w'
          have kk := HA.out w4 HB4.out
          go_wp2_with fail
          refine kk.mono ?_
          rintro r w5 ⟨aoP, capP, rfl, hfP, hb5⟩
          have HB5 : Hid (Below w.heap.size w w5 ∧ FAt w5 aoP n (apF (tSum xs 0))) := ⟨HB4.out.trans (hb5.mono HB4.out.size), hfP⟩
          clear kk hb5 hfP HB4
          by_cases hG0 : G = 0
          · by_cases hE0 : E = 0
            · subst hG0
              subst hE0
              obtain rfl : n = 0 := by
                rcases Nat.eq_zero_or_pos n with h | h
                · exact h
                · exact absurd rfl ((HG.out rfl).2.2.2 0 h)
              obtain ⟨W, hW⟩ : ∃ W, W = w5.alloc (.cells #[.bool false, .slice none 0 0, .int .i64 0] 33) := ⟨_, rfl⟩
              obtain ⟨⟨a0, a1, a2⟩, -⟩ := box_cells29 (show W.heap[w5.heap.size]? = some (.cells #[.bool false, .slice none 0 0, .int .i64 0] 33 (0, 0)) by rw [hW]; exact heap_alloc_new _ _)
              have HW : Hid (Below w.heap.size w W) := by rw [hW]; exact HB5.out.1.trans (((Below.refl _ _).alloc (Nat.le_refl _) _).mono HB5.out.1.size)
              obtain ⟨sg, hsg, ksg⟩ := dsgn (tSum_ok xs (k := 0) (by omega)).1
              have kk := ksg W _ (dn_nought W)
              have hs0 : (sg == 0) = true := by
                have h := hsg
                rw [decide_eq_false (by simp [tSum])] at h
                simpa using h
              clear hsg ksg HB5 HG HA HE
              go_wp2_with fail
              rw [← hW]
              clear hW
              go_loopw [17] (fun i wr => i = .int .i64 0 ∧ wr = W) (fun _ _ => 0)
              case atStart => exact ⟨rfl, rfl⟩
              case round =>
                obtain ⟨rfl, rfl⟩ := hrel
                go_wp2_with fail
                go_loopw [18] (fun i wr' => i = .int .i64 0 ∧ wr' = wr) (fun _ _ => 0)
                case atStart => exact ⟨rfl, rfl⟩
                case round =>
                  obtain ⟨rfl, hw⟩ := hrel
                  rw [hw]
                  go_wp2_with fail
                  refine kk.mono ?_
                  rintro r w8 ⟨rfl, hb8⟩
                  have HB8 : Hid (Below w.heap.size w w8) := HW.out.trans (hb8.mono HW.out.size)
                  clear kk hb8 a0 a1 a2
                  have kk := HS.out w8 HB8.out
                  go_wp2_with fail
                  refine kk.mono ?_
                  rintro r w9 ⟨rfl, hb9⟩
                  have HB9 : Hid (Below w.heap.size w w9) := HB8.out.trans (hb9.mono HB8.out.size)
                  clear kk hb9 HB8
                  go_wp2_with fail
                  go_ret
                  exact ⟨rfl, HB9.out⟩
            · have hgb : (G != 0) = false := by simp [hG0]
              have heb : (E != 0) = true := by simp [hE0]
              have kk := HS.out w5 HB5.out.1
              go_wp2_with fail
              refine kk.mono ?_
              rintro r w6 ⟨rfl, hb6⟩
              have HB6 : Hid (Below w.heap.size w w6) := HB5.out.1.trans (hb6.mono HB5.out.1.size)
              clear kk hb6 HB5
              go_wp2_with fail
              go_ret
              exact ⟨rfl, HB6.out⟩
          · have hgb : (G != 0) = true := by simp [hG0]
            have kk := HS.out w5 HB5.out.1
            go_wp2_with fail
            refine kk.mono ?_
            rintro r w6 ⟨rfl, hb6⟩
            have HB6 : Hid (Below w.heap.size w w6) := HB5.out.1.trans (hb6.mono HB5.out.1.size)
            clear kk hb6 HB5
            go_wp2_with fail
            go_ret
            exact ⟨rfl, HB6.out⟩

theorem sumsAny_ok (ao : Option Addr) (len cap : Nat) (xs : Nat → Nat) (bi m : Int) (w : World) (hl : FAt w ao len xs) (hx : Fls xs len) (hn : len = 0 → (∃ ad, ao = some ad) ∨ (ao = none ∧ cap = 0)) (h1 : len ≤ cap) (h2 : cap ≤ 17592186043904) (hT : Tab32 w) (hI : Ie.Tab w) :
    Calls Tryz.prog 3 #[.slice ao len cap, .int .i64 bi, .int .i64 m] w fun r w' => r = .returned (.bool true) ∧ Below w.heap.size w w' := by
  obtain ⟨n, G, hn6, hG, kA⟩ := apart_one ao len cap xs w hT hI hl hx (by omega)
  refine sumsAny_1 ao len cap xs bi m w (exF xs len m) (exE xs len m) n G hl hx hn h1 h2 (exF_lt hx) hn6 (fun W ao' len' cap' ys hb e hf hp => ?_) kA (fun W hb => sure5_ok W (hT.later hb) (Tab.later hI hb)) hG
  subst e
  rw [← exF_perm hp hx m, ← exE_perm hp m]
  exact uExact ao' len' cap' ys m W (hT.later hb) (Tab.later hI hb) hf (fls_perm hp hx) (by omega)
end Go.Proofs.YtdfkpjagnndfdaaGreatDoor
