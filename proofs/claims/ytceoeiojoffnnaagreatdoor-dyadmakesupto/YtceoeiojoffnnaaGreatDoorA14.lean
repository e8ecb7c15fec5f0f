/- Own work: contracts of the program's functions, part A14. -/
import Derived.Test.YtceoeiojoffnnaaGreatDoorA12
import Derived.Test.YtceoeiojoffnnaaGreatDoorA13
import Derived.Test.YtceoeiojoffnnaaGreatDoorA11

/- The numbers that the law's own small test makes. -/
namespace Go.Proofs.YtceoeiojoffnnaaGreatDoor
set_option linter.unusedVariables false
set_option linter.unusedSimpArgs false
open Go.RowKit Go.Fl64

theorem dlen_1 {x : Nat} (h0 : x ≠ 0) (h : x < 4294967296) : dlen x = 1 := by
  rw [dlen_pos h0, Nat.div_eq_of_lt (by unfold B; omega), dlen_zero]
/-- a number that was made: its value, its digits readable -/
theorem Nrm.kn {w : World} {base : Nat} {a : Value} {s : Bool} {z x t : Nat} {e e' : Int} (h : Nrm w base a s z e) (h0 : z ≠ 0) (ht : tz z = t) (hx : z / 2 ^ t = x) (he : e + (t : Int) = e') :
    ∃ ao cap, a = .agg #[.bool s, .slice ao (dlen x) cap, .int .i64 e'] ∧ Is w (.slice ao (dlen x) cap) x := by
  subst ht hx he
  rcases h with ⟨h1, -⟩ | ⟨-, v, rfl, ho⟩
  · exact absurd h1 h0
  · obtain ⟨ao, cap, rfl, h1, h2, h3⟩ := ho.is
    exact ⟨ao, cap, rfl, ao, cap, rfl, h1, h2, h3⟩
theorem Nrm.odd {w : World} {base : Nat} {a : Value} {s : Bool} {z : Nat} {e : Int} (h : Nrm w base a s z e) (ho : z % 2 = 1) :
    ∃ ao cap, a = .agg #[.bool s, .slice ao (dlen z) cap, .int .i64 e] ∧ Is w (.slice ao (dlen z) cap) z :=
  h.kn (t := 0) (by intro e; subst e; simp at ho) (tz_odd ho) (by simp) (by simp)
theorem Nrm.nil {w : World} {base : Nat} {a : Value} {s : Bool} {e : Int} (h : Nrm w base a s 0 e) : a = .agg #[.bool false, .slice none 0 0, .int .i64 0] := by
  rcases h with ⟨-, h⟩ | ⟨h, -⟩
  · exact h
  · exact absurd rfl h
theorem is_nil (w : World) : Is w (.slice none 0 0) 0 := ⟨none, 0, by rw [dlen_zero], by rw [dlen_zero]; omega, by omega, 0, 0, fun h => by rw [dlen_zero] at h; omega, fun i hi => by rw [dlen_zero] at hi; omega⟩
theorem tz12 : tz 12 = 2 := tz_pow 2 3 rfl
theorem tz2 : tz 2 = 1 := tz_pow 1 1 rfl

/-- 0.75 is 3 quarters -/
theorem t_of {w : World} (hT : Tab32 w) (hI : Ie.Tab w) :
    Calls Tryz.prog 9 #[.float .f64 4604930618986332160] w fun r w' => ∃ A, r = .returned (.tuple #[A, .int .i64 0]) ∧ Nrm w' w.heap.size A false 3 (-2) ∧ Below w.heap.size w w' := by
  have h := of_fin 4604930618986332160 3 (by omega) w hT hI (by decide) (by decide +kernel)
  rw [show Ie.sE 4604930618986332160 = -2 by decide +kernel, show neg 4604930618986332160 = false by decide] at h
  exact h
theorem t_inf {w : World} (hI : Ie.Tab w) :
    Calls Tryz.prog 9 #[.float .f64 9218868437227405312] w fun r w' => r = .returned (.tuple #[.agg #[.bool false, .slice none 0 0, .int .i64 0], .int .i64 5]) ∧ Below w.heap.size w w' :=
  of_inf 9218868437227405312 (by omega) w hI (by decide)

theorem ok3 : okN false 1 3 (-2) = true := by decide
theorem ok12 : okN true 1 3 2 = true := by decide
theorem okR_odd {s : Bool} {z : Nat} {e : Int} (ho : z % 2 = 1) (h : okN s (dlen z) z e = true) : okR s z e = true := by
  have h0 : z ≠ 0 := by intro e; subst e; simp at ho
  unfold okR
  rw [if_neg h0, tz_odd ho]
  simpa using h

theorem t_add {w : World} {A C : Value} {b c : Nat} (hA : Nrm w b A false 3 (-2)) (hC : Nrm w c C true 12 0) (hT : Tab32 w) :
    Calls Tryz.prog 19 #[A, C] w fun r w' => ∃ D, r = .returned (.tuple #[D, .int .i64 0]) ∧ Nrm w' w.heap.size D true 45 (-2) ∧ Below w.heap.size w w' := by
  obtain ⟨ua, uc, rfl, i1⟩ := hA.odd rfl
  obtain ⟨va, vc, rfl, i2⟩ := hC.kn (x := 3) (e' := 2) (by omega) tz12 (by decide) (by decide)
  have d3 : dlen 3 = 1 := dlen_1 (by omega) (by omega)
  refine (c34_1 false true ua va _ uc _ vc 3 3 45 (-2) 2 (-2) true w (by rw [dlen_1 (by omega) (by omega)]; omega) (fun W g hW hg => ?_) (fun W hW => ?_)).mono ?_
  · have := maybe2 hg (i1.later hW) (i2.later hW) (by omega) (by omega)
    rw [d3, ok3, ok12] at this
    exact this
  · have := c87 (na := false) (nb := true) (ea := -2) (eb := 2) (i1.later hW) (i2.later hW) (by omega) (by omega) (by omega) (by omega) (hT.later hW)
    rw [show sumN false 3 (-2) true 3 2 = (true, 45, -2) by decide] at this
    exact this
  · rintro r w' ⟨D, rfl, hN, hb⟩
    rw [okR_odd (by rfl) (by rw [dlen_1 (by omega) (by omega)]; decide)]
    exact ⟨D, rfl, hN, hb⟩

theorem t_quo {w : World} {A C : Value} {b c : Nat} (hA : Nrm w b A false 1 0) (hC : Nrm w c C false 3 0) (hT : Tab32 w) :
    Calls Tryz.prog 28 #[A, C, .int .i64 4] w fun r w' => ∃ D, r = .returned (.tuple #[D, .bool false, .int .i64 0]) ∧ Nrm w' w.heap.size D false 5 (-4) ∧ Below w.heap.size w w' := by
  obtain ⟨ua, uc, rfl, i1⟩ := hA.odd rfl
  obtain ⟨va, vc, rfl, i2⟩ := hC.odd rfl
  have d3 : dlen 3 = 1 := dlen_1 (by omega) (by omega)
  have d1 : dlen 1 = 1 := dlen_1 (by omega) (by omega)
  have k := c44 (na := false) (nb := false) (ea := 0) (eb := 0) (place := 4) i1 i2 hT (by omega) (by omega) (by omega) (by rw [d1]; decide) (by rw [d3]; decide) (by omega) (by omega) (by omega) 16 3 (by decide) (by decide)
  refine Calls.mono k ?_
  rintro r w' ⟨D, rfl, hN, hb⟩
  rw [show (if (false != false) && !(decide (16 % 3 = 0)) then 16 / 3 + 1 else 16 / 3) = 5 by decide, show (decide (16 % 3 = 0)) = false by decide] at *
  rw [okR_odd (by rfl) (by rw [dlen_1 (by omega) (by omega)]; decide)]
  exact ⟨D, rfl, hN, hb⟩
end Go.Proofs.YtceoeiojoffnnaaGreatDoor

/- Up, Show, Valid, Cmp at the numbers of the law's own small test. -/
namespace Go.Proofs.YtceoeiojoffnnaaGreatDoor
set_option linter.unusedVariables false
set_option linter.unusedSimpArgs false
open Go.RowKit Go.Fl64

/-- the root of 2 to the 2153, cut -/
def rt2 : Nat := 1144960046728293235183871336032099932021001373328203582057084466271116023268088952334309160449398251026851608423422093996406705367416982454983265572937599412831469178134766179576718159998760918833726194305928123249117019196003754405379980218457260605934001581424140382702148393624842846528511417719025931345035380804837646241
theorem rt2_odd : rt2 % 2 = 1 := by decide +kernel
theorem rt2_lo : rt2 * rt2 ≤ 2 ^ 2153 := by decide +kernel
theorem rt2_hi : 2 ^ 2153 < (rt2 + 1) * (rt2 + 1) := by decide +kernel
theorem rt2_ne : ¬ rt2 * rt2 = 2 ^ 2153 := by decide +kernel
theorem rt2_bl : bl rt2 = 1077 := by decide +kernel
theorem rt2_len : dlen rt2 ≤ 34 := (dlen_le 34 rt2).2 (by decide +kernel)
theorem rt2_len2 : dlen (rt2 + 2) ≤ 34 := (dlen_le 34 (rt2 + 2)).2 (by decide +kernel)
theorem root_uniq {m M q : Nat} (h1 : m * m ≤ q) (h2 : q < (m + 1) * (m + 1)) (h3 : M * M ≤ q) (h4 : q < (M + 1) * (M + 1)) : m = M := by
  rcases Nat.lt_trichotomy m M with h | h | h
  · have := Nat.mul_le_mul (show m + 1 ≤ M by omega) (show m + 1 ≤ M by omega); omega
  · exact h
  · have := Nat.mul_le_mul (show M + 1 ≤ m by omega) (show M + 1 ≤ m by omega); omega
theorem rt_mk {z : Nat} {e : Int} (ho : z % 2 = 1) (F : Nat) (h : Ie.mk false (z / 2 ^ (bl z - 64) ||| 1) (e + ((bl z - 64 : Nat) : Int)) 3 9221120237041090561 = F) (hb : 64 < bl z) : tfF false true z e 3 = F := by
  unfold tfF tfM tfD
  rw [tz_odd ho, if_neg (by simp; omega)]
  exact h
theorem tf_lo : tfF false true rt2 (-1076) 3 = 4609047870845172685 := rt_mk rt2_odd _ (by decide +kernel) (by rw [rt2_bl]; omega)
theorem tf_hi : tfF false true (rt2 + 2) (-1076) 3 = 4609047870845172685 := rt_mk (by have := rt2_odd; omega) _ (by decide +kernel) (by decide +kernel)

theorem t_up {w : World} {A C D : Value} {a c d : Nat} (hA : Nrm w a A false 0 0) (hC : Nrm w c C false 2 0) (hD : Nrm w d D false 0 0) (hT : Tab32 w) :
    Calls Tryz.prog 35 #[A, C, D] w fun r w' => r = .returned (.tuple #[.float .f64 4609047870845172685, .int .i64 0]) ∧ Below w.heap.size w w' := by
  obtain rfl := hA.nil
  obtain rfl := hD.nil
  obtain ⟨va, vc, rfl, i2⟩ := hC.kn (x := 1) (e' := 1) (by omega) tz2 (by decide) (by decide)
  have d1 : dlen 1 = 1 := dlen_1 (by omega) (by omega)
  have hr := rt2_len
  refine c60_1 false true none va none 0 0 _ vc 0 0 rt2 0 4609047870845172685 0 1 0 w hT (by omega) (by rw [dlen_zero]; omega) (by rw [Nat.add_zero]; omega) false false rt2 (rt2 + 2) (-1076) (-1076) (by omega) (by decide) ?_ ?_ ?_ ?_ ?_ ?_ ?_
  · intro W B b hW hN
    obtain ⟨ua, uc, rfl, i⟩ := hN.odd rt2_odd
    have k := c106 (neg := false) (e := -1076) (mode := 3) (hT.later hW) i (by omega) (by omega) (by omega)
    rw [tf_lo] at k
    exact k
  · intro W B b hW hN
    obtain ⟨ua, uc, rfl, i⟩ := hN.odd (by have := rt2_odd; omega)
    have k := c106 (neg := false) (e := -1076) (mode := 3) (hT.later hW) i (by have := rt2_len2; omega) (by omega) (by omega)
    rw [tf_hi] at k
    exact k
  · intro W B b m b' hW hN hO
    obtain ⟨ua, uc, rfl, i⟩ := hN.odd rt2_odd
    have k := c87 (na := false) (nb := false) (ea := -1076) (eb := -1075) i hO.is (by omega) (by omega) (by omega) (by omega) (hT.later hW)
    rw [show sumN false rt2 (-1076) false 1 (-1075) = (false, rt2 + 2, -1076) by decide +kernel] at k
    exact k
  · intro W m b hW hN
    rw [Nat.add_zero] at hN
    obtain ⟨ua, uc, rfl, i⟩ := hN.odd rt2_odd
    have k := c87 (na := false) (nb := false) (ea := 0) (eb := -1076) (is_nil W) i (by rw [dlen_zero]; omega) (by omega) (by omega) (by omega) (hT.later hW)
    rw [show sumN false 0 0 false rt2 (-1076) = (false, rt2, -1076) from rfl] at k
    exact k
  · intro W g hW hg
    have e0 : (0 : Nat) = dlen 0 := dlen_zero.symm
    have k := maybe3 (x := 0) (y := 1) (z := 0) (na := false) (nb := false) (nc := false) (ua := none) (wa := none) (uc := 0) (wc := 0) (ea := 0) (eb := 1) (ec := 0) (g := g) (W := W) (by rw [dlen_zero]; exact hg) (by rw [dlen_zero]; exact is_nil W) (i2.later hW) (by rw [dlen_zero]; exact is_nil W) (by rw [dlen_zero]; omega) (by omega) (by rw [dlen_zero]; omega)
    rw [dlen_zero, d1, show okN false 0 0 0 = true by decide, show okN false 1 1 1 = true by decide] at k
    exact k
  · intro W hW
    have k := c102 (neg := false) (ea := 1) (place := 1076) (i2.later hW) (by omega) (by rw [show rtQ 1 1 1076 = 2 ^ 2153 by decide +kernel]; exact Nat.le_trans ((dlen_le 100 _).2 (by decide +kernel)) (by omega)) (by omega) (by omega)
    refine Calls.mono k ?_
    rintro r w' ⟨v, m, rfl, ho, h1, h2, hb⟩
    rw [show rtQ 1 1 1076 = 2 ^ 2153 by decide +kernel] at *
    obtain rfl := root_uniq h1 h2 rt2_lo rt2_hi
    rw [decide_eq_false rt2_ne, Bool.and_false]
    exact ⟨v, rfl, ho, hb⟩
  · intro W hW
    have k := c102 (neg := false) (ea := 0) (place := 1076) (is_nil W) (by rw [dlen_zero]; omega) (by rw [show rtQ 0 0 1076 = 0 by decide +kernel, dlen_zero]; omega) (by omega) (by omega)
    refine Calls.mono k ?_
    rintro r w' ⟨v, m, rfl, ho, h1, h2, hb⟩
    rw [show rtQ 0 0 1076 = 0 by decide +kernel] at *
    obtain rfl : m = 0 := by
      rcases Nat.eq_zero_or_pos m with h | h
      · exact h
      · have := Nat.mul_le_mul h h; omega
    exact ⟨v, rfl, ho, hb⟩
end Go.Proofs.YtceoeiojoffnnaaGreatDoor

/- Show, Valid, Cmp at the numbers of the law's own small test. -/
namespace Go.Proofs.YtceoeiojoffnnaaGreatDoor
set_option linter.unusedVariables false
set_option linter.unusedSimpArgs false
open Go.RowKit Go.Fl64

/-- the library's table of powers of ten lies in its place -/
def Tab10 (w : World) : Prop := Lib.TabIs Tryz.prog w "internal/strconv.uint64pow10" .u64 Lib.pow10Tab
theorem g10 : Tryz.prog.globalNamed "internal/strconv.uint64pow10" = some 3 := by kernel_rfl
theorem Tab10.lt {w : World} (h : Tab10 w) : 3 < w.heap.size := by
  unfold Tab10 Lib.TabIs World.var? at h
  rw [g10] at h
  rcases Nat.lt_or_ge 3 w.heap.size with h1 | h1
  · exact h1
  · simp [Array.getElem?_eq_none h1] at h
theorem Tab10.later {w w' : World} (h : Tab10 w) (hb : Below w.heap.size w w') : Tab10 w' := var?_below hb g10 h.lt h

theorem hex1 {u j : Nat} (hu : u < 16) (h : j = 0 ∨ 16 ≤ u / 16 ^ (j - 1)) : j = 0 := by
  rcases h with h | h
  · exact h
  · have := Nat.div_le_self u (16 ^ (j - 1)); omega
theorem hex2 {u j : Nat} (hu : u < 256) (hl : 16 ≤ u) (h1 : u / 16 ^ j < 16) (h : j = 0 ∨ 16 ≤ u / 16 ^ (j - 1)) : j = 1 := by
  rcases h with h | h
  · subst h; simp at h1; omega
  · rcases (show j = 0 ∨ j = 1 ∨ ∃ k, j = k + 2 from by
      match j with
      | 0 => exact .inl rfl
      | 1 => exact .inr (.inl rfl)
      | k + 2 => exact .inr (.inr ⟨k, rfl⟩)) with rfl | rfl | ⟨k, rfl⟩
    · simp at h1; omega
    · rfl
    · exfalso
      have e : u / 16 ^ (k + 2 - 1) = u / 16 / 16 ^ k := by
        rw [show k + 2 - 1 = k + 1 by omega, Nat.pow_succ, Nat.mul_comm, Nat.div_div_eq_div_mul]
      rw [e] at h
      have := Nat.div_le_self (u / 16) (16 ^ k)
      omega
theorem below_more (w : World) (k : Nat) (os : Array Obj) : Below w.heap.size w (Sort.grow (w.drewN k) os) :=
  ⟨rfl, rfl, rfl, by show w.heap.size ≤ (w.heap ++ os).size; rw [Array.size_append]; omega, fun j hj => by
    show (w.heap ++ os)[j]? = w.heap[j]?
    rw [Array.getElem?_append_left hj]⟩
theorem itoa_m2 : Lib.itoa (-2) = [45, 50] := by decide +kernel
theorem itoa_m4 : Lib.itoa (-4) = [45, 52] := by decide +kernel

theorem is_cell {w : World} {ao : Option Addr} {cap d : Nat} (h : Is w (.slice ao (dlen d) cap) d) (hd0 : d ≠ 0) (hd : d < 4294967296) : ∃ b o, ao = some ⟨b, o, none⟩ ∧ w.cell? ⟨b, o, none⟩ = some (.int .u32 (d : Int)) ∧ 1 ≤ cap := by
  obtain ⟨ao', cap', e, h1, h2, b, o, h3, h4⟩ := h
  simp only [Value.slice.injEq] at e
  obtain ⟨rfl, -, rfl⟩ := e
  have d1 := dlen_1 hd0 hd
  rw [d1] at h1 h3 h4
  have h5 := h4 0 (by omega)
  rw [show dg d 0 = d by unfold dg; simp; exact Nat.mod_eq_of_lt hd] at h5
  exact ⟨b, o, h3 (by omega), h5, h1⟩

theorem t_show {w : World} {A : Value} {b d : Nat} {e : Int} {H T : List UInt8} (hA : Nrm w b A false d e) (hodd : d % 2 = 1) (hd : d < 4294967296) (hok : okN false 1 d e = true)
    (hI : Ie.Tab w) (h10 : Tab10 w) (hH : ∀ j, d / 16 ^ j < 16 → (j = 0 ∨ 16 ≤ d / 16 ^ (j - 1)) → hexL d j = H) (hT : Lib.itoa e = T) (hlH : H.length ≤ 1000) (hlT : T.length ≤ 1000) (he : -9223372036854775808 ≤ e ∧ e ≤ 9223372036854775807) :
    Calls Tryz.prog 37 #[A] w fun r w' => r = .returned (.string ⟨(H ++ 112 :: T).toArray⟩) ∧ Below w.heap.size w w' := by
  obtain ⟨ao, cap, rfl, i1⟩ := hA.odd hodd
  have hd0 : d ≠ 0 := by intro e; subst e; simp at hodd
  obtain ⟨g, o, rfl, hc, hcap⟩ := is_cell i1 hd0 hd
  have d1 := dlen_1 hd0 hd
  have k43 : ∀ W g', Below w.heap.size w W → W.heap[g']? = some (.cells #[.bool false, .slice (some ⟨g, o, none⟩) (dlen d) cap, .int .i64 e] 25 (0, 0)) → Calls Tryz.prog 43 #[.slice (some ⟨g', 0, none⟩) 1 1] W fun r w' => r = .returned (.bool true) ∧ Below W.heap.size W w' := fun W g' hW hg => by
    have := maybe1 hg (i1.later hW) (by omega)
    rw [d1, hok] at this
    exact this
  rw [d1] at k43 ⊢
  refine c37_pos g o cap d e H T w hc hlH hlT hd hcap k43 (fun W hW => ?_) (fun W hW => ?_)
  · refine (c81 d W (Tab.later hI hW) hd).mono ?_
    rintro r w' ⟨j, h1, h2, rfl, hb⟩
    rw [hH j h1 h2]
    exact ⟨rfl, hb⟩
  · refine (Tryz.strconv_Itoa e he.1 he.2 W (h10.later hW)).mono ?_
    rintro r w' ⟨rfl, k, os, rfl⟩
    rw [hT]
    exact ⟨rfl, below_more W k os⟩
theorem t_show_neg {w : World} {A : Value} {b d : Nat} {e : Int} {H T : List UInt8} (hA : Nrm w b A true d e) (hodd : d % 2 = 1) (hd : d < 4294967296) (hok : okN true 1 d e = true)
    (hI : Ie.Tab w) (h10 : Tab10 w) (hH : ∀ j, d / 16 ^ j < 16 → (j = 0 ∨ 16 ≤ d / 16 ^ (j - 1)) → hexL d j = H) (hT : Lib.itoa e = T) (hlH : H.length ≤ 1000) (hlT : T.length ≤ 1000) (he : -9223372036854775808 ≤ e ∧ e ≤ 9223372036854775807) :
    Calls Tryz.prog 37 #[A] w fun r w' => r = .returned (.string ⟨(45 :: (H ++ 112 :: T)).toArray⟩) ∧ Below w.heap.size w w' := by
  obtain ⟨ao, cap, rfl, i1⟩ := hA.odd hodd
  have hd0 : d ≠ 0 := by intro e; subst e; simp at hodd
  obtain ⟨g, o, rfl, hc, hcap⟩ := is_cell i1 hd0 hd
  have d1 := dlen_1 hd0 hd
  have k43 : ∀ W g', Below w.heap.size w W → W.heap[g']? = some (.cells #[.bool true, .slice (some ⟨g, o, none⟩) (dlen d) cap, .int .i64 e] 25 (0, 0)) → Calls Tryz.prog 43 #[.slice (some ⟨g', 0, none⟩) 1 1] W fun r w' => r = .returned (.bool true) ∧ Below W.heap.size W w' := fun W g' hW hg => by
    have := maybe1 hg (i1.later hW) (by omega)
    rw [d1, hok] at this
    exact this
  rw [d1] at k43 ⊢
  refine c37_neg g o cap d e H T w hc hlH hlT hd hcap k43 (fun W hW => ?_) (fun W hW => ?_)
  · refine (c81 d W (Tab.later hI hW) hd).mono ?_
    rintro r w' ⟨j, h1, h2, rfl, hb⟩
    rw [hH j h1 h2]
    exact ⟨rfl, hb⟩
  · refine (Tryz.strconv_Itoa e he.1 he.2 W (h10.later hW)).mono ?_
    rintro r w' ⟨rfl, k, os, rfl⟩
    rw [hT]
    exact ⟨rfl, below_more W k os⟩

theorem t_show_a {w : World} {A : Value} {b : Nat} (hA : Nrm w b A false 3 (-2)) (hI : Ie.Tab w) (h10 : Tab10 w) :
    Calls Tryz.prog 37 #[A] w fun r w' => r = .returned (.string ⟨#[51, 112, 45, 50]⟩) ∧ Below w.heap.size w w' :=
  t_show hA rfl (by omega) (by decide) hI h10 (H := [51]) (fun j h1 h2 => by obtain rfl := hex1 (by omega) h2; decide) itoa_m2 (by decide) (by decide) (by omega)
theorem t_show_q {w : World} {A : Value} {b : Nat} (hA : Nrm w b A false 5 (-4)) (hI : Ie.Tab w) (h10 : Tab10 w) :
    Calls Tryz.prog 37 #[A] w fun r w' => r = .returned (.string ⟨#[53, 112, 45, 52]⟩) ∧ Below w.heap.size w w' :=
  t_show hA rfl (by omega) (by decide) hI h10 (H := [53]) (fun j h1 h2 => by obtain rfl := hex1 (by omega) h2; decide) itoa_m4 (by decide) (by decide) (by omega)
theorem t_show_b {w : World} {A : Value} {b : Nat} (hA : Nrm w b A true 45 (-2)) (hI : Ie.Tab w) (h10 : Tab10 w) :
    Calls Tryz.prog 37 #[A] w fun r w' => r = .returned (.string ⟨#[45, 50, 100, 112, 45, 50]⟩) ∧ Below w.heap.size w w' :=
  t_show_neg hA rfl (by omega) (by decide) hI h10 (H := [50, 100]) (fun j h1 h2 => by obtain rfl := hex2 (by omega) (by omega) h1 h2; decide) itoa_m2 (by decide) (by decide) (by omega)

theorem t_valid {w : World} {A : Value} {b : Nat} (hA : Nrm w b A false 3 (-2)) :
    Calls Tryz.prog 23 #[A] w fun r w' => r = .returned (.bool true) ∧ Below w.heap.size w w' := by
  obtain ⟨ao, cap, rfl, ao', cap', e, h1, h2, h3⟩ := hA.odd rfl
  simp only [Value.slice.injEq] at e
  obtain ⟨rfl, -, rfl⟩ := e
  have d1 : dlen 3 = 1 := dlen_1 (by omega) (by omega)
  refine (c18 h3 (by omega)).mono ?_
  rintro r w' ⟨rfl, rfl⟩
  rw [d1]
  exact ⟨rfl, (Below.refl _ _).alloc (Nat.le_refl _) _⟩
theorem t_cmp {w : World} {A C : Value} {b c : Nat} (hA : Nrm w b A false 3 (-2)) (hC : Nrm w c C true 45 (-2)) :
    Calls Tryz.prog 26 #[A, C] w fun r w' => r = .returned (.int .i64 1) ∧ Below w.heap.size w w' := by
  obtain ⟨ua, uc, rfl, i1⟩ := hA.odd rfl
  obtain ⟨va, vc, rfl, i2⟩ := hC.odd rfl
  have d3 : dlen 3 = 1 := dlen_1 (by omega) (by omega)
  have d45 : dlen 45 = 1 := dlen_1 (by omega) (by omega)
  refine c30_1 false true ua va _ uc _ vc (-2) (-2) 1 w (fun W g hW hg => ?_) (fun W hW => ?_)
  · have := maybe2 hg (i1.later hW) (i2.later hW) (by omega) (by omega)
    rw [d3, d45, ok3, show okN true 1 45 (-2) = true by decide] at this
    exact this
  · rw [d3, d45]
    exact c77_1 false true ua va 1 uc 1 vc (-2) (-2) 1 (-1) W (by decide : sgI false 1 = 1) (by decide : sgI true 1 = -1) (by decide) (by omega) (by omega)
end Go.Proofs.YtceoeiojoffnnaaGreatDoor
