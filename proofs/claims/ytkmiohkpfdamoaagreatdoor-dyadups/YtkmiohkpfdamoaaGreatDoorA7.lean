/- Own work: contracts of the program's functions, part 7: T2 T3 T4 R4 R5 E1 Tab F3 F4 G1 G2 Q1 Q2. -/
import Derived.Test.YtkmiohkpfdamoaaGreatDoorA6
import Derived.Test.YtkmiohkpfdamoaaGreatDoorA5
import Derived.Lib.LaidTab
import Derived.Deep.CutRange
import Derived.Deep.RegionLawGrows
import Derived.Deep.RegionHeld3
import Derived.Laws.AppendOwnNone
import Derived.Test.YtkmiohkpfdamoaaGreatDoorA3

set_option maxHeartbeats 16000000
namespace Go.Proofs.YtkmiohkpfdamoaaGreatDoor
set_option linter.unusedVariables false
set_option linter.unusedSimpArgs false
open Go.RowKit Go.Fl64
def rt2 : Nat := 1144960046728293235183871336032099932021001373328203582057084466271116023268088952334309160449398251026851608423422093996406705367416982454983265572937599412831469178134766179576718159998760918833726194305928123249117019196003754405379980218457260605934001581424140382702148393624842846528511417719025931345035380804837646241
theorem rt2_odd : rt2 % 2 = 1 := by decide +kernel
theorem rt2_lo : rt2 * rt2 ≤ 2 ^ 2153 := by decide +kernel
theorem rt2_hi : 2 ^ 2153 < (rt2 + 1) * (rt2 + 1) := by decide +kernel
theorem rt2_ne : ¬ rt2 * rt2 = 2 ^ 2153 := by decide +kernel
theorem rt2_bl : bl rt2 = 1077 := by decide +kernel
theorem rt2_len : dlen rt2 ≤ 34 := (dlen_le 34 rt2).2 (by decide +kernel)
theorem rt2_len2 : dlen (rt2 + 2) ≤ 34 := (dlen_le 34 (rt2 + 2)).2 (by decide +kernel)
theorem root_uniq {m M q : Nat} (h1 : m * m ≤ q) (h2 : q < (m + 1) * (m + 1)) (h3 : M * M ≤ q) (h4 : q < (M + 1) * (M + 1)) : m = M := by
  rcases Nat.lt_trichotomy m M with h | h | h
  · have := Nat.mul_le_mul (show m + 1 ≤ M by omega) (show m + 1 ≤ M by omega); omega
  · exact h
  · have := Nat.mul_le_mul (show M + 1 ≤ m by omega) (show M + 1 ≤ m by omega); omega
theorem rt_mk {z : Nat} {e : Int} (ho : z % 2 = 1) (F : Nat) (h : Ie.mk false (z / 2 ^ (bl z - 64) ||| 1) (e + ((bl z - 64 : Nat) : Int)) 3 9221120237041090561 = F) (hb : 64 < bl z) : tfF false true z e 3 = F := by
  unfold tfF tfM tfD
  rw [tz_odd ho, if_neg (by simp; omega)]
  exact h
theorem tf_lo : tfF false true rt2 (-1076) 3 = 4609047870845172685 := rt_mk rt2_odd _ (by decide +kernel) (by rw [rt2_bl]; omega)
theorem tf_hi : tfF false true (rt2 + 2) (-1076) 3 = 4609047870845172685 := rt_mk (by have := rt2_odd; omega) _ (by decide +kernel) (by decide +kernel)
theorem t_up {w : World} {A C D : Value} {a c d : Nat} (hA : Nrm w a A false 0 0) (hC : Nrm w c C false 2 0) (hD : Nrm w d D false 0 0) (hT : Tab32 w) :
    Calls Tryz.prog 5 #[A, C, D] w fun r w' => r = .returned (.tuple #[.float .f64 4609047870845172685, .int .i64 0]) ∧ Below w.heap.size w w' := by
  obtain rfl := hA.nil
  obtain rfl := hD.nil
  obtain ⟨va, vc, rfl, i2⟩ := hC.kn (x := 1) (e' := 1) (by omega) tz2 (by decide) (by decide)
  have d1 : dlen 1 = 1 := dlen_1 (by omega) (by omega)
  have hr := rt2_len
  refine c60_1 false true none va none 0 0 _ vc 0 0 rt2 0 4609047870845172685 0 1 0 w hT (by omega) (by rw [dlen_zero]; omega) (by rw [Nat.add_zero]; omega) false false rt2 (rt2 + 2) (-1076) (-1076) (by omega) (by decide) ?_ ?_ ?_ ?_ ?_ ?_ ?_
  · intro W B b hW hN
    obtain ⟨ua, uc, rfl, i⟩ := hN.odd rt2_odd
    have k := c106 (neg := false) (e := -1076) (mode := 3) (hT.later hW) i (by omega) (by omega) (by omega)
    rw [tf_lo] at k
    exact k
  · intro W B b hW hN
    obtain ⟨ua, uc, rfl, i⟩ := hN.odd (by have := rt2_odd; omega)
    have k := c106 (neg := false) (e := -1076) (mode := 3) (hT.later hW) i (by have := rt2_len2; omega) (by omega) (by omega)
    rw [tf_hi] at k
    exact k
  · intro W B b m b' hW hN hO
    obtain ⟨ua, uc, rfl, i⟩ := hN.odd rt2_odd
    have k := c87 (na := false) (nb := false) (ea := -1076) (eb := -1075) i hO.is (by omega) (by omega) (by omega) (by omega) (hT.later hW)
    rw [show sumN false rt2 (-1076) false 1 (-1075) = (false, rt2 + 2, -1076) by decide +kernel] at k
    exact k
  · intro W m b hW hN
    rw [Nat.add_zero] at hN
    obtain ⟨ua, uc, rfl, i⟩ := hN.odd rt2_odd
    have k := c87 (na := false) (nb := false) (ea := 0) (eb := -1076) (is_nil W) i (by rw [dlen_zero]; omega) (by omega) (by omega) (by omega) (hT.later hW)
    rw [show sumN false 0 0 false rt2 (-1076) = (false, rt2, -1076) from rfl] at k
    exact k
  · intro W g hW hg
    have e0 : (0 : Nat) = dlen 0 := dlen_zero.symm
    have k := maybe3 (x := 0) (y := 1) (z := 0) (na := false) (nb := false) (nc := false) (ua := none) (wa := none) (uc := 0) (wc := 0) (ea := 0) (eb := 1) (ec := 0) (g := g) (W := W) (by rw [dlen_zero]; exact hg) (by rw [dlen_zero]; exact is_nil W) (i2.later hW) (by rw [dlen_zero]; exact is_nil W) (by rw [dlen_zero]; omega) (by omega) (by rw [dlen_zero]; omega)
    rw [dlen_zero, d1, show okN false 0 0 0 = true by decide, show okN false 1 1 1 = true by decide] at k
    exact k
  · intro W hW
    have k := c102 (neg := false) (ea := 1) (place := 1076) (i2.later hW) (by omega) (by rw [show rtQ 1 1 1076 = 2 ^ 2153 by decide +kernel]; exact Nat.le_trans ((dlen_le 100 _).2 (by decide +kernel)) (by omega)) (by omega) (by omega)
    refine Calls.mono k ?_
    rintro r w' ⟨v, m, rfl, ho, h1, h2, hb⟩
    rw [show rtQ 1 1 1076 = 2 ^ 2153 by decide +kernel] at *
    obtain rfl := root_uniq h1 h2 rt2_lo rt2_hi
    rw [decide_eq_false rt2_ne, Bool.and_false]
    exact ⟨v, rfl, ho, hb⟩
  · intro W hW
    have k := c102 (neg := false) (ea := 0) (place := 1076) (is_nil W) (by rw [dlen_zero]; omega) (by rw [show rtQ 0 0 1076 = 0 by decide +kernel, dlen_zero]; omega) (by omega) (by omega)
    refine Calls.mono k ?_
    rintro r w' ⟨v, m, rfl, ho, h1, h2, hb⟩
    rw [show rtQ 0 0 1076 = 0 by decide +kernel] at *
    obtain rfl : m = 0 := by
      rcases Nat.eq_zero_or_pos m with h | h
      · exact h
      · have := Nat.mul_le_mul h h; omega
    exact ⟨v, rfl, ho, hb⟩
def Tab10 (w : World) : Prop := Lib.TabIs Tryz.prog w "internal/strconv.uint64pow10" .u64 Lib.pow10Tab
theorem g10 : Tryz.prog.globalNamed "internal/strconv.uint64pow10" = some 6 := by kernel_rfl
theorem Tab10.lt {w : World} (h : Tab10 w) : 6 < w.heap.size := by
  unfold Tab10 Lib.TabIs World.var? at h
  rw [g10] at h
  rcases Nat.lt_or_ge 6 w.heap.size with h1 | h1
  · exact h1
  · simp [Array.getElem?_eq_none h1] at h
theorem Tab10.later {w w' : World} (h : Tab10 w) (hb : Below w.heap.size w w') : Tab10 w' := var?_below hb g10 h.lt h
theorem hex1 {u j : Nat} (hu : u < 16) (h : j = 0 ∨ 16 ≤ u / 16 ^ (j - 1)) : j = 0 := by
  rcases h with h | h
  · exact h
  · have := Nat.div_le_self u (16 ^ (j - 1)); omega
theorem hex2 {u j : Nat} (hu : u < 256) (hl : 16 ≤ u) (h1 : u / 16 ^ j < 16) (h : j = 0 ∨ 16 ≤ u / 16 ^ (j - 1)) : j = 1 := by
  rcases h with h | h
  · subst h; simp at h1; omega
  · rcases (show j = 0 ∨ j = 1 ∨ ∃ k, j = k + 2 from by
      match j with
      | 0 => exact .inl rfl
      | 1 => exact .inr (.inl rfl)
      | k + 2 => exact .inr (.inr ⟨k, rfl⟩)) with rfl | rfl | ⟨k, rfl⟩
    · simp at h1; omega
    · rfl
    · exfalso
      have e : u / 16 ^ (k + 2 - 1) = u / 16 / 16 ^ k := by
        rw [show k + 2 - 1 = k + 1 by omega, Nat.pow_succ, Nat.mul_comm, Nat.div_div_eq_div_mul]
      rw [e] at h
      have := Nat.div_le_self (u / 16) (16 ^ k)
      omega
theorem below_more (w : World) (k : Nat) (os : Array Obj) : Below w.heap.size w (Sort.grow (w.drewN k) os) :=
  ⟨rfl, rfl, rfl, by show w.heap.size ≤ (w.heap ++ os).size; rw [Array.size_append]; omega, fun j hj => by
    show (w.heap ++ os)[j]? = w.heap[j]?
    rw [Array.getElem?_append_left hj]⟩
theorem itoa_m2 : Lib.itoa (-2) = [45, 50] := by decide +kernel
theorem itoa_m4 : Lib.itoa (-4) = [45, 52] := by decide +kernel
theorem is_cell {w : World} {ao : Option Addr} {cap d : Nat} (h : Is w (.slice ao (dlen d) cap) d) (hd0 : d ≠ 0) (hd : d < 4294967296) : ∃ b o, ao = some ⟨b, o, none⟩ ∧ w.cell? ⟨b, o, none⟩ = some (.int .u32 (d : Int)) ∧ 1 ≤ cap := by
  obtain ⟨ao', cap', e, h1, h2, b, o, h3, h4⟩ := h
  simp only [Value.slice.injEq] at e
  obtain ⟨rfl, -, rfl⟩ := e
  have d1 := dlen_1 hd0 hd
  rw [d1] at h1 h3 h4
  have h5 := h4 0 (by omega)
  rw [show dg d 0 = d by unfold dg; simp; exact Nat.mod_eq_of_lt hd] at h5
  exact ⟨b, o, h3 (by omega), h5, h1⟩
theorem t_show {w : World} {A : Value} {b d : Nat} {e : Int} {H T : List UInt8} (hA : Nrm w b A false d e) (hodd : d % 2 = 1) (hd : d < 4294967296) (hok : okN false 1 d e = true)
    (hI : Ie.Tab w) (h10 : Tab10 w) (hH : ∀ j, d / 16 ^ j < 16 → (j = 0 ∨ 16 ≤ d / 16 ^ (j - 1)) → hexL d j = H) (hT : Lib.itoa e = T) (hlH : H.length ≤ 1000) (hlT : T.length ≤ 1000) (he : -9223372036854775808 ≤ e ∧ e ≤ 9223372036854775807) :
    Calls Tryz.prog 31 #[A] w fun r w' => r = .returned (.string ⟨(H ++ 112 :: T).toArray⟩) ∧ Below w.heap.size w w' := by
  obtain ⟨ao, cap, rfl, i1⟩ := hA.odd hodd
  have hd0 : d ≠ 0 := by intro e; subst e; simp at hodd
  obtain ⟨g, o, rfl, hc, hcap⟩ := is_cell i1 hd0 hd
  have d1 := dlen_1 hd0 hd
  have k43 : ∀ W g', Below w.heap.size w W → W.heap[g']? = some (.cells #[.bool false, .slice (some ⟨g, o, none⟩) (dlen d) cap, .int .i64 e] 29 (0, 0)) → Calls Tryz.prog 13 #[.slice (some ⟨g', 0, none⟩) 1 1] W fun r w' => r = .returned (.bool true) ∧ Below W.heap.size W w' := fun W g' hW hg => by
    have := maybe1 hg (i1.later hW) (by omega)
    rw [d1, hok] at this
    exact this
  rw [d1] at k43 ⊢
  refine c37_pos g o cap d e H T w hc hlH hlT hd hcap k43 (fun W hW => ?_) (fun W hW => ?_)
  · refine (c81 d W (Tab.later hI hW) hd).mono ?_
    rintro r w' ⟨j, h1, h2, rfl, hb⟩
    rw [hH j h1 h2]
    exact ⟨rfl, hb⟩
  · refine (Tryz.strconv_Itoa e he.1 he.2 W (h10.later hW)).mono ?_
    rintro r w' ⟨rfl, k, os, rfl⟩
    rw [hT]
    exact ⟨rfl, below_more W k os⟩
theorem t_show_neg {w : World} {A : Value} {b d : Nat} {e : Int} {H T : List UInt8} (hA : Nrm w b A true d e) (hodd : d % 2 = 1) (hd : d < 4294967296) (hok : okN true 1 d e = true)
    (hI : Ie.Tab w) (h10 : Tab10 w) (hH : ∀ j, d / 16 ^ j < 16 → (j = 0 ∨ 16 ≤ d / 16 ^ (j - 1)) → hexL d j = H) (hT : Lib.itoa e = T) (hlH : H.length ≤ 1000) (hlT : T.length ≤ 1000) (he : -9223372036854775808 ≤ e ∧ e ≤ 9223372036854775807) :
    Calls Tryz.prog 31 #[A] w fun r w' => r = .returned (.string ⟨(45 :: (H ++ 112 :: T)).toArray⟩) ∧ Below w.heap.size w w' := by
  obtain ⟨ao, cap, rfl, i1⟩ := hA.odd hodd
  have hd0 : d ≠ 0 := by intro e; subst e; simp at hodd
  obtain ⟨g, o, rfl, hc, hcap⟩ := is_cell i1 hd0 hd
  have d1 := dlen_1 hd0 hd
  have k43 : ∀ W g', Below w.heap.size w W → W.heap[g']? = some (.cells #[.bool true, .slice (some ⟨g, o, none⟩) (dlen d) cap, .int .i64 e] 29 (0, 0)) → Calls Tryz.prog 13 #[.slice (some ⟨g', 0, none⟩) 1 1] W fun r w' => r = .returned (.bool true) ∧ Below W.heap.size W w' := fun W g' hW hg => by
    have := maybe1 hg (i1.later hW) (by omega)
    rw [d1, hok] at this
    exact this
  rw [d1] at k43 ⊢
  refine c37_neg g o cap d e H T w hc hlH hlT hd hcap k43 (fun W hW => ?_) (fun W hW => ?_)
  · refine (c81 d W (Tab.later hI hW) hd).mono ?_
    rintro r w' ⟨j, h1, h2, rfl, hb⟩
    rw [hH j h1 h2]
    exact ⟨rfl, hb⟩
  · refine (Tryz.strconv_Itoa e he.1 he.2 W (h10.later hW)).mono ?_
    rintro r w' ⟨rfl, k, os, rfl⟩
    rw [hT]
    exact ⟨rfl, below_more W k os⟩
theorem t_show_a {w : World} {A : Value} {b : Nat} (hA : Nrm w b A false 3 (-2)) (hI : Ie.Tab w) (h10 : Tab10 w) :
    Calls Tryz.prog 31 #[A] w fun r w' => r = .returned (.string ⟨#[51, 112, 45, 50]⟩) ∧ Below w.heap.size w w' :=
  t_show hA rfl (by omega) (by decide) hI h10 (H := [51]) (fun j h1 h2 => by obtain rfl := hex1 (by omega) h2; decide) itoa_m2 (by decide) (by decide) (by omega)
theorem t_show_q {w : World} {A : Value} {b : Nat} (hA : Nrm w b A false 5 (-4)) (hI : Ie.Tab w) (h10 : Tab10 w) :
    Calls Tryz.prog 31 #[A] w fun r w' => r = .returned (.string ⟨#[53, 112, 45, 52]⟩) ∧ Below w.heap.size w w' :=
  t_show hA rfl (by omega) (by decide) hI h10 (H := [53]) (fun j h1 h2 => by obtain rfl := hex1 (by omega) h2; decide) itoa_m4 (by decide) (by decide) (by omega)
theorem t_show_b {w : World} {A : Value} {b : Nat} (hA : Nrm w b A true 45 (-2)) (hI : Ie.Tab w) (h10 : Tab10 w) :
    Calls Tryz.prog 31 #[A] w fun r w' => r = .returned (.string ⟨#[45, 50, 100, 112, 45, 50]⟩) ∧ Below w.heap.size w w' :=
  t_show_neg hA rfl (by omega) (by decide) hI h10 (H := [50, 100]) (fun j h1 h2 => by obtain rfl := hex2 (by omega) (by omega) h1 h2; decide) itoa_m2 (by decide) (by decide) (by omega)
theorem t_valid {w : World} {A : Value} {b : Nat} (hA : Nrm w b A false 3 (-2)) :
    Calls Tryz.prog 32 #[A] w fun r w' => r = .returned (.bool true) ∧ Below w.heap.size w w' := by
  obtain ⟨ao, cap, rfl, ao', cap', e, h1, h2, h3⟩ := hA.odd rfl
  simp only [Value.slice.injEq] at e
  obtain ⟨rfl, -, rfl⟩ := e
  have d1 : dlen 3 = 1 := dlen_1 (by omega) (by omega)
  refine (c18 h3 (by omega)).mono ?_
  rintro r w' ⟨rfl, rfl⟩
  rw [d1]
  exact ⟨rfl, (Below.refl _ _).alloc (Nat.le_refl _) _⟩
theorem t_cmp {w : World} {A C : Value} {b c : Nat} (hA : Nrm w b A false 3 (-2)) (hC : Nrm w c C true 45 (-2)) :
    Calls Tryz.prog 33 #[A, C] w fun r w' => r = .returned (.int .i64 1) ∧ Below w.heap.size w w' := by
  obtain ⟨ua, uc, rfl, i1⟩ := hA.odd rfl
  obtain ⟨va, vc, rfl, i2⟩ := hC.odd rfl
  have d3 : dlen 3 = 1 := dlen_1 (by omega) (by omega)
  have d45 : dlen 45 = 1 := dlen_1 (by omega) (by omega)
  refine c30_1 false true ua va _ uc _ vc (-2) (-2) 1 w (fun W g hW hg => ?_) (fun W hW => ?_)
  · have := maybe2 hg (i1.later hW) (i2.later hW) (by omega) (by omega)
    rw [d3, d45, ok3, show okN true 1 45 (-2) = true by decide] at this
    exact this
  · rw [d3, d45]
    exact c77_1 false true ua va 1 uc 1 vc (-2) (-2) 1 (-1) W (by decide : sgI false 1 = 1) (by decide : sgI true 1 = -1) (by decide) (by omega) (by omega)
theorem Bx.lt {w3 wc : World} {g : Nat} {s : Bool} {ao : Option Addr} {n cap : Nat} {ex : Int} {sL : Bool} {zL : Nat} {eL : Int} (h : Bx w3 wc g s ao n cap ex sL zL eL) : g < wc.heap.size := lt_of_box h.1
theorem Bx.later {w3 wc w' : World} {g : Nat} {s : Bool} {ao : Option Addr} {n cap : Nat} {ex : Int} {sL : Bool} {zL : Nat} {eL : Int} (h : Bx w3 wc g s ao n cap ex sL zL eL) (hb : Below wc.heap.size wc w') : Bx w3 w' g s ao n cap ex sL zL eL :=
  ⟨box_later h.1 hb h.lt, h.2.1, h.2.2.1.trans (hb.mono h.2.2.1.size), h.2.2.2.later hb⟩
theorem Bx.cells {w3 wc : World} {g : Nat} {s : Bool} {ao : Option Addr} {n cap : Nat} {ex : Int} {sL : Bool} {zL : Nat} {eL : Int} (h : Bx w3 wc g s ao n cap ex sL zL eL) :
    wc.cell? ⟨g, 0, none⟩ = some (.bool s) ∧ wc.cell? ⟨g, 1, none⟩ = some (.slice ao n cap) ∧ wc.cell? ⟨g, 2, none⟩ = some (.int .i64 ex) := (box_cells h.1).1
set_option maxRecDepth 200000 in
theorem works_ok (w : World) (hT : Tab32 w) (hI : Ie.Tab w) (h10 : Tab10 w) :
    Calls Tryz.prog 9 #[] w fun r w' => r = .returned (.bool true) ∧ Below w.heap.size w w' := by
  have HT : Hid (∀ W, Below w.heap.size w W → Tab32 W ∧ Ie.Tab W ∧ Tab10 W) := fun W h => ⟨hT.later h, Tab.later hI h, h10.later h⟩
  clear hT hI h10
  have k := t_of (HT.out w (Below.refl _ _)).1 (HT.out w (Below.refl _ _)).2.1
  go_enter Tryz.func9, Tryz.ntmps9
  go_wp2_with fail
  refine k.mono ?_
  rintro r w1 ⟨A, rfl, hA, hb1⟩
  clear k
  obtain ⟨s1, ao1, n1, cap1, ex1, rfl⟩ := hA.shape
  obtain ⟨W1, hW1⟩ : ∃ W1, W1 = w1.alloc (.cells #[.bool s1, .slice ao1 n1 cap1, .int .i64 ex1] 29) := ⟨_, rfl⟩
  have HX : Hid (Bx w W1 w1.heap.size s1 ao1 n1 cap1 ex1 false 3 (-2)) := (by rw [hW1]; exact Bx.new hA hb1 (Nat.le_refl _) : Bx w W1 w1.heap.size s1 ao1 n1 cap1 ex1 false 3 (-2))
  clear hA hb1
  go_upto_region 2 with fail
  rw [← hW1]
  clear hW1
  generalize w1.heap.size = g1 at *
  obtain ⟨a0, a1, a2⟩ := HX.out.cells
  have hBR : Below W1.heap.size W1 W1.drew := (Below.refl _ _).drew
  have HK : Hid (∀ w', Below W1.heap.size W1 w' → (w'.cell? ⟨g1, 0, none⟩ = some (.bool s1) ∧ w'.cell? ⟨g1, 1, none⟩ = some (.slice ao1 n1 cap1) ∧ w'.cell? ⟨g1, 2, none⟩ = some (.int .i64 ex1)) ∧ Below W1.heap.size W1 w') := fun w' hb => ⟨(HX.out.later hb).cells, hb⟩
  have k12 : ∀ w4, Below W1.heap.size W1 w4 → Calls Tryz.prog 28 #[.int .i64 (-12)] w4 fun r w' => ∃ C, r = .returned C ∧ Nrm w' w4.heap.size C true 12 0 ∧ Below W1.heap.size W1 w' ∧ Hid (∀ g o, w4.heap[g]? = some o → w'.heap[g]? = some o) := fun w4 hb =>
    (c12 (n := -12) (HT.out w4 (HX.out.2.2.1.trans (hb.mono HX.out.2.2.1.size))).1 (by omega)).mono fun r w' ⟨v, e1, o1, o2⟩ => ⟨v, e1, o1, hb.trans (o2.mono hb.size), fun g o hg => box_later hg o2 (lt_of_box hg)⟩
  have k19 : ∀ C c w6, Nrm w6 c C true 12 0 → Below W1.heap.size W1 w6 → Calls Tryz.prog 27 #[.agg #[.bool s1, .slice ao1 n1 cap1, .int .i64 ex1], C] w6 fun r w' => ∃ s ao n cap ex, r = .returned (.tuple #[.agg #[.bool s, .slice ao n cap, .int .i64 ex], .int .i64 0]) ∧ Nrm w' w6.heap.size (.agg #[.bool s, .slice ao n cap, .int .i64 ex]) true 45 (-2) ∧ Below W1.heap.size W1 w' ∧ Hid (∀ g o, w6.heap[g]? = some o → w'.heap[g]? = some o) := fun C c w6 hN hb =>
    (t_add (HX.out.later hb).2.2.2 hN (HT.out w6 (HX.out.2.2.1.trans (hb.mono HX.out.2.2.1.size))).1).mono fun r w' ⟨v, e1, o1, o2⟩ => by
      obtain ⟨s, ao, n, cap, ex, rfl⟩ := o1.shape
      exact ⟨s, ao, n, cap, ex, e1, o1, hb.trans (o2.mono hb.size), fun g o hg => box_later hg o2 (lt_of_box hg)⟩
  go_cut [3, 4] from 16 to 21 (fun p e wx => ∃ g s ao n cap ex, p = .pointer (some ⟨g, 0, none⟩) ∧ e = .int .i64 0 ∧ Hid (Bx W1 wx g s ao n cap ex true 45 (-2)))
  case first =>
    go_region_held3 (fun w' => (w'.cell? ⟨g1, 0, none⟩ = some (.bool s1) ∧ w'.cell? ⟨g1, 1, none⟩ = some (.slice ao1 n1 cap1) ∧ w'.cell? ⟨g1, 2, none⟩ = some (.int .i64 ex1)) ∧ Below W1.heap.size W1 w') (first | (with_reducible assumption) | exact ⟨⟨a0, a1, a2⟩, hBR⟩ | (refine HK.out _ ?_; with_reducible assumption) | (refine HK.out _ ?_; refine Below.alloc (by with_reducible assumption) (Below.size (by with_reducible assumption)) _) | (refine HK.out _ (below_store3 (by first | (with_reducible assumption) | exact hb7.alloc hb7.size _) (by first | exact Nat.le_refl _ | exact hb5.size | exact hb7.size) _ _ _)) | go_keep)
      (first | (go_at_call 28; refine (k12 _ (by first | (with_reducible assumption) | exact hBR.alloc hBR.size _)).mono ?_; rintro r w5 ⟨C5, rfl, ho5, hb5, hk5⟩; first | (have HBY : Hid (w5.heap[W1.heap.size]? = some (.cells #[.bool false, .slice none 0 0, .int .i64 0] 29 (0, 0))) := hk5.out _ _ (heap_alloc_new W1.drew _)) | (have HBY : Hid True := trivial))
             | (go_at_call 27; refine (k19 _ _ _ (by first | (with_reducible assumption) | exact ho5.later ((Below.refl _ _).alloc (Nat.le_refl _) _)) (by first | (with_reducible assumption) | exact hb5.alloc hb5.size _)).mono ?_; rintro r w7 ⟨s7, ao7, n7, cap7, ex7, rfl, hn7, hb7, hk7⟩; first | (have HBZ := hidOf (hk7.out _ _ HBY.out); obtain ⟨⟨x1, x2, x3⟩, x4, x5, x6⟩ := box_cells HBZ.out) | (have HBZ : Hid (w7.heap[w5.heap.size]? = some (.cells #[.bool false, .slice none 0 0, .int .i64 0] 29 (0, 0))) := hk7.out _ _ (heap_alloc_new w5 _); obtain ⟨⟨x1, x2, x3⟩, x4, x5, x6⟩ := box_cells HBZ.out) | (have HBZ : Hid True := trivial)))
    all_goals go_wp2_with fail
    all_goals go_meet
    all_goals first
      | exact ⟨_, _, _, _, _, _, rfl, rfl, Bx.new hn7 hb7 hb5.size⟩
      | exact ⟨_, _, _, _, _, _, rfl, rfl, Bx.put hn7 hb7 (Nat.le_trans hb5.size (by simp)) hb5.size (by simp) HBZ.out⟩
      | exact ⟨_, _, _, _, _, _, rfl, rfl, Bx.put hn7 hb7 hb5.size (Nat.le_refl _) (lt_of_box HBY.out) HBZ.out⟩
  case rest =>
    obtain ⟨W2, rfl⟩ : ∃ W2 : World, W2 = wc := ⟨_, rfl⟩
    obtain ⟨g2, s2, ao2, n2, cap2, ex2, rfl, rfl, HY⟩ := hcut
    clear k12 k19 HK hBR a0 a1 a2
    have HX2 : Hid (Bx w W2 g1 s1 ao1 n1 cap1 ex1 false 3 (-2)) := HX.out.later HY.out.2.2.1
    have HTW : Hid (∀ W, Below W2.heap.size W2 W → Tab32 W ∧ Ie.Tab W ∧ Tab10 W) := fun W h => HT.out W (HX2.out.2.2.1.trans (h.mono HX2.out.2.2.1.size))
    have k3 := c12 (n := 1) (HTW.out W2 (Below.refl _ _)).1 (by omega)
    go_wp2_with fail
    refine k3.mono ?_
    rintro r w3 ⟨P3, rfl, hn3, hb3⟩
    clear k3
    have k4 := c12 (n := 3) (HTW.out w3 hb3).1 (by omega)
    go_wp2_with fail
    refine k4.mono ?_
    rintro r w4 ⟨P4, rfl, hn4, hb4⟩
    clear k4
    have HB4 : Hid (Below W2.heap.size W2 w4) := hb3.trans (hb4.mono hb3.size)
    have k5 := t_quo (hn3.later hb4) hn4 (HTW.out w4 HB4.out).1
    clear hn3 hn4 hb3 hb4
    go_wp2_with fail
    refine k5.mono ?_
    rintro r w5 ⟨Q, rfl, hQ, hb5⟩
    clear k5
    obtain ⟨s3, ao3, n3, cap3, ex3, rfl⟩ := hQ.shape
    obtain ⟨W3, hW3⟩ : ∃ W3, W3 = w5.alloc (.cells #[.bool s3, .slice ao3 n3 cap3, .int .i64 ex3] 29) := ⟨_, rfl⟩
    have HZ : Hid (Bx W2 W3 w5.heap.size s3 ao3 n3 cap3 ex3 false 5 (-4)) := (by rw [hW3]; exact Bx.new hQ (HB4.out.trans (hb5.mono HB4.out.size)) HB4.out.size : Bx W2 W3 w5.heap.size s3 ao3 n3 cap3 ex3 false 5 (-4))
    clear hQ hb5
    have k6 := c12 (n := 0) (HTW.out W3 HZ.out.2.2.1).1 (by omega)
    go_wp2_with fail
    rw [← hW3]
    clear hW3
    generalize w5.heap.size = g3 at *
    refine k6.mono ?_
    rintro r w6 ⟨P6, rfl, hn6, hb6⟩
    clear k6
    have HTX : Hid (∀ W, Below W3.heap.size W3 W → Tab32 W ∧ Ie.Tab W ∧ Tab10 W) := fun W h => HTW.out W (HZ.out.2.2.1.trans (h.mono HZ.out.2.2.1.size))
    have k7 := c12 (n := 2) (HTX.out w6 hb6).1 (by omega)
    go_wp2_with fail
    refine k7.mono ?_
    rintro r w7 ⟨P7, rfl, hn7, hb7⟩
    clear k7
    have hb7' : Below W3.heap.size W3 w7 := hb6.trans (hb7.mono hb6.size)
    have k8 := c12 (n := 0) (HTX.out w7 hb7').1 (by omega)
    go_wp2_with fail
    refine k8.mono ?_
    rintro r w8 ⟨P8, rfl, hn8, hb8⟩
    clear k8
    have HB8 : Hid (Below W3.heap.size W3 w8) := hb7'.trans (hb8.mono hb7'.size)
    have k9 := t_up ((hn6.later hb7).later hb8) (hn7.later hb8) hn8 (HTX.out w8 HB8.out).1
    clear hn6 hn7 hn8 hb6 hb7 hb8 hb7'
    go_wp2_with fail
    refine k9.mono ?_
    rintro r w9 ⟨rfl, hb9⟩
    clear k9
    have HB9 : Hid (Below W3.heap.size W3 w9) := HB8.out.trans (hb9.mono HB8.out.size)
    clear hb9
    have k10 := c61 w9
    have k11 := t_inf (HTX.out w9 HB9.out).2.1
    go_wp2_with fail
    refine k10.mono ?_
    rintro r w10 ⟨rfl, hw10⟩
    replace hw10 := hw10.symm
    subst hw10
    clear k10
    go_wp2_with fail
    refine k11.mono ?_
    rintro r w11 ⟨rfl, hb11⟩
    clear k11
    obtain ⟨W4, hW4⟩ : ∃ W4, W4 = w11.alloc (.cells #[.bool false, .slice none 0 0, .int .i64 0] 29) := ⟨_, rfl⟩
    have HB4' : Hid (Below W3.heap.size W3 W4) := (by rw [hW4]; exact (HB9.out.trans (hb11.mono HB9.out.size)).alloc (Nat.le_trans HB9.out.size hb11.size) _ : Below W3.heap.size W3 W4)
    clear hb11
    have HA : Hid (∀ W', Below W4.heap.size W4 W' → Bx w W' g1 s1 ao1 n1 cap1 ex1 false 3 (-2) ∧ Bx W1 W' g2 s2 ao2 n2 cap2 ex2 true 45 (-2) ∧ Bx W2 W' g3 s3 ao3 n3 cap3 ex3 false 5 (-4) ∧ Ie.Tab W' ∧ Tab10 W' ∧ Below w.heap.size w W') := fun W' h => by
      have h3 : Below W3.heap.size W3 W' := HB4'.out.trans (h.mono HB4'.out.size)
      have h2 : Below W2.heap.size W2 W' := HZ.out.2.2.1.trans (h3.mono HZ.out.2.2.1.size)
      exact ⟨HX2.out.later h2, HY.out.later h2, HZ.out.later h3, (HTX.out W' h3).2.1, (HTX.out W' h3).2.2, HX2.out.2.2.1.trans (h2.mono HX2.out.2.2.1.size)⟩
    obtain ⟨z1, z2, z3, z4, z5, z6⟩ := HA.out W4 (Below.refl _ _)
    obtain ⟨a0, a1, a2⟩ := z1.cells
    rw [hW4] at a0 a1 a2
    have k12 := t_show_a z1.2.2.2 z4 z5
    clear z1 z2 z3 z4 z5 z6
    go_wp2_with fail
    rw [← hW4]
    clear hW4
    refine k12.mono ?_
    rintro r w12 ⟨rfl, hb12⟩
    have HB12 : Hid (Below W4.heap.size W4 w12) := hb12
    clear k12 hb12 a0 a1 a2
    obtain ⟨z1, z2, z3, z4, z5, z6⟩ := HA.out w12 HB12.out
    obtain ⟨a0, a1, a2⟩ := z2.cells
    have k13 := t_show_b z2.2.2.2 z4 z5
    clear z1 z2 z3 z4 z5 z6
    go_wp2_with fail
    refine k13.mono ?_
    rintro r w13 ⟨rfl, hb13⟩
    have HB13 : Hid (Below W4.heap.size W4 w13) := HB12.out.trans (hb13.mono HB12.out.size)
    clear k13 hb13 a0 a1 a2
    obtain ⟨z1, z2, z3, z4, z5, z6⟩ := HA.out w13 HB13.out
    obtain ⟨a0, a1, a2⟩ := z3.cells
    have k14 := t_show_q z3.2.2.2 z4 z5
    clear z1 z2 z3 z4 z5 z6
    go_wp2_with fail
    refine k14.mono ?_
    rintro r w14 ⟨rfl, hb14⟩
    have HB14 : Hid (Below W4.heap.size W4 w14) := HB13.out.trans (hb14.mono HB13.out.size)
    clear k14 hb14 a0 a1 a2
    have k15 := c54 4609047870845172685 4609047870845172685 w14
    go_wp2_with fail
    refine k15.mono ?_
    rintro r w15 ⟨rfl, hw15⟩
    replace hw15 := hw15.symm
    subst hw15
    clear k15
    obtain ⟨z1, z2, z3, z4, z5, z6⟩ := HA.out w14 HB14.out
    obtain ⟨a0, a1, a2⟩ := z1.cells
    have k16 := t_valid z1.2.2.2
    clear z1 z2 z3 z4 z5 z6
    go_wp2_with fail
    refine k16.mono ?_
    rintro r w16 ⟨rfl, hb16⟩
    have HB16 : Hid (Below W4.heap.size W4 w16) := HB14.out.trans (hb16.mono HB14.out.size)
    clear k16 hb16 a0 a1 a2
    obtain ⟨z1, z2, z3, z4, z5, z6⟩ := HA.out w16 HB16.out
    obtain ⟨a0, a1, a2⟩ := z1.cells
    obtain ⟨b0, b1, b2⟩ := z2.cells
    have k17 := t_cmp z1.2.2.2 z2.2.2.2
    clear z1 z2 z3 z4 z5 z6
    go_wp2_with fail
    refine k17.mono ?_
    rintro r w17 ⟨rfl, hb17⟩
    have HB17 : Hid (Below w.heap.size w w17) := (HA.out w17 (HB16.out.trans (hb17.mono HB16.out.size))).2.2.2.2.2
    clear k17 hb17 a0 a1 a2 b0 b1 b2
    go_wp2_with fail
    go_ret
    exact ⟨rfl, HB17.out⟩
theorem two_at (m : Nat) (w : World) (hm : m < 18446744073709551616) : At (w.alloc (Obj.cells #[Value.int IntKind.u32 ((m : Int) % 4294967296), Value.int IntKind.u32 ((m : Int) / 4294967296)] 79)) (some ⟨w.heap.size, 0, none⟩) 2 m := by
  have hM : Mk w (w.alloc (Obj.cells #[Value.int IntKind.u32 ((m : Int) % 4294967296), Value.int IntKind.u32 ((m : Int) / 4294967296)] 79)) 2 (dg m) := by
    refine ⟨(Below.refl _ _).alloc (Nat.le_refl _) _, by simp, World.rowIs_alloc w _ _ _ fun i hi => ?_⟩
    match i, hi with
    | 0, _ => simp [dg, B]
    | 1, _ => simp [dg, B]; omega
  exact hM.at
theorem Nr.shape {w : World} {base : Nat} {a : Value} {neg : Bool} {x : Nat} {e : Int} (h : Nr w base a neg x e) : ∃ s ao n cap ex, a = .agg #[.bool s, .slice ao n cap, .int .i64 ex] := by
  rcases h with ⟨_, rfl⟩ | ⟨_, ao, cap, rfl, -⟩
  · exact ⟨_, _, _, _, _, rfl⟩
  · exact ⟨_, _, _, _, _, rfl⟩
theorem cell_far3 {w : World} {g : Nat} {q : Addr} (h : q.block ≠ g) (a b c : Value) : (((w.setCell ⟨g, 0, none⟩ a).setCell ⟨g, 1, none⟩ b).setCell ⟨g, 2, none⟩ c).cell? q = w.cell? q := by
  have h1 : ∀ i, (⟨g, i, none⟩ : Addr) ≠ q := fun i e => h (by rw [← e])
  rw [World.cell?_setCell_other _ _ _ _ (h1 2), World.cell?_setCell_other _ _ _ _ (h1 1), World.cell?_setCell_other _ _ _ _ (h1 0)]
theorem Nr.store {w : World} {base : Nat} {a : Value} {neg : Bool} {x : Nat} {e : Int} (h : Nr w base a neg x e) {g : Nat} (hg : g < base) (p q r : Value) : Nr (((w.setCell ⟨g, 0, none⟩ p).setCell ⟨g, 1, none⟩ q).setCell ⟨g, 2, none⟩ r) base a neg x e := by
  rcases h with h | ⟨h0, g', cap, h1, h2, b, o, h3, h4⟩
  · exact .inl h
  · refine .inr ⟨h0, g', cap, h1, h2, b, o, h3, fun i hi => ?_⟩
    have h5 := h3 (by omega)
    simp only [Option.some.injEq, Addr.mk.injEq] at h5
    obtain ⟨rfl, rfl, -⟩ := h5
    rw [cell_far3 (by show g' ≠ g; omega)]
    exact h4 i hi
theorem Nr.mono {w : World} {base base' : Nat} {a : Value} {neg : Bool} {x : Nat} {e : Int} (h : Nr w base a neg x e) (hb : base' ≤ base) : Nr w base' a neg x e := by
  rcases h with h | ⟨h0, g', cap, h1, h2, h3⟩
  · exact .inl h
  · exact .inr ⟨h0, g', cap, h1, Nat.le_trans hb h2, h3⟩
theorem Nr.later {w w' : World} {base : Nat} {a : Value} {neg : Bool} {x : Nat} {e : Int} (h : Nr w base a neg x e) (hb : Below w.heap.size w w') : Nr w' base a neg x e := by
  rcases h with h | ⟨h0, g', cap, h1, h2, h3⟩
  · exact .inl h
  · exact .inr ⟨h0, g', cap, h1, h2, h3.later hb⟩
theorem and_2047 (x : Nat) (h : x < 18446744073709551616) : bits .and .u64 (x : Int) 2047 = ((x % 2048 : Nat) : Int) := by
  have e := u64_and_nat x 2047 h (by decide)
  rw [show ((2047 : Nat) : Int) = 2047 from rfl] at e
  rw [e]
  congr 1
  have := Nat.and_two_pow_sub_one_eq_mod x 11
  simpa using this
theorem own : ownKnob Tryz.prog.godebug = none := by kernel_rfl
theorem g64 : Tryz.prog.globalNamed "math/bits.deBruijn64tab" = some 2 := by kernel_rfl
theorem g64t : (Tryz.prog.globals[2]?).map (·.type) = some 160 := by kernel_rfl
theorem g32 : Tryz.prog.globalNamed "math/bits.deBruijn32tab" = some 1 := by kernel_rfl
theorem g32t : (Tryz.prog.globals[1]?).map (·.type) = some 156 := by kernel_rfl
theorem g10t : (Tryz.prog.globals[6]?).map (·.type) = some 182 := by kernel_rfl
theorem cells114 : Tryz.prog.cellsOf 160 = 64 := by kernel_rfl
theorem cells130 : Tryz.prog.cellsOf 156 = 32 := by kernel_rfl
theorem cells146 : Tryz.prog.cellsOf 182 = 20 := by kernel_rfl
theorem cells5 : Tryz.prog.cellsOf 5 = 1 := by kernel_rfl
theorem cells58 : Tryz.prog.cellsOf 51 = 1 := by kernel_rfl
def zs64 : List Int := [0, 1, 56, 2, 57, 49, 28, 3, 61, 58, 42, 50, 38, 29, 17, 4, 62, 47, 59, 36, 45, 43, 51, 22, 53, 39, 33, 30, 24, 18, 12, 5, 63, 55, 48, 27, 60, 41, 37, 16, 46, 35, 44, 21, 52, 32, 23, 11, 54, 26, 40, 15, 34, 20, 31, 10, 25, 14, 19, 9, 13, 8, 7, 6]
def zs32 : List Int := [0, 1, 28, 2, 29, 14, 24, 3, 30, 22, 20, 15, 25, 17, 4, 8, 31, 27, 13, 23, 21, 19, 16, 7, 26, 12, 18, 6, 11, 5, 10, 9]
def zs10 : List Int := [1, 10, 100, 1000, 10000, 100000, 1000000, 10000000, 100000000, 1000000000, 10000000000, 100000000000, 1000000000000, 10000000000000, 100000000000000, 1000000000000000, 10000000000000000, 100000000000000000, 1000000000000000000, 10000000000000000000]
theorem zs64_at : ∀ i, i < 64 → zs64.getD i 0 = ((Lib.deBruijn64tab.getD i 0 : Nat) : Int) := by decide +kernel
theorem zs32_at : ∀ i, i < 32 → zs32.getD i 0 = ((Lib.deBruijn32tab.getD i 0 : Nat) : Int) := by decide +kernel
theorem zs10_eq : zs10 = Lib.pow10Tab := by decide +kernel
theorem tab64_of {W : World} (h : Lib.TabIs Tryz.prog W "math/bits.deBruijn64tab" .u8 zs64) : Ie.Tab W := by
  intro i hi
  have := h.cell g64 i (by exact hi)
  rw [zs64_at i hi] at this
  exact this
theorem tab32_of {W : World} (h : Lib.TabIs Tryz.prog W "math/bits.deBruijn32tab" .u8 zs32) : Tab32 W := by
  intro i hi
  have := h.cell g32 i (by exact hi)
  rw [zs32_at i hi] at this
  exact this
theorem tab10_of {W : World} (h : Lib.TabIs Tryz.prog W "internal/strconv.uint64pow10" .u64 zs10) : Tab10 W := by
  rw [zs10_eq] at h
  exact h
theorem laid_tail {P : Program} {W : World} {x : String × DataW Unit} {rest : List (String × DataW Unit)} (h : laidMet P (x :: rest) W) : laidMet P rest W := by
  obtain ⟨ps, ⟨g', t', cs, fuel, p, q, hg', ht', hvar, hd, hr, rfl⟩, hn, hc⟩ := h
  exact ⟨q, hr, (List.nodup_append.1 hn).2.1, fun b off hm => hc b off (List.mem_append_right _ hm)⟩
theorem tabs_of {W : World} (h : laidMet Tryz.prog [("math/bits.deBruijn32tab", Lib.tabData .u8 zs32), ("math/bits.deBruijn64tab", Lib.tabData .u8 zs64), ("internal/strconv.uint64pow10", Lib.tabData .u64 zs10)] W) : Tab32 W ∧ Ie.Tab W ∧ Tab10 W :=
  ⟨tab32_of (Lib.tabIs_of_head g32 g32t Tryz.underlying156 Tryz.underlying5 cells5 cells130 h),
   tab64_of (Lib.tabIs_of_head g64 g64t Tryz.underlying160 Tryz.underlying5 cells5 cells114 (laid_tail h)),
   tab10_of (Lib.tabIs_of_head g10 g10t Tryz.underlying182 Tryz.underlying51 cells58 cells146 (laid_tail (laid_tail h)))⟩
def laidOn (w : World) : World :=
  { w with heap := ((w.heap.modify 2 fun
      | .cells _ t frozen => .cells #[.int .u8 0, .int .u8 1, .int .u8 56, .int .u8 2, .int .u8 57, .int .u8 49, .int .u8 28, .int .u8 3, .int .u8 61, .int .u8 58, .int .u8 42, .int .u8 50, .int .u8 38, .int .u8 29, .int .u8 17, .int .u8 4, .int .u8 62, .int .u8 47, .int .u8 59, .int .u8 36, .int .u8 45, .int .u8 43, .int .u8 51, .int .u8 22, .int .u8 53, .int .u8 39, .int .u8 33, .int .u8 30, .int .u8 24, .int .u8 18, .int .u8 12, .int .u8 5, .int .u8 63, .int .u8 55, .int .u8 48, .int .u8 27, .int .u8 60, .int .u8 41, .int .u8 37, .int .u8 16, .int .u8 46, .int .u8 35, .int .u8 44, .int .u8 21, .int .u8 52, .int .u8 32, .int .u8 23, .int .u8 11, .int .u8 54, .int .u8 26, .int .u8 40, .int .u8 15, .int .u8 34, .int .u8 20, .int .u8 31, .int .u8 10, .int .u8 25, .int .u8 14, .int .u8 19, .int .u8 9, .int .u8 13, .int .u8 8, .int .u8 7, .int .u8 6] t frozen
      | o => o).modify 1 fun
      | .cells _ t frozen => .cells #[.int .u8 0, .int .u8 1, .int .u8 28, .int .u8 2, .int .u8 29, .int .u8 14, .int .u8 24, .int .u8 3, .int .u8 30, .int .u8 22, .int .u8 20, .int .u8 15, .int .u8 25, .int .u8 17, .int .u8 4, .int .u8 8, .int .u8 31, .int .u8 27, .int .u8 13, .int .u8 23, .int .u8 21, .int .u8 19, .int .u8 16, .int .u8 7, .int .u8 26, .int .u8 12, .int .u8 18, .int .u8 6, .int .u8 11, .int .u8 5, .int .u8 10, .int .u8 9] t frozen
      | o => o).modify 6 fun
      | .cells _ t frozen => .cells #[.int .u64 1, .int .u64 10, .int .u64 100, .int .u64 1000, .int .u64 10000, .int .u64 100000, .int .u64 1000000, .int .u64 10000000, .int .u64 100000000, .int .u64 1000000000, .int .u64 10000000000, .int .u64 100000000000, .int .u64 1000000000000, .int .u64 10000000000000, .int .u64 100000000000000, .int .u64 1000000000000000, .int .u64 10000000000000000, .int .u64 100000000000000000, .int .u64 1000000000000000000, .int .u64 10000000000000000000] t frozen
      | o => o }
theorem c75 {neg : Bool} {ao : Option Addr} {cap x : Nat} {e : Int} {w : World} (h : Is w (.slice ao (dlen x) cap) x) (hx : dlen x ≤ 1000000) (he1 : -4000000 ≤ e) (he2 : e ≤ 4000000) :
    Calls Tryz.prog 124 #[.agg #[.bool neg, .slice ao (dlen x) cap, .int .i64 e]] w fun r w' => r = .returned (.int .i64 (bl x + e)) ∧ Below w.heap.size w w' := by
  have hb := bl_le_dlen x
  exact c75_1 neg ao _ cap (bl x) e w (by omega) he1 he2 fun W hW => c74 (h.later hW) (by omega)
set_option maxRecDepth 200000 in
theorem c77_0 (na nb : Bool) (ua va : Option Addr) (uc vc : Nat) (ea eb : Int) (w : World) :
    Calls Tryz.prog 77 #[.agg #[.bool na, .slice ua 0 uc, .int .i64 ea], .agg #[.bool nb, .slice va 0 vc, .int .i64 eb]] w fun r w' => r = .returned (.int .i64 0) ∧ Below w.heap.size w w' := by
  obtain ⟨W, hW⟩ : ∃ W, W = (w.alloc (.cells #[.bool na, .slice ua 0 uc, .int .i64 ea] 29)).alloc (.cells #[.bool nb, .slice va 0 vc, .int .i64 eb] 29) := ⟨_, rfl⟩
  have hBW : Below w.heap.size w W := by rw [hW]; exact ((Below.refl _ _).alloc (Nat.le_refl _) _).alloc (by simp) _
  have hbB : W.heap[w.heap.size + 1]? = some (.cells #[.bool nb, .slice va 0 vc, .int .i64 eb] 29 (0, 0)) := by
    have := heap_alloc_new (w.alloc (.cells #[.bool na, .slice ua 0 uc, .int .i64 ea] 29)) (.cells #[.bool nb, .slice va 0 vc, .int .i64 eb] 29)
    rw [hW]; simpa using this
  have hsz : W.heap.size = w.heap.size + 1 + 1 := by rw [hW]; simp
  have HC : Hid (∀ w', Below W.heap.size W w' → (w'.cell? ⟨w.heap.size + 1, 0, none⟩ = some (.bool nb) ∧ w'.cell? ⟨w.heap.size + 1, 1, none⟩ = some (.slice va 0 vc) ∧ w'.cell? ⟨w.heap.size + 1, 2, none⟩ = some (.int .i64 eb))) := fun w' hb => (box_cells (box_later hbB hb (by omega))).1
  have ka : ∀ W', Calls Tryz.prog 123 #[.agg #[.bool na, .slice ua 0 uc, .int .i64 ea]] W' fun r w' => r = .returned (.int .i64 0) ∧ Below W'.heap.size W' w' := fun W' =>
    (c72 na ua 0 uc ea W' (by omega)).mono fun r w' ⟨e1, e2⟩ => ⟨e1, by rw [e2]; exact (Below.refl _ _).alloc (Nat.le_refl _) _⟩
  have kb : ∀ W', Calls Tryz.prog 123 #[.agg #[.bool nb, .slice va 0 vc, .int .i64 eb]] W' fun r w' => r = .returned (.int .i64 0) ∧ Below W'.heap.size W' w' := fun W' =>
    (c72 nb va 0 vc eb W' (by omega)).mono fun r w' ⟨e1, e2⟩ => ⟨e1, by rw [e2]; exact (Below.refl _ _).alloc (Nat.le_refl _) _⟩
  have HB : Hid (Below w.heap.size w W) := hBW
  clear hBW hbB hsz
  go_enter Tryz.func77, Tryz.ntmps77
  go_wp2_with fail
  rw [← hW]
  clear hW
  refine (ka W).mono ?_
  rintro r w1 ⟨rfl, hB1⟩
  obtain ⟨x1, x2, x3⟩ := HC.out w1 hB1
  have HB1 : Hid (Below W.heap.size W w1) := hB1
  clear hB1
  go_wp2_with fail
  refine (kb _).mono ?_
  rintro r w2 ⟨rfl, hB2⟩
  have HF : Hid (Below w.heap.size w w2) := HB.out.trans ((below_step HB1.out hB2).mono HB.out.size)
  clear x1 x2 x3 hB2
  go_wp2_with fail
  go_ret
  exact ⟨rfl, HF.out⟩
set_option maxRecDepth 200000 in
theorem c77_2 (na : Bool) (ua va : Option Addr) (un uc vn vc : Nat) (ea eb s ta tb cv pv : Int) (w : World) (hs : Hid (sgI na un = s ∧ sgI na vn = s)) (hs0 : (s == 0) = false) (hss : (s != s) = false) (htt : (ta != tb) = true) (hun : un ≤ 35184372088832) (hvn : vn ≤ 35184372088832)
    (hcv : Hid (∀ W, Calls Tryz.prog 90 #[.int .i64 ta, .int .i64 tb] W fun r w' => r = .returned (.int .i64 cv) ∧ w' = W)) (hpv : IntKind.i64.wrap (s * cv) = pv)
    (kta : ∀ W, Below w.heap.size w W → Calls Tryz.prog 124 #[.agg #[.bool na, .slice ua un uc, .int .i64 ea]] W fun r w' => r = .returned (.int .i64 ta) ∧ Below W.heap.size W w')
    (ktb : ∀ W, Below w.heap.size w W → Calls Tryz.prog 124 #[.agg #[.bool na, .slice va vn vc, .int .i64 eb]] W fun r w' => r = .returned (.int .i64 tb) ∧ Below W.heap.size W w') :
    Calls Tryz.prog 77 #[.agg #[.bool na, .slice ua un uc, .int .i64 ea], .agg #[.bool na, .slice va vn vc, .int .i64 eb]] w fun r w' => r = .returned (.int .i64 pv) ∧ Below w.heap.size w w' := by
  obtain ⟨W, hW⟩ : ∃ W, W = (w.alloc (.cells #[.bool na, .slice ua un uc, .int .i64 ea] 29)).alloc (.cells #[.bool na, .slice va vn vc, .int .i64 eb] 29) := ⟨_, rfl⟩
  have hBW : Below w.heap.size w W := by rw [hW]; exact ((Below.refl _ _).alloc (Nat.le_refl _) _).alloc (by simp) _
  have hbA : W.heap[w.heap.size]? = some (.cells #[.bool na, .slice ua un uc, .int .i64 ea] 29 (0, 0)) := by
    rw [hW, Below.heap_alloc _ _ _ (by simp)]; exact heap_alloc_new _ _
  have hbB : W.heap[w.heap.size + 1]? = some (.cells #[.bool na, .slice va vn vc, .int .i64 eb] 29 (0, 0)) := by
    have := heap_alloc_new (w.alloc (.cells #[.bool na, .slice ua un uc, .int .i64 ea] 29)) (.cells #[.bool na, .slice va vn vc, .int .i64 eb] 29)
    rw [hW]; simpa using this
  have hsz : W.heap.size = w.heap.size + 1 + 1 := by rw [hW]; simp
  have HCC : Hid (∀ w', Below W.heap.size W w' → ((w'.cell? ⟨w.heap.size, 0, none⟩ = some (.bool na) ∧ w'.cell? ⟨w.heap.size, 1, none⟩ = some (.slice ua un uc) ∧ w'.cell? ⟨w.heap.size, 2, none⟩ = some (.int .i64 ea)) ∧ (w'.cell? ⟨w.heap.size + 1, 0, none⟩ = some (.bool na) ∧ w'.cell? ⟨w.heap.size + 1, 1, none⟩ = some (.slice va vn vc) ∧ w'.cell? ⟨w.heap.size + 1, 2, none⟩ = some (.int .i64 eb))) ∧ Below W.heap.size W w') := fun w' hb => ⟨⟨(box_cells (box_later hbA hb (by omega))).1, (box_cells (box_later hbB hb (by omega))).1⟩, hb⟩
  have ka : ∀ W', Calls Tryz.prog 123 #[.agg #[.bool na, .slice ua un uc, .int .i64 ea]] W' fun r w' => r = .returned (.int .i64 s) ∧ Below W'.heap.size W' w' := fun W' =>
    (c72 na ua un uc ea W' hun).mono fun r w' ⟨e1, e2⟩ => ⟨by rw [e1, hs.out.1], by rw [e2]; exact (Below.refl _ _).alloc (Nat.le_refl _) _⟩
  have kb : ∀ W', Calls Tryz.prog 123 #[.agg #[.bool na, .slice va vn vc, .int .i64 eb]] W' fun r w' => r = .returned (.int .i64 s) ∧ Below W'.heap.size W' w' := fun W' =>
    (c72 na va vn vc eb W' hvn).mono fun r w' ⟨e1, e2⟩ => ⟨by rw [e1, hs.out.2], by rw [e2]; exact (Below.refl _ _).alloc (Nat.le_refl _) _⟩
  have HB : Hid (Below w.heap.size w W) := hBW
  have k1 : ∀ w', Below W.heap.size W w' → Calls Tryz.prog 124 #[.agg #[.bool na, .slice ua un uc, .int .i64 ea]] w' fun r w'' => r = .returned (.int .i64 ta) ∧ Below W.heap.size W w'' := fun w' h => (kta w' (hBW.trans (h.mono hBW.size))).mono fun r w'' ⟨e1, e2⟩ => ⟨e1, h.trans (e2.mono h.size)⟩
  have k2 : ∀ w', Below W.heap.size W w' → Calls Tryz.prog 124 #[.agg #[.bool na, .slice va vn vc, .int .i64 eb]] w' fun r w'' => r = .returned (.int .i64 tb) ∧ Below W.heap.size W w'' := fun w' h => (ktb w' (hBW.trans (h.mono hBW.size))).mono fun r w'' ⟨e1, e2⟩ => ⟨e1, h.trans (e2.mono h.size)⟩
  clear hBW hbA hbB hsz hs kta ktb hun hvn
  go_enter Tryz.func77, Tryz.ntmps77
  go_wp2_with fail
  rw [← hW]
  clear hW
  refine (ka W).mono ?_
  rintro r w1 ⟨rfl, hB1⟩
  obtain ⟨⟨-, x1, x2, x3⟩, -⟩ := HCC.out w1 hB1
  have HB1 : Hid (Below W.heap.size W w1) := hB1
  clear hB1
  go_wp2_with fail
  refine (kb _).mono ?_
  rintro r w2 ⟨rfl, hB2⟩
  have HB2 : Hid (Below W.heap.size W w2) := below_step HB1.out hB2
  clear x1 x2 x3 hB2 ka kb HB1
  go_upto_region 6 with fail
  obtain ⟨⟨⟨a0, a1, a2⟩, b0, b1, b2⟩, hB0⟩ := HCC.out w2 HB2.out
  have hBR : Below W.heap.size W w2.drew := hB0.drew
  go_cut [23] from 24 to 28 (fun v wx => v = .bool true ∧ Hid (Below W.heap.size W wx))
  case first =>
    go_region_held3 (fun w' => ((w'.cell? ⟨w.heap.size, 0, none⟩ = some (.bool na) ∧ w'.cell? ⟨w.heap.size, 1, none⟩ = some (.slice ua un uc) ∧ w'.cell? ⟨w.heap.size, 2, none⟩ = some (.int .i64 ea)) ∧ (w'.cell? ⟨w.heap.size + 1, 0, none⟩ = some (.bool na) ∧ w'.cell? ⟨w.heap.size + 1, 1, none⟩ = some (.slice va vn vc) ∧ w'.cell? ⟨w.heap.size + 1, 2, none⟩ = some (.int .i64 eb))) ∧ Below W.heap.size W w') (first | (with_reducible assumption) | exact HCC.out _ hBR | exact ⟨⟨⟨a0, a1, a2⟩, b0, b1, b2⟩, hBR⟩ | (refine HCC.out _ ?_; with_reducible assumption) | go_keep)
      (first | (go_at_call_of 124 (Value.slice ua un uc); refine (k1 _ (by first | (with_reducible assumption) | exact Below.drew (by assumption))).mono ?_; rintro r w5 ⟨rfl, hb5⟩)
             | (go_at_call_of 124 (Value.slice va vn vc); refine (k2 _ (by first | (with_reducible assumption) | exact Below.drew (by assumption))).mono ?_; rintro r w6 ⟨rfl, hb6⟩))
    all_goals go_wp2_with fail
    all_goals go_meet
    all_goals exact ⟨rfl, hb6⟩
  case rest =>
    obtain ⟨W2, rfl⟩ : ∃ W2 : World, W2 = wc := ⟨_, rfl⟩
    obtain ⟨rfl, HB3⟩ := hcut
    clear a0 a1 a2 b0 b1 b2 hBR hB0
    go_upto_region 7 with fail
    obtain ⟨⟨⟨a0, a1, a2⟩, b0, b1, b2⟩, hB0⟩ := HCC.out W2 HB3.out
    have hBR : Below W.heap.size W W2.drew := hB0.drew
    have k3 := hcv.out
    go_region_held3 (fun w' => ((w'.cell? ⟨w.heap.size, 0, none⟩ = some (.bool na) ∧ w'.cell? ⟨w.heap.size, 1, none⟩ = some (.slice ua un uc) ∧ w'.cell? ⟨w.heap.size, 2, none⟩ = some (.int .i64 ea)) ∧ (w'.cell? ⟨w.heap.size + 1, 0, none⟩ = some (.bool na) ∧ w'.cell? ⟨w.heap.size + 1, 1, none⟩ = some (.slice va vn vc) ∧ w'.cell? ⟨w.heap.size + 1, 2, none⟩ = some (.int .i64 eb))) ∧ Below W.heap.size W w') (first | (with_reducible assumption) | exact HCC.out _ hBR | exact ⟨⟨⟨a0, a1, a2⟩, b0, b1, b2⟩, hBR⟩ | (refine HCC.out _ ?_; with_reducible assumption) | go_keep)
      (first | (go_at_call_of 124 (Value.slice ua un uc); refine (k1 _ (by first | (with_reducible assumption) | exact Below.drew (by assumption))).mono ?_; rintro r w5 ⟨rfl, hb5⟩)
             | (go_at_call_of 124 (Value.slice va vn vc); refine (k2 _ (by first | (with_reducible assumption) | exact Below.drew (by assumption))).mono ?_; rintro r w6 ⟨rfl, hb6⟩)
             | (go_at_call 90; refine (k3 _).mono ?_; rintro r w7 ⟨rfl, rfl⟩))
    all_goals go_wp2_with fail
    all_goals go_ret
    all_goals exact ⟨rfl, HB.out.trans (hb6.mono HB.out.size)⟩
set_option maxRecDepth 200000 in
theorem c77_3 (na : Bool) (ua va : Option Addr) (un uc vn vc : Nat) (ea eb s ta tb cv pv : Int) (PQ : World → Value → Value → Prop) (w : World) (hs : Hid (sgI na un = s ∧ sgI na vn = s)) (hs0 : (s == 0) = false) (hss : (s != s) = false) (htt : (ta != tb) = false) (hun : un ≤ 35184372088832) (hvn : vn ≤ 35184372088832)
    (kal : ∀ W, Below w.heap.size w W → Calls Tryz.prog 48 #[.agg #[.bool na, .slice ua un uc, .int .i64 ea], .agg #[.bool na, .slice va vn vc, .int .i64 eb]] W fun r w' => ∃ p q e', r = .returned (.tuple #[p, q, .int .i64 e']) ∧ PQ w' p q ∧ Below W.heap.size W w')
    (kcd : ∀ W p q, PQ W p q → Calls Tryz.prog 49 #[p, q] W fun r w' => r = .returned (.int .i64 cv) ∧ Below W.heap.size W w') (hpv : IntKind.i64.wrap (s * cv) = pv)
    (kta : ∀ W, Below w.heap.size w W → Calls Tryz.prog 124 #[.agg #[.bool na, .slice ua un uc, .int .i64 ea]] W fun r w' => r = .returned (.int .i64 ta) ∧ Below W.heap.size W w')
    (ktb : ∀ W, Below w.heap.size w W → Calls Tryz.prog 124 #[.agg #[.bool na, .slice va vn vc, .int .i64 eb]] W fun r w' => r = .returned (.int .i64 tb) ∧ Below W.heap.size W w') :
    Calls Tryz.prog 77 #[.agg #[.bool na, .slice ua un uc, .int .i64 ea], .agg #[.bool na, .slice va vn vc, .int .i64 eb]] w fun r w' => r = .returned (.int .i64 pv) ∧ Below w.heap.size w w' := by
  obtain ⟨W, hW⟩ : ∃ W, W = (w.alloc (.cells #[.bool na, .slice ua un uc, .int .i64 ea] 29)).alloc (.cells #[.bool na, .slice va vn vc, .int .i64 eb] 29) := ⟨_, rfl⟩
  have hBW : Below w.heap.size w W := by rw [hW]; exact ((Below.refl _ _).alloc (Nat.le_refl _) _).alloc (by simp) _
  have hbA : W.heap[w.heap.size]? = some (.cells #[.bool na, .slice ua un uc, .int .i64 ea] 29 (0, 0)) := by
    rw [hW, Below.heap_alloc _ _ _ (by simp)]; exact heap_alloc_new _ _
  have hbB : W.heap[w.heap.size + 1]? = some (.cells #[.bool na, .slice va vn vc, .int .i64 eb] 29 (0, 0)) := by
    have := heap_alloc_new (w.alloc (.cells #[.bool na, .slice ua un uc, .int .i64 ea] 29)) (.cells #[.bool na, .slice va vn vc, .int .i64 eb] 29)
    rw [hW]; simpa using this
  have hsz : W.heap.size = w.heap.size + 1 + 1 := by rw [hW]; simp
  have HCC : Hid (∀ w', Below W.heap.size W w' → ((w'.cell? ⟨w.heap.size, 0, none⟩ = some (.bool na) ∧ w'.cell? ⟨w.heap.size, 1, none⟩ = some (.slice ua un uc) ∧ w'.cell? ⟨w.heap.size, 2, none⟩ = some (.int .i64 ea)) ∧ (w'.cell? ⟨w.heap.size + 1, 0, none⟩ = some (.bool na) ∧ w'.cell? ⟨w.heap.size + 1, 1, none⟩ = some (.slice va vn vc) ∧ w'.cell? ⟨w.heap.size + 1, 2, none⟩ = some (.int .i64 eb))) ∧ Below W.heap.size W w') := fun w' hb => ⟨⟨(box_cells (box_later hbA hb (by omega))).1, (box_cells (box_later hbB hb (by omega))).1⟩, hb⟩
  have ka : ∀ W', Calls Tryz.prog 123 #[.agg #[.bool na, .slice ua un uc, .int .i64 ea]] W' fun r w' => r = .returned (.int .i64 s) ∧ Below W'.heap.size W' w' := fun W' =>
    (c72 na ua un uc ea W' hun).mono fun r w' ⟨e1, e2⟩ => ⟨by rw [e1, hs.out.1], by rw [e2]; exact (Below.refl _ _).alloc (Nat.le_refl _) _⟩
  have kb : ∀ W', Calls Tryz.prog 123 #[.agg #[.bool na, .slice va vn vc, .int .i64 eb]] W' fun r w' => r = .returned (.int .i64 s) ∧ Below W'.heap.size W' w' := fun W' =>
    (c72 na va vn vc eb W' hvn).mono fun r w' ⟨e1, e2⟩ => ⟨by rw [e1, hs.out.2], by rw [e2]; exact (Below.refl _ _).alloc (Nat.le_refl _) _⟩
  have HB : Hid (Below w.heap.size w W) := hBW
  have k1 : ∀ w', Below W.heap.size W w' → Calls Tryz.prog 124 #[.agg #[.bool na, .slice ua un uc, .int .i64 ea]] w' fun r w'' => r = .returned (.int .i64 ta) ∧ Below W.heap.size W w'' := fun w' h => (kta w' (hBW.trans (h.mono hBW.size))).mono fun r w'' ⟨e1, e2⟩ => ⟨e1, h.trans (e2.mono h.size)⟩
  have k2 : ∀ w', Below W.heap.size W w' → Calls Tryz.prog 124 #[.agg #[.bool na, .slice va vn vc, .int .i64 eb]] w' fun r w'' => r = .returned (.int .i64 tb) ∧ Below W.heap.size W w'' := fun w' h => (ktb w' (hBW.trans (h.mono hBW.size))).mono fun r w'' ⟨e1, e2⟩ => ⟨e1, h.trans (e2.mono h.size)⟩
  have KLN : Hid _ := kal
  have KCD : Hid _ := kcd
  clear hBW hbA hbB hsz hs kta ktb hun hvn kal kcd
  go_enter Tryz.func77, Tryz.ntmps77
  go_wp2_with fail
  rw [← hW]
  clear hW
  refine (ka W).mono ?_
  rintro r w1 ⟨rfl, hB1⟩
  obtain ⟨⟨-, x1, x2, x3⟩, -⟩ := HCC.out w1 hB1
  have HB1 : Hid (Below W.heap.size W w1) := hB1
  clear hB1
  go_wp2_with fail
  refine (kb _).mono ?_
  rintro r w2 ⟨rfl, hB2⟩
  have HB2 : Hid (Below W.heap.size W w2) := below_step HB1.out hB2
  clear x1 x2 x3 hB2 ka kb HB1
  go_upto_region 6 with fail
  obtain ⟨⟨⟨a0, a1, a2⟩, b0, b1, b2⟩, hB0⟩ := HCC.out w2 HB2.out
  have hBR : Below W.heap.size W w2.drew := hB0.drew
  go_cut [23] from 24 to 28 (fun v wx => v = .bool false ∧ Hid (Below W.heap.size W wx))
  case first =>
    go_region_held3 (fun w' => ((w'.cell? ⟨w.heap.size, 0, none⟩ = some (.bool na) ∧ w'.cell? ⟨w.heap.size, 1, none⟩ = some (.slice ua un uc) ∧ w'.cell? ⟨w.heap.size, 2, none⟩ = some (.int .i64 ea)) ∧ (w'.cell? ⟨w.heap.size + 1, 0, none⟩ = some (.bool na) ∧ w'.cell? ⟨w.heap.size + 1, 1, none⟩ = some (.slice va vn vc) ∧ w'.cell? ⟨w.heap.size + 1, 2, none⟩ = some (.int .i64 eb))) ∧ Below W.heap.size W w') (first | (with_reducible assumption) | exact HCC.out _ hBR | exact ⟨⟨⟨a0, a1, a2⟩, b0, b1, b2⟩, hBR⟩ | (refine HCC.out _ ?_; with_reducible assumption) | go_keep)
      (first | (go_at_call_of 124 (Value.slice ua un uc); refine (k1 _ (by first | (with_reducible assumption) | exact Below.drew (by assumption))).mono ?_; rintro r w5 ⟨rfl, hb5⟩)
             | (go_at_call_of 124 (Value.slice va vn vc); refine (k2 _ (by first | (with_reducible assumption) | exact Below.drew (by assumption))).mono ?_; rintro r w6 ⟨rfl, hb6⟩))
    all_goals go_wp2_with fail
    all_goals go_meet
    all_goals exact ⟨rfl, hb6⟩
  case rest =>
    obtain ⟨W2, rfl⟩ : ∃ W2 : World, W2 = wc := ⟨_, rfl⟩
    obtain ⟨rfl, HB3⟩ := hcut
    clear a0 a1 a2 b0 b1 b2 hBR hB0
    obtain ⟨⟨⟨a0, a1, a2⟩, b0, b1, b2⟩, hB0⟩ := HCC.out W2 HB3.out
    have HB3' : Hid (Below w.heap.size w W2) := HB.out.trans (hB0.mono HB.out.size)
    have k4 := KLN.out W2 HB3'.out
    go_wp2_with fail
    refine k4.mono ?_
    rintro r w5 ⟨p, q, e', rfl, hpq, hb5⟩
    have k5 := KCD.out w5 p q hpq
    have HB5 : Hid (Below w.heap.size w w5) := HB3'.out.trans (hb5.mono HB3'.out.size)
    clear k4 hb5 hpq a0 a1 a2 b0 b1 b2 hB0
    go_wp2_with fail
    refine k5.mono ?_
    rintro r w6 ⟨rfl, hb6⟩
    have HB6 : Hid (Below w.heap.size w w6) := HB5.out.trans (hb6.mono HB5.out.size)
    clear k5 hb6
    go_wp2_with fail
    go_ret
    exact ⟨rfl, HB6.out⟩
def ordN (na : Bool) (x : Nat) (ea : Int) (nb : Bool) (y : Nat) (eb : Int) : Int :=
  if sgI na (dlen x) = sgI nb (dlen y) then sgI na (dlen x) * cmpI (x * 2 ^ (ea - min ea eb).toNat : Nat) (y * 2 ^ (eb - min ea eb).toNat : Nat) else cmpI (sgI na (dlen x)) (sgI nb (dlen y))
theorem cmpI_cases (x y : Int) : (x < y ∧ cmpI x y = -1) ∨ (y < x ∧ cmpI x y = 1) ∨ (x = y ∧ cmpI x y = 0) := by
  unfold cmpI
  by_cases h1 : x < y
  · rw [if_pos h1]; exact .inl ⟨h1, rfl⟩
  · rw [if_neg h1]
    by_cases h2 : y < x
    · rw [if_pos h2]; exact .inr (.inl ⟨h2, rfl⟩)
    · rw [if_neg h2]; exact .inr (.inr ⟨by omega, rfl⟩)
theorem sgI_pos {na : Bool} {n : Nat} (h : n ≠ 0) : sgI na n = if na then -1 else 1 := by unfold sgI; rw [if_neg h]
theorem sgI_zero {na : Bool} : sgI na 0 = 0 := by unfold sgI; rw [if_pos rfl]
theorem top_lt {x y k l : Nat} (hy : y ≠ 0) (h : bl x + k < bl y + l) : x * 2 ^ k < y * 2 ^ l := by
  have h1 := lt_bl x
  have h2 := le_bl hy
  have hb : bl y ≠ 0 := by unfold bl; rw [if_neg hy]; omega
  have h3 : x * 2 ^ k < 2 ^ (bl x + k) := by rw [Nat.pow_add]; exact Nat.mul_lt_mul_of_pos_right h1 (Nat.two_pow_pos k)
  have h4 : 2 ^ (bl x + k) ≤ 2 ^ (bl y - 1 + l) := Nat.pow_le_pow_right (by omega) (by omega)
  have h5 : 2 ^ (bl y - 1 + l) ≤ y * 2 ^ l := by rw [Nat.pow_add]; exact Nat.mul_le_mul_right _ h2
  omega
theorem c77 {na nb : Bool} {ua va : Option Addr} {uc vc x y : Nat} {ea eb : Int} {w : World} (h1 : Is w (.slice ua (dlen x) uc) x) (h2 : Is w (.slice va (dlen y) vc) y) (hx : dlen x ≤ 500000) (hy : dlen y ≤ 500000) (ha : -2000000 ≤ ea ∧ ea ≤ 2000000) (hb : -2000000 ≤ eb ∧ eb ≤ 2000000) :
    Calls Tryz.prog 77 #[.agg #[.bool na, .slice ua (dlen x) uc, .int .i64 ea], .agg #[.bool nb, .slice va (dlen y) vc, .int .i64 eb]] w fun r w' => r = .returned (.int .i64 (ordN na x ea nb y eb)) ∧ Below w.heap.size w w' := by
  unfold ordN
  by_cases hs : sgI na (dlen x) = sgI nb (dlen y)
  · rw [if_pos hs]
    by_cases hx0 : x = 0
    · subst hx0
      have hy0 : y = 0 := by
        rw [dlen_zero, sgI_zero] at hs
        apply dlen_eq_zero.1
        apply Decidable.byContradiction
        intro h
        rw [sgI_pos h] at hs
        cases nb <;> simp at hs
      subst hy0
      rw [dlen_zero, sgI_zero, Int.zero_mul]
      exact c77_0 na nb ua va uc vc ea eb w
    · have hdx : dlen x ≠ 0 := fun e => hx0 (dlen_eq_zero.1 e)
      have hdy : dlen y ≠ 0 := by
        intro e
        rw [e, sgI_zero, sgI_pos hdx] at hs
        cases na <;> simp at hs
      have hy0 : y ≠ 0 := fun e => hdy (by rw [e, dlen_zero])
      obtain rfl : na = nb := by
        rw [sgI_pos hdx, sgI_pos hdy] at hs
        cases na <;> cases nb <;> simp at hs ⊢
      have hs1 : sgI na (dlen x) = -1 ∨ sgI na (dlen x) = 1 := by rw [sgI_pos hdx]; cases na <;> simp
      have kta : ∀ W, Below w.heap.size w W → Calls Tryz.prog 124 #[.agg #[.bool na, .slice ua (dlen x) uc, .int .i64 ea]] W fun r w' => r = .returned (.int .i64 (bl x + ea)) ∧ Below W.heap.size W w' := fun W hW => c75 (h1.later hW) (by omega) (by omega) (by omega)
      have ktb : ∀ W, Below w.heap.size w W → Calls Tryz.prog 124 #[.agg #[.bool na, .slice va (dlen y) vc, .int .i64 eb]] W fun r w' => r = .returned (.int .i64 (bl y + eb)) ∧ Below W.heap.size W w' := fun W hW => c75 (h2.later hW) (by omega) (by omega) (by omega)
      have hsz : (sgI na (dlen x) == 0) = false := by rcases hs1 with h | h <;> rw [h] <;> decide
      have hss : (sgI na (dlen x) != sgI na (dlen x)) = false := by simp
      have hw : ∀ c : Int, c = -1 ∨ c = 1 ∨ c = 0 → IntKind.i64.wrap (sgI na (dlen x) * c) = sgI na (dlen x) * c := by
        intro c hc
        rcases hs1 with h | h <;> rcases hc with rfl | rfl | rfl <;> rw [h] <;> decide
      have hem : (ea - min ea eb).toNat = ea - min ea eb ∧ (eb - min ea eb).toNat = eb - min ea eb := by omega
      by_cases ht : (bl x : Int) + ea = bl y + eb
      · refine c77_3 na ua va _ uc _ vc ea eb (sgI na (dlen x)) (bl x + ea) (bl y + eb) (cmpI (x * 2 ^ (ea - min ea eb).toNat : Nat) (y * 2 ^ (eb - min ea eb).toNat : Nat)) _ (fun W p q => Is W p (x * 2 ^ (ea - min ea eb).toNat) ∧ Is W q (y * 2 ^ (eb - min ea eb).toNat)) w ⟨rfl, hs.symm⟩ hsz hss (by rw [ht]; simp) (by omega) (by omega) ?_ ?_ (hw _ ?_) kta ktb
        · intro W hW
          refine Calls.mono (c99 (na := na) (nb := na) (h1.later hW) (h2.later hW) (by omega) (by omega) (by omega) (by omega)) ?_
          rintro r w' ⟨p, q, rfl, hp, hq, hb'⟩
          exact ⟨p, q, _, rfl, ⟨hp.is, hq.is⟩, hb'⟩
        · rintro W p q ⟨hp, hq⟩
          have l1 : dlen (x * 2 ^ (ea - min ea eb).toNat) ≤ 760000 := by have := shl_len (x := x) (k := (ea - min ea eb).toNat) rfl; omega
          have l2 : dlen (y * 2 ^ (eb - min ea eb).toNat) ≤ 760000 := by have := shl_len (x := y) (k := (eb - min ea eb).toNat) rfl; omega
          refine (c129 hp hq (by omega) (by omega)).mono ?_
          rintro r w' ⟨rfl, d, rfl⟩
          exact ⟨rfl, rfl, rfl, rfl, Nat.le_refl _, fun _ _ => rfl⟩
        · rcases cmpI_cases (x * 2 ^ (ea - min ea eb).toNat : Nat) (y * 2 ^ (eb - min ea eb).toNat : Nat) with h | h | h
          · exact .inl h.2
          · exact .inr (.inl h.2)
          · exact .inr (.inr h.2)
      · have ec : cmpI (x * 2 ^ (ea - min ea eb).toNat : Nat) (y * 2 ^ (eb - min ea eb).toNat : Nat) = cmpI (bl x + ea) (bl y + eb) := by
          rcases cmpI_cases (bl x + ea) (bl y + eb) with h | h | h
          · have := top_lt (x := x) (k := (ea - min ea eb).toNat) (l := (eb - min ea eb).toNat) hy0 (by omega)
            rw [h.2]; unfold cmpI; rw [if_pos (by omega)]
          · have := top_lt (x := y) (y := x) (k := (eb - min ea eb).toNat) (l := (ea - min ea eb).toNat) hx0 (by omega)
            rw [h.2]; unfold cmpI; rw [if_neg (by omega), if_pos (by omega)]
          · exact absurd h.1 ht
        rw [ec]
        refine c77_2 na ua va _ uc _ vc ea eb (sgI na (dlen x)) (bl x + ea) (bl y + eb) (cmpI (bl x + ea) (bl y + eb)) _ w ⟨rfl, hs.symm⟩ hsz hss (by simp; omega) (by omega) (by omega) (fun W => c128 _ _ W) (hw _ ?_) kta ktb
        rcases cmpI_cases (bl x + ea) (bl y + eb) with h | h | h
        · exact .inl h.2
        · exact .inr (.inl h.2)
        · exact .inr (.inr h.2)
  · rw [if_neg hs]
    exact c77_1 na nb ua va _ uc _ vc ea eb _ _ w rfl rfl (by simp; exact hs) (by omega) (by omega)
end Go.Proofs.YtkmiohkpfdamoaaGreatDoor
namespace Go.Proofs.YtkmiohkpfdamoaaGreatDoor
set_option linter.unusedVariables false
set_option linter.unusedSimpArgs false
open Go.RowKit
theorem setCell_block {w : World} {g k : Nat} (i : Nat) (v : Value) (h : k ≠ g) : (w.setCell ⟨g, i, none⟩ v).heap[k]? = w.heap[k]? := by
  simp [World.setCell, Array.getElem?_modify, Ne.symm h]
def Dn (w : World) (base : Nat) (v : Value) (n z : Nat) : Prop :=
  (v = .slice none 0 0 ∧ n = 0) ∨ ∃ g cap c, v = .slice (some ⟨g, 0, none⟩) n cap ∧ base ≤ g ∧ (n ≤ cap ∧ cap ≤ 9223372036854775807) ∧ w.heap[g]? = some (.cells c 79 (0, 0)) ∧ c.size = cap ∧ ∀ i, i < n → c[i]? = some (.int .u32 (dg z i : Nat))
set_option maxRecDepth 200000 in
theorem give_1 (ng : Bool) (b o n cap z : Nat) (e : Int) (w : World) (hn0 : 0 < n) (hn : n ≤ 35184372088832) (hcell : ∀ i, i < n → w.cell? ⟨b, o + i, none⟩ = some (.int .u32 (dg z i : Nat))) :
    Calls Tryz.prog 6 #[.agg #[.bool ng, .slice (some ⟨b, o, none⟩) n cap, .int .i64 e]] w fun r w' => ∃ v, r = .returned (.agg #[.bool ng, v, .int .i64 e]) ∧ Dn w' w.heap.size v n z ∧ Below w.heap.size w w' := by
  obtain ⟨W, hW⟩ : ∃ W, W = (w.alloc (.cells #[.bool ng, .slice (some ⟨b, o, none⟩) n cap, .int .i64 e] 24)).alloc (.cells #[.bool false, .slice none 0 0, .int .i64 0] 29) := ⟨_, rfl⟩
  have hBW : Below w.heap.size w W := by rw [hW]; exact ((Below.refl _ _).alloc (Nat.le_refl _) _).alloc (by simp) _
  have hbA : W.heap[w.heap.size]? = some (.cells #[.bool ng, .slice (some ⟨b, o, none⟩) n cap, .int .i64 e] 24 (0, 0)) := by
    rw [hW, Below.heap_alloc _ _ _ (by simp)]; exact heap_alloc_new _ _
  have hbB : W.heap[w.heap.size + 1]? = some (.cells #[.bool false, .slice none 0 0, .int .i64 0] 29 (0, 0)) := by
    have := heap_alloc_new (w.alloc (.cells #[.bool ng, .slice (some ⟨b, o, none⟩) n cap, .int .i64 e] 24)) (.cells #[.bool false, .slice none 0 0, .int .i64 0] 29)
    rw [hW]; simpa using this
  have hsz : W.heap.size = w.heap.size + 1 + 1 := by rw [hW]; simp
  have HN : Hid (∀ j u, (cells z n)[j]? = some u → W.drew.cell? ((⟨b, o, none⟩ : Addr).add j) = some u) := fun j u hj => by
    have hjl : j < n := by
      have := (List.getElem?_eq_some_iff.1 hj).1
      rwa [cells_length] at this
    rw [cells_get hjl] at hj
    rw [show (⟨b, o, none⟩ : Addr).add j = ⟨b, o + j, none⟩ by simp [Addr.add], ← hj]
    exact (hBW.cell (World.block_lt_of_cell? _ _ (hcell j hjl))).trans (hcell j hjl)
  have HX : Hid (Below w.heap.size w W ∧ W.heap.size = w.heap.size + 1 + 1 ∧ W.heap[w.heap.size]? = some (.cells #[.bool ng, .slice (some ⟨b, o, none⟩) n cap, .int .i64 e] 24 (0, 0)) ∧ W.heap[w.heap.size + 1]? = some (.cells #[.bool false, .slice none 0 0, .int .i64 0] 29 (0, 0))) := ⟨hBW, hsz, hbA, hbB⟩
  obtain ⟨⟨a0, a1, a2⟩, -⟩ := box_cells29 hbA
  clear hbA hbB hsz hBW hcell
  obtain ⟨i0, hi0, hz0, hz1, hz2⟩ := info_parts Tryz.info79
  go_enter Tryz.func6, Tryz.ntmps6
  go_upto_region 2 with fail
  rw [← hW]
  clear hW
  go_region_held3 (fun w' => w'.cell? ⟨w.heap.size, 0, none⟩ = some (.bool ng) ∧ w'.cell? ⟨w.heap.size, 1, none⟩ = some (.slice (some ⟨b, o, none⟩) n cap) ∧ w'.cell? ⟨w.heap.size, 2, none⟩ = some (.int .i64 e)) (first | (with_reducible assumption) | exact ⟨a0, a1, a2⟩ | exact hS2 | go_keep)
    (first | (refine step_append_grows rfl (.tmp 6) (.tmp 8) 22 rfl 79 i0 (.int .u32 0) 1 4 Tryz.underlying22 hi0 hz0 hz1 hz2 rfl (by decide) none 0 0 [] (by simp [Act.eval, Act.put]) (fun _ => ⟨rfl, rfl⟩) rfl (fun _ h => by cases h) ⟨b, o, none⟩ n cap (cells z n) (by simp [Act.eval, Act.put]) (by rw [cells_length, Nat.mul_one]) HN.out (by intro u hu; simp [cells] at hu; obtain ⟨j, -, rfl⟩ := hu; rfl) (by omega) (by unfold maxLen; omega) (by omega) ?_; intro v' w2 hown hgrow; rw [Nat.zero_add, List.nil_append] at hown; have HG : Hid (Below W.heap.size W w2) := Below.grown (Below.refl W.heap.size W).drew hgrow (Nat.le_refl _) (fun k hk => by cases hk); have hb2 := box_later HX.out.2.2.2 HG.out (by have := HX.out.2.1; omega); obtain ⟨⟨x1, x2, x3⟩, x4, x5, x6⟩ := box_cells hb2; obtain ⟨g2, cap2, cur2, rfl, hg2, hc2, hc3, hc4, hc5, hc6⟩ := (hown.2.resolve_left fun h => by omega); have HR : Hid (w2.heap[w.heap.size + 1]? = some (.cells #[.bool false, .slice none 0 0, .int .i64 0] 29 (0, 0)) ∧ W.heap.size ≤ g2 ∧ w2.heap[g2]? = some (.cells cur2 79 (0, 0)) ∧ (n ≤ cap2 ∧ cap2 ≤ 9223372036854775807) ∧ cur2.size = cap2 * 1 ∧ cur2.toList.take (n * 1) = cells z n) := ⟨hb2, hg2, hc2, ⟨hc3, by unfold maxLen at hc4; omega⟩, hc5, hc6⟩; have hS2 := (box_cells29 (box_later HX.out.2.2.1 HG.out (by have := HX.out.2.1; omega))).1; clear hown hgrow hb2 hg2 hc2 hc3 hc4 hc5 hc6))
  have HR2 : Hid (w2.heap[w.heap.size + 1]? = some (.cells #[.bool false, .slice none 0 0, .int .i64 0] 29 (0, 0)) ∧ W.heap.size ≤ g2 ∧ w2.heap[g2]? = some (.cells cur2 79 (0, 0)) ∧ (n ≤ cap2 ∧ cap2 ≤ 9223372036854775807) ∧ cur2.size = cap2 * 1 ∧ cur2.toList.take (n * 1) = cells z n) := HR
  clear hS2 x1 x2 x3 x4 x5 x6 a0 a1 a2 hi0 hz0 hz1 hz2 HR HN
  go_wp2
  refine bodyPost_ret (results_cell_row rfl _ _ (w.heap.size + 1) 29 #[.bool ng, .slice (some ⟨g2, 0, none⟩) n cap2, .int .i64 e] (0, 0) _ rfl (store3 _ _ _ HR2.out.1) Tryz.underlying29 rfl Tryz.info29) rfl ?_
  obtain ⟨h1, h2, h3, h4, h5, h6⟩ := HR2.out
  obtain ⟨q1, q2, -, -⟩ := HX.out
  refine ⟨_, rfl, .inr ⟨g2, cap2, cur2, rfl, by omega, h4, ?_, by omega, fun i hi => ?_⟩, below_store3 (q1.trans (HG.out.mono q1.size)) (by omega) _ _ _⟩
  · rw [setCell_block _ _ (by omega), setCell_block _ _ (by omega), setCell_block _ _ (by omega)]
    exact h3
  · have h7 : (cells z n)[i]? = cur2[i]? := by
      rw [← h6, Nat.mul_one, List.getElem?_take, if_pos hi, Array.getElem?_toList]
    rw [← h7, cells_get hi]
theorem step_append_zero {P : Program} {ops : Array Oper} {o : Oper} {a : Act} {w : World} {K : Act → World → Prop} {Q : Exit → Act → World → Prop} {E : Prop}
    (hg : o.guard = none) (s x : Operand) (t : TypeId) (hop : o.op = Op.call { callee := Callee.builtin Builtin.append, args := #[s, x], argTypes := #[t, t] })
    (e : TypeId) (i : TypeInfo) (z : Value) (size bytes : Nat) (h1 : P.underlying t = some (.slice e)) (h2 : P.info? e = some i) (h3 : i.zero = some z) (h4 : i.size = size) (h5 : i.bytes = bytes) (h6 : z.cells.size = size) (h7 : 0 < size)
    (hs : a.eval s = .slice none 0 0) (ao : Option Addr) (c : Nat) (hx : a.eval x = .slice ao 0 c) (hao : (∃ ad, ao = some ad) ∨ (ao = none ∧ c = 0))
    (hK : ∀ w', Below w.heap.size w w' → K (a.put o.dst (.slice none 0 0)) w') :
    if Region.wanted o (yielded ops a.tmps) = true then Oper.wp P o a w K Q else E := by
  have hw : Region.wanted o (yielded ops a.tmps) = true := by simp [Region.wanted, hg]
  rw [if_pos hw]
  rcases hao with ⟨ad, rfl⟩ | ⟨rfl, rfl⟩
  · obtain ⟨v', w', hrun, r1, r2, r3⟩ := run_append_own (P := P) w w.heap.size t o.type e i z size bytes h1 h2 h3 h4 h5 h6 h7 (.slice none 0 0) 0 [] (World.ownsRow_nil w _ e size) ad 0 c [] (by simp) (by intro j u hj; simp at hj) (by intro u hu; simp at hu) (by unfold maxLen; omega) (by omega) (Nat.le_refl _)
    obtain rfl : v' = .slice none 0 0 := r3.2 ⟨rfl, rfl⟩
    unfold Oper.wp
    simp [execOp, hop, resolve, invoke, builtin, hs, hx, hrun, Result.andThen]
    exact hK w' (Below.grown (Below.refl _ _) r2 (Nat.le_refl _) (fun k hk => by simp [Value.ownBlock] at hk))
  · have hrun := run_append_owned_none (P := P) (w := w) w.heap.size t o.type e i size h1 h2 (.slice none 0 0) 0 [] (World.ownsRow_nil w _ e size)
    unfold Oper.wp
    simp [execOp, hop, resolve, invoke, builtin, hs, hx, hrun, Result.andThen]
    exact hK w (Below.refl _ _)
set_option maxRecDepth 200000 in
theorem give_0 (ng : Bool) (ao : Option Addr) (cap : Nat) (e : Int) (w : World) (hao : (∃ ad, ao = some ad) ∨ (ao = none ∧ cap = 0)) :
    Calls Tryz.prog 6 #[.agg #[.bool ng, .slice ao 0 cap, .int .i64 e]] w fun r w' => r = .returned (.agg #[.bool ng, .slice none 0 0, .int .i64 e]) ∧ Below w.heap.size w w' := by
  obtain ⟨W, hW⟩ : ∃ W, W = (w.alloc (.cells #[.bool ng, .slice ao 0 cap, .int .i64 e] 24)).alloc (.cells #[.bool false, .slice none 0 0, .int .i64 0] 29) := ⟨_, rfl⟩
  have hBW : Below w.heap.size w W := by rw [hW]; exact ((Below.refl _ _).alloc (Nat.le_refl _) _).alloc (by simp) _
  have hbA : W.heap[w.heap.size]? = some (.cells #[.bool ng, .slice ao 0 cap, .int .i64 e] 24 (0, 0)) := by
    rw [hW, Below.heap_alloc _ _ _ (by simp)]; exact heap_alloc_new _ _
  have hbB : W.heap[w.heap.size + 1]? = some (.cells #[.bool false, .slice none 0 0, .int .i64 0] 29 (0, 0)) := by
    have := heap_alloc_new (w.alloc (.cells #[.bool ng, .slice ao 0 cap, .int .i64 e] 24)) (.cells #[.bool false, .slice none 0 0, .int .i64 0] 29)
    rw [hW]; simpa using this
  have hsz : W.heap.size = w.heap.size + 1 + 1 := by rw [hW]; simp
  have HX : Hid (Below w.heap.size w W ∧ W.heap.size = w.heap.size + 1 + 1 ∧ W.heap[w.heap.size]? = some (.cells #[.bool ng, .slice ao 0 cap, .int .i64 e] 24 (0, 0)) ∧ W.heap[w.heap.size + 1]? = some (.cells #[.bool false, .slice none 0 0, .int .i64 0] 29 (0, 0))) := ⟨hBW, hsz, hbA, hbB⟩
  have HAO : Hid ((∃ ad, ao = some ad) ∨ (ao = none ∧ cap = 0)) := hao
  obtain ⟨⟨a0, a1, a2⟩, -⟩ := box_cells29 hbA
  clear hbA hbB hsz hBW hao
  obtain ⟨i0, hi0, hz0, hz1, hz2⟩ := info_parts Tryz.info79
  go_enter Tryz.func6, Tryz.ntmps6
  go_upto_region 2 with fail
  rw [← hW]
  clear hW
  go_region_held3 (fun w' => w'.cell? ⟨w.heap.size, 0, none⟩ = some (.bool ng) ∧ w'.cell? ⟨w.heap.size, 1, none⟩ = some (.slice ao 0 cap) ∧ w'.cell? ⟨w.heap.size, 2, none⟩ = some (.int .i64 e)) (first | (with_reducible assumption) | exact ⟨a0, a1, a2⟩ | exact hS2 | go_keep)
    (first | (refine step_append_zero rfl (.tmp 6) (.tmp 8) 22 rfl 79 i0 (.int .u32 0) 1 4 Tryz.underlying22 hi0 hz0 hz1 hz2 rfl (by decide) (by simp [Act.eval, Act.put]) ao cap (by simp [Act.eval, Act.put]) HAO.out ?_; intro w2 hb; have HG : Hid (Below W.heap.size W w2) := (Below.refl W.heap.size W).drew.trans hb; have hb2 := box_later HX.out.2.2.2 HG.out (by have := HX.out.2.1; omega); obtain ⟨⟨x1, x2, x3⟩, x4, x5, x6⟩ := box_cells hb2; have HR : Hid (w2.heap[w.heap.size + 1]? = some (.cells #[.bool false, .slice none 0 0, .int .i64 0] 29 (0, 0))) := hb2; have hS2 := (box_cells29 (box_later HX.out.2.2.1 HG.out (by have := HX.out.2.1; omega))).1; clear hb hb2))
  have HR2 : Hid (w2.heap[w.heap.size + 1]? = some (.cells #[.bool false, .slice none 0 0, .int .i64 0] 29 (0, 0))) := HR
  clear hS2 x1 x2 x3 x4 x5 x6 a0 a1 a2 hi0 hz0 hz1 hz2 HR
  go_wp2
  refine bodyPost_ret (results_cell_row rfl _ _ (w.heap.size + 1) 29 #[.bool ng, .slice none 0 0, .int .i64 e] (0, 0) _ rfl (store3 _ _ _ HR2.out) Tryz.underlying29 rfl Tryz.info29) rfl ?_
  obtain ⟨q1, q2, -, -⟩ := HX.out
  exact ⟨rfl, below_store3 (q1.trans (HG.out.mono q1.size)) (by omega) _ _ _⟩
structure Arg (w : World) (ao : Option Addr) (n cap z : Nat) : Prop where
  nil : n = 0 → (∃ ad, ao = some ad) ∨ (ao = none ∧ cap = 0)
  at_ : At w ao n z
  le : n ≤ cap
  small : n ≤ 35184372088832
theorem Arg.later {w w' : World} {ao : Option Addr} {n cap z : Nat} (h : Arg w ao n cap z) (hb : Below w.heap.size w w') : Arg w' ao n cap z := ⟨h.nil, h.at_.later hb, h.le, h.small⟩
theorem give_ok {ng : Bool} {ao : Option Addr} {n cap z : Nat} {e : Int} {w : World} (h : Arg w ao n cap z) :
    Calls Tryz.prog 6 #[.agg #[.bool ng, .slice ao n cap, .int .i64 e]] w fun r w' => ∃ v, r = .returned (.agg #[.bool ng, v, .int .i64 e]) ∧ Dn w' w.heap.size v n z ∧ Below w.heap.size w w' := by
  by_cases h0 : n = 0
  · subst h0
    refine (give_0 ng ao cap e w (h.nil rfl)).mono ?_
    rintro r w' ⟨rfl, hb⟩
    exact ⟨_, rfl, .inl ⟨rfl, rfl⟩, hb⟩
  · obtain ⟨b, o, h1, h2⟩ := h.at_
    obtain rfl := h1 (by omega)
    exact give_1 ng b o n cap z e w (by omega) h.small h2
theorem Dn.later {w w' : World} {base : Nat} {v : Value} {n z : Nat} (h : Dn w base v n z) (hb : Below w.heap.size w w') : Dn w' base v n z := by
  rcases h with h | ⟨g, cap, c, h0, h1, h2, h3, h4, h5⟩
  · exact .inl h
  · exact .inr ⟨g, cap, c, h0, h1, h2, (hb.block g (Array.getElem?_eq_some_iff.1 h3).1).trans h3, h4, h5⟩
theorem Dn.row {w : World} {base : Nat} {v : Value} {n z : Nat} (h : Dn w base v n z) {g : Nat} {cs : Array Value} {t : TypeId} {fr : Nat × Nat} (hg : w.heap[g]? = some (.cells cs t fr)) (ht : t ≠ 79) (cs' : Array Value) : Dn (w.setRow g cs') base v n z := by
  rcases h with h | ⟨g', cap, c, h0, h1, h2, h3, h4, h5⟩
  · exact .inl h
  · refine .inr ⟨g', cap, c, h0, h1, h2, ?_, h4, h5⟩
    rw [setRow_other]
    · exact h3
    · intro e
      subst e
      rw [h3] at hg
      simp only [Option.some.injEq, Obj.cells.injEq] at hg
      exact ht hg.2.1.symm
theorem Dn.mono {w : World} {base base' : Nat} {v : Value} {n z : Nat} (h : Dn w base v n z) (hb : base' ≤ base) : Dn w base' v n z := by
  rcases h with h | ⟨g, cap, c, h0, h1, h2⟩
  · exact .inl h
  · exact .inr ⟨g, cap, c, h0, by omega, h2⟩
theorem Dn.at {w : World} {base : Nat} {v : Value} {n z : Nat} (h : Dn w base v n z) : ∃ ao cap, v = .slice ao n cap ∧ n ≤ cap ∧ At w ao n z := by
  rcases h with ⟨rfl, rfl⟩ | ⟨g, cap, c, rfl, h1, h2, h3, h4, h5⟩
  · exact ⟨none, 0, rfl, by omega, 0, 0, fun h => by omega, fun i hi => by omega⟩
  · exact ⟨_, cap, rfl, h2.1, g, 0, fun _ => rfl, fun i hi => by rw [Nat.zero_add]; simp [World.cell?, h3, h5 i hi]⟩
def sv (s : Bool) (x : Nat) : Int := if s then -(x : Int) else x
def vz (K : Nat) (s : Bool) (x : Nat) (e : Int) : Int := sv s x * ((2 ^ (e + K).toNat : Nat) : Int)
theorem sv_zero (s : Bool) : sv s 0 = 0 := by cases s <;> rfl
theorem sv_eq_zero {s : Bool} {x : Nat} : sv s x = 0 ↔ x = 0 := by
  cases s <;> simp [sv]
theorem sv_mul (s s' : Bool) (x y : Nat) : sv (!(s == s')) (x * y) = sv s x * sv s' y := by
  cases s <;> cases s' <;> simp [sv, Int.natCast_mul, Int.neg_mul, Int.mul_neg]
theorem sv_scale (s : Bool) (x k : Nat) : sv s (x * k) = sv s x * (k : Int) := by
  cases s <;> simp [sv, Int.natCast_mul, Int.neg_mul]
theorem two_pos (k : Nat) : (0 : Int) < ((2 ^ k : Nat) : Int) := by
  have := Nat.two_pow_pos k; omega
theorem vz_zero (K : Nat) (s : Bool) (e : Int) : vz K s 0 e = 0 := by unfold vz; rw [sv_zero, Int.zero_mul]
theorem vz_eq_zero {K : Nat} {s : Bool} {x : Nat} {e : Int} : vz K s x e = 0 ↔ x = 0 := by
  unfold vz
  constructor
  · intro h
    rcases Int.mul_eq_zero.1 h with h | h
    · exact sv_eq_zero.1 h
    · have := two_pos (e + K).toNat; omega
  · rintro rfl; rw [sv_zero, Int.zero_mul]
theorem vz_shift {K : Nat} {s : Bool} {x k : Nat} {e : Int} (h : 0 ≤ e + K) : vz K s (x * 2 ^ k) e = vz K s x (e + k) := by
  unfold vz
  rw [sv_scale, Int.mul_assoc, show (e + (k : Int) + K).toNat = k + (e + K).toNat by omega, Nat.pow_add, Int.natCast_mul]
def cn (s : Bool) (z : Nat) (e : Int) : Bool × Nat × Int := if z = 0 then (false, 0, 0) else (s, z / 2 ^ tz z, e + tz z)
theorem vz_cn {K : Nat} {s : Bool} {z : Nat} {e : Int} (h : 0 ≤ e + K) : vz K (cn s z e).1 (cn s z e).2.1 (cn s z e).2.2 = vz K s z e := by
  unfold cn
  by_cases h0 : z = 0
  · subst h0; rw [if_pos rfl, vz_zero, vz_zero]
  · rw [if_neg h0]
    have h1 := (tz_spec z z (Nat.le_refl _) h0).1
    show vz K s (z / 2 ^ tz z) (e + tz z) = _
    rw [← vz_shift h, Nat.mul_comm, h1]
theorem vz_sumN {K : Nat} {na nb : Bool} {x y : Nat} {ea eb : Int} (h1 : 0 ≤ ea + K) (h2 : 0 ≤ eb + K) :
    vz K (sumN na x ea nb y eb).1 (sumN na x ea nb y eb).2.1 (sumN na x ea nb y eb).2.2 = vz K na x ea + vz K nb y eb := by
  unfold sumN
  by_cases x0 : x = 0
  · subst x0; rw [if_pos rfl, vz_zero, Int.zero_add]
  · rw [if_neg x0]
    by_cases y0 : y = 0
    · subst y0; rw [if_pos rfl, vz_zero, Int.add_zero]
    · rw [if_neg y0]
      have hm : 0 ≤ min ea eb + (K : Int) := by omega
      have e1 : vz K na x ea = vz K na (x * 2 ^ (ea - min ea eb).toNat) (min ea eb) := by
        rw [vz_shift hm, show min ea eb + ((ea - min ea eb).toNat : Int) = ea by omega]
      have e2 : vz K nb y eb = vz K nb (y * 2 ^ (eb - min ea eb).toNat) (min ea eb) := by
        rw [vz_shift hm, show min ea eb + ((eb - min ea eb).toNat : Int) = eb by omega]
      rw [e1, e2]
      generalize x * 2 ^ (ea - min ea eb).toNat = X at *
      generalize y * 2 ^ (eb - min ea eb).toNat = Y at *
      unfold vz
      rw [← Int.add_mul]
      by_cases hs : na = nb
      · subst hs
        rw [if_pos rfl]
        congr 1
        cases na <;> simp [sv]
        omega
      · rw [if_neg hs]
        by_cases hlt : X < Y
        · rw [if_pos hlt]
          congr 1
          cases na <;> cases nb <;> simp [sv] at hs ⊢ <;> omega
        · rw [if_neg hlt]
          congr 1
          cases na <;> cases nb <;> simp [sv] at hs ⊢ <;> omega
theorem vz_mul {K L : Nat} {na nb : Bool} {x y : Nat} {ea eb : Int} (h1 : 0 ≤ ea + K) (h2 : 0 ≤ eb + L) :
    vz (K + L) (!(na == nb)) (x * y) (ea + eb) = vz K na x ea * vz L nb y eb := by
  unfold vz
  rw [sv_mul, show (ea + eb + ((K + L : Nat) : Int)).toNat = (ea + K).toNat + (eb + L).toNat by omega, Nat.pow_add, Int.natCast_mul]
  grind
def Fits (lo hi : Int) (x : Nat) (e : Int) : Prop := x = 0 ∨ (lo ≤ e ∧ e ≤ hi ∧ x < 2 ^ (hi - e).toNat)
theorem Fits.cn {lo hi : Int} {s : Bool} {z : Nat} {e : Int} (h : Fits lo hi z e) : Fits lo hi (cn s z e).2.1 (cn s z e).2.2 := by
  rcases h with rfl | ⟨h1, h2, h3⟩
  · left; simp [YtkmiohkpfdamoaaGreatDoor.cn]
  · unfold YtkmiohkpfdamoaaGreatDoor.cn
    by_cases h0 : z = 0
    · subst h0; left; simp
    · rw [if_neg h0]
      right
      have hs := (tz_spec z z (Nat.le_refl _) h0).1
      have ho := (tz_spec z z (Nat.le_refl _) h0).2
      have hq : 1 ≤ z / 2 ^ tz z := Nat.pos_of_ne_zero fun e0 => by rw [e0] at ho; simp at ho
      have ht : tz z < (hi - e).toNat := by
        refine Nat.lt_of_not_le fun h => ?_
        have h4 := Nat.pow_le_pow_right (n := 2) (by omega) h
        have h5 := Nat.mul_le_mul_left (2 ^ tz z) hq
        omega
      refine ⟨by show lo ≤ e + (tz z : Int); omega, by show e + (tz z : Int) ≤ hi; omega, ?_⟩
      show z / 2 ^ tz z < 2 ^ (hi - (e + (tz z : Int))).toNat
      refine (Nat.div_lt_iff_lt_mul (Nat.two_pow_pos _)).2 ?_
      rw [← Nat.pow_add, show (hi - (e + (tz z : Int))).toNat + tz z = (hi - e).toNat by omega]
      exact h3
theorem Fits.mono {lo hi lo' hi' : Int} {x : Nat} {e : Int} (h : Fits lo hi x e) (h1 : lo' ≤ lo) (h2 : hi ≤ hi') : Fits lo' hi' x e := by
  rcases h with h | ⟨h3, h4, h5⟩
  · exact .inl h
  · exact .inr ⟨by omega, by omega, Nat.lt_of_lt_of_le h5 (Nat.pow_le_pow_right (by omega) (by omega))⟩
theorem Fits.at {lo hi : Int} {x : Nat} {e m : Int} (h : Fits lo hi x e) (hm : m ≤ e) : x * 2 ^ (e - m).toNat < 2 ^ (hi - m).toNat := by
  rcases h with rfl | ⟨h3, h4, h5⟩
  · rw [Nat.zero_mul]; exact Nat.two_pow_pos _
  · rw [show (hi - m).toNat = (hi - e).toNat + (e - m).toNat by omega, Nat.pow_add]
    exact Nat.mul_lt_mul_of_pos_right h5 (Nat.two_pow_pos _)
theorem Fits.sum {lo hi : Int} {na nb : Bool} {x y : Nat} {ea eb : Int} (h1 : Fits lo hi x ea) (h2 : Fits lo hi y eb) :
    Fits lo (hi + 1) (sumN na x ea nb y eb).2.1 (sumN na x ea nb y eb).2.2 := by
  unfold sumN
  by_cases x0 : x = 0
  · rw [if_pos x0]; exact h2.mono (by omega) (by omega)
  · rw [if_neg x0]
    by_cases y0 : y = 0
    · rw [if_pos y0]; exact h1.mono (by omega) (by omega)
    · rw [if_neg y0]
      have a1 := h1.at (m := min ea eb) (by omega)
      have a2 := h2.at (m := min ea eb) (by omega)
      obtain ⟨p1, p2, -⟩ := h1.resolve_left x0
      obtain ⟨q1, q2, -⟩ := h2.resolve_left y0
      have hp : 2 ^ (hi + 1 - min ea eb).toNat = 2 ^ (hi - min ea eb).toNat * 2 := by
        rw [show (hi + 1 - min ea eb).toNat = (hi - min ea eb).toNat + 1 by omega, Nat.pow_succ]
      generalize x * 2 ^ (ea - min ea eb).toNat = X at *
      generalize y * 2 ^ (eb - min ea eb).toNat = Y at *
      have hall : ∀ Z, Z ≤ X + Y → Fits lo (hi + 1) Z (min ea eb) := fun Z hZ => .inr ⟨by omega, by omega, by omega⟩
      split
      · exact hall _ (Nat.le_refl _)
      · split
        · exact hall _ (by show Y - X ≤ X + Y; omega)
        · exact hall _ (by show X - Y ≤ X + Y; omega)
theorem Fits.mul {lo hi lo' hi' : Int} {x y : Nat} {ea eb : Int} (h1 : Fits lo hi x ea) (h2 : Fits lo' hi' y eb) : Fits (lo + lo') (hi + hi') (x * y) (ea + eb) := by
  rcases h1 with rfl | ⟨a1, a2, a3⟩
  · left; simp
  · rcases h2 with rfl | ⟨b1, b2, b3⟩
    · left; simp
    · right
      refine ⟨by omega, by omega, ?_⟩
      rw [show (hi + hi' - (ea + eb)).toNat = (hi - ea).toNat + (hi' - eb).toNat by omega, Nat.pow_add]
      exact Nat.mul_lt_mul_of_lt_of_le a3 (Nat.le_of_lt b3) (Nat.two_pow_pos _)
theorem Fits.dlen {lo hi : Int} {x : Nat} {e : Int} (h : Fits lo hi x e) (hb : hi - lo ≤ 65536) : dlen x ≤ 2048 := by
  rcases h with rfl | ⟨h1, h2, h3⟩
  · rw [dlen_zero]; omega
  · refine (dlen_le _ _).2 (Nat.lt_of_lt_of_le h3 ?_)
    have hB : ∀ n, B ^ n = 2 ^ (32 * n) := fun n => by
      have : (B : Nat) = 2 ^ 32 := by decide
      rw [this, ← Nat.pow_mul]
    have hn : (hi - e).toNat ≤ 32 * 2048 := by omega
    generalize 2048 = n at *
    rw [hB]
    exact Nat.pow_le_pow_right (by omega) hn
theorem Fits.ok {lo hi : Int} {s : Bool} {z : Nat} {e : Int} (h : Fits lo hi z e) (hb : hi - lo ≤ 65536) (h1 : -65536 ≤ lo) (h2 : hi ≤ 65536) : okR s z e = true := by
  unfold okR
  by_cases h0 : z = 0
  · rw [if_pos h0]
  · rw [if_neg h0]
    have hc := h.cn (s := s)
    have hd := hc.dlen hb
    unfold YtkmiohkpfdamoaaGreatDoor.cn at hc hd
    rw [if_neg h0] at hc hd
    have ho := (tz_spec z z (Nat.le_refl _) h0).2
    simp only at hc hd
    generalize z / 2 ^ tz z = x at *
    have hx0 : x ≠ 0 := by omega
    obtain ⟨c1, c2, c3⟩ := hc.resolve_left hx0
    unfold okN
    rw [if_neg (fun e => hx0 (dlen_eq_zero.1 e))]
    have e0 : dg x 0 % 2 = 1 := by
      unfold dg
      rw [Nat.pow_zero, Nat.div_one]
      unfold B
      omega
    have e1 := dg_top hx0
    simp only [Bool.and_eq_true, decide_eq_true_eq, bne_iff_ne, ne_eq, beq_iff_eq]
    exact ⟨⟨⟨⟨hd, e1⟩, e0⟩, by omega⟩, by omega⟩
def PN (w : World) (A : Value) (t : Bool × Nat × Int) : Prop := ∃ ao cap, A = .agg #[.bool t.1, .slice ao (dlen t.2.1) cap, .int .i64 t.2.2] ∧ Is w (.slice ao (dlen t.2.1) cap) t.2.1
def Ok (t : Bool × Nat × Int) : Prop := okN t.1 (dlen t.2.1) t.2.1 t.2.2 = true
theorem PN.later {w w' : World} {A : Value} {t : Bool × Nat × Int} (h : PN w A t) (hb : Below w.heap.size w w') : PN w' A t := by
  obtain ⟨ao, cap, h1, h2⟩ := h
  exact ⟨ao, cap, h1, h2.later hb⟩
theorem PN.shape {w : World} {A : Value} {t : Bool × Nat × Int} (h : PN w A t) : ∃ s ao n cap e, A = .agg #[.bool s, .slice ao n cap, .int .i64 e] := by
  obtain ⟨ao, cap, h1, -⟩ := h
  exact ⟨_, _, _, _, _, h1⟩
theorem Nrm.pn {w : World} {base : Nat} {A : Value} {s : Bool} {z : Nat} {e : Int} (h : Nrm w base A s z e) : PN w A (cn s z e) := by
  unfold cn
  rcases h with ⟨rfl, rfl⟩ | ⟨h0, v, rfl, ho⟩
  · rw [if_pos rfl]
    exact ⟨none, 0, by rw [dlen_zero]; rfl, by rw [dlen_zero]; exact is_nil w⟩
  · rw [if_neg h0]
    obtain ⟨ao, cap, rfl, h1, h2, h3⟩ := ho.is
    exact ⟨ao, cap, rfl, ao, cap, rfl, h1, h2, h3⟩
theorem ok_cn {s : Bool} {z : Nat} {e : Int} (h : okR s z e = true) : Ok (cn s z e) := by
  unfold Ok cn
  unfold okR at h
  by_cases h0 : z = 0
  · rw [if_pos h0, dlen_zero]; rfl
  · rw [if_neg h0] at h ⊢; exact h
theorem Ok.facts {t : Bool × Nat × Int} (h : Ok t) : dlen t.2.1 ≤ 2048 ∧ -65536 ≤ t.2.2 ∧ t.2.2 ≤ 65536 ∧ (t.2.1 = 0 → t = (false, 0, 0)) ∧ (t.2.1 ≠ 0 → t.2.1 % 2 = 1) := by
  obtain ⟨s, x, e⟩ := t
  unfold Ok okN at h
  simp only at h ⊢
  by_cases h0 : x = 0
  · subst h0
    rw [dlen_zero, if_pos rfl] at h
    simp at h
    obtain ⟨rfl, rfl⟩ := h
    rw [dlen_zero]
    exact ⟨by omega, by omega, by omega, fun _ => rfl, fun h => absurd rfl h⟩
  · rw [if_neg (fun e => h0 (dlen_eq_zero.1 e))] at h
    simp only [Bool.and_eq_true, decide_eq_true_eq, bne_iff_ne, ne_eq, beq_iff_eq] at h
    obtain ⟨⟨⟨⟨h1, h2⟩, h3⟩, h4⟩, h5⟩ := h
    refine ⟨h1, h4, h5, fun h => absurd h h0, fun _ => ?_⟩
    unfold dg at h3
    rw [Nat.pow_zero, Nat.div_one] at h3
    unfold B at h3
    omega
theorem cn_ok {t : Bool × Nat × Int} (h : Ok t) : cn t.1 t.2.1 t.2.2 = t := by
  obtain ⟨-, -, -, h1, h2⟩ := h.facts
  unfold cn
  by_cases h0 : t.2.1 = 0
  · rw [if_pos h0]; exact (h1 h0).symm
  · rw [if_neg h0, tz_odd (h2 h0)]
    simp
theorem dn_pn {w : World} {base : Nat} {v : Value} {s : Bool} {x : Nat} {e : Int} (h : Dn w base v (dlen x) x) : PN w (.agg #[.bool s, v, .int .i64 e]) (s, x, e) := by
  rcases h with ⟨rfl, h0⟩ | ⟨g, cap, c, rfl, h1, h2, h3, h4, h5⟩
  · obtain rfl := dlen_eq_zero.1 h0
    exact ⟨none, 0, by rw [dlen_zero], by rw [dlen_zero]; exact is_nil w⟩
  · exact ⟨_, cap, rfl, _, cap, rfl, h2.1, h2.2, g, 0, fun _ => rfl, fun i hi => by rw [Nat.zero_add]; simp [World.cell?, h3, h5 i hi]⟩
end Go.Proofs.YtkmiohkpfdamoaaGreatDoor
