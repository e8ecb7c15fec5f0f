/- Own work: contracts of the program's functions, part A9. -/
import Derived.Test.YtceoeiojoffnnaaGreatDoorA8
import Derived.Test.YtceoeiojoffnnaaGreatDoorA7

/- Of. -/
namespace Go.Proofs.YtceoeiojoffnnaaGreatDoor
set_option linter.unusedVariables false
set_option linter.unusedSimpArgs false
open Go.RowKit Go.Fl64

set_option maxRecDepth 200000 in
theorem c9_1 (a m : Nat) (e : Int) (s : Bool) (w : World) (hT : Tab32 w) (hm : m < 18446744073709551616) (he1 : -4000000 ≤ e) (he2 : e ≤ 4000000) (hnn : (FloatKind.f64.format.order a a != some Ordering.eq) = false)
    (k55 : ∀ W, Below w.heap.size w W → Calls Tryz.prog 30 #[.float .f64 a] W fun r w' => r = .returned (.tuple #[.int .u64 m, .int .i64 e, .bool s, .bool true]) ∧ ∃ n, w' = W.drewN n) :
    Calls Tryz.prog 9 #[.float .f64 a] w fun r w' => ∃ A, r = .returned (.tuple #[A, .int .i64 0]) ∧ Nrm w' w.heap.size A s m e ∧ Below w.heap.size w w' := by
  obtain ⟨W, hW⟩ : ∃ W, W = w.alloc (.cells #[.bool false, .slice none 0 0, .int .i64 0] 25) := ⟨_, rfl⟩
  have hBW : Below w.heap.size w W := by rw [hW]; exact (Below.refl _ _).alloc (Nat.le_refl _) _
  have hC : W.heap[w.heap.size]? = some (.cells #[.bool false, .slice none 0 0, .int .i64 0] 25 (0, 0)) := by rw [hW]; exact heap_alloc_new _ _
  have hsz : W.heap.size = w.heap.size + 1 := by rw [hW]; simp
  have HH : Hid (W.heap[w.heap.size]? = some (.cells #[.bool false, .slice none 0 0, .int .i64 0] 25 (0, 0)) ∧ W.heap.size = w.heap.size + 1 ∧ Below w.heap.size w W ∧ Tab32 W ∧ m < 18446744073709551616) := ⟨hC, hsz, hBW, hT.later hBW, hm⟩
  have k1 := k55 W hBW
  have HW : Hid (W = w.alloc (.cells #[.bool false, .slice none 0 0, .int .i64 0] 25)) := hW
  clear k55 hC hsz hBW hT hm
  go_enter Tryz.func9, Tryz.ntmps9
  go_wp2_with fail
  rw [← hW]
  clear hW
  refine k1.mono ?_
  rintro r w1' ⟨rfl, dd, rfl⟩
  obtain ⟨w1, hw1⟩ : ∃ w1, w1 = W.drewN dd := ⟨_, rfl⟩
  rw [← hw1]
  have HH0 := HH.out
  clear HH
  have HH : Hid (w1.heap[w.heap.size]? = some (.cells #[.bool false, .slice none 0 0, .int .i64 0] 25 (0, 0)) ∧ w1.heap.size = w.heap.size + 1 ∧ Below w.heap.size w w1 ∧ Tab32 w1 ∧ m < 18446744073709551616) := by
    rw [hw1]
    exact ⟨HH0.1, HH0.2.1, HH0.2.2.1.trans ⟨rfl, rfl, rfl, Nat.le_refl _, fun _ _ => rfl⟩, HH0.2.2.2.1, HH0.2.2.2.2⟩
  have k57 := c57 m w1 HH0.2.2.2.2
  clear k1 hw1 HH0 HW
  go_wp2_with fail
  refine k57.mono ?_
  rintro r w2 ⟨v, rfl, hO, hB2⟩
  clear k57
  have hl : dlen m ≤ 2 := (dlen_le 2 m).2 (by have := HH.out.2.2.2.2; unfold B; omega)
  have k56 := c56 (neg := s) (e := e) hO.is (by omega) (HH.out.2.2.2.1.later hB2) (by omega)
  have HB2 : Hid (Below w1.heap.size w1 w2) := hB2
  clear hO hB2 hl
  go_wp2_with fail
  refine k56.mono ?_
  rintro r w3 ⟨A, rfl, hN, hB3⟩
  clear k56
  obtain ⟨s', ao, n', cap, ex, rfl⟩ := hN.shape
  have HB3 : Hid (Below w1.heap.size w1 w3) := HB2.out.trans (hB3.mono HB2.out.size)
  have HC3 : Hid (w3.heap[w.heap.size]? = some (.cells #[.bool false, .slice none 0 0, .int .i64 0] 25 (0, 0))) := box_later HH.out.1 HB3.out (by have := HH.out.2.1; omega)
  obtain ⟨⟨a1, a2, a3⟩, a4, a5, a6⟩ := box_cells HC3.out
  have HN : Hid (Nrm w3 w1.heap.size (.agg #[.bool s', .slice ao n' cap, .int .i64 ex]) s m e) := hN.mono HB2.out.size
  clear hN hB3
  go_wp2
  refine bodyPost_ret (results_cell_tmp_row rfl _ _ w.heap.size 25 #[.bool s', .slice ao n' cap, .int .i64 ex] (0, 0) _ rfl (store3 _ _ _ HC3.out) Tryz.underlying25 rfl Tryz.info25) rfl ?_
  have hs := HH.out.2.1
  exact ⟨_, rfl, (HN.out.store (by omega) _ _ _).mono (by omega), below_store3 (HH.out.2.2.1.trans (HB3.out.mono (by omega))) (Nat.le_refl _) _ _ _⟩

set_option maxRecDepth 200000 in
theorem c9_2 (a m : Nat) (e : Int) (s fin : Bool) (w : World) (hnn : (FloatKind.f64.format.order a a != some Ordering.eq) = true)
    (k55 : ∀ W, Below w.heap.size w W → Calls Tryz.prog 30 #[.float .f64 a] W fun r w' => r = .returned (.tuple #[.int .u64 m, .int .i64 e, .bool s, .bool fin]) ∧ ∃ n, w' = W.drewN n) :
    Calls Tryz.prog 9 #[.float .f64 a] w fun r w' => r = .returned (.tuple #[.agg #[.bool false, .slice none 0 0, .int .i64 0], .int .i64 4]) ∧ Below w.heap.size w w' := by
  have hBW : Below w.heap.size w (w.alloc (.cells #[.bool false, .slice none 0 0, .int .i64 0] 25)) := (Below.refl _ _).alloc (Nat.le_refl _) _
  have k1 := k55 _ hBW
  have HB : Hid (Below w.heap.size w (w.alloc (.cells #[.bool false, .slice none 0 0, .int .i64 0] 25))) := hBW
  clear k55 hBW
  go_enter Tryz.func9, Tryz.ntmps9
  go_wp2_with fail
  refine k1.mono ?_
  rintro r w1' ⟨rfl, dd, rfl⟩
  have HC : Hid (((w.alloc (.cells #[.bool false, .slice none 0 0, .int .i64 0] 25)).drewN dd).heap[w.heap.size]? = some (.cells #[.bool false, .slice none 0 0, .int .i64 0] 25 (0, 0)) ∧ Below w.heap.size w ((w.alloc (.cells #[.bool false, .slice none 0 0, .int .i64 0] 25)).drewN dd)) := ⟨heap_alloc_new w _, HB.out.trans ⟨rfl, rfl, rfl, Nat.le_refl _, fun _ _ => rfl⟩⟩
  clear k1 HB
  generalize (w.alloc (.cells #[.bool false, .slice none 0 0, .int .i64 0] 25)).drewN dd = w1 at *
  obtain ⟨⟨a1, a2, a3⟩, a4, a5, a6⟩ := box_cells HC.out.1
  go_wp2
  refine bodyPost_ret (results_cell_tmp_row rfl _ _ w.heap.size 25 #[.bool false, .slice none 0 0, .int .i64 0] (0, 0) _ rfl (store3 _ _ _ HC.out.1) Tryz.underlying25 rfl Tryz.info25) rfl ?_
  exact ⟨rfl, below_store3 HC.out.2 (Nat.le_refl _) _ _ _⟩
set_option maxRecDepth 200000 in
theorem c9_3 (a m : Nat) (e : Int) (s : Bool) (w : World) (hnn : (FloatKind.f64.format.order a a != some Ordering.eq) = false)
    (k55 : ∀ W, Below w.heap.size w W → Calls Tryz.prog 30 #[.float .f64 a] W fun r w' => r = .returned (.tuple #[.int .u64 m, .int .i64 e, .bool s, .bool false]) ∧ ∃ n, w' = W.drewN n) :
    Calls Tryz.prog 9 #[.float .f64 a] w fun r w' => r = .returned (.tuple #[.agg #[.bool false, .slice none 0 0, .int .i64 0], .int .i64 5]) ∧ Below w.heap.size w w' := by
  have hBW : Below w.heap.size w (w.alloc (.cells #[.bool false, .slice none 0 0, .int .i64 0] 25)) := (Below.refl _ _).alloc (Nat.le_refl _) _
  have k1 := k55 _ hBW
  have HB : Hid (Below w.heap.size w (w.alloc (.cells #[.bool false, .slice none 0 0, .int .i64 0] 25))) := hBW
  clear k55 hBW
  go_enter Tryz.func9, Tryz.ntmps9
  go_wp2_with fail
  refine k1.mono ?_
  rintro r w1' ⟨rfl, dd, rfl⟩
  have HC : Hid (((w.alloc (.cells #[.bool false, .slice none 0 0, .int .i64 0] 25)).drewN dd).heap[w.heap.size]? = some (.cells #[.bool false, .slice none 0 0, .int .i64 0] 25 (0, 0)) ∧ Below w.heap.size w ((w.alloc (.cells #[.bool false, .slice none 0 0, .int .i64 0] 25)).drewN dd)) := ⟨heap_alloc_new w _, HB.out.trans ⟨rfl, rfl, rfl, Nat.le_refl _, fun _ _ => rfl⟩⟩
  clear k1 HB
  generalize (w.alloc (.cells #[.bool false, .slice none 0 0, .int .i64 0] 25)).drewN dd = w1 at *
  obtain ⟨⟨a1, a2, a3⟩, a4, a5, a6⟩ := box_cells HC.out.1
  go_wp2
  refine bodyPost_ret (results_cell_tmp_row rfl _ _ w.heap.size 25 #[.bool false, .slice none 0 0, .int .i64 0] (0, 0) _ rfl (store3 _ _ _ HC.out.1) Tryz.underlying25 rfl Tryz.info25) rfl ?_
  exact ⟨rfl, below_store3 HC.out.2 (Nat.le_refl _) _ _ _⟩

theorem Tab.later {w w' : World} (h : Ie.Tab w) (hb : Below w.heap.size w w') : Ie.Tab w' := fun i hi => (hb.cell (World.block_lt_of_cell? _ _ (h i hi))).trans (h i hi)

theorem sM_lt (a : Nat) (ha : a < 18446744073709551616) : ∃ m : Nat, Ie.sM a = (m : Int) ∧ m < 18446744073709551616 := by
  unfold Ie.sM
  split
  · exact ⟨0, rfl, by omega⟩
  · split
    · exact ⟨0, rfl, by omega⟩
    · rename_i h1 h2
      have hm : Ie.mant a < 18446744073709551616 := by
        unfold Ie.mant
        split <;> omega
      refine ⟨Ie.mant a / 2 ^ Lib.ctz 64 (Ie.mant a), by simp, Nat.lt_of_le_of_lt (Nat.div_le_self ..) hm⟩
end Go.Proofs.YtceoeiojoffnnaaGreatDoor

/- toFloat. -/
namespace Go.Proofs.YtceoeiojoffnnaaGreatDoor
set_option linter.unusedVariables false
set_option linter.unusedSimpArgs false
open Go.RowKit Go.Fl64

theorem tf0 {x q d : Nat} (h : x % B ^ (0 + 1) = q + B ^ 0 * d ∧ q < B ^ 0 ∧ d < B) : bits .or .u64 (q : Int) (IntKind.u64.wrap (IntKind.u64.wrap (d : Int))) = (x % B ^ 1 : Nat) := by
  obtain ⟨h1, h2, h3⟩ := h
  rw [Nat.pow_zero] at h1 h2
  have hq : q = 0 := by omega
  subst hq
  rw [wrap_d h3, wrap_d h3, u64_or_nat 0 d (by omega) (by unfold B at h3; omega), Nat.zero_or, show (1 : Nat) = 0 + 1 from rfl, h1]
  simp
theorem tf1 {x q d : Nat} (h : x % B ^ (1 + 1) = q + B ^ 1 * d ∧ q < B ^ 1 ∧ d < B) : bits .or .u64 (q : Int) (IntKind.u64.wrap (IntKind.u64.wrap (d : Int) * 4294967296)) = (x % B ^ 2 : Nat) := by
  obtain ⟨h1, h2, h3⟩ := h
  rw [Nat.pow_one] at h1 h2
  have := two_digits h2 h3
  rw [wrap_d h2] at this
  rw [this, show (2 : Nat) = 1 + 1 from rfl, h1, Nat.mul_comm]

set_option maxRecDepth 200000 in
theorem c110_A (neg exact : Bool) (v : Value) (x bx n tzx : Nat) (e mode : Int) (w : World) (h : Is w v x) (hx : dlen x ≤ 2) (hbx : Hid (bl x = bx)) (hb : (bx : Int) ≤ 64) (hn : Hid (dlen x = n)) (hn2 : n ≤ 2) (he1 : -4000000 ≤ e) (he2 : e ≤ 4000000) :
    Calls Tryz.prog 79 #[.bool neg, v, .int .i64 e, .bool exact, .int .i64 mode] w fun r w' => r = .returned (.float .f64 (Ie.mk neg (if exact then x else x ||| 1) e mode 9221120237041090561)) ∧ Below w.heap.size w w' := by
  have k74 := c74 h (by omega)
  rw [hbx.out] at k74
  have k120 := c120 h 0 (by omega) (by omega)
  rw [Nat.pow_zero, Nat.div_one] at k120
  have HX : Hid (dlen x ≤ 2) := hx
  clear h hx
  go_enter Tryz.func79, Tryz.ntmps79
  go_wp2_with fail
  refine k74.mono ?_
  rintro r w1 ⟨rfl, rfl⟩
  clear k74
  go_wp2_with fail
  refine k120.mono ?_
  rintro r w2 ⟨v2, rfl, hO, hB⟩
  clear k120
  obtain ⟨ao, cap, rfl, -, -, b, o, h3, h4⟩ := hO.is
  rw [hn.out] at h3 h4 ⊢
  have HB : Hid (Below w1.heap.size w1 w2) := hB
  clear hO hB
  go_wp2
  go_loop [12, 23] (fun c s => ∃ i : Nat, i ≤ n ∧ c = .int .u64 (x % B ^ i : Nat) ∧ s = .int .i64 i) (fun _ s => n - (intOf s).toNat)
  case atStart => exact ⟨0, Nat.zero_le _, by simp [Nat.mod_one], rfl⟩
  case round =>
    obtain ⟨i, hi, rfl, rfl⟩ := hrel
    by_cases hin : i < n
    · obtain rfl := h3 (by omega)
      have g := h4 i hin
      have hii : (i : Int) < (n : Int) := by omega
      have HS : Hid (x % B ^ (i + 1) = x % B ^ i + B ^ i * dg x i ∧ x % B ^ i < B ^ i ∧ dg x i < B) := ⟨mod_succ x i, Nat.mod_lt _ (Bpow_pos i), dg_lt _ _⟩
      generalize hq : x % B ^ i = q at *
      generalize hd : dg x i = d at *
      clear h4 hq hd
      rcases (show i = 0 ∨ i = 1 by omega) with rfl | rfl
      · rw [Nat.add_zero] at g
        have hl0 : (0 : Int) < (n : Int) := by omega
        go_wp2
        exact ⟨⟨1, by omega, by rw [tf0 HS.out], rfl⟩, by simp [intOf]; omega⟩
      · have hl1 : (1 : Int) < (n : Int) := by omega
        go_wp2
        exact ⟨⟨2, by omega, by rw [tf1 HS.out], rfl⟩, by simp [intOf]; omega⟩
    · obtain rfl : i = n := by omega
      have hfull : x % B ^ i = x := Nat.mod_eq_of_lt ((dlen_le i x).1 (by rw [hn.out]; omega))
      have hxl : x < 18446744073709551616 := by
        have := (dlen_le 2 x).1 HX.out
        unfold B at this
        omega
      rw [hfull]
      have k154 := fun w => Ie.c24 neg x e mode hxl w
      have k154b := fun w => Ie.c24 neg (x ||| 1) e mode (by have := Nat.or_lt_two_pow (n := 64) hxl (show 1 < 2 ^ 64 by omega); exact this) w
      have hor : bits .or .u64 (x : Int) 1 = ((x ||| 1 : Nat) : Int) := u64_or_nat x 1 hxl (by omega)
      have HOR : Hid (bits .or .u64 (x : Int) 1 = ((x ||| 1 : Nat) : Int)) := hor
      clear h3 h4 hxl hfull hor
      cases exact
      · go_wp2_with fail
        rw [HOR.out]
        refine (k154b _).mono ?_
        rintro r w5 ⟨rfl, rfl⟩
        go_wp2
        go_ret
        exact ⟨by simp, HB.out⟩
      · go_wp2_with fail
        refine (k154 _).mono ?_
        rintro r w5 ⟨rfl, rfl⟩
        go_wp2
        go_ret
        exact ⟨by simp, HB.out⟩

set_option maxRecDepth 200000 in
theorem c110_B (neg exact : Bool) (v : Value) (x z drop t n : Nat) (e mode : Int) (w : World) (hT : Tab32 w) (h : Is w v x) (hx : dlen x ≤ 1000000) (hx0 : x ≠ 0) (hbx : Hid (bl x = drop + 64)) (hd0 : 0 < drop) (hd1 : drop ≤ 32000000) (hz : Hid (x / 2 ^ drop = z)) (hn : Hid (dlen z = n)) (hn2 : n ≤ 2) (ht : Hid (tz x = t)) (wd : Nat) (hwd : Hid ((if exact && !(decide (t < drop)) then z else z ||| 1) = wd)) (he1 : -4000000 ≤ e) (he2 : e ≤ 4000000) :
    Calls Tryz.prog 79 #[.bool neg, v, .int .i64 e, .bool exact, .int .i64 mode] w fun r w' => r = .returned (.float .f64 (Ie.mk neg wd (e + drop) mode 9221120237041090561)) ∧ Below w.heap.size w w' := by
  have k74 := c74 h (by omega)
  rw [hbx.out] at k74
  have k120 := c120 h drop (by omega) (by omega)
  rw [hz.out] at k120
  have HI : Hid (Is w v x ∧ Tab32 w ∧ x ≠ 0 ∧ dlen x ≤ 1000000) := ⟨h, hT, hx0, hx⟩
  have hmx : (0 : Int) < (drop : Int) := by omega
  rw [show ((drop + 64 : Nat) : Int) = (drop : Int) + 64 by omega] at k74
  clear h hx hT hx0
  go_enter Tryz.func79, Tryz.ntmps79
  go_wp2_with fail
  refine k74.mono ?_
  rintro r w1 ⟨rfl, rfl⟩
  clear k74
  go_wp2_with fail
  refine k120.mono ?_
  rintro r w2 ⟨v2, rfl, hO, hB⟩
  clear k120
  obtain ⟨ao, cap, rfl, -, -, b, o, h3, h4⟩ := hO.is
  rw [hn.out] at h3 h4 ⊢
  have k119 := c119 (HI.out.1.later hB) (by have := HI.out.2.2.2; omega) HI.out.2.2.1 (HI.out.2.1.later hB)
  rw [ht.out] at k119
  have HB : Hid (Below w1.heap.size w1 w2) := hB
  clear hO hB
  go_wp2
  go_loop [12, 23] (fun c s => ∃ i : Nat, i ≤ n ∧ c = .int .u64 (z % B ^ i : Nat) ∧ s = .int .i64 i) (fun _ s => n - (intOf s).toNat)
  case atStart => exact ⟨0, Nat.zero_le _, by simp [Nat.mod_one], rfl⟩
  case round =>
    obtain ⟨i, hi, rfl, rfl⟩ := hrel
    by_cases hin : i < n
    · obtain rfl := h3 (by omega)
      have g := h4 i hin
      have hii : (i : Int) < (n : Int) := by omega
      have HS : Hid (z % B ^ (i + 1) = z % B ^ i + B ^ i * dg z i ∧ z % B ^ i < B ^ i ∧ dg z i < B) := ⟨mod_succ z i, Nat.mod_lt _ (Bpow_pos i), dg_lt _ _⟩
      generalize hq : z % B ^ i = q at *
      generalize hd : dg z i = d at *
      clear h4 hq hd k119
      rcases (show i = 0 ∨ i = 1 by omega) with rfl | rfl
      · rw [Nat.add_zero] at g
        have hl0 : (0 : Int) < (n : Int) := by omega
        go_wp2
        exact ⟨⟨1, by omega, by rw [tf0 HS.out], rfl⟩, by simp [intOf]; omega⟩
      · have hl1 : (1 : Int) < (n : Int) := by omega
        go_wp2
        exact ⟨⟨2, by omega, by rw [tf1 HS.out], rfl⟩, by simp [intOf]; omega⟩
    · obtain rfl : i = n := by omega
      have hfull : z % B ^ i = z := Nat.mod_eq_of_lt ((dlen_le i z).1 (by rw [hn.out]; omega))
      have hzl : z < 18446744073709551616 := by
        have := (dlen_le 2 z).1 (by rw [hn.out]; exact hn2)
        unfold B at this
        omega
      rw [hfull]
      have k154 := fun w => Ie.c24 neg z (e + drop) mode hzl w
      have k154b := fun w => Ie.c24 neg (z ||| 1) (e + drop) mode (by have := Nat.or_lt_two_pow (n := 64) hzl (show 1 < 2 ^ 64 by omega); exact this) w
      have HOR : Hid (bits .or .u64 (z : Int) 1 = ((z ||| 1 : Nat) : Int)) := u64_or_nat z 1 hzl (by omega)
      clear h3 h4 hzl hfull
      cases exact
      · clear k119
        go_wp2_with fail
        rw [HOR.out]
        refine (k154b _).mono ?_
        rintro r w5 ⟨rfl, rfl⟩
        go_wp2
        go_ret
        have hw : wd = z ||| 1 := by rw [← hwd.out]; simp
        rw [hw]
        exact ⟨rfl, HB.out⟩
      · go_wp2_with fail
        refine k119.mono ?_
        rintro r w4 ⟨rfl, rfl⟩
        clear k119
        by_cases htd : t < drop
        · have htd' : (t : Int) < (drop : Int) := by omega
          go_wp2_with fail
          rw [HOR.out]
          refine (k154b _).mono ?_
          rintro r w5 ⟨rfl, rfl⟩
          go_wp2
          go_ret
          have hw : wd = z ||| 1 := by rw [← hwd.out]; simp [htd]
          rw [hw]
          exact ⟨rfl, HB.out⟩
        · have htd' : ¬ (t : Int) < (drop : Int) := by omega
          go_wp2_with fail
          refine (k154 _).mono ?_
          rintro r w5 ⟨rfl, rfl⟩
          go_wp2
          go_ret
          have hw : wd = z := by rw [← hwd.out]; simp [htd]
          rw [hw]
          exact ⟨rfl, HB.out⟩
end Go.Proofs.YtceoeiojoffnnaaGreatDoor

/- sign, top, rounded, math.Inf. -/
namespace Go.Proofs.YtceoeiojoffnnaaGreatDoor
set_option linter.unusedVariables false
set_option linter.unusedSimpArgs false
open Go.RowKit Go.Fl64

def sgI (neg : Bool) (n : Nat) : Int := if n = 0 then 0 else if neg then -1 else 1

theorem c72 (neg : Bool) (ao : Option Addr) (n cap : Nat) (e : Int) (w : World) (hn : n ≤ 35184372088832) :
    Calls Tryz.prog 47 #[.agg #[.bool neg, .slice ao n cap, .int .i64 e]] w fun r w' => r = .returned (.int .i64 (sgI neg n)) ∧ w' = w.alloc (.cells #[.bool neg, .slice ao n cap, .int .i64 e] 25) := by
  unfold sgI
  by_cases h0 : n = 0
  · subst h0
    go_enter Tryz.func47, Tryz.ntmps47
    go_wp2
    go_ret
    exact ⟨rfl, rfl⟩
  · have hn0 : ((n : Int) == 0) = false := by simp; omega
    rw [if_neg h0]
    cases neg
    · go_enter Tryz.func47, Tryz.ntmps47
      go_wp2
      go_ret
      exact ⟨rfl, rfl⟩
    · go_enter Tryz.func47, Tryz.ntmps47
      go_wp2
      go_ret
      exact ⟨rfl, rfl⟩

set_option maxRecDepth 200000 in
theorem c75_1 (neg : Bool) (ao : Option Addr) (n cap b : Nat) (e : Int) (w : World) (hb : b ≤ 64000000) (he1 : -4000000 ≤ e) (he2 : e ≤ 4000000)
    (k74 : ∀ W, Below w.heap.size w W → Calls Tryz.prog 101 #[.slice ao n cap] W fun r w' => r = .returned (.int .i64 b) ∧ w' = W) :
    Calls Tryz.prog 81 #[.agg #[.bool neg, .slice ao n cap, .int .i64 e]] w fun r w' => r = .returned (.int .i64 (b + e)) ∧ Below w.heap.size w w' := by
  obtain ⟨W, hW⟩ : ∃ W, W = w.alloc (.cells #[.bool neg, .slice ao n cap, .int .i64 e] 25) := ⟨_, rfl⟩
  have hBW : Below w.heap.size w W := by rw [hW]; exact (Below.refl _ _).alloc (Nat.le_refl _) _
  have hbA : W.heap[w.heap.size]? = some (.cells #[.bool neg, .slice ao n cap, .int .i64 e] 25 (0, 0)) := by rw [hW]; exact heap_alloc_new _ _
  obtain ⟨⟨a0, a1, a2⟩, -⟩ := box_cells hbA
  have k := fun d => k74 (W.drewN d) (hBW.trans ⟨rfl, rfl, rfl, Nat.le_refl _, fun _ _ => rfl⟩)
  have HB : Hid (Below w.heap.size w W) := hBW
  clear k74 hBW hbA
  go_enter Tryz.func81, Tryz.ntmps81
  go_wp2
  rw [← hW]
  clear hW
  go_quiet ((go_at_call 101; exact Calls.quiet_of_same (k _)))
  go_wp2
  go_ret
  refine ⟨congrArg Ending.returned (congrArg (Value.int IntKind.i64) ?_), HB.out.trans ⟨rfl, rfl, rfl, Nat.le_refl _, fun _ _ => rfl⟩⟩
  first | rfl | omega | (rw [IntKind.wrap_i64]; omega) | (unfold wrap64; omega)

set_option maxRecDepth 200000 in
theorem c106_1 (neg : Bool) (ao : Option Addr) (n cap F : Nat) (e mode : Int) (w : World)
    (k110 : ∀ W, Below w.heap.size w W → Calls Tryz.prog 79 #[.bool neg, .slice ao n cap, .int .i64 e, .bool true, .int .i64 mode] W fun r w' => r = .returned (.float .f64 F) ∧ Below W.heap.size W w') :
    Calls Tryz.prog 49 #[.agg #[.bool neg, .slice ao n cap, .int .i64 e], .int .i64 mode] w fun r w' => r = .returned (.float .f64 F) ∧ Below w.heap.size w w' := by
  obtain ⟨W, hW⟩ : ∃ W, W = w.alloc (.cells #[.bool neg, .slice ao n cap, .int .i64 e] 25) := ⟨_, rfl⟩
  have hBW : Below w.heap.size w W := by rw [hW]; exact (Below.refl _ _).alloc (Nat.le_refl _) _
  have k := k110 W hBW
  have HB : Hid (Below w.heap.size w W) := hBW
  clear k110 hBW
  go_enter Tryz.func49, Tryz.ntmps49
  go_wp2_with fail
  rw [← hW]
  clear hW
  refine k.mono ?_
  rintro r w1 ⟨rfl, hB1⟩
  have HF : Hid (Below w.heap.size w w1) := HB.out.trans (hB1.mono HB.out.size)
  clear k hB1
  go_wp2
  go_ret
  exact ⟨rfl, HF.out⟩

theorem c61 (w : World) : Calls Tryz.prog 36 #[.int .i64 1] w fun r w' => r = .returned (.float .f64 9218868437227405312) ∧ w' = w := by
  have hb := Ie.run_frombits
  go_enter Tryz.func36, Tryz.ntmps36
  go_wp2
  go_ret
  exact ⟨rfl, rfl⟩
theorem c54 (a b : Nat) (w : World) : Calls Tryz.prog 25 #[.float .f64 a, .float .f64 b] w fun r w' => r = .returned (.bool ((a : Int) == (b : Int))) ∧ w' = w := by
  have hb := Ie.run_bits
  go_enter Tryz.func25, Tryz.ntmps25
  go_wp2
  go_ret
  exact ⟨rfl, rfl⟩
end Go.Proofs.YtceoeiojoffnnaaGreatDoor

/- compare where the signs differ; Cmp. -/
namespace Go.Proofs.YtceoeiojoffnnaaGreatDoor
set_option linter.unusedVariables false
set_option linter.unusedSimpArgs false
open Go.RowKit Go.Fl64

set_option maxRecDepth 200000 in
theorem c77_1 (na nb : Bool) (ua va : Option Addr) (un uc vn vc : Nat) (ea eb s t : Int) (w : World) (hs : Hid (sgI na un = s)) (ht : Hid (sgI nb vn = t)) (hst : (s != t) = true) (hun : un ≤ 35184372088832) (hvn : vn ≤ 35184372088832) :
    Calls Tryz.prog 51 #[.agg #[.bool na, .slice ua un uc, .int .i64 ea], .agg #[.bool nb, .slice va vn vc, .int .i64 eb]] w fun r w' => r = .returned (.int .i64 (cmpI s t)) ∧ Below w.heap.size w w' := by
  obtain ⟨W, hW⟩ : ∃ W, W = (w.alloc (.cells #[.bool na, .slice ua un uc, .int .i64 ea] 25)).alloc (.cells #[.bool nb, .slice va vn vc, .int .i64 eb] 25) := ⟨_, rfl⟩
  have hBW : Below w.heap.size w W := by rw [hW]; exact ((Below.refl _ _).alloc (Nat.le_refl _) _).alloc (by simp) _
  have hbA : W.heap[w.heap.size]? = some (.cells #[.bool na, .slice ua un uc, .int .i64 ea] 25 (0, 0)) := by
    rw [hW, Below.heap_alloc _ _ _ (by simp)]; exact heap_alloc_new _ _
  have hbB : W.heap[w.heap.size + 1]? = some (.cells #[.bool nb, .slice va vn vc, .int .i64 eb] 25 (0, 0)) := by
    have := heap_alloc_new (w.alloc (.cells #[.bool na, .slice ua un uc, .int .i64 ea] 25)) (.cells #[.bool nb, .slice va vn vc, .int .i64 eb] 25)
    rw [hW]; simpa using this
  have hsz : W.heap.size = w.heap.size + 1 + 1 := by rw [hW]; simp
  have HC : Hid (∀ w', Below W.heap.size W w' → (w'.cell? ⟨w.heap.size + 1, 0, none⟩ = some (.bool nb) ∧ w'.cell? ⟨w.heap.size + 1, 1, none⟩ = some (.slice va vn vc) ∧ w'.cell? ⟨w.heap.size + 1, 2, none⟩ = some (.int .i64 eb))) := fun w' hb => (box_cells (box_later hbB hb (by omega))).1
  have ka : ∀ W', Calls Tryz.prog 47 #[.agg #[.bool na, .slice ua un uc, .int .i64 ea]] W' fun r w' => r = .returned (.int .i64 s) ∧ Below W'.heap.size W' w' := fun W' =>
    (c72 na ua un uc ea W' hun).mono fun r w' ⟨e1, e2⟩ => ⟨by rw [e1, hs.out], by rw [e2]; exact (Below.refl _ _).alloc (Nat.le_refl _) _⟩
  have kb : ∀ W', Calls Tryz.prog 47 #[.agg #[.bool nb, .slice va vn vc, .int .i64 eb]] W' fun r w' => r = .returned (.int .i64 t) ∧ Below W'.heap.size W' w' := fun W' =>
    (c72 nb va vn vc eb W' hvn).mono fun r w' ⟨e1, e2⟩ => ⟨by rw [e1, ht.out], by rw [e2]; exact (Below.refl _ _).alloc (Nat.le_refl _) _⟩
  have k128 := c128 s t
  have HB : Hid (Below w.heap.size w W) := hBW
  generalize cmpI s t = cv at *
  clear hBW hbA hbB hsz hs ht
  go_enter Tryz.func51, Tryz.ntmps51
  go_wp2_with fail
  rw [← hW]
  clear hW
  refine (ka W).mono ?_
  rintro r w1 ⟨rfl, hB1⟩
  obtain ⟨x1, x2, x3⟩ := HC.out w1 hB1
  go_wp2_with fail
  refine (kb _).mono ?_
  rintro r w2 ⟨rfl, hB2⟩
  have hB12 := below_step hB1 hB2
  obtain ⟨y1, y2, y3⟩ := HC.out w2 hB12
  clear x1 x2 x3 hB1 hB2
  go_wp2_with fail
  refine (kb _).mono ?_
  rintro r w3 ⟨rfl, hB3⟩
  have HF : Hid (Below w.heap.size w w3) := HB.out.trans ((below_step hB12 hB3).mono HB.out.size)
  clear y1 y2 y3 hB12 hB3 ka kb
  go_wp2_with fail
  refine (k128 _).mono ?_
  rintro r w4 ⟨rfl, rfl⟩
  go_wp2
  go_ret
  exact ⟨rfl, HF.out⟩

set_option maxRecDepth 200000 in
theorem c30_1 (na nb : Bool) (ua va : Option Addr) (un uc vn vc : Nat) (ea eb c : Int) (w : World)
    (k67 : ∀ W g, Below w.heap.size w W → W.heap[g]? = some (.cells #[.bool na, .slice ua un uc, .int .i64 ea, .bool nb, .slice va vn vc, .int .i64 eb] 25 (0, 0)) → Calls Tryz.prog 43 #[.slice (some ⟨g, 0, none⟩) 2 2] W fun r w' => r = .returned (.bool true) ∧ Below W.heap.size W w')
    (k77 : ∀ W, Below w.heap.size w W → Calls Tryz.prog 51 #[.agg #[.bool na, .slice ua un uc, .int .i64 ea], .agg #[.bool nb, .slice va vn vc, .int .i64 eb]] W fun r w' => r = .returned (.int .i64 c) ∧ Below W.heap.size W w') :
    Calls Tryz.prog 26 #[.agg #[.bool na, .slice ua un uc, .int .i64 ea], .agg #[.bool nb, .slice va vn vc, .int .i64 eb]] w fun r w' => r = .returned (.int .i64 c) ∧ Below w.heap.size w w' := by
  obtain ⟨W, hW⟩ : ∃ W, W = ((w.alloc (.cells #[.bool na, .slice ua un uc, .int .i64 ea] 25)).alloc (.cells #[.bool nb, .slice va vn vc, .int .i64 eb] 25)).alloc (.cells #[.bool na, .slice ua un uc, .int .i64 ea, .bool nb, .slice va vn vc, .int .i64 eb] 25) := ⟨_, rfl⟩
  obtain ⟨hA, hBb, hC, hsz, hBW⟩ := boxes3 _ _ _ hW
  have k1 := k67 W (w.heap.size + 1 + 1) hBW hC
  have HH : Hid ((W.heap[w.heap.size]? = some (.cells #[.bool na, .slice ua un uc, .int .i64 ea] 25 (0, 0)) ∧ W.heap[w.heap.size + 1]? = some (.cells #[.bool nb, .slice va vn vc, .int .i64 eb] 25 (0, 0))) ∧ W.heap.size = w.heap.size + 1 + 1 + 1 ∧ Below w.heap.size w W) := ⟨⟨hA, hBb⟩, hsz, hBW⟩
  have HK : Hid (∀ W, Below w.heap.size w W → Calls Tryz.prog 51 #[.agg #[.bool na, .slice ua un uc, .int .i64 ea], .agg #[.bool nb, .slice va vn vc, .int .i64 eb]] W fun r w' => r = .returned (.int .i64 c) ∧ Below W.heap.size W w') := k77
  clear hA hBb hC hsz hBW k67 k77
  go_enter Tryz.func26, Tryz.ntmps26
  go_wp2_with fail
  rw [← hW]
  clear hW
  refine k1.mono ?_
  rintro r w1 ⟨rfl, hB1⟩
  clear k1
  have HB1 : Hid (Below w.heap.size w w1) := HH.out.2.2.trans (hB1.mono HH.out.2.2.size)
  obtain ⟨⟨a0, a1, a2⟩, -⟩ := box_cells (box_later HH.out.1.1 hB1 (by have := HH.out.2.1; omega))
  obtain ⟨⟨b0, b1, b2⟩, -⟩ := box_cells (box_later HH.out.1.2 hB1 (by have := HH.out.2.1; omega))
  clear hB1
  go_wp2_with fail
  refine (HK.out w1 HB1.out).mono ?_
  rintro r w2 ⟨rfl, hB2⟩
  have HF : Hid (Below w.heap.size w w2) := HB1.out.trans (hB2.mono HB1.out.size)
  clear hB2
  go_wp2
  go_ret
  exact ⟨rfl, HF.out⟩
end Go.Proofs.YtceoeiojoffnnaaGreatDoor
