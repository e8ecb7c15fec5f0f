/- Own work: contracts of the program's functions, part 18: RY7 RY8 L19. -/
import Derived.Test.YtmhpicccfaklcaaGreatDoorA17
import Derived.Test.YtmhpicccfaklcaaGreatDoorA16
import Derived.Test.YtmhpicccfaklcaaGreatDoorA11

/- The document's root, rounded: the program's float. -/
namespace Go.Proofs.YtmhpicccfaklcaaGreatDoor
set_option linter.unusedVariables false
set_option linter.unusedSimpArgs false
open Go.RowKit Go.Fl64

theorem bl_root_lo {N q : Nat} (h : N < (q + 1) * (q + 1)) : bl N ≤ 2 * bl q := by
  refine (bl_le _ _).2 (Nat.lt_of_lt_of_le h ?_)
  rw [four_two]
  exact Nat.mul_le_mul (lt_bl q) (lt_bl q)
theorem bl_root_hi {N q : Nat} (h : q * q ≤ N) (hq : q ≠ 0) : 2 * bl q ≤ bl N + 1 := by
  have h1 := le_bl hq
  have b1 := bl_ne hq
  have h2 : 2 ^ (2 * (bl q - 1)) ≤ N := by
    rw [four_two]
    exact Nat.le_trans (Nat.mul_le_mul h1 h1) h
  have h3 := (Nat.pow_lt_pow_iff_right (by omega : 1 < 2)).1 (Nat.lt_of_le_of_lt h2 (lt_bl N))
  omega
theorem bl_rtQ {x : Nat} {ea P : Int} (hx : x ≠ 0) (h : 0 ≤ (bl x : Int) + ea + 2 * P) : (bl (rtQ x ea P) : Int) = bl x + ea + 2 * P := by
  have hb := bl_ne hx
  unfold rtQ
  by_cases hn : 0 ≤ ea + 2 * P
  · rw [if_pos hn, bl_shl' hx]; omega
  · rw [if_neg hn]
    by_cases he : (bl x : Int) + ea + 2 * P = 0
    · have : x / 2 ^ (-(ea + 2 * P)).toNat = 0 := by
        refine Nat.div_eq_of_lt ?_
        have := lt_bl x
        rw [show (-(ea + 2 * P)).toNat = bl x by omega]
        exact this
      rw [this, he]; rfl
    · rw [bl_div (by omega)]; omega
theorem rt_ne {x s : Nat} {ea P : Int} (hx : x ≠ 0) (h : (decide (s * s = rtQ x ea P) && rtW x ea P) = true) : s ≠ 0 := by
  rintro rfl
  simp only [Bool.and_eq_true, decide_eq_true_eq, Nat.mul_zero] at h
  obtain ⟨h1, h2⟩ := h
  unfold rtQ at h1
  unfold rtW at h2
  by_cases hn : 0 ≤ ea + 2 * P
  · rw [if_pos hn] at h1
    exact Nat.mul_ne_zero hx (Nat.pos_iff_ne_zero.1 (Nat.two_pow_pos _)) h1.symm
  · rw [if_neg hn] at h1
    rw [decide_eq_false hn, Bool.false_or] at h2
    have h3 := of_decide_eq_true h2
    have := Nat.div_add_mod x (2 ^ (-(ea + 2 * P)).toNat)
    rw [h3, ← h1] at this
    omega
theorem rt_len {x s : Nat} {ea P : Int} (hx : dlen x ≤ 2048) (h : s * s ≤ rtQ x ea P) (h1 : ea + 2 * P ≤ 70000) : dlen s ≤ 20000 := by
  have h2 : rtQ x ea P ≤ x * 2 ^ (ea + 2 * P).toNat := by
    unfold rtQ
    split
    · exact Nat.le_refl _
    · exact Nat.le_trans (Nat.div_le_self _ _) (Nat.le_mul_of_pos_right x (Nat.two_pow_pos _))
  have h3 : s ≤ s * s := by
    rcases Nat.eq_zero_or_pos s with rfl | h
    · exact Nat.le_refl _
    · exact Nat.le_mul_of_pos_right s h
  have h4 := dlen_mono (Nat.le_trans h3 (Nat.le_trans h h2))
  have := shl_len (x := x) (k := (ea + 2 * P).toNat) rfl
  omega
/-- what Between answers of a root is the program's float -/
theorem rt_key {x k q s : Nat} {ea P h2 m t : Int} (hm : 1 ≤ m ∧ m ≤ 3) (hx0 : x ≠ 0) (hk : ea - k = 2 * h2) (a1 : q * q ≤ x * 2 ^ k) (a2 : x * 2 ^ k < (q + 1) * (q + 1)) (hN : 128 ≤ bl x + k) (ht : (bl x : Int) + ea = t) (hP : (P = 120 ∧ 0 < t) ∨ (P = 1200 ∧ -2400 ≤ t ∧ t ≤ 0)) (b1 : s * s ≤ rtQ x ea P) (b2 : rtQ x ea P < (s + 1) * (s + 1)) :
    (if (decide (s * s = rtQ x ea P) && rtW x ea P) then tfF false true s (-P) m else tfF false true (2 * s + 1) (-(P + 1)) m) = tfF false (decide (q * q = x * 2 ^ k)) q h2 m := by
  have hB : bl (x * 2 ^ k) = bl x + k := bl_shl' hx0
  have q1 := bl_root_lo a2
  have h64 : 64 ≤ bl q := by omega
  have hq0 : q ≠ 0 := fun e => by rw [e] at h64; simp [bl] at h64
  have q2 := bl_root_hi a1 hq0
  have hR := bl_rtQ (x := x) (ea := ea) (P := P) hx0 (by omega)
  have s1 := bl_root_lo b2
  by_cases hs : 64 ≤ bl s
  · rw [sqrt_eq hm hk a1 a2 b1 b2 h64 hs]
    cases (decide (s * s = rtQ x ea P) && rtW x ea P)
    · rw [if_neg (by decide), tf_sticky hs, show -P - 1 = -(P + 1) by omega]
    · rw [if_pos rfl]
  · cases hdc : (decide (s * s = rtQ x ea P) && rtW x ea P)
    · rw [if_neg (by decide)]
      refine (tf_tiny hm (.inl h64) (by omega) (by omega) ?_).symm
      by_cases hz : s = 0
      · rw [hz, Nat.mul_zero, Nat.zero_add, bl_one]; omega
      · rw [bl_two hz]; omega
    · rw [if_pos rfl]
      exact (tf_tiny hm (.inl h64) (rt_ne hx0 hdc) (by omega) (by omega)).symm
theorem rsqrtto {na : Bool} {ua : Option Addr} {uc x k q : Nat} {ea m h2 : Int} {w : World} (h1 : Arg w ua (dlen x) uc x) (hx : dlen x ≤ 2048) (ha : -65536 ≤ ea ∧ ea ≤ 65536) (hx0 : x ≠ 0) (hm : 1 ≤ m ∧ m ≤ 3) (hk : ea - k = 2 * h2) (a1 : q * q ≤ x * 2 ^ k) (a2 : x * 2 ^ k < (q + 1) * (q + 1)) (hN : 128 ≤ bl x + k) :
    Calls Tryz.prog 94 #[.agg #[.bool na, .slice ua (dlen x) uc, .int .i64 ea], .int .i64 m] w fun r w' => r = .returned (.float .f64 (tfF false (decide (q * q = x * 2 ^ k)) q h2 m)) ∧ Below w.heap.size w w' := by
  have hB : bl (x * 2 ^ k) = bl x + k := bl_shl' hx0
  have q1 := bl_root_lo a2
  have h64 : 64 ≤ bl q := by omega
  have hq0 : q ≠ 0 := fun e => by rw [e] at h64; simp [bl] at h64
  have q2 := bl_root_hi a1 hq0
  have hn0 : ((dlen x : Int) == 0) = false := len_ne (n := 0) hx0
  have kH := fun W (hW : Below w.heap.size w W) => rhigh (neg := na) (cap := uc) (e := ea) (h1.later hW).at_ hx0 (by omega) ⟨by omega, by omega⟩
  by_cases hb1 : 2200 < (bl x : Int) + ea
  · rw [tf_big (s := false) (y := 1) (f := 1100) hm (.inl h64) (by omega) (by omega) (by rw [bl_one]; omega)]
    exact rsqrtto_b na ua _ uc _ ea m _ w hn0 hb1 kH (fun g W hW hA => rto_one hA (by omega) (by omega) hm)
  · by_cases hb2 : (bl x : Int) + ea < -2400
    · rw [tf_tiny (s := false) (y := 1) (f := -1200) hm (.inl h64) (by omega) (by omega) (by rw [bl_one]; omega)]
      exact rsqrtto_t na ua _ uc _ ea m _ w hn0 hb2 kH (fun g W hW hA => rto_one hA (by omega) (by omega) hm)
    · by_cases hp : 0 < (bl x : Int) + ea
      · refine rsqrtto_p na ua _ uc _ ea m _ (fun s => decide (s * s = rtQ x ea 120) && rtW x ea 120) (fun s => s * s ≤ rtQ x ea 120 ∧ rtQ x ea 120 < (s + 1) * (s + 1)) w hn0 (by omega) (by omega) hp kH (fun W hW => ?_) (fun W A s hW hC hs => ?_)
        · exact (rrootof (na := na) (h1.later hW).at_ h1.le (by omega) ⟨by omega, by omega⟩ ⟨by omega, by omega⟩).mono fun r w' ⟨A, s, e1, e2, e3, e4, e5⟩ => ⟨A, s, e1, e2, ⟨e3, e4⟩, e5⟩
        · rw [← rt_key (P := 120) hm hx0 hk a1 a2 hN rfl (.inl ⟨rfl, hp⟩) hs.1 hs.2]
          exact rbetween (s := false) (P := 120) hC (rt_ne hx0) (rt_len hx hs.1 (by omega)) (by omega) (by omega) hm
      · refine rsqrtto_n na ua _ uc _ ea m _ (fun s => decide (s * s = rtQ x ea 1200) && rtW x ea 1200) (fun s => s * s ≤ rtQ x ea 1200 ∧ rtQ x ea 1200 < (s + 1) * (s + 1)) w hn0 (by omega) (by omega) (by omega) kH (fun W hW => ?_) (fun W A s hW hC hs => ?_)
        · exact (rrootof (na := na) (h1.later hW).at_ h1.le (by omega) ⟨by omega, by omega⟩ ⟨by omega, by omega⟩).mono fun r w' ⟨A, s, e1, e2, e3, e4, e5⟩ => ⟨A, s, e1, e2, ⟨e3, e4⟩, e5⟩
        · rw [← rt_key (P := 1200) hm hx0 hk a1 a2 hN rfl (.inr ⟨rfl, by omega, by omega⟩) hs.1 hs.2]
          exact rbetween (s := false) (P := 1200) hC (rt_ne hx0) (rt_len hx hs.1 (by omega)) (by omega) (by omega) hm
end Go.Proofs.YtmhpicccfaklcaaGreatDoor

/- The document's Sqrt and Ratio. -/
namespace Go.Proofs.YtmhpicccfaklcaaGreatDoor
set_option linter.unusedVariables false
set_option linter.unusedSimpArgs false
open Go.RowKit Go.Fl64

set_option maxHeartbeats 4000000 in
set_option maxRecDepth 200000 in
theorem rsqrt_1 (ua : Option Addr) (un uc : Nat) (ea m : Int) (F : Nat) (w : World) (hm : ((m == 1) || (m == 2) || (m == 3)) = true) (kV : ∀ W, Below w.heap.size w W → Calls Tryz.prog 11 #[.agg #[.bool false, .slice ua un uc, .int .i64 ea]] W fun r w' => r = .returned (.bool true) ∧ Below W.heap.size W w')
    (kT : ∀ W, Below w.heap.size w W → Calls Tryz.prog 94 #[.agg #[.bool false, .slice ua un uc, .int .i64 ea], .int .i64 m] W fun r w' => r = .returned (.float .f64 F) ∧ Below W.heap.size W w') :
    Calls Tryz.prog 40 #[.agg #[.bool false, .slice ua un uc, .int .i64 ea], .int .i64 m] w fun r w' => r = .returned (.tuple #[.float .f64 F, .int .i64 0]) ∧ Below w.heap.size w w' := by
  obtain ⟨W, hW⟩ : ∃ W, W = w.alloc (.cells #[.bool false, .slice ua un uc, .int .i64 ea] 24) := ⟨_, rfl⟩
  have hBW : Below w.heap.size w W := by rw [hW]; exact (Below.refl _ _).alloc (Nat.le_refl _) _
  have hA : W.heap[w.heap.size]? = some (.cells #[.bool false, .slice ua un uc, .int .i64 ea] 24 (0, 0)) := by rw [hW]; exact heap_alloc_new _ _
  have hsz : W.heap.size = w.heap.size + 1 := by rw [hW]; simp
  have HX : Hid (Below w.heap.size w W ∧ W.heap.size = w.heap.size + 1 ∧ W.heap[w.heap.size]? = some (.cells #[.bool false, .slice ua un uc, .int .i64 ea] 24 (0, 0))) := ⟨hBW, hsz, hA⟩
  have HKT : Hid (∀ W, Below w.heap.size w W → Calls Tryz.prog 94 #[.agg #[.bool false, .slice ua un uc, .int .i64 ea], .int .i64 m] W fun r w' => r = .returned (.float .f64 F) ∧ Below W.heap.size W w') := kT
  have k := kV W hBW
  clear kV kT hA hsz hBW
  go_enter Tryz.func40, Tryz.ntmps40
  go_wp2_with fail
  rw [← hW]
  clear hW
  refine k.mono ?_
  rintro r w1 ⟨rfl, hb1⟩
  have HB1 : Hid (Below W.heap.size W w1) := hb1
  obtain ⟨⟨a0, a1, a2⟩, -⟩ := box_cells29 (box_later HX.out.2.2 HB1.out (by have := HX.out.2.1; omega))
  clear k hb1
  have kt := HKT.out w1 (HX.out.1.trans (HB1.out.mono HX.out.1.size))
  have kM : Calls Tryz.prog 88 #[.int .i64 m] w1 fun r w' => r = .returned (.bool true) ∧ w' = w1 := (rmode m w1).mono fun r w' ⟨e1, e2⟩ => ⟨by rw [e1, hm], e2⟩
  go_wp2_with fail
  refine kM.mono ?_
  rintro r w2 ⟨rfl, hw⟩
  replace hw := hw.symm
  subst hw
  clear kM
  go_wp2_with fail
  refine kt.mono ?_
  rintro r w3 ⟨rfl, hb3⟩
  have HB3 : Hid (Below W.heap.size W w3) := HB1.out.trans (hb3.mono HB1.out.size)
  clear kt hb3
  go_wp2
  refine bodyPost_ret (results_tmp2 rfl _ _ _) rfl ?_
  exact ⟨rfl, HX.out.1.trans (HB3.out.mono HX.out.1.size)⟩
set_option maxHeartbeats 4000000 in
set_option maxRecDepth 200000 in
theorem rsqrt_no (na : Bool) (ua : Option Addr) (un uc : Nat) (ea m : Int) (V : Bool) (w : World) (hm : V = true → ((m == 1) || (m == 2) || (m == 3)) = false) (kV : ∀ W, Below w.heap.size w W → Calls Tryz.prog 11 #[.agg #[.bool na, .slice ua un uc, .int .i64 ea]] W fun r w' => r = .returned (.bool V) ∧ Below W.heap.size W w') :
    Calls Tryz.prog 40 #[.agg #[.bool na, .slice ua un uc, .int .i64 ea], .int .i64 m] w fun r w' => r = .returned (.tuple #[.float .f64 0, .int .i64 1]) ∧ Below w.heap.size w w' := by
  obtain ⟨W, hW⟩ : ∃ W, W = w.alloc (.cells #[.bool na, .slice ua un uc, .int .i64 ea] 24) := ⟨_, rfl⟩
  have hBW : Below w.heap.size w W := by rw [hW]; exact (Below.refl _ _).alloc (Nat.le_refl _) _
  have hA : W.heap[w.heap.size]? = some (.cells #[.bool na, .slice ua un uc, .int .i64 ea] 24 (0, 0)) := by rw [hW]; exact heap_alloc_new _ _
  have hsz : W.heap.size = w.heap.size + 1 := by rw [hW]; simp
  have HX : Hid (Below w.heap.size w W ∧ W.heap.size = w.heap.size + 1 ∧ W.heap[w.heap.size]? = some (.cells #[.bool na, .slice ua un uc, .int .i64 ea] 24 (0, 0))) := ⟨hBW, hsz, hA⟩
  have k := kV W hBW
  clear kV hA hsz hBW
  go_enter Tryz.func40, Tryz.ntmps40
  go_wp2_with fail
  rw [← hW]
  clear hW
  refine k.mono ?_
  rintro r w1 ⟨rfl, hb1⟩
  have HB1 : Hid (Below W.heap.size W w1) := hb1
  obtain ⟨⟨a0, a1, a2⟩, -⟩ := box_cells29 (box_later HX.out.2.2 HB1.out (by have := HX.out.2.1; omega))
  clear k hb1
  cases V
  · go_wp2
    refine bodyPost_ret (results_tmp2 rfl _ _ _) rfl ?_
    exact ⟨rfl, HX.out.1.trans (HB1.out.mono HX.out.1.size)⟩
  · have kM : Calls Tryz.prog 88 #[.int .i64 m] w1 fun r w' => r = .returned (.bool false) ∧ w' = w1 := (rmode m w1).mono fun r w' ⟨e1, e2⟩ => ⟨by rw [e1, hm rfl], e2⟩
    go_wp2_with fail
    refine kM.mono ?_
    rintro r w2 ⟨rfl, hw⟩
    replace hw := hw.symm
    subst hw
    clear kM
    go_wp2
    refine bodyPost_ret (results_tmp2 rfl _ _ _) rfl ?_
    exact ⟨rfl, HX.out.1.trans (HB1.out.mono HX.out.1.size)⟩
set_option maxHeartbeats 4000000 in
set_option maxRecDepth 200000 in
theorem rsqrt_dom (ua : Option Addr) (un uc : Nat) (ea m : Int) (w : World) (hm : ((m == 1) || (m == 2) || (m == 3)) = true) (kV : ∀ W, Below w.heap.size w W → Calls Tryz.prog 11 #[.agg #[.bool true, .slice ua un uc, .int .i64 ea]] W fun r w' => r = .returned (.bool true) ∧ Below W.heap.size W w') :
    Calls Tryz.prog 40 #[.agg #[.bool true, .slice ua un uc, .int .i64 ea], .int .i64 m] w fun r w' => r = .returned (.tuple #[.float .f64 0, .int .i64 7]) ∧ Below w.heap.size w w' := by
  obtain ⟨W, hW⟩ : ∃ W, W = w.alloc (.cells #[.bool true, .slice ua un uc, .int .i64 ea] 24) := ⟨_, rfl⟩
  have hBW : Below w.heap.size w W := by rw [hW]; exact (Below.refl _ _).alloc (Nat.le_refl _) _
  have hA : W.heap[w.heap.size]? = some (.cells #[.bool true, .slice ua un uc, .int .i64 ea] 24 (0, 0)) := by rw [hW]; exact heap_alloc_new _ _
  have hsz : W.heap.size = w.heap.size + 1 := by rw [hW]; simp
  have HX : Hid (Below w.heap.size w W ∧ W.heap.size = w.heap.size + 1 ∧ W.heap[w.heap.size]? = some (.cells #[.bool true, .slice ua un uc, .int .i64 ea] 24 (0, 0))) := ⟨hBW, hsz, hA⟩
  have k := kV W hBW
  clear kV hA hsz hBW
  go_enter Tryz.func40, Tryz.ntmps40
  go_wp2_with fail
  rw [← hW]
  clear hW
  refine k.mono ?_
  rintro r w1 ⟨rfl, hb1⟩
  have HB1 : Hid (Below W.heap.size W w1) := hb1
  obtain ⟨⟨a0, a1, a2⟩, -⟩ := box_cells29 (box_later HX.out.2.2 HB1.out (by have := HX.out.2.1; omega))
  clear k hb1
  have kM : Calls Tryz.prog 88 #[.int .i64 m] w1 fun r w' => r = .returned (.bool true) ∧ w' = w1 := (rmode m w1).mono fun r w' ⟨e1, e2⟩ => ⟨by rw [e1, hm], e2⟩
  go_wp2_with fail
  refine kM.mono ?_
  rintro r w2 ⟨rfl, hw⟩
  replace hw := hw.symm
  subst hw
  clear kM
  go_wp2
  refine bodyPost_ret (results_tmp2 rfl _ _ _) rfl ?_
  exact ⟨rfl, HX.out.1.trans (HB1.out.mono HX.out.1.size)⟩
set_option maxHeartbeats 4000000 in
set_option maxRecDepth 200000 in
theorem rratio_1 (na nb : Bool) (ua va : Option Addr) (un uc vn vc : Nat) (ea eb m : Int) (F : Nat) (w : World) (hm : ((m == 1) || (m == 2) || (m == 3)) = true) (hn1 : ((vn : Int) == 0) = false) (kV : ∀ W g, Below w.heap.size w W → W.heap[g]? = some (.cells #[.bool na, .slice ua un uc, .int .i64 ea, .bool nb, .slice va vn vc, .int .i64 eb] 24 (0, 0)) → Calls Tryz.prog 83 #[.slice (some ⟨g, 0, none⟩) 2 2] W fun r w' => r = .returned (.bool true) ∧ Below W.heap.size W w')
    (kT : ∀ W, Below w.heap.size w W → Calls Tryz.prog 92 #[.agg #[.bool na, .slice ua un uc, .int .i64 ea], .agg #[.bool nb, .slice va vn vc, .int .i64 eb], .int .i64 m] W fun r w' => r = .returned (.float .f64 F) ∧ Below W.heap.size W w') :
    Calls Tryz.prog 38 #[.agg #[.bool na, .slice ua un uc, .int .i64 ea], .agg #[.bool nb, .slice va vn vc, .int .i64 eb], .int .i64 m] w fun r w' => r = .returned (.tuple #[.float .f64 F, .int .i64 0]) ∧ Below w.heap.size w w' := by
  obtain ⟨W, hW⟩ : ∃ W, W = (w.alloc (.cells #[.bool na, .slice ua un uc, .int .i64 ea] 24)).alloc (.cells #[.bool nb, .slice va vn vc, .int .i64 eb] 24) := ⟨_, rfl⟩
  obtain ⟨hA, hC, hsz, hBW⟩ := two29 _ _ hW
  have HX : Hid (Below w.heap.size w W ∧ W.heap.size = w.heap.size + 1 + 1 ∧ W.heap[w.heap.size]? = some (.cells #[.bool na, .slice ua un uc, .int .i64 ea] 24 (0, 0)) ∧ W.heap[w.heap.size + 1]? = some (.cells #[.bool nb, .slice va vn vc, .int .i64 eb] 24 (0, 0))) := ⟨hBW, hsz, hA, hC⟩
  have HKT : Hid (∀ W, Below w.heap.size w W → Calls Tryz.prog 92 #[.agg #[.bool na, .slice ua un uc, .int .i64 ea], .agg #[.bool nb, .slice va vn vc, .int .i64 eb], .int .i64 m] W fun r w' => r = .returned (.float .f64 F) ∧ Below W.heap.size W w') := kT
  have k := kV (W.alloc (.cells #[.bool na, .slice ua un uc, .int .i64 ea, .bool nb, .slice va vn vc, .int .i64 eb] 24)) (w.heap.size + 1 + 1) (hBW.alloc hBW.size _) (by rw [← hsz]; exact heap_alloc_new _ _)
  clear kV kT hA hC hsz hBW
  go_enter Tryz.func38, Tryz.ntmps38
  go_wp2_with fail
  rw [← hW]
  clear hW
  refine k.mono ?_
  rintro r w1 ⟨rfl, hb1⟩
  have HB1 : Hid (Below W.heap.size W w1) := ((Below.refl W.heap.size W).alloc (Nat.le_refl _) _).trans (hb1.mono (by simp))
  obtain ⟨⟨a0, a1, a2⟩, -⟩ := box_cells29 (box_later HX.out.2.2.1 HB1.out (by have := HX.out.2.1; omega))
  obtain ⟨⟨b0, b1, b2⟩, -⟩ := box_cells29 (box_later HX.out.2.2.2 HB1.out (by have := HX.out.2.1; omega))
  clear k hb1
  have kt := HKT.out w1 (HX.out.1.trans (HB1.out.mono HX.out.1.size))
  have kM : Calls Tryz.prog 88 #[.int .i64 m] w1 fun r w' => r = .returned (.bool true) ∧ w' = w1 := (rmode m w1).mono fun r w' ⟨e1, e2⟩ => ⟨by rw [e1, hm], e2⟩
  go_wp2_with fail
  refine kM.mono ?_
  rintro r w2 ⟨rfl, hw⟩
  replace hw := hw.symm
  subst hw
  clear kM
  go_wp2_with fail
  refine kt.mono ?_
  rintro r w3 ⟨rfl, hb3⟩
  have HB3 : Hid (Below W.heap.size W w3) := HB1.out.trans (hb3.mono HB1.out.size)
  clear kt hb3
  go_wp2
  refine bodyPost_ret (results_tmp2 rfl _ _ _) rfl ?_
  exact ⟨rfl, HX.out.1.trans (HB3.out.mono HX.out.1.size)⟩
set_option maxHeartbeats 4000000 in
set_option maxRecDepth 200000 in
theorem rratio_no (na nb : Bool) (ua va : Option Addr) (un uc vn vc : Nat) (ea eb m : Int) (V : Bool) (w : World) (hm : V = true → ((m == 1) || (m == 2) || (m == 3)) = false) (kV : ∀ W g, Below w.heap.size w W → W.heap[g]? = some (.cells #[.bool na, .slice ua un uc, .int .i64 ea, .bool nb, .slice va vn vc, .int .i64 eb] 24 (0, 0)) → Calls Tryz.prog 83 #[.slice (some ⟨g, 0, none⟩) 2 2] W fun r w' => r = .returned (.bool V) ∧ Below W.heap.size W w') :
    Calls Tryz.prog 38 #[.agg #[.bool na, .slice ua un uc, .int .i64 ea], .agg #[.bool nb, .slice va vn vc, .int .i64 eb], .int .i64 m] w fun r w' => r = .returned (.tuple #[.float .f64 0, .int .i64 1]) ∧ Below w.heap.size w w' := by
  obtain ⟨W, hW⟩ : ∃ W, W = (w.alloc (.cells #[.bool na, .slice ua un uc, .int .i64 ea] 24)).alloc (.cells #[.bool nb, .slice va vn vc, .int .i64 eb] 24) := ⟨_, rfl⟩
  obtain ⟨hA, hC, hsz, hBW⟩ := two29 _ _ hW
  have HX : Hid (Below w.heap.size w W ∧ W.heap.size = w.heap.size + 1 + 1 ∧ W.heap[w.heap.size]? = some (.cells #[.bool na, .slice ua un uc, .int .i64 ea] 24 (0, 0)) ∧ W.heap[w.heap.size + 1]? = some (.cells #[.bool nb, .slice va vn vc, .int .i64 eb] 24 (0, 0))) := ⟨hBW, hsz, hA, hC⟩
  have k := kV (W.alloc (.cells #[.bool na, .slice ua un uc, .int .i64 ea, .bool nb, .slice va vn vc, .int .i64 eb] 24)) (w.heap.size + 1 + 1) (hBW.alloc hBW.size _) (by rw [← hsz]; exact heap_alloc_new _ _)
  clear kV hA hC hsz hBW
  go_enter Tryz.func38, Tryz.ntmps38
  go_wp2_with fail
  rw [← hW]
  clear hW
  refine k.mono ?_
  rintro r w1 ⟨rfl, hb1⟩
  have HB1 : Hid (Below W.heap.size W w1) := ((Below.refl W.heap.size W).alloc (Nat.le_refl _) _).trans (hb1.mono (by simp))
  obtain ⟨⟨a0, a1, a2⟩, -⟩ := box_cells29 (box_later HX.out.2.2.1 HB1.out (by have := HX.out.2.1; omega))
  obtain ⟨⟨b0, b1, b2⟩, -⟩ := box_cells29 (box_later HX.out.2.2.2 HB1.out (by have := HX.out.2.1; omega))
  clear k hb1
  cases V
  · go_wp2
    refine bodyPost_ret (results_tmp2 rfl _ _ _) rfl ?_
    exact ⟨rfl, HX.out.1.trans (HB1.out.mono HX.out.1.size)⟩
  · have kM : Calls Tryz.prog 88 #[.int .i64 m] w1 fun r w' => r = .returned (.bool false) ∧ w' = w1 := (rmode m w1).mono fun r w' ⟨e1, e2⟩ => ⟨by rw [e1, hm rfl], e2⟩
    go_wp2_with fail
    refine kM.mono ?_
    rintro r w2 ⟨rfl, hw⟩
    replace hw := hw.symm
    subst hw
    clear kM
    go_wp2
    refine bodyPost_ret (results_tmp2 rfl _ _ _) rfl ?_
    exact ⟨rfl, HX.out.1.trans (HB1.out.mono HX.out.1.size)⟩
set_option maxHeartbeats 4000000 in
set_option maxRecDepth 200000 in
theorem rratio_z (na nb : Bool) (ua va : Option Addr) (un uc vc : Nat) (ea eb m : Int) (w : World) (hm : ((m == 1) || (m == 2) || (m == 3)) = true) (kV : ∀ W g, Below w.heap.size w W → W.heap[g]? = some (.cells #[.bool na, .slice ua un uc, .int .i64 ea, .bool nb, .slice va 0 vc, .int .i64 eb] 24 (0, 0)) → Calls Tryz.prog 83 #[.slice (some ⟨g, 0, none⟩) 2 2] W fun r w' => r = .returned (.bool true) ∧ Below W.heap.size W w') :
    Calls Tryz.prog 38 #[.agg #[.bool na, .slice ua un uc, .int .i64 ea], .agg #[.bool nb, .slice va 0 vc, .int .i64 eb], .int .i64 m] w fun r w' => r = .returned (.tuple #[.float .f64 0, .int .i64 6]) ∧ Below w.heap.size w w' := by
  obtain ⟨W, hW⟩ : ∃ W, W = (w.alloc (.cells #[.bool na, .slice ua un uc, .int .i64 ea] 24)).alloc (.cells #[.bool nb, .slice va 0 vc, .int .i64 eb] 24) := ⟨_, rfl⟩
  obtain ⟨hA, hC, hsz, hBW⟩ := two29 _ _ hW
  have HX : Hid (Below w.heap.size w W ∧ W.heap.size = w.heap.size + 1 + 1 ∧ W.heap[w.heap.size]? = some (.cells #[.bool na, .slice ua un uc, .int .i64 ea] 24 (0, 0)) ∧ W.heap[w.heap.size + 1]? = some (.cells #[.bool nb, .slice va 0 vc, .int .i64 eb] 24 (0, 0))) := ⟨hBW, hsz, hA, hC⟩
  have k := kV (W.alloc (.cells #[.bool na, .slice ua un uc, .int .i64 ea, .bool nb, .slice va 0 vc, .int .i64 eb] 24)) (w.heap.size + 1 + 1) (hBW.alloc hBW.size _) (by rw [← hsz]; exact heap_alloc_new _ _)
  clear kV hA hC hsz hBW
  go_enter Tryz.func38, Tryz.ntmps38
  go_wp2_with fail
  rw [← hW]
  clear hW
  refine k.mono ?_
  rintro r w1 ⟨rfl, hb1⟩
  have HB1 : Hid (Below W.heap.size W w1) := ((Below.refl W.heap.size W).alloc (Nat.le_refl _) _).trans (hb1.mono (by simp))
  obtain ⟨⟨a0, a1, a2⟩, -⟩ := box_cells29 (box_later HX.out.2.2.1 HB1.out (by have := HX.out.2.1; omega))
  obtain ⟨⟨b0, b1, b2⟩, -⟩ := box_cells29 (box_later HX.out.2.2.2 HB1.out (by have := HX.out.2.1; omega))
  clear k hb1
  have kM : Calls Tryz.prog 88 #[.int .i64 m] w1 fun r w' => r = .returned (.bool true) ∧ w' = w1 := (rmode m w1).mono fun r w' ⟨e1, e2⟩ => ⟨by rw [e1, hm], e2⟩
  go_wp2_with fail
  refine kM.mono ?_
  rintro r w2 ⟨rfl, hw⟩
  replace hw := hw.symm
  subst hw
  clear kM
  go_wp2
  refine bodyPost_ret (results_tmp2 rfl _ _ _) rfl ?_
  exact ⟨rfl, HX.out.1.trans (HB1.out.mono HX.out.1.size)⟩
end Go.Proofs.YtmhpicccfaklcaaGreatDoor

/- DyadRounds. -/
namespace Go.Proofs.YtmhpicccfaklcaaGreatDoor
set_option linter.unusedVariables false
set_option linter.unusedSimpArgs false
open Go.RowKit Go.Fl64

theorem rratioto_0 (na nb : Bool) (ua va : Option Addr) (uc vn vc : Nat) (ea eb m : Int) (w : World) : Calls Tryz.prog 92 #[.agg #[.bool na, .slice ua 0 uc, .int .i64 ea], .agg #[.bool nb, .slice va vn vc, .int .i64 eb], .int .i64 m] w fun r w' => r = .returned (.float .f64 0) ∧ Below w.heap.size w w' := by
  obtain ⟨W, hW⟩ : ∃ W, W = (w.alloc (.cells #[.bool na, .slice ua 0 uc, .int .i64 ea] 24)).alloc (.cells #[.bool nb, .slice va vn vc, .int .i64 eb] 24) := ⟨_, rfl⟩
  obtain ⟨hA, hC, hsz, hBW⟩ := two29 _ _ hW
  have HB : Hid (Below w.heap.size w W) := hBW
  obtain ⟨⟨a0, a1, a2⟩, -⟩ := box_cells29 hA
  clear hA hC hsz hBW
  rw [hW] at a0 a1 a2
  go_enter Tryz.func92, Tryz.ntmps92
  go_wp2
  go_ret
  exact ⟨rfl, hW ▸ HB.out⟩
theorem mode_eq {m : Int} (h : ((m == 1) || (m == 2) || (m == 3)) = true) : 1 ≤ m ∧ m ≤ 3 := by
  simp only [Bool.or_eq_true, beq_iff_eq] at h
  omega
theorem tf_nought {e m : Int} (hm : 1 ≤ m ∧ m ≤ 3) : tfF false true 0 e m = 0 := by
  rw [tf_bdy hm]; unfold bdy; rw [if_pos rfl]; rfl
theorem root_of (a : Nat) : ∃ s, s * s ≤ a ∧ a < (s + 1) * (s + 1) := by
  induction a with
  | zero => exact ⟨0, by omega, by omega⟩
  | succ n ih =>
    obtain ⟨s, h1, h2⟩ := ih
    by_cases h : n + 1 < (s + 1) * (s + 1)
    · exact ⟨s, by omega, h⟩
    · refine ⟨s + 1, by omega, ?_⟩
      have : (s + 1 + 1) * (s + 1 + 1) = (s + 1) * (s + 1) + 2 * (s + 1) + 1 := by grind
      omega

theorem join_Round {na : Bool} {ua : Option Addr} {un uc x : Nat} {ea k0 : Int} {w : World} (hT : Tab32 w) (h1 : Arg w ua un uc x) (hx : dlen x ≤ un) :
    ∃ F E,
      (∀ W X, Below w.heap.size w W → PI na un x ea W X → Calls Tryz.prog 28 #[X, .int .i64 k0] W fun r w' => Out2 W F E r w') ∧
      (∀ W, Below w.heap.size w W → Calls Tryz.prog 36 #[.agg #[.bool na, .slice ua un uc, .int .i64 ea], .int .i64 k0] W fun r w' => Out2 W F E r w') := by
  have kV : ∀ V, okN na un x ea = V → ∀ W, Below w.heap.size w W → ∀ W', Below W.heap.size W W' → Calls Tryz.prog 11 #[.agg #[.bool na, .slice ua un uc, .int .i64 ea]] W' fun r w' => r = .returned (.bool V) ∧ Below W'.heap.size W' w' := fun V hV W hW W' hW' => by
    have := rvalid (s := na) (e := ea) ((h1.later hW).later hW')
    rw [hV] at this
    exact this
  have hsm := h1.small
  have kM : ∀ V, okN na un x ea = V → ∀ W pa pc, At W pa un x → ∀ W' g, Below W.heap.size W W' → W'.heap[g]? = some (.cells #[.bool na, .slice pa un pc, .int .i64 ea] 25 (0, 0)) → Calls Tryz.prog 47 #[.slice (some ⟨g, 0, none⟩) 1 1] W' fun r w' => r = .returned (.bool V) ∧ Below W'.heap.size W' w' := fun V hV W pa pc p2 W' g hW' hg => by
    have := maybe1_at hg (p2.later hW') hsm
    rw [hV] at this
    exact this
  by_cases hno : okN na un x ea = true → ((k0 == 1) || (k0 == 2) || (k0 == 3)) = false
  · refine ⟨0, 1, fun W X hW hX => ?_, fun W hW => ?_⟩
    · obtain ⟨v, b, rfl, d1⟩ := hX
      obtain ⟨pa, pc, rfl, p1, p2⟩ := d1.at
      exact pround_no na pa un pc ea k0 _ W hno (kM _ rfl W pa pc p2)
    · exact rround_no na ua un uc ea k0 _ W hno (kV _ rfl W hW)
  · have hok : okN na un x ea = true := by
      cases h : okN na un x ea
      · exact absurd (fun e => by rw [h] at e; cases e) hno
      · rfl
    have hmo : ((k0 == 1) || (k0 == 2) || (k0 == 3)) = true := by
      cases h : ((k0 == 1) || (k0 == 2) || (k0 == 3))
      · exact absurd (fun _ => h) hno
      · rfl
    have hm := mode_eq hmo
    obtain rfl := okN_len hx hok
    have ok1 : Ok (na, x, ea) := hok
    have f1 := ok1.facts
    simp only at f1
    refine ⟨tfF na true x ea k0, 0, fun W X hW hX => ?_, fun W hW => ?_⟩
    · obtain ⟨v, b, rfl, d1⟩ := hX
      obtain ⟨pa, pc, e1, i1⟩ := dn_pn (s := na) (e := ea) d1
      obtain ⟨pa', pc', e2, p1, p2⟩ := d1.at
      simp only at e1 i1
      rw [e1]
      refine c24_1 na pa _ pc _ ea k0 W (fun W' g hW' hg => ?_) (fun W' => c48 k0 (by omega) W') (fun W' hW' => ?_)
      · have := maybe1 hg (i1.later hW') (by omega)
        rw [hok] at this
        exact this
      · exact c106 (neg := na) (e := ea) (mode := k0) ((hT.later hW).later hW') (i1.later hW') (by omega) (by omega) (by omega)
    · refine rround_1 na ua _ uc _ ea k0 W hmo (kV _ hok W hW) (fun W' hW' => ?_)
      by_cases hx0 : x = 0
      · have := f1.2.2.2.1 hx0
        simp only [Prod.mk.injEq] at this
        obtain ⟨rfl, rfl, rfl⟩ := this
        rw [tf_nought hm, dlen_zero]
        exact rto_0 _ _ _ _ _ _
      · rw [tf_bdy hm]
        exact rto (((h1.later hW).later hW').at_) h1.le (f1.2.2.2.2 hx0) (by omega) (by omega) (by omega) hm

theorem join_Sqrt {na : Bool} {ua : Option Addr} {un uc x : Nat} {ea k0 : Int} {w : World} (hT : Tab32 w) (h1 : Arg w ua un uc x) (hx : dlen x ≤ un) :
    ∃ F E,
      (∀ W X, Below w.heap.size w W → PI na un x ea W X → Calls Tryz.prog 39 #[X, .int .i64 k0] W fun r w' => Out2 W F E r w') ∧
      (∀ W, Below w.heap.size w W → Calls Tryz.prog 40 #[.agg #[.bool na, .slice ua un uc, .int .i64 ea], .int .i64 k0] W fun r w' => Out2 W F E r w') := by
  have kV : ∀ V, okN na un x ea = V → ∀ W, Below w.heap.size w W → ∀ W', Below W.heap.size W W' → Calls Tryz.prog 11 #[.agg #[.bool na, .slice ua un uc, .int .i64 ea]] W' fun r w' => r = .returned (.bool V) ∧ Below W'.heap.size W' w' := fun V hV W hW W' hW' => by
    have := rvalid (s := na) (e := ea) ((h1.later hW).later hW')
    rw [hV] at this
    exact this
  have hsm := h1.small
  have kM : ∀ V, okN na un x ea = V → ∀ W pa pc, At W pa un x → ∀ W' g, Below W.heap.size W W' → W'.heap[g]? = some (.cells #[.bool na, .slice pa un pc, .int .i64 ea] 25 (0, 0)) → Calls Tryz.prog 47 #[.slice (some ⟨g, 0, none⟩) 1 1] W' fun r w' => r = .returned (.bool V) ∧ Below W'.heap.size W' w' := fun V hV W pa pc p2 W' g hW' hg => by
    have := maybe1_at hg (p2.later hW') hsm
    rw [hV] at this
    exact this
  by_cases hno : okN na un x ea = true → ((k0 == 1) || (k0 == 2) || (k0 == 3)) = false
  · refine ⟨0, 1, fun W X hW hX => ?_, fun W hW => ?_⟩
    · obtain ⟨v, b, rfl, d1⟩ := hX
      obtain ⟨pa, pc, rfl, p1, p2⟩ := d1.at
      exact psqrt_no na pa un pc ea k0 _ W hno (kM _ rfl W pa pc p2)
    · exact rsqrt_no na ua un uc ea k0 _ W hno (kV _ rfl W hW)
  · have hok : okN na un x ea = true := by
      cases h : okN na un x ea
      · exact absurd (fun e => by rw [h] at e; cases e) hno
      · rfl
    have hmo : ((k0 == 1) || (k0 == 2) || (k0 == 3)) = true := by
      cases h : ((k0 == 1) || (k0 == 2) || (k0 == 3))
      · exact absurd (fun _ => h) hno
      · rfl
    have hm := mode_eq hmo
    cases na
    · obtain rfl := okN_len hx hok
      have ok1 : Ok (false, x, ea) := hok
      have f1 := ok1.facts
      simp only at f1
      have bx := bl_le_dlen x
      obtain ⟨k0', hk0⟩ : ∃ n : Nat, max 0 (128 - (bl x : Int)) = (n : Int) := ⟨(max 0 (128 - (bl x : Int))).toNat, by omega⟩
      have hdoc : ∀ (k q : Nat) (h2 : Int), ea - k = 2 * h2 → 128 ≤ bl x + k → q * q ≤ x * 2 ^ k → x * 2 ^ k < (q + 1) * (q + 1) → ∀ W, Below w.heap.size w W → Calls Tryz.prog 40 #[.agg #[.bool false, .slice ua (dlen x) uc, .int .i64 ea], .int .i64 k0] W fun r w' => Out2 W (tfF false (decide (q * q = x * 2 ^ k)) q h2 k0) 0 r w' := fun k q h2 hh hk a1 a2 W hW => by
        refine rsqrt_1 ua _ uc ea k0 _ W hmo (kV _ hok W hW) (fun W' hW' => ?_)
        by_cases hx0 : x = 0
        · subst hx0
          rw [Nat.zero_mul] at a1 a2 ⊢
          have hq : q = 0 := by
            rcases Nat.eq_zero_or_pos q with h | h
            · exact h
            · have := Nat.mul_pos h h; omega
          subst hq
          rw [decide_eq_true (by rfl), tf_nought hm, dlen_zero]
          exact rsqrtto_0 _ _ _ _ _ _
        · exact rsqrtto ((h1.later hW).later hW') f1.1 ⟨by omega, by omega⟩ hx0 hm hh a1 a2 hk
      by_cases hod : (ea - (k0' : Int)).tmod 2 = 0
      · obtain ⟨q, a1, a2⟩ := root_of (x * 2 ^ k0')
        have hdv : ea - (k0' : Int) = 2 * (ea - (k0' : Int)).tdiv 2 := by have := Int.mul_tdiv_add_tmod (ea - (k0' : Int)) 2; omega
        refine ⟨tfF false (decide (q * q = x * 2 ^ k0')) q ((ea - (k0' : Int)).tdiv 2) k0, 0, fun W X hW hX => ?_, hdoc k0' q _ hdv (by omega) a1 a2⟩
        obtain ⟨v, b, rfl, d1⟩ := hX
        obtain ⟨pa, pc, e1, i1⟩ := dn_pn (s := false) (e := ea) d1
        simp only at e1 i1
        rw [e1]
        refine (psqrt_e pa _ pc x k0' (bl x) ea k0 _ W (hT.later hW) i1 (by omega) (by omega) (by omega) (by omega) rfl (by omega) hk0 (by omega) (by rw [hod]; rfl) rfl (by omega) (by omega) (fun W' g hW' hg => ?_)).mono ?_
        · have := maybe1 hg (i1.later hW') (by omega)
          rw [hok] at this
          exact this
        · rintro r w' ⟨q', ⟨c1, c2⟩, rfl, hb⟩
          obtain rfl := root_one a1 a2 c1 c2
          exact ⟨rfl, hb⟩
      · obtain ⟨q, a1, a2⟩ := root_of (x * 2 ^ (k0' + 1))
        have hdv : ea - ((k0' + 1 : Nat) : Int) = 2 * (ea - ((k0' : Int) + 1)).tdiv 2 := by
          have h3 := Int.mul_tdiv_add_tmod (ea - ((k0' : Int) + 1)) 2
          have h5 : ¬ (2 ∣ ea - (k0' : Int)) := fun d => hod (Int.tmod_eq_zero_of_dvd d)
          have h4 : (ea - ((k0' : Int) + 1)).tmod 2 = 0 := Int.tmod_eq_zero_of_dvd (by omega)
          omega
        refine ⟨tfF false (decide (q * q = x * 2 ^ (k0' + 1))) q ((ea - ((k0' : Int) + 1)).tdiv 2) k0, 0, fun W X hW hX => ?_, hdoc (k0' + 1) q _ hdv (by omega) a1 a2⟩
        obtain ⟨v, b, rfl, d1⟩ := hX
        obtain ⟨pa, pc, e1, i1⟩ := dn_pn (s := false) (e := ea) d1
        simp only at e1 i1
        rw [e1]
        refine (psqrt_o pa _ pc x k0' (bl x) ea k0 _ W (hT.later hW) i1 (by omega) (by omega) (by omega) (by omega) rfl (by omega) hk0 (by omega) (by simpa using hod) rfl (by omega) (by omega) (fun W' g hW' hg => ?_)).mono ?_
        · have := maybe1 hg (i1.later hW') (by omega)
          rw [hok] at this
          exact this
        · rintro r w' ⟨q', ⟨c1, c2⟩, rfl, hb⟩
          obtain rfl := root_one a1 a2 c1 c2
          exact ⟨rfl, hb⟩
    · refine ⟨0, 7, fun W X hW hX => ?_, fun W hW => ?_⟩
      · obtain ⟨v, b, rfl, d1⟩ := hX
        obtain ⟨pa, pc, rfl, p1, p2⟩ := d1.at
        exact psqrt_dom pa un pc ea k0 W hmo (kM _ hok W pa pc p2)
      · exact rsqrt_dom ua un uc ea k0 W hmo (kV _ hok W hW)

theorem join_Ratio {na nb : Bool} {ua va : Option Addr} {un uc vn vc x y : Nat} {ea eb k0 : Int} {w : World} (hT : Tab32 w) (h1 : Arg w ua un uc x) (h2 : Arg w va vn vc y) (hx : dlen x ≤ un) (hy : dlen y ≤ vn) :
    ∃ F E,
      (∀ W X Y, Below w.heap.size w W → PI na un x ea W X → PI nb vn y eb W Y → Calls Tryz.prog 37 #[X, Y, .int .i64 k0] W fun r w' => Out2 W F E r w') ∧
      (∀ W, Below w.heap.size w W → Calls Tryz.prog 38 #[.agg #[.bool na, .slice ua un uc, .int .i64 ea], .agg #[.bool nb, .slice va vn vc, .int .i64 eb], .int .i64 k0] W fun r w' => Out2 W F E r w') := by
  have kK : ∀ V, (okN na un x ea && okN nb vn y eb) = V → ∀ W, Below w.heap.size w W → ∀ W' g, Below W.heap.size W W' → W'.heap[g]? = some (.cells #[.bool na, .slice ua un uc, .int .i64 ea, .bool nb, .slice va vn vc, .int .i64 eb] 24 (0, 0)) → Calls Tryz.prog 83 #[.slice (some ⟨g, 0, none⟩) 2 2] W' fun r w' => r = .returned (.bool V) ∧ Below W'.heap.size W' w' := fun V hV W hW W' g hW' hg => by
    have := rknown2 hg ((h1.later hW).later hW') ((h2.later hW).later hW')
    rw [hV] at this
    exact this
  have kM : ∀ V, (okN na un x ea && okN nb vn y eb) = V → ∀ W pa pc qa qc, At W pa un x → At W qa vn y → ∀ W' g, Below W.heap.size W W' → W'.heap[g]? = some (.cells #[.bool na, .slice pa un pc, .int .i64 ea, .bool nb, .slice qa vn qc, .int .i64 eb] 25 (0, 0)) → Calls Tryz.prog 47 #[.slice (some ⟨g, 0, none⟩) 2 2] W' fun r w' => r = .returned (.bool V) ∧ Below W'.heap.size W' w' := fun V hV W pa pc qa qc p2 q2 W' g hW' hg => by
    have := maybe2_at hg (p2.later hW') (q2.later hW') h1.small h2.small
    rw [hV] at this
    exact this
  by_cases hno : (okN na un x ea && okN nb vn y eb) = true → ((k0 == 1) || (k0 == 2) || (k0 == 3)) = false
  · refine ⟨0, 1, fun W X Y hW hX hY => ?_, fun W hW => ?_⟩
    · obtain ⟨v, b, rfl, d1⟩ := hX
      obtain ⟨v', b', rfl, d2⟩ := hY
      obtain ⟨pa, pc, rfl, p1, p2⟩ := d1.at
      obtain ⟨qa, qc, rfl, q1, q2⟩ := d2.at
      exact pratio_no na nb pa qa un pc vn qc ea eb k0 _ W hno (kM _ rfl W pa pc qa qc p2 q2)
    · exact rratio_no na nb ua va un uc vn vc ea eb k0 _ W hno (kK _ rfl W hW)
  · have hok : (okN na un x ea && okN nb vn y eb) = true := by
      cases h : (okN na un x ea && okN nb vn y eb)
      · exact absurd (fun e => by rw [h] at e; cases e) hno
      · rfl
    have hmo : ((k0 == 1) || (k0 == 2) || (k0 == 3)) = true := by
      cases h : ((k0 == 1) || (k0 == 2) || (k0 == 3))
      · exact absurd (fun _ => h) hno
      · rfl
    have hm := mode_eq hmo
    have hok2 := hok
    rw [Bool.and_eq_true] at hok2
    obtain ⟨o1, o2⟩ := hok2
    obtain rfl := okN_len hx o1
    obtain rfl := okN_len hy o2
    have ok1 : Ok (na, x, ea) := o1
    have ok2 : Ok (nb, y, eb) := o2
    have f1 := ok1.facts
    have f2 := ok2.facts
    simp only at f1 f2
    have bx := bl_le_dlen x
    have by' := bl_le_dlen y
    by_cases hy0 : y = 0
    · subst hy0
      refine ⟨0, 6, fun W X Y hW hX hY => ?_, fun W hW => ?_⟩
      · obtain ⟨v, b, rfl, d1⟩ := hX
        obtain ⟨v', b', rfl, d2⟩ := hY
        obtain ⟨pa, pc, rfl, p1, p2⟩ := d1.at
        obtain ⟨qa, qc, rfl, q1, q2⟩ := d2.at
        have km := kM _ hok W pa pc qa qc p2 q2
        rw [dlen_zero] at km ⊢
        exact pratio_z na nb pa qa _ pc qc ea eb k0 W hmo km
      · have kk := kK _ hok W hW
        rw [dlen_zero] at kk ⊢
        exact rratio_z na nb ua va _ uc vc ea eb k0 W hmo kk
    · have hn1 : ((dlen y : Int) == 0) = false := len_ne (n := 0) hy0
      by_cases hx0 : x = 0
      · subst hx0
        refine ⟨0, 0, fun W X Y hW hX hY => ?_, fun W hW => ?_⟩
        · obtain ⟨v, b, rfl, d1⟩ := hX
          obtain ⟨v', b', rfl, d2⟩ := hY
          obtain ⟨pa, pc, rfl, p1, p2⟩ := d1.at
          obtain ⟨qa, qc, rfl, q1, q2⟩ := d2.at
          have km := kM _ hok W pa pc qa qc p2 q2
          rw [dlen_zero] at km ⊢
          exact pratio_a0 na nb pa qa pc _ qc ea eb k0 W hmo hn1 km
        · have kk := kK _ hok W hW
          rw [dlen_zero] at kk ⊢
          exact rratio_1 na nb ua va _ uc _ vc ea eb k0 0 W hmo hn1 kk (fun W' hW' => rratioto_0 _ _ _ _ _ _ _ _ _ _ _)
      · have hn0 : ((dlen x : Int) == 0) = false := len_ne (n := 0) hx0
        obtain ⟨k, hk⟩ : ∃ n : Nat, max 0 (64 + (bl y : Int) - (bl x : Int)) = (n : Int) := ⟨(max 0 (64 + (bl y : Int) - (bl x : Int))).toNat, by omega⟩
        refine ⟨tfF (na != nb) (decide (x * 2 ^ k % y = 0)) (x * 2 ^ k / y) (ea - eb - k) k0, 0, fun W X Y hW hX hY => ?_, fun W hW => ?_⟩
        · obtain ⟨v, b, rfl, d1⟩ := hX
          obtain ⟨v', b', rfl, d2⟩ := hY
          obtain ⟨pa, pc, e1, i1⟩ := dn_pn (s := na) (e := ea) d1
          obtain ⟨qa, qc, e2, i2⟩ := dn_pn (s := nb) (e := eb) d2
          simp only at e1 i1 e2 i2
          rw [e1, e2]
          refine pratio_1 na nb pa qa _ pc _ qc x y k (bl x) (bl y) ea eb k0 (na != nb) W (rfl : (!(na == nb)) = (na != nb)) (hT.later hW) i1 i2 (by omega) (by omega) hy0 (by omega) (by omega) (by omega) (by omega) (by omega) rfl rfl (by omega) (by omega) hk (by omega) hn0 hn1 (fun W' g hW' hg => ?_)
          have := maybe2 hg (i1.later hW') (i2.later hW') (by omega) (by omega)
          rw [o1, o2] at this
          exact this
        · exact rratio_1 na nb ua va _ uc _ vc ea eb k0 _ W hmo hn1 (kK _ hok W hW) (fun W' hW' => rratioto ((h1.later hW).later hW') ((h2.later hW).later hW') f1.1 f2.1 ⟨by omega, by omega⟩ ⟨by omega, by omega⟩ hx0 hy0 hm hk)

theorem dyadRounds_ok (ng : Nat → Bool) (ao : Nat → Option Addr) (ln cp z : Nat → Nat) (e : Nat → Int) (P0 : Int) (w : World) (hA : ∀ i, i < 2 → Arg w (ao i) (ln i) (cp i) (z i)) (he : ∀ i, -9223372036854775808 ≤ e i ∧ e i ≤ 9223372036854775807) (hzl : ∀ i, i < 2 → dlen (z i) ≤ ln i) (hP0 : -9223372036854775808 ≤ P0 ∧ P0 ≤ 9223372036854775807)
    (hT : Tab32 w) (hI : Ie.Tab w) (h10 : Tab10 w) :
    Calls Tryz.prog 6 #[.agg #[.bool (ng 0), .slice (ao 0) (ln 0) (cp 0), .int .i64 (e 0)], .agg #[.bool (ng 1), .slice (ao 1) (ln 1) (cp 1), .int .i64 (e 1)], .int .i64 P0] w fun r w' => r = .returned (.bool true) ∧ Below w.heap.size w w' := by
  obtain ⟨F1, E1, k1, q1⟩ := join_Round (na := ng 0) (ea := e 0) (k0 := P0) hT (hA 0 (by omega)) (hzl 0 (by omega))
  obtain ⟨F2, E2, k2, q2⟩ := join_Ratio (na := ng 0) (nb := ng 1) (ea := e 0) (eb := e 1) (k0 := P0) hT (hA 0 (by omega)) (hA 1 (by omega)) (hzl 0 (by omega)) (hzl 1 (by omega))
  obtain ⟨F3, E3, k3, q3⟩ := join_Sqrt (na := ng 0) (ea := e 0) (k0 := P0) hT (hA 0 (by omega)) (hzl 0 (by omega))
  exact lawR_1 ng ao ln cp z e P0 w hA (PX := PI (ng 0) (ln 0) (z 0) (e 0)) (PY := PI (ng 1) (ln 1) (z 1) (e 1)) (F1 := F1) (F2 := F2) (F3 := F3) (E1 := E1) (E2 := E2) (E3 := E3)
    { lPX := PI.lasts _ _ _ _, lPY := PI.lasts _ _ _ _,
      k1 := k1, q1 := q1, k2 := k2, q2 := q2, k3 := k3, q3 := q3,
      gx := fun W v hW ⟨b, h⟩ => ⟨v, b, rfl, h⟩, gy := fun W v hW ⟨b, h⟩ => ⟨v, b, rfl, h⟩,
      works := fun W hW => works_ok W (hT.later hW) (Tab.later hI hW) (h10.later hW) }
end Go.Proofs.YtmhpicccfaklcaaGreatDoor
