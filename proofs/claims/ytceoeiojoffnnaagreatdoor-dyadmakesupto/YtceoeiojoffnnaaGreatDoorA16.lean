/- Own work: contracts of the program's functions, part A16. -/
import Derived.Test.YtceoeiojoffnnaaGreatDoorA5
import Derived.Test.YtceoeiojoffnnaaGreatDoorA11

/- The document's trim. -/
namespace Go.Proofs.YtceoeiojoffnnaaGreatDoor
set_option linter.unusedVariables false
set_option linter.unusedSimpArgs false
open Go.RowKit

theorem r40 (ao : Option Addr) (n cap x : Nat) (w : World) (hx : dlen x ≤ n) (hn : n ≤ cap) (hc : n ≤ 70368744177664) (h : At w ao n x) :
    Calls Tryz.prog 40 #[.slice ao n cap] w fun e w' => e = .returned (.slice ao (dlen x) cap) ∧ w' = w := by
  obtain ⟨b, o, hb, hcell⟩ := h
  go_enter Tryz.func40, Tryz.ntmps40
  go_wp2
  go_loop [3] (fun v => ∃ k : Nat, k ≤ n ∧ v = .int .i64 (k : Int) ∧ dlen x ≤ k) (fun v => (intOf v).toNat)
  case atStart => exact ⟨n, Nat.le_refl _, rfl, hx⟩
  case round =>
    obtain ⟨k, hk, rfl, hd⟩ := hrel
    by_cases h0 : k = 0
    · subst h0
      have e : dlen x = 0 := by omega
      clear hd hx
      go_wp2
      go_ret
      exact ⟨rfl, rfl⟩
    · obtain ⟨j, rfl⟩ : ∃ j, k = j + 1 := ⟨k - 1, by omega⟩
      have hj : j < n := by omega
      obtain rfl := hb (by omega)
      have g := hcell j hj
      have HD : Hid (dlen x ≤ j + 1) := hd
      clear hd hcell hx
      generalize hq : dg x j = q at g
      have HQ : Hid (dg x j = q) := hq
      clear hq
      by_cases hq0 : q = 0
      · subst hq0
        go_wp2
        exact ⟨⟨j, by omega, by simp, dlen_down HD.out (by omega) HQ.out⟩, by simp [intOf]⟩
      · have hq1 : ((q : Int) == 0) = false := by simp; exact hq0
        go_wp2
        go_ret
        rw [dlen_here HD.out (.inr (by rw [Nat.add_sub_cancel, HQ.out]; exact hq0))]
        exact ⟨rfl, rfl⟩
end Go.Proofs.YtceoeiojoffnnaaGreatDoor

/- The document's down. -/
namespace Go.Proofs.YtceoeiojoffnnaaGreatDoor
set_option linter.unusedVariables false
set_option linter.unusedSimpArgs false
open Go.RowKit

theorem cells_succ (x n : Nat) : cells x (n + 1) = cells x n ++ [.int .u32 (dg x n : Nat)] := by
  simp [cells, List.range_succ]
/-- a row that append made: its digits can be read -/
theorem at_of_row {w : World} {base : Nat} {v : Value} {y n : Nat} (h : w.ownsRow base 39 1 v n (cells y n)) :
    ∃ ao cap, v = .slice ao n cap ∧ n ≤ cap ∧ At w ao n y := by
  rcases h.2 with ⟨hv, h0⟩ | ⟨g, cap, c, hv, hb, hc, h1, h2, h3, h4⟩
  · exact ⟨none, 0, by rw [hv, h0], by omega, 0, 0, fun h => by omega, fun i hi => by omega⟩
  · refine ⟨_, cap, hv, h1, g, 0, fun _ => rfl, fun i hi => ?_⟩
    have h5 : (cells y n)[i]? = c[i]? := by
      rw [← h4, Nat.mul_one, List.getElem?_take, if_pos hi, Array.getElem?_toList]
    rw [cells_get hi] at h5
    rw [Nat.zero_add]
    simp [World.cell?, hc, ← h5]
theorem at_short {w : World} {ao : Option Addr} {n m y : Nat} (h : At w ao n y) (hm : m ≤ n) : At w ao m y := by
  obtain ⟨b, o, h1, h2⟩ := h
  exact ⟨b, o, fun h => h1 (by omega), fun i hi => h2 i (by omega)⟩

theorem r64_round {x k whole j m : Nat} {w wr w' : World} {q : Int} {v v' : Value} (hq : q = (dg (x / 2 ^ k) j : Nat)) (hj : j < m) (hB : Below w.heap.size w wr) (ho : wr.ownsRow w.heap.size 39 1 v j (cells (x / 2 ^ k) j))
    (ho' : w'.ownsRow w.heap.size 39 1 v' (j + 1) (cells (x / 2 ^ k) j ++ [.int .u32 q])) (hg : (wr.alloc (.cells #[.int .u32 q] 39)).grownBy w' v.ownBlock) :
    (∃ j_1 : Nat, j_1 ≤ m ∧ Value.int .i64 ((whole : Int) + j + 1) = Value.int .i64 ((whole : Int) + j_1) ∧ w'.ownsRow w.heap.size 39 1 v' j_1 (cells (x / 2 ^ k) j_1) ∧ Below w.heap.size w w') ∧
    m - (intOf (Value.int .i64 ((whole : Int) + j + 1)) - whole).toNat < m - (intOf (Value.int .i64 ((whole : Int) + j)) - whole).toNat := by
  refine ⟨⟨j + 1, by omega, by simp [Int.add_assoc], by rw [cells_succ, ← hq]; exact ho', ?_⟩, by simp [intOf]; omega⟩
  exact (hB.alloc hB.size _).grown hg (by simp; have := hB.size; omega) (fun k hk => (ho.lt k hk).1)

set_option maxHeartbeats 2000000 in
set_option maxRecDepth 200000 in
theorem r64_1 (b o cap m whole part x k : Nat) (w : World) (hm0 : 0 < m) (hm : m ≤ 17592186044416) (hk : k ≤ 1099511627776) (hcap : whole + m ≤ cap) (hwh : k / 32 = whole) (hpa : k % 32 = part)
    (hn : dlen x = whole + m) (hcell : ∀ i, i < whole + m → w.cell? ⟨b, o + i, none⟩ = some (.int .u32 (dg x i : Nat))) :
    Calls Tryz.prog 64 #[.slice (some ⟨b, o, none⟩) (whole + m : Nat) cap, .int .i64 k] w fun e w' => ∃ ao cap' bb, e = .returned (.tuple #[.slice ao (dlen (x / 2 ^ k)) cap', .bool bb]) ∧ At w' ao (dlen (x / 2 ^ k)) (x / 2 ^ k) ∧ dlen (x / 2 ^ k) ≤ cap' ∧ Below w.heap.size w w' := by
  have hq : (k : Int).tdiv 32 = ((k / 32 : Nat) : Int) := by rw [Int.tdiv_eq_ediv_of_nonneg (by omega)]; rfl
  have hr : (k : Int).tmod 32 = ((k % 32 : Nat) : Int) := by rw [Int.tmod_eq_emod_of_nonneg (by omega)]; rfl
  have hwb : whole ≤ 1099511627776 := by omega
  have hpb : part < 32 := by omega
  rw [hwh] at hq
  rw [hpa] at hr
  have HN : Hid (dlen x = whole + m) := hn
  have HW : Hid (k / 32 = whole) := hwh
  have HP : Hid (k % 32 = part) := hpa
  clear hn hwh hpa
  have hmi : (whole : Int) < ((whole + m : Nat) : Int) := by omega
  go_enter Tryz.func64, Tryz.ntmps64
  go_wp2
  go_loop [6, 7] (fun a v => ∃ (bb : Bool) (i : Nat), a = .bool bb ∧ v = .int .i64 (i : Int) ∧ i ≤ whole) (fun _ v => whole - (intOf v).toNat)
  case atStart => exact ⟨true, 0, rfl, rfl, Nat.zero_le _⟩
  case round =>
    obtain ⟨bb, i, rfl, rfl, hi⟩ := hrel
    by_cases hiw : i < whole
    · have g1 := hcell i (by omega)
      generalize dg x i = d at *
      have hii : (i : Int) < (whole : Int) := by omega
      clear hcell
      cases bb
      · go_wp2
        exact ⟨⟨_, i + 1, rfl, by simp, by omega⟩, by simp [intOf]; omega⟩
      · go_wp2
        exact ⟨⟨_, i + 1, rfl, by simp, by omega⟩, by simp [intOf]; omega⟩
    · obtain rfl : i = whole := by omega
      clear hiw hi
      have HC : Hid (∀ i_1 : Nat, i_1 < i + m → w.cell? { block := b, off := o + i_1 } = some (Value.int IntKind.u32 ↑(dg x i_1))) := hcell
      go_wp2_with fail
      all_goals
        clear hq hmi hr hcell
        go_loopw [9, 10] (fun v c wr => ∃ j : Nat, j ≤ m ∧ c = .int .i64 ((i : Int) + j) ∧ wr.ownsRow w.heap.size 39 1 v j (cells (x / 2 ^ k) j) ∧ Below w.heap.size w wr) (fun _ c _ => m - (intOf c - i).toNat)
        case atStart => exact ⟨0, Nat.zero_le _, by simp, World.ownsRow_nil .., Below.refl _ _⟩
        case round =>
          obtain ⟨j, hj, rfl, ho, hB⟩ := hrel
          have HO : Hid (wr.ownsRow w.heap.size 39 1 u9 j (cells (x / 2 ^ k) j)) := ho
          have HB : Hid (Below w.heap.size w wr) := hB
          have hbs : w.heap.size ≤ wr.heap.size := hB.size
          by_cases hjn : j + 1 < m
          · have g1 := (hB.cell (World.block_lt_of_cell? _ _ (HC.out (i + j) (by omega)))).trans (HC.out (i + j) (by omega))
            have g4 := (hB.cell (World.block_lt_of_cell? _ _ (HC.out (i + j + 1) (by omega)))).trans (HC.out (i + j + 1) (by omega))
            have hji : (j : Int) + 1 < (m : Int) := by omega
            generalize hd : dg x (i + j) = d at *
            generalize hd1 : dg x (i + j + 1) = d1 at *
            have HD : Hid (dg x (i + j) = d) := hd
            have HD1 : Hid (dg x (i + (j + 1)) = d1) := hd1
            have HL : Hid (d < B ∧ d1 < B) := ⟨hd ▸ dg_lt _ _, hd1 ▸ dg_lt _ _⟩
            clear hd hd1 hB
            obtain ⟨i0, hi0, hz0, hz1, hz2⟩ := info_parts Tryz.info39
            go_wp2_with (at_builtin; refine wpList_append_own _ rfl _ _ 23 rfl w.heap.size 39 i0 (.int .u32 0) 1 4 Tryz.underlying23 hi0 hz0 hz1 hz2 rfl (by decide) _ _ _ rfl (ho.alloc _) ⟨wr.heap.size, 0, none⟩ 1 1 [.int .u32 (bits BinOp.or IntKind.u64 (IntKind.u64.wrap (d : Int)) (IntKind.u64.wrap (IntKind.u64.wrap (d1 : Int) * 4294967296)) / 2 ^ part % 4294967296)] rfl rfl (cell_one_new _ _ _) (by intro u hu; simp at hu; subst hu; rfl) (by unfold maxLen; omega) (by omega) (by simp; omega) ?_)
            intro v' w4 hown4 hgrow _
            go_wp2
            exact r64_round (by rw [shr_word2 HL.out.1 HL.out.2, shr_digit HW.out HP.out, HD.out, HD1.out]) (by omega) HB.out HO.out hown4 hgrow
          · by_cases hjm : j < m
            · have g1 := (hB.cell (World.block_lt_of_cell? _ _ (HC.out (i + j) (by omega)))).trans (HC.out (i + j) (by omega))
              have hji : ¬ (j : Int) + 1 < (m : Int) := by omega
              have hji2 : (j : Int) < (m : Int) := by omega
              generalize hd : dg x (i + j) = d at *
              have HD : Hid (dg x (i + j) = d) := hd
              have HL : Hid (d < B) := hd ▸ dg_lt _ _
              have HZ : Hid (dg x (i + (j + 1)) = 0) := dg_past (by rw [HN.out]; omega)
              clear hd hB
              obtain ⟨i0, hi0, hz0, hz1, hz2⟩ := info_parts Tryz.info39
              go_wp2_with (at_builtin; refine wpList_append_own _ rfl _ _ 23 rfl w.heap.size 39 i0 (.int .u32 0) 1 4 Tryz.underlying23 hi0 hz0 hz1 hz2 rfl (by decide) _ _ _ rfl (ho.alloc _) ⟨wr.heap.size, 0, none⟩ 1 1 [.int .u32 (IntKind.u64.wrap (d : Int) / 2 ^ part % 4294967296)] rfl rfl (cell_one_new _ _ _) (by intro u hu; simp at hu; subst hu; rfl) (by unfold maxLen; omega) (by omega) (by simp; omega) ?_)
              intro v' w4 hown4 hgrow _
              go_wp2
              exact r64_round (by rw [shr_word1 HL.out, shr_digit HW.out HP.out, HD.out, HZ.out, Nat.zero_mul, Nat.add_zero]) (by omega) HB.out HO.out hown4 hgrow
            · obtain rfl : j = m := by omega
              have hL := shr_len (k := k) (m := j) (by rw [HW.out]; exact HN.out)
              obtain ⟨ao', cap', rfl, hc', hA⟩ := at_of_row ho
              have HA : Hid (At wr ao' (dlen (x / 2 ^ k)) (x / 2 ^ k) ∧ dlen (x / 2 ^ k) ≤ cap') := ⟨at_short hA hL, by omega⟩
              have k40 := r40 ao' j cap' (x / 2 ^ k) wr hL hc' (by omega) hA
              clear hB ho hA
              go_wp2_with (first | (go_at_call 40; refine k40.mono ?_; rintro e w' ⟨rfl, rfl⟩))
              refine bodyPost_ret (results_tmp2 rfl _ _ _) rfl ?_
              exact ⟨_, _, _, rfl, HA.out.1, HA.out.2, HB.out⟩
end Go.Proofs.YtceoeiojoffnnaaGreatDoor

/- The document's norm. -/
namespace Go.Proofs.YtceoeiojoffnnaaGreatDoor
set_option linter.unusedVariables false
set_option linter.unusedSimpArgs false
open Go.RowKit

theorem Tryz.info29 : (Tryz.prog.info? 29).map (·.size) = some 3 := by kernel_rfl
theorem r64 {ao : Option Addr} {n cap x : Nat} {w : World} (hn : dlen x = n) (hc : n ≤ cap) (h : At w ao n x) (k : Nat) (hx : dlen x ≤ 17592186044416) (hk : k / 32 < dlen x) (hk2 : k ≤ 1099511627776) :
    Calls Tryz.prog 64 #[.slice ao n cap, .int .i64 k] w fun e w' => ∃ ao cap' bb, e = .returned (.tuple #[.slice ao (dlen (x / 2 ^ k)) cap', .bool bb]) ∧ At w' ao (dlen (x / 2 ^ k)) (x / 2 ^ k) ∧ dlen (x / 2 ^ k) ≤ cap' ∧ Below w.heap.size w w' := by
  obtain ⟨b, o, hb, hcell⟩ := h
  subst hn
  obtain rfl := hb (by omega)
  obtain ⟨m, hm⟩ : ∃ m, dlen x = k / 32 + m := ⟨dlen x - k / 32, by omega⟩
  rw [hm] at hcell hc ⊢
  exact r64_1 b o cap m _ _ x k w (by omega) (by omega) hk2 hc rfl rfl hm hcell
theorem store3_29 {w : World} {g : Nat} {a b c : Value} (a' b' c' : Value) (h : w.heap[g]? = some (.cells #[a, b, c] 29 (0, 0))) :
    (((w.setCell ⟨g, 0, none⟩ a').setCell ⟨g, 1, none⟩ b').setCell ⟨g, 2, none⟩ c').heap[g]? = some (.cells #[a', b', c'] 29 (0, 0)) := by
  simp [World.setCell, Array.getElem?_modify, h]
theorem box_cells29 {w : World} {g : Nat} {a b c : Value} (h : w.heap[g]? = some (.cells #[a, b, c] 29 (0, 0))) :
    (w.cell? ⟨g, 0, none⟩ = some a ∧ w.cell? ⟨g, 1, none⟩ = some b ∧ w.cell? ⟨g, 2, none⟩ = some c) ∧ (w.frozen? ⟨g, 0, none⟩ = false ∧ w.frozen? ⟨g, 1, none⟩ = false ∧ w.frozen? ⟨g, 2, none⟩ = false) := by
  simp [World.cell?, World.frozen?, h]
/-- what the document's norm makes -/
def Nr (w' : World) (base : Nat) (a : Value) (neg : Bool) (x : Nat) (e : Int) : Prop :=
  (x = 0 ∧ a = NumV false (.slice none 0 0) 0) ∨ (x ≠ 0 ∧ ∃ g cap, a = NumV neg (.slice (some ⟨g, 0, none⟩) (dlen (x / 2 ^ tz x)) cap) (e + tz x) ∧ base ≤ g ∧ At w' (some ⟨g, 0, none⟩) (dlen (x / 2 ^ tz x)) (x / 2 ^ tz x))

set_option maxHeartbeats 2000000 in
set_option maxRecDepth 200000 in
theorem r34_0 (neg : Bool) (ao : Option Addr) (n cap : Nat) (e : Int) (w : World) (h : At w ao n 0) (hn : n ≤ cap) (hc : n ≤ 70368744177664) :
    Calls Tryz.prog 34 #[.bool neg, .slice ao n cap, .int .i64 e] w fun e w' => e = .returned (.agg #[.bool false, .slice none 0 0, .int .i64 0]) ∧ Below w.heap.size w w' := by
  have HB : Hid (Below w.heap.size w (w.alloc (.cells #[.bool false, .slice none 0 0, .int .i64 0] 29))) := (Below.refl _ _).alloc (Nat.le_refl _) _
  have k := r40 ao n cap 0 (w.alloc (.cells #[.bool false, .slice none 0 0, .int .i64 0] 29)) (by rw [dlen_zero]; omega) hn hc (h.later HB.out)
  rw [dlen_zero] at k
  clear h
  go_enter Tryz.func34, Tryz.ntmps34
  go_wp2_with fail
  refine k.mono ?_
  rintro e w1 ⟨rfl, rfl⟩
  go_wp2
  refine bodyPost_ret (results_cell_row rfl _ _ w.heap.size 29 #[.bool false, .slice none 0 0, .int .i64 0] (0, 0) _ rfl (heap_alloc_new _ _) Tryz.underlying29 rfl Tryz.info29) rfl ?_
  exact ⟨rfl, HB.out⟩

theorem and_one32 (a : Nat) (h : a < 4294967296) : bits .and .u32 (a : Int) 1 = ((a % 2 : Nat) : Int) := by
  have e := u32_and_nat a 1 h (by decide)
  rw [show ((1 : Nat) : Int) = 1 from rfl] at e
  rw [e, Nat.and_one_is_mod]
theorem bit_tz {x t i p d T : Nat} (hT : tz x = T) (hx : x ≠ 0) (ht : t ≤ T) (h : t / 32 = i ∧ t % 32 = p ∧ dg x i = d) : (bits BinOp.and IntKind.u32 ((d : Int) / 2 ^ p) 1 == 0) = decide (t < T) := by
  obtain ⟨rfl, rfl, rfl⟩ := h
  subst hT
  have hl := dg_lt x (t / 32)
  have e1 : ((dg x (t / 32) : Nat) : Int) / 2 ^ (t % 32) = ((dg x (t / 32) / 2 ^ (t % 32) : Nat) : Int) := by simp
  have hl2 : dg x (t / 32) / 2 ^ (t % 32) < 4294967296 := Nat.lt_of_le_of_lt (Nat.div_le_self ..) hl
  rw [e1, and_one32 _ hl2]
  have e2 : dg x (t / 32) / 2 ^ (t % 32) % 2 = x / 2 ^ t % 2 := by
    unfold dg
    rw [two_split (k := t), ← Nat.div_div_eq_div_mul]
    generalize x / B ^ (t / 32) = y
    have hp : t % 32 < 32 := Nat.mod_lt _ (by omega)
    generalize t % 32 = p at *
    have e3 : B = 2 ^ p * 2 ^ (32 - p) := by rw [← Nat.pow_add]; unfold B; have : p + (32 - p) = 32 := by omega
                                             rw [this]
    have e4 : 2 ^ (32 - p) = 2 * 2 ^ (31 - p) := by have : 32 - p = (31 - p) + 1 := by omega
                                                    rw [this, Nat.pow_succ, Nat.mul_comm]
    rw [e3, Nat.mod_mul_right_div_self, e4, Nat.mod_mul_right_mod]
  rw [e2]
  obtain ⟨h1, h2⟩ := tz_spec _ x (Nat.le_refl _) hx
  by_cases ht2 : t < tz x
  · have e5 : x / 2 ^ t % 2 = 0 := by
      obtain ⟨k, hk⟩ : ∃ k, tz x = t + (k + 1) := ⟨tz x - t - 1, by omega⟩
      rw [← h1]
      generalize x / 2 ^ tz x = y
      rw [hk, Nat.pow_add, Nat.mul_assoc, Nat.mul_div_cancel_left _ (Nat.two_pow_pos t), Nat.pow_succ, Nat.mul_comm (2 ^ k) 2, Nat.mul_assoc, Nat.mul_mod_right]
    rw [e5]; simp [ht2]
  · have : t = tz x := by omega
    subst this
    rw [h2]; simp

set_option maxHeartbeats 2000000 in
set_option maxRecDepth 200000 in
theorem r34_1 (neg : Bool) (ao : Option Addr) (n cap x : Nat) (e : Int) (w : World) (h : At w ao n x) (hxn : dlen x ≤ n) (hn : n ≤ cap) (hc : n ≤ 1000000000) (hx0 : x ≠ 0) (he : -4611686018427387904 ≤ e ∧ e ≤ 4611686018427387904) :
    Calls Tryz.prog 34 #[.bool neg, .slice ao n cap, .int .i64 e] w fun r w' => ∃ g cap', r = .returned (.agg #[.bool neg, .slice (some ⟨g, 0, none⟩) (dlen (x / 2 ^ tz x)) cap', .int .i64 (e + tz x)]) ∧ w.heap.size ≤ g ∧ At w' (some ⟨g, 0, none⟩) (dlen (x / 2 ^ tz x)) (x / 2 ^ tz x) ∧ Below w.heap.size w w' := by
  obtain ⟨w0, hw0⟩ : ∃ w0, w0 = w.alloc (.cells #[.bool false, .slice none 0 0, .int .i64 0] 29) := ⟨_, rfl⟩
  have hB0 : Below w.heap.size w w0 := by rw [hw0]; exact (Below.refl _ _).alloc (Nat.le_refl _) _
  have h0 := h.later hB0
  have k40 := r40 ao n cap x w0 hxn hn (by omega) h0
  have htz : tz x / 32 < dlen x := by
    have h1 := (tz_spec _ x (Nat.le_refl _) hx0)
    have h2 : 2 ^ tz x ≤ x := by
      have h3 : 1 ≤ x / 2 ^ tz x := Nat.pos_of_ne_zero fun e0 => by have := h1.2; rw [e0] at this; simp at this
      have := Nat.mul_le_mul_left (2 ^ tz x) h3
      omega
    have h4 := lt_bl x
    have h5 : tz x < bl x := Nat.lt_of_not_le fun h6 => by
      have := Nat.pow_le_pow_right (n := 2) (by omega) h6
      omega
    have hd0 : dlen x ≠ 0 := fun e => hx0 (dlen_eq_zero.1 e)
    have := bl_top hx0
    have := bl_le32 (dg_lt x (dlen x - 1))
    omega
  have hs := at_short h0 hxn
  have k64 := r64 rfl (by omega : dlen x ≤ cap) hs (tz x) (by omega) htz (by omega)
  have hl0 : 0 < dlen x := by omega
  have hn0 : ((dlen x : Int) == 0) = false := by simp; omega
  have HS : Hid (At w0 ao (dlen x) x) := hs
  have HH : Hid (w0.heap[w.heap.size]? = some (.cells #[.bool false, .slice none 0 0, .int .i64 0] 29 (0, 0))) := (by rw [hw0]; exact heap_alloc_new _ _ : w0.heap[w.heap.size]? = some (.cells #[.bool false, .slice none 0 0, .int .i64 0] 29 (0, 0)))
  have HB0 : Hid (Below w.heap.size w w0) := hB0
  have HX : Hid (w0.heap.size = w.heap.size + 1) := (by rw [hw0]; simp : w0.heap.size = w.heap.size + 1)
  have HT : Hid (tz x / 32 < dlen x ∧ x ≠ 0) := ⟨htz, hx0⟩
  obtain ⟨he1, he2⟩ := he
  have hlb : dlen x ≤ 1000000000 := by omega
  clear h h0 hB0 hs hxn hn hx0
  generalize hL : dlen x = L at *
  generalize htzx : tz x = T at *
  have HTZ : Hid (tz x = T ∧ dlen x = L) := ⟨htzx, hL⟩
  clear htzx hL
  have hTb : T ≤ 40000000000 := by omega
  go_enter Tryz.func34, Tryz.ntmps34
  go_wp2_with fail
  rw [← hw0]
  clear hw0
  refine k40.mono ?_
  rintro r w1 ⟨rfl, rfl⟩
  clear k40
  go_wp2_with fail
  go_loop [7] (fun v => ∃ t : Nat, t ≤ T ∧ v = .int .i64 (t : Int)) (fun v => T - (intOf v).toNat)
  case atStart => exact ⟨0, Nat.zero_le _, rfl⟩
  case round =>
    obtain ⟨t, ht, rfl⟩ := hrel
    obtain ⟨b, o, hb, hcell⟩ := HS.out
    obtain rfl := hb (by omega)
    have hq : (t : Int).tdiv 32 = ((t / 32 : Nat) : Int) := by rw [Int.tdiv_eq_ediv_of_nonneg (by omega)]; rfl
    have hr : (t : Int).tmod 32 = ((t % 32 : Nat) : Int) := by rw [Int.tmod_eq_emod_of_nonneg (by omega)]; rfl
    have htl : t / 32 < L := by omega
    have g1 := hcell (t / 32) htl
    have hpb : t % 32 < 32 := by omega
    generalize hi : t / 32 = i at *
    generalize hp : t % 32 = p at *
    generalize hd : dg x i = d at *
    have HI : Hid (t / 32 = i ∧ t % 32 = p ∧ dg x i = d) := ⟨hi, hp, hd⟩
    have hbit := bit_tz HTZ.out.1 HT.out.2 ht HI.out
    clear hi hp hd hcell hb
    by_cases htt : t < T
    · rw [decide_eq_true htt] at hbit
      go_wp2_with fail
      exact ⟨⟨t + 1, by omega, by simp⟩, by simp [intOf]; omega⟩
    · rw [decide_eq_false htt] at hbit
      obtain rfl : t = T := by omega
      clear htt ht
      go_wp2_with fail
      refine k64.mono ?_
      rintro r w3 ⟨ao3, cap3, bb, rfl, hA3, hc3, hB3⟩
      clear k64 hq hr hbit g1
      have HH3 : Hid (w3.heap[w.heap.size]? = some (.cells #[.bool false, .slice none 0 0, .int .i64 0] 29 (0, 0))) := box_later HH.out hB3 (by have := HX.out; omega)
      obtain ⟨⟨a1, a2, a3⟩, a4, a5, a6⟩ := box_cells29 HH3.out
      have HA3 : Hid (At w3 ao3 (dlen (x / 2 ^ t)) (x / 2 ^ t) ∧ Below w1.heap.size w1 w3) := ⟨hA3, hB3⟩
      clear hA3 hB3
      have hyo : x / 2 ^ t % 2 = 1 := by rw [← HTZ.out.1]; exact (tz_spec _ x (Nat.le_refl _) HT.out.2).2
      have hy0 : 0 < dlen (x / 2 ^ t) := Nat.pos_of_ne_zero fun e => by rw [dlen_eq_zero.1 e] at hyo; simp at hyo
      have hyl : dlen (x / 2 ^ t) ≤ 1000000000 := by
        have h1 : dlen (x / 2 ^ t) ≤ dlen x := dlen_mono (Nat.div_le_self ..)
        rw [HTZ.out.2] at h1; omega
      obtain ⟨b3, o3, hb3, hc3'⟩ := HA3.out.1
      obtain rfl := hb3 hy0
      have HN : Hid (∀ j u, (cells (x / 2 ^ t) (dlen (x / 2 ^ t)))[j]? = some u → (w3.alloc (Obj.cells (madeCells #[Value.int IntKind.u32 0] 0) 39)).cell? ((⟨b3, o3, none⟩ : Addr).add j) = some u) := fun j u hj => by
        have hjl : j < dlen (x / 2 ^ t) := by
          have := (List.getElem?_eq_some_iff.1 hj).1
          rwa [cells_length] at this
        rw [cells_get hjl] at hj
        have hcl := hc3' j hjl
        rw [show (⟨b3, o3, none⟩ : Addr).add j = ⟨b3, o3 + j, none⟩ by simp [Addr.add]]
        rw [World.cell?_alloc_old _ _ _ (by have := World.block_lt_of_cell? _ _ hcl; show b3 ≠ w3.heap.size; simp at this; omega)]
        rw [← hj]; exact hcl
      have hOM : (w3.alloc (Obj.cells (madeCells #[Value.int IntKind.u32 0] 0) 39)).ownsRow w3.heap.size 39 1 (.slice (some ⟨w3.heap.size, 0, none⟩) 0 0) 0 [] := World.ownsRow_made w3 _ 0 (Nat.le_refl _) (by unfold maxLen; omega) (by simp [madeCells])
      have hmk := run_make_row' (P := Tryz.prog) 23 39 (.int .u32 0) 4 Tryz.underlying23 Tryz.info39 rfl .i64 .i64 0 (by omega) (by omega) w3
      rw [show ((0 : Nat) : Int) = 0 from rfl] at hmk
      clear hc3' hb3 hyo
      generalize hy : x / 2 ^ t = y at *
      have HY : Hid (x / 2 ^ t = y) := hy
      clear hy
      generalize hM : dlen y = M at *
      have HM : Hid (dlen y = M) := hM
      clear hM
      have hM0 : M ≠ 0 := by omega
      obtain ⟨i0, hi0, hz0, hz1, hz2⟩ := info_parts Tryz.info39
      go_wp2_with (at_builtin; refine wpList_append_own _ rfl _ _ 23 rfl w3.heap.size 39 i0 (.int .u32 0) 1 4 Tryz.underlying23 hi0 hz0 hz1 hz2 rfl (by decide) _ 0 [] rfl hOM ⟨b3, o3, none⟩ M cap3 (cells y M) rfl (by rw [cells_length, Nat.mul_one]) HN.out (by intro u hu; simp [cells] at hu; obtain ⟨j, -, rfl⟩ := hu; rfl) (by unfold maxLen; omega) (by omega) (by simp) ?_)
      intro v' w4 hown4 hgrow _
      have hsz := HX.out
      have hs3 := HA3.out.2.size
      have hh4 : w4.heap[w.heap.size]? = some (.cells #[.bool false, .slice none 0 0, .int .i64 0] 29 (0, 0)) := by
        rw [hgrow.block _ (by simp; omega) (fun e => by simp [Value.ownBlock] at e; omega), Lib.alloc_old w3 _ _ (by omega)]
        exact HH3.out
      obtain ⟨⟨a1, a2, a3⟩, a4, a5, a6⟩ := box_cells29 hh4
      have HR : Hid (w4.ownsRow w3.heap.size 39 1 v' M (cells y M) ∧ w4.heap[w.heap.size]? = some (.cells #[.bool false, .slice none 0 0, .int .i64 0] 29 (0, 0))) := ⟨hown4, hh4⟩
      have HG : Hid (Below w3.heap.size w3 w4) := Below.grown ((Below.refl w3.heap.size w3).alloc (Nat.le_refl _) _) hgrow (by simp) (fun k hk => by simp [Value.ownBlock] at hk; omega)
      obtain ⟨g4, cap4, cur4, rfl, hg4, -⟩ := (hown4.2.resolve_left fun h => hM0 h.2)
      clear hown4 hh4 hgrow HN hOM
      go_wp2
      refine bodyPost_ret (results_cell_row rfl _ _ w.heap.size 29 #[.bool neg, .slice (some ⟨g4, 0, none⟩) M cap4, .int .i64 (e + t)] (0, 0) _ rfl (store3_29 _ _ _ HR.out.2) Tryz.underlying29 rfl Tryz.info29) rfl ?_
      obtain ⟨ao5, cap5, hv5, -, hA5⟩ := at_of_row HR.out.1
      simp only [Value.slice.injEq] at hv5
      obtain ⟨rfl, -, rfl⟩ := hv5
      obtain ⟨b5, o5, hb5, hc5⟩ := hA5
      have hb5' := hb5 (by omega)
      simp only [Option.some.injEq, Addr.mk.injEq] at hb5'
      obtain ⟨rfl, rfl, -⟩ := hb5'
      rw [HY.out, HM.out]
      refine ⟨_, _, rfl, by omega, ⟨g4, 0, fun _ => rfl, fun j hj => ?_⟩, below_store3 (HB0.out.trans ((HA3.out.2.trans (HG.out.mono hs3)).mono (by omega))) (Nat.le_refl _) _ _ _⟩
      rw [World.cell?_setCell_other _ _ _ _ (by intro e; simp at e), World.cell?_setCell_other _ _ _ _ (by intro e; simp at e), World.cell?_setCell_other _ _ _ _ (by intro e; simp at e)]
      exact hc5 j hj

theorem r34 {neg : Bool} {ao : Option Addr} {n cap x : Nat} {e : Int} {w : World} (h : At w ao n x) (hxn : dlen x ≤ n) (hn : n ≤ cap) (hc : n ≤ 1000000000) (he : -4611686018427387904 ≤ e ∧ e ≤ 4611686018427387904) :
    Calls Tryz.prog 34 #[.bool neg, .slice ao n cap, .int .i64 e] w fun r w' => ∃ a, r = .returned a ∧ Nr w' w.heap.size a neg x e ∧ Below w.heap.size w w' := by
  by_cases h0 : x = 0
  · subst h0
    refine (r34_0 neg ao n cap e w h hn (by omega)).mono ?_
    rintro r w' ⟨rfl, hb⟩
    exact ⟨_, rfl, .inl ⟨rfl, rfl⟩, hb⟩
  · refine (r34_1 neg ao n cap x e w h hxn hn hc h0 he).mono ?_
    rintro r w' ⟨g, cap', rfl, hg, ho, hb⟩
    exact ⟨_, rfl, .inr ⟨h0, g, cap', rfl, hg, ho⟩, hb⟩
end Go.Proofs.YtceoeiojoffnnaaGreatDoor

/- The document's Float, Of, Whole. -/
namespace Go.Proofs.YtceoeiojoffnnaaGreatDoor
set_option linter.unusedVariables false
set_option linter.unusedSimpArgs false
open Go.RowKit Go.Fl64

theorem two_at (m : Nat) (w : World) (hm : m < 18446744073709551616) : At (w.alloc (Obj.cells #[Value.int IntKind.u32 ((m : Int) % 4294967296), Value.int IntKind.u32 ((m : Int) / 4294967296)] 39)) (some ⟨w.heap.size, 0, none⟩) 2 m := by
  have hM : Mk w (w.alloc (Obj.cells #[Value.int IntKind.u32 ((m : Int) % 4294967296), Value.int IntKind.u32 ((m : Int) / 4294967296)] 39)) 2 (dg m) := by
    refine ⟨(Below.refl _ _).alloc (Nat.le_refl _) _, by simp, World.rowIs_alloc w _ _ _ fun i hi => ?_⟩
    match i, hi with
    | 0, _ => simp [dg, B]
    | 1, _ => simp [dg, B]; omega
  exact hM.at
theorem Nr.shape {w : World} {base : Nat} {a : Value} {neg : Bool} {x : Nat} {e : Int} (h : Nr w base a neg x e) : ∃ s ao n cap ex, a = .agg #[.bool s, .slice ao n cap, .int .i64 ex] := by
  rcases h with ⟨_, rfl⟩ | ⟨_, ao, cap, rfl, -⟩
  · exact ⟨_, _, _, _, _, rfl⟩
  · exact ⟨_, _, _, _, _, rfl⟩
theorem cell_far3 {w : World} {g : Nat} {q : Addr} (h : q.block ≠ g) (a b c : Value) : (((w.setCell ⟨g, 0, none⟩ a).setCell ⟨g, 1, none⟩ b).setCell ⟨g, 2, none⟩ c).cell? q = w.cell? q := by
  have h1 : ∀ i, (⟨g, i, none⟩ : Addr) ≠ q := fun i e => h (by rw [← e])
  rw [World.cell?_setCell_other _ _ _ _ (h1 2), World.cell?_setCell_other _ _ _ _ (h1 1), World.cell?_setCell_other _ _ _ _ (h1 0)]
theorem Nr.store {w : World} {base : Nat} {a : Value} {neg : Bool} {x : Nat} {e : Int} (h : Nr w base a neg x e) {g : Nat} (hg : g < base) (p q r : Value) : Nr (((w.setCell ⟨g, 0, none⟩ p).setCell ⟨g, 1, none⟩ q).setCell ⟨g, 2, none⟩ r) base a neg x e := by
  rcases h with h | ⟨h0, g', cap, h1, h2, b, o, h3, h4⟩
  · exact .inl h
  · refine .inr ⟨h0, g', cap, h1, h2, b, o, h3, fun i hi => ?_⟩
    have h5 := h3 (by omega)
    simp only [Option.some.injEq, Addr.mk.injEq] at h5
    obtain ⟨rfl, rfl, -⟩ := h5
    rw [cell_far3 (by show g' ≠ g; omega)]
    exact h4 i hi
theorem Nr.mono {w : World} {base base' : Nat} {a : Value} {neg : Bool} {x : Nat} {e : Int} (h : Nr w base a neg x e) (hb : base' ≤ base) : Nr w base' a neg x e := by
  rcases h with h | ⟨h0, g', cap, h1, h2, h3⟩
  · exact .inl h
  · exact .inr ⟨h0, g', cap, h1, Nat.le_trans hb h2, h3⟩
theorem Nr.later {w w' : World} {base : Nat} {a : Value} {neg : Bool} {x : Nat} {e : Int} (h : Nr w base a neg x e) (hb : Below w.heap.size w w') : Nr w' base a neg x e := by
  rcases h with h | ⟨h0, g', cap, h1, h2, h3⟩
  · exact .inl h
  · exact .inr ⟨h0, g', cap, h1, h2, h3.later hb⟩

/-- the tail of Float and Whole: two digits in a row, norm, the box -/
theorem norm_two {ng : Bool} {m : Nat} {e : Int} {W : World} (hm : m < 18446744073709551616) (he : -4611686018427387904 ≤ e ∧ e ≤ 4611686018427387904) :
    Calls Tryz.prog 34 #[.bool ng, .slice (some ⟨W.heap.size, 0, none⟩) 2 2, .int .i64 e] (W.alloc (Obj.cells #[Value.int IntKind.u32 ((m : Int) % 4294967296), Value.int IntKind.u32 ((m : Int) / 4294967296)] 39)) fun r w' => ∃ s ao n cap ex, r = .returned (.agg #[.bool s, .slice ao n cap, .int .i64 ex]) ∧ Nr w' (W.heap.size + 1) (.agg #[.bool s, .slice ao n cap, .int .i64 ex]) ng m e ∧ Below W.heap.size W w' := by
  have hL : dlen m ≤ 2 := (dlen_le 2 m).2 (by unfold B; omega)
  refine (r34 (two_at m W hm) hL (Nat.le_refl _) (by omega) he).mono ?_
  rintro r w' ⟨a, rfl, hn, hb⟩
  obtain ⟨s, ao, n, cap, ex, rfl⟩ := hn.shape
  refine ⟨_, _, _, _, _, rfl, hn.mono (by simp), ?_⟩
  exact ((Below.refl W.heap.size W).alloc (Nat.le_refl _) _).trans (hb.mono (by simp))

set_option maxRecDepth 200000 in
theorem r33_0 (a m : Nat) (w : World) (ng : Bool) (hX : bits .and .u64 ((a : Int) / 4503599627370496) 2047 = 0) (hand : bits .and .u64 (a : Int) 4503599627370495 = (m : Int)) (hng : ((a : Int) / 9223372036854775808 == 1) = ng) (hm : m < 18446744073709551616) :
    Calls Tryz.prog 33 #[.float .f64 a] w fun r w' => ∃ A, r = .returned A ∧ Nr w' w.heap.size A ng m (-1074) ∧ Below w.heap.size w w' := by
  have kb := Ie.run_bits
  obtain ⟨W, hW⟩ : ∃ W, W = w.alloc (.cells #[.bool false, .slice none 0 0, .int .i64 0] 29) := ⟨_, rfl⟩
  have k34 := norm_two (ng := ng) (m := m) (e := (-1074)) (W := W) hm (by omega)
  have HB0 : Hid (Below w.heap.size w W ∧ W.heap[w.heap.size]? = some (.cells #[.bool false, .slice none 0 0, .int .i64 0] 29 (0, 0)) ∧ W.heap.size = w.heap.size + 1) := ⟨by rw [hW]; exact (Below.refl _ _).alloc (Nat.le_refl _) _, by rw [hW]; exact heap_alloc_new _ _, by rw [hW]; simp⟩
  rw [HB0.out.2.2] at k34
  go_enter Tryz.func33, Tryz.ntmps33
  go_wp2_with fail
  rw [← hW]
  clear hW
  refine k34.mono ?_
  rintro r w3 ⟨s, ao, n, cap, ex, rfl, hn, hb⟩
  have hs := HB0.out.2.2
  have HC3 : Hid (w3.heap[w.heap.size]? = some (.cells #[.bool false, .slice none 0 0, .int .i64 0] 29 (0, 0))) := box_later HB0.out.2.1 hb (by omega)
  obtain ⟨⟨a1, a2, a3⟩, a4, a5, a6⟩ := box_cells29 HC3.out
  have HN : Hid (Nr w3 (w.heap.size + 1) (.agg #[.bool s, .slice ao n cap, .int .i64 ex]) ng m (-1074) ∧ Below (w.heap.size + 1) W w3) := ⟨hn.mono (by omega), hb⟩
  clear hn hb k34 hs
  go_wp2
  refine bodyPost_ret (results_cell_row rfl _ _ w.heap.size 29 #[.bool s, .slice ao n cap, .int .i64 ex] (0, 0) _ rfl (store3_29 _ _ _ HC3.out) Tryz.underlying29 rfl Tryz.info29) rfl ?_
  have hs := HB0.out.2.2
  exact ⟨_, rfl, (HN.out.1.store (by omega) _ _ _).mono (by omega), below_store3 (HB0.out.1.trans (HN.out.2.mono (by omega))) (Nat.le_refl _) _ _ _⟩

set_option maxRecDepth 200000 in
theorem r33_1 (a m0 m : Nat) (X : Int) (w : World) (ng : Bool) (hX : bits .and .u64 ((a : Int) / 4503599627370496) 2047 = X) (hX0 : (X == 0) = false) (hX1 : 0 ≤ X) (hX2 : X < 2048) (hand : bits .and .u64 (a : Int) 4503599627370495 = (m0 : Int)) (hor : bits .or .u64 (m0 : Int) 4503599627370496 = (m : Int)) (hng : ((a : Int) / 9223372036854775808 == 1) = ng) (hm : m < 18446744073709551616) :
    Calls Tryz.prog 33 #[.float .f64 a] w fun r w' => ∃ A, r = .returned A ∧ Nr w' w.heap.size A ng m (X - 1075) ∧ Below w.heap.size w w' := by
  have kb := Ie.run_bits
  obtain ⟨W, hW⟩ : ∃ W, W = w.alloc (.cells #[.bool false, .slice none 0 0, .int .i64 0] 29) := ⟨_, rfl⟩
  have k34 := norm_two (ng := ng) (m := m) (e := (X - 1075)) (W := W) hm (by omega)
  have HB0 : Hid (Below w.heap.size w W ∧ W.heap[w.heap.size]? = some (.cells #[.bool false, .slice none 0 0, .int .i64 0] 29 (0, 0)) ∧ W.heap.size = w.heap.size + 1) := ⟨by rw [hW]; exact (Below.refl _ _).alloc (Nat.le_refl _) _, by rw [hW]; exact heap_alloc_new _ _, by rw [hW]; simp⟩
  rw [HB0.out.2.2] at k34
  go_enter Tryz.func33, Tryz.ntmps33
  go_wp2_with fail
  rw [← hW]
  clear hW
  refine k34.mono ?_
  rintro r w3 ⟨s, ao, n, cap, ex, rfl, hn, hb⟩
  have hs := HB0.out.2.2
  have HC3 : Hid (w3.heap[w.heap.size]? = some (.cells #[.bool false, .slice none 0 0, .int .i64 0] 29 (0, 0))) := box_later HB0.out.2.1 hb (by omega)
  obtain ⟨⟨a1, a2, a3⟩, a4, a5, a6⟩ := box_cells29 HC3.out
  have HN : Hid (Nr w3 (w.heap.size + 1) (.agg #[.bool s, .slice ao n cap, .int .i64 ex]) ng m (X - 1075) ∧ Below (w.heap.size + 1) W w3) := ⟨hn.mono (by omega), hb⟩
  clear hn hb k34 hs
  go_wp2
  refine bodyPost_ret (results_cell_row rfl _ _ w.heap.size 29 #[.bool s, .slice ao n cap, .int .i64 ex] (0, 0) _ rfl (store3_29 _ _ _ HC3.out) Tryz.underlying29 rfl Tryz.info29) rfl ?_
  have hs := HB0.out.2.2
  exact ⟨_, rfl, (HN.out.1.store (by omega) _ _ _).mono (by omega), below_store3 (HB0.out.1.trans (HN.out.2.mono (by omega))) (Nat.le_refl _) _ _ _⟩

set_option maxRecDepth 200000 in
theorem r13_1 (n : Int) (m : Nat) (w : World) (hm : m < 18446744073709551616) (hn1 : 0 ≤ n) (hn2 : n ≤ 9223372036854775807) (hwr : IntKind.u64.wrap n = (m : Int)) :
    Calls Tryz.prog 13 #[.int .i64 n] w fun r w' => ∃ A, r = .returned A ∧ Nr w' w.heap.size A false m 0 ∧ Below w.heap.size w w' := by
  have hnn : ¬ n < 0 := by omega
  obtain ⟨W, hW⟩ : ∃ W, W = w.alloc (.cells #[.bool false, .slice none 0 0, .int .i64 0] 29) := ⟨_, rfl⟩
  have k34 := norm_two (ng := false) (m := m) (e := 0) (W := W) hm (by omega)
  have HB0 : Hid (Below w.heap.size w W ∧ W.heap[w.heap.size]? = some (.cells #[.bool false, .slice none 0 0, .int .i64 0] 29 (0, 0)) ∧ W.heap.size = w.heap.size + 1) := ⟨by rw [hW]; exact (Below.refl _ _).alloc (Nat.le_refl _) _, by rw [hW]; exact heap_alloc_new _ _, by rw [hW]; simp⟩
  rw [HB0.out.2.2] at k34
  go_enter Tryz.func13, Tryz.ntmps13
  go_wp2_with fail
  rw [← hW]
  clear hW
  refine k34.mono ?_
  rintro r w3 ⟨s, ao, n, cap, ex, rfl, hn, hb⟩
  have hs := HB0.out.2.2
  have HC3 : Hid (w3.heap[w.heap.size]? = some (.cells #[.bool false, .slice none 0 0, .int .i64 0] 29 (0, 0))) := box_later HB0.out.2.1 hb (by omega)
  obtain ⟨⟨a1, a2, a3⟩, a4, a5, a6⟩ := box_cells29 HC3.out
  have HN : Hid (Nr w3 (w.heap.size + 1) (.agg #[.bool s, .slice ao n cap, .int .i64 ex]) false m 0 ∧ Below (w.heap.size + 1) W w3) := ⟨hn.mono (by omega), hb⟩
  clear hn hb k34 hs
  go_wp2
  refine bodyPost_ret (results_cell_row rfl _ _ w.heap.size 29 #[.bool s, .slice ao n cap, .int .i64 ex] (0, 0) _ rfl (store3_29 _ _ _ HC3.out) Tryz.underlying29 rfl Tryz.info29) rfl ?_
  have hs := HB0.out.2.2
  exact ⟨_, rfl, (HN.out.1.store (by omega) _ _ _).mono (by omega), below_store3 (HB0.out.1.trans (HN.out.2.mono (by omega))) (Nat.le_refl _) _ _ _⟩

set_option maxRecDepth 200000 in
theorem r13_2 (n : Int) (m : Nat) (w : World) (hm : m < 18446744073709551616) (hn1 : n < 0) (hn2 : -9223372036854775808 ≤ n) (hwr : -(n + 1) + 1 = (m : Int)) :
    Calls Tryz.prog 13 #[.int .i64 n] w fun r w' => ∃ A, r = .returned A ∧ Nr w' w.heap.size A true m 0 ∧ Below w.heap.size w w' := by
  obtain ⟨W, hW⟩ : ∃ W, W = w.alloc (.cells #[.bool false, .slice none 0 0, .int .i64 0] 29) := ⟨_, rfl⟩
  have k34 := norm_two (ng := true) (m := m) (e := 0) (W := W) hm (by omega)
  have HB0 : Hid (Below w.heap.size w W ∧ W.heap[w.heap.size]? = some (.cells #[.bool false, .slice none 0 0, .int .i64 0] 29 (0, 0)) ∧ W.heap.size = w.heap.size + 1) := ⟨by rw [hW]; exact (Below.refl _ _).alloc (Nat.le_refl _) _, by rw [hW]; exact heap_alloc_new _ _, by rw [hW]; simp⟩
  rw [HB0.out.2.2] at k34
  go_enter Tryz.func13, Tryz.ntmps13
  go_wp2_with fail
  rw [← hW]
  clear hW
  refine k34.mono ?_
  rintro r w3 ⟨s, ao, n, cap, ex, rfl, hn, hb⟩
  have hs := HB0.out.2.2
  have HC3 : Hid (w3.heap[w.heap.size]? = some (.cells #[.bool false, .slice none 0 0, .int .i64 0] 29 (0, 0))) := box_later HB0.out.2.1 hb (by omega)
  obtain ⟨⟨a1, a2, a3⟩, a4, a5, a6⟩ := box_cells29 HC3.out
  have HN : Hid (Nr w3 (w.heap.size + 1) (.agg #[.bool s, .slice ao n cap, .int .i64 ex]) true m 0 ∧ Below (w.heap.size + 1) W w3) := ⟨hn.mono (by omega), hb⟩
  clear hn hb k34 hs
  go_wp2
  refine bodyPost_ret (results_cell_row rfl _ _ w.heap.size 29 #[.bool s, .slice ao n cap, .int .i64 ex] (0, 0) _ rfl (store3_29 _ _ _ HC3.out) Tryz.underlying29 rfl Tryz.info29) rfl ?_
  have hs := HB0.out.2.2
  exact ⟨_, rfl, (HN.out.1.store (by omega) _ _ _).mono (by omega), below_store3 (HB0.out.1.trans (HN.out.2.mono (by omega))) (Nat.le_refl _) _ _ _⟩

theorem r13 {n : Int} {w : World} (hn : -9223372036854775808 ≤ n ∧ n ≤ 9223372036854775807) :
    Calls Tryz.prog 13 #[.int .i64 n] w fun r w' => ∃ a, r = .returned a ∧ Nr w' w.heap.size a (decide (n < 0)) n.natAbs 0 ∧ Below w.heap.size w w' := by
  by_cases h : n < 0
  · rw [decide_eq_true h]
    exact r13_2 n n.natAbs w (by omega) h (by omega) (by omega)
  · rw [decide_eq_false h]
    exact r13_1 n n.natAbs w (by omega) (by omega) (by omega) (by rw [IntKind.wrap_u64]; omega)

theorem and_2047 (x : Nat) (h : x < 18446744073709551616) : bits .and .u64 (x : Int) 2047 = ((x % 2048 : Nat) : Int) := by
  have e := u64_and_nat x 2047 h (by decide)
  rw [show ((2047 : Nat) : Int) = 2047 from rfl] at e
  rw [e]
  congr 1
  have := Nat.and_two_pow_sub_one_eq_mod x 11
  simpa using this

theorem r33 (a : Nat) (ha : a < 18446744073709551616) (w : World) :
    Calls Tryz.prog 33 #[.float .f64 a] w fun r w' => ∃ A, r = .returned A ∧ Nr w' w.heap.size A (neg a) (Ie.mant a) (Ie.lp a) ∧ Below w.heap.size w w' := by
  have hX : bits .and .u64 ((a : Int) / 4503599627370496) 2047 = ((mag a / 4503599627370496 : Nat) : Int) := by
    have e : (a : Int) / 4503599627370496 = ((a / 4503599627370496 : Nat) : Int) := by omega
    rw [e, and_2047 _ (by omega)]
    congr 1
    unfold mag
    omega
  have hand : bits .and .u64 (a : Int) 4503599627370495 = ((mag a % 4503599627370496 : Nat) : Int) := by
    rw [Ie.and_mant a ha]
    congr 1
    unfold mag
    omega
  have hng : ((a : Int) / 9223372036854775808 == 1) = neg a := by
    unfold neg
    rw [Bool.beq_eq_decide_eq]
    congr 1
    apply propext
    omega
  have hml : mag a < 9223372036854775808 := by unfold mag; omega
  by_cases h0 : mag a < 4503599627370496
  · have e1 : mag a / 4503599627370496 = 0 := by omega
    have e2 : mag a % 4503599627370496 = mag a := by omega
    rw [e1] at hX
    rw [e2] at hand
    have e3 : Ie.mant a = mag a := by unfold Ie.mant; rw [if_pos h0]
    have e4 : Ie.lp a = -1074 := by unfold Ie.lp; rw [e1]; omega
    rw [e3, e4]
    exact r33_0 a (mag a) w (neg a) hX hand hng (by omega)
  · have e3 : Ie.mant a = 4503599627370496 + mag a % 4503599627370496 := by unfold Ie.mant; rw [if_neg h0]
    have e4 : Ie.lp a = ((mag a / 4503599627370496 : Nat) : Int) - 1075 := by unfold Ie.lp; omega
    rw [e3, e4]
    exact r33_1 a _ _ _ w (neg a) hX (by rw [Bool.beq_eq_decide_eq]; simp; omega) (by omega) (by omega) hand (Ie.or_mant _ (by omega)) hng (by omega)
end Go.Proofs.YtceoeiojoffnnaaGreatDoor

/- The document's Of. -/
namespace Go.Proofs.YtceoeiojoffnnaaGreatDoor
set_option linter.unusedVariables false
set_option linter.unusedSimpArgs false
open Go.RowKit Go.Fl64

set_option maxRecDepth 200000 in
theorem r10_nan (a : Nat) (w : World) (h1 : (FloatKind.f64.format.order a a != some Ordering.eq) = true) :
    Calls Tryz.prog 10 #[.float .f64 a] w fun r w' => r = .returned (.tuple #[.agg #[.bool false, .slice none 0 0, .int .i64 0], .int .i64 4]) ∧ Below w.heap.size w w' := by
  have HB0 : Hid (Below w.heap.size w (w.alloc (.cells #[.bool false, .slice none 0 0, .int .i64 0] 29))) := (Below.refl _ _).alloc (Nat.le_refl _) _
  go_enter Tryz.func10, Tryz.ntmps10
  go_wp2
  refine bodyPost_ret (results_cell_tmp_row rfl _ _ w.heap.size 29 #[.bool false, .slice none 0 0, .int .i64 0] (0, 0) _ rfl (heap_alloc_new _ _) Tryz.underlying29 rfl Tryz.info29) rfl ?_
  exact ⟨rfl, HB0.out⟩
set_option maxRecDepth 200000 in
theorem r10_inf (a : Nat) (w : World) (p q : Bool) (h1 : (FloatKind.f64.format.order a a != some Ordering.eq) = false) (h2 : (FloatKind.f64.format.order a 9218868437227405311 == some Ordering.gt) = p) (h3 : (FloatKind.f64.format.order a 18442240474082181119 == some Ordering.lt) = q) (hpq : (p || q) = true) :
    Calls Tryz.prog 10 #[.float .f64 a] w fun r w' => r = .returned (.tuple #[.agg #[.bool false, .slice none 0 0, .int .i64 0], .int .i64 5]) ∧ Below w.heap.size w w' := by
  have HB0 : Hid (Below w.heap.size w (w.alloc (.cells #[.bool false, .slice none 0 0, .int .i64 0] 29))) := (Below.refl _ _).alloc (Nat.le_refl _) _
  cases p
  · obtain rfl : q = true := by simpa using hpq
    go_enter Tryz.func10, Tryz.ntmps10
    go_wp2
    refine bodyPost_ret (results_cell_tmp_row rfl _ _ w.heap.size 29 #[.bool false, .slice none 0 0, .int .i64 0] (0, 0) _ rfl (heap_alloc_new _ _) Tryz.underlying29 rfl Tryz.info29) rfl ?_
    exact ⟨rfl, HB0.out⟩
  · go_enter Tryz.func10, Tryz.ntmps10
    go_wp2
    refine bodyPost_ret (results_cell_tmp_row rfl _ _ w.heap.size 29 #[.bool false, .slice none 0 0, .int .i64 0] (0, 0) _ rfl (heap_alloc_new _ _) Tryz.underlying29 rfl Tryz.info29) rfl ?_
    exact ⟨rfl, HB0.out⟩
set_option maxRecDepth 200000 in
theorem r10_fin (a : Nat) (w : World) (ng : Bool) (m : Nat) (e : Int) (h1 : (FloatKind.f64.format.order a a != some Ordering.eq) = false) (h2 : (FloatKind.f64.format.order a 9218868437227405311 == some Ordering.gt) = false) (h3 : (FloatKind.f64.format.order a 18442240474082181119 == some Ordering.lt) = false)
    (k33 : ∀ w, Calls Tryz.prog 33 #[.float .f64 a] w fun r w' => ∃ A, r = .returned A ∧ Nr w' w.heap.size A ng m e ∧ Below w.heap.size w w') :
    Calls Tryz.prog 10 #[.float .f64 a] w fun r w' => ∃ A, r = .returned (.tuple #[A, .int .i64 0]) ∧ Nr w' w.heap.size A ng m e ∧ Below w.heap.size w w' := by
  obtain ⟨W, hW⟩ : ∃ W, W = w.alloc (.cells #[.bool false, .slice none 0 0, .int .i64 0] 29) := ⟨_, rfl⟩
  have k := k33 W
  have HB0 : Hid (Below w.heap.size w W ∧ W.heap[w.heap.size]? = some (.cells #[.bool false, .slice none 0 0, .int .i64 0] 29 (0, 0)) ∧ W.heap.size = w.heap.size + 1) := ⟨by rw [hW]; exact (Below.refl _ _).alloc (Nat.le_refl _) _, by rw [hW]; exact heap_alloc_new _ _, by rw [hW]; simp⟩
  clear k33
  go_enter Tryz.func10, Tryz.ntmps10
  go_wp2_with fail
  rw [← hW]
  clear hW
  refine k.mono ?_
  rintro r w3 ⟨A, rfl, hn, hb⟩
  obtain ⟨s, ao, n, cap, ex, rfl⟩ := hn.shape
  have hs := HB0.out.2.2
  have HC3 : Hid (w3.heap[w.heap.size]? = some (.cells #[.bool false, .slice none 0 0, .int .i64 0] 29 (0, 0))) := box_later HB0.out.2.1 hb (by omega)
  obtain ⟨⟨a1, a2, a3⟩, a4, a5, a6⟩ := box_cells29 HC3.out
  have HN : Hid (Nr w3 (w.heap.size + 1) (.agg #[.bool s, .slice ao n cap, .int .i64 ex]) ng m e ∧ Below (w.heap.size + 1) W w3) := ⟨hn.mono (by omega), by rw [← hs]; exact hb⟩
  clear hn hb k hs
  go_wp2
  refine bodyPost_ret (results_cell_tmp_row rfl _ _ w.heap.size 29 #[.bool s, .slice ao n cap, .int .i64 ex] (0, 0) _ rfl (store3_29 _ _ _ HC3.out) Tryz.underlying29 rfl Tryz.info29) rfl ?_
  have hs := HB0.out.2.2
  exact ⟨_, rfl, (HN.out.1.store (by omega) _ _ _).mono (by omega), below_store3 (HB0.out.1.trans (HN.out.2.mono (by omega))) (Nat.le_refl _) _ _ _⟩

theorem big_nan : isNaN 9218868437227405311 = false ∧ isNaN 18442240474082181119 = false := by decide
theorem stp_big : stp 9218868437227405311 = 9218868437227405311 ∧ stp 18442240474082181119 = -9218868437227405311 := by decide
theorem sgn_mag (a : Nat) : stp a = (mag a : Int) ∧ neg a = false ∨ stp a = -(mag a : Int) ∧ neg a = true := by
  unfold stp sgn
  cases neg a
  · exact .inl ⟨rfl, rfl⟩
  · exact .inr ⟨rfl, rfl⟩
theorem of_ref (a : Nat) (ha : a < 18446744073709551616) (w : World) :
    Calls Tryz.prog 10 #[.float .f64 a] w fun r w' =>
      (9218868437227405312 < mag a ∧ r = .returned (.tuple #[.agg #[.bool false, .slice none 0 0, .int .i64 0], .int .i64 4]) ∨
       mag a = 9218868437227405312 ∧ r = .returned (.tuple #[.agg #[.bool false, .slice none 0 0, .int .i64 0], .int .i64 5]) ∨
       mag a < 9218868437227405312 ∧ ∃ A, r = .returned (.tuple #[A, .int .i64 0]) ∧ Nr w' w.heap.size A (neg a) (Ie.mant a) (Ie.lp a)) ∧ Below w.heap.size w w' := by
  have h2 := ord_gt a 9218868437227405311 ha (by omega)
  have h3 := ord_lt a 18442240474082181119 ha (by omega)
  have h1 := self_ne a ha
  have hs := sgn_mag a
  rcases Nat.lt_trichotomy (mag a) 9218868437227405312 with h | h | h
  · have hn : isNaN a = false := by unfold isNaN; exact decide_eq_false (by omega)
    rw [hn] at h1
    have e2 : lt 9218868437227405311 a = false := by unfold lt; rw [big_nan.1, hn, stp_big.1]; simp; omega
    have e3 : lt a 18442240474082181119 = false := by unfold lt; rw [big_nan.2, hn, stp_big.2]; simp; omega
    rw [e2] at h2; rw [e3] at h3
    refine (r10_fin a w (neg a) (Ie.mant a) (Ie.lp a) h1 h2 h3 fun w => r33 a ha w).mono ?_
    rintro r w' ⟨A, rfl, hN, hb⟩
    exact ⟨.inr (.inr ⟨h, A, rfl, hN⟩), hb⟩
  · have hn : isNaN a = false := by unfold isNaN; exact decide_eq_false (by omega)
    rw [hn] at h1
    refine (r10_inf a w _ _ h1 h2 h3 ?_).mono ?_
    · unfold lt
      rw [big_nan.1, big_nan.2, hn, stp_big.1, stp_big.2]
      simp
      omega
    · rintro r w' ⟨rfl, hb⟩
      exact ⟨.inr (.inl ⟨h, rfl⟩), hb⟩
  · have hn : isNaN a = true := by unfold isNaN; exact decide_eq_true h
    rw [hn] at h1
    refine (r10_nan a w h1).mono ?_
    rintro r w' ⟨rfl, hb⟩
    exact ⟨.inl ⟨h, rfl⟩, hb⟩
end Go.Proofs.YtceoeiojoffnnaaGreatDoor
