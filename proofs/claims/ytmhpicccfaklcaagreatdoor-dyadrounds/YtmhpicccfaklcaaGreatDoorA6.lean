/- Own work: contracts of the program's functions, part 6: R2 R3 W38 W39 W40 W34 W28 W29 W35 W41. -/
import Derived.Test.YtmhpicccfaklcaaGreatDoorA5
import Derived.Deep.RegionHeld3
import Derived.Laws.AppendOwnNone
import Derived.Lib.SliceRun
import Derived.Laws.IdiomStrings
import Derived.Deep.CutRange

/- The document's down. -/
namespace Go.Proofs.YtmhpicccfaklcaaGreatDoor
set_option linter.unusedVariables false
set_option linter.unusedSimpArgs false
open Go.RowKit

theorem cells_succ (x n : Nat) : cells x (n + 1) = cells x n ++ [.int .u32 (dg x n : Nat)] := by
  simp [cells, List.range_succ]
/-- a row that append made: its digits can be read -/
theorem at_of_row {w : World} {base : Nat} {v : Value} {y n : Nat} (h : w.ownsRow base 65 1 v n (cells y n)) :
    ∃ ao cap, v = .slice ao n cap ∧ n ≤ cap ∧ At w ao n y := by
  rcases h.2 with ⟨hv, h0⟩ | ⟨g, cap, c, hv, hb, hc, h1, h2, h3, h4⟩
  · exact ⟨none, 0, by rw [hv, h0], by omega, 0, 0, fun h => by omega, fun i hi => by omega⟩
  · refine ⟨_, cap, hv, h1, g, 0, fun _ => rfl, fun i hi => ?_⟩
    have h5 : (cells y n)[i]? = c[i]? := by
      rw [← h4, Nat.mul_one, List.getElem?_take, if_pos hi, Array.getElem?_toList]
    rw [cells_get hi] at h5
    rw [Nat.zero_add]
    simp [World.cell?, hc, ← h5]
theorem at_short {w : World} {ao : Option Addr} {n m y : Nat} (h : At w ao n y) (hm : m ≤ n) : At w ao m y := by
  obtain ⟨b, o, h1, h2⟩ := h
  exact ⟨b, o, fun h => h1 (by omega), fun i hi => h2 i (by omega)⟩

theorem r64_round {x k whole j m : Nat} {w wr w' : World} {q : Int} {v v' : Value} (hq : q = (dg (x / 2 ^ k) j : Nat)) (hj : j < m) (hB : Below w.heap.size w wr) (ho : wr.ownsRow w.heap.size 65 1 v j (cells (x / 2 ^ k) j))
    (ho' : w'.ownsRow w.heap.size 65 1 v' (j + 1) (cells (x / 2 ^ k) j ++ [.int .u32 q])) (hg : (wr.alloc (.cells #[.int .u32 q] 65)).grownBy w' v.ownBlock) :
    (∃ j_1 : Nat, j_1 ≤ m ∧ Value.int .i64 ((whole : Int) + j + 1) = Value.int .i64 ((whole : Int) + j_1) ∧ w'.ownsRow w.heap.size 65 1 v' j_1 (cells (x / 2 ^ k) j_1) ∧ Below w.heap.size w w') ∧
    m - (intOf (Value.int .i64 ((whole : Int) + j + 1)) - whole).toNat < m - (intOf (Value.int .i64 ((whole : Int) + j)) - whole).toNat := by
  refine ⟨⟨j + 1, by omega, by simp [Int.add_assoc], by rw [cells_succ, ← hq]; exact ho', ?_⟩, by simp [intOf]; omega⟩
  exact (hB.alloc hB.size _).grown hg (by simp; have := hB.size; omega) (fun k hk => (ho.lt k hk).1)

set_option maxHeartbeats 2000000 in
set_option maxRecDepth 200000 in
theorem r64_1 (b o cap m whole part x k : Nat) (w : World) (hm0 : 0 < m) (hm : m ≤ 17592186044416) (hk : k ≤ 1099511627776) (hcap : whole + m ≤ cap) (hwh : k / 32 = whole) (hpa : k % 32 = part)
    (hn : dlen x = whole + m) (hcell : ∀ i, i < whole + m → w.cell? ⟨b, o + i, none⟩ = some (.int .u32 (dg x i : Nat))) :
    Calls Tryz.prog 131 #[.slice (some ⟨b, o, none⟩) (whole + m : Nat) cap, .int .i64 k] w fun e w' => ∃ ao cap' bb, e = .returned (.tuple #[.slice ao (dlen (x / 2 ^ k)) cap', .bool bb]) ∧ At w' ao (dlen (x / 2 ^ k)) (x / 2 ^ k) ∧ dlen (x / 2 ^ k) ≤ cap' ∧ Below w.heap.size w w' := by
  have hq : (k : Int).tdiv 32 = ((k / 32 : Nat) : Int) := by rw [Int.tdiv_eq_ediv_of_nonneg (by omega)]; rfl
  have hr : (k : Int).tmod 32 = ((k % 32 : Nat) : Int) := by rw [Int.tmod_eq_emod_of_nonneg (by omega)]; rfl
  have hwb : whole ≤ 1099511627776 := by omega
  have hpb : part < 32 := by omega
  rw [hwh] at hq
  rw [hpa] at hr
  have HN : Hid (dlen x = whole + m) := hn
  have HW : Hid (k / 32 = whole) := hwh
  have HP : Hid (k % 32 = part) := hpa
  clear hn hwh hpa
  have hmi : (whole : Int) < ((whole + m : Nat) : Int) := by omega
  go_enter Tryz.func131, Tryz.ntmps131
  go_wp2
  go_loop [6, 7] (fun a v => ∃ (bb : Bool) (i : Nat), a = .bool bb ∧ v = .int .i64 (i : Int) ∧ i ≤ whole) (fun _ v => whole - (intOf v).toNat)
  case atStart => exact ⟨true, 0, rfl, rfl, Nat.zero_le _⟩
  case round =>
    obtain ⟨bb, i, rfl, rfl, hi⟩ := hrel
    by_cases hiw : i < whole
    · have g1 := hcell i (by omega)
      generalize dg x i = d at *
      have hii : (i : Int) < (whole : Int) := by omega
      clear hcell
      cases bb
      · go_wp2
        exact ⟨⟨_, i + 1, rfl, by simp, by omega⟩, by simp [intOf]; omega⟩
      · go_wp2
        exact ⟨⟨_, i + 1, rfl, by simp, by omega⟩, by simp [intOf]; omega⟩
    · obtain rfl : i = whole := by omega
      clear hiw hi
      have HC : Hid (∀ i_1 : Nat, i_1 < i + m → w.cell? { block := b, off := o + i_1 } = some (Value.int IntKind.u32 ↑(dg x i_1))) := hcell
      go_wp2_with fail
      all_goals
        clear hq hmi hr hcell
        go_loopw [9, 10] (fun v c wr => ∃ j : Nat, j ≤ m ∧ c = .int .i64 ((i : Int) + j) ∧ wr.ownsRow w.heap.size 65 1 v j (cells (x / 2 ^ k) j) ∧ Below w.heap.size w wr) (fun _ c _ => m - (intOf c - i).toNat)
        case atStart => exact ⟨0, Nat.zero_le _, by simp, World.ownsRow_nil .., Below.refl _ _⟩
        case round =>
          obtain ⟨j, hj, rfl, ho, hB⟩ := hrel
          have HO : Hid (wr.ownsRow w.heap.size 65 1 u9 j (cells (x / 2 ^ k) j)) := ho
          have HB : Hid (Below w.heap.size w wr) := hB
          have hbs : w.heap.size ≤ wr.heap.size := hB.size
          by_cases hjn : j + 1 < m
          · have g1 := (hB.cell (World.block_lt_of_cell? _ _ (HC.out (i + j) (by omega)))).trans (HC.out (i + j) (by omega))
            have g4 := (hB.cell (World.block_lt_of_cell? _ _ (HC.out (i + j + 1) (by omega)))).trans (HC.out (i + j + 1) (by omega))
            have hji : (j : Int) + 1 < (m : Int) := by omega
            generalize hd : dg x (i + j) = d at *
            generalize hd1 : dg x (i + j + 1) = d1 at *
            have HD : Hid (dg x (i + j) = d) := hd
            have HD1 : Hid (dg x (i + (j + 1)) = d1) := hd1
            have HL : Hid (d < B ∧ d1 < B) := ⟨hd ▸ dg_lt _ _, hd1 ▸ dg_lt _ _⟩
            clear hd hd1 hB
            obtain ⟨i0, hi0, hz0, hz1, hz2⟩ := info_parts Tryz.info65
            go_wp2_with (at_builtin; refine wpList_append_own _ rfl _ _ 22 rfl w.heap.size 65 i0 (.int .u32 0) 1 4 Tryz.underlying22 hi0 hz0 hz1 hz2 rfl (by decide) _ _ _ rfl (ho.alloc _) ⟨wr.heap.size, 0, none⟩ 1 1 [.int .u32 (bits BinOp.or IntKind.u64 (IntKind.u64.wrap (d : Int)) (IntKind.u64.wrap (IntKind.u64.wrap (d1 : Int) * 4294967296)) / 2 ^ part % 4294967296)] rfl rfl (cell_one_new _ _ _) (by intro u hu; simp at hu; subst hu; rfl) (by unfold maxLen; omega) (by omega) (by simp; omega) ?_)
            intro v' w4 hown4 hgrow _
            go_wp2
            exact r64_round (by rw [shr_word2 HL.out.1 HL.out.2, shr_digit HW.out HP.out, HD.out, HD1.out]) (by omega) HB.out HO.out hown4 hgrow
          · by_cases hjm : j < m
            · have g1 := (hB.cell (World.block_lt_of_cell? _ _ (HC.out (i + j) (by omega)))).trans (HC.out (i + j) (by omega))
              have hji : ¬ (j : Int) + 1 < (m : Int) := by omega
              have hji2 : (j : Int) < (m : Int) := by omega
              generalize hd : dg x (i + j) = d at *
              have HD : Hid (dg x (i + j) = d) := hd
              have HL : Hid (d < B) := hd ▸ dg_lt _ _
              have HZ : Hid (dg x (i + (j + 1)) = 0) := dg_past (by rw [HN.out]; omega)
              clear hd hB
              obtain ⟨i0, hi0, hz0, hz1, hz2⟩ := info_parts Tryz.info65
              go_wp2_with (at_builtin; refine wpList_append_own _ rfl _ _ 22 rfl w.heap.size 65 i0 (.int .u32 0) 1 4 Tryz.underlying22 hi0 hz0 hz1 hz2 rfl (by decide) _ _ _ rfl (ho.alloc _) ⟨wr.heap.size, 0, none⟩ 1 1 [.int .u32 (IntKind.u64.wrap (d : Int) / 2 ^ part % 4294967296)] rfl rfl (cell_one_new _ _ _) (by intro u hu; simp at hu; subst hu; rfl) (by unfold maxLen; omega) (by omega) (by simp; omega) ?_)
              intro v' w4 hown4 hgrow _
              go_wp2
              exact r64_round (by rw [shr_word1 HL.out, shr_digit HW.out HP.out, HD.out, HZ.out, Nat.zero_mul, Nat.add_zero]) (by omega) HB.out HO.out hown4 hgrow
            · obtain rfl : j = m := by omega
              have hL := shr_len (k := k) (m := j) (by rw [HW.out]; exact HN.out)
              obtain ⟨ao', cap', rfl, hc', hA⟩ := at_of_row ho
              have HA : Hid (At wr ao' (dlen (x / 2 ^ k)) (x / 2 ^ k) ∧ dlen (x / 2 ^ k) ≤ cap') := ⟨at_short hA hL, by omega⟩
              have k40 := r40 ao' j cap' (x / 2 ^ k) wr hL hc' (by omega) hA
              clear hB ho hA
              go_wp2_with (first | (go_at_call 111; refine k40.mono ?_; rintro e w' ⟨rfl, rfl⟩))
              refine bodyPost_ret (results_tmp2 rfl _ _ _) rfl ?_
              exact ⟨_, _, _, rfl, HA.out.1, HA.out.2, HB.out⟩
end Go.Proofs.YtmhpicccfaklcaaGreatDoor

/- The document's norm. -/
namespace Go.Proofs.YtmhpicccfaklcaaGreatDoor
set_option linter.unusedVariables false
set_option linter.unusedSimpArgs false
open Go.RowKit

theorem Tryz.info24 : (Tryz.prog.info? 24).map (·.size) = some 3 := by kernel_rfl
theorem r64 {ao : Option Addr} {n cap x : Nat} {w : World} (hn : dlen x = n) (hc : n ≤ cap) (h : At w ao n x) (k : Nat) (hx : dlen x ≤ 17592186044416) (hk : k / 32 < dlen x) (hk2 : k ≤ 1099511627776) :
    Calls Tryz.prog 131 #[.slice ao n cap, .int .i64 k] w fun e w' => ∃ ao cap' bb, e = .returned (.tuple #[.slice ao (dlen (x / 2 ^ k)) cap', .bool bb]) ∧ At w' ao (dlen (x / 2 ^ k)) (x / 2 ^ k) ∧ dlen (x / 2 ^ k) ≤ cap' ∧ Below w.heap.size w w' := by
  obtain ⟨b, o, hb, hcell⟩ := h
  subst hn
  obtain rfl := hb (by omega)
  obtain ⟨m, hm⟩ : ∃ m, dlen x = k / 32 + m := ⟨dlen x - k / 32, by omega⟩
  rw [hm] at hcell hc ⊢
  exact r64_1 b o cap m _ _ x k w (by omega) (by omega) hk2 hc rfl rfl hm hcell
theorem store3_29 {w : World} {g : Nat} {a b c : Value} (a' b' c' : Value) (h : w.heap[g]? = some (.cells #[a, b, c] 24 (0, 0))) :
    (((w.setCell ⟨g, 0, none⟩ a').setCell ⟨g, 1, none⟩ b').setCell ⟨g, 2, none⟩ c').heap[g]? = some (.cells #[a', b', c'] 24 (0, 0)) := by
  simp [World.setCell, Array.getElem?_modify, h]
theorem box_cells29 {w : World} {g : Nat} {a b c : Value} (h : w.heap[g]? = some (.cells #[a, b, c] 24 (0, 0))) :
    (w.cell? ⟨g, 0, none⟩ = some a ∧ w.cell? ⟨g, 1, none⟩ = some b ∧ w.cell? ⟨g, 2, none⟩ = some c) ∧ (w.frozen? ⟨g, 0, none⟩ = false ∧ w.frozen? ⟨g, 1, none⟩ = false ∧ w.frozen? ⟨g, 2, none⟩ = false) := by
  simp [World.cell?, World.frozen?, h]
/-- what the document's norm makes -/
def Nr (w' : World) (base : Nat) (a : Value) (neg : Bool) (x : Nat) (e : Int) : Prop :=
  (x = 0 ∧ a = NumV false (.slice none 0 0) 0) ∨ (x ≠ 0 ∧ ∃ g cap, a = NumV neg (.slice (some ⟨g, 0, none⟩) (dlen (x / 2 ^ tz x)) cap) (e + tz x) ∧ base ≤ g ∧ At w' (some ⟨g, 0, none⟩) (dlen (x / 2 ^ tz x)) (x / 2 ^ tz x))

set_option maxHeartbeats 2000000 in
set_option maxRecDepth 200000 in
theorem r34_0 (neg : Bool) (ao : Option Addr) (n cap : Nat) (e : Int) (w : World) (h : At w ao n 0) (hn : n ≤ cap) (hc : n ≤ 70368744177664) :
    Calls Tryz.prog 132 #[.bool neg, .slice ao n cap, .int .i64 e] w fun e w' => e = .returned (.agg #[.bool false, .slice none 0 0, .int .i64 0]) ∧ Below w.heap.size w w' := by
  have HB : Hid (Below w.heap.size w (w.alloc (.cells #[.bool false, .slice none 0 0, .int .i64 0] 24))) := (Below.refl _ _).alloc (Nat.le_refl _) _
  have k := r40 ao n cap 0 (w.alloc (.cells #[.bool false, .slice none 0 0, .int .i64 0] 24)) (by rw [dlen_zero]; omega) hn hc (h.later HB.out)
  rw [dlen_zero] at k
  clear h
  go_enter Tryz.func132, Tryz.ntmps132
  go_wp2_with fail
  refine k.mono ?_
  rintro e w1 ⟨rfl, rfl⟩
  go_wp2
  refine bodyPost_ret (results_cell_row rfl _ _ w.heap.size 24 #[.bool false, .slice none 0 0, .int .i64 0] (0, 0) _ rfl (heap_alloc_new _ _) Tryz.underlying24 rfl Tryz.info24) rfl ?_
  exact ⟨rfl, HB.out⟩

theorem and_one32 (a : Nat) (h : a < 4294967296) : bits .and .u32 (a : Int) 1 = ((a % 2 : Nat) : Int) := by
  have e := u32_and_nat a 1 h (by decide)
  rw [show ((1 : Nat) : Int) = 1 from rfl] at e
  rw [e, Nat.and_one_is_mod]
theorem bit_tz {x t i p d T : Nat} (hT : tz x = T) (hx : x ≠ 0) (ht : t ≤ T) (h : t / 32 = i ∧ t % 32 = p ∧ dg x i = d) : (bits BinOp.and IntKind.u32 ((d : Int) / 2 ^ p) 1 == 0) = decide (t < T) := by
  obtain ⟨rfl, rfl, rfl⟩ := h
  subst hT
  have hl := dg_lt x (t / 32)
  have e1 : ((dg x (t / 32) : Nat) : Int) / 2 ^ (t % 32) = ((dg x (t / 32) / 2 ^ (t % 32) : Nat) : Int) := by simp
  have hl2 : dg x (t / 32) / 2 ^ (t % 32) < 4294967296 := Nat.lt_of_le_of_lt (Nat.div_le_self ..) hl
  rw [e1, and_one32 _ hl2]
  have e2 : dg x (t / 32) / 2 ^ (t % 32) % 2 = x / 2 ^ t % 2 := by
    unfold dg
    rw [two_split (k := t), ← Nat.div_div_eq_div_mul]
    generalize x / B ^ (t / 32) = y
    have hp : t % 32 < 32 := Nat.mod_lt _ (by omega)
    generalize t % 32 = p at *
    have e3 : B = 2 ^ p * 2 ^ (32 - p) := by rw [← Nat.pow_add]; unfold B; have : p + (32 - p) = 32 := by omega
                                             rw [this]
    have e4 : 2 ^ (32 - p) = 2 * 2 ^ (31 - p) := by have : 32 - p = (31 - p) + 1 := by omega
                                                    rw [this, Nat.pow_succ, Nat.mul_comm]
    rw [e3, Nat.mod_mul_right_div_self, e4, Nat.mod_mul_right_mod]
  rw [e2]
  obtain ⟨h1, h2⟩ := tz_spec _ x (Nat.le_refl _) hx
  by_cases ht2 : t < tz x
  · have e5 : x / 2 ^ t % 2 = 0 := by
      obtain ⟨k, hk⟩ : ∃ k, tz x = t + (k + 1) := ⟨tz x - t - 1, by omega⟩
      rw [← h1]
      generalize x / 2 ^ tz x = y
      rw [hk, Nat.pow_add, Nat.mul_assoc, Nat.mul_div_cancel_left _ (Nat.two_pow_pos t), Nat.pow_succ, Nat.mul_comm (2 ^ k) 2, Nat.mul_assoc, Nat.mul_mod_right]
    rw [e5]; simp [ht2]
  · have : t = tz x := by omega
    subst this
    rw [h2]; simp

set_option maxHeartbeats 2000000 in
set_option maxRecDepth 200000 in
theorem r34_1 (neg : Bool) (ao : Option Addr) (n cap x : Nat) (e : Int) (w : World) (h : At w ao n x) (hxn : dlen x ≤ n) (hn : n ≤ cap) (hc : n ≤ 1000000000) (hx0 : x ≠ 0) (he : -4611686018427387904 ≤ e ∧ e ≤ 4611686018427387904) :
    Calls Tryz.prog 132 #[.bool neg, .slice ao n cap, .int .i64 e] w fun r w' => ∃ g cap', r = .returned (.agg #[.bool neg, .slice (some ⟨g, 0, none⟩) (dlen (x / 2 ^ tz x)) cap', .int .i64 (e + tz x)]) ∧ w.heap.size ≤ g ∧ At w' (some ⟨g, 0, none⟩) (dlen (x / 2 ^ tz x)) (x / 2 ^ tz x) ∧ Below w.heap.size w w' := by
  obtain ⟨w0, hw0⟩ : ∃ w0, w0 = w.alloc (.cells #[.bool false, .slice none 0 0, .int .i64 0] 24) := ⟨_, rfl⟩
  have hB0 : Below w.heap.size w w0 := by rw [hw0]; exact (Below.refl _ _).alloc (Nat.le_refl _) _
  have h0 := h.later hB0
  have k40 := r40 ao n cap x w0 hxn hn (by omega) h0
  have htz : tz x / 32 < dlen x := by
    have h1 := (tz_spec _ x (Nat.le_refl _) hx0)
    have h2 : 2 ^ tz x ≤ x := by
      have h3 : 1 ≤ x / 2 ^ tz x := Nat.pos_of_ne_zero fun e0 => by have := h1.2; rw [e0] at this; simp at this
      have := Nat.mul_le_mul_left (2 ^ tz x) h3
      omega
    have h4 := lt_bl x
    have h5 : tz x < bl x := Nat.lt_of_not_le fun h6 => by
      have := Nat.pow_le_pow_right (n := 2) (by omega) h6
      omega
    have hd0 : dlen x ≠ 0 := fun e => hx0 (dlen_eq_zero.1 e)
    have := bl_top hx0
    have := bl_le32 (dg_lt x (dlen x - 1))
    omega
  have hs := at_short h0 hxn
  have k64 := r64 rfl (by omega : dlen x ≤ cap) hs (tz x) (by omega) htz (by omega)
  have hl0 : 0 < dlen x := by omega
  have hn0 : ((dlen x : Int) == 0) = false := by simp; omega
  have HS : Hid (At w0 ao (dlen x) x) := hs
  have HH : Hid (w0.heap[w.heap.size]? = some (.cells #[.bool false, .slice none 0 0, .int .i64 0] 24 (0, 0))) := (by rw [hw0]; exact heap_alloc_new _ _ : w0.heap[w.heap.size]? = some (.cells #[.bool false, .slice none 0 0, .int .i64 0] 24 (0, 0)))
  have HB0 : Hid (Below w.heap.size w w0) := hB0
  have HX : Hid (w0.heap.size = w.heap.size + 1) := (by rw [hw0]; simp : w0.heap.size = w.heap.size + 1)
  have HT : Hid (tz x / 32 < dlen x ∧ x ≠ 0) := ⟨htz, hx0⟩
  obtain ⟨he1, he2⟩ := he
  have hlb : dlen x ≤ 1000000000 := by omega
  clear h h0 hB0 hs hxn hn hx0
  generalize hL : dlen x = L at *
  generalize htzx : tz x = T at *
  have HTZ : Hid (tz x = T ∧ dlen x = L) := ⟨htzx, hL⟩
  clear htzx hL
  have hTb : T ≤ 40000000000 := by omega
  go_enter Tryz.func132, Tryz.ntmps132
  go_wp2_with fail
  rw [← hw0]
  clear hw0
  refine k40.mono ?_
  rintro r w1 ⟨rfl, rfl⟩
  clear k40
  go_wp2_with fail
  go_loop [7] (fun v => ∃ t : Nat, t ≤ T ∧ v = .int .i64 (t : Int)) (fun v => T - (intOf v).toNat)
  case atStart => exact ⟨0, Nat.zero_le _, rfl⟩
  case round =>
    obtain ⟨t, ht, rfl⟩ := hrel
    obtain ⟨b, o, hb, hcell⟩ := HS.out
    obtain rfl := hb (by omega)
    have hq : (t : Int).tdiv 32 = ((t / 32 : Nat) : Int) := by rw [Int.tdiv_eq_ediv_of_nonneg (by omega)]; rfl
    have hr : (t : Int).tmod 32 = ((t % 32 : Nat) : Int) := by rw [Int.tmod_eq_emod_of_nonneg (by omega)]; rfl
    have htl : t / 32 < L := by omega
    have g1 := hcell (t / 32) htl
    have hpb : t % 32 < 32 := by omega
    generalize hi : t / 32 = i at *
    generalize hp : t % 32 = p at *
    generalize hd : dg x i = d at *
    have HI : Hid (t / 32 = i ∧ t % 32 = p ∧ dg x i = d) := ⟨hi, hp, hd⟩
    have hbit := bit_tz HTZ.out.1 HT.out.2 ht HI.out
    clear hi hp hd hcell hb
    by_cases htt : t < T
    · rw [decide_eq_true htt] at hbit
      go_wp2_with fail
      exact ⟨⟨t + 1, by omega, by simp⟩, by simp [intOf]; omega⟩
    · rw [decide_eq_false htt] at hbit
      obtain rfl : t = T := by omega
      clear htt ht
      go_wp2_with fail
      refine k64.mono ?_
      rintro r w3 ⟨ao3, cap3, bb, rfl, hA3, hc3, hB3⟩
      clear k64 hq hr hbit g1
      have HH3 : Hid (w3.heap[w.heap.size]? = some (.cells #[.bool false, .slice none 0 0, .int .i64 0] 24 (0, 0))) := box_later HH.out hB3 (by have := HX.out; omega)
      obtain ⟨⟨a1, a2, a3⟩, a4, a5, a6⟩ := box_cells29 HH3.out
      have HA3 : Hid (At w3 ao3 (dlen (x / 2 ^ t)) (x / 2 ^ t) ∧ Below w1.heap.size w1 w3) := ⟨hA3, hB3⟩
      clear hA3 hB3
      have hyo : x / 2 ^ t % 2 = 1 := by rw [← HTZ.out.1]; exact (tz_spec _ x (Nat.le_refl _) HT.out.2).2
      have hy0 : 0 < dlen (x / 2 ^ t) := Nat.pos_of_ne_zero fun e => by rw [dlen_eq_zero.1 e] at hyo; simp at hyo
      have hyl : dlen (x / 2 ^ t) ≤ 1000000000 := by
        have h1 : dlen (x / 2 ^ t) ≤ dlen x := dlen_mono (Nat.div_le_self ..)
        rw [HTZ.out.2] at h1; omega
      obtain ⟨b3, o3, hb3, hc3'⟩ := HA3.out.1
      obtain rfl := hb3 hy0
      have HN : Hid (∀ j u, (cells (x / 2 ^ t) (dlen (x / 2 ^ t)))[j]? = some u → (w3.alloc (Obj.cells (madeCells #[Value.int IntKind.u32 0] 0) 65)).cell? ((⟨b3, o3, none⟩ : Addr).add j) = some u) := fun j u hj => by
        have hjl : j < dlen (x / 2 ^ t) := by
          have := (List.getElem?_eq_some_iff.1 hj).1
          rwa [cells_length] at this
        rw [cells_get hjl] at hj
        have hcl := hc3' j hjl
        rw [show (⟨b3, o3, none⟩ : Addr).add j = ⟨b3, o3 + j, none⟩ by simp [Addr.add]]
        rw [World.cell?_alloc_old _ _ _ (by have := World.block_lt_of_cell? _ _ hcl; show b3 ≠ w3.heap.size; simp at this; omega)]
        rw [← hj]; exact hcl
      have hOM : (w3.alloc (Obj.cells (madeCells #[Value.int IntKind.u32 0] 0) 65)).ownsRow w3.heap.size 65 1 (.slice (some ⟨w3.heap.size, 0, none⟩) 0 0) 0 [] := World.ownsRow_made w3 _ 0 (Nat.le_refl _) (by unfold maxLen; omega) (by simp [madeCells])
      have hmk := run_make_row' (P := Tryz.prog) 22 65 (.int .u32 0) 4 Tryz.underlying22 Tryz.info65 rfl .i64 .i64 0 (by omega) (by omega) w3
      rw [show ((0 : Nat) : Int) = 0 from rfl] at hmk
      clear hc3' hb3 hyo
      generalize hy : x / 2 ^ t = y at *
      have HY : Hid (x / 2 ^ t = y) := hy
      clear hy
      generalize hM : dlen y = M at *
      have HM : Hid (dlen y = M) := hM
      clear hM
      have hM0 : M ≠ 0 := by omega
      obtain ⟨i0, hi0, hz0, hz1, hz2⟩ := info_parts Tryz.info65
      go_wp2_with (at_builtin; refine wpList_append_own _ rfl _ _ 22 rfl w3.heap.size 65 i0 (.int .u32 0) 1 4 Tryz.underlying22 hi0 hz0 hz1 hz2 rfl (by decide) _ 0 [] rfl hOM ⟨b3, o3, none⟩ M cap3 (cells y M) rfl (by rw [cells_length, Nat.mul_one]) HN.out (by intro u hu; simp [cells] at hu; obtain ⟨j, -, rfl⟩ := hu; rfl) (by unfold maxLen; omega) (by omega) (by simp) ?_)
      intro v' w4 hown4 hgrow _
      have hsz := HX.out
      have hs3 := HA3.out.2.size
      have hh4 : w4.heap[w.heap.size]? = some (.cells #[.bool false, .slice none 0 0, .int .i64 0] 24 (0, 0)) := by
        rw [hgrow.block _ (by simp; omega) (fun e => by simp [Value.ownBlock] at e; omega), Lib.alloc_old w3 _ _ (by omega)]
        exact HH3.out
      obtain ⟨⟨a1, a2, a3⟩, a4, a5, a6⟩ := box_cells29 hh4
      have HR : Hid (w4.ownsRow w3.heap.size 65 1 v' M (cells y M) ∧ w4.heap[w.heap.size]? = some (.cells #[.bool false, .slice none 0 0, .int .i64 0] 24 (0, 0))) := ⟨hown4, hh4⟩
      have HG : Hid (Below w3.heap.size w3 w4) := Below.grown ((Below.refl w3.heap.size w3).alloc (Nat.le_refl _) _) hgrow (by simp) (fun k hk => by simp [Value.ownBlock] at hk; omega)
      obtain ⟨g4, cap4, cur4, rfl, hg4, -⟩ := (hown4.2.resolve_left fun h => hM0 h.2)
      clear hown4 hh4 hgrow HN hOM
      go_wp2
      refine bodyPost_ret (results_cell_row rfl _ _ w.heap.size 24 #[.bool neg, .slice (some ⟨g4, 0, none⟩) M cap4, .int .i64 (e + t)] (0, 0) _ rfl (store3_29 _ _ _ HR.out.2) Tryz.underlying24 rfl Tryz.info24) rfl ?_
      obtain ⟨ao5, cap5, hv5, -, hA5⟩ := at_of_row HR.out.1
      simp only [Value.slice.injEq] at hv5
      obtain ⟨rfl, -, rfl⟩ := hv5
      obtain ⟨b5, o5, hb5, hc5⟩ := hA5
      have hb5' := hb5 (by omega)
      simp only [Option.some.injEq, Addr.mk.injEq] at hb5'
      obtain ⟨rfl, rfl, -⟩ := hb5'
      rw [HY.out, HM.out]
      refine ⟨_, _, rfl, by omega, ⟨g4, 0, fun _ => rfl, fun j hj => ?_⟩, below_store3 (HB0.out.trans ((HA3.out.2.trans (HG.out.mono hs3)).mono (by omega))) (Nat.le_refl _) _ _ _⟩
      rw [World.cell?_setCell_other _ _ _ _ (by intro e; simp at e), World.cell?_setCell_other _ _ _ _ (by intro e; simp at e), World.cell?_setCell_other _ _ _ _ (by intro e; simp at e)]
      exact hc5 j hj

theorem r34 {neg : Bool} {ao : Option Addr} {n cap x : Nat} {e : Int} {w : World} (h : At w ao n x) (hxn : dlen x ≤ n) (hn : n ≤ cap) (hc : n ≤ 1000000000) (he : -4611686018427387904 ≤ e ∧ e ≤ 4611686018427387904) :
    Calls Tryz.prog 132 #[.bool neg, .slice ao n cap, .int .i64 e] w fun r w' => ∃ a, r = .returned a ∧ Nr w' w.heap.size a neg x e ∧ Below w.heap.size w w' := by
  by_cases h0 : x = 0
  · subst h0
    refine (r34_0 neg ao n cap e w h hn (by omega)).mono ?_
    rintro r w' ⟨rfl, hb⟩
    exact ⟨_, rfl, .inl ⟨rfl, rfl⟩, hb⟩
  · refine (r34_1 neg ao n cap x e w h hxn hn hc h0 he).mono ?_
    rintro r w' ⟨g, cap', rfl, hg, ho, hb⟩
    exact ⟨_, rfl, .inr ⟨h0, g, cap', rfl, hg, ho⟩, hb⟩
end Go.Proofs.YtmhpicccfaklcaaGreatDoor

/- slices.Clone, negated. -/
namespace Go.Proofs.YtmhpicccfaklcaaGreatDoor
set_option linter.unusedVariables false
set_option linter.unusedSimpArgs false
open Go.RowKit

theorem own_of_row {w : World} {base n x : Nat} {v : Value} (h : w.ownsRow base 65 1 v n (cells x n)) (hn : dlen x = n) : Own w base v x := by
  rcases h.2 with ⟨rfl, h0⟩ | ⟨g, cap, c, rfl, hb, hc, h1, h2, h3, h4⟩
  · exact .inl ⟨rfl, dlen_eq_zero.1 (by omega)⟩
  · refine .inr ⟨g, cap, fun i => c.getD i undef, by rw [hn], hb, by omega, by unfold maxLen at h2; omega, ⟨c, hc, by omega, fun i hi => ?_⟩, fun i hi => ?_⟩
    · have : i < c.size := by omega
      simp [Array.getD_eq_getD_getElem?, Array.getElem?_eq_getElem this]
    · have h5 : (cells x n)[i]? = c[i]? := by
        rw [← h4, Nat.mul_one, List.getElem?_take, if_pos (by omega), Array.getElem?_toList]
      rw [cells_get (by omega)] at h5
      simp [Array.getD_eq_getD_getElem?, ← h5]

theorem own_row {w : World} {base g x : Nat} {v : Value} (h : Own w base v x) (hg : g < base) (cs : Array Value) : Own (w.setRow g cs) base v x := by
  rcases h with h | ⟨g', cap, f, h0, h1, h2, h3, h4, h5⟩
  · exact .inl h
  · exact .inr ⟨g', cap, f, h0, h1, h2, h3, h4.of_block (setRow_other w g g' cs (by omega)), h5⟩
set_option maxHeartbeats 4000000 in
set_option maxRecDepth 200000 in
theorem clone_1 (b o n cap x : Nat) (w : World) (hn0 : 0 < n) (hn : n ≤ 1000000000) (hx : dlen x = n) (hcell : ∀ i, i < n → w.cell? ⟨b, o + i, none⟩ = some (.int .u32 (dg x i : Nat))) :
    Calls Tryz.prog 51 #[.slice (some ⟨b, o, none⟩) n cap] w fun r w' => ∃ v, r = .returned v ∧ Own w' w.heap.size v x ∧ Below w.heap.size w w' := by
  have HX : Hid (dlen x = n) := hx
  have hnil := Lib.run_eql_slice_nil (P := Tryz.prog) w 22 65 (some ⟨b, o, none⟩) n cap 0 0 Tryz.underlying22
  have HN : Hid (∀ j u, (cells x n)[j]? = some u → (w.alloc (Obj.cells #[] 65)).cell? ((⟨b, o, none⟩ : Addr).add j) = some u) := fun j u hj => by
    have hjl : j < n := by
      have := (List.getElem?_eq_some_iff.1 hj).1
      rwa [cells_length] at this
    rw [cells_get hjl] at hj
    have hcl := hcell j hjl
    rw [show (⟨b, o, none⟩ : Addr).add j = ⟨b, o + j, none⟩ by simp [Addr.add]]
    rw [World.cell?_alloc_old _ _ _ (by have := World.block_lt_of_cell? _ _ hcl; show b ≠ w.heap.size; simp at this; omega)]
    rw [← hj]; exact hcl
  have hOM : (w.alloc (Obj.cells #[] 65)).ownsRow w.heap.size 65 1 (.slice (some ⟨w.heap.size, 0, none⟩) 0 0) 0 [] := ⟨rfl, .inr ⟨w.heap.size, 0, #[], rfl, Nat.le_refl _, heap_alloc_new _ _, Nat.le_refl _, by unfold maxLen; omega, rfl, rfl⟩⟩
  obtain ⟨i0, hi0, hz0, hz1, hz2⟩ := info_parts Tryz.info65
  clear hx hcell
  go_enter Tryz.func51, Tryz.ntmps51
  go_wp2_with (at_builtin; refine wpList_append_own _ rfl _ _ 22 rfl w.heap.size 65 i0 (.int .u32 0) 1 4 Tryz.underlying22 hi0 hz0 hz1 hz2 rfl (by decide) _ 0 [] rfl hOM ⟨b, o, none⟩ n cap (cells x n) rfl (by rw [cells_length, Nat.mul_one]) HN.out (by intro u hu; simp [cells] at hu; obtain ⟨j, -, rfl⟩ := hu; rfl) (by unfold maxLen; omega) (by omega) (by simp) ?_)
  intro v' w2 hown hgrow _
  have HG : Hid (Below w.heap.size w w2 ∧ w2.ownsRow w.heap.size 65 1 v' n (cells x n)) := ⟨Below.grown ((Below.refl w.heap.size w).alloc (Nat.le_refl _) _) hgrow (by simp) (fun k hk => by simp [Value.ownBlock] at hk; omega), hown⟩
  clear hown hgrow hnil HN hOM hi0 hz0 hz1 hz2
  go_wp2
  go_ret
  exact ⟨v', rfl, own_of_row HG.out.2 HX.out, HG.out.1⟩

set_option maxHeartbeats 4000000 in
set_option maxRecDepth 200000 in
theorem clone_nil (cap : Nat) (w : World) :
    Calls Tryz.prog 51 #[.slice none 0 cap] w fun r w' => r = .returned (.slice none 0 0) ∧ w' = w := by
  have hnil := Lib.run_eql_slice_nil (P := Tryz.prog) w 22 65 none 0 cap 0 0 Tryz.underlying22
  go_enter Tryz.func51, Tryz.ntmps51
  go_wp2
  go_ret
  exact ⟨rfl, rfl⟩

set_option maxHeartbeats 4000000 in
set_option maxRecDepth 200000 in
theorem clone_0 (ad : Addr) (cap : Nat) (w : World) :
    Calls Tryz.prog 51 #[.slice (some ad) 0 cap] w fun r w' => ∃ v, r = .returned v ∧ Own w' w.heap.size v 0 ∧ Below w.heap.size w w' := by
  have hnil := Lib.run_eql_slice_nil (P := Tryz.prog) w 22 65 (some ad) 0 cap 0 0 Tryz.underlying22
  have HG : Hid (Below w.heap.size w (w.alloc (Obj.cells #[] 65)) ∧ (w.alloc (Obj.cells #[] 65)).heap[w.heap.size]? = some (.cells #[] 65 (0, 0))) := ⟨(Below.refl _ _).alloc (Nat.le_refl _) _, heap_alloc_new _ _⟩
  go_enter Tryz.func51, Tryz.ntmps51
  go_wp2
  go_ret
  refine ⟨.slice (some ⟨w.heap.size, 0, none⟩) 0 0, rfl, .inr ⟨w.heap.size, 0, fun _ => undef, by rw [dlen_zero], Nat.le_refl _, by rw [dlen_zero]; omega, by omega, ⟨#[], HG.out.2, rfl, fun i hi => by omega⟩, fun i hi => by rw [dlen_zero] at hi; omega⟩, HG.out.1⟩

theorem clone_ok {v : Value} {x : Nat} {w : World} (h : Is w v x) (hx : dlen x ≤ 1000000000) :
    Calls Tryz.prog 51 #[v] w fun r w' => ∃ v, r = .returned v ∧ Own w' w.heap.size v x ∧ Below w.heap.size w w' := by
  obtain ⟨ao, cap, rfl, h1, h2, h3⟩ := h
  by_cases h0 : x = 0
  · subst h0
    rw [dlen_zero]
    cases ao with
    | none =>
      refine (clone_nil cap w).mono ?_
      rintro r w' ⟨rfl, rfl⟩
      exact ⟨_, rfl, .inl ⟨rfl, rfl⟩, Below.refl _ _⟩
    | some ad => exact clone_0 ad cap w
  · have hl : 0 < dlen x := Nat.pos_of_ne_zero fun e => h0 (dlen_eq_zero.1 e)
    obtain ⟨b, o, g1, g2⟩ := h3
    obtain rfl := g1 hl
    exact clone_1 b o _ cap x w hl hx rfl g2
end Go.Proofs.YtmhpicccfaklcaaGreatDoor

/- negated, of a number below nought. -/
namespace Go.Proofs.YtmhpicccfaklcaaGreatDoor
set_option linter.unusedVariables false
set_option linter.unusedSimpArgs false
open Go.RowKit

set_option maxHeartbeats 4000000 in
set_option maxRecDepth 200000 in
theorem neg_t (ua : Option Addr) (un uc x : Nat) (ea : Int) (w : World) (h1 : Is w (.slice ua un uc) x) (hx : dlen x ≤ 1000000) :
    Calls Tryz.prog 48 #[.agg #[.bool true, .slice ua un uc, .int .i64 ea]] w fun r w' => ∃ v, r = .returned (.agg #[.bool false, v, .int .i64 ea]) ∧ Own w' w.heap.size v x ∧ Below w.heap.size w w' := by
  obtain ⟨W, hW⟩ : ∃ W, W = (w.alloc (.cells #[.bool true, .slice ua un uc, .int .i64 ea] 25)).alloc (.cells #[.bool false, .slice none 0 0, .int .i64 0] 25) := ⟨_, rfl⟩
  have hBW : Below w.heap.size w W := by rw [hW]; exact ((Below.refl _ _).alloc (Nat.le_refl _) _).alloc (by simp) _
  have hbA : W.heap[w.heap.size]? = some (.cells #[.bool true, .slice ua un uc, .int .i64 ea] 25 (0, 0)) := by
    rw [hW, Below.heap_alloc _ _ _ (by simp)]; exact heap_alloc_new _ _
  have hbB : W.heap[w.heap.size + 1]? = some (.cells #[.bool false, .slice none 0 0, .int .i64 0] 25 (0, 0)) := by
    have := heap_alloc_new (w.alloc (.cells #[.bool true, .slice ua un uc, .int .i64 ea] 25)) (.cells #[.bool false, .slice none 0 0, .int .i64 0] 25)
    rw [hW]; simpa using this
  have hsz : W.heap.size = w.heap.size + 1 + 1 := by rw [hW]; simp
  have HX : Hid (Below w.heap.size w W ∧ W.heap.size = w.heap.size + 1 + 1 ∧ W.heap[w.heap.size + 1]? = some (.cells #[.bool false, .slice none 0 0, .int .i64 0] 25 (0, 0))) := ⟨hBW, hsz, hbB⟩
  have HK : Hid (∀ w', Below (w.heap.size + 1) W w' → (w'.cell? ⟨w.heap.size, 0, none⟩ = some (.bool true) ∧ w'.cell? ⟨w.heap.size, 1, none⟩ = some (.slice ua un uc) ∧ w'.cell? ⟨w.heap.size, 2, none⟩ = some (.int .i64 ea))) := fun w' hb => (box_cells (box_later hbA hb (by omega))).1
  have kC : ∀ w4, Below W.heap.size W w4 → Calls Tryz.prog 51 #[.slice ua un uc] w4 fun r w' => ∃ ao n cap, r = .returned (.slice ao n cap) ∧ Own w' W.heap.size (.slice ao n cap) x ∧ Below W.heap.size W w' := fun w4 hb =>
    (clone_ok ((h1.later hBW).later hb) (by omega)).mono fun r w' ⟨v, e1, o1, o2⟩ => by
      obtain ⟨ao, cap, rfl, -, -, -⟩ := o1.is
      exact ⟨_, _, _, e1, o1.mono hb.size, hb.trans (o2.mono hb.size)⟩
  have hBR : Below W.heap.size W W.drew := (Below.refl _ _).drew
  have hBR1 : Below (w.heap.size + 1) W W.drew := (Below.refl _ _).drew
  have hun : un = dlen x := by obtain ⟨_, _, e, -⟩ := h1; simp only [Value.slice.injEq] at e; exact e.2.1
  have hunb : un ≤ 1000000 := by omega
  have H1 : Hid (w.heap.size + 1 ≤ W.heap.size) := (by omega : w.heap.size + 1 ≤ W.heap.size)
  clear hbA hbB hsz hBW h1 hx hun
  go_enter Tryz.func48, Tryz.ntmps48
  go_upto_region 1 with fail
  rw [← hW]
  clear hW
  have hS0 := HK.out W.drew hBR1
  refine wp_region_held (S := fun w' => w'.cell? ⟨w.heap.size, 0, none⟩ = some (.bool true) ∧ w'.cell? ⟨w.heap.size, 1, none⟩ = some (.slice ua un uc) ∧ w'.cell? ⟨w.heap.size, 2, none⟩ = some (.int .i64 ea)) (by kernel_rfl) ?_
  change wpAnyH _ _ _ _ _ _ _ _ W.drew
  refine wpAnyH_take (i := 0) (oi := { dst := some 3, op := Op.fieldAddr 25 (Operand.tmp 1) 0, type := 0, pos := "number.go:41", after := #[], guard := none }) (v := .pointer (some ⟨w.heap.size, 0, none⟩)) rfl (by kernel_rfl) (by kernel_rfl) (by kernel_rfl) (fun _ _ _ h => h) (.inl ⟨by rfl, (by intro w1 hSw; obtain ⟨s0, s1, s2⟩ := hSw; go_simp)⟩) (by assumption) ?_
  try simp only [Act.put, List.setIfInBounds_toArray, List.set_cons_zero, List.set_cons_succ]
  refine wpAnyH_take (i := 1) (oi := { dst := some 4, op := Op.load 4 (Operand.tmp 3), type := 4, pos := "number.go:41", after := #[{ on := 0, ground := Ground.data }], guard := none }) (v := .bool true) rfl (by kernel_rfl) (by kernel_rfl) (by kernel_rfl) (fun _ _ _ h => h) (.inl ⟨by rfl, (by intro w1 hSw; obtain ⟨s0, s1, s2⟩ := hSw; go_simp)⟩) (by assumption) ?_
  try simp only [Act.put, List.setIfInBounds_toArray, List.set_cons_zero, List.set_cons_succ]
  refine wpAnyH_take (i := 2) (oi := { dst := some 5, op := Op.unOp UnOp.not 4 (Operand.tmp 4), type := 4, pos := "number.go:41", after := #[{ on := 1, ground := Ground.data }], guard := none }) (v := .bool false) rfl (by kernel_rfl) (by kernel_rfl) (by kernel_rfl) (fun _ _ _ h => h) (.inl ⟨by rfl, (by intro w1 hSw; obtain ⟨s0, s1, s2⟩ := hSw; go_simp)⟩) (by assumption) ?_
  try simp only [Act.put, List.setIfInBounds_toArray, List.set_cons_zero, List.set_cons_succ]
  refine wpAnyH_take (i := 3) (oi := { dst := some 6, op := Op.move (Operand.tmp 5), type := 4, pos := "number.go:41", after := #[{ on := 2, ground := Ground.data }], guard := none }) (v := .bool false) rfl (by kernel_rfl) (by kernel_rfl) (by kernel_rfl) (fun _ _ _ h => h) (.inl ⟨by rfl, (by intro w1 hSw; obtain ⟨s0, s1, s2⟩ := hSw; go_simp)⟩) (by assumption) ?_
  try simp only [Act.put, List.setIfInBounds_toArray, List.set_cons_zero, List.set_cons_succ]
  refine wpAnyH_take (i := 4) (oi := { dst := some 7, op := Op.fieldAddr 25 (Operand.tmp 1) 1, type := 0, pos := "number.go:41", after := #[{ on := 3, ground := Ground.guard }], guard := some (3, true) }) (v := undef) rfl (by kernel_rfl) (by kernel_rfl) (by kernel_rfl) (fun _ _ _ h => h) (.inr ⟨by rfl, rfl⟩) (by assumption) ?_
  try simp only [Act.put, List.setIfInBounds_toArray, List.set_cons_zero, List.set_cons_succ]
  refine wpAnyH_take (i := 5) (oi := { dst := some 8, op := Op.load 22 (Operand.tmp 7), type := 22, pos := "number.go:41", after := #[{ on := 4, ground := Ground.data }, { on := 3, ground := Ground.guard }], guard := some (3, true) }) (v := undef) rfl (by kernel_rfl) (by kernel_rfl) (by kernel_rfl) (fun _ _ _ h => h) (.inr ⟨by rfl, rfl⟩) (by assumption) ?_
  try simp only [Act.put, List.setIfInBounds_toArray, List.set_cons_zero, List.set_cons_succ]
  refine wpAnyH_take (i := 6) (oi := { dst := some 9, op := Op.call { callee := Callee.builtin Builtin.len, args := #[Operand.tmp 8], argTypes := #[22] }, type := 3, pos := "number.go:41", after := #[{ on := 5, ground := Ground.data }, { on := 3, ground := Ground.guard }], guard := some (3, true) }) (v := undef) rfl (by kernel_rfl) (by kernel_rfl) (by kernel_rfl) (fun _ _ _ h => h) (.inr ⟨by rfl, rfl⟩) (by assumption) ?_
  try simp only [Act.put, List.setIfInBounds_toArray, List.set_cons_zero, List.set_cons_succ]
  refine wpAnyH_take (i := 7) (oi := { dst := some 10, op := Op.binOp BinOp.gtr 3 (Operand.tmp 9) (Operand.const (Value.int IntKind.i64 0)) 3, type := 4, pos := "number.go:41", after := #[{ on := 6, ground := Ground.data }, { on := 3, ground := Ground.guard }], guard := some (3, true) }) (v := undef) rfl (by kernel_rfl) (by kernel_rfl) (by kernel_rfl) (fun _ _ _ h => h) (.inr ⟨by rfl, rfl⟩) (by assumption) ?_
  try simp only [Act.put, List.setIfInBounds_toArray, List.set_cons_zero, List.set_cons_succ]
  refine wpAnyH_take (i := 8) (oi := { dst := some 11, op := Op.pick (Operand.tmp 6) (Operand.tmp 10) (Operand.const (Value.bool false)), type := 4, pos := "number.go:41", after := #[{ on := 3, ground := Ground.data }, { on := 7, ground := Ground.data }], guard := none }) (v := .bool false) rfl (by kernel_rfl) (by kernel_rfl) (by kernel_rfl) (fun _ _ _ h => h) (.inl ⟨by rfl, (by intro w1 hSw; obtain ⟨s0, s1, s2⟩ := hSw; go_simp)⟩) (by assumption) ?_
  try simp only [Act.put, List.setIfInBounds_toArray, List.set_cons_zero, List.set_cons_succ]
  refine wpAnyH_take (i := 9) (oi := { dst := some 12, op := Op.fieldAddr 25 (Operand.tmp 1) 1, type := 0, pos := "number.go:41", after := #[], guard := none }) (v := .pointer (some ⟨w.heap.size, 1, none⟩)) rfl (by kernel_rfl) (by kernel_rfl) (by kernel_rfl) (fun _ _ _ h => h) (.inl ⟨by rfl, (by intro w1 hSw; obtain ⟨s0, s1, s2⟩ := hSw; go_simp)⟩) (by assumption) ?_
  try simp only [Act.put, List.setIfInBounds_toArray, List.set_cons_zero, List.set_cons_succ]
  refine wpAnyH_take (i := 10) (oi := { dst := some 13, op := Op.load 22 (Operand.tmp 12), type := 22, pos := "number.go:41", after := #[{ on := 9, ground := Ground.data }], guard := none }) (v := .slice ua un uc) rfl (by kernel_rfl) (by kernel_rfl) (by kernel_rfl) (fun _ _ _ h => h) (.inl ⟨by rfl, (by intro w1 hSw; obtain ⟨s0, s1, s2⟩ := hSw; go_simp)⟩) (by assumption) ?_
  try simp only [Act.put, List.setIfInBounds_toArray, List.set_cons_zero, List.set_cons_succ]
  refine wpAnyH_take (i := 12) (oi := { dst := some 15, op := Op.fieldAddr 25 (Operand.tmp 1) 2, type := 0, pos := "number.go:41", after := #[], guard := none }) (v := .pointer (some ⟨w.heap.size, 2, none⟩)) rfl (by kernel_rfl) (by kernel_rfl) (by kernel_rfl) (fun _ _ _ h => h) (.inl ⟨by rfl, (by intro w1 hSw; obtain ⟨s0, s1, s2⟩ := hSw; go_simp)⟩) (by assumption) ?_
  try simp only [Act.put, List.setIfInBounds_toArray, List.set_cons_zero, List.set_cons_succ]
  refine wpAnyH_take (i := 13) (oi := { dst := some 16, op := Op.load 3 (Operand.tmp 15), type := 3, pos := "number.go:41", after := #[{ on := 12, ground := Ground.data }], guard := none }) (v := .int .i64 ea) rfl (by kernel_rfl) (by kernel_rfl) (by kernel_rfl) (fun _ _ _ h => h) (.inl ⟨by rfl, (by intro w1 hSw; obtain ⟨s0, s1, s2⟩ := hSw; go_simp)⟩) (by assumption) ?_
  try simp only [Act.put, List.setIfInBounds_toArray, List.set_cons_zero, List.set_cons_succ]
  refine wpAnyH_ready (rs := [11]) (by kernel_rfl) (by simp) ?_
  intro i hi
  obtain rfl : i = 11 := by simpa using hi
  refine step_call (o := { dst := some 14, op := Op.call { callee := Callee.value (Operand.func 51), args := #[Operand.tmp 13], argTypes := #[22] }, type := 22, pos := "number.go:41", after := #[{ on := 10, ground := Ground.data }, { on := 3, ground := Ground.chain }], guard := none }) rfl rfl rfl (enters Tryz.func51 (by kernel_rfl) (by kernel_rfl)) (vs := #[.slice ua un uc]) (by simp [Act.eval]) ?_
  refine (kC _ hBR).mono ?_
  rintro r w5 ⟨ao5, n5, cap5, rfl, ho5, hb5⟩
  have hblk5 := box_later HX.out.2.2 hb5 (by have := HX.out.2.1; omega)
  have hS5 := HK.out _ (Below.mono hb5 H1.out)
  refine ⟨_, rfl, hS5, ?_⟩
  try simp only [Act.put, List.setIfInBounds_toArray, List.set_cons_zero, List.set_cons_succ]
  refine wpAnyH_take (i := 14) (oi := { dst := some 17, op := Op.build 25 #[(0, Operand.tmp 11), (1, Operand.tmp 14), (2, Operand.tmp 16)], type := 25, pos := "number.go:41", after := #[{ on := 8, ground := Ground.data }, { on := 11, ground := Ground.data }, { on := 13, ground := Ground.data }], guard := none }) (v := .agg #[.bool false, .slice ao5 n5 cap5, .int .i64 ea]) rfl (by kernel_rfl) (by kernel_rfl) (by kernel_rfl) (fun _ _ _ h => h) (.inl ⟨by rfl, (by intro w1 hSw; go_simp)⟩) (by assumption) ?_
  try simp only [Act.put, List.setIfInBounds_toArray, List.set_cons_zero, List.set_cons_succ]
  refine wpAnyH_ready (rs := [15]) (by kernel_rfl) (by simp) ?_
  intro i hi
  obtain rfl : i = 15 := by simpa using hi
  refine step_store (o := { dst := none, op := Op.store 25 (Operand.tmp 2) (Operand.tmp 17), type := 0, pos := "number.go:41", after := #[{ on := 14, ground := Ground.data }, { on := 11, ground := Ground.chain }, { on := 0, ground := Ground.phase }, { on := 1, ground := Ground.phase }, { on := 2, ground := Ground.phase }, { on := 3, ground := Ground.phase }, { on := 4, ground := Ground.phase }, { on := 5, ground := Ground.phase }, { on := 6, ground := Ground.phase }, { on := 7, ground := Ground.phase }, { on := 8, ground := Ground.phase }, { on := 9, ground := Ground.phase }, { on := 10, ground := Ground.phase }, { on := 11, ground := Ground.phase }, { on := 12, ground := Ground.phase }, { on := 13, ground := Ground.phase }, { on := 14, ground := Ground.phase }], guard := none }) rfl rfl rfl rfl rfl hblk5 Tryz.info25 rfl (one3 rfl rfl) ?_
  refine ⟨HK.out _ (below_row (Below.mono hb5 H1.out) (Nat.le_refl _) _), ?_⟩
  refine wpAnyH_done (by kernel_rfl) ?_ _
  have HF : Hid (Below W.heap.size W w5 ∧ Own w5 W.heap.size (.slice ao5 n5 cap5) x ∧ w5.heap[w.heap.size + 1]? = some (.cells #[.bool false, .slice none 0 0, .int .i64 0] 25 (0, 0))) := ⟨hb5, ho5, hblk5⟩
  clear ho5 hb5 hblk5 kC HK hBR hBR1 hS0 hS5
  go_wp2
  refine bodyPost_ret (results_cell_row rfl _ _ (w.heap.size + 1) 25 #[.bool false, .slice ao5 n5 cap5, .int .i64 ea] (0, 0) _ rfl (setRow_heap _ _ _ _ _ _ HF.out.2.2) Tryz.underlying25 rfl Tryz.info25) rfl ?_
  obtain ⟨q1, q2, -⟩ := HX.out
  exact ⟨_, rfl, (own_row HF.out.2.1 (by omega) _).mono (by omega), below_row (q1.trans (HF.out.1.mono q1.size)) (by omega) _⟩
end Go.Proofs.YtmhpicccfaklcaaGreatDoor

/- negated. -/
namespace Go.Proofs.YtmhpicccfaklcaaGreatDoor
set_option linter.unusedVariables false
set_option linter.unusedSimpArgs false
open Go.RowKit

set_option maxHeartbeats 4000000 in
set_option maxRecDepth 200000 in
theorem neg_f (ua : Option Addr) (un uc x : Nat) (ea : Int) (w : World) (h1 : Is w (.slice ua un uc) x) (hx : dlen x ≤ 1000000) :
    Calls Tryz.prog 48 #[.agg #[.bool false, .slice ua un uc, .int .i64 ea]] w fun r w' => ∃ v, r = .returned (.agg #[.bool (decide (0 < un)), v, .int .i64 ea]) ∧ Own w' w.heap.size v x ∧ Below w.heap.size w w' := by
  obtain ⟨W, hW⟩ : ∃ W, W = (w.alloc (.cells #[.bool false, .slice ua un uc, .int .i64 ea] 25)).alloc (.cells #[.bool false, .slice none 0 0, .int .i64 0] 25) := ⟨_, rfl⟩
  have hBW : Below w.heap.size w W := by rw [hW]; exact ((Below.refl _ _).alloc (Nat.le_refl _) _).alloc (by simp) _
  have hbA : W.heap[w.heap.size]? = some (.cells #[.bool false, .slice ua un uc, .int .i64 ea] 25 (0, 0)) := by
    rw [hW, Below.heap_alloc _ _ _ (by simp)]; exact heap_alloc_new _ _
  have hbB : W.heap[w.heap.size + 1]? = some (.cells #[.bool false, .slice none 0 0, .int .i64 0] 25 (0, 0)) := by
    have := heap_alloc_new (w.alloc (.cells #[.bool false, .slice ua un uc, .int .i64 ea] 25)) (.cells #[.bool false, .slice none 0 0, .int .i64 0] 25)
    rw [hW]; simpa using this
  have hsz : W.heap.size = w.heap.size + 1 + 1 := by rw [hW]; simp
  have HX : Hid (Below w.heap.size w W ∧ W.heap.size = w.heap.size + 1 + 1 ∧ W.heap[w.heap.size + 1]? = some (.cells #[.bool false, .slice none 0 0, .int .i64 0] 25 (0, 0))) := ⟨hBW, hsz, hbB⟩
  have HK : Hid (∀ w', Below (w.heap.size + 1) W w' → (w'.cell? ⟨w.heap.size, 0, none⟩ = some (.bool false) ∧ w'.cell? ⟨w.heap.size, 1, none⟩ = some (.slice ua un uc) ∧ w'.cell? ⟨w.heap.size, 2, none⟩ = some (.int .i64 ea))) := fun w' hb => (box_cells (box_later hbA hb (by omega))).1
  have kC : ∀ w4, Below W.heap.size W w4 → Calls Tryz.prog 51 #[.slice ua un uc] w4 fun r w' => ∃ ao n cap, r = .returned (.slice ao n cap) ∧ Own w' W.heap.size (.slice ao n cap) x ∧ Below W.heap.size W w' := fun w4 hb =>
    (clone_ok ((h1.later hBW).later hb) (by omega)).mono fun r w' ⟨v, e1, o1, o2⟩ => by
      obtain ⟨ao, cap, rfl, -, -, -⟩ := o1.is
      exact ⟨_, _, _, e1, o1.mono hb.size, hb.trans (o2.mono hb.size)⟩
  have hBR : Below W.heap.size W W.drew := (Below.refl _ _).drew
  have hBR1 : Below (w.heap.size + 1) W W.drew := (Below.refl _ _).drew
  have hun : un = dlen x := by obtain ⟨_, _, e, -⟩ := h1; simp only [Value.slice.injEq] at e; exact e.2.1
  have hunb : un ≤ 1000000 := by omega
  have H1 : Hid (w.heap.size + 1 ≤ W.heap.size) := (by omega : w.heap.size + 1 ≤ W.heap.size)
  clear hbA hbB hsz hBW h1 hx hun
  go_enter Tryz.func48, Tryz.ntmps48
  go_upto_region 1 with fail
  rw [← hW]
  clear hW
  go_region_held3 (fun w' => w'.cell? ⟨w.heap.size, 0, none⟩ = some (.bool false) ∧ w'.cell? ⟨w.heap.size, 1, none⟩ = some (.slice ua un uc) ∧ w'.cell? ⟨w.heap.size, 2, none⟩ = some (.int .i64 ea)) (first | (with_reducible assumption) | exact HK.out _ hBR1 | (refine HK.out _ (Below.mono ?_ H1.out); with_reducible assumption) | (refine HK.out _ (below_store3 (Below.mono hb5 H1.out) (Nat.le_refl _) _ _ _)) | go_keep)
    (first | (go_at_call 51; refine (kC _ (by first | (with_reducible assumption) | exact hBR)).mono ?_; rintro r w5 ⟨ao5, n5, cap5, rfl, ho5, hb5⟩; have hblk5 := box_later HX.out.2.2 hb5 (by have := HX.out.2.1; omega); obtain ⟨⟨x1, x2, x3⟩, x4, x5, x6⟩ := box_cells hblk5))
  have HF : Hid (Below W.heap.size W w5 ∧ Own w5 W.heap.size (.slice ao5 n5 cap5) x ∧ w5.heap[w.heap.size + 1]? = some (.cells #[.bool false, .slice none 0 0, .int .i64 0] 25 (0, 0))) := ⟨hb5, ho5, hblk5⟩
  clear ho5 hb5 hblk5 x1 x2 x3 x4 x5 x6 kC HK hBR hBR1
  go_wp2
  refine bodyPost_ret (results_cell_row rfl _ _ (w.heap.size + 1) 25 #[.bool (decide (0 < un)), .slice ao5 n5 cap5, .int .i64 ea] (0, 0) _ rfl (store3 _ _ _ HF.out.2.2) Tryz.underlying25 rfl Tryz.info25) rfl ?_
  obtain ⟨q1, q2, -⟩ := HX.out
  exact ⟨_, rfl, (own_store3 HF.out.2.1 (by omega) _ _ _).mono (by omega), below_store3 (q1.trans (HF.out.1.mono q1.size)) (by omega) _ _ _⟩

theorem neg_ok {na : Bool} {ua : Option Addr} {un uc x : Nat} {ea : Int} {w : World} (h1 : Is w (.slice ua un uc) x) (hx : dlen x ≤ 1000000) :
    Calls Tryz.prog 48 #[.agg #[.bool na, .slice ua un uc, .int .i64 ea]] w fun r w' => ∃ v, r = .returned (.agg #[.bool (!na && decide (0 < un)), v, .int .i64 ea]) ∧ Own w' w.heap.size v x ∧ Below w.heap.size w w' := by
  cases na
  · exact neg_f ua un uc x ea w h1 hx
  · exact neg_t ua un uc x ea w h1 hx
end Go.Proofs.YtmhpicccfaklcaaGreatDoor

/- Up, refused. -/
namespace Go.Proofs.YtmhpicccfaklcaaGreatDoor
set_option linter.unusedVariables false
set_option linter.unusedSimpArgs false
open Go.RowKit

set_option maxRecDepth 200000 in
theorem c60_ref (na nb nc : Bool) (ua va wa : Option Addr) (un uc vn vc wn wc : Nat) (ea eb ec : Int) (w : World)
    (k67 : ∀ W g, Below w.heap.size w W → W.heap[g]? = some (.cells #[.bool na, .slice ua un uc, .int .i64 ea, .bool nb, .slice va vn vc, .int .i64 eb, .bool nc, .slice wa wn wc, .int .i64 ec] 25 (0, 0)) → Calls Tryz.prog 47 #[.slice (some ⟨g, 0, none⟩) 3 3] W fun r w' => r = .returned (.bool false) ∧ Below W.heap.size W w') :
    Calls Tryz.prog 42 #[NumV na (.slice ua un uc) ea, NumV nb (.slice va vn vc) eb, NumV nc (.slice wa wn wc) ec] w fun r w' => r = .returned (.tuple #[.float .f64 0, .int .i64 1]) ∧ Below w.heap.size w w' := by
  obtain ⟨W, hW⟩ : ∃ W, W = ((w.alloc (.cells #[.bool na, .slice ua un uc, .int .i64 ea] 25)).alloc (.cells #[.bool nb, .slice va vn vc, .int .i64 eb] 25)).alloc (.cells #[.bool nc, .slice wa wn wc, .int .i64 ec] 25) := ⟨_, rfl⟩
  obtain ⟨hA, hBb, hC, hsz, hBW⟩ := boxes3 _ _ _ hW
  have hB4 : Below w.heap.size w (W.alloc (.cells #[.bool na, .slice ua un uc, .int .i64 ea, .bool nb, .slice va vn vc, .int .i64 eb, .bool nc, .slice wa wn wc, .int .i64 ec] 25)) := hBW.alloc hBW.size _
  have k1 := k67 (W.alloc (.cells #[.bool na, .slice ua un uc, .int .i64 ea, .bool nb, .slice va vn vc, .int .i64 eb, .bool nc, .slice wa wn wc, .int .i64 ec] 25)) (w.heap.size + 1 + 1 + 1) hB4 (by rw [← hsz]; exact heap_alloc_new _ _)
  have HH : Hid (Below w.heap.size w (W.alloc (.cells #[.bool na, .slice ua un uc, .int .i64 ea, .bool nb, .slice va vn vc, .int .i64 eb, .bool nc, .slice wa wn wc, .int .i64 ec] 25))) := hB4
  unfold NumV
  clear hA hBb hC hsz hBW hB4 k67
  go_enter Tryz.func42, Tryz.ntmps42
  go_wp2_with fail
  rw [← hW]
  clear hW
  refine k1.mono ?_
  rintro r w1 ⟨rfl, hB1⟩
  clear k1
  have HB1 : Hid (Below w.heap.size w w1) := HH.out.trans (hB1.mono HH.out.size)
  clear hB1
  go_wp2
  refine bodyPost_ret (results_tmp2 rfl _ _ _) rfl ?_
  exact ⟨rfl, HB1.out⟩

/-- a root of a number below nought -/
theorem c60_dom (na nb nc : Bool) (ua va wa : Option Addr) (un uc vn vc wn wc : Nat) (ea eb ec : Int) (w : World) (hd : nb = true ∨ nc = true)
    (k67 : ∀ W g, Below w.heap.size w W → W.heap[g]? = some (.cells #[.bool na, .slice ua un uc, .int .i64 ea, .bool nb, .slice va vn vc, .int .i64 eb, .bool nc, .slice wa wn wc, .int .i64 ec] 25 (0, 0)) → Calls Tryz.prog 47 #[.slice (some ⟨g, 0, none⟩) 3 3] W fun r w' => r = .returned (.bool true) ∧ Below W.heap.size W w') :
    Calls Tryz.prog 42 #[NumV na (.slice ua un uc) ea, NumV nb (.slice va vn vc) eb, NumV nc (.slice wa wn wc) ec] w fun r w' => r = .returned (.tuple #[.float .f64 0, .int .i64 7]) ∧ Below w.heap.size w w' := by
  obtain ⟨W, hW⟩ : ∃ W, W = ((w.alloc (.cells #[.bool na, .slice ua un uc, .int .i64 ea] 25)).alloc (.cells #[.bool nb, .slice va vn vc, .int .i64 eb] 25)).alloc (.cells #[.bool nc, .slice wa wn wc, .int .i64 ec] 25) := ⟨_, rfl⟩
  obtain ⟨hA, hBb, hC, hsz, hBW⟩ := boxes3 _ _ _ hW
  have hB4 : Below w.heap.size w (W.alloc (.cells #[.bool na, .slice ua un uc, .int .i64 ea, .bool nb, .slice va vn vc, .int .i64 eb, .bool nc, .slice wa wn wc, .int .i64 ec] 25)) := hBW.alloc hBW.size _
  have k1 := k67 (W.alloc (.cells #[.bool na, .slice ua un uc, .int .i64 ea, .bool nb, .slice va vn vc, .int .i64 eb, .bool nc, .slice wa wn wc, .int .i64 ec] 25)) (w.heap.size + 1 + 1 + 1) hB4 (by rw [← hsz]; exact heap_alloc_new _ _)
  have HH : Hid (Below w.heap.size w W ∧ Below W.heap.size W (W.alloc (.cells #[.bool na, .slice ua un uc, .int .i64 ea, .bool nb, .slice va vn vc, .int .i64 eb, .bool nc, .slice wa wn wc, .int .i64 ec] 25)) ∧ W.heap.size = w.heap.size + 1 + 1 + 1 ∧ W.heap[w.heap.size + 1]? = some (.cells #[.bool nb, .slice va vn vc, .int .i64 eb] 25 (0, 0)) ∧ W.heap[w.heap.size + 1 + 1]? = some (.cells #[.bool nc, .slice wa wn wc, .int .i64 ec] 25 (0, 0))) := ⟨hBW, (Below.refl _ _).alloc (Nat.le_refl _) _, hsz, hBb, hC⟩
  have HD : Hid (nb = true ∨ nc = true) := hd
  unfold NumV
  clear hA hBb hC hsz hBW hB4 k67 hd
  go_enter Tryz.func42, Tryz.ntmps42
  go_wp2_with fail
  rw [← hW]
  clear hW
  refine k1.mono ?_
  rintro r w1 ⟨rfl, hB1⟩
  clear k1
  have HB1 : Hid (Below W.heap.size W w1) := HH.out.2.1.trans (hB1.mono HH.out.2.1.size)
  clear hB1
  obtain ⟨⟨b0, b1, b2⟩, -⟩ := box_cells (box_later HH.out.2.2.2.1 HB1.out (by have := HH.out.2.2.1; omega))
  obtain ⟨⟨c0, c1, c2⟩, -⟩ := box_cells (box_later HH.out.2.2.2.2 HB1.out (by have := HH.out.2.2.1; omega))
  cases nb
  · obtain rfl : nc = true := by rcases HD.out with h | h <;> simp_all
    go_wp2
    refine bodyPost_ret (results_tmp2 rfl _ _ _) rfl ?_
    exact ⟨rfl, HH.out.1.trans (HB1.out.mono HH.out.1.size)⟩
  · go_wp2
    refine bodyPost_ret (results_tmp2 rfl _ _ _) rfl ?_
    exact ⟨rfl, HH.out.1.trans (HB1.out.mono HH.out.1.size)⟩
end Go.Proofs.YtmhpicccfaklcaaGreatDoor

/- math.Abs, math.IsInf. -/
namespace Go.Proofs.YtmhpicccfaklcaaGreatDoor
set_option linter.unusedVariables false
set_option linter.unusedSimpArgs false
open Go.RowKit Go.Fl64

theorem c159 (a : Nat) (ha : a < 18446744073709551616) (w : World) :
    Calls Tryz.prog 146 #[.float .f64 a] w fun e w' => e = .returned (.float .f64 (mag a)) ∧ w' = w := by
  have hb := Ie.run_bits
  have hf := Ie.run_frombits
  go_enter Tryz.func146, Tryz.ntmps146
  go_wp2
  go_ret
  refine ⟨?_, rfl⟩
  show Ending.returned (.float .f64 (bits .andNot .u64 a 9223372036854775808).toNat) = _
  rw [andNot_sign a ha]
  simp

theorem mag_lt' (a : Nat) (ha : a < 18446744073709551616) : mag a < 18446744073709551616 := by unfold mag; omega

theorem c123 (a : Nat) (ha : a < 18446744073709551616) (w : World) :
    Calls Tryz.prog 98 #[.float .f64 a, .int .i64 0] w fun e w' => e = .returned (.bool (lt 9218868437227405311 (mag a))) ∧ w' = w := by
  have k := c159 a ha
  have h := ord_gt (mag a) 9218868437227405311 (mag_lt' a ha) (by omega)
  generalize mag a = m at *
  have H : Hid ((FloatKind.f64.format.order m 9218868437227405311 == some Ordering.gt) = lt 9218868437227405311 m) := h
  clear h
  go_enter Tryz.func98, Tryz.ntmps98
  go_wp2_with (first | (go_at_call 146; refine (k _).mono ?_; rintro e w' ⟨rfl, rfl⟩))
  go_ret
  exact ⟨congrArg Ending.returned (congrArg Value.bool H.out), rfl⟩

theorem c185 (w : World) : Calls Tryz.prog 198 #[.int .i64 16] w fun e w' => e = .returned (.bool true) ∧ w' = w := by
  have h : (bits .and .i64 16 15 == 0) = true := by decide +kernel
  have H : Hid ((bits .and .i64 16 15 == 0) = true) := h
  clear h
  go_enter Tryz.func198, Tryz.ntmps198
  go_wp2
  go_ret
  exact ⟨congrArg Ending.returned (congrArg Value.bool H.out), rfl⟩
theorem c186 (w : World) (hT : Ie.Tab w) : Calls Tryz.prog 199 #[.int .u64 16] w fun e w' => e = .returned (.int .i64 4) ∧ w' = w := by
  have k := Ie.c51 16 (by omega) (by omega) w hT
  have e : Lib.ctz 64 16 = 4 := by decide
  rw [e] at k
  clear e
  go_enter Tryz.func199, Tryz.ntmps199
  go_wp2_with fail
  refine k.mono ?_
  rintro r w1 ⟨rfl, rfl⟩
  go_wp2
  go_ret
  exact ⟨rfl, rfl⟩

/-- the digits' signs in base 16, as the library writes them -/
def hx (d : Nat) : Nat := if d < 10 then 48 + d else 87 + d

end Go.Proofs.YtmhpicccfaklcaaGreatDoor

/- formatBits at base 16. -/
namespace Go.Proofs.YtmhpicccfaklcaaGreatDoor
set_option linter.unusedVariables false
set_option linter.unusedSimpArgs false
open Go.RowKit Go.Fl64

theorem z147 : Tryz.zeroCells194 = Array.replicate 65 (.int .u8 0) := by kernel_rfl

/-- the array of 65 bytes that the call lays, its bytes f -/
structure Bt (w wr : World) (f : Nat → Nat) : Prop where
  below : Below w.heap.size w wr
  row : ∃ c : Array Value, wr.heap[w.heap.size]? = some (.cells c 194 (0, 0)) ∧ c.size = 65 ∧ ∀ t, t < 65 → c[t]? = some (.int .u8 (f t : Nat))
theorem Bt.start (w : World) : Bt w (w.alloc (.cells Tryz.zeroCells194 194)) (fun _ => 0) :=
  ⟨(Below.refl _ _).alloc (Nat.le_refl _) _, _, heap_alloc_new _ _, by rw [z147]; simp, fun t ht => by rw [z147]; simp [ht]⟩
theorem Bt.cell {w wr : World} {f : Nat → Nat} (h : Bt w wr f) {i : Nat} (hi : i < 65) : wr.cell? ⟨w.heap.size, i, none⟩ = some (.int .u8 (f i : Nat)) := by
  obtain ⟨c, h1, h2, h3⟩ := h.row
  simp [World.cell?, h1, h3 i hi]
theorem Bt.frozen {w wr : World} {f : Nat → Nat} (h : Bt w wr f) (i : Nat) : wr.frozen? ⟨w.heap.size, i, none⟩ = false := by
  obtain ⟨c, h1, _, _⟩ := h.row
  simp [World.frozen?, h1]

theorem Bt.set {w wr : World} {f : Nat → Nat} (h : Bt w wr f) (i d : Nat) : Bt w (wr.setCell ⟨w.heap.size, i, none⟩ (.int .u8 (d : Nat))) (fun t => if t = i then d else f t) := by
  obtain ⟨c, h1, h2, h3⟩ := h.row
  refine ⟨h.below.setCell (Nat.le_refl _) _, c.setIfInBounds i (.int .u8 (d : Nat)), ?_, by simpa using h2, fun t ht => ?_⟩
  · simp [World.setCell, Array.getElem?_modify, h1]
  · rw [Array.getElem?_setIfInBounds]
    by_cases e : t = i
    · subst e; simp [h2, ht]
    · rw [if_neg (fun h => e h.symm), h3 t ht]; simp [e]
theorem Bt.congr {w wr : World} {f g : Nat → Nat} (h : Bt w wr f) (e : ∀ t, t < 65 → f t = g t) : Bt w wr g := by
  obtain ⟨c, h1, h2, h3⟩ := h.row
  exact ⟨h.below, c, h1, h2, fun t ht => by rw [h3 t ht, e t ht]⟩
theorem hex_get (m : Nat) (hm : m < 16) (h : m < (⟨#[48, 49, 50, 51, 52, 53, 54, 55, 56, 57, 97, 98, 99, 100, 101, 102, 103, 104, 105, 106, 107, 108, 109, 110, 111, 112, 113, 114, 115, 116, 117, 118, 119, 120, 121, 122]⟩ : ByteArray).size) : ((⟨#[48, 49, 50, 51, 52, 53, 54, 55, 56, 57, 97, 98, 99, 100, 101, 102, 103, 104, 105, 106, 107, 108, 109, 110, 111, 112, 113, 114, 115, 116, 117, 118, 119, 120, 121, 122]⟩ : ByteArray)[m]'h).toNat = hx m := by
  have : m = 0 ∨ m = 1 ∨ m = 2 ∨ m = 3 ∨ m = 4 ∨ m = 5 ∨ m = 6 ∨ m = 7 ∨ m = 8 ∨ m = 9 ∨ m = 10 ∨ m = 11 ∨ m = 12 ∨ m = 13 ∨ m = 14 ∨ m = 15 := by omega
  rcases this with rfl | rfl | rfl | rfl | rfl | rfl | rfl | rfl | rfl | rfl | rfl | rfl | rfl | rfl | rfl | rfl <;> rfl
/-- one sign more -/
theorem hex_step {w wr : World} {u j k d : Nat} (hM : Bt w wr (fun t => if 65 - j ≤ t then hx (u / 16 ^ (64 - t) % 16) else 0)) (hk : 65 - j = k + 1) (hd : d = hx (u / 16 ^ j % 16)) (hj : j ≤ 8) :
    Bt w (wr.setCell ⟨w.heap.size, k, none⟩ (.int .u8 (d : Nat))) (fun t => if 65 - (j + 1) ≤ t then hx (u / 16 ^ (64 - t) % 16) else 0) := by
  refine (hM.set k d).congr fun t ht => ?_
  by_cases e : t = k
  · subst e
    rw [if_pos rfl, if_pos (by omega), hd, show 64 - t = j by omega]
  · rw [if_neg e]
    by_cases e2 : 65 - j ≤ t
    · rw [if_pos e2, if_pos (by omega)]
    · rw [if_neg e2, if_neg (by omega)]

/-- the signs of u in base 16, j + 1 of them, the highest first -/
def hexL (u j : Nat) : List UInt8 := (List.range (j + 1)).map fun i => UInt8.ofNat (hx (u / 16 ^ (j - i) % 16))
theorem hexL_length (u j : Nat) : (hexL u j).length = j + 1 := by simp [hexL]
theorem hx_lt (d : Nat) (h : d < 16) : hx d < 256 := by unfold hx; split <;> omega
theorem hexL_get {u j i : Nat} (h : i < (hexL u j).length) : ((hexL u j)[i].toNat : Int) = (hx (u / 16 ^ (j - i) % 16) : Nat) := by
  simp only [hexL, List.getElem_map, List.getElem_range]
  have := hx_lt (u / 16 ^ (j - i) % 16) (Nat.mod_lt _ (by omega))
  rw [UInt8.toNat_ofNat_of_lt' this]
theorem arr147 (W : World) (g k : Nat) (hk : k < 65) : (Instr.sliceAt 194 (.pointer (some ⟨g, 0, none⟩)) (some (.int .i64 (k : Int))) none none).run Tryz.prog W = .ok (.slice (some ⟨g, k, none⟩) (65 - k) (65 - k)) W := by
  have hal : Tryz.prog.arrayLen 194 = 65 := by kernel_rfl
  rw [run_sliceAt_array_l W 194 ⟨g, 0, none⟩ (by kernel_rfl) .i64 (k : Int) (by omega) (by rw [hal]; omega)]
  have hs : ∀ W, (sizeOf (Tryz.prog.elem 194)).run Tryz.prog W = .ok 1 W := fun W => by kernel_rfl
  rw [hs, hal]
  show Result.ok (slicedAt ⟨g, 0, none⟩ (k : Int).toNat 65 65 1) W = _
  unfold slicedAt
  rw [Int.toNat_natCast, if_neg (by omega), Nat.mul_one]
  have : (⟨g, 0, none⟩ : Addr).add k = ⟨g, k, none⟩ := by simp [Addr.add]; omega
  rw [this]

set_option maxRecDepth 200000 in
theorem c168_1 (u : Nat) (w : World) (hT : Ie.Tab w) (hu : u < 4294967296) :
    Calls Tryz.prog 167 #[.slice none 0 0, .int .u64 u, .int .i64 16, .bool false, .bool false] w fun e w' => ∃ j : Nat, u / 16 ^ j < 16 ∧ (j = 0 ∨ 16 ≤ u / 16 ^ (j - 1)) ∧ e = .returned (.tuple #[.slice none 0 0, .string ⟨(hexL u j).toArray⟩]) ∧ Below w.heap.size w w' := by
  have h0 := Bt.start w
  have k186 := c186 _ (Tab.later hT h0.below)
  generalize hW : w.alloc (.cells Tryz.zeroCells194 194) = W at *
  have HW : Hid (w.alloc (.cells Tryz.zeroCells194 194) = W) := hW
  have H0 : Hid (Bt w W (fun _ => 0)) := h0
  clear h0 hT
  go_enter Tryz.func167, Tryz.ntmps167
  go_wp2_with fail
  clear hW
  refine (c185 _).mono ?_
  rintro r w1 ⟨rfl, rfl⟩
  go_wp2_with fail
  refine k186.mono ?_
  rintro r w1' ⟨rfl, rfl⟩
  clear k186
  go_wp2
  go_loopw [1, 13] (fun a b wr => ∃ j v : Nat, a = .int .u64 v ∧ b = .int .i64 ((65 - j : Nat) : Int) ∧ Hid (u / 16 ^ j = v ∧ (j = 0 ∨ 16 ≤ u / 16 ^ (j - 1))) ∧ v < 4294967296 ∧ j ≤ 8 ∧ Bt w wr (fun t => if 65 - j ≤ t then hx (u / 16 ^ (64 - t) % 16) else 0)) (fun a _ _ => (intOf a).toNat)
  case atStart => exact ⟨0, u, rfl, rfl, ⟨(by simp : u / 16 ^ 0 = u), .inl rfl⟩, hu, by omega, H0.out.congr fun t ht => by rw [if_neg (by omega)]⟩
  case round =>
    obtain ⟨j, v, rfl, rfl, hv, hvl, hj8, hM⟩ := hrel
    by_cases hge : 16 ≤ v
    · have hgi : (16 : Int) ≤ (v : Int) := by omega
      have hj7 : j < 7 := by
        refine Nat.lt_of_not_le fun h7 => ?_
        have h1 : 16 * 16 ^ j ≤ u := by
          have := hv.out.1
          rw [← this] at hge
          exact (Nat.le_div_iff_mul_le (Nat.pow_pos (by omega))).1 hge
        have h2 : 16 ^ 7 ≤ 16 ^ j := Nat.pow_le_pow_right (by omega) h7
        omega
      have g2 := hM.cell (i := 65 - j - 1) (by omega)
      have g3 := hM.frozen (65 - j - 1)
      have HM : Hid (Bt w wr (fun t => if 65 - j ≤ t then hx (u / 16 ^ (64 - t) % 16) else 0)) := hM
      clear hM
      obtain ⟨k, hk⟩ : ∃ k, 65 - j = k + 1 := ⟨64 - j, by omega⟩
      rw [hk] at g2 g3 ⊢
      rw [Nat.add_sub_cancel] at g2 g3
      generalize (if 65 - j ≤ k then hx (u / 16 ^ (64 - k) % 16) else 0) = old at *
      have hkb : k < 65 := by omega
      have hki : (k : Int) < 65 := by omega
      have hand : bits .and .u64 (v : Int) 15 = ((v % 16 : Nat) : Int) := by
        rw [show (15 : Int) = ((15 : Nat) : Int) from rfl, u64_and_nat v 15 (by omega) (by omega), show (15 : Nat) = 2 ^ 4 - 1 from rfl, Nat.and_two_pow_sub_one_eq_mod]
      have hml : v % 16 < 16 := Nat.mod_lt _ (by omega)
      generalize hm : v % 16 = m at *
      have HMM : Hid (v % 16 = m) := hm
      have HK : Hid (65 - j = k + 1) := hk
      clear hm hk
      go_wp2
      refine ⟨⟨j + 1, v / 16, by simp, ?_, ?_, by omega, by omega, ?_⟩, by simp [intOf]; omega⟩
      · have := HK.out
        congr 1
        omega
      · refine ⟨?_, .inr (by rw [Nat.add_sub_cancel, hv.out.1]; exact hge)⟩
        rw [Nat.pow_succ, ← Nat.div_div_eq_div_mul, hv.out.1]
      · exact hex_step HM.out HK.out (by rw [hex_get m hml, hv.out.1, HMM.out]) (by omega)
    · have hgi : ¬ (16 : Int) ≤ (v : Int) := by omega
      have g2 := hM.cell (i := 65 - j - 1) (by omega)
      have g3 := hM.frozen (65 - j - 1)
      have HM : Hid (Bt w wr (fun t => if 65 - j ≤ t then hx (u / 16 ^ (64 - t) % 16) else 0)) := hM
      clear hM
      obtain ⟨k, hk⟩ : ∃ k, 65 - j = k + 1 := ⟨64 - j, by omega⟩
      rw [hk] at g2 g3 ⊢
      rw [Nat.add_sub_cancel] at g2 g3
      have hkb : k < 65 := by omega
      have hki : (k : Int) < 65 := by omega
      have hvi : (v : Int) < 36 := by omega
      have HK : Hid (65 - j = k + 1) := hk
      clear hk
      have hsl := fun W => arr147 W w.heap.size k hkb
      go_wp2
      rw [hex_get v (by omega)]
      have hE := hex_step HM.out HK.out (d := hx v) (by rw [hv.out.1, Nat.mod_eq_of_lt (by omega)]) hj8
      generalize wr.setCell ⟨w.heap.size, k, none⟩ (.int .u8 (hx v : Nat)) = wf at *
      have hkj : k = 64 - j := by have := HK.out; omega
      have hcv := run_convert_bytes_back (P := Tryz.prog) wf 70 9 5 ⟨w.heap.size, k, none⟩ (65 - k) (hexL u j) Tryz.underlying70 Tryz.underlying5 Tryz.underlying9 (fun i hi => by
        rw [hexL_length] at hi
        have ea : (⟨w.heap.size, k, none⟩ : Addr).add i = ⟨w.heap.size, k + i, none⟩ := by simp [Addr.add]
        rw [ea]
        rw [hE.cell (by omega), if_pos (by omega), hexL_get, show 64 - (k + i) = j - i by omega])
      rw [hexL_length, show j + 1 = 65 - k by omega] at hcv
      have HF : Hid (Below w.heap.size w wf ∧ u / 16 ^ j < 16 ∧ (j = 0 ∨ 16 ≤ u / 16 ^ (j - 1))) := ⟨hE.below, by rw [hv.out.1]; omega, hv.out.2⟩
      clear hE hkj g2 g3 HM hsl
      rw [hcv]
      go_wp2
      go_ret2
      exact ⟨j, HF.out.2.1, HF.out.2.2, rfl, HF.out.1⟩

set_option maxRecDepth 200000 in
theorem c132 (u : Nat) (w : World) (hT : Ie.Tab w) (hu : u < 4294967296) :
    Calls Tryz.prog 117 #[.int .u64 u, .int .i64 16] w fun e w' => ∃ j : Nat, u / 16 ^ j < 16 ∧ (j = 0 ∨ 16 ≤ u / 16 ^ (j - 1)) ∧ e = .returned (.string ⟨(hexL u j).toArray⟩) ∧ Below w.heap.size w w' := by
  have k := c168_1 u w hT hu
  clear hT hu
  go_enter Tryz.func117, Tryz.ntmps117
  go_wp2_with fail
  refine k.mono ?_
  rintro r w1 ⟨j, h1, h2, rfl, hb⟩
  have HF : Hid (u / 16 ^ j < 16 ∧ (j = 0 ∨ 16 ≤ u / 16 ^ (j - 1)) ∧ Below w.heap.size w w1) := ⟨h1, h2, hb⟩
  clear k h1 h2 hb
  generalize hl : hexL u j = l at *
  have HL : Hid (hexL u j = l) := hl
  clear hl
  go_wp2
  go_ret
  exact ⟨j, HF.out.1, HF.out.2.1, by rw [HL.out]; rfl, HF.out.2.2⟩
set_option maxRecDepth 200000 in
theorem c81 (u : Nat) (w : World) (hT : Ie.Tab w) (hu : u < 4294967296) :
    Calls Tryz.prog 61 #[.int .u64 u, .int .i64 16] w fun e w' => ∃ j : Nat, u / 16 ^ j < 16 ∧ (j = 0 ∨ 16 ≤ u / 16 ^ (j - 1)) ∧ e = .returned (.string ⟨(hexL u j).toArray⟩) ∧ Below w.heap.size w w' := by
  have k := c132 u w hT hu
  clear hT hu
  go_enter Tryz.func61, Tryz.ntmps61
  go_wp2_with fail
  refine k.mono ?_
  rintro r w1 ⟨j, h1, h2, rfl, hb⟩
  have HF : Hid (u / 16 ^ j < 16 ∧ (j = 0 ∨ 16 ≤ u / 16 ^ (j - 1)) ∧ Below w.heap.size w w1) := ⟨h1, h2, hb⟩
  clear k h1 h2 hb
  generalize hl : hexL u j = l at *
  have HL : Hid (hexL u j = l) := hl
  clear hl
  go_wp2
  go_ret
  exact ⟨j, HF.out.1, HF.out.2.1, by rw [HL.out]; rfl, HF.out.2.2⟩
end Go.Proofs.YtmhpicccfaklcaaGreatDoor

/- Up. -/
namespace Go.Proofs.YtmhpicccfaklcaaGreatDoor
set_option linter.unusedVariables false
set_option linter.unusedSimpArgs false
open Go.RowKit Go.Fl64

theorem hidOf {p : Prop} (h : p) : Hid p := h
theorem Nrm.later {w w' : World} {base : Nat} {a : Value} {neg : Bool} {x : Nat} {e : Int} (h : Nrm w base a neg x e) (hb : Below w.heap.size w w') : Nrm w' base a neg x e := by
  rcases h with h | ⟨h0, v, h1, ho⟩
  · exact .inl h
  · exact .inr ⟨h0, v, h1, ho.later hb⟩

/-- a number in a box of its own, made behind w3 -/
def Bx (w3 wc : World) (g : Nat) (s : Bool) (ao : Option Addr) (n cap : Nat) (ex : Int) (sL : Bool) (zL : Nat) (eL : Int) : Prop :=
  wc.heap[g]? = some (.cells #[.bool s, .slice ao n cap, .int .i64 ex] 25 (0, 0)) ∧ w3.heap.size ≤ g ∧ Below w3.heap.size w3 wc ∧ Nrm wc w3.heap.size (.agg #[.bool s, .slice ao n cap, .int .i64 ex]) sL zL eL
theorem Bx.new {w3 w7 : World} {base : Nat} {s : Bool} {ao : Option Addr} {n cap : Nat} {ex : Int} {sL : Bool} {zL : Nat} {eL : Int} (hn : Nrm w7 base (.agg #[.bool s, .slice ao n cap, .int .i64 ex]) sL zL eL) (hb : Below w3.heap.size w3 w7) (hs : w3.heap.size ≤ base) :
    Bx w3 (w7.alloc (.cells #[.bool s, .slice ao n cap, .int .i64 ex] 25)) w7.heap.size s ao n cap ex sL zL eL :=
  ⟨heap_alloc_new _ _, hb.size, hb.alloc hb.size _, (hn.later ((Below.refl _ _).alloc (Nat.le_refl _) _)).mono hs⟩
theorem lt_of_box {w : World} {g : Nat} {o : Obj} (h : w.heap[g]? = some o) : g < w.heap.size := (Array.getElem?_eq_some_iff.1 h).1
theorem Bx.put {w3 w7 : World} {base g : Nat} {s : Bool} {ao : Option Addr} {n cap : Nat} {ex : Int} {sL : Bool} {zL : Nat} {eL : Int} {p q r : Value} (hn : Nrm w7 base (.agg #[.bool s, .slice ao n cap, .int .i64 ex]) sL zL eL) (hb : Below w3.heap.size w3 w7) (hs : w3.heap.size ≤ base) (hg : w3.heap.size ≤ g) (hlt : g < base) (hbx : w7.heap[g]? = some (.cells #[p, q, r] 25 (0, 0))) :
    Bx w3 (((w7.setCell ⟨g, 0, none⟩ (.bool s)).setCell ⟨g, 1, none⟩ (.slice ao n cap)).setCell ⟨g, 2, none⟩ (.int .i64 ex)) g s ao n cap ex sL zL eL :=
  ⟨store3 _ _ _ hbx, hg, below_store3 hb hg _ _ _, (hn.store hlt _ _ _).mono hs⟩

theorem same_self (a : Nat) : same a a = true := by simp [same]
set_option maxHeartbeats 8000000 in
set_option maxRecDepth 200000 in
theorem c60_1 (na xQ : Bool) (ua va wa : Option Addr) (un uc vn vc wn wk mP mQ F : Nat) (ea eb ec : Int) (w : World) (hT : Tab32 w)
    (hP : dlen mP ≤ 100000) (hQ : dlen mQ ≤ 100000) (hL2 : dlen (mP + mQ) ≤ 1000000000) (sL sH : Bool) (zL zH : Nat) (eL eH : Int) (hF : F < 18446744073709551616) (hFi : lt 9218868437227405311 (mag F) = false)
    (kR1 : ∀ W a b, Below w.heap.size w W → Nrm W b a sL zL eL → Calls Tryz.prog 71 #[a, .int .i64 3] W fun r w' => r = .returned (.float .f64 F) ∧ Below W.heap.size W w')
    (kR2 : ∀ W a b, Below w.heap.size w W → Nrm W b a sH zH eH → Calls Tryz.prog 71 #[a, .int .i64 3] W fun r w' => r = .returned (.float .f64 F) ∧ Below W.heap.size W w')
    (kH : ∀ W a b m b', Below w.heap.size w W → Nrm W b a sL zL eL → Own W b' m 1 → Calls Tryz.prog 96 #[a, .agg #[.bool false, m, .int .i64 (-1075)]] W fun r w' => ∃ a, r = .returned a ∧ Nrm w' W.heap.size a sH zH eH ∧ Below W.heap.size W w')
    (kL : ∀ W m b, Below w.heap.size w W → Nrm W b m false (mP + mQ) (-1076) → Calls Tryz.prog 96 #[.agg #[.bool na, .slice ua un uc, .int .i64 ea], m] W fun r w' => ∃ a, r = .returned a ∧ Nrm w' W.heap.size a sL zL eL ∧ Below W.heap.size W w')
    (k67 : ∀ W g, Below w.heap.size w W → W.heap[g]? = some (.cells #[.bool na, .slice ua un uc, .int .i64 ea, .bool false, .slice va vn vc, .int .i64 eb, .bool false, .slice wa wn wk, .int .i64 ec] 25 (0, 0)) → Calls Tryz.prog 47 #[.slice (some ⟨g, 0, none⟩) 3 3] W fun r w' => r = .returned (.bool true) ∧ Below W.heap.size W w')
    (kP : ∀ W, Below w.heap.size w W → Calls Tryz.prog 85 #[NumV false (.slice va vn vc) eb, .int .i64 1076] W fun r w' => ∃ v, r = .returned (.tuple #[v, .bool false]) ∧ Own w' W.heap.size v mP ∧ Below W.heap.size W w')
    (kQ : ∀ W, Below w.heap.size w W → Calls Tryz.prog 85 #[NumV false (.slice wa wn wk) ec, .int .i64 1076] W fun r w' => ∃ v, r = .returned (.tuple #[v, .bool xQ]) ∧ Own w' W.heap.size v mQ ∧ Below W.heap.size W w') :
    Calls Tryz.prog 42 #[NumV na (.slice ua un uc) ea, NumV false (.slice va vn vc) eb, NumV false (.slice wa wn wk) ec] w fun r w' => r = .returned (.tuple #[.float .f64 F, .int .i64 0]) ∧ Below w.heap.size w w' := by
  obtain ⟨W, hW⟩ : ∃ W, W = ((w.alloc (.cells #[.bool na, .slice ua un uc, .int .i64 ea] 25)).alloc (.cells #[.bool false, .slice va vn vc, .int .i64 eb] 25)).alloc (.cells #[.bool false, .slice wa wn wk, .int .i64 ec] 25) := ⟨_, rfl⟩
  obtain ⟨hA, hBb, hC, hsz, hBW⟩ := boxes3 _ _ _ hW
  have hB4 : Below w.heap.size w (W.alloc (.cells #[.bool na, .slice ua un uc, .int .i64 ea, .bool false, .slice va vn vc, .int .i64 eb, .bool false, .slice wa wn wk, .int .i64 ec] 25)) := hBW.alloc hBW.size _
  have k1 := k67 (W.alloc (.cells #[.bool na, .slice ua un uc, .int .i64 ea, .bool false, .slice va vn vc, .int .i64 eb, .bool false, .slice wa wn wk, .int .i64 ec] 25)) (w.heap.size + 1 + 1 + 1) hB4 (by rw [← hsz]; exact heap_alloc_new _ _)
  have HH : Hid (Below w.heap.size w W ∧ Below W.heap.size W (W.alloc (.cells #[.bool na, .slice ua un uc, .int .i64 ea, .bool false, .slice va vn vc, .int .i64 eb, .bool false, .slice wa wn wk, .int .i64 ec] 25)) ∧ W.heap.size = w.heap.size + 1 + 1 + 1 ∧ W.heap[w.heap.size]? = some (.cells #[.bool na, .slice ua un uc, .int .i64 ea] 25 (0, 0)) ∧ W.heap[w.heap.size + 1]? = some (.cells #[.bool false, .slice va vn vc, .int .i64 eb] 25 (0, 0)) ∧ W.heap[w.heap.size + 1 + 1]? = some (.cells #[.bool false, .slice wa wn wk, .int .i64 ec] 25 (0, 0)) ∧ Tab32 W) := ⟨hBW, (Below.refl _ _).alloc (Nat.le_refl _) _, hsz, hA, hBb, hC, hT.later hBW⟩
  have HKP : Hid (∀ W, Below w.heap.size w W → Calls Tryz.prog 85 #[.agg #[.bool false, .slice va vn vc, .int .i64 eb], .int .i64 1076] W fun r w' => ∃ v, r = .returned (.tuple #[v, .bool false]) ∧ Own w' W.heap.size v mP ∧ Below W.heap.size W w') := kP
  have HKQ : Hid (∀ W, Below w.heap.size w W → Calls Tryz.prog 85 #[.agg #[.bool false, .slice wa wn wk, .int .i64 ec], .int .i64 1076] W fun r w' => ∃ v, r = .returned (.tuple #[v, .bool xQ]) ∧ Own w' W.heap.size v mQ ∧ Below W.heap.size W w') := kQ
  have HKL : Hid (∀ W m b, Below w.heap.size w W → Nrm W b m false (mP + mQ) (-1076) → Calls Tryz.prog 96 #[.agg #[.bool na, .slice ua un uc, .int .i64 ea], m] W fun r w' => ∃ a, r = .returned a ∧ Nrm w' W.heap.size a sL zL eL ∧ Below W.heap.size W w') := kL
  have HL : Hid (dlen mP ≤ 100000 ∧ dlen mQ ≤ 100000) := ⟨hP, hQ⟩
  have HR1 : Hid (∀ W a b, Below w.heap.size w W → Nrm W b a sL zL eL → Calls Tryz.prog 71 #[a, .int .i64 3] W fun r w' => r = .returned (.float .f64 F) ∧ Below W.heap.size W w') := kR1
  have HR2 : Hid (∀ W a b, Below w.heap.size w W → Nrm W b a sH zH eH → Calls Tryz.prog 71 #[a, .int .i64 3] W fun r w' => r = .returned (.float .f64 F) ∧ Below W.heap.size W w') := kR2
  have HKH : Hid (∀ W a b m b', Below w.heap.size w W → Nrm W b a sL zL eL → Own W b' m 1 → Calls Tryz.prog 96 #[a, .agg #[.bool false, m, .int .i64 (-1075)]] W fun r w' => ∃ a, r = .returned a ∧ Nrm w' W.heap.size a sH zH eH ∧ Below W.heap.size W w') := kH
  have HF : Hid (F < 18446744073709551616 ∧ lt 9218868437227405311 (mag F) = false) := ⟨hF, hFi⟩
  unfold NumV
  clear kR1 kR2 kH hF hFi hA hBb hC hsz hBW hB4 k67 kP kQ hP hQ hT kL
  go_enter Tryz.func42, Tryz.ntmps42
  go_wp2_with fail
  rw [← hW]
  clear hW
  refine k1.mono ?_
  rintro r w1 ⟨rfl, hB1⟩
  clear k1
  have HB1 : Hid (Below W.heap.size W w1) := HH.out.2.1.trans (hB1.mono HH.out.2.1.size)
  clear hB1
  obtain ⟨⟨b0, b1, b2⟩, -⟩ := box_cells (box_later HH.out.2.2.2.2.1 HB1.out (by have := HH.out.2.2.1; omega))
  obtain ⟨⟨c0, c1, c2⟩, -⟩ := box_cells (box_later HH.out.2.2.2.2.2.1 HB1.out (by have := HH.out.2.2.1; omega))
  go_wp2_with fail
  refine (HKP.out w1 (HH.out.1.trans (HB1.out.mono HH.out.1.size))).mono ?_
  rintro r w2 ⟨vP, rfl, hoP, hB2⟩
  have HB2 : Hid (Below W.heap.size W w2) := HB1.out.trans (hB2.mono HB1.out.size)
  have HOP : Hid (Own w2 w1.heap.size vP mP) := hoP
  clear hoP hB2 b0 b1 b2 c0 c1 c2
  obtain ⟨⟨c0, c1, c2⟩, -⟩ := box_cells (box_later HH.out.2.2.2.2.2.1 HB2.out (by have := HH.out.2.2.1; omega))
  go_wp2_with fail
  refine (HKQ.out w2 (HH.out.1.trans (HB2.out.mono HH.out.1.size))).mono ?_
  rintro r w3 ⟨vQ, rfl, hoQ, hB3⟩
  have HB3 : Hid (Below W.heap.size W w3) := HB2.out.trans (hB3.mono HB2.out.size)
  have HOQ : Hid (Own w3 w2.heap.size vQ mQ ∧ Own w3 w1.heap.size vP mP ∧ Below w2.heap.size w2 w3) := ⟨hoQ, HOP.out.later hB3, hB3⟩
  clear hoQ hB3 c0 c1 c2 HOP
  obtain ⟨⟨a0, a1, a2⟩, -⟩ := box_cells (box_later HH.out.2.2.2.1 HB3.out (by have := HH.out.2.2.1; omega))
  have HK : Hid (∀ w', Below w3.heap.size w3 w' → (w'.cell? ⟨w.heap.size, 0, none⟩ = some (.bool na) ∧ w'.cell? ⟨w.heap.size, 1, none⟩ = some (.slice ua un uc) ∧ w'.cell? ⟨w.heap.size, 2, none⟩ = some (.int .i64 ea)) ∧ Below w3.heap.size w3 w') := fun w' hb => ⟨(box_cells (box_later HH.out.2.2.2.1 (HB3.out.trans (hb.mono HB3.out.size)) (by have := HH.out.2.2.1; omega))).1, hb⟩
  have k122 : ∀ w4, Below w3.heap.size w3 w4 → Calls Tryz.prog 97 #[vP, vQ] w4 fun r w' => ∃ v, r = .returned v ∧ Own w' w3.heap.size v (mP + mQ) ∧ Below w3.heap.size w3 w' ∧ Hid (∀ g o, w4.heap[g]? = some o → w'.heap[g]? = some o) := fun w4 hb =>
    (c122 (HOQ.out.2.1.later hb).is (HOQ.out.1.later hb).is (by have := HL.out.1; omega) (by have := HL.out.2; omega)).mono fun r w' ⟨v, e1, o1, o2⟩ => ⟨v, e1, o1.mono hb.size, hb.trans (o2.mono hb.size), fun g o hg => box_later hg o2 (Array.getElem?_eq_some_iff.1 hg).1⟩
  have k56 : ∀ v5 w5, Own w5 w3.heap.size v5 (mP + mQ) → Below w3.heap.size w3 w5 → Calls Tryz.prog 73 #[.bool false, v5, .int .i64 (-1076)] w5 fun r w' => ∃ m, r = .returned m ∧ Nrm w' w3.heap.size m false (mP + mQ) (-1076) ∧ Below w3.heap.size w3 w' ∧ Hid (∀ g o, w5.heap[g]? = some o → w'.heap[g]? = some o) := fun v5 w5 ho hb =>
    (c56 ho.is hL2 ((HH.out.2.2.2.2.2.2.later HB3.out).later hb) (by omega)).mono fun r w' ⟨v, e1, o1, o2⟩ => ⟨v, e1, o1.mono hb.size, hb.trans (o2.mono hb.size), fun g o hg => box_later hg o2 (Array.getElem?_eq_some_iff.1 hg).1⟩
  have k87 : ∀ m w6, Nrm w6 w3.heap.size m false (mP + mQ) (-1076) → Below w3.heap.size w3 w6 → Calls Tryz.prog 96 #[.agg #[.bool na, .slice ua un uc, .int .i64 ea], m] w6 fun r w' => ∃ s ao n cap ex, r = .returned (.agg #[.bool s, .slice ao n cap, .int .i64 ex]) ∧ Nrm w' w6.heap.size (.agg #[.bool s, .slice ao n cap, .int .i64 ex]) sL zL eL ∧ Below w3.heap.size w3 w' ∧ Hid (∀ g o, w6.heap[g]? = some o → w'.heap[g]? = some o) := fun m w6 hN hb =>
    (HKL.out w6 m w3.heap.size (HH.out.1.trans ((HB3.out.trans (hb.mono HB3.out.size)).mono HH.out.1.size)) hN).mono fun r w' ⟨v, e1, o1, o2⟩ => by
      obtain ⟨s, ao, n, cap, ex, rfl⟩ := o1.shape
      exact ⟨s, ao, n, cap, ex, e1, o1, hb.trans (o2.mono hb.size), fun g o hg => box_later hg o2 (Array.getElem?_eq_some_iff.1 hg).1⟩
  have hBR : Below w3.heap.size w3 w3.drew := (Below.refl _ _).drew
  clear hL2
  go_upto_region 8 with fail
  go_cut [12] from 37 to 42 (fun p wx => ∃ g s ao n cap ex, p = .pointer (some ⟨g, 0, none⟩) ∧ Hid (Bx w3 wx g s ao n cap ex sL zL eL))
  case first =>
    go_region_held3 (fun w' => (w'.cell? ⟨w.heap.size, 0, none⟩ = some (.bool na) ∧ w'.cell? ⟨w.heap.size, 1, none⟩ = some (.slice ua un uc) ∧ w'.cell? ⟨w.heap.size, 2, none⟩ = some (.int .i64 ea)) ∧ Below w3.heap.size w3 w') (first | (with_reducible assumption) | exact ⟨⟨a0, a1, a2⟩, hBR⟩ | (refine HK.out _ ?_; with_reducible assumption) | (refine HK.out _ ?_; refine Below.alloc (by with_reducible assumption) (Below.size (by with_reducible assumption)) _) | (refine HK.out _ (below_store3 (by first | (with_reducible assumption) | exact hb7.alloc hb7.size _) (by first | exact Nat.le_refl _ | exact hb5.size | exact hb6.size | exact hb7.size) _ _ _)) | go_keep)
      (first | (go_at_call 97; refine (k122 _ (by first | (with_reducible assumption) | exact hBR.alloc hBR.size _)).mono ?_; rintro r w5 ⟨v5, rfl, ho5, hb5, hk5⟩; first | (have HBX : Hid (w5.heap[w3.heap.size]? = some (.cells #[.bool false, .slice none 0 0, .int .i64 0] 25 (0, 0))) := hk5.out _ _ (heap_alloc_new w3.drew _)) | (have HBX : Hid True := trivial))
             | (go_at_call 73; refine (k56 _ _ (by first | (with_reducible assumption) | exact ho5.later ((Below.refl _ _).alloc (Nat.le_refl _) _)) (by first | (with_reducible assumption) | exact hb5.alloc hb5.size _)).mono ?_; rintro r w6 ⟨m6, rfl, hn6, hb6, hk6⟩; first | (have HBY := hidOf (hk6.out _ _ HBX.out)) | (have HBY : Hid (w6.heap[w5.heap.size]? = some (.cells #[.bool false, .slice none 0 0, .int .i64 0] 25 (0, 0))) := hk6.out _ _ (heap_alloc_new w5 _)) | (have HBY : Hid True := trivial))
             | (go_at_call 96; refine (k87 _ _ (by first | (with_reducible assumption) | exact Nrm.later hn6 ((Below.refl _ _).alloc (Nat.le_refl _) _)) (by first | (with_reducible assumption) | exact hb6.alloc hb6.size _)).mono ?_; rintro r w7 ⟨s7, ao7, n7, cap7, ex7, rfl, hn7, hb7, hk7⟩; first | (have HBZ := hidOf (hk7.out _ _ HBY.out); obtain ⟨⟨x1, x2, x3⟩, x4, x5, x6⟩ := box_cells HBZ.out) | (have HBZ : Hid (w7.heap[w6.heap.size]? = some (.cells #[.bool false, .slice none 0 0, .int .i64 0] 25 (0, 0))) := hk7.out _ _ (heap_alloc_new w6 _); obtain ⟨⟨x1, x2, x3⟩, x4, x5, x6⟩ := box_cells HBZ.out) | (have HBZ : Hid True := trivial)))
    all_goals go_wp2_with fail
    all_goals go_meet
    all_goals first
      | exact ⟨_, _, _, _, _, _, rfl, Bx.new hn7 hb7 hb6.size⟩
      | exact ⟨_, _, _, _, _, _, rfl, Bx.put hn7 hb7 (Nat.le_trans hb6.size (by simp)) hb6.size (by simp) HBZ.out⟩
      | exact ⟨_, _, _, _, _, _, rfl, Bx.put hn7 hb7 hb6.size hb5.size (lt_of_box HBY.out) HBZ.out⟩
      | exact ⟨_, _, _, _, _, _, rfl, Bx.put hn7 hb7 hb6.size (Nat.le_refl _) (lt_of_box HBY.out) HBZ.out⟩
  case rest =>
    obtain ⟨w8, rfl⟩ : ∃ w8 : World, w8 = wc := ⟨_, rfl⟩
    obtain ⟨g, s8, ao8, n8, cap8, ex8, rfl, H8⟩ := hcut
    obtain ⟨⟨x1, x2, x3⟩, -⟩ := box_cells H8.out.1
    have HW8 : Hid (Below w.heap.size w w8) := HH.out.1.trans ((HB3.out.trans (H8.out.2.2.1.mono HB3.out.size)).mono HH.out.1.size)
    have kr := HR1.out w8 _ _ HW8.out H8.out.2.2.2
    clear k122 k56 k87 HK hBR a0 a1 a2
    go_wp2_with fail
    refine kr.mono ?_
    rintro r w9 ⟨rfl, hb9⟩
    have HW9 : Hid (Below w.heap.size w w9 ∧ Below w8.heap.size w8 w9) := ⟨HW8.out.trans (hb9.mono HW8.out.size), hb9⟩
    have H9 : Hid (w9.heap[g]? = some (.cells #[.bool s8, .slice ao8 n8 cap8, .int .i64 ex8] 25 (0, 0))) := box_later H8.out.1 hb9 (lt_of_box H8.out.1)
    have k66 := c123 F HF.out.1
    rw [HF.out.2] at k66
    clear kr hb9 x1 x2 x3
    obtain ⟨⟨a0, a1, a2⟩, -⟩ := box_cells H9.out
    have hBR : Below w9.heap.size w9 w9.drew := (Below.refl _ _).drew
    have HK : Hid (∀ w', Below w9.heap.size w9 w' → (w'.cell? ⟨g, 0, none⟩ = some (.bool s8) ∧ w'.cell? ⟨g, 1, none⟩ = some (.slice ao8 n8 cap8) ∧ w'.cell? ⟨g, 2, none⟩ = some (.int .i64 ex8)) ∧ Below w9.heap.size w9 w') := fun w' hb => ⟨(box_cells (box_later H9.out hb (lt_of_box H9.out))).1, hb⟩
    have k32 : ∀ w4, Below w9.heap.size w9 w4 → Calls Tryz.prog 74 #[.int .u64 1] w4 fun r w' => ∃ ao n cap, r = .returned (.slice ao n cap) ∧ Own w' w9.heap.size (.slice ao n cap) 1 ∧ Below w9.heap.size w9 w' ∧ Hid (∀ g o, w4.heap[g]? = some o → w'.heap[g]? = some o) := fun w4 hb =>
      (c57 1 w4 (by omega)).mono fun r w' ⟨v, e1, o1, o2⟩ => by
        obtain ⟨ao, cap, rfl, -, -, -⟩ := o1.is
        exact ⟨_, _, _, e1, o1.mono hb.size, hb.trans (o2.mono hb.size), fun g o hg => box_later hg o2 (lt_of_box hg)⟩
    have k44 : ∀ am nm cm w6, Own w6 w9.heap.size (.slice am nm cm) 1 → Below w9.heap.size w9 w6 → Calls Tryz.prog 96 #[.agg #[.bool s8, .slice ao8 n8 cap8, .int .i64 ex8], .agg #[.bool false, .slice am nm cm, .int .i64 (-1075)]] w6 fun r w' => ∃ s ao n cap ex, r = .returned (.agg #[.bool s, .slice ao n cap, .int .i64 ex]) ∧ Nrm w' w6.heap.size (.agg #[.bool s, .slice ao n cap, .int .i64 ex]) sH zH eH ∧ Below w9.heap.size w9 w' ∧ Hid (∀ g o, w6.heap[g]? = some o → w'.heap[g]? = some o) := fun am nm cm w6 hN hb =>
      (HKH.out w6 _ _ _ _ (HW9.out.1.trans (hb.mono HW9.out.1.size)) (H8.out.2.2.2.later (HW9.out.2.trans (hb.mono HW9.out.2.size))) hN).mono fun r w' ⟨v, e1, o1, o2⟩ => by
        obtain ⟨s, ao, n, cap, ex, rfl⟩ := o1.shape
        exact ⟨s, ao, n, cap, ex, e1, o1, hb.trans (o2.mono hb.size), fun g o hg => box_later hg o2 (lt_of_box hg)⟩
    go_upto_region 12 with (first | (go_at_call 98; refine (k66 _).mono ?_; rintro e w' ⟨rfl, hw'⟩; replace hw' := hw'.symm; subst hw'))
    clear k66
    go_cut [14] from 54 to 57 (fun p wx => ∃ g s ao n cap ex, p = .pointer (some ⟨g, 0, none⟩) ∧ Hid (Bx w9 wx g s ao n cap ex sH zH eH))
    case first =>
      go_region_held3 (fun w' => (w'.cell? ⟨g, 0, none⟩ = some (.bool s8) ∧ w'.cell? ⟨g, 1, none⟩ = some (.slice ao8 n8 cap8) ∧ w'.cell? ⟨g, 2, none⟩ = some (.int .i64 ex8)) ∧ Below w9.heap.size w9 w') (first | (with_reducible assumption) | exact ⟨⟨a0, a1, a2⟩, hBR⟩ | (refine HK.out _ ?_; with_reducible assumption) | (refine HK.out _ ?_; refine Below.alloc (by with_reducible assumption) (Below.size (by with_reducible assumption)) _) | (refine HK.out _ (below_store3 (by first | (with_reducible assumption) | exact hb7.alloc hb7.size _) (by first | exact Nat.le_refl _ | exact hb5.size | exact hb7.size) _ _ _)) | go_keep)
        (first | (go_at_call 74; refine (k32 _ (by first | (with_reducible assumption) | exact hBR.alloc hBR.size _)).mono ?_; rintro r w5 ⟨am, nm, cm, rfl, ho5, hb5, hk5⟩; first | (have HBY : Hid (w5.heap[w9.heap.size]? = some (.cells #[.bool false, .slice none 0 0, .int .i64 0] 25 (0, 0))) := hk5.out _ _ (heap_alloc_new w9.drew _)) | (have HBY : Hid True := trivial))
               | (go_at_call 96; refine (k44 _ _ _ _ (by first | (with_reducible assumption) | exact ho5.later ((Below.refl _ _).alloc (Nat.le_refl _) _)) (by first | (with_reducible assumption) | exact hb5.alloc hb5.size _)).mono ?_; rintro r w7 ⟨s7, ao7, n7, cap7, ex7, rfl, hn7, hb7, hk7⟩; first | (have HBZ := hidOf (hk7.out _ _ HBY.out); obtain ⟨⟨x1, x2, x3⟩, x4, x5, x6⟩ := box_cells HBZ.out) | (have HBZ : Hid (w7.heap[w5.heap.size]? = some (.cells #[.bool false, .slice none 0 0, .int .i64 0] 25 (0, 0))) := hk7.out _ _ (heap_alloc_new w5 _); obtain ⟨⟨x1, x2, x3⟩, x4, x5, x6⟩ := box_cells HBZ.out) | (have HBZ : Hid True := trivial)))
      all_goals go_wp2_with fail
      all_goals go_meet
      all_goals first
        | exact ⟨_, _, _, _, _, _, rfl, Bx.new hn7 hb7 hb5.size⟩
        | exact ⟨_, _, _, _, _, _, rfl, Bx.put hn7 hb7 (Nat.le_trans hb5.size (by simp)) hb5.size (by simp) HBZ.out⟩
        | exact ⟨_, _, _, _, _, _, rfl, Bx.put hn7 hb7 hb5.size (Nat.le_refl _) (lt_of_box HBY.out) HBZ.out⟩
    case rest =>
      obtain ⟨w10, rfl⟩ : ∃ w10 : World, w10 = wc := ⟨_, rfl⟩
      obtain ⟨g', s9, ao9, n9, cap9, ex9, rfl, H10⟩ := hcut
      obtain ⟨⟨x1, x2, x3⟩, -⟩ := box_cells H10.out.1
      have HW10 : Hid (Below w.heap.size w w10) := HW9.out.1.trans (H10.out.2.2.1.mono HW9.out.1.size)
      have kr := HR2.out w10 _ _ HW10.out H10.out.2.2.2
      clear k32 k44 HK hBR a0 a1 a2
      go_wp2_with fail
      refine kr.mono ?_
      rintro r w11 ⟨rfl, hb11⟩
      have k67 := Ie.c11 F F HF.out.1 HF.out.1 w11
      rw [same_self] at k67
      have HW11 : Hid (Below w.heap.size w w11) := HW10.out.trans (hb11.mono HW10.out.size)
      clear kr hb11 x1 x2 x3
      go_wp2_with (first | (go_at_call 99; refine k67.mono ?_; rintro e w' ⟨rfl, hw'⟩; replace hw' := hw'.symm; subst hw'))
      refine bodyPost_ret (results_tmp2 rfl _ _ _) rfl ?_
      exact ⟨rfl, HW11.out⟩
end Go.Proofs.YtmhpicccfaklcaaGreatDoor

/- Sub. -/
namespace Go.Proofs.YtmhpicccfaklcaaGreatDoor
set_option linter.unusedVariables false
set_option linter.unusedSimpArgs false
open Go.RowKit

theorem dlen_sumN (na : Bool) (x : Nat) (ea : Int) (nb : Bool) (y : Nat) (eb : Int) (hx : dlen x ≤ 500000) (hy : dlen y ≤ 500000) (ha : -4000000 ≤ ea ∧ ea ≤ 4000000) (hb : -4000000 ≤ eb ∧ eb ≤ 4000000) : dlen (sumN na x ea nb y eb).2.1 ≤ 1000000 := by
  unfold sumN
  have l1 : dlen (x * 2 ^ (ea - min ea eb).toNat) ≤ 760000 := by have := shl_len (x := x) (k := (ea - min ea eb).toNat) rfl; omega
  have l2 : dlen (y * 2 ^ (eb - min ea eb).toNat) ≤ 760000 := by have := shl_len (x := y) (k := (eb - min ea eb).toNat) rfl; omega
  have l3 := dlen_add_le (x * 2 ^ (ea - min ea eb).toNat) (y * 2 ^ (eb - min ea eb).toNat)
  split
  · show dlen y ≤ _; omega
  · split
    · show dlen x ≤ _; omega
    · split
      · show dlen (_ + _) ≤ _; omega
      · split
        · have := dlen_mono (Nat.sub_le (y * 2 ^ (eb - min ea eb).toNat) (x * 2 ^ (ea - min ea eb).toNat)); show dlen (_ - _) ≤ _; omega
        · have := dlen_mono (Nat.sub_le (x * 2 ^ (ea - min ea eb).toNat) (y * 2 ^ (eb - min ea eb).toNat)); show dlen (_ - _) ≤ _; omega

end Go.Proofs.YtmhpicccfaklcaaGreatDoor
