/- Own work: contracts of the program's functions, part 11: VR4 VR5 HX W46 W47 L5 W42 G3 W43 L7 RB1 RB2 RB3 R7 RB4 RB5 RB6 RB7 RB8 RB9 W33 RC1 RC2 RC3 V1 V2 E2 V3. -/
import Derived.Test.YtbmaoiemgepppaaGreatDoorA10
import Derived.BigQuiet
import Derived.Lib.Bytealg
import Derived.Test.YtbmaoiemgepppaaGreatDoorA3
import Derived.Test.YtbmaoiemgepppaaGreatDoorA5
import Derived.Test.YtbmaoiemgepppaaGreatDoorA7
import Derived.Test.YtbmaoiemgepppaaGreatDoorA8
import Derived.Deep.CutRange
import Derived.Test.YtbmaoiemgepppaaGreatDoorA2
import Derived.Laws.AppendOwnNone
import Derived.Test.YtbmaoiemgepppaaGreatDoorA6

/- strings.Cut at one byte; the contract of Index is a hypothesis. -/
namespace Go.Proofs.YtbmaoiemgepppaaGreatDoor
set_option linter.unusedVariables false
set_option linter.unusedSimpArgs false
open Go Go.RowKit Go.Fl64

/-- what internal/stringslite.Index answers of one byte -/
def IxS : Prop := ∀ (s : ByteArray) (w : World),
    Calls Tryz.prog 64 #[.string s, .string ⟨#[112]⟩] w fun e w' => e = .returned (.int .i64 (Lib.indexByte s.data.toList 112)) ∧ w' = w

theorem below_drewN (w : World) (n : Nat) : Below w.heap.size w (w.drewN n) := ⟨rfl, rfl, rfl, Nat.le_refl _, fun _ _ => rfl⟩
set_option maxRecDepth 200000 in
theorem lcut_1 (ki : IxS) (s : ByteArray) (w : World) (hs : s.size ≤ 1099511627776) (i : Nat) (hi : Lib.indexByte s.data.toList 112 = (i : Int)) (hi2 : i < s.size) :
    Calls Tryz.prog 31 #[.string s, .string ⟨#[112]⟩] w fun r w' => r = .returned (.tuple #[.string (s.extract 0 i), .string (s.extract (i + 1) s.size), .bool true]) ∧ Below w.heap.size w w' := by
  have k := ki s
  clear ki
  rw [hi] at k
  have q0 : (i : Int) ≥ 0 := by omega
  clear hi
  go_enter Tryz.func31, Tryz.ntmps31
  go_wp2_with (first | (go_at_call 64; refine (k _).mono ?_; rintro e w' ⟨rfl, hw'⟩; replace hw' := hw'.symm; subst hw') | fail)
  have q1 : (0 : Int) ≤ i ∧ (i : Int) ≤ (s.size : Int) := by omega
  have q2 : (0 : Int) ≤ (i : Int) + 1 ∧ (i : Int) + 1 ≤ (s.size : Int) := by omega
  have q3 : ((i : Int) + 1).toNat = i + 1 := by omega
  go_quiet (fail)
  have HB : Hid (Below w.heap.size w (w.drewN nq)) := below_drewN w nq
  generalize w.drewN nq = wd at *
  go_wp2_with fail
  refine bodyPost_ret (results_tmp3 rfl _ _ _) rfl ?_
  exact ⟨rfl, HB.out⟩
set_option maxRecDepth 200000 in
theorem lcut_2 (ki : IxS) (s : ByteArray) (w : World) (hi : Lib.indexByte s.data.toList 112 = -1) :
    Calls Tryz.prog 31 #[.string s, .string ⟨#[112]⟩] w fun r w' => r = .returned (.tuple #[.string s, .string ⟨#[]⟩, .bool false]) ∧ Below w.heap.size w w' := by
  have k := ki s
  clear ki
  rw [hi] at k
  clear hi
  go_enter Tryz.func31, Tryz.ntmps31
  go_wp2_with (first | (go_at_call 64; refine (k _).mono ?_; rintro e w' ⟨rfl, hw'⟩; replace hw' := hw'.symm; subst hw') | fail)
  refine bodyPost_ret (results_tmp3 rfl _ _ _) rfl ?_
  exact ⟨rfl, Below.refl _ _⟩

/-- a text cut at the first 'p': what stands ahead of it -/
def cutA (s : ByteArray) : ByteArray := if Lib.indexByte s.data.toList 112 < 0 then s else s.extract 0 (Lib.indexByte s.data.toList 112).toNat
/-- and what stands behind it -/
def cutB (s : ByteArray) : ByteArray := if Lib.indexByte s.data.toList 112 < 0 then ⟨#[]⟩ else s.extract ((Lib.indexByte s.data.toList 112).toNat + 1) s.size
theorem ixb (l : List UInt8) (c : UInt8) : Lib.indexByte l c = -1 ∨ ∃ i : Nat, Lib.indexByte l c = (i : Int) ∧ i < l.length := by
  induction l with
  | nil => left; rfl
  | cons b l ih =>
    unfold Lib.indexByte
    by_cases h1 : (b == c) = true
    · rw [if_pos h1]; right; exact ⟨0, rfl, by simp⟩
    · rw [if_neg h1]
      rcases ih with h2 | ⟨i, h2, h3⟩
      · left; rw [h2]; rfl
      · right
        refine ⟨i + 1, ?_, by rw [List.length_cons]; omega⟩
        rw [h2, if_neg (by rw [beq_iff_eq]; omega)]
        omega
theorem lcut (ki : IxS) (s : ByteArray) (w : World) (hs : s.size ≤ 1099511627776) :
    Calls Tryz.prog 31 #[.string s, .string ⟨#[112]⟩] w fun r w' => ∃ b, r = .returned (.tuple #[.string (cutA s), .string (cutB s), .bool b]) ∧ Below w.heap.size w w' := by
  rcases ixb s.data.toList 112 with h | ⟨i, h, h2⟩
  · refine (lcut_2 ki s w h).mono ?_
    rintro r w' ⟨rfl, hb⟩
    refine ⟨false, ?_, hb⟩
    unfold cutA cutB
    rw [h, if_pos (by decide), if_pos (by decide)]
  · have h3 : s.data.toList.length = s.size := by rw [Array.length_toList]; rfl
    refine (lcut_1 ki s w hs i h (by omega)).mono ?_
    rintro r w' ⟨rfl, hb⟩
    refine ⟨true, ?_, hb⟩
    unfold cutA cutB
    rw [h, if_neg (by omega), if_neg (by omega), Int.toNat_natCast]
set_option maxRecDepth 200000 in
theorem scut (ki : IxS) (s : ByteArray) (w : World) (hs : s.size ≤ 1099511627776) :
    Calls Tryz.prog 9 #[.string s, .string ⟨#[112]⟩] w fun r w' => ∃ b, r = .returned (.tuple #[.string (cutA s), .string (cutB s), .bool b]) ∧ Below w.heap.size w w' := by
  have k := lcut ki s w hs
  clear ki
  generalize cutA s = A at *
  generalize cutB s = C at *
  go_enter Tryz.func9, Tryz.ntmps9
  go_wp2_with fail
  refine k.mono ?_
  rintro r w1 ⟨b, rfl, hb⟩
  have HB : Hid (Below w.heap.size w w1) := hb
  clear k hb
  go_wp2_with fail
  refine bodyPost_ret (results_tmp3 rfl _ _ _) rfl ?_
  exact ⟨_, rfl, HB.out⟩
theorem cutA_size (s : ByteArray) : (cutA s).size ≤ s.size := by
  unfold cutA
  split
  · exact Nat.le_refl _
  · rw [ByteArray.size_extract]; omega
theorem cutB_size (s : ByteArray) : (cutB s).size ≤ s.size := by
  unfold cutB
  split
  · exact Nat.zero_le _
  · rw [ByteArray.size_extract]; omega
end Go.Proofs.YtbmaoiemgepppaaGreatDoor
/- The program's Read, walked: what it calls is given by hypotheses. -/
namespace Go.Proofs.YtbmaoiemgepppaaGreatDoor
set_option linter.unusedVariables false
set_option linter.unusedSimpArgs false
open Go Go.RowKit Go.Fl64

/-- the world with the box of the answer laid -/
theorem box1 (w : World) {W : World} (hW : W = w.alloc (.cells #[.bool false, .slice none 0 0, .int .i64 0] 24)) :
    W.heap[w.heap.size]? = some (.cells #[.bool false, .slice none 0 0, .int .i64 0] 24 (0, 0)) ∧ W.heap.size = w.heap.size + 1 ∧ Below w.heap.size w W := by
  subst hW
  exact ⟨heap_alloc_new _ _, by simp, (Below.refl _ _).alloc (Nat.le_refl _) _⟩

set_option maxRecDepth 200000 in
theorem pread_long (s : ByteArray) (w : World) (h : (s.size : Int) > 16392) (hs : s.size ≤ 9223372036854775807) :
    Calls Tryz.prog 4 #[.string s] w fun r w' => r = .returned (.tuple #[.agg #[.bool false, .slice none 0 0, .int .i64 0], .int .i64 3]) ∧ Below w.heap.size w w' := by
  obtain ⟨W, hW⟩ : ∃ W, W = w.alloc (.cells #[.bool false, .slice none 0 0, .int .i64 0] 24) := ⟨_, rfl⟩
  obtain ⟨hA, hsz, hB⟩ := box1 w hW
  have HA : Hid (W.heap[w.heap.size]? = some (.cells #[.bool false, .slice none 0 0, .int .i64 0] 24 (0, 0)) ∧ Below w.heap.size w W) := ⟨hA, hB⟩
  obtain ⟨⟨x1, x2, x3⟩, x4, x5, x6⟩ := box_cells hA
  clear hA hsz hB
  go_enter Tryz.func4, Tryz.ntmps4
  go_wp2_with fail
  rw [← hW]
  refine bodyPost_ret (results_cell_tmp_row rfl _ _ w.heap.size 24 #[.bool false, .slice none 0 0, .int .i64 0] (0, 0) _ rfl HA.out.1 Tryz.underlying24 rfl Tryz.info24) rfl ?_
  exact ⟨rfl, HA.out.2⟩

set_option maxHeartbeats 4000000 in
set_option maxRecDepth 200000 in
theorem pread_1 (s B1 D E S : ByteArray) (neg : Bool) (v : Int) (nx : Nat) (w : World) (h : ¬ (s.size : Int) > 16392) (RD RT : World → Value → Prop)
    (kp : ∀ W, Below w.heap.size w W → Calls Tryz.prog 8 #[.string s, .string ⟨#[45]⟩] W fun r w' => r = .returned (.tuple #[.string B1, .bool neg]) ∧ w' = W)
    (kc : ∀ W, Below w.heap.size w W → Calls Tryz.prog 9 #[.string B1, .string ⟨#[112]⟩] W fun r w' => ∃ b, r = .returned (.tuple #[.string D, .string E, .bool b]) ∧ Below W.heap.size W w')
    (ka : ∀ W, Below w.heap.size w W → Calls Tryz.prog 10 #[.string E] W fun r w' => r = .returned (.tuple #[.int .i64 v, .nilIface]) ∧ Below W.heap.size W w')
    (kr : ∀ W, Below w.heap.size w W → w.heap.size < W.heap.size → Calls Tryz.prog 12 #[.string D] W fun r w' => ∃ V0, r = .returned V0 ∧ RD w' V0 ∧ Below W.heap.size W w')
    (kt : ∀ W V0, RD W V0 → Calls Tryz.prog 11 #[V0] W fun r w' => ∃ ao cap, r = .returned (.slice ao nx cap) ∧ RT w' (.slice ao nx cap) ∧ w' = W)
    (ks : ∀ W ao cap, Below w.heap.size w W → RT W (.slice ao nx cap) → Calls Tryz.prog 13 #[.agg #[.bool neg, .slice ao nx cap, .int .i64 v]] W fun r w' => r = .returned (.string S) ∧ Below W.heap.size W w')
    (kl : ∀ W W' V1, RT W V1 → Below W.heap.size W W' → RT W' V1)
    (kl2 : ∀ W V1 a b c, RT W V1 → RT (((W.setCell ⟨w.heap.size, 0, none⟩ a).setCell ⟨w.heap.size, 1, none⟩ b).setCell ⟨w.heap.size, 2, none⟩ c) V1) :
    Calls Tryz.prog 4 #[.string s] w fun r w' => (if S = s then ∃ ao cap, r = .returned (.tuple #[.agg #[.bool neg, .slice ao nx cap, .int .i64 v], .int .i64 0]) ∧ RT w' (.slice ao nx cap) else r = .returned (.tuple #[.agg #[.bool false, .slice none 0 0, .int .i64 0], .int .i64 3])) ∧ Below w.heap.size w w' := by
  obtain ⟨W, hW⟩ : ∃ W, W = w.alloc (.cells #[.bool false, .slice none 0 0, .int .i64 0] 24) := ⟨_, rfl⟩
  obtain ⟨hA, hsz, hB⟩ := box1 w hW
  have HA : Hid (W.heap[w.heap.size]? = some (.cells #[.bool false, .slice none 0 0, .int .i64 0] 24 (0, 0)) ∧ W.heap.size = w.heap.size + 1 ∧ Below w.heap.size w W) := ⟨hA, hsz, hB⟩
  have kp1 := kp W hB
  have kc1 := kc W hB
  clear hA hsz hB kp kc
  go_enter Tryz.func4, Tryz.ntmps4
  go_wp2_with fail
  rw [← hW]
  clear hW
  refine kp1.mono ?_
  rintro r w1 ⟨rfl, hw⟩
  replace hw := hw.symm
  subst hw
  clear kp1
  go_wp2_with fail
  refine kc1.mono ?_
  rintro r w1 ⟨b, rfl, hb⟩
  have HB1 : Hid (Below W.heap.size W w1) := hb
  have ka1 := ka w1 (below_step HA.out.2.2 hb)
  clear kc1 hb ka
  go_wp2_with fail
  refine ka1.mono ?_
  rintro r w2 ⟨rfl, hb⟩
  have HB2 : Hid (Below W.heap.size W w2) := below_step HB1.out hb
  have kr1 := kr w2 (below_step HA.out.2.2 HB2.out) (by have := HB2.out.size; have := HA.out.2.1; omega)
  clear ka1 hb kr HB1
  go_wp2_with fail
  refine kr1.mono ?_
  rintro r w3 ⟨V0, rfl, hR, hb⟩
  have HB3 : Hid (Below W.heap.size W w3) := below_step HB2.out hb
  have kt1 := kt w3 V0 hR
  clear kr1 hb hR kt HB2
  go_wp2_with fail
  refine kt1.mono ?_
  rintro r w4 ⟨ao, cap, rfl, hR, hw⟩
  replace hw := hw.symm
  subst hw
  clear kt1
  have HR : Hid (RT w3 (.slice ao nx cap)) := hR
  clear hR
  obtain ⟨W4, hW4⟩ : ∃ W4, W4 = w3.alloc (.cells #[.bool neg, .slice ao nx cap, .int .i64 v] 24) := ⟨_, rfl⟩
  have hb4 : Below w3.heap.size w3 W4 := by rw [hW4]; exact (Below.refl _ _).alloc (Nat.le_refl _) _
  have hn4 : W4.heap[w3.heap.size]? = some (.cells #[.bool neg, .slice ao nx cap, .int .i64 v] 24 (0, 0)) := by rw [hW4]; exact heap_alloc_new _ _
  have hz4 : W4.heap.size = w3.heap.size + 1 := by rw [hW4]; simp
  have ks1 := ks W4 ao cap (below_step (below_step HA.out.2.2 HB3.out) hb4) (kl _ _ _ HR.out hb4)
  have H4 : Hid (Below w3.heap.size w3 W4 ∧ W4.heap[w3.heap.size]? = some (.cells #[.bool neg, .slice ao nx cap, .int .i64 v] 24 (0, 0)) ∧ W4.heap.size = w3.heap.size + 1) := ⟨hb4, hn4, hz4⟩
  clear hb4 hn4 hz4 ks
  go_wp2_with fail
  rw [← hW4]
  clear hW4
  refine ks1.mono ?_
  rintro r w5 ⟨rfl, hb⟩
  have HB5 : Hid (Below W4.heap.size W4 w5) := hb
  have HB6 : Hid (Below W.heap.size W w5) := below_step (below_step HB3.out H4.out.1) hb
  have hbx := box_later H4.out.2.1 hb (by have := H4.out.2.2; omega)
  have hrs := box_later HA.out.1 HB6.out (by have := HA.out.2.1; omega)
  have HX : Hid (w5.heap[w.heap.size]? = some (.cells #[.bool false, .slice none 0 0, .int .i64 0] 24 (0, 0))) := hrs
  obtain ⟨⟨y1, y2, y3⟩, -⟩ := box_cells hbx
  obtain ⟨⟨x1, x2, x3⟩, x4, x5, x6⟩ := box_cells hrs
  clear ks1 hb hbx hrs
  by_cases hS : S = s
  · subst hS
    go_wp2_with fail
    refine bodyPost_ret (results_cell_tmp_row rfl _ _ w.heap.size 24 #[.bool neg, .slice ao nx cap, .int .i64 v] (0, 0) _ rfl (store3 _ _ _ HX.out) Tryz.underlying24 rfl Tryz.info24) rfl ?_
    have hb6 := below_step HA.out.2.2 HB6.out
    exact ⟨⟨ao, cap, rfl, kl2 _ _ _ _ _ (kl _ _ _ HR.out (below_step H4.out.1 HB5.out))⟩, below_store3 hb6 (Nat.le_refl _) _ _ _⟩
  · have hS2 : (!S.toList == s.toList) = true := by
      rw [ByteArray.toList_eq, ByteArray.toList_eq]
      simp only [Bool.not_eq_true', beq_eq_false_iff_ne, ne_eq]
      intro h5
      apply hS
      cases S; cases s
      exact congrArg ByteArray.mk (Array.toList_inj.1 h5)
    have HS : Hid (¬ S = s) := hS
    clear hS
    go_wp2_with fail
    refine bodyPost_ret (results_cell_tmp_row rfl _ _ w.heap.size 24 #[.bool false, .slice none 0 0, .int .i64 0] (0, 0) _ rfl (store3 _ _ _ HX.out) Tryz.underlying24 rfl Tryz.info24) rfl ?_
    exact ⟨rfl, below_store3 (below_step HA.out.2.2 HB6.out) (Nat.le_refl _) _ _ _⟩

set_option maxHeartbeats 4000000 in
set_option maxRecDepth 200000 in
theorem pread_2 (s B1 D E : ByteArray) (neg : Bool) (w : World) (h : ¬ (s.size : Int) > 16392)
    (kp : ∀ W, Below w.heap.size w W → Calls Tryz.prog 8 #[.string s, .string ⟨#[45]⟩] W fun r w' => r = .returned (.tuple #[.string B1, .bool neg]) ∧ w' = W)
    (kc : ∀ W, Below w.heap.size w W → Calls Tryz.prog 9 #[.string B1, .string ⟨#[112]⟩] W fun r w' => ∃ b, r = .returned (.tuple #[.string D, .string E, .bool b]) ∧ Below W.heap.size W w')
    (ka : ∀ W, Below w.heap.size w W → Calls Tryz.prog 10 #[.string E] W fun r w' => ∃ v t p, r = .returned (.tuple #[.int .i64 v, .iface t p]) ∧ Below W.heap.size W w') :
    Calls Tryz.prog 4 #[.string s] w fun r w' => r = .returned (.tuple #[.agg #[.bool false, .slice none 0 0, .int .i64 0], .int .i64 3]) ∧ Below w.heap.size w w' := by
  obtain ⟨W, hW⟩ : ∃ W, W = w.alloc (.cells #[.bool false, .slice none 0 0, .int .i64 0] 24) := ⟨_, rfl⟩
  obtain ⟨hA, hsz, hB⟩ := box1 w hW
  have HA : Hid (W.heap[w.heap.size]? = some (.cells #[.bool false, .slice none 0 0, .int .i64 0] 24 (0, 0)) ∧ W.heap.size = w.heap.size + 1 ∧ Below w.heap.size w W) := ⟨hA, hsz, hB⟩
  have kp1 := kp W hB
  have kc1 := kc W hB
  clear hA hsz hB kp kc
  go_enter Tryz.func4, Tryz.ntmps4
  go_wp2_with fail
  rw [← hW]
  clear hW
  refine kp1.mono ?_
  rintro r w1 ⟨rfl, hw⟩
  replace hw := hw.symm
  subst hw
  clear kp1
  go_wp2_with fail
  refine kc1.mono ?_
  rintro r w1 ⟨b, rfl, hb⟩
  have HB1 : Hid (Below W.heap.size W w1) := hb
  have ka1 := ka w1 (below_step HA.out.2.2 hb)
  clear kc1 hb ka
  go_wp2_with fail
  refine ka1.mono ?_
  rintro r w5 ⟨v, t, p, rfl, hb⟩
  have HB6 : Hid (Below W.heap.size W w5) := below_step HB1.out hb
  have hrs := box_later HA.out.1 HB6.out (by have := HA.out.2.1; omega)
  have HX : Hid (w5.heap[w.heap.size]? = some (.cells #[.bool false, .slice none 0 0, .int .i64 0] 24 (0, 0))) := hrs
  obtain ⟨⟨x1, x2, x3⟩, x4, x5, x6⟩ := box_cells hrs
  clear ka1 hb hrs HB1
  go_wp2_with fail
  refine bodyPost_ret (results_cell_tmp_row rfl _ _ w.heap.size 24 #[.bool false, .slice none 0 0, .int .i64 0] (0, 0) _ rfl (store3 _ _ _ HX.out) Tryz.underlying24 rfl Tryz.info24) rfl ?_
  exact ⟨rfl, below_store3 (below_step HA.out.2.2 HB6.out) (Nat.le_refl _) _ _ _⟩
end Go.Proofs.YtbmaoiemgepppaaGreatDoor
/- Numbers written in base 16. -/
namespace Go.Proofs.YtbmaoiemgepppaaGreatDoor
set_option linter.unusedVariables false
set_option linter.unusedSimpArgs false
open Go.RowKit

/-- a number's digits in base 16, the first ahead; none for 0 -/
def hexN (v : Nat) : List UInt8 := if h : v = 0 then [] else hexN (v / 16) ++ [UInt8.ofNat (hx (v % 16))]
termination_by v
decreasing_by omega
theorem hexN_zero : hexN 0 = [] := by rw [hexN]; rfl
theorem hexN_pos {v : Nat} (h : v ≠ 0) : hexN v = hexN (v / 16) ++ [UInt8.ofNat (hx (v % 16))] := by rw [hexN, dif_neg h]
theorem hexN_step {v d : Nat} (hd : d < 16) (h : v * 16 + d ≠ 0) : hexN (v * 16 + d) = hexN v ++ [UInt8.ofNat (hx d)] := by
  rw [hexN_pos h, show (v * 16 + d) / 16 = v by omega, show (v * 16 + d) % 16 = d by omega]
theorem hexN_nil {v : Nat} : hexN v = [] ↔ v = 0 := by
  constructor
  · intro h
    by_cases h0 : v = 0
    · exact h0
    · rw [hexN_pos h0] at h; simp at h
  · rintro rfl; exact hexN_zero
theorem hexN_len (k : Nat) : ∀ v, v < 16 ^ k → (hexN v).length ≤ k := by
  induction k with
  | zero => intro v h; have h0 : v = 0 := by simpa using h
            subst h0; rw [hexN_zero]; simp
  | succ k ih =>
    intro v h
    by_cases h0 : v = 0
    · subst h0; rw [hexN_zero]; simp
    · rw [hexN_pos h0, List.length_append, List.length_singleton]
      have := ih (v / 16) (by rw [Nat.pow_succ] at h; omega)
      omega
theorem hexL_succ (u j : Nat) : hexL u (j + 1) = hexL (u / 16) j ++ [UInt8.ofNat (hx (u % 16))] := by
  unfold hexL
  rw [List.range_succ, List.map_append]
  congr 1
  · refine List.map_congr_left fun i hi => ?_
    have : i < j + 1 := List.mem_range.1 hi
    rw [show j + 1 - i = (j - i) + 1 by omega, Nat.pow_succ, Nat.mul_comm, Nat.div_div_eq_div_mul]
  · simp
theorem hexL_zero (u : Nat) : hexL u 0 = [UInt8.ofNat (hx (u % 16))] := by simp [hexL, List.range_succ]
/-- k digits more, behind a number that is not 0 -/
theorem hexN_more (k : Nat) : ∀ v d, v ≠ 0 → d < 16 ^ (k + 1) → hexN (v * 16 ^ (k + 1) + d) = hexN v ++ hexL d k := by
  induction k with
  | zero =>
    intro v d hv hd
    rw [hexL_zero, show (16 : Nat) ^ (0 + 1) = 16 by rfl]
    have hd' : d < 16 := by simpa using hd
    rw [hexN_step hd' (by omega), Nat.mod_eq_of_lt hd']
  | succ k ih =>
    intro v d hv hd
    rw [hexL_succ, ← List.append_assoc, ← ih v (d / 16) hv (by rw [Nat.pow_succ] at hd; omega)]
    have e : v * 16 ^ (k + 1 + 1) + d = (v * 16 ^ (k + 1) + d / 16) * 16 + d % 16 := by
      rw [Nat.pow_succ 16 (k + 1), Nat.add_mul, ← Nat.mul_assoc]
      omega
    rw [e]
    refine hexN_step (by omega) ?_
    have : 0 < v * 16 ^ (k + 1) := Nat.mul_pos (by omega) (Nat.pow_pos (by omega))
    omega
/-- the digits of a number that is not 0, as FormatUint tells them -/
theorem hexL_hexN : ∀ (j u : Nat), u / 16 ^ j < 16 → u ≠ 0 → (j = 0 ∨ 16 ≤ u / 16 ^ (j - 1)) → hexL u j = hexN u
  | 0, u, h, h0, _ => by
    have h' : u < 16 := by simpa using h
    rw [hexL_zero, hexN_pos h0, show u / 16 = 0 by omega, hexN_zero]; rfl
  | j + 1, u, h, h0, h1 => by
    rcases h1 with h1 | h1
    · omega
    · rw [Nat.add_sub_cancel] at h1
      have h2 : 16 ≤ u := Nat.le_trans h1 (Nat.div_le_self _ _)
      rw [hexL_succ, hexN_pos h0, hexL_hexN j (u / 16) (by rw [Nat.div_div_eq_div_mul, Nat.mul_comm, ← Nat.pow_succ]; exact h) (by omega)]
      cases j with
      | zero => exact .inl rfl
      | succ j =>
        refine .inr ?_
        rw [Nat.add_sub_cancel, Nat.div_div_eq_div_mul, Nat.mul_comm, ← Nat.pow_succ]
        exact h1
theorem hexL_lead {u j : Nat} (h : u < 16 ^ (j + 1)) : hexL u (j + 1) = 48 :: hexL u j := by
  unfold hexL
  rw [List.range_succ_eq_map (n := j + 1), List.map_cons, List.map_map]
  congr 1
  · rw [Nat.sub_zero, Nat.div_eq_of_lt h]; rfl
  · refine List.map_congr_left fun i hi => ?_
    simp only [Function.comp]
    rw [show j + 1 - (i + 1) = j - i by omega]
/-- noughts ahead -/
theorem hexL_zeros (k : Nat) : ∀ u j, u < 16 ^ (j + 1) → List.replicate k 48 ++ hexL u j = hexL u (j + k) := by
  induction k with
  | zero => intro u j _; rfl
  | succ k ih =>
    intro u j h
    rw [List.replicate_succ', List.append_assoc, List.singleton_append, ← hexL_lead h, ih u (j + 1) (Nat.lt_of_lt_of_le h (Nat.pow_le_pow_right (by omega) (by omega))), show j + (k + 1) = j + 1 + k by omega]
theorem hexL_wide {u j : Nat} (h : u < 16 ^ (j + 1)) (hj : j ≤ 7) : List.replicate (8 - (hexL u j).length) 48 ++ hexL u j = hexL u 7 := by
  rw [hexL_length, hexL_zeros _ u j h]
  congr 1
  omega
end Go.Proofs.YtbmaoiemgepppaaGreatDoor
/- strings.Repeat of the sign for nought. -/
namespace Go.Proofs.YtbmaoiemgepppaaGreatDoor
set_option linter.unusedVariables false
set_option linter.unusedSimpArgs false
open Go.RowKit

set_option maxHeartbeats 4000000 in
set_option maxRecDepth 200000 in
theorem prefix1_yes (s : ByteArray) (w : World) (h1 : (1 : Int) ≤ (s.size : Int)) (hp : s.extract 0 1 = ⟨#[48]⟩) : Calls Tryz.prog 63 #[.string s, .string ⟨#[48]⟩] w fun e w' => e = .returned (.bool true) ∧ w' = w := by
  go_enter Tryz.func63, Tryz.ntmps63
  go_wp2
  go_ret
  exact ⟨rfl, rfl⟩
set_option maxHeartbeats 4000000 in
set_option maxRecDepth 200000 in
theorem prefix_yes (s : ByteArray) (w : World) (h1 : (1 : Int) ≤ (s.size : Int)) (hp : s.extract 0 1 = ⟨#[48]⟩) : Calls Tryz.prog 74 #[.string s, .string ⟨#[48]⟩] w fun e w' => e = .returned (.bool true) ∧ w' = w := by
  have k := prefix1_yes s w h1 hp
  go_enter Tryz.func74, Tryz.ntmps74
  go_wp2_with fail
  refine k.mono ?_
  rintro r w1 ⟨rfl, rfl⟩
  clear k
  go_wp2
  go_ret
  exact ⟨rfl, rfl⟩
set_option maxHeartbeats 4000000 in
set_option maxRecDepth 200000 in
theorem prefix1_no32 (s : ByteArray) (w : World) (h1 : (1 : Int) ≤ (s.size : Int)) (hp : s.extract 0 1 = ⟨#[32]⟩) : Calls Tryz.prog 63 #[.string s, .string ⟨#[48]⟩] w fun e w' => e = .returned (.bool false) ∧ w' = w := by
  go_enter Tryz.func63, Tryz.ntmps63
  go_wp2
  go_ret
  exact ⟨rfl, rfl⟩
set_option maxHeartbeats 4000000 in
set_option maxRecDepth 200000 in
theorem prefix_no32 (s : ByteArray) (w : World) (h1 : (1 : Int) ≤ (s.size : Int)) (hp : s.extract 0 1 = ⟨#[32]⟩) : Calls Tryz.prog 74 #[.string s, .string ⟨#[48]⟩] w fun e w' => e = .returned (.bool false) ∧ w' = w := by
  have k := prefix1_no32 s w h1 hp
  go_enter Tryz.func74, Tryz.ntmps74
  go_wp2_with fail
  refine k.mono ?_
  rintro r w1 ⟨rfl, rfl⟩
  clear k
  go_wp2
  go_ret
  exact ⟨rfl, rfl⟩
set_option maxHeartbeats 4000000 in
set_option maxRecDepth 200000 in
theorem prefix1_no45 (s : ByteArray) (w : World) (h1 : (1 : Int) ≤ (s.size : Int)) (hp : s.extract 0 1 = ⟨#[45]⟩) : Calls Tryz.prog 63 #[.string s, .string ⟨#[48]⟩] w fun e w' => e = .returned (.bool false) ∧ w' = w := by
  go_enter Tryz.func63, Tryz.ntmps63
  go_wp2
  go_ret
  exact ⟨rfl, rfl⟩
set_option maxHeartbeats 4000000 in
set_option maxRecDepth 200000 in
theorem prefix_no45 (s : ByteArray) (w : World) (h1 : (1 : Int) ≤ (s.size : Int)) (hp : s.extract 0 1 = ⟨#[45]⟩) : Calls Tryz.prog 74 #[.string s, .string ⟨#[48]⟩] w fun e w' => e = .returned (.bool false) ∧ w' = w := by
  have k := prefix1_no45 s w h1 hp
  go_enter Tryz.func74, Tryz.ntmps74
  go_wp2_with fail
  refine k.mono ?_
  rintro r w1 ⟨rfl, rfl⟩
  clear k
  go_wp2
  go_ret
  exact ⟨rfl, rfl⟩
set_option maxHeartbeats 4000000 in
set_option maxRecDepth 200000 in
theorem mul64_2 (w : World) : Calls Tryz.prog 113 #[.int .u64 1, .int .u64 2] w fun e w' => e = .returned (.tuple #[.int .u64 0, .int .u64 2]) ∧ w' = w := by
  go_enter Tryz.func113, Tryz.ntmps113
  go_wp2
  go_ret2
  exact ⟨rfl, rfl⟩
set_option maxHeartbeats 4000000 in
set_option maxRecDepth 200000 in
theorem mul_2 (w : World) : Calls Tryz.prog 73 #[.int .u64 1, .int .u64 2] w fun e w' => e = .returned (.tuple #[.int .u64 0, .int .u64 2]) ∧ w' = w := by
  go_enter Tryz.func73, Tryz.ntmps73
  go_wp2_with fail
  refine (mul64_2 _).mono ?_
  rintro r w1 ⟨rfl, rfl⟩
  go_wp2
  go_ret2
  exact ⟨rfl, rfl⟩
set_option maxHeartbeats 4000000 in
set_option maxRecDepth 200000 in
theorem mul64_3 (w : World) : Calls Tryz.prog 113 #[.int .u64 1, .int .u64 3] w fun e w' => e = .returned (.tuple #[.int .u64 0, .int .u64 3]) ∧ w' = w := by
  go_enter Tryz.func113, Tryz.ntmps113
  go_wp2
  go_ret2
  exact ⟨rfl, rfl⟩
set_option maxHeartbeats 4000000 in
set_option maxRecDepth 200000 in
theorem mul_3 (w : World) : Calls Tryz.prog 73 #[.int .u64 1, .int .u64 3] w fun e w' => e = .returned (.tuple #[.int .u64 0, .int .u64 3]) ∧ w' = w := by
  go_enter Tryz.func73, Tryz.ntmps73
  go_wp2_with fail
  refine (mul64_3 _).mono ?_
  rintro r w1 ⟨rfl, rfl⟩
  go_wp2
  go_ret2
  exact ⟨rfl, rfl⟩
set_option maxHeartbeats 4000000 in
set_option maxRecDepth 200000 in
theorem mul64_4 (w : World) : Calls Tryz.prog 113 #[.int .u64 1, .int .u64 4] w fun e w' => e = .returned (.tuple #[.int .u64 0, .int .u64 4]) ∧ w' = w := by
  go_enter Tryz.func113, Tryz.ntmps113
  go_wp2
  go_ret2
  exact ⟨rfl, rfl⟩
set_option maxHeartbeats 4000000 in
set_option maxRecDepth 200000 in
theorem mul_4 (w : World) : Calls Tryz.prog 73 #[.int .u64 1, .int .u64 4] w fun e w' => e = .returned (.tuple #[.int .u64 0, .int .u64 4]) ∧ w' = w := by
  go_enter Tryz.func73, Tryz.ntmps73
  go_wp2_with fail
  refine (mul64_4 _).mono ?_
  rintro r w1 ⟨rfl, rfl⟩
  go_wp2
  go_ret2
  exact ⟨rfl, rfl⟩
set_option maxHeartbeats 4000000 in
set_option maxRecDepth 200000 in
theorem mul64_5 (w : World) : Calls Tryz.prog 113 #[.int .u64 1, .int .u64 5] w fun e w' => e = .returned (.tuple #[.int .u64 0, .int .u64 5]) ∧ w' = w := by
  go_enter Tryz.func113, Tryz.ntmps113
  go_wp2
  go_ret2
  exact ⟨rfl, rfl⟩
set_option maxHeartbeats 4000000 in
set_option maxRecDepth 200000 in
theorem mul_5 (w : World) : Calls Tryz.prog 73 #[.int .u64 1, .int .u64 5] w fun e w' => e = .returned (.tuple #[.int .u64 0, .int .u64 5]) ∧ w' = w := by
  go_enter Tryz.func73, Tryz.ntmps73
  go_wp2_with fail
  refine (mul64_5 _).mono ?_
  rintro r w1 ⟨rfl, rfl⟩
  go_wp2
  go_ret2
  exact ⟨rfl, rfl⟩
set_option maxHeartbeats 4000000 in
set_option maxRecDepth 200000 in
theorem mul64_6 (w : World) : Calls Tryz.prog 113 #[.int .u64 1, .int .u64 6] w fun e w' => e = .returned (.tuple #[.int .u64 0, .int .u64 6]) ∧ w' = w := by
  go_enter Tryz.func113, Tryz.ntmps113
  go_wp2
  go_ret2
  exact ⟨rfl, rfl⟩
set_option maxHeartbeats 4000000 in
set_option maxRecDepth 200000 in
theorem mul_6 (w : World) : Calls Tryz.prog 73 #[.int .u64 1, .int .u64 6] w fun e w' => e = .returned (.tuple #[.int .u64 0, .int .u64 6]) ∧ w' = w := by
  go_enter Tryz.func73, Tryz.ntmps73
  go_wp2_with fail
  refine (mul64_6 _).mono ?_
  rintro r w1 ⟨rfl, rfl⟩
  go_wp2
  go_ret2
  exact ⟨rfl, rfl⟩
set_option maxHeartbeats 4000000 in
set_option maxRecDepth 200000 in
theorem mul64_7 (w : World) : Calls Tryz.prog 113 #[.int .u64 1, .int .u64 7] w fun e w' => e = .returned (.tuple #[.int .u64 0, .int .u64 7]) ∧ w' = w := by
  go_enter Tryz.func113, Tryz.ntmps113
  go_wp2
  go_ret2
  exact ⟨rfl, rfl⟩
set_option maxHeartbeats 4000000 in
set_option maxRecDepth 200000 in
theorem mul_7 (w : World) : Calls Tryz.prog 73 #[.int .u64 1, .int .u64 7] w fun e w' => e = .returned (.tuple #[.int .u64 0, .int .u64 7]) ∧ w' = w := by
  go_enter Tryz.func73, Tryz.ntmps73
  go_wp2_with fail
  refine (mul64_7 _).mono ?_
  rintro r w1 ⟨rfl, rfl⟩
  go_wp2
  go_ret2
  exact ⟨rfl, rfl⟩
set_option maxHeartbeats 4000000 in
set_option maxRecDepth 200000 in
theorem repeat_0 (w : World) : Calls Tryz.prog 39 #[.string ⟨#[48]⟩, .int .i64 0] w fun e w' => e = .returned (.string ⟨(List.replicate 0 (48 : UInt8)).toArray⟩) ∧ w' = w := by
  go_enter Tryz.func39, Tryz.ntmps39
  go_wp2
  go_ret
  exact ⟨rfl, rfl⟩
set_option maxHeartbeats 4000000 in
set_option maxRecDepth 200000 in
theorem repeat_1 (w : World) : Calls Tryz.prog 39 #[.string ⟨#[48]⟩, .int .i64 1] w fun e w' => e = .returned (.string ⟨(List.replicate 1 (48 : UInt8)).toArray⟩) ∧ w' = w := by
  go_enter Tryz.func39, Tryz.ntmps39
  go_wp2
  go_ret
  exact ⟨rfl, rfl⟩
set_option maxHeartbeats 4000000 in
set_option maxRecDepth 200000 in
theorem repeat_2 (w : World) : Calls Tryz.prog 39 #[.string ⟨#[48]⟩, .int .i64 2] w fun e w' => e = .returned (.string ⟨(List.replicate 2 (48 : UInt8)).toArray⟩) ∧ w' = w := by
  go_enter Tryz.func39, Tryz.ntmps39
  go_wp2_with fail
  refine (mul_2 _).mono ?_
  rintro r w1 ⟨rfl, rfl⟩
  go_wp2_with fail
  refine (prefix_no32 _ _ (by decide) (by rfl)).mono ?_
  rintro r w1 ⟨rfl, rfl⟩
  go_wp2_with fail
  refine (prefix_no45 _ _ (by decide) (by rfl)).mono ?_
  rintro r w1 ⟨rfl, rfl⟩
  go_wp2_with fail
  refine (prefix_yes _ _ (by decide) (by rfl)).mono ?_
  rintro r w1 ⟨rfl, rfl⟩
  go_wp2
  go_ret
  exact ⟨rfl, rfl⟩
set_option maxHeartbeats 4000000 in
set_option maxRecDepth 200000 in
theorem repeat_3 (w : World) : Calls Tryz.prog 39 #[.string ⟨#[48]⟩, .int .i64 3] w fun e w' => e = .returned (.string ⟨(List.replicate 3 (48 : UInt8)).toArray⟩) ∧ w' = w := by
  go_enter Tryz.func39, Tryz.ntmps39
  go_wp2_with fail
  refine (mul_3 _).mono ?_
  rintro r w1 ⟨rfl, rfl⟩
  go_wp2_with fail
  refine (prefix_no32 _ _ (by decide) (by rfl)).mono ?_
  rintro r w1 ⟨rfl, rfl⟩
  go_wp2_with fail
  refine (prefix_no45 _ _ (by decide) (by rfl)).mono ?_
  rintro r w1 ⟨rfl, rfl⟩
  go_wp2_with fail
  refine (prefix_yes _ _ (by decide) (by rfl)).mono ?_
  rintro r w1 ⟨rfl, rfl⟩
  go_wp2
  go_ret
  exact ⟨rfl, rfl⟩
set_option maxHeartbeats 4000000 in
set_option maxRecDepth 200000 in
theorem repeat_4 (w : World) : Calls Tryz.prog 39 #[.string ⟨#[48]⟩, .int .i64 4] w fun e w' => e = .returned (.string ⟨(List.replicate 4 (48 : UInt8)).toArray⟩) ∧ w' = w := by
  go_enter Tryz.func39, Tryz.ntmps39
  go_wp2_with fail
  refine (mul_4 _).mono ?_
  rintro r w1 ⟨rfl, rfl⟩
  go_wp2_with fail
  refine (prefix_no32 _ _ (by decide) (by rfl)).mono ?_
  rintro r w1 ⟨rfl, rfl⟩
  go_wp2_with fail
  refine (prefix_no45 _ _ (by decide) (by rfl)).mono ?_
  rintro r w1 ⟨rfl, rfl⟩
  go_wp2_with fail
  refine (prefix_yes _ _ (by decide) (by rfl)).mono ?_
  rintro r w1 ⟨rfl, rfl⟩
  go_wp2
  go_ret
  exact ⟨rfl, rfl⟩
set_option maxHeartbeats 4000000 in
set_option maxRecDepth 200000 in
theorem repeat_5 (w : World) : Calls Tryz.prog 39 #[.string ⟨#[48]⟩, .int .i64 5] w fun e w' => e = .returned (.string ⟨(List.replicate 5 (48 : UInt8)).toArray⟩) ∧ w' = w := by
  go_enter Tryz.func39, Tryz.ntmps39
  go_wp2_with fail
  refine (mul_5 _).mono ?_
  rintro r w1 ⟨rfl, rfl⟩
  go_wp2_with fail
  refine (prefix_no32 _ _ (by decide) (by rfl)).mono ?_
  rintro r w1 ⟨rfl, rfl⟩
  go_wp2_with fail
  refine (prefix_no45 _ _ (by decide) (by rfl)).mono ?_
  rintro r w1 ⟨rfl, rfl⟩
  go_wp2_with fail
  refine (prefix_yes _ _ (by decide) (by rfl)).mono ?_
  rintro r w1 ⟨rfl, rfl⟩
  go_wp2
  go_ret
  exact ⟨rfl, rfl⟩
set_option maxHeartbeats 4000000 in
set_option maxRecDepth 200000 in
theorem repeat_6 (w : World) : Calls Tryz.prog 39 #[.string ⟨#[48]⟩, .int .i64 6] w fun e w' => e = .returned (.string ⟨(List.replicate 6 (48 : UInt8)).toArray⟩) ∧ w' = w := by
  go_enter Tryz.func39, Tryz.ntmps39
  go_wp2_with fail
  refine (mul_6 _).mono ?_
  rintro r w1 ⟨rfl, rfl⟩
  go_wp2_with fail
  refine (prefix_no32 _ _ (by decide) (by rfl)).mono ?_
  rintro r w1 ⟨rfl, rfl⟩
  go_wp2_with fail
  refine (prefix_no45 _ _ (by decide) (by rfl)).mono ?_
  rintro r w1 ⟨rfl, rfl⟩
  go_wp2_with fail
  refine (prefix_yes _ _ (by decide) (by rfl)).mono ?_
  rintro r w1 ⟨rfl, rfl⟩
  go_wp2
  go_ret
  exact ⟨rfl, rfl⟩
set_option maxHeartbeats 4000000 in
set_option maxRecDepth 200000 in
theorem repeat_7 (w : World) : Calls Tryz.prog 39 #[.string ⟨#[48]⟩, .int .i64 7] w fun e w' => e = .returned (.string ⟨(List.replicate 7 (48 : UInt8)).toArray⟩) ∧ w' = w := by
  go_enter Tryz.func39, Tryz.ntmps39
  go_wp2_with fail
  refine (mul_7 _).mono ?_
  rintro r w1 ⟨rfl, rfl⟩
  go_wp2_with fail
  refine (prefix_no32 _ _ (by decide) (by rfl)).mono ?_
  rintro r w1 ⟨rfl, rfl⟩
  go_wp2_with fail
  refine (prefix_no45 _ _ (by decide) (by rfl)).mono ?_
  rintro r w1 ⟨rfl, rfl⟩
  go_wp2_with fail
  refine (prefix_yes _ _ (by decide) (by rfl)).mono ?_
  rintro r w1 ⟨rfl, rfl⟩
  go_wp2
  go_ret
  exact ⟨rfl, rfl⟩
theorem repeat0 (c : Nat) (hc : c ≤ 7) (w : World) : Calls Tryz.prog 39 #[.string ⟨#[48]⟩, .int .i64 (c : Int)] w fun e w' => e = .returned (.string ⟨(List.replicate c (48 : UInt8)).toArray⟩) ∧ w' = w := by
  rcases (by omega : c = 0 ∨ c = 1 ∨ c = 2 ∨ c = 3 ∨ c = 4 ∨ c = 5 ∨ c = 6 ∨ c = 7) with h | h | h | h | h | h | h | h <;> subst h
  · exact repeat_0 w
  · exact repeat_1 w
  · exact repeat_2 w
  · exact repeat_3 w
  · exact repeat_4 w
  · exact repeat_5 w
  · exact repeat_6 w
  · exact repeat_7 w
end Go.Proofs.YtbmaoiemgepppaaGreatDoor
/- Show, of any number. -/
namespace Go.Proofs.YtbmaoiemgepppaaGreatDoor
set_option linter.unusedVariables false
set_option linter.unusedSimpArgs false
open Go.RowKit

theorem div_B (x j : Nat) : x / B ^ j = (x / B ^ (j + 1)) * B + dg x j := by
  unfold dg
  rw [Nat.pow_succ, ← Nat.div_div_eq_div_mul, Nat.mul_comm]
  exact (Nat.div_add_mod _ _).symm
theorem hexN_dg {x j : Nat} (h : x / B ^ (j + 1) ≠ 0) : hexN (x / B ^ j) = hexN (x / B ^ (j + 1)) ++ hexL (dg x j) 7 := by
  rw [div_B, show B = 16 ^ (7 + 1) from rfl]
  exact hexN_more 7 _ _ h (dg_lt x j)
theorem div_top {x m : Nat} (h : dlen x = m + 1) : x / B ^ m = dg x m ∧ dg x m ≠ 0 := by
  have h1 : x < B ^ (m + 1) := (dlen_le (m + 1) x).1 (by omega)
  have h2 : x / B ^ m < B := by rw [Nat.pow_succ] at h1; exact Nat.div_lt_of_lt_mul h1
  refine ⟨(Nat.mod_eq_of_lt h2).symm, ?_⟩
  have := dg_top (x := x) (by rintro rfl; rw [dlen_zero] at h; omega)
  rw [h] at this
  exact this
theorem bc_len (l : List UInt8) : (Lib.byteCells l).length = l.length := by simp [Lib.byteCells]
theorem div_ne {x m j : Nat} (h : dlen x = m + 1) (hj : j ≤ m) : x / B ^ j ≠ 0 := by
  have h1 := div_top h
  have h2 : x / B ^ m ≤ x / B ^ j := Nat.div_le_div_left (Nat.pow_le_pow_right B_pos hj) (Nat.pow_pos B_pos)
  omega
theorem hexN_dlen {x n : Nat} (h : dlen x ≤ n) (j : Nat) : (hexN (x / B ^ j)).length ≤ 8 * n := by
  refine hexN_len _ _ ?_
  have h1 : x < B ^ n := (dlen_le n x).1 h
  have e : B ^ n = 16 ^ (8 * n) := by rw [Nat.pow_mul]; rfl
  rw [← e]
  exact Nat.lt_of_le_of_lt (Nat.div_le_self _ _) h1
/-- FormatUint's text, at base 16 -/
theorem fmt16 (u : Nat) (w : World) (hT : Ie.Tab w) (hu : u < 4294967296) :
    Calls Tryz.prog 38 #[.int .u64 u, .int .i64 16] w fun e w' => ∃ s : ByteArray, e = .returned (.string s) ∧ (1 ≤ s.size ∧ s.size ≤ 8) ∧ Hid (∃ L : List UInt8, s = ⟨L.toArray⟩ ∧ (u ≠ 0 → L = hexN u) ∧ List.replicate (8 - L.length) 48 ++ L = hexL u 7) ∧ Below w.heap.size w w' := by
  refine (c81 u w hT hu).mono ?_
  rintro e w' ⟨j, h1, h2, rfl, hb⟩
  have hj : j ≤ 7 := by
    rcases h2 with h2 | h2
    · omega
    · refine Nat.le_of_not_lt fun h7 => ?_
      have h3 : 16 ^ 7 ≤ 16 ^ (j - 1) := Nat.pow_le_pow_right (by omega) (by omega)
      have h4 : u / 16 ^ (j - 1) ≤ u / 16 ^ 7 := Nat.div_le_div_left h3 (by omega)
      have : u / 16 ^ 7 < 16 := by omega
      omega
  have hl : u < 16 ^ (j + 1) := by
    have := (Nat.div_lt_iff_lt_mul (Nat.pow_pos (by omega) : 0 < 16 ^ j)).1 h1
    rw [Nat.pow_succ, Nat.mul_comm]
    exact this
  refine ⟨_, rfl, by simp [ByteArray.size, hexL_length]; omega, ⟨hexL u j, rfl, fun h0 => hexL_hexN j u h1 h0 h2, hexL_wide hl hj⟩, hb⟩
set_option maxHeartbeats 4000000 in
set_option maxRecDepth 200000 in
theorem show_pos (b o uc m x : Nat) (ea : Int) (T : List UInt8) (w : World) (hcell : ∀ i, i < m + 1 → w.cell? ⟨b, o + i, none⟩ = some (.int .u32 (dg x i : Nat))) (hx : dlen x = m + 1) (hm : m ≤ 100000) (hT : T.length ≤ 1000) (huc : m + 1 ≤ uc) (hI : Ie.Tab w)
    (k43 : ∀ W g, Below w.heap.size w W → W.heap[g]? = some (.cells #[.bool false, .slice (some ⟨b, o, none⟩) (m + 1) uc, .int .i64 ea] 24 (0, 0)) → Calls Tryz.prog 35 #[.slice (some ⟨g, 0, none⟩) 1 1] W fun r w' => r = .returned (.bool true) ∧ Below W.heap.size W w')
    (k74 : ∀ W, Below w.heap.size w W → Calls Tryz.prog 40 #[.int .i64 ea] W fun e w' => e = .returned (.string ⟨T.toArray⟩) ∧ Below W.heap.size W w') :
    Calls Tryz.prog 13 #[.agg #[.bool false, .slice (some ⟨b, o, none⟩) (m + 1) uc, .int .i64 ea]] w fun e w' => e = .returned (.string ⟨([] ++ hexN x ++ 112 :: T).toArray⟩) ∧ Below w.heap.size w w' := by
  obtain ⟨W, hW⟩ : ∃ W, W = w.alloc (.cells #[.bool false, .slice (some ⟨b, o, none⟩) (m + 1) uc, .int .i64 ea] 24) := ⟨_, rfl⟩
  have hBW : Below w.heap.size w W := by rw [hW]; exact (Below.refl _ _).alloc (Nat.le_refl _) _
  have hsz : W.heap.size = w.heap.size + 1 := by rw [hW]; simp
  have hbx : W.heap[w.heap.size]? = some (.cells #[.bool false, .slice (some ⟨b, o, none⟩) (m + 1) uc, .int .i64 ea] 24 (0, 0)) := by rw [hW]; exact heap_alloc_new _ _
  have HX : Hid (Below w.heap.size w W) := hBW
  have HCL : Hid (∀ W', Below W.heap.size W W' → (W'.cell? ⟨w.heap.size, 0, none⟩ = some (.bool false) ∧ W'.cell? ⟨w.heap.size, 1, none⟩ = some (.slice (some ⟨b, o, none⟩) (m + 1) uc) ∧ W'.cell? ⟨w.heap.size, 2, none⟩ = some (.int .i64 ea)) ∧ (∀ i, i < m + 1 → W'.cell? ⟨b, o + i, none⟩ = some (.int .u32 (dg x i : Nat))) ∧ Below w.heap.size w W' ∧ Ie.Tab W') := fun W' h =>
    ⟨(box_cells (box_later hbx h (by omega))).1, fun i hi => by
      have hc := hcell i hi
      have hlt : b < w.heap.size := World.block_lt_of_cell? _ _ hc
      exact ((h.cell (p := ⟨b, o + i, none⟩) (by show b < W.heap.size; omega)).trans (hBW.cell hlt)).trans hc, hBW.trans (h.mono hBW.size), Tab.later hI (hBW.trans (h.mono hBW.size))⟩
  have k1 := k43 (W.alloc (.cells #[.bool false, .slice (some ⟨b, o, none⟩) (m + 1) uc, .int .i64 ea] 24)) (w.heap.size + 1) (hBW.alloc hBW.size _) (by rw [← hsz]; exact heap_alloc_new _ _)
  have HK74 : Hid (∀ W, Below w.heap.size w W → Calls Tryz.prog 40 #[.int .i64 ea] W fun e w' => e = .returned (.string ⟨T.toArray⟩) ∧ Below W.heap.size W w') := k74
  have HL : Hid (T.length ≤ 1000 ∧ dlen x = m + 1 ∧ m ≤ 100000) := ⟨hT, hx, hm⟩
  have HDg : Hid (∀ i, dg x i < 4294967296) := fun i => dg_lt x i
  have hdw : IntKind.u64.wrap (dg x m : Int) = (dg x m : Int) := by have := HDg.out m; rw [IntKind.wrap_u64]; omega
  clear hBW hsz hbx hcell k43 k74 hT hI hx
  go_enter Tryz.func13, Tryz.ntmps13
  go_wp2_with fail
  rw [← hW]
  clear hW
  refine k1.mono ?_
  rintro r w1 ⟨rfl, hb1⟩
  clear k1
  have HB1 : Hid (Below W.heap.size W w1) := ((Below.refl W.heap.size W).alloc (Nat.le_refl _) _).trans (hb1.mono (by simp))
  clear hb1
  obtain ⟨⟨x0, x1, x2⟩, x3, -⟩ := HCL.out w1 HB1.out
  have x4 := x3 m (by omega)
  clear x3
  obtain ⟨W2, hW2⟩ : ∃ W2, W2 = w1.alloc (.cells #[.pointer none, .slice none 0 0] 72) := ⟨_, rfl⟩
  have HD0 : Hid (Bd w1.heap.size w1.heap.size (Lib.byteCells []) W2 ∧ Below w1.heap.size w1 W2) := ⟨by rw [hW2]; exact Bd.new w1, by rw [hW2]; exact (Below.refl _ _).alloc (Nat.le_refl _) _⟩
  obtain ⟨⟨y0, y1, y2⟩, y3, y4, y5⟩ := HCL.out W2 (HB1.out.trans (HD0.out.2.mono HB1.out.size))
  have y6 := y3 m (by omega)
  have k3 := fmt16 (dg x m) W2 y5 (HDg.out m)
  clear y3 y4 y5
  rw [hW2] at y0 y1 y2 y6
  go_wp2_with fail
  rw [← hW2]
  clear hW2
  refine k3.mono ?_
  rintro r w3 ⟨s3, rfl, hs3, hL3, hb3⟩
  have HD3 : Hid (Bd w1.heap.size w1.heap.size (Lib.byteCells []) w3 ∧ Below w1.heap.size w1 w3) := ⟨HD0.out.1.later hb3, HD0.out.2.trans (hb3.mono HD0.out.2.size)⟩
  clear k3 hb3 y0 y1 y2 y6 x0 x1 x2 x4
  have k4 := c71 s3 HD3.out.1 (by simp [Lib.byteCells]; omega) HD3.out.2.size
  go_wp2_with fail
  refine k4.mono ?_
  rintro r w4 ⟨rfl, hd4, hb4⟩
  have HD4 : Hid (Bd w1.heap.size w1.heap.size (Lib.byteCells ([] ++ hexN (x / B ^ m))) w4 ∧ Below w1.heap.size w1 w4) := ⟨by
    obtain ⟨L, hL, hL1, -⟩ := hL3.out
    have h5 := div_top HL.out.2.1
    rw [h5.1, ← hL1 h5.2]
    rw [hL] at hd4
    have e : Lib.byteCells [] ++ Lib.strCells ⟨L.toArray⟩ = Lib.byteCells ([] ++ L) := by simp [Lib.byteCells, Lib.strCells]
    rwa [e] at hd4, HD3.out.2.trans hb4⟩
  clear k4 hd4 hb4 hL3 hs3
  go_wp2_with fail
  go_loopw [5] (fun v wr => ∃ j : Nat, v = .int .i64 ((j : Int) - 1) ∧ j ≤ m ∧ Hid (Bd w1.heap.size w1.heap.size (Lib.byteCells ([] ++ hexN (x / B ^ j))) wr ∧ Below w1.heap.size w1 wr)) (fun v _ => (intOf v + 1).toNat)
  case atStart => exact ⟨m, rfl, by omega, HD4.out⟩
  case round =>
    obtain ⟨j, rfl, hj, HD⟩ := hrel
    clear HD4 HD3 HD0 
    by_cases hj0 : j = 0
    · subst hj0
      have HD4 : Hid (Bd w1.heap.size w1.heap.size (Lib.byteCells ([] ++ hexN x)) wr ∧ Below w1.heap.size w1 wr) := by have := HD.out; rw [Nat.pow_zero, Nat.div_one] at this; exact this
      have hlen : (hexN x).length ≤ 900000 := by have := hexN_dlen (x := x) (n := m + 1) (by have := HL.out.2.1; omega) 0; rw [Nat.pow_zero, Nat.div_one] at this; omega
      have HLN : Hid ((hexN x).length ≤ 900000) := hlen
      clear HD hlen
      have k5 := c70 112 HD4.out.1 (by have := HLN.out; simp [Lib.byteCells]; omega) HD4.out.2.size
      go_wp2_with fail
      refine k5.mono ?_
      rintro r w5 ⟨rfl, hd5, hb5⟩
      have HD5 : Hid (Bd w1.heap.size w1.heap.size (Lib.byteCells ([] ++ hexN x) ++ [.int .u8 112]) w5 ∧ Below w1.heap.size w1 w5) := ⟨hd5, HD4.out.2.trans hb5⟩
      clear k5 hd5 hb5
      obtain ⟨⟨z0, z1, z2⟩, z3, z4, -⟩ := HCL.out w5 (HB1.out.trans (HD5.out.2.mono HB1.out.size))
      have k6 := HK74.out w5 z4
      clear z3 z4
      go_wp2_with fail
      refine k6.mono ?_
      rintro r w6 ⟨rfl, hb6⟩
      have HD6 : Hid (Bd w1.heap.size w1.heap.size (Lib.byteCells ([] ++ hexN x) ++ [.int .u8 112]) w6 ∧ Below w1.heap.size w1 w6) := ⟨HD5.out.1.later hb6, HD5.out.2.trans (hb6.mono HD5.out.2.size)⟩
      clear k6 hb6
      have k7 := c71 ⟨T.toArray⟩ HD6.out.1 (by have := HLN.out; have := HL.out.1; simp [Lib.byteCells, ByteArray.size]; omega) HD6.out.2.size
      go_wp2_with fail
      refine k7.mono ?_
      rintro r w7 ⟨rfl, hd7, hb7⟩
      have e7 : Lib.byteCells ([] ++ hexN x) ++ [.int .u8 112] ++ Lib.strCells ⟨T.toArray⟩ = Lib.byteCells ([] ++ hexN x ++ 112 :: T) := by simp [Lib.byteCells, Lib.strCells]
      rw [e7] at hd7
      have HB7 : Hid (Below w1.heap.size w1 w7) := HD6.out.2.trans hb7
      have k8 := Tryz.Builder_String _ _ _ _ hd7 (by simp)
      clear k7 hd7 hb7
      obtain ⟨R, hR⟩ : ∃ R : ByteArray, R = ⟨([] ++ hexN x ++ 112 :: T).toArray⟩ := ⟨_, rfl⟩
      rw [← hR] at k8
      go_wp2_with fail
      refine k8.mono ?_
      rintro r w8 ⟨rfl, hb8⟩
      have HB8 : Hid (Below w.heap.size w w8) := (HCL.out w8 (HB1.out.trans ((HB7.out.trans hb8).mono HB1.out.size))).2.2.1
      have HR : Hid (R = ⟨([] ++ hexN x ++ 112 :: T).toArray⟩) := hR
      clear k8 hb8 hR
      go_wp2_with fail
      go_ret
      exact ⟨congrArg (fun q => Ending.returned (Value.string q)) HR.out, HB8.out⟩
    · obtain ⟨k, rfl⟩ : ∃ k, j = k + 1 := ⟨j - 1, by omega⟩
      rw [show ((k + 1 : Nat) : Int) - 1 = (k : Int) by omega]
      clear hj0
      obtain ⟨⟨y0, y1, y2⟩, y3, -, y5⟩ := HCL.out wr (HB1.out.trans (HD.out.2.mono HB1.out.size))
      have y6 := y3 k (by omega)
      have k3 := fmt16 (dg x k) wr y5 (HDg.out k)
      obtain ⟨LH, hLH⟩ : ∃ L : List UInt8, L = hexN (x / B ^ (k + 1)) := ⟨_, rfl⟩
      have hlen : LH.length ≤ 900000 := by have h8 := hexN_dlen (x := x) (n := m + 1) (by have := HL.out.2.1; omega) (k + 1); rw [← hLH] at h8; omega
      rw [← hLH] at HD
      have HLH : Hid (LH = hexN (x / B ^ (k + 1))) := hLH
      clear hLH
      clear y3 y5 hdw
      have hdw : IntKind.u64.wrap (dg x k : Int) = (dg x k : Int) := by have := HDg.out k; rw [IntKind.wrap_u64]; omega
      go_wp2_with fail
      refine k3.mono ?_
      rintro r w5 ⟨s5, rfl, hs5, hL5, hb5⟩
      have HD5 : Hid (Bd w1.heap.size w1.heap.size (Lib.byteCells ([] ++ LH)) w5 ∧ Below w1.heap.size w1 w5) := ⟨HD.out.1.later hb5, HD.out.2.trans (hb5.mono HD.out.2.size)⟩
      clear k3 hb5 y0 y1 y2 y6 HD
      obtain ⟨c5, hc5⟩ : ∃ c : Nat, c = 8 - s5.size := ⟨_, rfl⟩
      have hw5 : (8 : Int) - (s5.size : Int) = (c5 : Int) := by omega
      have hc7 : c5 ≤ 7 := by omega
      have HC5 : Hid (c5 = 8 - s5.size) := hc5
      clear hc5
      obtain ⟨z5, hz5⟩ : ∃ z : ByteArray, z = ⟨(List.replicate c5 (48 : UInt8)).toArray⟩ := ⟨_, rfl⟩
      have kr := repeat0 c5 hc7 w5
      rw [← hz5] at kr
      have hzs : z5.size = c5 := by rw [hz5]; simp [ByteArray.size]
      have HZ5 : Hid (z5 = ⟨(List.replicate c5 (48 : UInt8)).toArray⟩) := hz5
      clear hz5
      go_wp2_with fail
      refine kr.mono ?_
      rintro r w6 ⟨rfl, rfl⟩
      have k7 := c71 z5 HD5.out.1 (by rw [bc_len, List.length_append]; simp only [List.length_nil, List.length_cons]; omega) HD5.out.2.size
      clear kr
      go_wp2_with fail
      refine k7.mono ?_
      rintro r w7 ⟨rfl, hd7, hb7⟩
      have HD7 : Hid (Bd w1.heap.size w1.heap.size (Lib.byteCells ([] ++ LH) ++ Lib.strCells z5) w7 ∧ Below w1.heap.size w1 w7) := ⟨hd7, HD5.out.2.trans hb7⟩
      clear k7 hd7 hb7
      have k8 := c71 s5 HD7.out.1 (by rw [List.length_append, bc_len, List.length_append, Lib.strCells_length]; simp only [List.length_nil, List.length_cons]; omega) HD7.out.2.size
      go_wp2_with fail
      refine k8.mono ?_
      rintro r w8 ⟨rfl, hd8, hb8⟩
      have HD8 : Hid (Bd w1.heap.size w1.heap.size (Lib.byteCells ([] ++ hexN (x / B ^ k))) w8 ∧ Below w1.heap.size w1 w8) := ⟨by
        obtain ⟨L, hL, -, hL2⟩ := hL5.out
        rw [hexN_dg (div_ne HL.out.2.1 hj), ← hL2, ← HLH.out]
        have hcl : c5 = 8 - L.length := by have := HC5.out; rw [hL] at this; simpa [ByteArray.size] using this
        rw [← hcl]
        rw [hL, HZ5.out] at hd8
        have e : Lib.byteCells ([] ++ LH) ++ Lib.strCells ⟨(List.replicate c5 (48 : UInt8)).toArray⟩ ++ Lib.strCells ⟨L.toArray⟩ = Lib.byteCells ([] ++ (LH ++ (List.replicate c5 48 ++ L))) := by simp [Lib.byteCells, Lib.strCells]
        rwa [e] at hd8, HD7.out.2.trans hb8⟩
      clear k8 hd8 hb8 hL5 HD7 HD5
      go_wp2
      exact ⟨⟨k, by simp, by omega, HD8⟩, by simp [intOf]⟩
set_option maxHeartbeats 4000000 in
set_option maxRecDepth 200000 in
theorem show_neg (b o uc m x : Nat) (ea : Int) (T : List UInt8) (w : World) (hcell : ∀ i, i < m + 1 → w.cell? ⟨b, o + i, none⟩ = some (.int .u32 (dg x i : Nat))) (hx : dlen x = m + 1) (hm : m ≤ 100000) (hT : T.length ≤ 1000) (huc : m + 1 ≤ uc) (hI : Ie.Tab w)
    (k43 : ∀ W g, Below w.heap.size w W → W.heap[g]? = some (.cells #[.bool true, .slice (some ⟨b, o, none⟩) (m + 1) uc, .int .i64 ea] 24 (0, 0)) → Calls Tryz.prog 35 #[.slice (some ⟨g, 0, none⟩) 1 1] W fun r w' => r = .returned (.bool true) ∧ Below W.heap.size W w')
    (k74 : ∀ W, Below w.heap.size w W → Calls Tryz.prog 40 #[.int .i64 ea] W fun e w' => e = .returned (.string ⟨T.toArray⟩) ∧ Below W.heap.size W w') :
    Calls Tryz.prog 13 #[.agg #[.bool true, .slice (some ⟨b, o, none⟩) (m + 1) uc, .int .i64 ea]] w fun e w' => e = .returned (.string ⟨([45] ++ hexN x ++ 112 :: T).toArray⟩) ∧ Below w.heap.size w w' := by
  obtain ⟨W, hW⟩ : ∃ W, W = w.alloc (.cells #[.bool true, .slice (some ⟨b, o, none⟩) (m + 1) uc, .int .i64 ea] 24) := ⟨_, rfl⟩
  have hBW : Below w.heap.size w W := by rw [hW]; exact (Below.refl _ _).alloc (Nat.le_refl _) _
  have hsz : W.heap.size = w.heap.size + 1 := by rw [hW]; simp
  have hbx : W.heap[w.heap.size]? = some (.cells #[.bool true, .slice (some ⟨b, o, none⟩) (m + 1) uc, .int .i64 ea] 24 (0, 0)) := by rw [hW]; exact heap_alloc_new _ _
  have HX : Hid (Below w.heap.size w W) := hBW
  have HCL : Hid (∀ W', Below W.heap.size W W' → (W'.cell? ⟨w.heap.size, 0, none⟩ = some (.bool true) ∧ W'.cell? ⟨w.heap.size, 1, none⟩ = some (.slice (some ⟨b, o, none⟩) (m + 1) uc) ∧ W'.cell? ⟨w.heap.size, 2, none⟩ = some (.int .i64 ea)) ∧ (∀ i, i < m + 1 → W'.cell? ⟨b, o + i, none⟩ = some (.int .u32 (dg x i : Nat))) ∧ Below w.heap.size w W' ∧ Ie.Tab W') := fun W' h =>
    ⟨(box_cells (box_later hbx h (by omega))).1, fun i hi => by
      have hc := hcell i hi
      have hlt : b < w.heap.size := World.block_lt_of_cell? _ _ hc
      exact ((h.cell (p := ⟨b, o + i, none⟩) (by show b < W.heap.size; omega)).trans (hBW.cell hlt)).trans hc, hBW.trans (h.mono hBW.size), Tab.later hI (hBW.trans (h.mono hBW.size))⟩
  have k1 := k43 (W.alloc (.cells #[.bool true, .slice (some ⟨b, o, none⟩) (m + 1) uc, .int .i64 ea] 24)) (w.heap.size + 1) (hBW.alloc hBW.size _) (by rw [← hsz]; exact heap_alloc_new _ _)
  have HK74 : Hid (∀ W, Below w.heap.size w W → Calls Tryz.prog 40 #[.int .i64 ea] W fun e w' => e = .returned (.string ⟨T.toArray⟩) ∧ Below W.heap.size W w') := k74
  have HL : Hid (T.length ≤ 1000 ∧ dlen x = m + 1 ∧ m ≤ 100000) := ⟨hT, hx, hm⟩
  have HDg : Hid (∀ i, dg x i < 4294967296) := fun i => dg_lt x i
  have hdw : IntKind.u64.wrap (dg x m : Int) = (dg x m : Int) := by have := HDg.out m; rw [IntKind.wrap_u64]; omega
  clear hBW hsz hbx hcell k43 k74 hT hI hx
  go_enter Tryz.func13, Tryz.ntmps13
  go_wp2_with fail
  rw [← hW]
  clear hW
  refine k1.mono ?_
  rintro r w1 ⟨rfl, hb1⟩
  clear k1
  have HB1 : Hid (Below W.heap.size W w1) := ((Below.refl W.heap.size W).alloc (Nat.le_refl _) _).trans (hb1.mono (by simp))
  clear hb1
  obtain ⟨⟨x0, x1, x2⟩, x3, -⟩ := HCL.out w1 HB1.out
  have x4 := x3 m (by omega)
  clear x3
  obtain ⟨W2, hW2⟩ : ∃ W2, W2 = w1.alloc (.cells #[.pointer none, .slice none 0 0] 72) := ⟨_, rfl⟩
  have HD0 : Hid (Bd w1.heap.size w1.heap.size (Lib.byteCells []) W2 ∧ Below w1.heap.size w1 W2) := ⟨by rw [hW2]; exact Bd.new w1, by rw [hW2]; exact (Below.refl _ _).alloc (Nat.le_refl _) _⟩
  obtain ⟨⟨y0, y1, y2⟩, -⟩ := HCL.out W2 (HB1.out.trans (HD0.out.2.mono HB1.out.size))
  rw [hW2] at y0 y1 y2
  have k2 := c70 45 HD0.out.1 (by simp [Lib.byteCells]) HD0.out.2.size
  rw [show Lib.byteCells [] ++ [Value.int .u8 45] = Lib.byteCells [45] from rfl] at k2
  rw [hW2] at k2
  go_wp2_with fail
  refine k2.mono ?_
  rintro r w2 ⟨rfl, hd2, hb2⟩
  rw [← hW2] at hb2
  have HD2 : Hid (Bd w1.heap.size w1.heap.size (Lib.byteCells [45]) w2 ∧ Below w1.heap.size w1 w2) := ⟨hd2, HD0.out.2.trans hb2⟩
  clear k2 hd2 hb2 hW2 y0 y1 y2
  obtain ⟨⟨y0, y1, y2⟩, y3, y4, y5⟩ := HCL.out w2 (HB1.out.trans (HD2.out.2.mono HB1.out.size))
  have y6 := y3 m (by omega)
  have k3 := fmt16 (dg x m) w2 y5 (HDg.out m)
  clear y3 y4 y5
  go_wp2_with fail
  refine k3.mono ?_
  rintro r w3 ⟨s3, rfl, hs3, hL3, hb3⟩
  have HD3 : Hid (Bd w1.heap.size w1.heap.size (Lib.byteCells [45]) w3 ∧ Below w1.heap.size w1 w3) := ⟨HD2.out.1.later hb3, HD2.out.2.trans (hb3.mono HD2.out.2.size)⟩
  clear k3 hb3 y0 y1 y2 y6 x0 x1 x2 x4
  have k4 := c71 s3 HD3.out.1 (by simp [Lib.byteCells]; omega) HD3.out.2.size
  go_wp2_with fail
  refine k4.mono ?_
  rintro r w4 ⟨rfl, hd4, hb4⟩
  have HD4 : Hid (Bd w1.heap.size w1.heap.size (Lib.byteCells ([45] ++ hexN (x / B ^ m))) w4 ∧ Below w1.heap.size w1 w4) := ⟨by
    obtain ⟨L, hL, hL1, -⟩ := hL3.out
    have h5 := div_top HL.out.2.1
    rw [h5.1, ← hL1 h5.2]
    rw [hL] at hd4
    have e : Lib.byteCells [45] ++ Lib.strCells ⟨L.toArray⟩ = Lib.byteCells ([45] ++ L) := by simp [Lib.byteCells, Lib.strCells]
    rwa [e] at hd4, HD3.out.2.trans hb4⟩
  clear k4 hd4 hb4 hL3 hs3
  go_wp2_with fail
  go_loopw [5] (fun v wr => ∃ j : Nat, v = .int .i64 ((j : Int) - 1) ∧ j ≤ m ∧ Hid (Bd w1.heap.size w1.heap.size (Lib.byteCells ([45] ++ hexN (x / B ^ j))) wr ∧ Below w1.heap.size w1 wr)) (fun v _ => (intOf v + 1).toNat)
  case atStart => exact ⟨m, rfl, by omega, HD4.out⟩
  case round =>
    obtain ⟨j, rfl, hj, HD⟩ := hrel
    clear HD4 HD3 HD2 HD0
    by_cases hj0 : j = 0
    · subst hj0
      have HD4 : Hid (Bd w1.heap.size w1.heap.size (Lib.byteCells ([45] ++ hexN x)) wr ∧ Below w1.heap.size w1 wr) := by have := HD.out; rw [Nat.pow_zero, Nat.div_one] at this; exact this
      have hlen : (hexN x).length ≤ 900000 := by have := hexN_dlen (x := x) (n := m + 1) (by have := HL.out.2.1; omega) 0; rw [Nat.pow_zero, Nat.div_one] at this; omega
      have HLN : Hid ((hexN x).length ≤ 900000) := hlen
      clear HD hlen
      have k5 := c70 112 HD4.out.1 (by have := HLN.out; simp [Lib.byteCells]; omega) HD4.out.2.size
      go_wp2_with fail
      refine k5.mono ?_
      rintro r w5 ⟨rfl, hd5, hb5⟩
      have HD5 : Hid (Bd w1.heap.size w1.heap.size (Lib.byteCells ([45] ++ hexN x) ++ [.int .u8 112]) w5 ∧ Below w1.heap.size w1 w5) := ⟨hd5, HD4.out.2.trans hb5⟩
      clear k5 hd5 hb5
      obtain ⟨⟨z0, z1, z2⟩, z3, z4, -⟩ := HCL.out w5 (HB1.out.trans (HD5.out.2.mono HB1.out.size))
      have k6 := HK74.out w5 z4
      clear z3 z4
      go_wp2_with fail
      refine k6.mono ?_
      rintro r w6 ⟨rfl, hb6⟩
      have HD6 : Hid (Bd w1.heap.size w1.heap.size (Lib.byteCells ([45] ++ hexN x) ++ [.int .u8 112]) w6 ∧ Below w1.heap.size w1 w6) := ⟨HD5.out.1.later hb6, HD5.out.2.trans (hb6.mono HD5.out.2.size)⟩
      clear k6 hb6
      have k7 := c71 ⟨T.toArray⟩ HD6.out.1 (by have := HLN.out; have := HL.out.1; simp [Lib.byteCells, ByteArray.size]; omega) HD6.out.2.size
      go_wp2_with fail
      refine k7.mono ?_
      rintro r w7 ⟨rfl, hd7, hb7⟩
      have e7 : Lib.byteCells ([45] ++ hexN x) ++ [.int .u8 112] ++ Lib.strCells ⟨T.toArray⟩ = Lib.byteCells ([45] ++ hexN x ++ 112 :: T) := by simp [Lib.byteCells, Lib.strCells]
      rw [e7] at hd7
      have HB7 : Hid (Below w1.heap.size w1 w7) := HD6.out.2.trans hb7
      have k8 := Tryz.Builder_String _ _ _ _ hd7 (by simp)
      clear k7 hd7 hb7
      obtain ⟨R, hR⟩ : ∃ R : ByteArray, R = ⟨([45] ++ hexN x ++ 112 :: T).toArray⟩ := ⟨_, rfl⟩
      rw [← hR] at k8
      go_wp2_with fail
      refine k8.mono ?_
      rintro r w8 ⟨rfl, hb8⟩
      have HB8 : Hid (Below w.heap.size w w8) := (HCL.out w8 (HB1.out.trans ((HB7.out.trans hb8).mono HB1.out.size))).2.2.1
      have HR : Hid (R = ⟨([45] ++ hexN x ++ 112 :: T).toArray⟩) := hR
      clear k8 hb8 hR
      go_wp2_with fail
      go_ret
      exact ⟨congrArg (fun q => Ending.returned (Value.string q)) HR.out, HB8.out⟩
    · obtain ⟨k, rfl⟩ : ∃ k, j = k + 1 := ⟨j - 1, by omega⟩
      rw [show ((k + 1 : Nat) : Int) - 1 = (k : Int) by omega]
      clear hj0
      obtain ⟨⟨y0, y1, y2⟩, y3, -, y5⟩ := HCL.out wr (HB1.out.trans (HD.out.2.mono HB1.out.size))
      have y6 := y3 k (by omega)
      have k3 := fmt16 (dg x k) wr y5 (HDg.out k)
      obtain ⟨LH, hLH⟩ : ∃ L : List UInt8, L = hexN (x / B ^ (k + 1)) := ⟨_, rfl⟩
      have hlen : LH.length ≤ 900000 := by have h8 := hexN_dlen (x := x) (n := m + 1) (by have := HL.out.2.1; omega) (k + 1); rw [← hLH] at h8; omega
      rw [← hLH] at HD
      have HLH : Hid (LH = hexN (x / B ^ (k + 1))) := hLH
      clear hLH
      clear y3 y5 hdw
      have hdw : IntKind.u64.wrap (dg x k : Int) = (dg x k : Int) := by have := HDg.out k; rw [IntKind.wrap_u64]; omega
      go_wp2_with fail
      refine k3.mono ?_
      rintro r w5 ⟨s5, rfl, hs5, hL5, hb5⟩
      have HD5 : Hid (Bd w1.heap.size w1.heap.size (Lib.byteCells ([45] ++ LH)) w5 ∧ Below w1.heap.size w1 w5) := ⟨HD.out.1.later hb5, HD.out.2.trans (hb5.mono HD.out.2.size)⟩
      clear k3 hb5 y0 y1 y2 y6 HD
      obtain ⟨c5, hc5⟩ : ∃ c : Nat, c = 8 - s5.size := ⟨_, rfl⟩
      have hw5 : (8 : Int) - (s5.size : Int) = (c5 : Int) := by omega
      have hc7 : c5 ≤ 7 := by omega
      have HC5 : Hid (c5 = 8 - s5.size) := hc5
      clear hc5
      obtain ⟨z5, hz5⟩ : ∃ z : ByteArray, z = ⟨(List.replicate c5 (48 : UInt8)).toArray⟩ := ⟨_, rfl⟩
      have kr := repeat0 c5 hc7 w5
      rw [← hz5] at kr
      have hzs : z5.size = c5 := by rw [hz5]; simp [ByteArray.size]
      have HZ5 : Hid (z5 = ⟨(List.replicate c5 (48 : UInt8)).toArray⟩) := hz5
      clear hz5
      go_wp2_with fail
      refine kr.mono ?_
      rintro r w6 ⟨rfl, rfl⟩
      have k7 := c71 z5 HD5.out.1 (by rw [bc_len, List.length_append]; simp only [List.length_nil, List.length_cons]; omega) HD5.out.2.size
      clear kr
      go_wp2_with fail
      refine k7.mono ?_
      rintro r w7 ⟨rfl, hd7, hb7⟩
      have HD7 : Hid (Bd w1.heap.size w1.heap.size (Lib.byteCells ([45] ++ LH) ++ Lib.strCells z5) w7 ∧ Below w1.heap.size w1 w7) := ⟨hd7, HD5.out.2.trans hb7⟩
      clear k7 hd7 hb7
      have k8 := c71 s5 HD7.out.1 (by rw [List.length_append, bc_len, List.length_append, Lib.strCells_length]; simp only [List.length_nil, List.length_cons]; omega) HD7.out.2.size
      go_wp2_with fail
      refine k8.mono ?_
      rintro r w8 ⟨rfl, hd8, hb8⟩
      have HD8 : Hid (Bd w1.heap.size w1.heap.size (Lib.byteCells ([45] ++ hexN (x / B ^ k))) w8 ∧ Below w1.heap.size w1 w8) := ⟨by
        obtain ⟨L, hL, -, hL2⟩ := hL5.out
        rw [hexN_dg (div_ne HL.out.2.1 hj), ← hL2, ← HLH.out]
        have hcl : c5 = 8 - L.length := by have := HC5.out; rw [hL] at this; simpa [ByteArray.size] using this
        rw [← hcl]
        rw [hL, HZ5.out] at hd8
        have e : Lib.byteCells ([45] ++ LH) ++ Lib.strCells ⟨(List.replicate c5 (48 : UInt8)).toArray⟩ ++ Lib.strCells ⟨L.toArray⟩ = Lib.byteCells ([45] ++ (LH ++ (List.replicate c5 48 ++ L))) := by simp [Lib.byteCells, Lib.strCells]
        rwa [e] at hd8, HD7.out.2.trans hb8⟩
      clear k8 hd8 hb8 hL5 HD7 HD5
      go_wp2
      exact ⟨⟨k, by simp, by omega, HD8⟩, by simp [intOf]⟩
end Go.Proofs.YtbmaoiemgepppaaGreatDoor
/- DyadRing: the law's walk. -/
namespace Go.Proofs.YtbmaoiemgepppaaGreatDoor
set_option linter.unusedVariables false
set_option linter.unusedSimpArgs false
open Go.RowKit Go.Fl64

/-- a number's box, and the number in it -/
def Bn (w : World) (g : Nat) (s : Bool) (ao : Option Addr) (n cap : Nat) (e : Int) (t : Bool × Nat × Int) : Prop :=
  w.heap[g]? = some (.cells #[.bool s, .slice ao n cap, .int .i64 e] 24 (0, 0)) ∧ PN w (.agg #[.bool s, .slice ao n cap, .int .i64 e]) t
theorem Bn.later {w w' : World} {g : Nat} {s : Bool} {ao : Option Addr} {n cap : Nat} {e : Int} {t : Bool × Nat × Int} (h : Bn w g s ao n cap e t) (hb : Below w.heap.size w w') : Bn w' g s ao n cap e t :=
  ⟨box_later h.1 hb (Array.getElem?_eq_some_iff.1 h.1).1, h.2.later hb⟩
theorem Bn.new {w : World} {s : Bool} {ao : Option Addr} {n cap : Nat} {e : Int} {t : Bool × Nat × Int} (h : PN w (.agg #[.bool s, .slice ao n cap, .int .i64 e]) t) : Bn (w.alloc (.cells #[.bool s, .slice ao n cap, .int .i64 e] 24)) w.heap.size s ao n cap e t :=
  ⟨heap_alloc_new _ _, h.later ((Below.refl _ _).alloc (Nat.le_refl _) _)⟩
end Go.Proofs.YtbmaoiemgepppaaGreatDoor
/- Abs, Neg: of numbers that may be, and refused. -/
namespace Go.Proofs.YtbmaoiemgepppaaGreatDoor
set_option linter.unusedVariables false
set_option linter.unusedSimpArgs false
open Go.RowKit

end Go.Proofs.YtbmaoiemgepppaaGreatDoor
/- Several numbers given at once, without their signs: x, y := Abs(give(a)), Abs(give(b)). -/
namespace Go.Proofs.YtbmaoiemgepppaaGreatDoor
set_option linter.unusedVariables false
set_option linter.unusedSimpArgs false
open Go.RowKit

end Go.Proofs.YtbmaoiemgepppaaGreatDoor
/- Root, of numbers that may be and are not below nought. -/
namespace Go.Proofs.YtbmaoiemgepppaaGreatDoor
set_option linter.unusedVariables false
set_option linter.unusedSimpArgs false
open Go.RowKit

end Go.Proofs.YtbmaoiemgepppaaGreatDoor
/- DyadLeast: the law's walk. -/
namespace Go.Proofs.YtbmaoiemgepppaaGreatDoor
set_option linter.unusedVariables false
set_option linter.unusedSimpArgs false
open Go.RowKit Go.Fl64

end Go.Proofs.YtbmaoiemgepppaaGreatDoor
/- The document's product and order. -/
namespace Go.Proofs.YtbmaoiemgepppaaGreatDoor
set_option linter.unusedVariables false
set_option linter.unusedSimpArgs false
open Go.RowKit

/-- v is a slice that holds the digits of x (whatever its room) -/
def Ir (w : World) (v : Value) (x : Nat) : Prop := ∃ ao cap, v = .slice ao (dlen x) cap ∧ dlen x ≤ cap ∧ At w ao (dlen x) x
theorem Ir.later {w w' : World} {v : Value} {x : Nat} (h : Ir w v x) (hb : Below w.heap.size w w') : Ir w' v x := by
  obtain ⟨ao, cap, h1, h2, h3⟩ := h
  exact ⟨ao, cap, h1, h2, h3.later hb⟩
theorem Ir.nil (w : World) (ao : Option Addr) (cap : Nat) : Ir w (.slice ao 0 cap) 0 := ⟨ao, cap, by rw [dlen_zero], by rw [dlen_zero]; omega, 0, 0, fun h => by rw [dlen_zero] at h; omega, fun i hi => by rw [dlen_zero] at hi; omega⟩

theorem Mk.drewN {w wr : World} {n : Nat} {f : Nat → Nat} (h : Mk w wr n f) (d : Nat) : Mk w (wr.drewN d) n f :=
  ⟨⟨h.below.os, h.below.tape, h.below.output, h.below.size, h.below.block⟩, h.size, h.row⟩

end Go.Proofs.YtbmaoiemgepppaaGreatDoor
/- The document's sum and less. -/
namespace Go.Proofs.YtbmaoiemgepppaaGreatDoor
set_option linter.unusedVariables false
set_option linter.unusedSimpArgs false
open Go.RowKit

/-- a digit appended to a row -/
theorem row_step {w wr w' : World} {j z : Nat} {q : Int} {v v' : Value} (hq : q = (dg z j : Nat)) (hB : Below w.heap.size w wr) (ho : wr.ownsRow w.heap.size 49 1 v j (cells z j))
    (ho' : w'.ownsRow w.heap.size 49 1 v' (j + 1) (cells z j ++ [.int .u32 q])) (hg : (wr.alloc (.cells #[.int .u32 q] 49)).grownBy w' v.ownBlock) :
    w'.ownsRow w.heap.size 49 1 v' (j + 1) (cells z (j + 1)) ∧ Below w.heap.size w w' :=
  ⟨by rw [cells_succ, ← hq]; exact ho', (hB.alloc hB.size _).grown hg (by simp; have := hB.size; omega) (fun k hk => (ho.lt k hk).1)⟩

theorem addc_top {x y n : Nat} (hx : x < B ^ n) (hy : y < B ^ n) : addc x y n = (x + y) / B ^ n := by
  unfold addc
  rw [Nat.mod_eq_of_lt hx, Nat.mod_eq_of_lt hy]

set_option maxHeartbeats 4000000 in
set_option maxRecDepth 200000 in
theorem rsum_1 (ao bo : Option Addr) (ba oa bb ob na nb ca cb x y N : Nat) (w : World) (ha : 0 < na → ao = some ⟨ba, oa, none⟩) (hb : 0 < nb → bo = some ⟨bb, ob, none⟩) (hN : N = max na nb) (hNb : N ≤ 1000000000) (hx : dlen x = na) (hy : dlen y = nb)
    (hca : ∀ i, i < na → w.cell? ⟨ba, oa + i, none⟩ = some (.int .u32 (dg x i : Nat))) (hcb : ∀ i, i < nb → w.cell? ⟨bb, ob + i, none⟩ = some (.int .u32 (dg y i : Nat))) :
    Calls Tryz.prog 16 #[.slice ao na ca, .slice bo nb cb] w fun e w' => ∃ v, e = .returned v ∧ Ir w' v (x + y) ∧ Below w.heap.size w w' := by
  have HXY : Hid (dlen x = na ∧ dlen y = nb ∧ N = max na nb) := ⟨hx, hy, hN⟩
  have HCA : Hid (∀ i, i < na → w.cell? ⟨ba, oa + i, none⟩ = some (.int .u32 (dg x i : Nat))) := hca
  have HCB : Hid (∀ i, i < nb → w.cell? ⟨bb, ob + i, none⟩ = some (.int .u32 (dg y i : Nat))) := hcb
  have hNa : na ≤ N := by omega
  have hNb2 : nb ≤ N := by omega
  clear hx hy hca hcb hN
  go_enter Tryz.func16, Tryz.ntmps16
  go_wp2
  go_loopw [5, 6, 7] (fun v c i wr => ∃ j : Nat, j ≤ N ∧ c = .int .u64 (addc x y j : Nat) ∧ i = .int .i64 j ∧ wr.ownsRow w.heap.size 49 1 v j (cells (x + y) j) ∧ Below w.heap.size w wr) (fun _ _ i _ => N - (intOf i).toNat)
  case atStart => exact ⟨0, Nat.zero_le _, by rw [addc_zero]; rfl, rfl, World.ownsRow_nil .., Below.refl _ _⟩
  case round =>
    obtain ⟨j, hj, rfl, rfl, ho, hB⟩ := hrel
    have HO : Hid (wr.ownsRow w.heap.size 49 1 u5 j (cells (x + y) j)) := ho
    have HB : Hid (Below w.heap.size w wr) := hB
    have hbs : w.heap.size ≤ wr.heap.size := hB.size
    have HL : Hid (dg x j < B ∧ dg y j < B ∧ addc x y j ≤ 1) := ⟨dg_lt _ _, dg_lt _ _, addc_le _ _ _⟩
    by_cases hjN : j < N
    · -- what comes to the carry, from both
      have hkey : ∀ (dx dy c Q : Nat), dg x j = dx → dg y j = dy → addc x y j = c → Q = c + dx + dy → ((Q : Int) % 4294967296 = (dg (x + y) j : Nat)) ∧ ((Q : Int) / 4294967296 = (addc x y (j + 1) : Nat)) := by
        rintro dx dy c Q rfl rfl rfl rfl
        rw [dg_add, addc_succ]
        unfold B
        omega
      have HKY : Hid (∀ (dx dy c Q : Nat), dg x j = dx → dg y j = dy → addc x y j = c → Q = c + dx + dy → ((Q : Int) % 4294967296 = (dg (x + y) j : Nat)) ∧ ((Q : Int) / 4294967296 = (addc x y (j + 1) : Nat))) := hkey
      obtain ⟨i0, hi0, hz0, hz1, hz2⟩ := info_parts Tryz.info49
      have e64 : ∀ q : Int, 0 ≤ q → q < 18446744073709551616 → IntKind.u64.wrap q = q := fun q h1 h2 => by rw [IntKind.wrap_u64]; omega
      by_cases hja : j < na
      · obtain rfl := ha (by omega)
        have g1 := (hB.cell (World.block_lt_of_cell? _ _ (HCA.out j hja))).trans (HCA.out j hja)
        have hji : (j : Int) < (na : Int) := by omega
        by_cases hjb : j < nb
        · obtain rfl := hb (by omega)
          have g4 := (hB.cell (World.block_lt_of_cell? _ _ (HCB.out j hjb))).trans (HCB.out j hjb)
          have hji2 : (j : Int) < (nb : Int) := by omega
          generalize hd : dg x j = d at *
          generalize hd1 : dg y j = d1 at *
          generalize hc : addc x y j = c at *
          obtain ⟨K, hK⟩ : ∃ K : Nat, K = c + d := ⟨_, rfl⟩
          obtain ⟨Q, hQ⟩ : ∃ Q : Nat, Q = c + d + d1 := ⟨_, rfl⟩
          have w1 : IntKind.u64.wrap (d : Int) = (d : Int) := wrap_d HL.out.1
          have w2 : IntKind.u64.wrap (d1 : Int) = (d1 : Int) := wrap_d HL.out.2.1
          have hl := HL.out
          unfold B at hl
          have w3 : IntKind.u64.wrap ((c : Int) + (d : Int)) = (K : Int) := by rw [e64 _ (by omega) (by omega)]; omega
          have w4 : IntKind.u64.wrap ((K : Int) + (d1 : Int)) = (Q : Int) := by rw [e64 _ (by omega) (by omega)]; omega
          have HD : Hid ((Q : Int) % 4294967296 = (dg (x + y) j : Nat) ∧ (Q : Int) / 4294967296 = (addc x y (j + 1) : Nat)) := HKY.out d d1 c Q rfl rfl rfl hQ
          clear hd hd1 hc hB hl hkey e64 hK hQ
          go_wp2_with (at_builtin; refine wpList_append_own _ rfl _ _ 22 rfl w.heap.size 49 i0 (.int .u32 0) 1 4 Tryz.underlying22 hi0 hz0 hz1 hz2 rfl (by decide) _ _ _ rfl (ho.alloc _) ⟨wr.heap.size, 0, none⟩ 1 1 [.int .u32 ((Q : Int) % 4294967296)] rfl rfl (cell_one_new _ _ _) (by intro u hu; simp at hu; subst hu; rfl) (by unfold maxLen; omega) (by omega) (by simp; omega) ?_)
          intro v' w5 hown5 hgrow _
          obtain ⟨r1, r2⟩ := row_step HD.out.1 HB.out HO.out hown5 hgrow
          have HR : Hid (w5.ownsRow w.heap.size 49 1 v' (j + 1) (cells (x + y) (j + 1)) ∧ Below w.heap.size w w5) := ⟨r1, r2⟩
          clear hown5 hgrow r1 r2 ho
          go_wp2
          exact ⟨⟨j + 1, by omega, by rw [HD.out.2], by simp, HR.out⟩, by simp [intOf]; omega⟩
        · have hji2 : ¬ (j : Int) < (nb : Int) := by omega
          have hd1 : dg y j = 0 := dg_past (by rw [HXY.out.2.1]; omega)
          generalize hd : dg x j = d at *
          generalize hc : addc x y j = c at *
          obtain ⟨Q, hQ⟩ : ∃ Q : Nat, Q = c + d + 0 := ⟨_, rfl⟩
          have w1 : IntKind.u64.wrap (d : Int) = (d : Int) := wrap_d HL.out.1
          have hl := HL.out
          unfold B at hl
          have w3 : IntKind.u64.wrap ((c : Int) + (d : Int)) = (Q : Int) := by rw [e64 _ (by omega) (by omega)]; omega
          have HD : Hid ((Q : Int) % 4294967296 = (dg (x + y) j : Nat) ∧ (Q : Int) / 4294967296 = (addc x y (j + 1) : Nat)) := HKY.out d 0 c Q rfl hd1 rfl hQ
          clear hd hd1 hc hB hl hkey e64 hQ
          go_wp2_with (at_builtin; refine wpList_append_own _ rfl _ _ 22 rfl w.heap.size 49 i0 (.int .u32 0) 1 4 Tryz.underlying22 hi0 hz0 hz1 hz2 rfl (by decide) _ _ _ rfl (ho.alloc _) ⟨wr.heap.size, 0, none⟩ 1 1 [.int .u32 ((Q : Int) % 4294967296)] rfl rfl (cell_one_new _ _ _) (by intro u hu; simp at hu; subst hu; rfl) (by unfold maxLen; omega) (by omega) (by simp; omega) ?_)
          intro v' w5 hown5 hgrow _
          obtain ⟨r1, r2⟩ := row_step HD.out.1 HB.out HO.out hown5 hgrow
          have HR : Hid (w5.ownsRow w.heap.size 49 1 v' (j + 1) (cells (x + y) (j + 1)) ∧ Below w.heap.size w w5) := ⟨r1, r2⟩
          clear hown5 hgrow r1 r2 ho
          go_wp2
          exact ⟨⟨j + 1, by omega, by rw [HD.out.2], by simp, HR.out⟩, by simp [intOf]; omega⟩
      · have hji : ¬ (j : Int) < (na : Int) := by omega
        have hjb : j < nb := by have := HXY.out.2.2; omega
        obtain rfl := hb (by omega)
        have g4 := (hB.cell (World.block_lt_of_cell? _ _ (HCB.out j hjb))).trans (HCB.out j hjb)
        have hji2 : (j : Int) < (nb : Int) := by omega
        have hd : dg x j = 0 := dg_past (by rw [HXY.out.1]; omega)
        generalize hd1 : dg y j = d1 at *
        generalize hc : addc x y j = c at *
        obtain ⟨Q, hQ⟩ : ∃ Q : Nat, Q = c + 0 + d1 := ⟨_, rfl⟩
        have w2 : IntKind.u64.wrap (d1 : Int) = (d1 : Int) := wrap_d HL.out.2.1
        have hl := HL.out
        unfold B at hl
        have w4 : IntKind.u64.wrap ((c : Int) + (d1 : Int)) = (Q : Int) := by rw [e64 _ (by omega) (by omega)]; omega
        have HD : Hid ((Q : Int) % 4294967296 = (dg (x + y) j : Nat) ∧ (Q : Int) / 4294967296 = (addc x y (j + 1) : Nat)) := HKY.out 0 d1 c Q hd rfl rfl hQ
        clear hd hd1 hc hB hl hkey e64 hQ
        go_wp2_with (at_builtin; refine wpList_append_own _ rfl _ _ 22 rfl w.heap.size 49 i0 (.int .u32 0) 1 4 Tryz.underlying22 hi0 hz0 hz1 hz2 rfl (by decide) _ _ _ rfl (ho.alloc _) ⟨wr.heap.size, 0, none⟩ 1 1 [.int .u32 ((Q : Int) % 4294967296)] rfl rfl (cell_one_new _ _ _) (by intro u hu; simp at hu; subst hu; rfl) (by unfold maxLen; omega) (by omega) (by simp; omega) ?_)
        intro v' w5 hown5 hgrow _
        obtain ⟨r1, r2⟩ := row_step HD.out.1 HB.out HO.out hown5 hgrow
        have HR : Hid (w5.ownsRow w.heap.size 49 1 v' (j + 1) (cells (x + y) (j + 1)) ∧ Below w.heap.size w w5) := ⟨r1, r2⟩
        clear hown5 hgrow r1 r2 ho
        go_wp2
        exact ⟨⟨j + 1, by omega, by rw [HD.out.2], by simp, HR.out⟩, by simp [intOf]; omega⟩
    · obtain rfl : j = N := by omega
      have hjna : ¬ (j : Int) < (na : Int) := by omega
      have hjnb : ¬ (j : Int) < (nb : Int) := by omega
      obtain ⟨l1, l2, l3⟩ := HXY.out
      have hxl : x < B ^ j := (dlen_le j x).1 (by omega)
      have hyl : y < B ^ j := (dlen_le j y).1 (by omega)
      have htop := addc_top hxl hyl
      have hc1 := HL.out.2.2
      by_cases hc0 : addc x y j = 0
      · have hlen : dlen (x + y) = j := by
          have h1 : x + y < B ^ j := by
            rw [hc0] at htop
            exact (Nat.div_eq_zero_iff.1 htop.symm).resolve_left (by have := Bpow_pos j; omega)
          have h2 : dlen (x + y) ≤ j := (dlen_le _ _).2 h1
          have h3 : dlen x ≤ dlen (x + y) := dlen_mono (by omega)
          have h4 : dlen y ≤ dlen (x + y) := dlen_mono (by omega)
          omega
        rw [hc0]
        obtain ⟨ao', cap', rfl, hcp, hA⟩ := at_of_row ho
        have HR : Hid (Ir wr (.slice ao' j cap') (x + y)) := ⟨ao', cap', by rw [hlen], by omega, by rw [hlen]; exact hA⟩
        clear ho hB hlen htop hxl hyl l1 l2 l3 hA hc0 hc1
        go_wp2
        go_ret
        exact ⟨_, rfl, HR.out, HB.out⟩
      · have hc : addc x y j = 1 := by omega
        have hlen : dlen (x + y) = j + 1 := by
          have h1 : B ^ j ≤ x + y := by
            rw [hc] at htop
            refine Nat.le_of_not_lt fun h => ?_
            rw [Nat.div_eq_of_lt h] at htop; omega
          have h2 : ¬ dlen (x + y) ≤ j := fun h => by have := (dlen_le _ _).1 h; omega
          have h3 := dlen_add_le x y
          omega
        have hdg : dg (x + y) j = 1 := by
          rw [dg_add, dg_past (x := x) (by omega), dg_past (x := y) (by omega), hc]
          decide
        have HD : Hid ((1 : Int) = (dg (x + y) j : Nat)) := (by rw [hdg]; rfl : (1 : Int) = (dg (x + y) j : Nat))
        have HLN : Hid (dlen (x + y) = j + 1) := hlen
        rw [hc]
        obtain ⟨i0, hi0, hz0, hz1, hz2⟩ := info_parts Tryz.info49
        clear hB hlen htop hxl hyl l1 l2 l3 hc0 hc1 hc hdg
        go_wp2_with (at_builtin; refine wpList_append_own _ rfl _ _ 22 rfl w.heap.size 49 i0 (.int .u32 0) 1 4 Tryz.underlying22 hi0 hz0 hz1 hz2 rfl (by decide) _ _ _ rfl (ho.alloc _) ⟨wr.heap.size, 0, none⟩ 1 1 [.int .u32 1] rfl rfl (cell_one_new _ _ _) (by intro u hu; simp at hu; subst hu; rfl) (by unfold maxLen; omega) (by omega) (by simp; omega) ?_)
        intro v' w5 hown5 hgrow _
        obtain ⟨r1, r2⟩ := row_step HD.out HB.out HO.out hown5 hgrow
        obtain ⟨ao', cap', rfl, hcp, hA⟩ := at_of_row r1
        have HR : Hid (Ir w5 (.slice ao' (j + 1) cap') (x + y) ∧ Below w.heap.size w w5) := ⟨⟨ao', cap', by rw [HLN.out], by rw [HLN.out]; omega, by rw [HLN.out]; exact hA⟩, r2⟩
        clear hown5 hgrow r1 r2 ho hA hcp
        go_wp2
        go_ret
        exact ⟨_, rfl, HR.out⟩

theorem rsum {u v : Value} {x y : Nat} {w : World} (h1 : Ir w u x) (h2 : Ir w v y) (hx : dlen x ≤ 1000000000) (hy : dlen y ≤ 1000000000) :
    Calls Tryz.prog 16 #[u, v] w fun e w' => ∃ v, e = .returned v ∧ Ir w' v (x + y) ∧ Below w.heap.size w w' := by
  obtain ⟨ao, ca, rfl, a1, ba, oa, a3, a4⟩ := h1
  obtain ⟨bo, cb, rfl, b1, bb, ob, b3, b4⟩ := h2
  exact rsum_1 ao bo ba oa bb ob _ _ ca cb x y _ w a3 b3 rfl (by omega) rfl rfl a4 b4
end Go.Proofs.YtbmaoiemgepppaaGreatDoor
/- The document's less and up. -/
namespace Go.Proofs.YtbmaoiemgepppaaGreatDoor
set_option linter.unusedVariables false
set_option linter.unusedSimpArgs false
open Go.RowKit

theorem made_row {w : World} {z n : Nat} (hn : n ≤ maxLen) (h : ∀ i, i < n → dg z i = 0) : (w.alloc (.cells (madeCells #[.int .u32 0] n) 49)).ownsRow w.heap.size 49 1 (.slice (some ⟨w.heap.size, 0, none⟩) n n) n (cells z n) := by
  obtain ⟨c, hc, hs, hf⟩ := World.rowIs_made w (.int .u32 0) n 49
  refine ⟨by rw [cells_length, Nat.mul_one], .inr ⟨w.heap.size, n, c, rfl, Nat.le_refl _, hc, Nat.le_refl _, hn, by omega, ?_⟩⟩
  apply List.ext_getElem?
  intro i
  rw [Nat.mul_one, List.getElem?_take]
  by_cases hi : i < n
  · rw [if_pos hi, Array.getElem?_toList, hf i hi, cells_get hi, h i hi]; rfl
  · rw [if_neg hi, List.getElem?_eq_none (by rw [cells_length]; omega)]

theorem up_word {d c p : Nat} (hd : d < B) (hp : p < 32) (hc : c < 2 ^ p) : bits .or .u64 (IntKind.u64.wrap (IntKind.u64.wrap (d : Int) * 2 ^ p)) (IntKind.u64.wrap (c : Int)) = ((c + d * 2 ^ p : Nat) : Int) := by
  have h1 := shl_word hd hp
  have h2 := two_small hp
  have h3 := mul_small hd h2
  have hcB : c < B := by unfold B; omega
  rw [h1, wrap_d hcB, u64_or_nat _ _ (by omega) (by unfold B at hcB; omega), or_add (p := p) (Nat.mul_mod_left ..) hc, Nat.add_comm]

set_option maxHeartbeats 4000000 in
set_option maxRecDepth 200000 in
theorem rup_1 (b o cap n x k whole part : Nat) (w : World) (hn0 : 0 < n) (hn : n ≤ 1000000000) (hk : k ≤ 1000000000) (hwh : k / 32 = whole) (hpa : k % 32 = part) (hx : dlen x = n) (hcell : ∀ i, i < n → w.cell? ⟨b, o + i, none⟩ = some (.int .u32 (dg x i : Nat))) :
    Calls Tryz.prog 17 #[.slice (some ⟨b, o, none⟩) n cap, .int .i64 k] w fun e w' => ∃ v, e = .returned v ∧ Ir w' v (x * 2 ^ k) ∧ Below w.heap.size w w' := by
  have hq : (k : Int).tdiv 32 = ((k / 32 : Nat) : Int) := by rw [Int.tdiv_eq_ediv_of_nonneg (by omega)]; rfl
  have hr : (k : Int).tmod 32 = ((k % 32 : Nat) : Int) := by rw [Int.tmod_eq_emod_of_nonneg (by omega)]; rfl
  rw [hwh] at hq
  rw [hpa] at hr
  have hwb : whole ≤ 1000000000 := by omega
  have hpb : part < 32 := by omega
  have hmk := run_make_row' (P := Tryz.prog) 22 49 (.int .u32 0) 4 Tryz.underlying22 Tryz.info49 rfl .i64 .i64 whole (by omega) (by omega)
  have hn0' : ((n : Int) == 0) = false := by simp; omega
  have HN : Hid (dlen x = n ∧ k / 32 = whole ∧ k % 32 = part) := ⟨hx, hwh, hpa⟩
  have HZ : Hid (∀ i, i < whole → dg (x * 2 ^ k) i = 0) := fun i hi => by rw [shl_split, hwh, dg_shl_low hi]
  have HCA : Hid (∀ i, i < n → w.cell? ⟨b, o + i, none⟩ = some (.int .u32 (dg x i : Nat))) := hcell
  have HST : Hid (∀ j, dg (x * 2 ^ k) (whole + j) = (mulc x (2 ^ part) j + dg x j * 2 ^ part) % B) := fun j => by rw [shl_split, hwh, hpa, dg_shl, dg_mul]
  clear hx hwh hpa hcell
  go_enter Tryz.func17, Tryz.ntmps17
  go_wp2
  clear hmk
  go_loopw [5, 7, 8] (fun v c i wr => ∃ j : Nat, j ≤ n ∧ c = .int .u32 (mulc x (2 ^ part) j : Nat) ∧ i = .int .i64 j ∧ wr.ownsRow w.heap.size 49 1 v (whole + j) (cells (x * 2 ^ k) (whole + j)) ∧ Below w.heap.size w wr) (fun _ _ i _ => n - (intOf i).toNat)
  case atStart => exact ⟨0, Nat.zero_le _, by rw [mulc_zero]; rfl, rfl, made_row (by unfold maxLen; omega) HZ.out, (Below.refl _ _).alloc (Nat.le_refl _) _⟩
  case round =>
    obtain ⟨j, hj, rfl, rfl, ho, hB⟩ := hrel
    have HO : Hid (wr.ownsRow w.heap.size 49 1 u5 (whole + j) (cells (x * 2 ^ k) (whole + j))) := ho
    have HB : Hid (Below w.heap.size w wr) := hB
    have hbs : w.heap.size ≤ wr.heap.size := hB.size
    obtain ⟨i0, hi0, hz0, hz1, hz2⟩ := info_parts Tryz.info49
    by_cases hja : j < n
    · have g1 := (hB.cell (World.block_lt_of_cell? _ _ (HCA.out j hja))).trans (HCA.out j hja)
      have hji : (j : Int) < (n : Int) := by omega
      have hcl := mulc_lt (x := x) (i := j) (Nat.two_pow_pos part)
      have hdl := dg_lt x j
      have hst := HST.out j
      have hsc := mulc_succ x (2 ^ part) j
      have h2 := two_small hpb
      generalize hd : dg x j = d at *
      generalize hc : mulc x (2 ^ part) j = c at *
      have h3 := mul_small hdl h2
      obtain ⟨T, hT⟩ : ∃ T : Nat, T = c + d * 2 ^ part := ⟨_, rfl⟩
      have w1 : bits .or .u64 (IntKind.u64.wrap (IntKind.u64.wrap (d : Int) * 2 ^ part)) (IntKind.u64.wrap (c : Int)) = (T : Int) := by rw [hT]; exact up_word hdl hpb hcl
      have HD : Hid ((T : Int) % 4294967296 = (dg (x * 2 ^ k) (whole + j) : Nat) ∧ (T : Int) / 4294967296 % 4294967296 = (mulc x (2 ^ part) (j + 1) : Nat)) := by
        refine ⟨?_, ?_⟩
        · rw [hst, ← hT]; unfold B; omega
        · rw [hsc, ← hT]; unfold B; omega
      clear hd hc hB hcl hdl hst hsc h2 h3 hT
      go_wp2_with (at_builtin; refine wpList_append_own _ rfl _ _ 22 rfl w.heap.size 49 i0 (.int .u32 0) 1 4 Tryz.underlying22 hi0 hz0 hz1 hz2 rfl (by decide) _ _ _ rfl (ho.alloc _) ⟨wr.heap.size, 0, none⟩ 1 1 [.int .u32 ((T : Int) % 4294967296)] rfl rfl (cell_one_new _ _ _) (by intro u hu; simp at hu; subst hu; rfl) (by unfold maxLen; omega) (by omega) (by simp; omega) ?_)
      intro v' w5 hown5 hgrow _
      obtain ⟨r1, r2⟩ := row_step HD.out.1 HB.out HO.out hown5 hgrow
      have HR : Hid (w5.ownsRow w.heap.size 49 1 v' (whole + (j + 1)) (cells (x * 2 ^ k) (whole + (j + 1))) ∧ Below w.heap.size w w5) := ⟨r1, r2⟩
      clear hown5 hgrow r1 r2 ho
      go_wp2
      exact ⟨⟨j + 1, by omega, by rw [HD.out.2], by simp, HR.out⟩, by simp [intOf]; omega⟩
    · obtain rfl : j = n := by omega
      have hcl := mulc_lt (x := x) (i := j) (Nat.two_pow_pos part)
      have hst := HST.out j
      rw [dg_past (x := x) (i := j) (by rw [HN.out.1]; omega), Nat.zero_mul, Nat.add_zero] at hst
      have h2 := two_small hpb
      have hL : dlen (x * 2 ^ k) ≤ whole + j + 1 := by have := shl_len (k := k) HN.out.1; rw [HN.out.2.1] at this; exact this
      generalize hc : mulc x (2 ^ part) j = c at *
      have HD : Hid ((c : Int) = (dg (x * 2 ^ k) (whole + j) : Nat)) := (by rw [hst]; unfold B; omega : (c : Int) = (dg (x * 2 ^ k) (whole + j) : Nat))
      have HL : Hid (dlen (x * 2 ^ k) ≤ whole + j + 1) := hL
      clear hc hB hcl hst h2 hL
      go_wp2_with (at_builtin; refine wpList_append_own _ rfl _ _ 22 rfl w.heap.size 49 i0 (.int .u32 0) 1 4 Tryz.underlying22 hi0 hz0 hz1 hz2 rfl (by decide) _ _ _ rfl (ho.alloc _) ⟨wr.heap.size, 0, none⟩ 1 1 [.int .u32 (c : Int)] rfl rfl (cell_one_new _ _ _) (by intro u hu; simp at hu; subst hu; rfl) (by unfold maxLen; omega) (by omega) (by simp; omega) ?_)
      intro v' w5 hown5 hgrow _
      obtain ⟨r1, r2⟩ := row_step HD.out HB.out HO.out hown5 hgrow
      obtain ⟨ao', cap', rfl, hcp, hA⟩ := at_of_row r1
      have HR : Hid (Ir w5 (.slice ao' (dlen (x * 2 ^ k)) cap') (x * 2 ^ k) ∧ Below w.heap.size w w5) := ⟨⟨ao', cap', rfl, by have := HL.out; omega, at_short hA HL.out⟩, r2⟩
      have k40 := r40 ao' (whole + j + 1) cap' (x * 2 ^ k) w5 HL.out hcp (by omega) hA
      clear hown5 hgrow r1 r2 ho hA hcp
      go_wp2_with (first | (go_at_call 18; refine k40.mono ?_; rintro e w' ⟨rfl, rfl⟩))
      go_ret
      exact ⟨_, rfl, HR.out⟩

set_option maxRecDepth 200000 in
theorem rup_0 (ao : Option Addr) (cap : Nat) (k : Int) (w : World) :
    Calls Tryz.prog 17 #[.slice ao 0 cap, .int .i64 k] w fun e w' => e = .returned (.slice none 0 0) ∧ w' = w := by
  go_enter Tryz.func17, Tryz.ntmps17
  go_wp2
  go_ret
  exact ⟨rfl, rfl⟩

theorem rup {v : Value} {x : Nat} {w : World} (h : Ir w v x) (k : Nat) (hx : dlen x ≤ 1000000000) (hk : k ≤ 1000000000) :
    Calls Tryz.prog 17 #[v, .int .i64 k] w fun e w' => ∃ v, e = .returned v ∧ Ir w' v (x * 2 ^ k) ∧ Below w.heap.size w w' := by
  obtain ⟨ao, cap, rfl, h1, b, o, h3, h4⟩ := h
  by_cases h0 : x = 0
  · subst h0
    rw [dlen_zero]
    refine (rup_0 ao cap k w).mono ?_
    rintro e w' ⟨rfl, rfl⟩
    exact ⟨_, rfl, by rw [Nat.zero_mul]; exact Ir.nil _ _ _, Below.refl _ _⟩
  · have hl : 0 < dlen x := Nat.pos_of_ne_zero fun e => h0 (dlen_eq_zero.1 e)
    obtain rfl := h3 hl
    exact rup_1 b o cap _ x k _ _ w hl hx hk rfl rfl rfl h4
end Go.Proofs.YtbmaoiemgepppaaGreatDoor
/- The document's kept and Make. -/
namespace Go.Proofs.YtbmaoiemgepppaaGreatDoor
set_option linter.unusedVariables false
set_option linter.unusedSimpArgs false
open Go.RowKit Go.Fl64

end Go.Proofs.YtbmaoiemgepppaaGreatDoor
/- The document's known, Minus, twin, Scaled, Times. -/
namespace Go.Proofs.YtbmaoiemgepppaaGreatDoor
set_option linter.unusedVariables false
set_option linter.unusedSimpArgs false
open Go.RowKit

end Go.Proofs.YtbmaoiemgepppaaGreatDoor
/- The document's Times, kept, Mul. -/
namespace Go.Proofs.YtbmaoiemgepppaaGreatDoor
set_option linter.unusedVariables false
set_option linter.unusedSimpArgs false
open Go.RowKit

end Go.Proofs.YtbmaoiemgepppaaGreatDoor
/- The document's twin. -/
namespace Go.Proofs.YtbmaoiemgepppaaGreatDoor
set_option linter.unusedVariables false
set_option linter.unusedSimpArgs false
open Go.RowKit

theorem Dn.store {w : World} {base n z : Nat} {v : Value} (h : Dn w base v n z) {g : Nat} (hg : g < base) (i : Nat) (u : Value) : Dn (w.setCell ⟨g, i, none⟩ u) base v n z := by
  rcases h with h | ⟨g2, cap2, c, rfl, h1, h2, h3, h4⟩
  · exact .inl h
  · exact .inr ⟨g2, cap2, c, rfl, h1, h2, by rw [setCell_block _ _ (by omega)]; exact h3, h4⟩

/-- a number of the document, of the value t -/
def RN (w : World) (base : Nat) (A : Value) (t : Bool × Nat × Int) : Prop := ∃ ao cap, A = .agg #[.bool t.1, .slice ao (dlen t.2.1) cap, .int .i64 t.2.2] ∧ (∀ ad : Addr, ao = some ad → 0 < dlen t.2.1 → base ≤ ad.block) ∧ At w ao (dlen t.2.1) t.2.1
theorem RN.later {w w' : World} {base : Nat} {A : Value} {t : Bool × Nat × Int} (h : RN w base A t) (hb : Below w.heap.size w w') : RN w' base A t := by
  obtain ⟨ao, cap, h1, h2, h3⟩ := h
  exact ⟨ao, cap, h1, h2, h3.later hb⟩
theorem RN.mono {w : World} {base base' : Nat} {A : Value} {t : Bool × Nat × Int} (h : RN w base A t) (hb : base' ≤ base) : RN w base' A t := by
  obtain ⟨ao, cap, h1, h2, h3⟩ := h
  exact ⟨ao, cap, h1, fun ad e hl => Nat.le_trans hb (h2 ad e hl), h3⟩
theorem Nr.rn {w : World} {base : Nat} {A : Value} {s : Bool} {z : Nat} {e : Int} (h : Nr w base A s z e) : RN w base A (cn s z e) := by
  unfold cn
  rcases h with ⟨rfl, rfl⟩ | ⟨h0, g, cap, rfl, hg, ha⟩
  · rw [if_pos rfl]
    exact ⟨none, 0, by rw [dlen_zero]; rfl, (fun ad e => by cases e), 0, 0, fun h => by rw [dlen_zero] at h; omega, fun i hi => by rw [dlen_zero] at hi; omega⟩
  · rw [if_neg h0]
    exact ⟨_, cap, rfl, (fun ad e _ => by cases e; exact hg), ha⟩
theorem rn_nil (w : World) (base : Nat) : RN w base (.agg #[.bool false, .slice none 0 0, .int .i64 0]) (false, 0, 0) :=
  ⟨none, 0, by rw [dlen_zero], (fun ad e => by cases e), 0, 0, fun h => by rw [dlen_zero] at h; omega, fun i hi => by rw [dlen_zero] at hi; omega⟩
theorem Dn.at_ {w : World} {base n z cap : Nat} {ao : Option Addr} (h : Dn w base (.slice ao n cap) n z) : At w ao n z := by
  rcases h with ⟨h1, rfl⟩ | ⟨g, cap', c, h1, h2, h3, h4, h5, h6⟩
  · exact ⟨0, 0, fun h => by omega, fun i hi => by omega⟩
  · simp only [Value.slice.injEq] at h1
    obtain ⟨rfl, -, rfl⟩ := h1
    exact ⟨g, 0, fun _ => rfl, fun i hi => by simp [World.cell?, h4, h6 i hi]⟩
end Go.Proofs.YtbmaoiemgepppaaGreatDoor
/- The document's Shift. -/
namespace Go.Proofs.YtbmaoiemgepppaaGreatDoor
set_option linter.unusedVariables false
set_option linter.unusedSimpArgs false
open Go.RowKit

end Go.Proofs.YtbmaoiemgepppaaGreatDoor
/- The document's High, far. -/
namespace Go.Proofs.YtbmaoiemgepppaaGreatDoor
set_option linter.unusedVariables false
set_option linter.unusedSimpArgs false
open Go.RowKit

end Go.Proofs.YtbmaoiemgepppaaGreatDoor
/- The document's Plus. -/
namespace Go.Proofs.YtbmaoiemgepppaaGreatDoor
set_option linter.unusedVariables false
set_option linter.unusedSimpArgs false
open Go.RowKit

end Go.Proofs.YtbmaoiemgepppaaGreatDoor
/- Add and Up, refused. -/
namespace Go.Proofs.YtbmaoiemgepppaaGreatDoor
set_option linter.unusedVariables false
set_option linter.unusedSimpArgs false
open Go.RowKit

end Go.Proofs.YtbmaoiemgepppaaGreatDoor
/- The document's Plus joined, Add. -/
namespace Go.Proofs.YtbmaoiemgepppaaGreatDoor
set_option linter.unusedVariables false
set_option linter.unusedSimpArgs false
open Go.RowKit

theorem Dn.rn {w : World} {base x cap : Nat} {s : Bool} {e : Int} {ao : Option Addr} (h : Dn w base (.slice ao (dlen x) cap) (dlen x) x) : RN w base (.agg #[.bool s, .slice ao (dlen x) cap, .int .i64 e]) (s, x, e) := by
  have hat := h.at_
  refine ⟨ao, cap, rfl, fun ad e hl => ?_, hat⟩
  rcases h with ⟨h1, -⟩ | ⟨g, cap', c, h1, h2, -⟩
  · simp only [Value.slice.injEq] at h1
    rw [h1.1] at e; cases e
  · simp only [Value.slice.injEq] at h1
    rw [h1.1] at e; cases e; exact h2
theorem RN.shape {w : World} {base : Nat} {A : Value} {t : Bool × Nat × Int} (h : RN w base A t) : ∃ s ao n cap e, A = .agg #[.bool s, .slice ao n cap, .int .i64 e] := by
  obtain ⟨ao, cap, h1, -⟩ := h
  exact ⟨_, _, _, _, _, h1⟩

end Go.Proofs.YtbmaoiemgepppaaGreatDoor
/- The document's Add; Add, Sub, Mul refused. -/
namespace Go.Proofs.YtbmaoiemgepppaaGreatDoor
set_option linter.unusedVariables false
set_option linter.unusedSimpArgs false
open Go.RowKit

end Go.Proofs.YtbmaoiemgepppaaGreatDoor
/- The document's Sub; far numbers; all of Add, Sub, Mul, Shift. -/
namespace Go.Proofs.YtbmaoiemgepppaaGreatDoor
set_option linter.unusedVariables false
set_option linter.unusedSimpArgs false
open Go.RowKit

end Go.Proofs.YtbmaoiemgepppaaGreatDoor
/- normal over a slice of any capacity. -/
namespace Go.Proofs.YtbmaoiemgepppaaGreatDoor
set_option linter.unusedVariables false
set_option linter.unusedSimpArgs false
open Go.RowKit

end Go.Proofs.YtbmaoiemgepppaaGreatDoor
/- Make. -/
namespace Go.Proofs.YtbmaoiemgepppaaGreatDoor
set_option linter.unusedVariables false
set_option linter.unusedSimpArgs false
open Go.RowKit

end Go.Proofs.YtbmaoiemgepppaaGreatDoor
/- DyadOf: the law's walk, and what it answers. -/
namespace Go.Proofs.YtbmaoiemgepppaaGreatDoor
set_option linter.unusedVariables false
set_option linter.unusedSimpArgs false
open Go.RowKit Go.Fl64

end Go.Proofs.YtbmaoiemgepppaaGreatDoor
/- DyadMakes: the law's walk, where there are digits. -/
namespace Go.Proofs.YtbmaoiemgepppaaGreatDoor
set_option linter.unusedVariables false
set_option linter.unusedSimpArgs false
open Go.RowKit Go.Fl64

end Go.Proofs.YtbmaoiemgepppaaGreatDoor
