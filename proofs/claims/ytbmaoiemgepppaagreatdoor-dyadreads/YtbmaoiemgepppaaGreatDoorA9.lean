/- Own work: contracts of the program's functions, part 9: VR1 VR2 VR3 VR4 VR5 HX W46 W47 L5 W42 G3 W43 L7 RB1. -/
import Derived.Test.YtbmaoiemgepppaaGreatDoorA5
import Derived.Laws.IdiomStrings
import Derived.Test.YtbmaoiemgepppaaGreatDoorA1
import Derived.BigQuiet
import Derived.Lib.Bytealg
import Derived.Test.YtbmaoiemgepppaaGreatDoorA3
import Derived.Test.YtbmaoiemgepppaaGreatDoorA7
import Derived.Test.YtbmaoiemgepppaaGreatDoorA8
import Derived.Deep.CutRange
import Derived.Test.YtbmaoiemgepppaaGreatDoorA2

/- strconv.ParseUint at base 16 and 32 bits, of short texts. -/
namespace Go.Proofs.YtbmaoiemgepppaaGreatDoor
set_option linter.unusedVariables false
set_option linter.unusedSimpArgs false
open Go Go.RowKit Go.Fl64

/-- a byte as a small letter -/
def lowB (c : Nat) : Nat := c ||| 32
/-- what a byte is worth as a digit of base 16; 99: it is none -/
def dgB (c : Nat) : Nat := if 48 ≤ c ∧ c ≤ 57 then c - 48 else if 97 ≤ lowB c ∧ lowB c ≤ 102 then lowB c - 87 else 99
/-- the byte at a place -/
def btA (s : ByteArray) (i : Nat) : Nat := (s.data[i]?.getD 0).toNat
/-- the number that the first i digits make -/
def puN (s : ByteArray) : Nat → Nat
  | 0 => 0
  | i + 1 => puN s i * 16 + dgB (btA s i)
theorem lowB_lt {c : Nat} (h : c < 256) : lowB c < 256 := Nat.or_lt_two_pow (n := 8) h (by decide)
theorem low_small {c : Nat} (h : c < 48) : lowB c < 97 := by
  have : ∀ c : Fin 48, lowB c.val < 97 := by decide +kernel
  exact this ⟨c, h⟩
theorem btA_lt (s : ByteArray) (i : Nat) : btA s i < 256 := UInt8.toNat_lt _
theorem puN_lt {s : ByteArray} : ∀ {i : Nat}, (∀ j, j < i → dgB (btA s j) < 16) → puN s i < 16 ^ i
  | 0, _ => Nat.one_pos
  | i + 1, h => by
    have h1 := puN_lt (i := i) fun j hj => h j (by omega)
    have h2 := h i (by omega)
    show puN s i * 16 + dgB (btA s i) < 16 ^ (i + 1)
    rw [Nat.pow_succ]; omega
theorem u8_or (c : Nat) (h : c < 256) : bits .or .u8 (c : Int) 32 = ((lowB c : Nat) : Int) := by
  have : ∀ c : Fin 256, bits .or .u8 (c.val : Int) 32 = ((lowB c.val : Nat) : Int) := by decide +kernel
  exact this ⟨c, h⟩
theorem clower (c : Nat) (h : c < 256) (w : World) : Calls Tryz.prog 105 #[.int .u8 (c : Int)] w fun r w' => r = .returned (.int .u8 ((lowB c : Nat) : Int)) ∧ w' = w := by
  have ho := u8_or c h
  go_enter Tryz.func105, Tryz.ntmps105
  go_wp2
  go_ret
  exact ⟨rfl, rfl⟩
theorem conv_bytes (s : ByteArray) (w : World) : ∃ cap W, (convert 9 70 (.string s)).run Tryz.prog w = .ok (.slice (some ⟨w.heap.size, 0, none⟩) s.size cap) W ∧ Below w.heap.size w W ∧ ∀ j, j < s.size → W.cell? ⟨w.heap.size, j, none⟩ = some (.int .u8 ((btA s j : Nat) : Int)) := by
  have h := run_bytes_of_string (P := Tryz.prog) w 9 70 5 s Tryz.underlying9 Tryz.underlying70 Tryz.underlying5
  refine ⟨_, _, h, (Below.refl _ _).drew.alloc (Nat.le_refl _) _, fun j hj => ?_⟩
  have hb := heap_alloc_new w.drew (.cells (bytesRow s (grownCap w s.size 0 5)) 5 ((bytesRow s (grownCap w s.size 0 5)).size, (bytesRow s (grownCap w s.size 0 5)).size + 1))
  have hb' : (w.drew.alloc (.cells (bytesRow s (grownCap w s.size 0 5)) 5 ((bytesRow s (grownCap w s.size 0 5)).size, (bytesRow s (grownCap w s.size 0 5)).size + 1))).heap[w.heap.size]? = some (.cells (bytesRow s (grownCap w s.size 0 5)) 5 ((bytesRow s (grownCap w s.size 0 5)).size, (bytesRow s (grownCap w s.size 0 5)).size + 1)) := hb
  unfold World.cell?
  rw [hb']
  show (if false then none else (bytesRow s (grownCap w s.size 0 5))[j]?) = _
  rw [if_neg (by decide)]
  have hj' : j < s.data.size := hj
  unfold bytesRow btA
  rw [Array.getElem?_append_left (by simpa using hj')]
  simp only [Array.getElem?_map]
  rw [Array.getElem?_eq_getElem hj']
  rfl
/-- how it ends: the number, or the error of the form -/
def PuS (s : ByteArray) (d : Int) (er : Value) : Prop := if s.size = 0 ∨ ∃ j, j < s.size ∧ 16 ≤ dgB (btA s j) then d = 0 ∧ er = .iface 101 (.int .i64 2) else d = ((puN s s.size : Nat) : Int) ∧ er = .nilIface
theorem PuS.bad {s : ByteArray} {i : Nat} (h : i < s.size) (h2 : 16 ≤ dgB (btA s i)) : PuS s 0 (.iface 101 (.int .i64 2)) := by
  unfold PuS
  rw [if_pos (.inr ⟨i, h, h2⟩)]
  exact ⟨rfl, rfl⟩
theorem dgB_dec {c : Nat} (h1 : 48 ≤ c) (h2 : c ≤ 57) : dgB c = c - 48 := by unfold dgB; rw [if_pos ⟨h1, h2⟩]
theorem dgB_let {c : Nat} (h1 : ¬ (48 ≤ c ∧ c ≤ 57)) (h2 : 97 ≤ lowB c) (h3 : lowB c ≤ 102) : dgB c = lowB c - 87 := by unfold dgB; rw [if_neg h1, if_pos ⟨h2, h3⟩]
theorem dgB_no {c : Nat} (h1 : ¬ (48 ≤ c ∧ c ≤ 57)) (h2 : ¬ (97 ≤ lowB c ∧ lowB c ≤ 102)) : dgB c = 99 := by unfold dgB; rw [if_neg h1, if_neg h2]

set_option maxHeartbeats 4000000 in
set_option maxRecDepth 200000 in
theorem pu_1 (s : ByteArray) (w : World) (hs : s.size ≤ 8) (h0 : s.toList.isEmpty = false) (h00 : 0 < s.size) :
    Calls Tryz.prog 70 #[.string s, .int .i64 16, .int .i64 32] w fun r w' => ∃ d er, r = .returned (.tuple #[.int .u64 d, er]) ∧ PuS s d er ∧ Below w.heap.size w w' := by
  obtain ⟨cap, W, hc, hB, hcell⟩ := conv_bytes s w
  have HB : Hid (Below w.heap.size w W) := hB
  have HC : Hid (∀ j, j < s.size → W.cell? ⟨w.heap.size, j, none⟩ = some (.int .u8 ((btA s j : Nat) : Int))) := hcell
  clear hB hcell
  generalize hn : s.size = n at *
  go_enter Tryz.func70, Tryz.ntmps70
  go_wp2_with fail
  clear hc
  go_loopw [101, 13, 12] (fun i v u wr => ∃ j : Nat, j ≤ n ∧ i = .int .i64 (j : Int) ∧ v = .int .u64 ((puN s j : Nat) : Int) ∧ u = .bool false ∧ wr = W ∧ Hid (∀ k, k < j → dgB (btA s k) < 16)) (fun i _ _ _ => n - (intOf i).toNat)
  case atStart => exact ⟨0, by omega, rfl, rfl, rfl, rfl, fun k hk => by omega⟩
  case round =>
    obtain ⟨j, hj, rfl, rfl, rfl, rfl, HD⟩ := hrel
    by_cases hlt : j < n
    · have hcj := HC.out j hlt
      have hb := btA_lt s j
      have hlb := lowB_lt hb
      have hp : puN s j < 16 ^ j := puN_lt HD.out
      have hp7 : puN s j < 268435456 := Nat.lt_of_lt_of_le hp (Nat.le_trans (Nat.pow_le_pow_right (by omega) (show j ≤ 7 by omega)) (by decide))
      have kl := clower (btA s j) hb
      have HS : Hid (puN s (j + 1) = puN s j * 16 + dgB (btA s j)) := rfl
      have HX : Hid (∀ k, k < j + 1 → k ≠ j → dgB (btA s k) < 16) := fun k hk hkj => HD.out k (by omega)
      generalize hce : btA s j = c at *
      generalize hve : puN s j = v at *
      by_cases hdec : 48 ≤ c ∧ c ≤ 57
      · obtain ⟨D, hDe⟩ : ∃ D : Nat, D = dgB c := ⟨_, rfl⟩
        have hdg := dgB_dec hdec.1 hdec.2
        have hD16 : D < 16 := by omega
        have q0 : ((c : Int) == 95) = false := by rw [beq_eq_false_iff_ne]; omega
        have q1 : (48 : Int) ≤ (c : Int) := by omega
        have q2 : (c : Int) ≤ 57 := by omega
        have q3 : IntKind.u8.wrap ((c : Int) - 48) = (D : Int) := by rw [IntKind.wrap_u8]; omega
        obtain ⟨M, hM⟩ : ∃ M : Nat, M = v * 16 := ⟨_, rfl⟩
        obtain ⟨N1, hN⟩ : ∃ N1 : Nat, N1 = M + D := ⟨_, rfl⟩
        have v1 : IntKind.u64.wrap ((v : Int) * 16) = (M : Int) := by rw [IntKind.wrap_u64]; omega
        have v2 : IntKind.u64.wrap ((M : Int) + (D : Int)) = (N1 : Int) := by rw [IntKind.wrap_u64]; omega
        have v3 : IntKind.u64.wrap (D : Int) = (D : Int) := by rw [IntKind.wrap_u64]; omega
        have v4 : IntKind.u8.wrap 16 = 16 := by decide
        have v5 : IntKind.u64.wrap 16 = 16 := by decide
        have x1 : ¬ ((D : Int) ≥ 16) := by omega
        have x2 : ¬ ((v : Int) ≥ 1152921504606846976) := by omega
        have x3 : ¬ ((N1 : Int) < (M : Int)) := by omega
        have x4 : ¬ ((N1 : Int) > 4294967295) := by omega
        have HN : Hid (puN s (j + 1) = N1 ∧ ∀ k, k < j + 1 → dgB (btA s k) < 16) := ⟨by rw [HS.out, ← hDe]; omega, fun k hk => by
          by_cases hkj : k = j
          · rw [hkj, hce, ← hDe]; omega
          · exact HX.out k hk hkj⟩
        clear hN hM hp hp7 hDe HS HX HD hve hce hlb
        go_wp2_with (first | (go_at_call 105; refine (kl _).mono ?_; rintro e w' ⟨rfl, hw'⟩; replace hw' := hw'.symm; subst hw'))
        go_roundw
        case rel => exact ⟨j + 1, by omega, by simp, by rw [HN.out.1], (by first | rfl | trivial), (by first | rfl | trivial), HN.out.2⟩
        case measure => simp [intOf]; omega
      · have qd : (c : Int) < 48 ∨ (57 < (c : Int) ∧ (48 : Int) ≤ (c : Int)) := by omega
        have q95 : ((c : Int) == 95) = true ∨ ((c : Int) == 95) = false := by cases ((c : Int) == 95) <;> simp
        by_cases hlet : 97 ≤ lowB c ∧ lowB c ≤ 102
        · have hc95 : c ≠ 95 := by
            intro h
            rw [h] at hlet
            exact absurd hlet.2 (by decide)
          have q95' := q95
          clear q95
          have q95 : ((c : Int) == 95) = false := by rw [beq_eq_false_iff_ne]; omega
          have hc48 : 57 < c := by
            apply Decidable.byContradiction
            intro h
            have := low_small (show c < 48 by omega)
            omega
          clear hc95 qd
          have qd : ¬ ((c : Int) ≤ 57) := by omega
          have qe : (48 : Int) ≤ (c : Int) := by omega
          clear hc48
          obtain ⟨D, hDe⟩ : ∃ D : Nat, D = dgB c := ⟨_, rfl⟩
          have hdg := dgB_let hdec hlet.1 hlet.2
          have hD16 : D < 16 := by omega
          obtain ⟨L, hL⟩ : ∃ L : Nat, L = lowB c := ⟨_, rfl⟩
          rw [← hL] at kl hlet hdg
          obtain ⟨L1, hL1⟩ : ∃ L1 : Nat, L1 = L - 97 := ⟨_, rfl⟩
          have q1 : (97 : Int) ≤ (L : Int) := by omega
          have q2 : (L : Int) ≤ 122 := by omega
          have q3 : IntKind.u8.wrap ((L : Int) - 97) = (L1 : Int) := by rw [IntKind.wrap_u8]; omega
          have q4 : IntKind.u8.wrap ((L1 : Int) + 10) = (D : Int) := by rw [IntKind.wrap_u8]; omega
          obtain ⟨M, hM⟩ : ∃ M : Nat, M = v * 16 := ⟨_, rfl⟩
          obtain ⟨N1, hN⟩ : ∃ N1 : Nat, N1 = M + D := ⟨_, rfl⟩
          have v1 : IntKind.u64.wrap ((v : Int) * 16) = (M : Int) := by rw [IntKind.wrap_u64]; omega
          have v2 : IntKind.u64.wrap ((M : Int) + (D : Int)) = (N1 : Int) := by rw [IntKind.wrap_u64]; omega
          have v3 : IntKind.u64.wrap (D : Int) = (D : Int) := by rw [IntKind.wrap_u64]; omega
          have v4 : IntKind.u8.wrap 16 = 16 := by decide
          have v5 : IntKind.u64.wrap 16 = 16 := by decide
          have x1 : ¬ ((D : Int) ≥ 16) := by omega
          have x2 : ¬ ((v : Int) ≥ 1152921504606846976) := by omega
          have x3 : ¬ ((N1 : Int) < (M : Int)) := by omega
          have x4 : ¬ ((N1 : Int) > 4294967295) := by omega
          have HN : Hid (puN s (j + 1) = N1 ∧ ∀ k, k < j + 1 → dgB (btA s k) < 16) := ⟨by rw [HS.out, ← hDe]; omega, fun k hk => by
            by_cases hkj : k = j
            · rw [hkj, hce, ← hDe]; omega
            · exact HX.out k hk hkj⟩
          clear hN hM hp hp7 hDe HS HX HD hve hce hlb hL hL1 hlet
          clear hdec hdg hb hD16 q95'
          go_upto_region 46 with (first | (go_at_call 105; refine (kl _).mono ?_; rintro e w' ⟨rfl, hw'⟩; replace hw' := hw'.symm; subst hw'))
          clear q1 q2 q3 q4 qd qe q95 kl
          have y1 : decide ((16 : Int) ≤ (D : Int)) = false := decide_eq_false (by omega)
          have y2 : decide ((1152921504606846976 : Int) ≤ (v : Int)) = false := decide_eq_false (by omega)
          have y3 : decide ((N1 : Int) < (M : Int)) = false := decide_eq_false (by omega)
          have y4 : decide ((4294967295 : Int) < (N1 : Int)) = false := decide_eq_false (by omega)
          clear h0 h00 hn hcj x1 x2 x3 x4
          go_upto_region 48 with fail
          go_upto_region 50 with fail
          go_wp2_with fail
          go_roundw
          case rel => exact ⟨j + 1, by omega, by simp, by rw [HN.out.1], (by first | rfl | trivial), (by first | rfl | trivial), HN.out.2⟩
          case measure => simp [intOf]; omega
          exfalso
          have q := of_decide_eq_false y3
          omega
        · have hdg := dgB_no hdec hlet
          obtain ⟨L, hL⟩ : ∃ L : Nat, L = lowB c := ⟨_, rfl⟩
          have HP : Hid (PuS s 0 (.iface 101 (.int .i64 2))) := PuS.bad (i := j) (by omega) (by rw [hce]; omega)
          rw [← hL] at kl hlet
          clear hp hp7 HS HX HD hve hce hlb
          have ql : (L : Int) < 97 ∨ (122 < (L : Int) ∧ (97 : Int) ≤ (L : Int)) ∨ ((97 : Int) ≤ (L : Int) ∧ (L : Int) ≤ 122 ∧ 102 < L) := by omega
          rcases ql with ql | ⟨ql, qm⟩ | ⟨ql, qm, qn⟩
          · rcases q95 with q95 | q95 <;> rcases qd with qd | ⟨qd, qe⟩
            all_goals
              go_wp2_with (first | (go_at_call 105; refine (kl _).mono ?_; rintro e w' ⟨rfl, hw'⟩; replace hw' := hw'.symm; subst hw'))
              refine bodyPost_ret (results_tmp2 rfl _ _ _) rfl ?_
              exact ⟨_, _, rfl, HP.out, HB.out⟩
          · rcases q95 with q95 | q95 <;> rcases qd with qd | ⟨qd, qe⟩
            all_goals
              go_wp2_with (first | (go_at_call 105; refine (kl _).mono ?_; rintro e w' ⟨rfl, hw'⟩; replace hw' := hw'.symm; subst hw'))
              refine bodyPost_ret (results_tmp2 rfl _ _ _) rfl ?_
              exact ⟨_, _, rfl, HP.out, HB.out⟩
          · obtain ⟨L1, hL1⟩ : ∃ L1 : Nat, L1 = L - 97 := ⟨_, rfl⟩
            obtain ⟨D, hD⟩ : ∃ D : Nat, D = L1 + 10 := ⟨_, rfl⟩
            have q3 : IntKind.u8.wrap ((L : Int) - 97) = (L1 : Int) := by rw [IntKind.wrap_u8]; omega
            have q4 : IntKind.u8.wrap ((L1 : Int) + 10) = (D : Int) := by rw [IntKind.wrap_u8]; omega
            have v4 : IntKind.u8.wrap 16 = 16 := by decide
            have x1 : (D : Int) ≥ 16 := by omega
            clear hD hL1 qn hL
            rcases q95 with q95 | q95 <;> rcases qd with qd | ⟨qd, qe⟩
            all_goals
              go_wp2_with (first | (go_at_call 105; refine (kl _).mono ?_; rintro e w' ⟨rfl, hw'⟩; replace hw' := hw'.symm; subst hw'))
              refine bodyPost_ret (results_tmp2 rfl _ _ _) rfl ?_
              exact ⟨_, _, rfl, HP.out, HB.out⟩
    · obtain rfl : n = j := by omega
      have HP : Hid (PuS s ((puN s n : Nat) : Int) .nilIface) := by
        unfold PuS
        have hc : ¬ (s.size = 0 ∨ ∃ j, j < s.size ∧ 16 ≤ dgB (btA s j)) := by
          rintro (h | ⟨k, h1, h2⟩)
          · omega
          · have := HD.out k (by omega); omega
        rw [if_neg hc, hn]
        exact ⟨rfl, rfl⟩
      go_wp2_with fail
      refine bodyPost_ret (results_tmp2 rfl _ _ _) rfl ?_
      exact ⟨_, _, rfl, HP.out, HB.out⟩
end Go.Proofs.YtbmaoiemgepppaaGreatDoor
/- strconv.ParseUint at base 16 and 32 bits, of 1 to 8 bytes; toError's contract is a hypothesis. -/
namespace Go.Proofs.YtbmaoiemgepppaaGreatDoor
set_option linter.unusedVariables false
set_option linter.unusedSimpArgs false
open Go Go.RowKit Go.Fl64

/-- the variable ErrSyntax holds an error or none -/
def SenS (w : World) : Prop := ∃ ev, w.cell? ⟨2, 0, none⟩ = some ev ∧ (ev = .nilIface ∨ ∃ te pe, ev = .iface te pe)
theorem SenS.later {w w' : World} (h : SenS w) (hb : Below w.heap.size w w') : SenS w' := by
  obtain ⟨ev, h1, h2⟩ := h
  exact ⟨ev, (hb.cell (World.block_lt_of_cell? _ _ h1)).trans h1, h2⟩
/-- what strconv.toError answers of a text that is no number: an error -/
def TeS : Prop := ∀ (s : ByteArray) (w : World), s.size ≤ 8 → SenS w →
    Calls Tryz.prog 33 #[.string ⟨#[80, 97, 114, 115, 101, 85, 105, 110, 116]⟩, .string s, .int .i64 16, .int .i64 32, .iface 101 (.int .i64 2)] w fun r w' => (∃ t p, r = .returned (.iface t p)) ∧ Below w.heap.size w w'
/-- the number that is read: nought where a byte is no digit -/
def puD (s : ByteArray) : Nat := if (∀ j, j < s.size → dgB (btA s j) < 16) then puN s s.size else 0
theorem PuS.d {s : ByteArray} {d : Int} {er : Value} (h : PuS s d er) (h0 : 0 < s.size) : d = ((puD s : Nat) : Int) ∧ (er = .nilIface ∨ er = .iface 101 (.int .i64 2)) := by
  unfold PuS at h
  unfold puD
  by_cases hc : ∃ j, j < s.size ∧ 16 ≤ dgB (btA s j)
  · rw [if_pos (Or.inr hc)] at h
    rw [if_neg (by obtain ⟨j, h1, h2⟩ := hc; intro h3; have := h3 j h1; omega)]
    exact ⟨h.1, Or.inr h.2⟩
  · have hn : ¬ (s.size = 0 ∨ ∃ j, j < s.size ∧ 16 ≤ dgB (btA s j)) := by
      rintro (h5 | h5)
      · omega
      · exact hc h5
    rw [if_neg hn] at h
    have hp : ∀ j, j < s.size → dgB (btA s j) < 16 := by
      intro j hj
      by_cases h5 : dgB (btA s j) < 16
      · exact h5
      · exact absurd ⟨j, hj, by omega⟩ hc
    rw [if_pos hp]
    exact ⟨h.1, Or.inl h.2⟩
theorem puD_lt (s : ByteArray) (hs : s.size ≤ 8) : puD s < 4294967296 := by
  unfold puD
  split
  · rename_i h
    have h1 := puN_lt h
    have h2 : 16 ^ s.size ≤ 16 ^ 8 := Nat.pow_le_pow_right (by decide) hs
    have h3 : (16 : Nat) ^ 8 = 4294967296 := by decide
    omega
  · decide

set_option maxRecDepth 200000 in
theorem spu (kt : TeS) (s : ByteArray) (w : World) (hs : s.size ≤ 8) (h0 : s.toList.isEmpty = false) (h00 : 0 < s.size) (hS : SenS w) :
    Calls Tryz.prog 34 #[.string s, .int .i64 16, .int .i64 32] w fun r w' => ∃ er, r = .returned (.tuple #[.int .u64 ((puD s : Nat) : Int), er]) ∧ (er = .nilIface ∨ ∃ t p, er = .iface t p) ∧ Below w.heap.size w w' := by
  have k := pu_1 s w hs h0 h00
  have kt' := fun w' => kt s w' hs
  have hd := fun d er (h : PuS s d er) => PuS.d h h00
  clear kt h0 hs
  generalize hD : puD s = D at *
  clear hD
  go_enter Tryz.func34, Tryz.ntmps34
  go_wp2_with fail
  refine k.mono ?_
  rintro r w1 ⟨d, er, rfl, hp, hb⟩
  obtain ⟨rfl, he⟩ := hd _ _ hp
  have HB : Hid (Below w.heap.size w w1) := hb
  have HS : Hid (SenS w1) := hS.later hb
  clear k hd hp hb hS
  rcases he with rfl | rfl
  · go_wp2_with fail
    refine bodyPost_ret (results_tmp2 rfl _ _ _) rfl ?_
    exact ⟨_, rfl, Or.inl rfl, HB.out⟩
  · go_wp2_with fail
    refine (kt' w1 HS.out).mono ?_
    rintro r w2 ⟨⟨t, p, rfl⟩, hb2⟩
    have HB2 : Hid (Below w.heap.size w w2) := HB.out.trans (hb2.mono HB.out.size)
    clear kt' hb2
    go_wp2_with fail
    refine bodyPost_ret (results_tmp2 rfl _ _ _) rfl ?_
    exact ⟨_, rfl, Or.inr ⟨t, p, rfl⟩, HB2.out⟩
end Go.Proofs.YtbmaoiemgepppaaGreatDoor
/- readDigits: a text cut into eights from its end, each read at base 16. -/
namespace Go.Proofs.YtbmaoiemgepppaaGreatDoor
set_option linter.unusedVariables false
set_option linter.unusedSimpArgs false
open Go Go.RowKit Go.Fl64

/-- a row that the call has made, other blocks beside it -/
structure MkG (w wr : World) (n : Nat) (f : Nat → Nat) : Prop where
  below : Below w.heap.size w wr
  size : w.heap.size < wr.heap.size
  row : wr.rowIs w.heap.size 49 n (fun i => .int .u32 (f i : Nat))
theorem MkG.start (w : World) (n : Nat) : MkG w (w.alloc (.cells (madeCells #[.int .u32 0] n) 49)) n (fun _ => 0) :=
  ⟨(Below.refl _ _).alloc (Nat.le_refl _) _, by simp, World.rowIs_made w _ n 49⟩
theorem MkG.later {w wr w' : World} {n : Nat} {f : Nat → Nat} (h : MkG w wr n f) (hb : Below wr.heap.size wr w') : MkG w w' n f :=
  ⟨below_step h.below hb, Nat.lt_of_lt_of_le h.size hb.size, h.row.of_block (hb.block _ h.size)⟩
theorem MkG.cell {w wr : World} {n : Nat} {f : Nat → Nat} (h : MkG w wr n f) {i : Nat} (hi : i < n) : wr.cell? ⟨w.heap.size, i, none⟩ = some (.int .u32 (f i : Nat)) := h.row.cell hi
theorem MkG.frozen {w wr : World} {n : Nat} {f : Nat → Nat} (h : MkG w wr n f) (i : Nat) : wr.frozen? ⟨w.heap.size, i, none⟩ = false := h.row.frozen i
theorem MkG.set {w wr : World} {n : Nat} {f : Nat → Nat} (h : MkG w wr n f) (i d : Nat) : MkG w (wr.setCell ⟨w.heap.size, i, none⟩ (.int .u32 (d : Nat))) n (fun j => if j = i then d else f j) :=
  ⟨h.below.setCell (Nat.le_refl _) _, by simp [h.size], (h.row.set i _).congr (fun j _ => by split <;> rfl)⟩
theorem MkG.congr {w wr : World} {n : Nat} {f g : Nat → Nat} (h : MkG w wr n f) (e : ∀ i, i < n → f i = g i) : MkG w wr n g :=
  ⟨h.below, h.size, h.row.congr (fun i hi => by rw [e i hi])⟩
/-- the i-th piece of a text, from its end -/
def pcS (s : ByteArray) (i : Nat) : ByteArray := s.extract (s.size - 8 * i - 8) (s.size - 8 * i)
theorem pcS_size (s : ByteArray) (i : Nat) : (pcS s i).size ≤ 8 := by
  unfold pcS; rw [ByteArray.size_extract]; omega
theorem pcS_pos {s : ByteArray} {i : Nat} (h : 8 * i < s.size) : 0 < (pcS s i).size := by
  unfold pcS; rw [ByteArray.size_extract]; omega
theorem toList_some {s : ByteArray} (h : 0 < s.size) : s.toList.isEmpty = false := by
  rw [ByteArray.toList_eq, List.isEmpty_eq_false_iff]
  intro h5
  have h6 := congrArg List.length h5
  have h7 : s.data.toList.length = s.size := by rw [Array.length_toList]; rfl
  rw [h7, List.length_nil] at h6
  omega
theorem rd_round {s : ByteArray} {w wr : World} {m j : Nat} {q : Int} (hM : MkG w wr m (fun t => if t < j then puD (pcS s t) else 0)) (hq : q = (puD (pcS s j) : Nat)) (hj : j < m) :
    (∃ j_1 : Nat, j_1 ≤ m ∧ Value.int .i64 ((j : Int) + 1) = Value.int .i64 (j_1 : Int) ∧
      MkG w (wr.setCell ⟨w.heap.size, j, none⟩ (Value.int .u32 q)) m fun t => if t < j_1 then puD (pcS s t) else 0) ∧
    m - (intOf (Value.int .i64 ((j : Int) + 1))).toNat < m - (intOf (Value.int .i64 (j : Int))).toNat := by
  subst hq
  refine ⟨⟨j + 1, by omega, by simp, (hM.set j _).congr fun i hi => ?_⟩, by simp [intOf]; omega⟩
  by_cases e : i = j
  · subst e
    rw [if_pos rfl, if_pos (by omega)]
  · rw [if_neg e]
    by_cases e2 : i < j
    · rw [if_pos e2, if_pos (by omega)]
    · rw [if_neg e2, if_neg (by omega)]

set_option maxRecDepth 200000 in
theorem rdig (kt : TeS) (s : ByteArray) (w : World) (hs : s.size ≤ 1099511627776) (hS : SenS w) (m : Nat) (hm : (s.size + 7) / 8 = m) :
    Calls Tryz.prog 12 #[.string s] w fun r w' => r = .returned (.slice (some ⟨w.heap.size, 0, none⟩) m m) ∧ MkG w w' m (fun t => puD (pcS s t)) := by
  generalize hn : s.size = n at *
  have hq : ((n : Int) + 8 - 1).tdiv 8 = (m : Int) := by rw [Int.tdiv_eq_ediv_of_nonneg (by omega)]; omega
  have hmk := run_make_row' (P := Tryz.prog) 22 49 (.int .u32 0) 4 Tryz.underlying22 Tryz.info49 rfl .i64 .i64 m (by omega) (by omega)
  have HN : Hid (s.size = n) := hn
  have HM0 : Hid ((n + 7) / 8 = m) := hm
  have hmb : m ≤ 1099511627776 := by omega
  clear hm
  go_enter Tryz.func12, Tryz.ntmps12
  go_wp2_with fail
  clear hmk
  go_loopw [16] (fun i wr => ∃ j : Nat, j ≤ m ∧ i = .int .i64 j ∧ MkG w wr m (fun t => if t < j then puD (pcS s t) else 0)) (fun i _ => m - (intOf i).toNat)
  case atStart => exact ⟨0, Nat.zero_le _, rfl, (MkG.start w _).congr fun i hi => by rw [if_neg (by omega)]⟩
  case round =>
    obtain ⟨j, hj, rfl, hM⟩ := hrel
    by_cases hjm : j < m
    · have hM0 := HM0.out
      have k := spu kt (pcS s j) wr (pcS_size s j) (toList_some (pcS_pos (by omega))) (pcS_pos (by omega)) (hS.later hM.below)
      have HM : Hid (MkG w wr m (fun t => if t < j then puD (pcS s t) else 0)) := hM
      have HD : Hid (puD (pcS s j) < 4294967296) := puD_lt _ (pcS_size s j)
      obtain ⟨e, he⟩ : ∃ e : Nat, e = n - 8 * j := ⟨_, rfl⟩
      obtain ⟨lo, hlo⟩ : ∃ lo : Nat, lo = e - 8 := ⟨_, rfl⟩
      have hp : s.extract lo e = pcS s j := by unfold pcS; rw [hn, hlo, he]
      have q1 : (n : Int) - 8 * j = (e : Int) := by omega
      have q3 : (0 : Int) ≤ e ∧ (e : Int) ≤ (n : Int) := by omega
      have q4 : (0 : Int) ≤ lo ∧ (lo : Int) ≤ (e : Int) := by omega
      have q5 : (j : Int) < (m : Int) := by omega
      have q6 : e ≤ 1099511627776 := by omega
      have q2 : ((e : Int) - 8 = (lo : Int) ∧ (lo : Int) > 0) ∨ (¬ (e : Int) - 8 > 0 ∧ lo = 0) := by omega
      clear hlo he hM hM0
      generalize hD : puD (pcS s j) = D at *
      have HDD : Hid (puD (pcS s j) = D) := hD
      clear hD
      rcases q2 with ⟨q2, q7⟩ | ⟨q2, rfl⟩
      · go_wp2_with fail
        refine k.mono ?_
        rintro r w1 ⟨er, rfl, her, hb⟩
        have hM1 := HM.out.later hb
        have g2 := hM1.cell (i := j) (by omega)
        have g3 := hM1.frozen j
        rw [if_neg (by omega)] at g2
        have HM1 : Hid (MkG w w1 m (fun t => if t < j then puD (pcS s t) else 0)) := hM1
        have q8 : (D : Int) % 4294967296 = (D : Int) := by have := HD.out; omega
        clear hM1 hb k her
        go_wp2_with fail
        exact rd_round HM1.out (by rw [HDD.out]) (by omega)
      · go_wp2_with fail
        refine k.mono ?_
        rintro r w1 ⟨er, rfl, her, hb⟩
        have hM1 := HM.out.later hb
        have g2 := hM1.cell (i := j) (by omega)
        have g3 := hM1.frozen j
        rw [if_neg (by omega)] at g2
        have HM1 : Hid (MkG w w1 m (fun t => if t < j then puD (pcS s t) else 0)) := hM1
        have q8 : (D : Int) % 4294967296 = (D : Int) := by have := HD.out; omega
        clear hM1 hb k her
        go_wp2_with fail
        exact rd_round HM1.out (by rw [HDD.out]) (by omega)
    · obtain rfl : j = m := by omega
      have q5 : ¬ (j : Int) < (j : Int) := by omega
      have HM : Hid (MkG w wr j (fun t => puD (pcS s t))) := hM.congr fun i hi => if_pos hi
      clear hM
      go_wp2_with fail
      go_ret
      exact ⟨rfl, HM.out⟩
end Go.Proofs.YtbmaoiemgepppaaGreatDoor
/- strings.Cut at one byte; the contract of Index is a hypothesis. -/
namespace Go.Proofs.YtbmaoiemgepppaaGreatDoor
set_option linter.unusedVariables false
set_option linter.unusedSimpArgs false
open Go Go.RowKit Go.Fl64

/-- what internal/stringslite.Index answers of one byte -/
def IxS : Prop := ∀ (s : ByteArray) (w : World),
    Calls Tryz.prog 64 #[.string s, .string ⟨#[112]⟩] w fun e w' => e = .returned (.int .i64 (Lib.indexByte s.data.toList 112)) ∧ w' = w

theorem below_drewN (w : World) (n : Nat) : Below w.heap.size w (w.drewN n) := ⟨rfl, rfl, rfl, Nat.le_refl _, fun _ _ => rfl⟩
set_option maxRecDepth 200000 in
theorem lcut_1 (ki : IxS) (s : ByteArray) (w : World) (hs : s.size ≤ 1099511627776) (i : Nat) (hi : Lib.indexByte s.data.toList 112 = (i : Int)) (hi2 : i < s.size) :
    Calls Tryz.prog 31 #[.string s, .string ⟨#[112]⟩] w fun r w' => r = .returned (.tuple #[.string (s.extract 0 i), .string (s.extract (i + 1) s.size), .bool true]) ∧ Below w.heap.size w w' := by
  have k := ki s
  clear ki
  rw [hi] at k
  have q0 : (i : Int) ≥ 0 := by omega
  clear hi
  go_enter Tryz.func31, Tryz.ntmps31
  go_wp2_with (first | (go_at_call 64; refine (k _).mono ?_; rintro e w' ⟨rfl, hw'⟩; replace hw' := hw'.symm; subst hw') | fail)
  have q1 : (0 : Int) ≤ i ∧ (i : Int) ≤ (s.size : Int) := by omega
  have q2 : (0 : Int) ≤ (i : Int) + 1 ∧ (i : Int) + 1 ≤ (s.size : Int) := by omega
  have q3 : ((i : Int) + 1).toNat = i + 1 := by omega
  go_quiet (fail)
  have HB : Hid (Below w.heap.size w (w.drewN nq)) := below_drewN w nq
  generalize w.drewN nq = wd at *
  go_wp2_with fail
  refine bodyPost_ret (results_tmp3 rfl _ _ _) rfl ?_
  exact ⟨rfl, HB.out⟩
set_option maxRecDepth 200000 in
theorem lcut_2 (ki : IxS) (s : ByteArray) (w : World) (hi : Lib.indexByte s.data.toList 112 = -1) :
    Calls Tryz.prog 31 #[.string s, .string ⟨#[112]⟩] w fun r w' => r = .returned (.tuple #[.string s, .string ⟨#[]⟩, .bool false]) ∧ Below w.heap.size w w' := by
  have k := ki s
  clear ki
  rw [hi] at k
  clear hi
  go_enter Tryz.func31, Tryz.ntmps31
  go_wp2_with (first | (go_at_call 64; refine (k _).mono ?_; rintro e w' ⟨rfl, hw'⟩; replace hw' := hw'.symm; subst hw') | fail)
  refine bodyPost_ret (results_tmp3 rfl _ _ _) rfl ?_
  exact ⟨rfl, Below.refl _ _⟩

/-- a text cut at the first 'p': what stands ahead of it -/
def cutA (s : ByteArray) : ByteArray := if Lib.indexByte s.data.toList 112 < 0 then s else s.extract 0 (Lib.indexByte s.data.toList 112).toNat
/-- and what stands behind it -/
def cutB (s : ByteArray) : ByteArray := if Lib.indexByte s.data.toList 112 < 0 then ⟨#[]⟩ else s.extract ((Lib.indexByte s.data.toList 112).toNat + 1) s.size
theorem ixb (l : List UInt8) (c : UInt8) : Lib.indexByte l c = -1 ∨ ∃ i : Nat, Lib.indexByte l c = (i : Int) ∧ i < l.length := by
  induction l with
  | nil => left; rfl
  | cons b l ih =>
    unfold Lib.indexByte
    by_cases h1 : (b == c) = true
    · rw [if_pos h1]; right; exact ⟨0, rfl, by simp⟩
    · rw [if_neg h1]
      rcases ih with h2 | ⟨i, h2, h3⟩
      · left; rw [h2]; rfl
      · right
        refine ⟨i + 1, ?_, by rw [List.length_cons]; omega⟩
        rw [h2, if_neg (by rw [beq_iff_eq]; omega)]
        omega
theorem lcut (ki : IxS) (s : ByteArray) (w : World) (hs : s.size ≤ 1099511627776) :
    Calls Tryz.prog 31 #[.string s, .string ⟨#[112]⟩] w fun r w' => ∃ b, r = .returned (.tuple #[.string (cutA s), .string (cutB s), .bool b]) ∧ Below w.heap.size w w' := by
  rcases ixb s.data.toList 112 with h | ⟨i, h, h2⟩
  · refine (lcut_2 ki s w h).mono ?_
    rintro r w' ⟨rfl, hb⟩
    refine ⟨false, ?_, hb⟩
    unfold cutA cutB
    rw [h, if_pos (by decide), if_pos (by decide)]
  · have h3 : s.data.toList.length = s.size := by rw [Array.length_toList]; rfl
    refine (lcut_1 ki s w hs i h (by omega)).mono ?_
    rintro r w' ⟨rfl, hb⟩
    refine ⟨true, ?_, hb⟩
    unfold cutA cutB
    rw [h, if_neg (by omega), if_neg (by omega), Int.toNat_natCast]
set_option maxRecDepth 200000 in
theorem scut (ki : IxS) (s : ByteArray) (w : World) (hs : s.size ≤ 1099511627776) :
    Calls Tryz.prog 9 #[.string s, .string ⟨#[112]⟩] w fun r w' => ∃ b, r = .returned (.tuple #[.string (cutA s), .string (cutB s), .bool b]) ∧ Below w.heap.size w w' := by
  have k := lcut ki s w hs
  clear ki
  generalize cutA s = A at *
  generalize cutB s = C at *
  go_enter Tryz.func9, Tryz.ntmps9
  go_wp2_with fail
  refine k.mono ?_
  rintro r w1 ⟨b, rfl, hb⟩
  have HB : Hid (Below w.heap.size w w1) := hb
  clear k hb
  go_wp2_with fail
  refine bodyPost_ret (results_tmp3 rfl _ _ _) rfl ?_
  exact ⟨_, rfl, HB.out⟩
theorem cutA_size (s : ByteArray) : (cutA s).size ≤ s.size := by
  unfold cutA
  split
  · exact Nat.le_refl _
  · rw [ByteArray.size_extract]; omega
theorem cutB_size (s : ByteArray) : (cutB s).size ≤ s.size := by
  unfold cutB
  split
  · exact Nat.zero_le _
  · rw [ByteArray.size_extract]; omega
end Go.Proofs.YtbmaoiemgepppaaGreatDoor
/- The program's Read, walked: what it calls is given by hypotheses. -/
namespace Go.Proofs.YtbmaoiemgepppaaGreatDoor
set_option linter.unusedVariables false
set_option linter.unusedSimpArgs false
open Go Go.RowKit Go.Fl64

/-- the world with the box of the answer laid -/
theorem box1 (w : World) {W : World} (hW : W = w.alloc (.cells #[.bool false, .slice none 0 0, .int .i64 0] 24)) :
    W.heap[w.heap.size]? = some (.cells #[.bool false, .slice none 0 0, .int .i64 0] 24 (0, 0)) ∧ W.heap.size = w.heap.size + 1 ∧ Below w.heap.size w W := by
  subst hW
  exact ⟨heap_alloc_new _ _, by simp, (Below.refl _ _).alloc (Nat.le_refl _) _⟩

set_option maxRecDepth 200000 in
theorem pread_long (s : ByteArray) (w : World) (h : (s.size : Int) > 16392) (hs : s.size ≤ 9223372036854775807) :
    Calls Tryz.prog 4 #[.string s] w fun r w' => r = .returned (.tuple #[.agg #[.bool false, .slice none 0 0, .int .i64 0], .int .i64 3]) ∧ Below w.heap.size w w' := by
  obtain ⟨W, hW⟩ : ∃ W, W = w.alloc (.cells #[.bool false, .slice none 0 0, .int .i64 0] 24) := ⟨_, rfl⟩
  obtain ⟨hA, hsz, hB⟩ := box1 w hW
  have HA : Hid (W.heap[w.heap.size]? = some (.cells #[.bool false, .slice none 0 0, .int .i64 0] 24 (0, 0)) ∧ Below w.heap.size w W) := ⟨hA, hB⟩
  obtain ⟨⟨x1, x2, x3⟩, x4, x5, x6⟩ := box_cells hA
  clear hA hsz hB
  go_enter Tryz.func4, Tryz.ntmps4
  go_wp2_with fail
  rw [← hW]
  refine bodyPost_ret (results_cell_tmp_row rfl _ _ w.heap.size 24 #[.bool false, .slice none 0 0, .int .i64 0] (0, 0) _ rfl HA.out.1 Tryz.underlying24 rfl Tryz.info24) rfl ?_
  exact ⟨rfl, HA.out.2⟩

set_option maxHeartbeats 4000000 in
set_option maxRecDepth 200000 in
theorem pread_1 (s B1 D E S : ByteArray) (neg : Bool) (v : Int) (nx : Nat) (w : World) (h : ¬ (s.size : Int) > 16392) (RD RT : World → Value → Prop)
    (kp : ∀ W, Below w.heap.size w W → Calls Tryz.prog 8 #[.string s, .string ⟨#[45]⟩] W fun r w' => r = .returned (.tuple #[.string B1, .bool neg]) ∧ w' = W)
    (kc : ∀ W, Below w.heap.size w W → Calls Tryz.prog 9 #[.string B1, .string ⟨#[112]⟩] W fun r w' => ∃ b, r = .returned (.tuple #[.string D, .string E, .bool b]) ∧ Below W.heap.size W w')
    (ka : ∀ W, Below w.heap.size w W → Calls Tryz.prog 10 #[.string E] W fun r w' => r = .returned (.tuple #[.int .i64 v, .nilIface]) ∧ Below W.heap.size W w')
    (kr : ∀ W, Below w.heap.size w W → w.heap.size < W.heap.size → Calls Tryz.prog 12 #[.string D] W fun r w' => ∃ V0, r = .returned V0 ∧ RD w' V0 ∧ Below W.heap.size W w')
    (kt : ∀ W V0, RD W V0 → Calls Tryz.prog 11 #[V0] W fun r w' => ∃ ao cap, r = .returned (.slice ao nx cap) ∧ RT w' (.slice ao nx cap) ∧ w' = W)
    (ks : ∀ W ao cap, Below w.heap.size w W → RT W (.slice ao nx cap) → Calls Tryz.prog 13 #[.agg #[.bool neg, .slice ao nx cap, .int .i64 v]] W fun r w' => r = .returned (.string S) ∧ Below W.heap.size W w')
    (kl : ∀ W W' V1, RT W V1 → Below W.heap.size W W' → RT W' V1)
    (kl2 : ∀ W V1 a b c, RT W V1 → RT (((W.setCell ⟨w.heap.size, 0, none⟩ a).setCell ⟨w.heap.size, 1, none⟩ b).setCell ⟨w.heap.size, 2, none⟩ c) V1) :
    Calls Tryz.prog 4 #[.string s] w fun r w' => (if S = s then ∃ ao cap, r = .returned (.tuple #[.agg #[.bool neg, .slice ao nx cap, .int .i64 v], .int .i64 0]) ∧ RT w' (.slice ao nx cap) else r = .returned (.tuple #[.agg #[.bool false, .slice none 0 0, .int .i64 0], .int .i64 3])) ∧ Below w.heap.size w w' := by
  obtain ⟨W, hW⟩ : ∃ W, W = w.alloc (.cells #[.bool false, .slice none 0 0, .int .i64 0] 24) := ⟨_, rfl⟩
  obtain ⟨hA, hsz, hB⟩ := box1 w hW
  have HA : Hid (W.heap[w.heap.size]? = some (.cells #[.bool false, .slice none 0 0, .int .i64 0] 24 (0, 0)) ∧ W.heap.size = w.heap.size + 1 ∧ Below w.heap.size w W) := ⟨hA, hsz, hB⟩
  have kp1 := kp W hB
  have kc1 := kc W hB
  clear hA hsz hB kp kc
  go_enter Tryz.func4, Tryz.ntmps4
  go_wp2_with fail
  rw [← hW]
  clear hW
  refine kp1.mono ?_
  rintro r w1 ⟨rfl, hw⟩
  replace hw := hw.symm
  subst hw
  clear kp1
  go_wp2_with fail
  refine kc1.mono ?_
  rintro r w1 ⟨b, rfl, hb⟩
  have HB1 : Hid (Below W.heap.size W w1) := hb
  have ka1 := ka w1 (below_step HA.out.2.2 hb)
  clear kc1 hb ka
  go_wp2_with fail
  refine ka1.mono ?_
  rintro r w2 ⟨rfl, hb⟩
  have HB2 : Hid (Below W.heap.size W w2) := below_step HB1.out hb
  have kr1 := kr w2 (below_step HA.out.2.2 HB2.out) (by have := HB2.out.size; have := HA.out.2.1; omega)
  clear ka1 hb kr HB1
  go_wp2_with fail
  refine kr1.mono ?_
  rintro r w3 ⟨V0, rfl, hR, hb⟩
  have HB3 : Hid (Below W.heap.size W w3) := below_step HB2.out hb
  have kt1 := kt w3 V0 hR
  clear kr1 hb hR kt HB2
  go_wp2_with fail
  refine kt1.mono ?_
  rintro r w4 ⟨ao, cap, rfl, hR, hw⟩
  replace hw := hw.symm
  subst hw
  clear kt1
  have HR : Hid (RT w3 (.slice ao nx cap)) := hR
  clear hR
  obtain ⟨W4, hW4⟩ : ∃ W4, W4 = w3.alloc (.cells #[.bool neg, .slice ao nx cap, .int .i64 v] 24) := ⟨_, rfl⟩
  have hb4 : Below w3.heap.size w3 W4 := by rw [hW4]; exact (Below.refl _ _).alloc (Nat.le_refl _) _
  have hn4 : W4.heap[w3.heap.size]? = some (.cells #[.bool neg, .slice ao nx cap, .int .i64 v] 24 (0, 0)) := by rw [hW4]; exact heap_alloc_new _ _
  have hz4 : W4.heap.size = w3.heap.size + 1 := by rw [hW4]; simp
  have ks1 := ks W4 ao cap (below_step (below_step HA.out.2.2 HB3.out) hb4) (kl _ _ _ HR.out hb4)
  have H4 : Hid (Below w3.heap.size w3 W4 ∧ W4.heap[w3.heap.size]? = some (.cells #[.bool neg, .slice ao nx cap, .int .i64 v] 24 (0, 0)) ∧ W4.heap.size = w3.heap.size + 1) := ⟨hb4, hn4, hz4⟩
  clear hb4 hn4 hz4 ks
  go_wp2_with fail
  rw [← hW4]
  clear hW4
  refine ks1.mono ?_
  rintro r w5 ⟨rfl, hb⟩
  have HB5 : Hid (Below W4.heap.size W4 w5) := hb
  have HB6 : Hid (Below W.heap.size W w5) := below_step (below_step HB3.out H4.out.1) hb
  have hbx := box_later H4.out.2.1 hb (by have := H4.out.2.2; omega)
  have hrs := box_later HA.out.1 HB6.out (by have := HA.out.2.1; omega)
  have HX : Hid (w5.heap[w.heap.size]? = some (.cells #[.bool false, .slice none 0 0, .int .i64 0] 24 (0, 0))) := hrs
  obtain ⟨⟨y1, y2, y3⟩, -⟩ := box_cells hbx
  obtain ⟨⟨x1, x2, x3⟩, x4, x5, x6⟩ := box_cells hrs
  clear ks1 hb hbx hrs
  by_cases hS : S = s
  · subst hS
    go_wp2_with fail
    refine bodyPost_ret (results_cell_tmp_row rfl _ _ w.heap.size 24 #[.bool neg, .slice ao nx cap, .int .i64 v] (0, 0) _ rfl (store3 _ _ _ HX.out) Tryz.underlying24 rfl Tryz.info24) rfl ?_
    have hb6 := below_step HA.out.2.2 HB6.out
    exact ⟨⟨ao, cap, rfl, kl2 _ _ _ _ _ (kl _ _ _ HR.out (below_step H4.out.1 HB5.out))⟩, below_store3 hb6 (Nat.le_refl _) _ _ _⟩
  · have hS2 : (!S.toList == s.toList) = true := by
      rw [ByteArray.toList_eq, ByteArray.toList_eq]
      simp only [Bool.not_eq_true', beq_eq_false_iff_ne, ne_eq]
      intro h5
      apply hS
      cases S; cases s
      exact congrArg ByteArray.mk (Array.toList_inj.1 h5)
    have HS : Hid (¬ S = s) := hS
    clear hS
    go_wp2_with fail
    refine bodyPost_ret (results_cell_tmp_row rfl _ _ w.heap.size 24 #[.bool false, .slice none 0 0, .int .i64 0] (0, 0) _ rfl (store3 _ _ _ HX.out) Tryz.underlying24 rfl Tryz.info24) rfl ?_
    exact ⟨rfl, below_store3 (below_step HA.out.2.2 HB6.out) (Nat.le_refl _) _ _ _⟩

set_option maxHeartbeats 4000000 in
set_option maxRecDepth 200000 in
theorem pread_2 (s B1 D E : ByteArray) (neg : Bool) (w : World) (h : ¬ (s.size : Int) > 16392)
    (kp : ∀ W, Below w.heap.size w W → Calls Tryz.prog 8 #[.string s, .string ⟨#[45]⟩] W fun r w' => r = .returned (.tuple #[.string B1, .bool neg]) ∧ w' = W)
    (kc : ∀ W, Below w.heap.size w W → Calls Tryz.prog 9 #[.string B1, .string ⟨#[112]⟩] W fun r w' => ∃ b, r = .returned (.tuple #[.string D, .string E, .bool b]) ∧ Below W.heap.size W w')
    (ka : ∀ W, Below w.heap.size w W → Calls Tryz.prog 10 #[.string E] W fun r w' => ∃ v t p, r = .returned (.tuple #[.int .i64 v, .iface t p]) ∧ Below W.heap.size W w') :
    Calls Tryz.prog 4 #[.string s] w fun r w' => r = .returned (.tuple #[.agg #[.bool false, .slice none 0 0, .int .i64 0], .int .i64 3]) ∧ Below w.heap.size w w' := by
  obtain ⟨W, hW⟩ : ∃ W, W = w.alloc (.cells #[.bool false, .slice none 0 0, .int .i64 0] 24) := ⟨_, rfl⟩
  obtain ⟨hA, hsz, hB⟩ := box1 w hW
  have HA : Hid (W.heap[w.heap.size]? = some (.cells #[.bool false, .slice none 0 0, .int .i64 0] 24 (0, 0)) ∧ W.heap.size = w.heap.size + 1 ∧ Below w.heap.size w W) := ⟨hA, hsz, hB⟩
  have kp1 := kp W hB
  have kc1 := kc W hB
  clear hA hsz hB kp kc
  go_enter Tryz.func4, Tryz.ntmps4
  go_wp2_with fail
  rw [← hW]
  clear hW
  refine kp1.mono ?_
  rintro r w1 ⟨rfl, hw⟩
  replace hw := hw.symm
  subst hw
  clear kp1
  go_wp2_with fail
  refine kc1.mono ?_
  rintro r w1 ⟨b, rfl, hb⟩
  have HB1 : Hid (Below W.heap.size W w1) := hb
  have ka1 := ka w1 (below_step HA.out.2.2 hb)
  clear kc1 hb ka
  go_wp2_with fail
  refine ka1.mono ?_
  rintro r w5 ⟨v, t, p, rfl, hb⟩
  have HB6 : Hid (Below W.heap.size W w5) := below_step HB1.out hb
  have hrs := box_later HA.out.1 HB6.out (by have := HA.out.2.1; omega)
  have HX : Hid (w5.heap[w.heap.size]? = some (.cells #[.bool false, .slice none 0 0, .int .i64 0] 24 (0, 0))) := hrs
  obtain ⟨⟨x1, x2, x3⟩, x4, x5, x6⟩ := box_cells hrs
  clear ka1 hb hrs HB1
  go_wp2_with fail
  refine bodyPost_ret (results_cell_tmp_row rfl _ _ w.heap.size 24 #[.bool false, .slice none 0 0, .int .i64 0] (0, 0) _ rfl (store3 _ _ _ HX.out) Tryz.underlying24 rfl Tryz.info24) rfl ?_
  exact ⟨rfl, below_store3 (below_step HA.out.2.2 HB6.out) (Nat.le_refl _) _ _ _⟩
end Go.Proofs.YtbmaoiemgepppaaGreatDoor
/- Numbers written in base 16. -/
namespace Go.Proofs.YtbmaoiemgepppaaGreatDoor
set_option linter.unusedVariables false
set_option linter.unusedSimpArgs false
open Go.RowKit

/-- a number's digits in base 16, the first ahead; none for 0 -/
def hexN (v : Nat) : List UInt8 := if h : v = 0 then [] else hexN (v / 16) ++ [UInt8.ofNat (hx (v % 16))]
termination_by v
decreasing_by omega
theorem hexN_zero : hexN 0 = [] := by rw [hexN]; rfl
theorem hexN_pos {v : Nat} (h : v ≠ 0) : hexN v = hexN (v / 16) ++ [UInt8.ofNat (hx (v % 16))] := by rw [hexN, dif_neg h]
theorem hexN_step {v d : Nat} (hd : d < 16) (h : v * 16 + d ≠ 0) : hexN (v * 16 + d) = hexN v ++ [UInt8.ofNat (hx d)] := by
  rw [hexN_pos h, show (v * 16 + d) / 16 = v by omega, show (v * 16 + d) % 16 = d by omega]
theorem hexN_nil {v : Nat} : hexN v = [] ↔ v = 0 := by
  constructor
  · intro h
    by_cases h0 : v = 0
    · exact h0
    · rw [hexN_pos h0] at h; simp at h
  · rintro rfl; exact hexN_zero
theorem hexN_len (k : Nat) : ∀ v, v < 16 ^ k → (hexN v).length ≤ k := by
  induction k with
  | zero => intro v h; have h0 : v = 0 := by simpa using h
            subst h0; rw [hexN_zero]; simp
  | succ k ih =>
    intro v h
    by_cases h0 : v = 0
    · subst h0; rw [hexN_zero]; simp
    · rw [hexN_pos h0, List.length_append, List.length_singleton]
      have := ih (v / 16) (by rw [Nat.pow_succ] at h; omega)
      omega
theorem hexL_succ (u j : Nat) : hexL u (j + 1) = hexL (u / 16) j ++ [UInt8.ofNat (hx (u % 16))] := by
  unfold hexL
  rw [List.range_succ, List.map_append]
  congr 1
  · refine List.map_congr_left fun i hi => ?_
    have : i < j + 1 := List.mem_range.1 hi
    rw [show j + 1 - i = (j - i) + 1 by omega, Nat.pow_succ, Nat.mul_comm, Nat.div_div_eq_div_mul]
  · simp
theorem hexL_zero (u : Nat) : hexL u 0 = [UInt8.ofNat (hx (u % 16))] := by simp [hexL, List.range_succ]
/-- k digits more, behind a number that is not 0 -/
theorem hexN_more (k : Nat) : ∀ v d, v ≠ 0 → d < 16 ^ (k + 1) → hexN (v * 16 ^ (k + 1) + d) = hexN v ++ hexL d k := by
  induction k with
  | zero =>
    intro v d hv hd
    rw [hexL_zero, show (16 : Nat) ^ (0 + 1) = 16 by rfl]
    have hd' : d < 16 := by simpa using hd
    rw [hexN_step hd' (by omega), Nat.mod_eq_of_lt hd']
  | succ k ih =>
    intro v d hv hd
    rw [hexL_succ, ← List.append_assoc, ← ih v (d / 16) hv (by rw [Nat.pow_succ] at hd; omega)]
    have e : v * 16 ^ (k + 1 + 1) + d = (v * 16 ^ (k + 1) + d / 16) * 16 + d % 16 := by
      rw [Nat.pow_succ 16 (k + 1), Nat.add_mul, ← Nat.mul_assoc]
      omega
    rw [e]
    refine hexN_step (by omega) ?_
    have : 0 < v * 16 ^ (k + 1) := Nat.mul_pos (by omega) (Nat.pow_pos (by omega))
    omega
/-- the digits of a number that is not 0, as FormatUint tells them -/
theorem hexL_hexN : ∀ (j u : Nat), u / 16 ^ j < 16 → u ≠ 0 → (j = 0 ∨ 16 ≤ u / 16 ^ (j - 1)) → hexL u j = hexN u
  | 0, u, h, h0, _ => by
    have h' : u < 16 := by simpa using h
    rw [hexL_zero, hexN_pos h0, show u / 16 = 0 by omega, hexN_zero]; rfl
  | j + 1, u, h, h0, h1 => by
    rcases h1 with h1 | h1
    · omega
    · rw [Nat.add_sub_cancel] at h1
      have h2 : 16 ≤ u := Nat.le_trans h1 (Nat.div_le_self _ _)
      rw [hexL_succ, hexN_pos h0, hexL_hexN j (u / 16) (by rw [Nat.div_div_eq_div_mul, Nat.mul_comm, ← Nat.pow_succ]; exact h) (by omega)]
      cases j with
      | zero => exact .inl rfl
      | succ j =>
        refine .inr ?_
        rw [Nat.add_sub_cancel, Nat.div_div_eq_div_mul, Nat.mul_comm, ← Nat.pow_succ]
        exact h1
theorem hexL_lead {u j : Nat} (h : u < 16 ^ (j + 1)) : hexL u (j + 1) = 48 :: hexL u j := by
  unfold hexL
  rw [List.range_succ_eq_map (n := j + 1), List.map_cons, List.map_map]
  congr 1
  · rw [Nat.sub_zero, Nat.div_eq_of_lt h]; rfl
  · refine List.map_congr_left fun i hi => ?_
    simp only [Function.comp]
    rw [show j + 1 - (i + 1) = j - i by omega]
/-- noughts ahead -/
theorem hexL_zeros (k : Nat) : ∀ u j, u < 16 ^ (j + 1) → List.replicate k 48 ++ hexL u j = hexL u (j + k) := by
  induction k with
  | zero => intro u j _; rfl
  | succ k ih =>
    intro u j h
    rw [List.replicate_succ', List.append_assoc, List.singleton_append, ← hexL_lead h, ih u (j + 1) (Nat.lt_of_lt_of_le h (Nat.pow_le_pow_right (by omega) (by omega))), show j + (k + 1) = j + 1 + k by omega]
theorem hexL_wide {u j : Nat} (h : u < 16 ^ (j + 1)) (hj : j ≤ 7) : List.replicate (8 - (hexL u j).length) 48 ++ hexL u j = hexL u 7 := by
  rw [hexL_length, hexL_zeros _ u j h]
  congr 1
  omega
end Go.Proofs.YtbmaoiemgepppaaGreatDoor
/- strings.Repeat of the sign for nought. -/
namespace Go.Proofs.YtbmaoiemgepppaaGreatDoor
set_option linter.unusedVariables false
set_option linter.unusedSimpArgs false
open Go.RowKit

set_option maxHeartbeats 4000000 in
set_option maxRecDepth 200000 in
theorem prefix1_yes (s : ByteArray) (w : World) (h1 : (1 : Int) ≤ (s.size : Int)) (hp : s.extract 0 1 = ⟨#[48]⟩) : Calls Tryz.prog 63 #[.string s, .string ⟨#[48]⟩] w fun e w' => e = .returned (.bool true) ∧ w' = w := by
  go_enter Tryz.func63, Tryz.ntmps63
  go_wp2
  go_ret
  exact ⟨rfl, rfl⟩
set_option maxHeartbeats 4000000 in
set_option maxRecDepth 200000 in
theorem prefix_yes (s : ByteArray) (w : World) (h1 : (1 : Int) ≤ (s.size : Int)) (hp : s.extract 0 1 = ⟨#[48]⟩) : Calls Tryz.prog 74 #[.string s, .string ⟨#[48]⟩] w fun e w' => e = .returned (.bool true) ∧ w' = w := by
  have k := prefix1_yes s w h1 hp
  go_enter Tryz.func74, Tryz.ntmps74
  go_wp2_with fail
  refine k.mono ?_
  rintro r w1 ⟨rfl, rfl⟩
  clear k
  go_wp2
  go_ret
  exact ⟨rfl, rfl⟩
set_option maxHeartbeats 4000000 in
set_option maxRecDepth 200000 in
theorem prefix1_no32 (s : ByteArray) (w : World) (h1 : (1 : Int) ≤ (s.size : Int)) (hp : s.extract 0 1 = ⟨#[32]⟩) : Calls Tryz.prog 63 #[.string s, .string ⟨#[48]⟩] w fun e w' => e = .returned (.bool false) ∧ w' = w := by
  go_enter Tryz.func63, Tryz.ntmps63
  go_wp2
  go_ret
  exact ⟨rfl, rfl⟩
set_option maxHeartbeats 4000000 in
set_option maxRecDepth 200000 in
theorem prefix_no32 (s : ByteArray) (w : World) (h1 : (1 : Int) ≤ (s.size : Int)) (hp : s.extract 0 1 = ⟨#[32]⟩) : Calls Tryz.prog 74 #[.string s, .string ⟨#[48]⟩] w fun e w' => e = .returned (.bool false) ∧ w' = w := by
  have k := prefix1_no32 s w h1 hp
  go_enter Tryz.func74, Tryz.ntmps74
  go_wp2_with fail
  refine k.mono ?_
  rintro r w1 ⟨rfl, rfl⟩
  clear k
  go_wp2
  go_ret
  exact ⟨rfl, rfl⟩
set_option maxHeartbeats 4000000 in
set_option maxRecDepth 200000 in
theorem prefix1_no45 (s : ByteArray) (w : World) (h1 : (1 : Int) ≤ (s.size : Int)) (hp : s.extract 0 1 = ⟨#[45]⟩) : Calls Tryz.prog 63 #[.string s, .string ⟨#[48]⟩] w fun e w' => e = .returned (.bool false) ∧ w' = w := by
  go_enter Tryz.func63, Tryz.ntmps63
  go_wp2
  go_ret
  exact ⟨rfl, rfl⟩
set_option maxHeartbeats 4000000 in
set_option maxRecDepth 200000 in
theorem prefix_no45 (s : ByteArray) (w : World) (h1 : (1 : Int) ≤ (s.size : Int)) (hp : s.extract 0 1 = ⟨#[45]⟩) : Calls Tryz.prog 74 #[.string s, .string ⟨#[48]⟩] w fun e w' => e = .returned (.bool false) ∧ w' = w := by
  have k := prefix1_no45 s w h1 hp
  go_enter Tryz.func74, Tryz.ntmps74
  go_wp2_with fail
  refine k.mono ?_
  rintro r w1 ⟨rfl, rfl⟩
  clear k
  go_wp2
  go_ret
  exact ⟨rfl, rfl⟩
set_option maxHeartbeats 4000000 in
set_option maxRecDepth 200000 in
theorem mul64_2 (w : World) : Calls Tryz.prog 113 #[.int .u64 1, .int .u64 2] w fun e w' => e = .returned (.tuple #[.int .u64 0, .int .u64 2]) ∧ w' = w := by
  go_enter Tryz.func113, Tryz.ntmps113
  go_wp2
  go_ret2
  exact ⟨rfl, rfl⟩
set_option maxHeartbeats 4000000 in
set_option maxRecDepth 200000 in
theorem mul_2 (w : World) : Calls Tryz.prog 73 #[.int .u64 1, .int .u64 2] w fun e w' => e = .returned (.tuple #[.int .u64 0, .int .u64 2]) ∧ w' = w := by
  go_enter Tryz.func73, Tryz.ntmps73
  go_wp2_with fail
  refine (mul64_2 _).mono ?_
  rintro r w1 ⟨rfl, rfl⟩
  go_wp2
  go_ret2
  exact ⟨rfl, rfl⟩
set_option maxHeartbeats 4000000 in
set_option maxRecDepth 200000 in
theorem mul64_3 (w : World) : Calls Tryz.prog 113 #[.int .u64 1, .int .u64 3] w fun e w' => e = .returned (.tuple #[.int .u64 0, .int .u64 3]) ∧ w' = w := by
  go_enter Tryz.func113, Tryz.ntmps113
  go_wp2
  go_ret2
  exact ⟨rfl, rfl⟩
set_option maxHeartbeats 4000000 in
set_option maxRecDepth 200000 in
theorem mul_3 (w : World) : Calls Tryz.prog 73 #[.int .u64 1, .int .u64 3] w fun e w' => e = .returned (.tuple #[.int .u64 0, .int .u64 3]) ∧ w' = w := by
  go_enter Tryz.func73, Tryz.ntmps73
  go_wp2_with fail
  refine (mul64_3 _).mono ?_
  rintro r w1 ⟨rfl, rfl⟩
  go_wp2
  go_ret2
  exact ⟨rfl, rfl⟩
set_option maxHeartbeats 4000000 in
set_option maxRecDepth 200000 in
theorem mul64_4 (w : World) : Calls Tryz.prog 113 #[.int .u64 1, .int .u64 4] w fun e w' => e = .returned (.tuple #[.int .u64 0, .int .u64 4]) ∧ w' = w := by
  go_enter Tryz.func113, Tryz.ntmps113
  go_wp2
  go_ret2
  exact ⟨rfl, rfl⟩
set_option maxHeartbeats 4000000 in
set_option maxRecDepth 200000 in
theorem mul_4 (w : World) : Calls Tryz.prog 73 #[.int .u64 1, .int .u64 4] w fun e w' => e = .returned (.tuple #[.int .u64 0, .int .u64 4]) ∧ w' = w := by
  go_enter Tryz.func73, Tryz.ntmps73
  go_wp2_with fail
  refine (mul64_4 _).mono ?_
  rintro r w1 ⟨rfl, rfl⟩
  go_wp2
  go_ret2
  exact ⟨rfl, rfl⟩
set_option maxHeartbeats 4000000 in
set_option maxRecDepth 200000 in
theorem mul64_5 (w : World) : Calls Tryz.prog 113 #[.int .u64 1, .int .u64 5] w fun e w' => e = .returned (.tuple #[.int .u64 0, .int .u64 5]) ∧ w' = w := by
  go_enter Tryz.func113, Tryz.ntmps113
  go_wp2
  go_ret2
  exact ⟨rfl, rfl⟩
set_option maxHeartbeats 4000000 in
set_option maxRecDepth 200000 in
theorem mul_5 (w : World) : Calls Tryz.prog 73 #[.int .u64 1, .int .u64 5] w fun e w' => e = .returned (.tuple #[.int .u64 0, .int .u64 5]) ∧ w' = w := by
  go_enter Tryz.func73, Tryz.ntmps73
  go_wp2_with fail
  refine (mul64_5 _).mono ?_
  rintro r w1 ⟨rfl, rfl⟩
  go_wp2
  go_ret2
  exact ⟨rfl, rfl⟩
set_option maxHeartbeats 4000000 in
set_option maxRecDepth 200000 in
theorem mul64_6 (w : World) : Calls Tryz.prog 113 #[.int .u64 1, .int .u64 6] w fun e w' => e = .returned (.tuple #[.int .u64 0, .int .u64 6]) ∧ w' = w := by
  go_enter Tryz.func113, Tryz.ntmps113
  go_wp2
  go_ret2
  exact ⟨rfl, rfl⟩
set_option maxHeartbeats 4000000 in
set_option maxRecDepth 200000 in
theorem mul_6 (w : World) : Calls Tryz.prog 73 #[.int .u64 1, .int .u64 6] w fun e w' => e = .returned (.tuple #[.int .u64 0, .int .u64 6]) ∧ w' = w := by
  go_enter Tryz.func73, Tryz.ntmps73
  go_wp2_with fail
  refine (mul64_6 _).mono ?_
  rintro r w1 ⟨rfl, rfl⟩
  go_wp2
  go_ret2
  exact ⟨rfl, rfl⟩
set_option maxHeartbeats 4000000 in
set_option maxRecDepth 200000 in
theorem mul64_7 (w : World) : Calls Tryz.prog 113 #[.int .u64 1, .int .u64 7] w fun e w' => e = .returned (.tuple #[.int .u64 0, .int .u64 7]) ∧ w' = w := by
  go_enter Tryz.func113, Tryz.ntmps113
  go_wp2
  go_ret2
  exact ⟨rfl, rfl⟩
set_option maxHeartbeats 4000000 in
set_option maxRecDepth 200000 in
theorem mul_7 (w : World) : Calls Tryz.prog 73 #[.int .u64 1, .int .u64 7] w fun e w' => e = .returned (.tuple #[.int .u64 0, .int .u64 7]) ∧ w' = w := by
  go_enter Tryz.func73, Tryz.ntmps73
  go_wp2_with fail
  refine (mul64_7 _).mono ?_
  rintro r w1 ⟨rfl, rfl⟩
  go_wp2
  go_ret2
  exact ⟨rfl, rfl⟩
set_option maxHeartbeats 4000000 in
set_option maxRecDepth 200000 in
theorem repeat_0 (w : World) : Calls Tryz.prog 39 #[.string ⟨#[48]⟩, .int .i64 0] w fun e w' => e = .returned (.string ⟨(List.replicate 0 (48 : UInt8)).toArray⟩) ∧ w' = w := by
  go_enter Tryz.func39, Tryz.ntmps39
  go_wp2
  go_ret
  exact ⟨rfl, rfl⟩
set_option maxHeartbeats 4000000 in
set_option maxRecDepth 200000 in
theorem repeat_1 (w : World) : Calls Tryz.prog 39 #[.string ⟨#[48]⟩, .int .i64 1] w fun e w' => e = .returned (.string ⟨(List.replicate 1 (48 : UInt8)).toArray⟩) ∧ w' = w := by
  go_enter Tryz.func39, Tryz.ntmps39
  go_wp2
  go_ret
  exact ⟨rfl, rfl⟩
set_option maxHeartbeats 4000000 in
set_option maxRecDepth 200000 in
theorem repeat_2 (w : World) : Calls Tryz.prog 39 #[.string ⟨#[48]⟩, .int .i64 2] w fun e w' => e = .returned (.string ⟨(List.replicate 2 (48 : UInt8)).toArray⟩) ∧ w' = w := by
  go_enter Tryz.func39, Tryz.ntmps39
  go_wp2_with fail
  refine (mul_2 _).mono ?_
  rintro r w1 ⟨rfl, rfl⟩
  go_wp2_with fail
  refine (prefix_no32 _ _ (by decide) (by rfl)).mono ?_
  rintro r w1 ⟨rfl, rfl⟩
  go_wp2_with fail
  refine (prefix_no45 _ _ (by decide) (by rfl)).mono ?_
  rintro r w1 ⟨rfl, rfl⟩
  go_wp2_with fail
  refine (prefix_yes _ _ (by decide) (by rfl)).mono ?_
  rintro r w1 ⟨rfl, rfl⟩
  go_wp2
  go_ret
  exact ⟨rfl, rfl⟩
set_option maxHeartbeats 4000000 in
set_option maxRecDepth 200000 in
theorem repeat_3 (w : World) : Calls Tryz.prog 39 #[.string ⟨#[48]⟩, .int .i64 3] w fun e w' => e = .returned (.string ⟨(List.replicate 3 (48 : UInt8)).toArray⟩) ∧ w' = w := by
  go_enter Tryz.func39, Tryz.ntmps39
  go_wp2_with fail
  refine (mul_3 _).mono ?_
  rintro r w1 ⟨rfl, rfl⟩
  go_wp2_with fail
  refine (prefix_no32 _ _ (by decide) (by rfl)).mono ?_
  rintro r w1 ⟨rfl, rfl⟩
  go_wp2_with fail
  refine (prefix_no45 _ _ (by decide) (by rfl)).mono ?_
  rintro r w1 ⟨rfl, rfl⟩
  go_wp2_with fail
  refine (prefix_yes _ _ (by decide) (by rfl)).mono ?_
  rintro r w1 ⟨rfl, rfl⟩
  go_wp2
  go_ret
  exact ⟨rfl, rfl⟩
set_option maxHeartbeats 4000000 in
set_option maxRecDepth 200000 in
theorem repeat_4 (w : World) : Calls Tryz.prog 39 #[.string ⟨#[48]⟩, .int .i64 4] w fun e w' => e = .returned (.string ⟨(List.replicate 4 (48 : UInt8)).toArray⟩) ∧ w' = w := by
  go_enter Tryz.func39, Tryz.ntmps39
  go_wp2_with fail
  refine (mul_4 _).mono ?_
  rintro r w1 ⟨rfl, rfl⟩
  go_wp2_with fail
  refine (prefix_no32 _ _ (by decide) (by rfl)).mono ?_
  rintro r w1 ⟨rfl, rfl⟩
  go_wp2_with fail
  refine (prefix_no45 _ _ (by decide) (by rfl)).mono ?_
  rintro r w1 ⟨rfl, rfl⟩
  go_wp2_with fail
  refine (prefix_yes _ _ (by decide) (by rfl)).mono ?_
  rintro r w1 ⟨rfl, rfl⟩
  go_wp2
  go_ret
  exact ⟨rfl, rfl⟩
set_option maxHeartbeats 4000000 in
set_option maxRecDepth 200000 in
theorem repeat_5 (w : World) : Calls Tryz.prog 39 #[.string ⟨#[48]⟩, .int .i64 5] w fun e w' => e = .returned (.string ⟨(List.replicate 5 (48 : UInt8)).toArray⟩) ∧ w' = w := by
  go_enter Tryz.func39, Tryz.ntmps39
  go_wp2_with fail
  refine (mul_5 _).mono ?_
  rintro r w1 ⟨rfl, rfl⟩
  go_wp2_with fail
  refine (prefix_no32 _ _ (by decide) (by rfl)).mono ?_
  rintro r w1 ⟨rfl, rfl⟩
  go_wp2_with fail
  refine (prefix_no45 _ _ (by decide) (by rfl)).mono ?_
  rintro r w1 ⟨rfl, rfl⟩
  go_wp2_with fail
  refine (prefix_yes _ _ (by decide) (by rfl)).mono ?_
  rintro r w1 ⟨rfl, rfl⟩
  go_wp2
  go_ret
  exact ⟨rfl, rfl⟩
set_option maxHeartbeats 4000000 in
set_option maxRecDepth 200000 in
theorem repeat_6 (w : World) : Calls Tryz.prog 39 #[.string ⟨#[48]⟩, .int .i64 6] w fun e w' => e = .returned (.string ⟨(List.replicate 6 (48 : UInt8)).toArray⟩) ∧ w' = w := by
  go_enter Tryz.func39, Tryz.ntmps39
  go_wp2_with fail
  refine (mul_6 _).mono ?_
  rintro r w1 ⟨rfl, rfl⟩
  go_wp2_with fail
  refine (prefix_no32 _ _ (by decide) (by rfl)).mono ?_
  rintro r w1 ⟨rfl, rfl⟩
  go_wp2_with fail
  refine (prefix_no45 _ _ (by decide) (by rfl)).mono ?_
  rintro r w1 ⟨rfl, rfl⟩
  go_wp2_with fail
  refine (prefix_yes _ _ (by decide) (by rfl)).mono ?_
  rintro r w1 ⟨rfl, rfl⟩
  go_wp2
  go_ret
  exact ⟨rfl, rfl⟩
set_option maxHeartbeats 4000000 in
set_option maxRecDepth 200000 in
theorem repeat_7 (w : World) : Calls Tryz.prog 39 #[.string ⟨#[48]⟩, .int .i64 7] w fun e w' => e = .returned (.string ⟨(List.replicate 7 (48 : UInt8)).toArray⟩) ∧ w' = w := by
  go_enter Tryz.func39, Tryz.ntmps39
  go_wp2_with fail
  refine (mul_7 _).mono ?_
  rintro r w1 ⟨rfl, rfl⟩
  go_wp2_with fail
  refine (prefix_no32 _ _ (by decide) (by rfl)).mono ?_
  rintro r w1 ⟨rfl, rfl⟩
  go_wp2_with fail
  refine (prefix_no45 _ _ (by decide) (by rfl)).mono ?_
  rintro r w1 ⟨rfl, rfl⟩
  go_wp2_with fail
  refine (prefix_yes _ _ (by decide) (by rfl)).mono ?_
  rintro r w1 ⟨rfl, rfl⟩
  go_wp2
  go_ret
  exact ⟨rfl, rfl⟩
theorem repeat0 (c : Nat) (hc : c ≤ 7) (w : World) : Calls Tryz.prog 39 #[.string ⟨#[48]⟩, .int .i64 (c : Int)] w fun e w' => e = .returned (.string ⟨(List.replicate c (48 : UInt8)).toArray⟩) ∧ w' = w := by
  rcases (by omega : c = 0 ∨ c = 1 ∨ c = 2 ∨ c = 3 ∨ c = 4 ∨ c = 5 ∨ c = 6 ∨ c = 7) with h | h | h | h | h | h | h | h <;> subst h
  · exact repeat_0 w
  · exact repeat_1 w
  · exact repeat_2 w
  · exact repeat_3 w
  · exact repeat_4 w
  · exact repeat_5 w
  · exact repeat_6 w
  · exact repeat_7 w
end Go.Proofs.YtbmaoiemgepppaaGreatDoor
/- Show, of any number. -/
namespace Go.Proofs.YtbmaoiemgepppaaGreatDoor
set_option linter.unusedVariables false
set_option linter.unusedSimpArgs false
open Go.RowKit

theorem div_B (x j : Nat) : x / B ^ j = (x / B ^ (j + 1)) * B + dg x j := by
  unfold dg
  rw [Nat.pow_succ, ← Nat.div_div_eq_div_mul, Nat.mul_comm]
  exact (Nat.div_add_mod _ _).symm
theorem hexN_dg {x j : Nat} (h : x / B ^ (j + 1) ≠ 0) : hexN (x / B ^ j) = hexN (x / B ^ (j + 1)) ++ hexL (dg x j) 7 := by
  rw [div_B, show B = 16 ^ (7 + 1) from rfl]
  exact hexN_more 7 _ _ h (dg_lt x j)
theorem div_top {x m : Nat} (h : dlen x = m + 1) : x / B ^ m = dg x m ∧ dg x m ≠ 0 := by
  have h1 : x < B ^ (m + 1) := (dlen_le (m + 1) x).1 (by omega)
  have h2 : x / B ^ m < B := by rw [Nat.pow_succ] at h1; exact Nat.div_lt_of_lt_mul h1
  refine ⟨(Nat.mod_eq_of_lt h2).symm, ?_⟩
  have := dg_top (x := x) (by rintro rfl; rw [dlen_zero] at h; omega)
  rw [h] at this
  exact this
theorem bc_len (l : List UInt8) : (Lib.byteCells l).length = l.length := by simp [Lib.byteCells]
theorem div_ne {x m j : Nat} (h : dlen x = m + 1) (hj : j ≤ m) : x / B ^ j ≠ 0 := by
  have h1 := div_top h
  have h2 : x / B ^ m ≤ x / B ^ j := Nat.div_le_div_left (Nat.pow_le_pow_right B_pos hj) (Nat.pow_pos B_pos)
  omega
theorem hexN_dlen {x n : Nat} (h : dlen x ≤ n) (j : Nat) : (hexN (x / B ^ j)).length ≤ 8 * n := by
  refine hexN_len _ _ ?_
  have h1 : x < B ^ n := (dlen_le n x).1 h
  have e : B ^ n = 16 ^ (8 * n) := by rw [Nat.pow_mul]; rfl
  rw [← e]
  exact Nat.lt_of_le_of_lt (Nat.div_le_self _ _) h1
/-- FormatUint's text, at base 16 -/
theorem fmt16 (u : Nat) (w : World) (hT : Ie.Tab w) (hu : u < 4294967296) :
    Calls Tryz.prog 38 #[.int .u64 u, .int .i64 16] w fun e w' => ∃ s : ByteArray, e = .returned (.string s) ∧ (1 ≤ s.size ∧ s.size ≤ 8) ∧ Hid (∃ L : List UInt8, s = ⟨L.toArray⟩ ∧ (u ≠ 0 → L = hexN u) ∧ List.replicate (8 - L.length) 48 ++ L = hexL u 7) ∧ Below w.heap.size w w' := by
  refine (c81 u w hT hu).mono ?_
  rintro e w' ⟨j, h1, h2, rfl, hb⟩
  have hj : j ≤ 7 := by
    rcases h2 with h2 | h2
    · omega
    · refine Nat.le_of_not_lt fun h7 => ?_
      have h3 : 16 ^ 7 ≤ 16 ^ (j - 1) := Nat.pow_le_pow_right (by omega) (by omega)
      have h4 : u / 16 ^ (j - 1) ≤ u / 16 ^ 7 := Nat.div_le_div_left h3 (by omega)
      have : u / 16 ^ 7 < 16 := by omega
      omega
  have hl : u < 16 ^ (j + 1) := by
    have := (Nat.div_lt_iff_lt_mul (Nat.pow_pos (by omega) : 0 < 16 ^ j)).1 h1
    rw [Nat.pow_succ, Nat.mul_comm]
    exact this
  refine ⟨_, rfl, by simp [ByteArray.size, hexL_length]; omega, ⟨hexL u j, rfl, fun h0 => hexL_hexN j u h1 h0 h2, hexL_wide hl hj⟩, hb⟩
set_option maxHeartbeats 4000000 in
set_option maxRecDepth 200000 in
theorem show_pos (b o uc m x : Nat) (ea : Int) (T : List UInt8) (w : World) (hcell : ∀ i, i < m + 1 → w.cell? ⟨b, o + i, none⟩ = some (.int .u32 (dg x i : Nat))) (hx : dlen x = m + 1) (hm : m ≤ 100000) (hT : T.length ≤ 1000) (huc : m + 1 ≤ uc) (hI : Ie.Tab w)
    (k43 : ∀ W g, Below w.heap.size w W → W.heap[g]? = some (.cells #[.bool false, .slice (some ⟨b, o, none⟩) (m + 1) uc, .int .i64 ea] 24 (0, 0)) → Calls Tryz.prog 35 #[.slice (some ⟨g, 0, none⟩) 1 1] W fun r w' => r = .returned (.bool true) ∧ Below W.heap.size W w')
    (k74 : ∀ W, Below w.heap.size w W → Calls Tryz.prog 40 #[.int .i64 ea] W fun e w' => e = .returned (.string ⟨T.toArray⟩) ∧ Below W.heap.size W w') :
    Calls Tryz.prog 13 #[.agg #[.bool false, .slice (some ⟨b, o, none⟩) (m + 1) uc, .int .i64 ea]] w fun e w' => e = .returned (.string ⟨([] ++ hexN x ++ 112 :: T).toArray⟩) ∧ Below w.heap.size w w' := by
  obtain ⟨W, hW⟩ : ∃ W, W = w.alloc (.cells #[.bool false, .slice (some ⟨b, o, none⟩) (m + 1) uc, .int .i64 ea] 24) := ⟨_, rfl⟩
  have hBW : Below w.heap.size w W := by rw [hW]; exact (Below.refl _ _).alloc (Nat.le_refl _) _
  have hsz : W.heap.size = w.heap.size + 1 := by rw [hW]; simp
  have hbx : W.heap[w.heap.size]? = some (.cells #[.bool false, .slice (some ⟨b, o, none⟩) (m + 1) uc, .int .i64 ea] 24 (0, 0)) := by rw [hW]; exact heap_alloc_new _ _
  have HX : Hid (Below w.heap.size w W) := hBW
  have HCL : Hid (∀ W', Below W.heap.size W W' → (W'.cell? ⟨w.heap.size, 0, none⟩ = some (.bool false) ∧ W'.cell? ⟨w.heap.size, 1, none⟩ = some (.slice (some ⟨b, o, none⟩) (m + 1) uc) ∧ W'.cell? ⟨w.heap.size, 2, none⟩ = some (.int .i64 ea)) ∧ (∀ i, i < m + 1 → W'.cell? ⟨b, o + i, none⟩ = some (.int .u32 (dg x i : Nat))) ∧ Below w.heap.size w W' ∧ Ie.Tab W') := fun W' h =>
    ⟨(box_cells (box_later hbx h (by omega))).1, fun i hi => by
      have hc := hcell i hi
      have hlt : b < w.heap.size := World.block_lt_of_cell? _ _ hc
      exact ((h.cell (p := ⟨b, o + i, none⟩) (by show b < W.heap.size; omega)).trans (hBW.cell hlt)).trans hc, hBW.trans (h.mono hBW.size), Tab.later hI (hBW.trans (h.mono hBW.size))⟩
  have k1 := k43 (W.alloc (.cells #[.bool false, .slice (some ⟨b, o, none⟩) (m + 1) uc, .int .i64 ea] 24)) (w.heap.size + 1) (hBW.alloc hBW.size _) (by rw [← hsz]; exact heap_alloc_new _ _)
  have HK74 : Hid (∀ W, Below w.heap.size w W → Calls Tryz.prog 40 #[.int .i64 ea] W fun e w' => e = .returned (.string ⟨T.toArray⟩) ∧ Below W.heap.size W w') := k74
  have HL : Hid (T.length ≤ 1000 ∧ dlen x = m + 1 ∧ m ≤ 100000) := ⟨hT, hx, hm⟩
  have HDg : Hid (∀ i, dg x i < 4294967296) := fun i => dg_lt x i
  have hdw : IntKind.u64.wrap (dg x m : Int) = (dg x m : Int) := by have := HDg.out m; rw [IntKind.wrap_u64]; omega
  clear hBW hsz hbx hcell k43 k74 hT hI hx
  go_enter Tryz.func13, Tryz.ntmps13
  go_wp2_with fail
  rw [← hW]
  clear hW
  refine k1.mono ?_
  rintro r w1 ⟨rfl, hb1⟩
  clear k1
  have HB1 : Hid (Below W.heap.size W w1) := ((Below.refl W.heap.size W).alloc (Nat.le_refl _) _).trans (hb1.mono (by simp))
  clear hb1
  obtain ⟨⟨x0, x1, x2⟩, x3, -⟩ := HCL.out w1 HB1.out
  have x4 := x3 m (by omega)
  clear x3
  obtain ⟨W2, hW2⟩ : ∃ W2, W2 = w1.alloc (.cells #[.pointer none, .slice none 0 0] 72) := ⟨_, rfl⟩
  have HD0 : Hid (Bd w1.heap.size w1.heap.size (Lib.byteCells []) W2 ∧ Below w1.heap.size w1 W2) := ⟨by rw [hW2]; exact Bd.new w1, by rw [hW2]; exact (Below.refl _ _).alloc (Nat.le_refl _) _⟩
  obtain ⟨⟨y0, y1, y2⟩, y3, y4, y5⟩ := HCL.out W2 (HB1.out.trans (HD0.out.2.mono HB1.out.size))
  have y6 := y3 m (by omega)
  have k3 := fmt16 (dg x m) W2 y5 (HDg.out m)
  clear y3 y4 y5
  rw [hW2] at y0 y1 y2 y6
  go_wp2_with fail
  rw [← hW2]
  clear hW2
  refine k3.mono ?_
  rintro r w3 ⟨s3, rfl, hs3, hL3, hb3⟩
  have HD3 : Hid (Bd w1.heap.size w1.heap.size (Lib.byteCells []) w3 ∧ Below w1.heap.size w1 w3) := ⟨HD0.out.1.later hb3, HD0.out.2.trans (hb3.mono HD0.out.2.size)⟩
  clear k3 hb3 y0 y1 y2 y6 x0 x1 x2 x4
  have k4 := c71 s3 HD3.out.1 (by simp [Lib.byteCells]; omega) HD3.out.2.size
  go_wp2_with fail
  refine k4.mono ?_
  rintro r w4 ⟨rfl, hd4, hb4⟩
  have HD4 : Hid (Bd w1.heap.size w1.heap.size (Lib.byteCells ([] ++ hexN (x / B ^ m))) w4 ∧ Below w1.heap.size w1 w4) := ⟨by
    obtain ⟨L, hL, hL1, -⟩ := hL3.out
    have h5 := div_top HL.out.2.1
    rw [h5.1, ← hL1 h5.2]
    rw [hL] at hd4
    have e : Lib.byteCells [] ++ Lib.strCells ⟨L.toArray⟩ = Lib.byteCells ([] ++ L) := by simp [Lib.byteCells, Lib.strCells]
    rwa [e] at hd4, HD3.out.2.trans hb4⟩
  clear k4 hd4 hb4 hL3 hs3
  go_wp2_with fail
  go_loopw [5] (fun v wr => ∃ j : Nat, v = .int .i64 ((j : Int) - 1) ∧ j ≤ m ∧ Hid (Bd w1.heap.size w1.heap.size (Lib.byteCells ([] ++ hexN (x / B ^ j))) wr ∧ Below w1.heap.size w1 wr)) (fun v _ => (intOf v + 1).toNat)
  case atStart => exact ⟨m, rfl, by omega, HD4.out⟩
  case round =>
    obtain ⟨j, rfl, hj, HD⟩ := hrel
    clear HD4 HD3 HD0 
    by_cases hj0 : j = 0
    · subst hj0
      have HD4 : Hid (Bd w1.heap.size w1.heap.size (Lib.byteCells ([] ++ hexN x)) wr ∧ Below w1.heap.size w1 wr) := by have := HD.out; rw [Nat.pow_zero, Nat.div_one] at this; exact this
      have hlen : (hexN x).length ≤ 900000 := by have := hexN_dlen (x := x) (n := m + 1) (by have := HL.out.2.1; omega) 0; rw [Nat.pow_zero, Nat.div_one] at this; omega
      have HLN : Hid ((hexN x).length ≤ 900000) := hlen
      clear HD hlen
      have k5 := c70 112 HD4.out.1 (by have := HLN.out; simp [Lib.byteCells]; omega) HD4.out.2.size
      go_wp2_with fail
      refine k5.mono ?_
      rintro r w5 ⟨rfl, hd5, hb5⟩
      have HD5 : Hid (Bd w1.heap.size w1.heap.size (Lib.byteCells ([] ++ hexN x) ++ [.int .u8 112]) w5 ∧ Below w1.heap.size w1 w5) := ⟨hd5, HD4.out.2.trans hb5⟩
      clear k5 hd5 hb5
      obtain ⟨⟨z0, z1, z2⟩, z3, z4, -⟩ := HCL.out w5 (HB1.out.trans (HD5.out.2.mono HB1.out.size))
      have k6 := HK74.out w5 z4
      clear z3 z4
      go_wp2_with fail
      refine k6.mono ?_
      rintro r w6 ⟨rfl, hb6⟩
      have HD6 : Hid (Bd w1.heap.size w1.heap.size (Lib.byteCells ([] ++ hexN x) ++ [.int .u8 112]) w6 ∧ Below w1.heap.size w1 w6) := ⟨HD5.out.1.later hb6, HD5.out.2.trans (hb6.mono HD5.out.2.size)⟩
      clear k6 hb6
      have k7 := c71 ⟨T.toArray⟩ HD6.out.1 (by have := HLN.out; have := HL.out.1; simp [Lib.byteCells, ByteArray.size]; omega) HD6.out.2.size
      go_wp2_with fail
      refine k7.mono ?_
      rintro r w7 ⟨rfl, hd7, hb7⟩
      have e7 : Lib.byteCells ([] ++ hexN x) ++ [.int .u8 112] ++ Lib.strCells ⟨T.toArray⟩ = Lib.byteCells ([] ++ hexN x ++ 112 :: T) := by simp [Lib.byteCells, Lib.strCells]
      rw [e7] at hd7
      have HB7 : Hid (Below w1.heap.size w1 w7) := HD6.out.2.trans hb7
      have k8 := Tryz.Builder_String _ _ _ _ hd7 (by simp)
      clear k7 hd7 hb7
      obtain ⟨R, hR⟩ : ∃ R : ByteArray, R = ⟨([] ++ hexN x ++ 112 :: T).toArray⟩ := ⟨_, rfl⟩
      rw [← hR] at k8
      go_wp2_with fail
      refine k8.mono ?_
      rintro r w8 ⟨rfl, hb8⟩
      have HB8 : Hid (Below w.heap.size w w8) := (HCL.out w8 (HB1.out.trans ((HB7.out.trans hb8).mono HB1.out.size))).2.2.1
      have HR : Hid (R = ⟨([] ++ hexN x ++ 112 :: T).toArray⟩) := hR
      clear k8 hb8 hR
      go_wp2_with fail
      go_ret
      exact ⟨congrArg (fun q => Ending.returned (Value.string q)) HR.out, HB8.out⟩
    · obtain ⟨k, rfl⟩ : ∃ k, j = k + 1 := ⟨j - 1, by omega⟩
      rw [show ((k + 1 : Nat) : Int) - 1 = (k : Int) by omega]
      clear hj0
      obtain ⟨⟨y0, y1, y2⟩, y3, -, y5⟩ := HCL.out wr (HB1.out.trans (HD.out.2.mono HB1.out.size))
      have y6 := y3 k (by omega)
      have k3 := fmt16 (dg x k) wr y5 (HDg.out k)
      obtain ⟨LH, hLH⟩ : ∃ L : List UInt8, L = hexN (x / B ^ (k + 1)) := ⟨_, rfl⟩
      have hlen : LH.length ≤ 900000 := by have h8 := hexN_dlen (x := x) (n := m + 1) (by have := HL.out.2.1; omega) (k + 1); rw [← hLH] at h8; omega
      rw [← hLH] at HD
      have HLH : Hid (LH = hexN (x / B ^ (k + 1))) := hLH
      clear hLH
      clear y3 y5 hdw
      have hdw : IntKind.u64.wrap (dg x k : Int) = (dg x k : Int) := by have := HDg.out k; rw [IntKind.wrap_u64]; omega
      go_wp2_with fail
      refine k3.mono ?_
      rintro r w5 ⟨s5, rfl, hs5, hL5, hb5⟩
      have HD5 : Hid (Bd w1.heap.size w1.heap.size (Lib.byteCells ([] ++ LH)) w5 ∧ Below w1.heap.size w1 w5) := ⟨HD.out.1.later hb5, HD.out.2.trans (hb5.mono HD.out.2.size)⟩
      clear k3 hb5 y0 y1 y2 y6 HD
      obtain ⟨c5, hc5⟩ : ∃ c : Nat, c = 8 - s5.size := ⟨_, rfl⟩
      have hw5 : (8 : Int) - (s5.size : Int) = (c5 : Int) := by omega
      have hc7 : c5 ≤ 7 := by omega
      have HC5 : Hid (c5 = 8 - s5.size) := hc5
      clear hc5
      obtain ⟨z5, hz5⟩ : ∃ z : ByteArray, z = ⟨(List.replicate c5 (48 : UInt8)).toArray⟩ := ⟨_, rfl⟩
      have kr := repeat0 c5 hc7 w5
      rw [← hz5] at kr
      have hzs : z5.size = c5 := by rw [hz5]; simp [ByteArray.size]
      have HZ5 : Hid (z5 = ⟨(List.replicate c5 (48 : UInt8)).toArray⟩) := hz5
      clear hz5
      go_wp2_with fail
      refine kr.mono ?_
      rintro r w6 ⟨rfl, rfl⟩
      have k7 := c71 z5 HD5.out.1 (by rw [bc_len, List.length_append]; simp only [List.length_nil, List.length_cons]; omega) HD5.out.2.size
      clear kr
      go_wp2_with fail
      refine k7.mono ?_
      rintro r w7 ⟨rfl, hd7, hb7⟩
      have HD7 : Hid (Bd w1.heap.size w1.heap.size (Lib.byteCells ([] ++ LH) ++ Lib.strCells z5) w7 ∧ Below w1.heap.size w1 w7) := ⟨hd7, HD5.out.2.trans hb7⟩
      clear k7 hd7 hb7
      have k8 := c71 s5 HD7.out.1 (by rw [List.length_append, bc_len, List.length_append, Lib.strCells_length]; simp only [List.length_nil, List.length_cons]; omega) HD7.out.2.size
      go_wp2_with fail
      refine k8.mono ?_
      rintro r w8 ⟨rfl, hd8, hb8⟩
      have HD8 : Hid (Bd w1.heap.size w1.heap.size (Lib.byteCells ([] ++ hexN (x / B ^ k))) w8 ∧ Below w1.heap.size w1 w8) := ⟨by
        obtain ⟨L, hL, -, hL2⟩ := hL5.out
        rw [hexN_dg (div_ne HL.out.2.1 hj), ← hL2, ← HLH.out]
        have hcl : c5 = 8 - L.length := by have := HC5.out; rw [hL] at this; simpa [ByteArray.size] using this
        rw [← hcl]
        rw [hL, HZ5.out] at hd8
        have e : Lib.byteCells ([] ++ LH) ++ Lib.strCells ⟨(List.replicate c5 (48 : UInt8)).toArray⟩ ++ Lib.strCells ⟨L.toArray⟩ = Lib.byteCells ([] ++ (LH ++ (List.replicate c5 48 ++ L))) := by simp [Lib.byteCells, Lib.strCells]
        rwa [e] at hd8, HD7.out.2.trans hb8⟩
      clear k8 hd8 hb8 hL5 HD7 HD5
      go_wp2
      exact ⟨⟨k, by simp, by omega, HD8⟩, by simp [intOf]⟩
set_option maxHeartbeats 4000000 in
set_option maxRecDepth 200000 in
theorem show_neg (b o uc m x : Nat) (ea : Int) (T : List UInt8) (w : World) (hcell : ∀ i, i < m + 1 → w.cell? ⟨b, o + i, none⟩ = some (.int .u32 (dg x i : Nat))) (hx : dlen x = m + 1) (hm : m ≤ 100000) (hT : T.length ≤ 1000) (huc : m + 1 ≤ uc) (hI : Ie.Tab w)
    (k43 : ∀ W g, Below w.heap.size w W → W.heap[g]? = some (.cells #[.bool true, .slice (some ⟨b, o, none⟩) (m + 1) uc, .int .i64 ea] 24 (0, 0)) → Calls Tryz.prog 35 #[.slice (some ⟨g, 0, none⟩) 1 1] W fun r w' => r = .returned (.bool true) ∧ Below W.heap.size W w')
    (k74 : ∀ W, Below w.heap.size w W → Calls Tryz.prog 40 #[.int .i64 ea] W fun e w' => e = .returned (.string ⟨T.toArray⟩) ∧ Below W.heap.size W w') :
    Calls Tryz.prog 13 #[.agg #[.bool true, .slice (some ⟨b, o, none⟩) (m + 1) uc, .int .i64 ea]] w fun e w' => e = .returned (.string ⟨([45] ++ hexN x ++ 112 :: T).toArray⟩) ∧ Below w.heap.size w w' := by
  obtain ⟨W, hW⟩ : ∃ W, W = w.alloc (.cells #[.bool true, .slice (some ⟨b, o, none⟩) (m + 1) uc, .int .i64 ea] 24) := ⟨_, rfl⟩
  have hBW : Below w.heap.size w W := by rw [hW]; exact (Below.refl _ _).alloc (Nat.le_refl _) _
  have hsz : W.heap.size = w.heap.size + 1 := by rw [hW]; simp
  have hbx : W.heap[w.heap.size]? = some (.cells #[.bool true, .slice (some ⟨b, o, none⟩) (m + 1) uc, .int .i64 ea] 24 (0, 0)) := by rw [hW]; exact heap_alloc_new _ _
  have HX : Hid (Below w.heap.size w W) := hBW
  have HCL : Hid (∀ W', Below W.heap.size W W' → (W'.cell? ⟨w.heap.size, 0, none⟩ = some (.bool true) ∧ W'.cell? ⟨w.heap.size, 1, none⟩ = some (.slice (some ⟨b, o, none⟩) (m + 1) uc) ∧ W'.cell? ⟨w.heap.size, 2, none⟩ = some (.int .i64 ea)) ∧ (∀ i, i < m + 1 → W'.cell? ⟨b, o + i, none⟩ = some (.int .u32 (dg x i : Nat))) ∧ Below w.heap.size w W' ∧ Ie.Tab W') := fun W' h =>
    ⟨(box_cells (box_later hbx h (by omega))).1, fun i hi => by
      have hc := hcell i hi
      have hlt : b < w.heap.size := World.block_lt_of_cell? _ _ hc
      exact ((h.cell (p := ⟨b, o + i, none⟩) (by show b < W.heap.size; omega)).trans (hBW.cell hlt)).trans hc, hBW.trans (h.mono hBW.size), Tab.later hI (hBW.trans (h.mono hBW.size))⟩
  have k1 := k43 (W.alloc (.cells #[.bool true, .slice (some ⟨b, o, none⟩) (m + 1) uc, .int .i64 ea] 24)) (w.heap.size + 1) (hBW.alloc hBW.size _) (by rw [← hsz]; exact heap_alloc_new _ _)
  have HK74 : Hid (∀ W, Below w.heap.size w W → Calls Tryz.prog 40 #[.int .i64 ea] W fun e w' => e = .returned (.string ⟨T.toArray⟩) ∧ Below W.heap.size W w') := k74
  have HL : Hid (T.length ≤ 1000 ∧ dlen x = m + 1 ∧ m ≤ 100000) := ⟨hT, hx, hm⟩
  have HDg : Hid (∀ i, dg x i < 4294967296) := fun i => dg_lt x i
  have hdw : IntKind.u64.wrap (dg x m : Int) = (dg x m : Int) := by have := HDg.out m; rw [IntKind.wrap_u64]; omega
  clear hBW hsz hbx hcell k43 k74 hT hI hx
  go_enter Tryz.func13, Tryz.ntmps13
  go_wp2_with fail
  rw [← hW]
  clear hW
  refine k1.mono ?_
  rintro r w1 ⟨rfl, hb1⟩
  clear k1
  have HB1 : Hid (Below W.heap.size W w1) := ((Below.refl W.heap.size W).alloc (Nat.le_refl _) _).trans (hb1.mono (by simp))
  clear hb1
  obtain ⟨⟨x0, x1, x2⟩, x3, -⟩ := HCL.out w1 HB1.out
  have x4 := x3 m (by omega)
  clear x3
  obtain ⟨W2, hW2⟩ : ∃ W2, W2 = w1.alloc (.cells #[.pointer none, .slice none 0 0] 72) := ⟨_, rfl⟩
  have HD0 : Hid (Bd w1.heap.size w1.heap.size (Lib.byteCells []) W2 ∧ Below w1.heap.size w1 W2) := ⟨by rw [hW2]; exact Bd.new w1, by rw [hW2]; exact (Below.refl _ _).alloc (Nat.le_refl _) _⟩
  obtain ⟨⟨y0, y1, y2⟩, -⟩ := HCL.out W2 (HB1.out.trans (HD0.out.2.mono HB1.out.size))
  rw [hW2] at y0 y1 y2
  have k2 := c70 45 HD0.out.1 (by simp [Lib.byteCells]) HD0.out.2.size
  rw [show Lib.byteCells [] ++ [Value.int .u8 45] = Lib.byteCells [45] from rfl] at k2
  rw [hW2] at k2
  go_wp2_with fail
  refine k2.mono ?_
  rintro r w2 ⟨rfl, hd2, hb2⟩
  rw [← hW2] at hb2
  have HD2 : Hid (Bd w1.heap.size w1.heap.size (Lib.byteCells [45]) w2 ∧ Below w1.heap.size w1 w2) := ⟨hd2, HD0.out.2.trans hb2⟩
  clear k2 hd2 hb2 hW2 y0 y1 y2
  obtain ⟨⟨y0, y1, y2⟩, y3, y4, y5⟩ := HCL.out w2 (HB1.out.trans (HD2.out.2.mono HB1.out.size))
  have y6 := y3 m (by omega)
  have k3 := fmt16 (dg x m) w2 y5 (HDg.out m)
  clear y3 y4 y5
  go_wp2_with fail
  refine k3.mono ?_
  rintro r w3 ⟨s3, rfl, hs3, hL3, hb3⟩
  have HD3 : Hid (Bd w1.heap.size w1.heap.size (Lib.byteCells [45]) w3 ∧ Below w1.heap.size w1 w3) := ⟨HD2.out.1.later hb3, HD2.out.2.trans (hb3.mono HD2.out.2.size)⟩
  clear k3 hb3 y0 y1 y2 y6 x0 x1 x2 x4
  have k4 := c71 s3 HD3.out.1 (by simp [Lib.byteCells]; omega) HD3.out.2.size
  go_wp2_with fail
  refine k4.mono ?_
  rintro r w4 ⟨rfl, hd4, hb4⟩
  have HD4 : Hid (Bd w1.heap.size w1.heap.size (Lib.byteCells ([45] ++ hexN (x / B ^ m))) w4 ∧ Below w1.heap.size w1 w4) := ⟨by
    obtain ⟨L, hL, hL1, -⟩ := hL3.out
    have h5 := div_top HL.out.2.1
    rw [h5.1, ← hL1 h5.2]
    rw [hL] at hd4
    have e : Lib.byteCells [45] ++ Lib.strCells ⟨L.toArray⟩ = Lib.byteCells ([45] ++ L) := by simp [Lib.byteCells, Lib.strCells]
    rwa [e] at hd4, HD3.out.2.trans hb4⟩
  clear k4 hd4 hb4 hL3 hs3
  go_wp2_with fail
  go_loopw [5] (fun v wr => ∃ j : Nat, v = .int .i64 ((j : Int) - 1) ∧ j ≤ m ∧ Hid (Bd w1.heap.size w1.heap.size (Lib.byteCells ([45] ++ hexN (x / B ^ j))) wr ∧ Below w1.heap.size w1 wr)) (fun v _ => (intOf v + 1).toNat)
  case atStart => exact ⟨m, rfl, by omega, HD4.out⟩
  case round =>
    obtain ⟨j, rfl, hj, HD⟩ := hrel
    clear HD4 HD3 HD2 HD0
    by_cases hj0 : j = 0
    · subst hj0
      have HD4 : Hid (Bd w1.heap.size w1.heap.size (Lib.byteCells ([45] ++ hexN x)) wr ∧ Below w1.heap.size w1 wr) := by have := HD.out; rw [Nat.pow_zero, Nat.div_one] at this; exact this
      have hlen : (hexN x).length ≤ 900000 := by have := hexN_dlen (x := x) (n := m + 1) (by have := HL.out.2.1; omega) 0; rw [Nat.pow_zero, Nat.div_one] at this; omega
      have HLN : Hid ((hexN x).length ≤ 900000) := hlen
      clear HD hlen
      have k5 := c70 112 HD4.out.1 (by have := HLN.out; simp [Lib.byteCells]; omega) HD4.out.2.size
      go_wp2_with fail
      refine k5.mono ?_
      rintro r w5 ⟨rfl, hd5, hb5⟩
      have HD5 : Hid (Bd w1.heap.size w1.heap.size (Lib.byteCells ([45] ++ hexN x) ++ [.int .u8 112]) w5 ∧ Below w1.heap.size w1 w5) := ⟨hd5, HD4.out.2.trans hb5⟩
      clear k5 hd5 hb5
      obtain ⟨⟨z0, z1, z2⟩, z3, z4, -⟩ := HCL.out w5 (HB1.out.trans (HD5.out.2.mono HB1.out.size))
      have k6 := HK74.out w5 z4
      clear z3 z4
      go_wp2_with fail
      refine k6.mono ?_
      rintro r w6 ⟨rfl, hb6⟩
      have HD6 : Hid (Bd w1.heap.size w1.heap.size (Lib.byteCells ([45] ++ hexN x) ++ [.int .u8 112]) w6 ∧ Below w1.heap.size w1 w6) := ⟨HD5.out.1.later hb6, HD5.out.2.trans (hb6.mono HD5.out.2.size)⟩
      clear k6 hb6
      have k7 := c71 ⟨T.toArray⟩ HD6.out.1 (by have := HLN.out; have := HL.out.1; simp [Lib.byteCells, ByteArray.size]; omega) HD6.out.2.size
      go_wp2_with fail
      refine k7.mono ?_
      rintro r w7 ⟨rfl, hd7, hb7⟩
      have e7 : Lib.byteCells ([45] ++ hexN x) ++ [.int .u8 112] ++ Lib.strCells ⟨T.toArray⟩ = Lib.byteCells ([45] ++ hexN x ++ 112 :: T) := by simp [Lib.byteCells, Lib.strCells]
      rw [e7] at hd7
      have HB7 : Hid (Below w1.heap.size w1 w7) := HD6.out.2.trans hb7
      have k8 := Tryz.Builder_String _ _ _ _ hd7 (by simp)
      clear k7 hd7 hb7
      obtain ⟨R, hR⟩ : ∃ R : ByteArray, R = ⟨([45] ++ hexN x ++ 112 :: T).toArray⟩ := ⟨_, rfl⟩
      rw [← hR] at k8
      go_wp2_with fail
      refine k8.mono ?_
      rintro r w8 ⟨rfl, hb8⟩
      have HB8 : Hid (Below w.heap.size w w8) := (HCL.out w8 (HB1.out.trans ((HB7.out.trans hb8).mono HB1.out.size))).2.2.1
      have HR : Hid (R = ⟨([45] ++ hexN x ++ 112 :: T).toArray⟩) := hR
      clear k8 hb8 hR
      go_wp2_with fail
      go_ret
      exact ⟨congrArg (fun q => Ending.returned (Value.string q)) HR.out, HB8.out⟩
    · obtain ⟨k, rfl⟩ : ∃ k, j = k + 1 := ⟨j - 1, by omega⟩
      rw [show ((k + 1 : Nat) : Int) - 1 = (k : Int) by omega]
      clear hj0
      obtain ⟨⟨y0, y1, y2⟩, y3, -, y5⟩ := HCL.out wr (HB1.out.trans (HD.out.2.mono HB1.out.size))
      have y6 := y3 k (by omega)
      have k3 := fmt16 (dg x k) wr y5 (HDg.out k)
      obtain ⟨LH, hLH⟩ : ∃ L : List UInt8, L = hexN (x / B ^ (k + 1)) := ⟨_, rfl⟩
      have hlen : LH.length ≤ 900000 := by have h8 := hexN_dlen (x := x) (n := m + 1) (by have := HL.out.2.1; omega) (k + 1); rw [← hLH] at h8; omega
      rw [← hLH] at HD
      have HLH : Hid (LH = hexN (x / B ^ (k + 1))) := hLH
      clear hLH
      clear y3 y5 hdw
      have hdw : IntKind.u64.wrap (dg x k : Int) = (dg x k : Int) := by have := HDg.out k; rw [IntKind.wrap_u64]; omega
      go_wp2_with fail
      refine k3.mono ?_
      rintro r w5 ⟨s5, rfl, hs5, hL5, hb5⟩
      have HD5 : Hid (Bd w1.heap.size w1.heap.size (Lib.byteCells ([45] ++ LH)) w5 ∧ Below w1.heap.size w1 w5) := ⟨HD.out.1.later hb5, HD.out.2.trans (hb5.mono HD.out.2.size)⟩
      clear k3 hb5 y0 y1 y2 y6 HD
      obtain ⟨c5, hc5⟩ : ∃ c : Nat, c = 8 - s5.size := ⟨_, rfl⟩
      have hw5 : (8 : Int) - (s5.size : Int) = (c5 : Int) := by omega
      have hc7 : c5 ≤ 7 := by omega
      have HC5 : Hid (c5 = 8 - s5.size) := hc5
      clear hc5
      obtain ⟨z5, hz5⟩ : ∃ z : ByteArray, z = ⟨(List.replicate c5 (48 : UInt8)).toArray⟩ := ⟨_, rfl⟩
      have kr := repeat0 c5 hc7 w5
      rw [← hz5] at kr
      have hzs : z5.size = c5 := by rw [hz5]; simp [ByteArray.size]
      have HZ5 : Hid (z5 = ⟨(List.replicate c5 (48 : UInt8)).toArray⟩) := hz5
      clear hz5
      go_wp2_with fail
      refine kr.mono ?_
      rintro r w6 ⟨rfl, rfl⟩
      have k7 := c71 z5 HD5.out.1 (by rw [bc_len, List.length_append]; simp only [List.length_nil, List.length_cons]; omega) HD5.out.2.size
      clear kr
      go_wp2_with fail
      refine k7.mono ?_
      rintro r w7 ⟨rfl, hd7, hb7⟩
      have HD7 : Hid (Bd w1.heap.size w1.heap.size (Lib.byteCells ([45] ++ LH) ++ Lib.strCells z5) w7 ∧ Below w1.heap.size w1 w7) := ⟨hd7, HD5.out.2.trans hb7⟩
      clear k7 hd7 hb7
      have k8 := c71 s5 HD7.out.1 (by rw [List.length_append, bc_len, List.length_append, Lib.strCells_length]; simp only [List.length_nil, List.length_cons]; omega) HD7.out.2.size
      go_wp2_with fail
      refine k8.mono ?_
      rintro r w8 ⟨rfl, hd8, hb8⟩
      have HD8 : Hid (Bd w1.heap.size w1.heap.size (Lib.byteCells ([45] ++ hexN (x / B ^ k))) w8 ∧ Below w1.heap.size w1 w8) := ⟨by
        obtain ⟨L, hL, -, hL2⟩ := hL5.out
        rw [hexN_dg (div_ne HL.out.2.1 hj), ← hL2, ← HLH.out]
        have hcl : c5 = 8 - L.length := by have := HC5.out; rw [hL] at this; simpa [ByteArray.size] using this
        rw [← hcl]
        rw [hL, HZ5.out] at hd8
        have e : Lib.byteCells ([45] ++ LH) ++ Lib.strCells ⟨(List.replicate c5 (48 : UInt8)).toArray⟩ ++ Lib.strCells ⟨L.toArray⟩ = Lib.byteCells ([45] ++ (LH ++ (List.replicate c5 48 ++ L))) := by simp [Lib.byteCells, Lib.strCells]
        rwa [e] at hd8, HD7.out.2.trans hb8⟩
      clear k8 hd8 hb8 hL5 HD7 HD5
      go_wp2
      exact ⟨⟨k, by simp, by omega, HD8⟩, by simp [intOf]⟩
end Go.Proofs.YtbmaoiemgepppaaGreatDoor
/- DyadRing: the law's walk. -/
namespace Go.Proofs.YtbmaoiemgepppaaGreatDoor
set_option linter.unusedVariables false
set_option linter.unusedSimpArgs false
open Go.RowKit Go.Fl64

/-- a number's box, and the number in it -/
def Bn (w : World) (g : Nat) (s : Bool) (ao : Option Addr) (n cap : Nat) (e : Int) (t : Bool × Nat × Int) : Prop :=
  w.heap[g]? = some (.cells #[.bool s, .slice ao n cap, .int .i64 e] 24 (0, 0)) ∧ PN w (.agg #[.bool s, .slice ao n cap, .int .i64 e]) t
theorem Bn.later {w w' : World} {g : Nat} {s : Bool} {ao : Option Addr} {n cap : Nat} {e : Int} {t : Bool × Nat × Int} (h : Bn w g s ao n cap e t) (hb : Below w.heap.size w w') : Bn w' g s ao n cap e t :=
  ⟨box_later h.1 hb (Array.getElem?_eq_some_iff.1 h.1).1, h.2.later hb⟩
theorem Bn.new {w : World} {s : Bool} {ao : Option Addr} {n cap : Nat} {e : Int} {t : Bool × Nat × Int} (h : PN w (.agg #[.bool s, .slice ao n cap, .int .i64 e]) t) : Bn (w.alloc (.cells #[.bool s, .slice ao n cap, .int .i64 e] 24)) w.heap.size s ao n cap e t :=
  ⟨heap_alloc_new _ _, h.later ((Below.refl _ _).alloc (Nat.le_refl _) _)⟩
end Go.Proofs.YtbmaoiemgepppaaGreatDoor
/- Abs, Neg: of numbers that may be, and refused. -/
namespace Go.Proofs.YtbmaoiemgepppaaGreatDoor
set_option linter.unusedVariables false
set_option linter.unusedSimpArgs false
open Go.RowKit

end Go.Proofs.YtbmaoiemgepppaaGreatDoor
/- Several numbers given at once, without their signs: x, y := Abs(give(a)), Abs(give(b)). -/
namespace Go.Proofs.YtbmaoiemgepppaaGreatDoor
set_option linter.unusedVariables false
set_option linter.unusedSimpArgs false
open Go.RowKit

end Go.Proofs.YtbmaoiemgepppaaGreatDoor
/- Root, of numbers that may be and are not below nought. -/
namespace Go.Proofs.YtbmaoiemgepppaaGreatDoor
set_option linter.unusedVariables false
set_option linter.unusedSimpArgs false
open Go.RowKit

end Go.Proofs.YtbmaoiemgepppaaGreatDoor
/- DyadLeast: the law's walk. -/
namespace Go.Proofs.YtbmaoiemgepppaaGreatDoor
set_option linter.unusedVariables false
set_option linter.unusedSimpArgs false
open Go.RowKit Go.Fl64

end Go.Proofs.YtbmaoiemgepppaaGreatDoor
/- The document's product and order. -/
namespace Go.Proofs.YtbmaoiemgepppaaGreatDoor
set_option linter.unusedVariables false
set_option linter.unusedSimpArgs false
open Go.RowKit

/-- v is a slice that holds the digits of x (whatever its room) -/
def Ir (w : World) (v : Value) (x : Nat) : Prop := ∃ ao cap, v = .slice ao (dlen x) cap ∧ dlen x ≤ cap ∧ At w ao (dlen x) x
theorem Ir.later {w w' : World} {v : Value} {x : Nat} (h : Ir w v x) (hb : Below w.heap.size w w') : Ir w' v x := by
  obtain ⟨ao, cap, h1, h2, h3⟩ := h
  exact ⟨ao, cap, h1, h2, h3.later hb⟩
theorem Ir.nil (w : World) (ao : Option Addr) (cap : Nat) : Ir w (.slice ao 0 cap) 0 := ⟨ao, cap, by rw [dlen_zero], by rw [dlen_zero]; omega, 0, 0, fun h => by rw [dlen_zero] at h; omega, fun i hi => by rw [dlen_zero] at hi; omega⟩

theorem Mk.drewN {w wr : World} {n : Nat} {f : Nat → Nat} (h : Mk w wr n f) (d : Nat) : Mk w (wr.drewN d) n f :=
  ⟨⟨h.below.os, h.below.tape, h.below.output, h.below.size, h.below.block⟩, h.size, h.row⟩

end Go.Proofs.YtbmaoiemgepppaaGreatDoor
