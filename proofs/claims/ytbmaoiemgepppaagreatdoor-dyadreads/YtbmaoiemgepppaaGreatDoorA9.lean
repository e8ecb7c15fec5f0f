/- Own work: contracts of the program's functions, part 9: VR1 VR2. -/
import Derived.Test.YtbmaoiemgepppaaGreatDoorA5
import Derived.Laws.IdiomStrings

/- strconv.ParseUint at base 16 and 32 bits, of short texts. -/
namespace Go.Proofs.YtbmaoiemgepppaaGreatDoor
set_option linter.unusedVariables false
set_option linter.unusedSimpArgs false
open Go Go.RowKit Go.Fl64

/-- a byte as a small letter -/
def lowB (c : Nat) : Nat := c ||| 32
/-- what a byte is worth as a digit of base 16; 99: it is none -/
def dgB (c : Nat) : Nat := if 48 ≤ c ∧ c ≤ 57 then c - 48 else if 97 ≤ lowB c ∧ lowB c ≤ 102 then lowB c - 87 else 99
/-- the byte at a place -/
def btA (s : ByteArray) (i : Nat) : Nat := (s.data[i]?.getD 0).toNat
/-- the number that the first i digits make -/
def puN (s : ByteArray) : Nat → Nat
  | 0 => 0
  | i + 1 => puN s i * 16 + dgB (btA s i)
theorem lowB_lt {c : Nat} (h : c < 256) : lowB c < 256 := Nat.or_lt_two_pow (n := 8) h (by decide)
theorem low_small {c : Nat} (h : c < 48) : lowB c < 97 := by
  have : ∀ c : Fin 48, lowB c.val < 97 := by decide +kernel
  exact this ⟨c, h⟩
theorem btA_lt (s : ByteArray) (i : Nat) : btA s i < 256 := UInt8.toNat_lt _
theorem puN_lt {s : ByteArray} : ∀ {i : Nat}, (∀ j, j < i → dgB (btA s j) < 16) → puN s i < 16 ^ i
  | 0, _ => Nat.one_pos
  | i + 1, h => by
    have h1 := puN_lt (i := i) fun j hj => h j (by omega)
    have h2 := h i (by omega)
    show puN s i * 16 + dgB (btA s i) < 16 ^ (i + 1)
    rw [Nat.pow_succ]; omega
theorem u8_or (c : Nat) (h : c < 256) : bits .or .u8 (c : Int) 32 = ((lowB c : Nat) : Int) := by
  have : ∀ c : Fin 256, bits .or .u8 (c.val : Int) 32 = ((lowB c.val : Nat) : Int) := by decide +kernel
  exact this ⟨c, h⟩
theorem clower (c : Nat) (h : c < 256) (w : World) : Calls Tryz.prog 105 #[.int .u8 (c : Int)] w fun r w' => r = .returned (.int .u8 ((lowB c : Nat) : Int)) ∧ w' = w := by
  have ho := u8_or c h
  go_enter Tryz.func105, Tryz.ntmps105
  go_wp2
  go_ret
  exact ⟨rfl, rfl⟩
theorem conv_bytes (s : ByteArray) (w : World) : ∃ cap W, (convert 9 70 (.string s)).run Tryz.prog w = .ok (.slice (some ⟨w.heap.size, 0, none⟩) s.size cap) W ∧ Below w.heap.size w W ∧ ∀ j, j < s.size → W.cell? ⟨w.heap.size, j, none⟩ = some (.int .u8 ((btA s j : Nat) : Int)) := by
  have h := run_bytes_of_string (P := Tryz.prog) w 9 70 5 s Tryz.underlying9 Tryz.underlying70 Tryz.underlying5
  refine ⟨_, _, h, (Below.refl _ _).drew.alloc (Nat.le_refl _) _, fun j hj => ?_⟩
  have hb := heap_alloc_new w.drew (.cells (bytesRow s (grownCap w s.size 0 5)) 5 ((bytesRow s (grownCap w s.size 0 5)).size, (bytesRow s (grownCap w s.size 0 5)).size + 1))
  have hb' : (w.drew.alloc (.cells (bytesRow s (grownCap w s.size 0 5)) 5 ((bytesRow s (grownCap w s.size 0 5)).size, (bytesRow s (grownCap w s.size 0 5)).size + 1))).heap[w.heap.size]? = some (.cells (bytesRow s (grownCap w s.size 0 5)) 5 ((bytesRow s (grownCap w s.size 0 5)).size, (bytesRow s (grownCap w s.size 0 5)).size + 1)) := hb
  unfold World.cell?
  rw [hb']
  show (if false then none else (bytesRow s (grownCap w s.size 0 5))[j]?) = _
  rw [if_neg (by decide)]
  have hj' : j < s.data.size := hj
  unfold bytesRow btA
  rw [Array.getElem?_append_left (by simpa using hj')]
  simp only [Array.getElem?_map]
  rw [Array.getElem?_eq_getElem hj']
  rfl
/-- how it ends: the number, or the error of the form -/
def PuS (s : ByteArray) (d : Int) (er : Value) : Prop := if s.size = 0 ∨ ∃ j, j < s.size ∧ 16 ≤ dgB (btA s j) then d = 0 ∧ er = .iface 101 (.int .i64 2) else d = ((puN s s.size : Nat) : Int) ∧ er = .nilIface
theorem PuS.bad {s : ByteArray} {i : Nat} (h : i < s.size) (h2 : 16 ≤ dgB (btA s i)) : PuS s 0 (.iface 101 (.int .i64 2)) := by
  unfold PuS
  rw [if_pos (.inr ⟨i, h, h2⟩)]
  exact ⟨rfl, rfl⟩
theorem dgB_dec {c : Nat} (h1 : 48 ≤ c) (h2 : c ≤ 57) : dgB c = c - 48 := by unfold dgB; rw [if_pos ⟨h1, h2⟩]
theorem dgB_let {c : Nat} (h1 : ¬ (48 ≤ c ∧ c ≤ 57)) (h2 : 97 ≤ lowB c) (h3 : lowB c ≤ 102) : dgB c = lowB c - 87 := by unfold dgB; rw [if_neg h1, if_pos ⟨h2, h3⟩]
theorem dgB_no {c : Nat} (h1 : ¬ (48 ≤ c ∧ c ≤ 57)) (h2 : ¬ (97 ≤ lowB c ∧ lowB c ≤ 102)) : dgB c = 99 := by unfold dgB; rw [if_neg h1, if_neg h2]

set_option maxHeartbeats 4000000 in
set_option maxRecDepth 200000 in
theorem pu_1 (s : ByteArray) (w : World) (hs : s.size ≤ 8) (h0 : s.toList.isEmpty = false) (h00 : 0 < s.size) :
    Calls Tryz.prog 70 #[.string s, .int .i64 16, .int .i64 32] w fun r w' => ∃ d er, r = .returned (.tuple #[.int .u64 d, er]) ∧ PuS s d er ∧ Below w.heap.size w w' := by
  obtain ⟨cap, W, hc, hB, hcell⟩ := conv_bytes s w
  have HB : Hid (Below w.heap.size w W) := hB
  have HC : Hid (∀ j, j < s.size → W.cell? ⟨w.heap.size, j, none⟩ = some (.int .u8 ((btA s j : Nat) : Int))) := hcell
  clear hB hcell
  generalize hn : s.size = n at *
  go_enter Tryz.func70, Tryz.ntmps70
  go_wp2_with fail
  clear hc
  go_loopw [101, 13, 12] (fun i v u wr => ∃ j : Nat, j ≤ n ∧ i = .int .i64 (j : Int) ∧ v = .int .u64 ((puN s j : Nat) : Int) ∧ u = .bool false ∧ wr = W ∧ Hid (∀ k, k < j → dgB (btA s k) < 16)) (fun i _ _ _ => n - (intOf i).toNat)
  case atStart => exact ⟨0, by omega, rfl, rfl, rfl, rfl, fun k hk => by omega⟩
  case round =>
    obtain ⟨j, hj, rfl, rfl, rfl, rfl, HD⟩ := hrel
    by_cases hlt : j < n
    · have hcj := HC.out j hlt
      have hb := btA_lt s j
      have hlb := lowB_lt hb
      have hp : puN s j < 16 ^ j := puN_lt HD.out
      have hp7 : puN s j < 268435456 := Nat.lt_of_lt_of_le hp (Nat.le_trans (Nat.pow_le_pow_right (by omega) (show j ≤ 7 by omega)) (by decide))
      have kl := clower (btA s j) hb
      have HS : Hid (puN s (j + 1) = puN s j * 16 + dgB (btA s j)) := rfl
      have HX : Hid (∀ k, k < j + 1 → k ≠ j → dgB (btA s k) < 16) := fun k hk hkj => HD.out k (by omega)
      generalize hce : btA s j = c at *
      generalize hve : puN s j = v at *
      by_cases hdec : 48 ≤ c ∧ c ≤ 57
      · obtain ⟨D, hDe⟩ : ∃ D : Nat, D = dgB c := ⟨_, rfl⟩
        have hdg := dgB_dec hdec.1 hdec.2
        have hD16 : D < 16 := by omega
        have q0 : ((c : Int) == 95) = false := by rw [beq_eq_false_iff_ne]; omega
        have q1 : (48 : Int) ≤ (c : Int) := by omega
        have q2 : (c : Int) ≤ 57 := by omega
        have q3 : IntKind.u8.wrap ((c : Int) - 48) = (D : Int) := by rw [IntKind.wrap_u8]; omega
        obtain ⟨M, hM⟩ : ∃ M : Nat, M = v * 16 := ⟨_, rfl⟩
        obtain ⟨N1, hN⟩ : ∃ N1 : Nat, N1 = M + D := ⟨_, rfl⟩
        have v1 : IntKind.u64.wrap ((v : Int) * 16) = (M : Int) := by rw [IntKind.wrap_u64]; omega
        have v2 : IntKind.u64.wrap ((M : Int) + (D : Int)) = (N1 : Int) := by rw [IntKind.wrap_u64]; omega
        have v3 : IntKind.u64.wrap (D : Int) = (D : Int) := by rw [IntKind.wrap_u64]; omega
        have v4 : IntKind.u8.wrap 16 = 16 := by decide
        have v5 : IntKind.u64.wrap 16 = 16 := by decide
        have x1 : ¬ ((D : Int) ≥ 16) := by omega
        have x2 : ¬ ((v : Int) ≥ 1152921504606846976) := by omega
        have x3 : ¬ ((N1 : Int) < (M : Int)) := by omega
        have x4 : ¬ ((N1 : Int) > 4294967295) := by omega
        have HN : Hid (puN s (j + 1) = N1 ∧ ∀ k, k < j + 1 → dgB (btA s k) < 16) := ⟨by rw [HS.out, ← hDe]; omega, fun k hk => by
          by_cases hkj : k = j
          · rw [hkj, hce, ← hDe]; omega
          · exact HX.out k hk hkj⟩
        clear hN hM hp hp7 hDe HS HX HD hve hce hlb
        go_wp2_with (first | (go_at_call 105; refine (kl _).mono ?_; rintro e w' ⟨rfl, hw'⟩; replace hw' := hw'.symm; subst hw'))
        go_roundw
        case rel => exact ⟨j + 1, by omega, by simp, by rw [HN.out.1], (by first | rfl | trivial), (by first | rfl | trivial), HN.out.2⟩
        case measure => simp [intOf]; omega
      · have qd : (c : Int) < 48 ∨ (57 < (c : Int) ∧ (48 : Int) ≤ (c : Int)) := by omega
        have q95 : ((c : Int) == 95) = true ∨ ((c : Int) == 95) = false := by cases ((c : Int) == 95) <;> simp
        by_cases hlet : 97 ≤ lowB c ∧ lowB c ≤ 102
        · have hc95 : c ≠ 95 := by
            intro h
            rw [h] at hlet
            exact absurd hlet.2 (by decide)
          have q95' := q95
          clear q95
          have q95 : ((c : Int) == 95) = false := by rw [beq_eq_false_iff_ne]; omega
          have hc48 : 57 < c := by
            apply Decidable.byContradiction
            intro h
            have := low_small (show c < 48 by omega)
            omega
          clear hc95 qd
          have qd : ¬ ((c : Int) ≤ 57) := by omega
          have qe : (48 : Int) ≤ (c : Int) := by omega
          clear hc48
          obtain ⟨D, hDe⟩ : ∃ D : Nat, D = dgB c := ⟨_, rfl⟩
          have hdg := dgB_let hdec hlet.1 hlet.2
          have hD16 : D < 16 := by omega
          obtain ⟨L, hL⟩ : ∃ L : Nat, L = lowB c := ⟨_, rfl⟩
          rw [← hL] at kl hlet hdg
          obtain ⟨L1, hL1⟩ : ∃ L1 : Nat, L1 = L - 97 := ⟨_, rfl⟩
          have q1 : (97 : Int) ≤ (L : Int) := by omega
          have q2 : (L : Int) ≤ 122 := by omega
          have q3 : IntKind.u8.wrap ((L : Int) - 97) = (L1 : Int) := by rw [IntKind.wrap_u8]; omega
          have q4 : IntKind.u8.wrap ((L1 : Int) + 10) = (D : Int) := by rw [IntKind.wrap_u8]; omega
          obtain ⟨M, hM⟩ : ∃ M : Nat, M = v * 16 := ⟨_, rfl⟩
          obtain ⟨N1, hN⟩ : ∃ N1 : Nat, N1 = M + D := ⟨_, rfl⟩
          have v1 : IntKind.u64.wrap ((v : Int) * 16) = (M : Int) := by rw [IntKind.wrap_u64]; omega
          have v2 : IntKind.u64.wrap ((M : Int) + (D : Int)) = (N1 : Int) := by rw [IntKind.wrap_u64]; omega
          have v3 : IntKind.u64.wrap (D : Int) = (D : Int) := by rw [IntKind.wrap_u64]; omega
          have v4 : IntKind.u8.wrap 16 = 16 := by decide
          have v5 : IntKind.u64.wrap 16 = 16 := by decide
          have x1 : ¬ ((D : Int) ≥ 16) := by omega
          have x2 : ¬ ((v : Int) ≥ 1152921504606846976) := by omega
          have x3 : ¬ ((N1 : Int) < (M : Int)) := by omega
          have x4 : ¬ ((N1 : Int) > 4294967295) := by omega
          have HN : Hid (puN s (j + 1) = N1 ∧ ∀ k, k < j + 1 → dgB (btA s k) < 16) := ⟨by rw [HS.out, ← hDe]; omega, fun k hk => by
            by_cases hkj : k = j
            · rw [hkj, hce, ← hDe]; omega
            · exact HX.out k hk hkj⟩
          clear hN hM hp hp7 hDe HS HX HD hve hce hlb hL hL1 hlet
          clear hdec hdg hb hD16 q95'
          go_upto_region 46 with (first | (go_at_call 105; refine (kl _).mono ?_; rintro e w' ⟨rfl, hw'⟩; replace hw' := hw'.symm; subst hw'))
          clear q1 q2 q3 q4 qd qe q95 kl
          have y1 : decide ((16 : Int) ≤ (D : Int)) = false := decide_eq_false (by omega)
          have y2 : decide ((1152921504606846976 : Int) ≤ (v : Int)) = false := decide_eq_false (by omega)
          have y3 : decide ((N1 : Int) < (M : Int)) = false := decide_eq_false (by omega)
          have y4 : decide ((4294967295 : Int) < (N1 : Int)) = false := decide_eq_false (by omega)
          clear h0 h00 hn hcj x1 x2 x3 x4
          go_upto_region 48 with fail
          go_upto_region 50 with fail
          go_wp2_with fail
          go_roundw
          case rel => exact ⟨j + 1, by omega, by simp, by rw [HN.out.1], (by first | rfl | trivial), (by first | rfl | trivial), HN.out.2⟩
          case measure => simp [intOf]; omega
          exfalso
          have q := of_decide_eq_false y3
          omega
        · have hdg := dgB_no hdec hlet
          obtain ⟨L, hL⟩ : ∃ L : Nat, L = lowB c := ⟨_, rfl⟩
          have HP : Hid (PuS s 0 (.iface 101 (.int .i64 2))) := PuS.bad (i := j) (by omega) (by rw [hce]; omega)
          rw [← hL] at kl hlet
          clear hp hp7 HS HX HD hve hce hlb
          have ql : (L : Int) < 97 ∨ (122 < (L : Int) ∧ (97 : Int) ≤ (L : Int)) ∨ ((97 : Int) ≤ (L : Int) ∧ (L : Int) ≤ 122 ∧ 102 < L) := by omega
          rcases ql with ql | ⟨ql, qm⟩ | ⟨ql, qm, qn⟩
          · rcases q95 with q95 | q95 <;> rcases qd with qd | ⟨qd, qe⟩
            all_goals
              go_wp2_with (first | (go_at_call 105; refine (kl _).mono ?_; rintro e w' ⟨rfl, hw'⟩; replace hw' := hw'.symm; subst hw'))
              refine bodyPost_ret (results_tmp2 rfl _ _ _) rfl ?_
              exact ⟨_, _, rfl, HP.out, HB.out⟩
          · rcases q95 with q95 | q95 <;> rcases qd with qd | ⟨qd, qe⟩
            all_goals
              go_wp2_with (first | (go_at_call 105; refine (kl _).mono ?_; rintro e w' ⟨rfl, hw'⟩; replace hw' := hw'.symm; subst hw'))
              refine bodyPost_ret (results_tmp2 rfl _ _ _) rfl ?_
              exact ⟨_, _, rfl, HP.out, HB.out⟩
          · obtain ⟨L1, hL1⟩ : ∃ L1 : Nat, L1 = L - 97 := ⟨_, rfl⟩
            obtain ⟨D, hD⟩ : ∃ D : Nat, D = L1 + 10 := ⟨_, rfl⟩
            have q3 : IntKind.u8.wrap ((L : Int) - 97) = (L1 : Int) := by rw [IntKind.wrap_u8]; omega
            have q4 : IntKind.u8.wrap ((L1 : Int) + 10) = (D : Int) := by rw [IntKind.wrap_u8]; omega
            have v4 : IntKind.u8.wrap 16 = 16 := by decide
            have x1 : (D : Int) ≥ 16 := by omega
            clear hD hL1 qn hL
            rcases q95 with q95 | q95 <;> rcases qd with qd | ⟨qd, qe⟩
            all_goals
              go_wp2_with (first | (go_at_call 105; refine (kl _).mono ?_; rintro e w' ⟨rfl, hw'⟩; replace hw' := hw'.symm; subst hw'))
              refine bodyPost_ret (results_tmp2 rfl _ _ _) rfl ?_
              exact ⟨_, _, rfl, HP.out, HB.out⟩
    · obtain rfl : n = j := by omega
      have HP : Hid (PuS s ((puN s n : Nat) : Int) .nilIface) := by
        unfold PuS
        have hc : ¬ (s.size = 0 ∨ ∃ j, j < s.size ∧ 16 ≤ dgB (btA s j)) := by
          rintro (h | ⟨k, h1, h2⟩)
          · omega
          · have := HD.out k (by omega); omega
        rw [if_neg hc, hn]
        exact ⟨rfl, rfl⟩
      go_wp2_with fail
      refine bodyPost_ret (results_tmp2 rfl _ _ _) rfl ?_
      exact ⟨_, _, rfl, HP.out, HB.out⟩
end Go.Proofs.YtbmaoiemgepppaaGreatDoor
/- strconv.ParseUint at base 16 and 32 bits, of 1 to 8 bytes; toError's contract is a hypothesis. -/
namespace Go.Proofs.YtbmaoiemgepppaaGreatDoor
set_option linter.unusedVariables false
set_option linter.unusedSimpArgs false
open Go Go.RowKit Go.Fl64

/-- the variable ErrSyntax holds an error or none -/
def SenS (w : World) : Prop := ∃ ev, w.cell? ⟨2, 0, none⟩ = some ev ∧ (ev = .nilIface ∨ ∃ te pe, ev = .iface te pe)
theorem SenS.later {w w' : World} (h : SenS w) (hb : Below w.heap.size w w') : SenS w' := by
  obtain ⟨ev, h1, h2⟩ := h
  exact ⟨ev, (hb.cell (World.block_lt_of_cell? _ _ h1)).trans h1, h2⟩
/-- what strconv.toError answers of a text that is no number: an error -/
def TeS : Prop := ∀ (s : ByteArray) (w : World), s.size ≤ 8 → SenS w →
    Calls Tryz.prog 33 #[.string ⟨#[80, 97, 114, 115, 101, 85, 105, 110, 116]⟩, .string s, .int .i64 16, .int .i64 32, .iface 101 (.int .i64 2)] w fun r w' => (∃ t p, r = .returned (.iface t p)) ∧ Below w.heap.size w w'
/-- the number that is read: nought where a byte is no digit -/
def puD (s : ByteArray) : Nat := if (∀ j, j < s.size → dgB (btA s j) < 16) then puN s s.size else 0
theorem PuS.d {s : ByteArray} {d : Int} {er : Value} (h : PuS s d er) (h0 : 0 < s.size) : d = ((puD s : Nat) : Int) ∧ (er = .nilIface ∨ er = .iface 101 (.int .i64 2)) := by
  unfold PuS at h
  unfold puD
  by_cases hc : ∃ j, j < s.size ∧ 16 ≤ dgB (btA s j)
  · rw [if_pos (Or.inr hc)] at h
    rw [if_neg (by obtain ⟨j, h1, h2⟩ := hc; intro h3; have := h3 j h1; omega)]
    exact ⟨h.1, Or.inr h.2⟩
  · have hn : ¬ (s.size = 0 ∨ ∃ j, j < s.size ∧ 16 ≤ dgB (btA s j)) := by
      rintro (h5 | h5)
      · omega
      · exact hc h5
    rw [if_neg hn] at h
    have hp : ∀ j, j < s.size → dgB (btA s j) < 16 := by
      intro j hj
      by_cases h5 : dgB (btA s j) < 16
      · exact h5
      · exact absurd ⟨j, hj, by omega⟩ hc
    rw [if_pos hp]
    exact ⟨h.1, Or.inl h.2⟩
theorem puD_lt (s : ByteArray) (hs : s.size ≤ 8) : puD s < 4294967296 := by
  unfold puD
  split
  · rename_i h
    have h1 := puN_lt h
    have h2 : 16 ^ s.size ≤ 16 ^ 8 := Nat.pow_le_pow_right (by decide) hs
    have h3 : (16 : Nat) ^ 8 = 4294967296 := by decide
    omega
  · decide

set_option maxRecDepth 200000 in
theorem spu (kt : TeS) (s : ByteArray) (w : World) (hs : s.size ≤ 8) (h0 : s.toList.isEmpty = false) (h00 : 0 < s.size) (hS : SenS w) :
    Calls Tryz.prog 34 #[.string s, .int .i64 16, .int .i64 32] w fun r w' => ∃ er, r = .returned (.tuple #[.int .u64 ((puD s : Nat) : Int), er]) ∧ (er = .nilIface ∨ ∃ t p, er = .iface t p) ∧ Below w.heap.size w w' := by
  have k := pu_1 s w hs h0 h00
  have kt' := fun w' => kt s w' hs
  have hd := fun d er (h : PuS s d er) => PuS.d h h00
  clear kt h0 hs
  generalize hD : puD s = D at *
  clear hD
  go_enter Tryz.func34, Tryz.ntmps34
  go_wp2_with fail
  refine k.mono ?_
  rintro r w1 ⟨d, er, rfl, hp, hb⟩
  obtain ⟨rfl, he⟩ := hd _ _ hp
  have HB : Hid (Below w.heap.size w w1) := hb
  have HS : Hid (SenS w1) := hS.later hb
  clear k hd hp hb hS
  rcases he with rfl | rfl
  · go_wp2_with fail
    refine bodyPost_ret (results_tmp2 rfl _ _ _) rfl ?_
    exact ⟨_, rfl, Or.inl rfl, HB.out⟩
  · go_wp2_with fail
    refine (kt' w1 HS.out).mono ?_
    rintro r w2 ⟨⟨t, p, rfl⟩, hb2⟩
    have HB2 : Hid (Below w.heap.size w w2) := HB.out.trans (hb2.mono HB.out.size)
    clear kt' hb2
    go_wp2_with fail
    refine bodyPost_ret (results_tmp2 rfl _ _ _) rfl ?_
    exact ⟨_, rfl, Or.inr ⟨t, p, rfl⟩, HB2.out⟩
end Go.Proofs.YtbmaoiemgepppaaGreatDoor
