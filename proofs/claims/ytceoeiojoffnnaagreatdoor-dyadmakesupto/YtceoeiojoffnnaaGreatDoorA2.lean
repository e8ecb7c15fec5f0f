/- Own work: contracts of the program's functions, part A2. -/
import Derived.Test.YtceoeiojoffnnaaGreatDoorChecked
import Derived.Test.YtceoeiojoffnnaaGreatDoorA1
import Derived.WalkKit
import Derived.WalkSpells
import Derived.WalkLawsBesides
import Derived.BigQuiet
import Derived.LoopTactic
import Derived.Deep.LoopGhost
import Derived.Deep.OwnRows
import Derived.Deep.Light
import Derived.Laws.BitsLemmas
import Derived.Laws.BitsAllLaws
import Derived.Laws.Bits64
import Derived.Laws.MathBits
import Derived.Lib.TrailingZeros
import Derived.Lib.LaidTab

/- Words for slices of digits in memory. -/
namespace Go.Proofs.YtceoeiojoffnnaaGreatDoor
set_option linter.unusedVariables false
set_option linter.unusedSimpArgs false
open Go.RowKit

/-- n cells from an address on hold the lowest n digits of x -/
def At (w : World) (ao : Option Addr) (n x : Nat) : Prop :=
  ∃ b o, (0 < n → ao = some ⟨b, o, none⟩) ∧ ∀ i, i < n → w.cell? ⟨b, o + i, none⟩ = some (.int .u32 (dg x i : Nat))

def sliceLen : Value → Nat | .slice _ n _ => n | _ => 0

theorem dlen_down {x k : Nat} (h : dlen x ≤ k) (h0 : 0 < k) (hd : dg x (k - 1) = 0) : dlen x ≤ k - 1 := by
  by_cases hx : x = 0
  · subst hx; rw [dlen_zero]; omega
  · refine Nat.le_of_not_lt fun hlt => ?_
    have : dlen x = k := by omega
    subst this
    exact dg_top hx hd
theorem dlen_here {x k : Nat} (h : dlen x ≤ k) (hd : k = 0 ∨ dg x (k - 1) ≠ 0) : dlen x = k := by
  rcases hd with hd | hd
  · omega
  · refine Nat.le_antisymm h (Nat.le_of_not_lt fun hlt => hd (dg_past (by omega)))

end Go.Proofs.YtceoeiojoffnnaaGreatDoor

/- trim. -/
namespace Go.Proofs.YtceoeiojoffnnaaGreatDoor
set_option linter.unusedVariables false
set_option linter.unusedSimpArgs false
open Go.RowKit

theorem c62 (ao : Option Addr) (n cap x : Nat) (w : World) (hx : dlen x ≤ n) (hn : n ≤ cap) (hc : n ≤ 70368744177664) (h : At w ao n x) :
    Calls Tryz.prog 38 #[.slice ao n cap] w fun e w' => e = .returned (.slice ao (dlen x) cap) ∧ w' = w := by
  obtain ⟨b, o, hb, hcell⟩ := h
  go_enter Tryz.func38, Tryz.ntmps38
  go_wp2
  go_loop [0] (fun v => ∃ k : Nat, k ≤ n ∧ v = .slice ao k cap ∧ dlen x ≤ k) (fun v => sliceLen v)
  case atStart => exact ⟨n, Nat.le_refl _, rfl, hx⟩
  case round =>
    obtain ⟨k, hk, rfl, hd⟩ := hrel
    by_cases h0 : k = 0
    · subst h0
      have e : dlen x = 0 := by omega
      clear hd hx
      go_wp2
      go_ret
      exact ⟨rfl, rfl⟩
    · obtain ⟨j, rfl⟩ : ∃ j, k = j + 1 := ⟨k - 1, by omega⟩
      have hj : j < n := by omega
      obtain rfl := hb (by omega)
      have g := hcell j hj
      have hdj := Hid.out (p := dlen x ≤ j + 1) hd
      have hD : Hid (dlen x ≤ j + 1) := hd
      clear hd hcell hx
      generalize hq : dg x j = q at g
      have HQ : Hid (dg x j = q) := hq
      clear hq hdj
      by_cases hq0 : q = 0
      · subst hq0
        go_wp2
        exact ⟨⟨j, by omega, rfl, dlen_down hD.out (by omega) HQ.out⟩, by simp [sliceLen]⟩
      · have hq1 : ((q : Int) == 0) = false := by simp; exact hq0
        go_wp2
        go_ret
        rw [dlen_here hD.out (.inr (by rw [Nat.add_sub_cancel, HQ.out]; exact hq0))]
        exact ⟨rfl, rfl⟩
end Go.Proofs.YtceoeiojoffnnaaGreatDoor

/- Plain facts: how the machine's words spell digits. -/
namespace Go.Proofs.YtceoeiojoffnnaaGreatDoor
set_option linter.unusedVariables false
set_option linter.unusedSimpArgs false

theorem two_small {p : Nat} (h : p < 32) : 2 ^ p ≤ 2147483648 := by
  have : 2 ^ p ≤ 2 ^ 31 := Nat.pow_le_pow_right (by omega) (by omega)
  exact this

theorem or_add {a c p : Nat} (ha : a % 2 ^ p = 0) (hc : c < 2 ^ p) : a ||| c = a + c := by
  obtain ⟨m, rfl⟩ : ∃ m, a = 2 ^ p * m := ⟨a / 2 ^ p, by have := Nat.mod_add_div a (2 ^ p); omega⟩
  exact (Nat.two_pow_add_eq_or_of_lt hc m).symm

theorem cast_pow (p : Nat) : (2 : Int) ^ p = ((2 ^ p : Nat) : Int) := by simp

theorem wrap_d {d : Nat} (hd : d < B) : IntKind.u64.wrap (d : Int) = (d : Int) := by
  rw [IntKind.wrap_u64]; unfold B at hd; omega

theorem mul_small {d t : Nat} (hd : d < B) (ht : t ≤ 2147483648) : d * t ≤ 9223372034707292160 := by
  have h1 : d * t ≤ 4294967295 * t := Nat.mul_le_mul_right _ (by unfold B at hd; omega)
  omega

theorem shl_word {d p : Nat} (hd : d < B) (hp : p < 32) : IntKind.u64.wrap (IntKind.u64.wrap (d : Int) * 2 ^ p) = ((d * 2 ^ p : Nat) : Int) := by
  rw [wrap_d hd, cast_pow, IntKind.wrap_u64, ← Int.natCast_mul]
  have := mul_small hd (two_small hp)
  generalize d * 2 ^ p = m at *
  omega

theorem shl_hi {d c p : Nat} (hd : d < B) (hp : p < 32) (hc : c < 2 ^ p) : IntKind.u64.wrap (IntKind.u64.wrap (d : Int) * 2 ^ p) / 4294967296 % 4294967296 = (((c + d * 2 ^ p) / B : Nat) : Int) := by
  rw [shl_word hd hp]
  have h1 := mul_small hd (two_small hp)
  have h2 := two_small hp
  have hq := two_le (p := p) (by omega)
  have h3 : (c + d * 2 ^ p) / B = d * 2 ^ p / B := by
    rw [← hq, ← Nat.div_div_eq_div_mul, ← Nat.div_div_eq_div_mul, Nat.add_mul_div_right _ _ (Nat.two_pow_pos p), Nat.div_eq_of_lt hc, Nat.mul_div_cancel _ (Nat.two_pow_pos p), Nat.zero_add]
  rw [h3]
  generalize d * 2 ^ p = m at *
  unfold B
  omega

theorem shl_lo {d c p : Nat} (hd : d < B) (hp : p < 32) (hc : c < 2 ^ p) :
    bits .or .u32 (IntKind.u64.wrap (IntKind.u64.wrap (d : Int) * 2 ^ p) % 4294967296) (c : Int) = (((c + d * 2 ^ p) % B : Nat) : Int) := by
  rw [shl_word hd hp]
  have h1 := mul_small hd (two_small hp)
  have h2 := two_small hp
  have hq := two_le (p := p) (by omega)
  have e : ((d * 2 ^ p : Nat) : Int) % 4294967296 = (((d * 2 ^ p) % B : Nat) : Int) := by
    unfold B; omega
  rw [e]
  have hm : d * 2 ^ p % B % 2 ^ p = 0 := by
    rw [← hq, Nat.mod_mul_right_mod, Nat.mul_mod_left]
  have hlt : d * 2 ^ p % B < B := Nat.mod_lt _ B_pos
  have hc2 : c < B := by unfold B; omega
  rw [u32_or_nat _ _ hlt hc2]
  have hsum : (c + d * 2 ^ p) % B = d * 2 ^ p % B + c := by
    have h5 : d * 2 ^ p % B + c < B := by
      -- the sum has room: the first part is a multiple of 2^p below B
      obtain ⟨m, hm'⟩ : ∃ m, d * 2 ^ p % B = 2 ^ p * m := ⟨d * 2 ^ p % B / 2 ^ p, by have := Nat.mod_add_div (d * 2 ^ p % B) (2 ^ p); omega⟩
      rw [hm'] at hlt ⊢
      rw [← hq] at hlt
      have h6 : m < 2 ^ (32 - p) := Nat.lt_of_mul_lt_mul_left hlt
      have h7 : 2 ^ p * (m + 1) ≤ 2 ^ p * 2 ^ (32 - p) := Nat.mul_le_mul_left _ h6
      rw [Nat.mul_add, Nat.mul_one, hq] at h7
      omega
    rw [Nat.add_comm, Nat.add_mod, Nat.mod_eq_of_lt hc2, Nat.mod_eq_of_lt h5]
  rw [hsum, or_add hm hc]

theorem two_digits {d0 d1 : Nat} (h0 : d0 < B) (h1 : d1 < B) : bits .or .u64 (IntKind.u64.wrap (d0 : Int)) (IntKind.u64.wrap (IntKind.u64.wrap (d1 : Int) * 4294967296)) = ((d0 + d1 * B : Nat) : Int) := by
  have e : IntKind.u64.wrap (IntKind.u64.wrap (d1 : Int) * 4294967296) = ((d1 * B : Nat) : Int) := by
    rw [wrap_d h1, IntKind.wrap_u64]; unfold B at *; omega
  rw [wrap_d h0, e, u64_or_nat _ _ (by unfold B at *; omega) (by unfold B at *; omega), Nat.or_comm, or_add (p := 32) (by rw [← B_two]; exact Nat.mul_mod_left ..) h0, Nat.add_comm]

theorem shr_word2 {d0 d1 p : Nat} (h0 : d0 < B) (h1 : d1 < B) :
    bits .or .u64 (IntKind.u64.wrap (d0 : Int)) (IntKind.u64.wrap (IntKind.u64.wrap (d1 : Int) * 4294967296)) / 2 ^ p % 4294967296 = (((d0 + d1 * B) / 2 ^ p % B : Nat) : Int) := by
  rw [two_digits h0 h1, cast_pow, ← Int.natCast_ediv]
  generalize (d0 + d1 * B) / 2 ^ p = m
  unfold B; omega
theorem shr_word1 {d0 p : Nat} (h0 : d0 < B) : IntKind.u64.wrap (d0 : Int) / 2 ^ p % 4294967296 = ((d0 / 2 ^ p % B : Nat) : Int) := by
  rw [wrap_d h0, cast_pow, ← Int.natCast_ediv]
  generalize d0 / 2 ^ p = m
  unfold B; omega

end Go.Proofs.YtceoeiojoffnnaaGreatDoor

/- Plain facts: the borrow of a difference of words. -/
namespace Go.Proofs.YtceoeiojoffnnaaGreatDoor
set_option linter.unusedVariables false
set_option linter.unusedSimpArgs false

theorem top_bit {n : Nat} (h : n < 4294967296) : n / 2147483648 = (n.testBit 31).toNat := by
  rw [Nat.testBit_eq_decide_div_mod_eq]
  have h1 : n / 2 ^ 31 < 2 := by omega
  by_cases h2 : n / 2 ^ 31 = 1
  · have : n / 2147483648 = 1 := h2
    rw [this]; rfl
  · have h3 : n / 2 ^ 31 = 0 := by omega
    have : n / 2147483648 = 0 := h3
    rw [this]; rfl
theorem top_of {n : Nat} (h : n < 4294967296) : n.testBit 31 = decide (2147483648 ≤ n) := by
  have h1 := top_bit h
  cases h2 : n.testBit 31
  · rw [h2] at h1; simp at h1; simp; omega
  · rw [h2] at h1; simp at h1; simp; omega

theorem sub_borrow {x y b : Nat} (hx : x < B) (hy : y < B) (hb : b ≤ 1) :
    bits .or .u32 (bits .and .u32 (bits .xor .u32 IntKind.u32.max (x : Int)) (y : Int)) (bits .and .u32 (bits .xor .u32 IntKind.u32.max (bits .xor .u32 (x : Int) (y : Int))) (((x : Int) - y - b) % 4294967296)) / 2147483648
      = ((if x < y + b then 1 else 0 : Nat) : Int) := by
  have hm : IntKind.u32.max = ((4294967295 : Nat) : Int) := by decide
  have hd : ((x : Int) - y - b) % 4294967296 = (((x + 8589934592 - y - b) % 4294967296 : Nat) : Int) := by unfold B at *; omega
  rw [hm, hd]
  unfold B at *
  have hdl : (x + 8589934592 - y - b) % 4294967296 < 4294967296 := Nat.mod_lt _ (by omega)
  generalize hdd : (x + 8589934592 - y - b) % 4294967296 = d at *
  have b1 : 4294967295 ^^^ x < 4294967296 := Nat.xor_lt_two_pow (n := 32) (by omega) hx
  have b2 : x ^^^ y < 4294967296 := Nat.xor_lt_two_pow (n := 32) hx hy
  have b3 : 4294967295 ^^^ (x ^^^ y) < 4294967296 := Nat.xor_lt_two_pow (n := 32) (by omega) b2
  have b4 : (4294967295 ^^^ x) &&& y < 4294967296 := Nat.and_lt_two_pow (n := 32) _ hy
  have b5 : (4294967295 ^^^ (x ^^^ y)) &&& d < 4294967296 := Nat.and_lt_two_pow (n := 32) _ hdl
  rw [u32_xor_nat _ _ (by omega) hx, u32_and_nat _ _ b1 hy, u32_xor_nat _ _ hx hy, u32_xor_nat _ _ (by omega) b2, u32_and_nat _ _ b3 hdl, u32_or_nat _ _ b4 b5]
  have b6 : ((4294967295 ^^^ x) &&& y) ||| ((4294967295 ^^^ (x ^^^ y)) &&& d) < 4294967296 := Nat.or_lt_two_pow (n := 32) b4 b5
  have e := top_bit b6
  rw [Nat.testBit_or, Nat.testBit_and, Nat.testBit_and, Nat.testBit_xor, Nat.testBit_xor, Nat.testBit_xor, top_of hx, top_of hy, top_of hdl] at e
  have em : (4294967295 : Nat).testBit 31 = true := by decide
  rw [em] at e
  have e2 : (((((4294967295 ^^^ x) &&& y) ||| ((4294967295 ^^^ (x ^^^ y)) &&& d) : Nat) : Int)) / 2147483648 = ((((4294967295 ^^^ x) &&& y ||| (4294967295 ^^^ (x ^^^ y)) &&& d) / 2147483648 : Nat) : Int) := by rw [Int.natCast_ediv]; rfl
  rw [e2, e]
  congr 1
  by_cases h1 : 2147483648 ≤ x <;> by_cases h2 : 2147483648 ≤ y <;> by_cases h3 : 2147483648 ≤ d <;> by_cases h4 : x < y + b <;> simp [h1, h2, h3, h4] <;> omega

end Go.Proofs.YtceoeiojoffnnaaGreatDoor

/- A row that a call makes for itself, and numbers in memory. -/
namespace Go.Proofs.YtceoeiojoffnnaaGreatDoor
set_option linter.unusedVariables false
set_option linter.unusedSimpArgs false
open Go.RowKit

theorem Tryz.info39 : (Tryz.prog.info? 39).map (fun i => (i.zero, i.size, i.bytes)) = some (some (.int .u32 0), 1, 4) := by kernel_rfl

/-- the world in which the call has laid one row, of n digits f -/
structure Mk (w wr : World) (n : Nat) (f : Nat → Nat) : Prop where
  below : Below w.heap.size w wr
  size : wr.heap.size = w.heap.size + 1
  row : wr.rowIs w.heap.size 39 n (fun i => .int .u32 (f i : Nat))

theorem Mk.start (w : World) (n : Nat) : Mk w (w.alloc (.cells (madeCells #[.int .u32 0] n) 39)) n (fun _ => 0) :=
  ⟨(Below.refl _ _).alloc (Nat.le_refl _) _, by simp, World.rowIs_made w _ n 39⟩
theorem Mk.cell {w wr : World} {n : Nat} {f : Nat → Nat} (h : Mk w wr n f) {i : Nat} (hi : i < n) : wr.cell? ⟨w.heap.size, i, none⟩ = some (.int .u32 (f i : Nat)) := h.row.cell hi
theorem Mk.frozen {w wr : World} {n : Nat} {f : Nat → Nat} (h : Mk w wr n f) (i : Nat) : wr.frozen? ⟨w.heap.size, i, none⟩ = false := h.row.frozen i
theorem Mk.set {w wr : World} {n : Nat} {f : Nat → Nat} (h : Mk w wr n f) (i d : Nat) : Mk w (wr.setCell ⟨w.heap.size, i, none⟩ (.int .u32 (d : Nat))) n (fun j => if j = i then d else f j) :=
  ⟨h.below.setCell (Nat.le_refl _) _, by simp [h.size], (h.row.set i _).congr (fun j _ => by split <;> rfl)⟩
theorem Mk.congr {w wr : World} {n : Nat} {f g : Nat → Nat} (h : Mk w wr n f) (e : ∀ i, i < n → f i = g i) : Mk w wr n g :=
  ⟨h.below, h.size, h.row.congr (fun i hi => by rw [e i hi])⟩
theorem Mk.at {w wr : World} {n x : Nat} (h : Mk w wr n (dg x)) : At wr (some ⟨w.heap.size, 0, none⟩) n x :=
  ⟨w.heap.size, 0, fun _ => rfl, fun i hi => by rw [Nat.zero_add]; exact h.cell hi⟩
theorem Mk.old {w wr : World} {n : Nat} {f : Nat → Nat} (h : Mk w wr n f) {p : Addr} {u : Value} (hp : w.cell? p = some u) : wr.cell? p = some u :=
  (h.below.cell (World.block_lt_of_cell? _ _ hp)).trans hp

/-- v is a slice in new memory that holds the digits of x -/
def Own (w' : World) (base : Nat) (v : Value) (x : Nat) : Prop :=
  (v = .slice none 0 0 ∧ x = 0) ∨ ∃ g cap f, v = .slice (some ⟨g, 0, none⟩) (dlen x) cap ∧ base ≤ g ∧ dlen x ≤ cap ∧ cap ≤ 70368744177664 ∧ w'.rowIs g 39 cap f ∧ ∀ i, i < dlen x → f i = .int .u32 (dg x i : Nat)
/-- v is a slice that holds the digits of x -/
def Is (w : World) (v : Value) (x : Nat) : Prop := ∃ ao cap, v = .slice ao (dlen x) cap ∧ dlen x ≤ cap ∧ cap ≤ 70368744177664 ∧ At w ao (dlen x) x

theorem Own.is {w : World} {base : Nat} {v : Value} {x : Nat} (h : Own w base v x) : Is w v x := by
  rcases h with ⟨rfl, rfl⟩ | ⟨g, cap, f, rfl, hb, h1, h2, h3, h4⟩
  · exact ⟨none, 0, by rw [dlen_zero], by rw [dlen_zero]; omega, by omega, 0, 0, fun h => by rw [dlen_zero] at h; omega, fun i hi => by rw [dlen_zero] at hi; omega⟩
  · exact ⟨_, cap, rfl, h1, h2, g, 0, fun _ => rfl, fun i hi => by rw [Nat.zero_add, h3.cell (by omega), h4 i hi]⟩
theorem At.later {w w' : World} {ao : Option Addr} {n x : Nat} (h : At w ao n x) (hb : Below w.heap.size w w') : At w' ao n x := by
  obtain ⟨b, o, h1, h2⟩ := h
  exact ⟨b, o, h1, fun i hi => (hb.cell (World.block_lt_of_cell? _ _ (h2 i hi))).trans (h2 i hi)⟩
theorem Is.later {w w' : World} {v : Value} {x : Nat} (h : Is w v x) (hb : Below w.heap.size w w') : Is w' v x := by
  obtain ⟨ao, cap, h1, h2, h3, h4⟩ := h
  exact ⟨ao, cap, h1, h2, h3, h4.later hb⟩
theorem Own.later {w w' : World} {base : Nat} {v : Value} {x : Nat} (h : Own w base v x) (hb : Below w.heap.size w w') : Own w' base v x := by
  rcases h with h | ⟨g, cap, f, h0, h1, h2, h3, h4, h5⟩
  · exact .inl h
  · exact .inr ⟨g, cap, f, h0, h1, h2, h3, h4.of_block (hb.block _ h4.lt), h5⟩
theorem Own.mono {w : World} {base base' : Nat} {v : Value} {x : Nat} (h : Own w base v x) (hb : base' ≤ base) : Own w base' v x := by
  rcases h with h | ⟨g, cap, f, h0, h1, h2⟩
  · exact .inl h
  · exact .inr ⟨g, cap, f, h0, Nat.le_trans hb h1, h2⟩
theorem below_step {w w1 w2 : World} (h1 : Below w.heap.size w w1) (h2 : Below w1.heap.size w1 w2) : Below w.heap.size w w2 := h1.trans (h2.mono h1.size)
theorem Mk.own {w wr : World} {n x : Nat} (h : Mk w wr n (dg x)) (hx : dlen x ≤ n) (hn : n ≤ 70368744177664) : Own wr w.heap.size (.slice (some ⟨w.heap.size, 0, none⟩) (dlen x) n) x :=
  .inr ⟨w.heap.size, n, _, rfl, Nat.le_refl _, hx, hn, h.row, fun i hi => rfl⟩

theorem shl_split (x k : Nat) : x * 2 ^ k = x * 2 ^ (k % 32) * B ^ (k / 32) := by
  rw [two_split (k := k)]; grind

theorem shl_round {w wr : World} {n x k whole part j d c : Nat} (hw : k / 32 = whole) (hp : k % 32 = part) (hM : Mk w wr (whole + n + 1) (fun t => if t < whole + j then dg (x * 2 ^ k) t else 0))
    (hd : dg x j = d) (hc : mulc x (2 ^ part) j = c) (hdl : d < B) (hcl : c < 2 ^ part) (hj : j < n) :
    (∃ j_1 : Nat, j_1 ≤ n ∧ Value.int .u32 (IntKind.u64.wrap (IntKind.u64.wrap (d : Int) * 2 ^ part) / 4294967296 % 4294967296) = Value.int .u32 (mulc x (2 ^ part) j_1 : Nat) ∧ Value.int .i64 ((j : Int) + 1) = Value.int .i64 (j_1 : Int) ∧
      Mk w (wr.setCell ⟨w.heap.size, whole + j, none⟩ (Value.int .u32 (bits .or .u32 (IntKind.u64.wrap (IntKind.u64.wrap (d : Int) * 2 ^ part) % 4294967296) (c : Int)))) (whole + n + 1) fun t => if t < whole + j_1 then dg (x * 2 ^ k) t else 0) ∧
    n - (intOf (Value.int .i64 ((j : Int) + 1))).toNat < n - (intOf (Value.int .i64 (j : Int))).toNat := by
  have hpb : part < 32 := by omega
  refine ⟨⟨j + 1, by omega, ?_, by simp, ?_⟩, by simp [intOf]; omega⟩
  · rw [shl_hi hdl hpb hcl, mulc_succ, hd, hc]
  · rw [shl_lo hdl hpb hcl]
    refine (hM.set (whole + j) _).congr fun i hi => ?_
    by_cases e : i = whole + j
    · subst e
      rw [if_pos rfl, if_pos (by omega), shl_split x k, hw, hp, dg_shl, dg_mul, hd, hc]
    · rw [if_neg e]
      by_cases e2 : i < whole + j
      · rw [if_pos e2, if_pos (by omega)]
      · rw [if_neg e2, if_neg (by omega)]

theorem shl_len {x k n : Nat} (hn : dlen x = n) : dlen (x * 2 ^ k) ≤ k / 32 + n + 1 := by
  rw [dlen_le, shl_split]
  have h1 := lt_dlen x
  rw [hn] at h1
  have h2 : 2 ^ (k % 32) ≤ B := by have := two_small (p := k % 32) (by omega); unfold B; omega
  have h3 : B ^ (k / 32 + n + 1) = B ^ n * B * B ^ (k / 32) := by rw [Nat.pow_add, Nat.pow_add, Nat.pow_one]; grind
  rw [h3]
  refine Nat.mul_lt_mul_of_pos_right ?_ (Bpow_pos _)
  exact Nat.mul_lt_mul_of_lt_of_le h1 h2 B_pos

theorem shl_end {w wr : World} {n x k whole part c : Nat} (hw : k / 32 = whole) (hp : k % 32 = part) (hn : dlen x = n) (hM : Mk w wr (whole + n + 1) (fun t => if t < whole + n then dg (x * 2 ^ k) t else 0))
    (hc : mulc x (2 ^ part) n = c) (hcl : c < 2 ^ part) : Mk w (wr.setCell ⟨w.heap.size, whole + n, none⟩ (Value.int .u32 (c : Nat))) (whole + n + 1) (dg (x * 2 ^ k)) := by
  refine (hM.set (whole + n) c).congr fun i hi => ?_
  by_cases e : i = whole + n
  · subst e
    rw [if_pos rfl, shl_split, hw, hp, dg_shl, dg_mul, hc]
    have h1 := lt_dlen x
    rw [hn] at h1
    have h2 := two_small (p := part) (by omega)
    rw [dg_of_lt h1, Nat.zero_mul, Nat.add_zero, Nat.mod_eq_of_lt (by unfold B; omega)]
  · rw [if_neg e, if_pos (by omega)]

theorem c109_1 (ao : Option Addr) (cap x k : Nat) (w : World) (hx0 : 0 < dlen x) (hx : dlen x ≤ 35184372088832) (hk : k ≤ 1099511627776) (h : At w ao (dlen x) x) :
    Calls Tryz.prog 82 #[.slice ao (dlen x) cap, .int .i64 k] w fun e w' => ∃ v, e = .returned v ∧ Own w' w.heap.size v (x * 2 ^ k) ∧ Below w.heap.size w w' := by
  obtain ⟨b, o, hb, hcell⟩ := h
  obtain rfl := hb hx0
  generalize hn : dlen x = n at *
  have hq : (k : Int).tdiv 32 = ((k / 32 : Nat) : Int) := by rw [Int.tdiv_eq_ediv_of_nonneg (by omega)]; rfl
  have hr : (k : Int).tmod 32 = ((k % 32 : Nat) : Int) := by rw [Int.tmod_eq_emod_of_nonneg (by omega)]; rfl
  have hn0 : ((n : Int) == 0) = false := by simp; omega
  generalize hwh : k / 32 = whole at *
  generalize hpa : k % 32 = part at *
  have hmk := run_make_row' (P := Tryz.prog) 23 39 (.int .u32 0) 4 Tryz.underlying23 Tryz.info39 rfl .i64 .i64 (whole + n + 1) (by omega) (by omega)
  rw [show ((whole + n + 1 : Nat) : Int) = (whole : Int) + n + 1 by omega] at hmk
  have HN : Hid (dlen x = n) := hn
  have HW : Hid (k / 32 = whole) := hwh
  have HP : Hid (k % 32 = part) := hpa
  have hwb : whole ≤ 1099511627776 := by omega
  have hpb : part < 32 := by omega
  clear hn hwh hpa
  go_enter Tryz.func82, Tryz.ntmps82
  go_wp2
  clear hmk
  go_loopw [8, 27] (fun c i wr => ∃ j : Nat, j ≤ n ∧ c = .int .u32 (mulc x (2 ^ part) j : Nat) ∧ i = .int .i64 j ∧ Mk w wr (whole + n + 1) (fun t => if t < whole + j then dg (x * 2 ^ k) t else 0)) (fun _ i _ => n - (intOf i).toNat)
  case atStart => exact ⟨0, Nat.zero_le _, by rw [mulc_zero]; rfl, rfl, (Mk.start w _).congr fun i hi => by
    by_cases e : i < whole + 0
    · rw [if_pos e, shl_split, HW.out, HP.out, dg_shl_low (by omega)]
    · rw [if_neg e]⟩
  case round =>
    obtain ⟨j, hj, rfl, rfl, hM⟩ := hrel
    by_cases hjn : j < n
    · have g1 := hM.old (hcell j hjn)
      have g2 := hM.cell (i := whole + j) (by omega)
      have g3 := hM.frozen (whole + j)
      have hdl := dg_lt x j
      have hcl := mulc_lt (x := x) (i := j) (Nat.two_pow_pos part)
      rw [if_neg (by omega)] at g2
      have hji : (j : Int) < (n : Int) := by omega
      generalize hd : dg x j = d at *
      generalize hc : mulc x (2 ^ part) j = c at *
      have HD : Hid (dg x j = d) := hd
      have HC : Hid (mulc x (2 ^ part) j = c) := hc
      have HDL : Hid (d < B) := hdl
      have HCL : Hid (c < 2 ^ part) := hcl
      have HM : Hid (Mk w wr (whole + n + 1) (fun t => if t < whole + j then dg (x * 2 ^ k) t else 0)) := hM
      clear hd hc hdl hcl hM hcell
      go_wp2
      exact shl_round HW.out HP.out HM.out HD.out HC.out HDL.out HCL.out hjn
    · obtain rfl : j = n := by omega
      have g2 := hM.cell (i := whole + j) (by omega)
      have g3 := hM.frozen (whole + j)
      have hcl := mulc_lt (x := x) (i := j) (Nat.two_pow_pos part)
      rw [if_neg (by omega)] at g2
      generalize hc : mulc x (2 ^ part) j = c at *
      have hE := shl_end HW.out HP.out HN.out hM hc hcl
      have hA := hE.at
      have hL := shl_len (k := k) HN.out
      rw [HW.out] at hL
      have HC : Hid (Mk w (wr.setCell ⟨w.heap.size, whole + j, none⟩ (Value.int .u32 (c : Nat))) (whole + j + 1) (dg (x * 2 ^ k))) := hE
      clear hc hcl hM hcell hE
      go_wp2_with (first | (go_at_call 38; refine (c62 _ _ _ (x * 2 ^ k) _ hL (Nat.le_refl _) (by omega) hA).mono ?_; rintro e w' ⟨rfl, rfl⟩))
      go_ret
      exact ⟨_, rfl, HC.out.own hL (by omega), HC.out.below⟩

theorem c109_0 (ao : Option Addr) (cap k : Nat) (w : World) (hk : k ≤ 1099511627776) :
    Calls Tryz.prog 82 #[.slice ao 0 cap, .int .i64 k] w fun e w' => e = .returned (.slice none 0 0) ∧ w' = w := by
  have hq : (k : Int).tdiv 32 = ((k / 32 : Nat) : Int) := by rw [Int.tdiv_eq_ediv_of_nonneg (by omega)]; rfl
  have hr : (k : Int).tmod 32 = ((k % 32 : Nat) : Int) := by rw [Int.tmod_eq_emod_of_nonneg (by omega)]; rfl
  go_enter Tryz.func82, Tryz.ntmps82
  go_wp2
  go_ret
  exact ⟨rfl, rfl⟩

theorem c109 {v : Value} {x : Nat} {w : World} (h : Is w v x) (k : Nat) (hx : dlen x ≤ 35184372088832) (hk : k ≤ 1099511627776) :
    Calls Tryz.prog 82 #[v, .int .i64 k] w fun e w' => ∃ v, e = .returned v ∧ Own w' w.heap.size v (x * 2 ^ k) ∧ Below w.heap.size w w' := by
  obtain ⟨ao, cap, rfl, h1, h2, h3⟩ := h
  by_cases h0 : x = 0
  · subst h0
    rw [dlen_zero]
    refine (c109_0 ao cap k w hk).mono ?_
    rintro e w' ⟨rfl, rfl⟩
    exact ⟨_, rfl, .inl ⟨rfl, by simp⟩, Below.refl _ _⟩
  · exact c109_1 ao cap x k w (Nat.pos_of_ne_zero fun h => h0 (dlen_eq_zero.1 h)) hx hk h3

end Go.Proofs.YtceoeiojoffnnaaGreatDoor

/- shiftRight, digitsOf. -/
namespace Go.Proofs.YtceoeiojoffnnaaGreatDoor
set_option linter.unusedVariables false
set_option linter.unusedSimpArgs false
open Go.RowKit

theorem shr_digit {x k whole part j : Nat} (hw : k / 32 = whole) (hp : k % 32 = part) : dg (x / 2 ^ k) j = (dg x (whole + j) + dg x (whole + (j + 1)) * B) / 2 ^ part % B := by
  rw [two_split (k := k), ← Nat.div_div_eq_div_mul, dg_shr (by omega), hw, hp, dg_div, dg_div]

theorem shr_len {x k m : Nat} (h : dlen x = k / 32 + m) : dlen (x / 2 ^ k) ≤ m := by
  rw [dlen_le, two_split (k := k), ← Nat.div_div_eq_div_mul]
  have h1 := lt_dlen x
  rw [h, Nat.pow_add, Nat.mul_comm] at h1
  have h2 := (Nat.div_lt_iff_lt_mul (Bpow_pos (k / 32))).2 h1
  exact Nat.lt_of_le_of_lt (Nat.div_le_self ..) h2

theorem shr_round {w wr : World} {m x k j : Nat} {q : Int} (hM : Mk w wr m (fun t => if t < j then dg (x / 2 ^ k) t else 0)) (hq : q = (dg (x / 2 ^ k) j : Nat)) (hj : j < m) :
    (∃ j_1 : Nat, j_1 ≤ m ∧ Value.int .i64 ((j : Int) + 1) = Value.int .i64 (j_1 : Int) ∧
      Mk w (wr.setCell ⟨w.heap.size, j, none⟩ (Value.int .u32 q)) m fun t => if t < j_1 then dg (x / 2 ^ k) t else 0) ∧
    m - (intOf (Value.int .i64 ((j : Int) + 1))).toNat < m - (intOf (Value.int .i64 (j : Int))).toNat := by
  subst hq
  refine ⟨⟨j + 1, by omega, by simp, (hM.set j _).congr fun i hi => ?_⟩, by simp [intOf]; omega⟩
  by_cases e : i = j
  · subst e
    rw [if_pos rfl, if_pos (by omega)]
  · rw [if_neg e]
    by_cases e2 : i < j
    · rw [if_pos e2, if_pos (by omega)]
    · rw [if_neg e2, if_neg (by omega)]

theorem c120_0 (ao : Option Addr) (n cap k : Nat) (w : World) (hk : k ≤ 1099511627776) (hn : n ≤ k / 32) :
    Calls Tryz.prog 63 #[.slice ao n cap, .int .i64 k] w fun e w' => e = .returned (.slice none 0 0) ∧ w' = w := by
  have hq : (k : Int).tdiv 32 = ((k / 32 : Nat) : Int) := by rw [Int.tdiv_eq_ediv_of_nonneg (by omega)]; rfl
  have hr : (k : Int).tmod 32 = ((k % 32 : Nat) : Int) := by rw [Int.tmod_eq_emod_of_nonneg (by omega)]; rfl
  have hwb : k / 32 ≤ 1099511627776 := by omega
  generalize k / 32 = whole at *
  generalize k % 32 = part at *
  have hni : (n : Int) ≤ (whole : Int) := by omega
  clear hn
  go_enter Tryz.func63, Tryz.ntmps63
  go_wp2
  go_ret
  exact ⟨rfl, rfl⟩

theorem c120_1 (b o cap m whole part x k : Nat) (w : World) (hm0 : 0 < m) (hm : m ≤ 35184372088832) (hk : k ≤ 1099511627776) (hcap : whole + m ≤ cap) (hcap2 : cap ≤ 70368744177664) (hwh : k / 32 = whole) (hpa : k % 32 = part)
    (hn : dlen x = whole + m) (hcell : ∀ i, i < whole + m → w.cell? ⟨b, o + i, none⟩ = some (.int .u32 (dg x i : Nat))) :
    Calls Tryz.prog 63 #[.slice (some ⟨b, o, none⟩) (whole + m : Nat) cap, .int .i64 k] w fun e w' => ∃ v, e = .returned v ∧ Own w' w.heap.size v (x / 2 ^ k) ∧ Below w.heap.size w w' := by
  have hq : (k : Int).tdiv 32 = ((k / 32 : Nat) : Int) := by rw [Int.tdiv_eq_ediv_of_nonneg (by omega)]; rfl
  have hr : (k : Int).tmod 32 = ((k % 32 : Nat) : Int) := by rw [Int.tmod_eq_emod_of_nonneg (by omega)]; rfl
  have hwb : whole ≤ 1099511627776 := by omega
  have hpb : part < 32 := by omega
  rw [hwh] at hq
  rw [hpa] at hr
  have hmk := run_make_row' (P := Tryz.prog) 23 39 (.int .u32 0) 4 Tryz.underlying23 Tryz.info39 rfl .i64 .i64 m (by omega) (by omega)
  have HN : Hid (dlen x = whole + m) := hn
  have HW : Hid (k / 32 = whole) := hwh
  have HP : Hid (k % 32 = part) := hpa
  clear hn hwh hpa
  have hmi : (whole : Int) < ((whole + m : Nat) : Int) := by omega
  have hmi2 : ¬ whole = cap := by omega
  go_enter Tryz.func63, Tryz.ntmps63
  go_wp2
  clear hmk
  go_loopw [27] (fun i wr => ∃ j : Nat, j ≤ m ∧ i = .int .i64 j ∧ Mk w wr m (fun t => if t < j then dg (x / 2 ^ k) t else 0)) (fun i _ => m - (intOf i).toNat)
  case atStart => exact ⟨0, Nat.zero_le _, rfl, (Mk.start w _).congr fun i hi => by rw [if_neg (by omega)]⟩
  case round =>
    obtain ⟨j, hj, rfl, hM⟩ := hrel
    by_cases hjn : j + 1 < m
    · have g1 := hM.old (hcell (whole + j) (by omega))
      have g4 := hM.old (hcell (whole + (j + 1)) (by omega))
      rw [← Nat.add_assoc] at g1 g4
      have g2 := hM.cell (i := j) (by omega)
      have g3 := hM.frozen j
      rw [if_neg (by omega)] at g2
      have hji : (j : Int) + 1 < (m : Int) := by omega
      have HM : Hid (Mk w wr m (fun t => if t < j then dg (x / 2 ^ k) t else 0)) := hM
      generalize hd : dg x (whole + j) = d at *
      generalize hd1 : dg x (whole + (j + 1)) = d1 at *
      have HD : Hid (dg x (whole + j) = d) := hd
      have HD1 : Hid (dg x (whole + (j + 1)) = d1) := hd1
      have HL : Hid (d < B ∧ d1 < B) := ⟨hd ▸ dg_lt _ _, hd1 ▸ dg_lt _ _⟩
      clear hd hd1 hM hcell
      go_wp2
      exact shr_round HM.out (by rw [shr_word2 HL.out.1 HL.out.2, shr_digit HW.out HP.out, HD.out, HD1.out]) (by omega)
    · by_cases hjm : j < m
      · have g1 := hM.old (hcell (whole + j) (by omega))
        rw [← Nat.add_assoc] at g1
        have g2 := hM.cell (i := j) (by omega)
        have g3 := hM.frozen j
        rw [if_neg (by omega)] at g2
        have hji : ¬ (j : Int) + 1 < (m : Int) := by omega
        have hji2 : (j : Int) < (m : Int) := by omega
        have HM : Hid (Mk w wr m (fun t => if t < j then dg (x / 2 ^ k) t else 0)) := hM
        generalize hd : dg x (whole + j) = d at *
        have HD : Hid (dg x (whole + j) = d) := hd
        have HL : Hid (d < B) := hd ▸ dg_lt _ _
        have HZ : Hid (dg x (whole + (j + 1)) = 0) := dg_past (by rw [HN.out]; omega)
        clear hd hM hcell
        go_wp2
        exact shr_round HM.out (by rw [shr_word1 HL.out, shr_digit HW.out HP.out, HD.out, HZ.out, Nat.zero_mul, Nat.add_zero]) (by omega)
      · obtain rfl : j = m := by omega
        have hE : Mk w wr j (dg (x / 2 ^ k)) := hM.congr fun i hi => if_pos hi
        have hA := hE.at
        have hL := shr_len (k := k) (m := j) (by rw [HW.out]; exact HN.out)
        have HC : Hid (Mk w wr j (dg (x / 2 ^ k))) := hE
        clear hM hcell hE
        go_wp2_with (first | (go_at_call 38; refine (c62 _ _ _ (x / 2 ^ k) _ hL (Nat.le_refl _) (by omega) hA).mono ?_; rintro e w' ⟨rfl, rfl⟩))
        go_ret
        exact ⟨_, rfl, HC.out.own hL (by omega), HC.out.below⟩

theorem c120 {v : Value} {x : Nat} {w : World} (h : Is w v x) (k : Nat) (hx : dlen x ≤ 35184372088832) (hk : k ≤ 1099511627776) :
    Calls Tryz.prog 63 #[v, .int .i64 k] w fun e w' => ∃ v, e = .returned v ∧ Own w' w.heap.size v (x / 2 ^ k) ∧ Below w.heap.size w w' := by
  obtain ⟨ao, cap, rfl, h1, h2, b, o, h3, h4⟩ := h
  by_cases h0 : dlen x ≤ k / 32
  · refine (c120_0 ao _ cap k w hk h0).mono ?_
    rintro e w' ⟨rfl, rfl⟩
    refine ⟨_, rfl, .inl ⟨rfl, ?_⟩, Below.refl _ _⟩
    have h5 := (dlen_le _ _).1 h0
    rw [two_split (k := k), ← Nat.div_div_eq_div_mul, Nat.div_eq_of_lt h5, Nat.zero_div]
  · obtain rfl := h3 (by omega)
    obtain ⟨m, hm⟩ : ∃ m, dlen x = k / 32 + m := ⟨dlen x - k / 32, by omega⟩
    rw [hm] at h4 ⊢
    exact c120_1 b o cap m _ _ x k w (by omega) (by omega) hk (by omega) h2 rfl rfl hm h4

theorem c57 (n : Nat) (w : World) (hn : n < 18446744073709551616) :
    Calls Tryz.prog 32 #[.int .u64 n] w fun e w' => ∃ v, e = .returned v ∧ Own w' w.heap.size v n ∧ Below w.heap.size w w' := by
  have hL : dlen n ≤ 2 := (dlen_le 2 n).2 (by unfold B; omega)
  have hM : Mk w (w.alloc (Obj.cells #[Value.int IntKind.u32 ((n : Int) % 4294967296), Value.int IntKind.u32 ((n : Int) / 4294967296)] 39)) 2 (dg n) := by
    refine ⟨(Below.refl _ _).alloc (Nat.le_refl _) _, by simp, World.rowIs_alloc w _ _ _ fun i hi => ?_⟩
    match i, hi with
    | 0, _ => simp [dg, B]
    | 1, _ => simp [dg, B]; omega
  have hA := hM.at
  go_enter Tryz.func32, Tryz.ntmps32
  go_wp2_with (first | (go_at_call 38; refine (c62 _ _ _ n _ hL (Nat.le_refl _) (by omega) hA).mono ?_; rintro e w' ⟨rfl, rfl⟩))
  go_ret
  exact ⟨_, rfl, hM.own hL (by omega), hM.below⟩
end Go.Proofs.YtceoeiojoffnnaaGreatDoor

/- Sub32, Add32, addDigits, subDigits. -/
namespace Go.Proofs.YtceoeiojoffnnaaGreatDoor
set_option linter.unusedVariables false
set_option linter.unusedSimpArgs false
open Go.RowKit

theorem c174 {x y b : Nat} (hx : x < B) (hy : y < B) (hb : b ≤ 1) (w : World) :
    Calls Tryz.prog 100 #[.int .u32 x, .int .u32 y, .int .u32 b] w fun e w' => e = .returned (.tuple #[.int .u32 ((x + B + B - y - b) % B : Nat), .int .u32 (if x < y + b then 1 else 0 : Nat)]) ∧ w' = w := by
  have h1 := sub_borrow hx hy hb
  have h2 : ((x : Int) - y - b) % 4294967296 = (((x + B + B - y - b) % B : Nat) : Int) := by unfold B at *; omega
  generalize (if x < y + b then 1 else 0 : Nat) = r at *
  generalize (x + B + B - y - b) % B = d at *
  have H1 := Hid.out (p := _) h1
  have HH : Hid (bits .or .u32 (bits .and .u32 (bits .xor .u32 IntKind.u32.max (x : Int)) (y : Int)) (bits .and .u32 (bits .xor .u32 IntKind.u32.max (bits .xor .u32 (x : Int) (y : Int))) (((x : Int) - y - b) % 4294967296)) / 2147483648 = (r : Int)) := h1
  have H2 : Hid (((x : Int) - y - b) % 4294967296 = (d : Int)) := h2
  clear h1 h2 H1
  go_enter Tryz.func100, Tryz.ntmps100
  go_wp2
  go_ret2
  rw [HH.out, H2.out]
  exact ⟨rfl, rfl⟩
theorem c188 {x y b : Nat} (hx : x < B) (hy : y < B) (hb : b ≤ 1) (w : World) :
    Calls Tryz.prog 122 #[.int .u32 x, .int .u32 y, .int .u32 b] w fun e w' => e = .returned (.tuple #[.int .u32 ((x + y + b) % B : Nat), .int .u32 ((x + y + b) / B : Nat)]) ∧ w' = w := by
  have h1 : IntKind.u64.wrap (IntKind.u64.wrap (IntKind.u64.wrap (x : Int) + IntKind.u64.wrap (y : Int)) + IntKind.u64.wrap (b : Int)) = ((x + y + b : Nat) : Int) := by
    rw [wrap_d hx, wrap_d hy, wrap_d (by unfold B; omega), IntKind.wrap_u64, IntKind.wrap_u64]; unfold B at *; omega
  have HH : Hid (IntKind.u64.wrap (IntKind.u64.wrap (IntKind.u64.wrap (x : Int) + IntKind.u64.wrap (y : Int)) + IntKind.u64.wrap (b : Int)) = ((x + y + b : Nat) : Int)) := h1
  have Hb : Hid (b ≤ 1) := hb
  clear h1 hb
  go_enter Tryz.func122, Tryz.ntmps122
  go_wp2
  go_ret2
  have hb := Hb.out
  rw [HH.out, show ((x + y + b : Nat) : Int) % 4294967296 = (((x + y + b) % B : Nat) : Int) by unfold B at *; omega, show ((x + y + b : Nat) : Int) / 4294967296 % 4294967296 = (((x + y + b) / B : Nat) : Int) by unfold B at *; omega]
  exact ⟨rfl, rfl⟩

theorem add_round {w wr : World} {n x y j : Nat} {q : Int} (hM : Mk w wr (n + 1) (fun t => if t < j then dg (x + y) t else 0)) (hq : q = (addc x y j + dg x j + dg y j : Nat)) (hj : j < n) :
    (∃ j_1 : Nat, j_1 ≤ n ∧ Value.int .u64 (q / 4294967296) = Value.int .u64 (addc x y j_1 : Nat) ∧ Value.int .i64 ((j : Int) + 1) = Value.int .i64 (j_1 : Int) ∧
      Mk w (wr.setCell ⟨w.heap.size, j, none⟩ (Value.int .u32 (q % 4294967296))) (n + 1) fun t => if t < j_1 then dg (x + y) t else 0) ∧
    n - (intOf (Value.int .i64 ((j : Int) + 1))).toNat < n - (intOf (Value.int .i64 (j : Int))).toNat := by
  have e1 : q / 4294967296 = (addc x y (j + 1) : Nat) := by rw [addc_succ, hq]; unfold B; omega
  have e2 : q % 4294967296 = (dg (x + y) j : Nat) := by rw [dg_add, hq]; unfold B; omega
  rw [e1, e2]
  refine ⟨⟨j + 1, by omega, rfl, by simp, (hM.set j _).congr fun i hi => ?_⟩, by simp [intOf]; omega⟩
  by_cases e : i = j
  · subst e
    rw [if_pos rfl, if_pos (by omega)]
  · rw [if_neg e]
    by_cases e2 : i < j
    · rw [if_pos e2, if_pos (by omega)]
    · rw [if_neg e2, if_neg (by omega)]

theorem add_len {x y n : Nat} (hx : dlen x = n) (hy : dlen y ≤ n) : dlen (x + y) ≤ n + 1 := by
  rw [dlen_le, Bpow_succ]
  have h1 := lt_dlen x
  have h2 := (dlen_le n y).1 hy
  rw [hx] at h1
  have : B ^ n * 2 ≤ B ^ n * B := Nat.mul_le_mul_left _ (by unfold B; omega)
  omega

theorem add_end {w wr : World} {n x y : Nat} {q : Int} (hx : dlen x = n) (hy : dlen y ≤ n) (hM : Mk w wr (n + 1) (fun t => if t < n then dg (x + y) t else 0)) (hq : q = (addc x y n : Nat)) :
    Mk w (wr.setCell ⟨w.heap.size, n, none⟩ (Value.int .u32 q)) (n + 1) (dg (x + y)) := by
  subst hq
  refine (hM.set n _).congr fun i hi => ?_
  by_cases e : i = n
  · subst e
    rw [if_pos rfl, dg_add, dg_past (x := x) (by omega), dg_past hy, Nat.add_zero, Nat.mod_eq_of_lt]
    have := addc_le x y i
    unfold B; omega
  · rw [if_neg e, if_pos (by omega)]

theorem c122_1 (ao bo : Option Addr) (ba oa bb ob na nb ca cb x y : Nat) (w : World) (ha : 0 < na → ao = some ⟨ba, oa, none⟩) (hb : 0 < nb → bo = some ⟨bb, ob, none⟩) (hna : na ≤ 35184372088832) (hx : dlen x = na) (hy : dlen y = nb) (hle : nb ≤ na)
    (hca : ∀ i, i < na → w.cell? ⟨ba, oa + i, none⟩ = some (.int .u32 (dg x i : Nat))) (hcb : ∀ i, i < nb → w.cell? ⟨bb, ob + i, none⟩ = some (.int .u32 (dg y i : Nat))) :
    Calls Tryz.prog 65 #[.slice ao na ca, .slice bo nb cb] w fun e w' => ∃ v, e = .returned v ∧ Own w' w.heap.size v (x + y) ∧ Below w.heap.size w w' := by
  have hmk := run_make_row' (P := Tryz.prog) 23 39 (.int .u32 0) 4 Tryz.underlying23 Tryz.info39 rfl .i64 .i64 (na + 1) (by omega) (by omega)
  rw [show ((na + 1 : Nat) : Int) = (na : Int) + 1 by omega] at hmk
  have HX : Hid (dlen x = na) := hx
  have HY : Hid (dlen y = nb) := hy
  have hlt : ¬ (na : Int) < (nb : Int) := by omega
  clear hx hy
  go_enter Tryz.func65, Tryz.ntmps65
  go_wp2
  clear hmk
  go_loopw [6, 22] (fun c i wr => ∃ j : Nat, j ≤ na ∧ c = .int .u64 (addc x y j : Nat) ∧ i = .int .i64 j ∧ Mk w wr (na + 1) (fun t => if t < j then dg (x + y) t else 0)) (fun _ i _ => na - (intOf i).toNat)
  case atStart => exact ⟨0, Nat.zero_le _, by rw [addc_zero]; rfl, rfl, (Mk.start w _).congr fun i hi => by rw [if_neg (by omega)]⟩
  case round =>
    obtain ⟨j, hj, rfl, rfl, hM⟩ := hrel
    by_cases hja : j < na
    · obtain rfl := ha (by omega)
      have g1 := hM.old (hca j hja)
      have g2 := hM.cell (i := j) (by omega)
      have g3 := hM.frozen j
      rw [if_neg (by omega)] at g2
      have hji : (j : Int) < (na : Int) := by omega
      have HM : Hid (Mk w wr (na + 1) (fun t => if t < j then dg (x + y) t else 0)) := hM
      have HL : Hid (dg x j < B ∧ dg y j < B ∧ addc x y j ≤ 1) := ⟨dg_lt _ _, dg_lt _ _, addc_le _ _ _⟩
      by_cases hjb : j < nb
      · obtain rfl := hb (by omega)
        have g4 := hM.old (hcb j hjb)
        have hji2 : (j : Int) < (nb : Int) := by omega
        generalize hd : dg x j = d at *
        generalize hd1 : dg y j = d1 at *
        generalize hc : addc x y j = c at *
        have HD : Hid (dg x j = d ∧ dg y j = d1 ∧ addc x y j = c) := ⟨hd, hd1, hc⟩
        clear hd hd1 hc hM hca hcb
        go_wp2
        refine add_round HM.out ?_ hja
        obtain ⟨l1, l2, l3⟩ := HL.out
        obtain ⟨d1, d2, d3⟩ := HD.out
        rw [d1, d2, d3, wrap_d l1, wrap_d l2, IntKind.wrap_u64, IntKind.wrap_u64]
        unfold B at l1 l2
        omega
      · have hji2 : ¬ (j : Int) < (nb : Int) := by omega
        generalize hd : dg x j = d at *
        generalize hc : addc x y j = c at *
        have HD : Hid (dg x j = d ∧ addc x y j = c) := ⟨hd, hc⟩
        clear hd hc hM hca hcb
        have HZ : Hid (dg y j = 0) := dg_past (by rw [HY.out]; omega)
        go_wp2
        refine add_round HM.out ?_ hja
        obtain ⟨l1, l2, l3⟩ := HL.out
        obtain ⟨d1, d3⟩ := HD.out
        rw [d1, d3, HZ.out, wrap_d l1, IntKind.wrap_u64]
        unfold B at l1
        omega
    · obtain rfl : j = na := by omega
      have g2 := hM.cell (i := j) (by omega)
      have g3 := hM.frozen j
      rw [if_neg (by omega)] at g2
      have hcl := addc_le x y j
      have hE := add_end (q := (addc x y j : Nat)) HX.out (by rw [HY.out]; omega) hM rfl
      have hA := hE.at
      have hL := add_len HX.out (y := y) (by rw [HY.out]; omega)
      generalize addc x y j = c at *
      have hc : (c : Int) % 4294967296 = c := by omega
      have HC : Hid (Mk w (wr.setCell ⟨w.heap.size, j, none⟩ (Value.int .u32 (c : Nat))) (j + 1) (dg (x + y))) := hE
      clear hM hca hcb hE
      go_wp2_with (first | (go_at_call 38; refine (c62 _ _ _ (x + y) _ hL (Nat.le_refl _) (by omega) hA).mono ?_; rintro e w' ⟨rfl, rfl⟩))
      go_ret
      exact ⟨_, rfl, HC.out.own hL (by omega), HC.out.below⟩

theorem c122_2 (ao bo : Option Addr) (ba oa bb ob na nb ca cb x y : Nat) (w : World) (ha : 0 < na → ao = some ⟨ba, oa, none⟩) (hb : 0 < nb → bo = some ⟨bb, ob, none⟩) (hna : na ≤ 35184372088832) (hx : dlen x = na) (hy : dlen y = nb) (hle : nb < na)
    (hca : ∀ i, i < na → w.cell? ⟨ba, oa + i, none⟩ = some (.int .u32 (dg x i : Nat))) (hcb : ∀ i, i < nb → w.cell? ⟨bb, ob + i, none⟩ = some (.int .u32 (dg y i : Nat))) :
    Calls Tryz.prog 65 #[.slice bo nb cb, .slice ao na ca] w fun e w' => ∃ v, e = .returned v ∧ Own w' w.heap.size v (x + y) ∧ Below w.heap.size w w' := by
  have hmk := run_make_row' (P := Tryz.prog) 23 39 (.int .u32 0) 4 Tryz.underlying23 Tryz.info39 rfl .i64 .i64 (na + 1) (by omega) (by omega)
  rw [show ((na + 1 : Nat) : Int) = (na : Int) + 1 by omega] at hmk
  have HX : Hid (dlen x = na) := hx
  have HY : Hid (dlen y = nb) := hy
  have hlt : (nb : Int) < (na : Int) := by omega
  clear hx hy
  go_enter Tryz.func65, Tryz.ntmps65
  go_wp2
  clear hmk
  go_loopw [6, 22] (fun c i wr => ∃ j : Nat, j ≤ na ∧ c = .int .u64 (addc x y j : Nat) ∧ i = .int .i64 j ∧ Mk w wr (na + 1) (fun t => if t < j then dg (x + y) t else 0)) (fun _ i _ => na - (intOf i).toNat)
  case atStart => exact ⟨0, Nat.zero_le _, by rw [addc_zero]; rfl, rfl, (Mk.start w _).congr fun i hi => by rw [if_neg (by omega)]⟩
  case round =>
    obtain ⟨j, hj, rfl, rfl, hM⟩ := hrel
    by_cases hja : j < na
    · obtain rfl := ha (by omega)
      have g1 := hM.old (hca j hja)
      have g2 := hM.cell (i := j) (by omega)
      have g3 := hM.frozen j
      rw [if_neg (by omega)] at g2
      have hji : (j : Int) < (na : Int) := by omega
      have HM : Hid (Mk w wr (na + 1) (fun t => if t < j then dg (x + y) t else 0)) := hM
      have HL : Hid (dg x j < B ∧ dg y j < B ∧ addc x y j ≤ 1) := ⟨dg_lt _ _, dg_lt _ _, addc_le _ _ _⟩
      by_cases hjb : j < nb
      · obtain rfl := hb (by omega)
        have g4 := hM.old (hcb j hjb)
        have hji2 : (j : Int) < (nb : Int) := by omega
        generalize hd : dg x j = d at *
        generalize hd1 : dg y j = d1 at *
        generalize hc : addc x y j = c at *
        have HD : Hid (dg x j = d ∧ dg y j = d1 ∧ addc x y j = c) := ⟨hd, hd1, hc⟩
        clear hd hd1 hc hM hca hcb
        go_wp2
        refine add_round HM.out ?_ hja
        obtain ⟨l1, l2, l3⟩ := HL.out
        obtain ⟨d1, d2, d3⟩ := HD.out
        rw [d1, d2, d3, wrap_d l1, wrap_d l2, IntKind.wrap_u64, IntKind.wrap_u64]
        unfold B at l1 l2
        omega
      · have hji2 : ¬ (j : Int) < (nb : Int) := by omega
        generalize hd : dg x j = d at *
        generalize hc : addc x y j = c at *
        have HD : Hid (dg x j = d ∧ addc x y j = c) := ⟨hd, hc⟩
        clear hd hc hM hca hcb
        have HZ : Hid (dg y j = 0) := dg_past (by rw [HY.out]; omega)
        go_wp2
        refine add_round HM.out ?_ hja
        obtain ⟨l1, l2, l3⟩ := HL.out
        obtain ⟨d1, d3⟩ := HD.out
        rw [d1, d3, HZ.out, wrap_d l1, IntKind.wrap_u64]
        unfold B at l1
        omega
    · obtain rfl : j = na := by omega
      have g2 := hM.cell (i := j) (by omega)
      have g3 := hM.frozen j
      rw [if_neg (by omega)] at g2
      have hcl := addc_le x y j
      have hE := add_end (q := (addc x y j : Nat)) HX.out (by rw [HY.out]; omega) hM rfl
      have hA := hE.at
      have hL := add_len HX.out (y := y) (by rw [HY.out]; omega)
      generalize addc x y j = c at *
      have hc : (c : Int) % 4294967296 = c := by omega
      have HC : Hid (Mk w (wr.setCell ⟨w.heap.size, j, none⟩ (Value.int .u32 (c : Nat))) (j + 1) (dg (x + y))) := hE
      clear hM hca hcb hE
      go_wp2_with (first | (go_at_call 38; refine (c62 _ _ _ (x + y) _ hL (Nat.le_refl _) (by omega) hA).mono ?_; rintro e w' ⟨rfl, rfl⟩))
      go_ret
      exact ⟨_, rfl, HC.out.own hL (by omega), HC.out.below⟩

theorem c122 {u v : Value} {x y : Nat} {w : World} (h1 : Is w u x) (h2 : Is w v y) (hx : dlen x ≤ 35184372088832) (hy : dlen y ≤ 35184372088832) :
    Calls Tryz.prog 65 #[u, v] w fun e w' => ∃ v, e = .returned v ∧ Own w' w.heap.size v (x + y) ∧ Below w.heap.size w w' := by
  obtain ⟨ao, ca, rfl, a1, a2, ba, oa, a3, a4⟩ := h1
  obtain ⟨bo, cb, rfl, b1, b2, bb, ob, b3, b4⟩ := h2
  by_cases h : dlen y ≤ dlen x
  · exact c122_1 ao bo ba oa bb ob _ _ ca cb x y w a3 b3 hx rfl rfl h a4 b4
  · rw [Nat.add_comm]
    exact c122_2 bo ao bb ob ba oa _ _ cb ca y x w b3 a3 hy rfl rfl (by omega) b4 a4
end Go.Proofs.YtceoeiojoffnnaaGreatDoor

/- bits.Len32, LeadingZeros32, TrailingZeros32; length, trailing. -/
namespace Go.Proofs.YtceoeiojoffnnaaGreatDoor
set_option linter.unusedVariables false
set_option linter.unusedSimpArgs false
open Go.RowKit

theorem bl_bitLen (x : Nat) : bl x = bitLen x := by unfold bl bitLen; rfl

theorem len_fin (x k p : Nat) (y : Int) (hk : k ≤ 56) (hp : 2 ^ k = p) (hy : y.toNat = x / p) (hy0 : x / p ≠ 0) (hy1 : x / p < 256) : wrap64 ((k : Int) + wrap64 (bitLen y.toNat : Int)) = (bitLen x : Int) := by
  have e := bitLen_shift x k (by rw [hp]; exact hy0)
  have l := bitLen_le8 (x / p) hy1
  rw [hp] at e
  rw [hy, e]
  generalize bitLen (x / p) = a at *
  unfold wrap64
  omega
theorem len_fin0 (x : Nat) (hx : x < 256) : wrap64 (wrap64 (bitLen (x : Int).toNat : Int)) = (bitLen x : Int) := by
  have l := bitLen_le8 x hx
  rw [Int.toNat_natCast]
  generalize bitLen x = a at *
  unfold wrap64
  omega

set_option maxRecDepth 1000000 in
set_option maxHeartbeats 1000000 in
theorem c127 (x : Nat) (hx : x < B) (w : World) :
    Calls Tryz.prog 104 #[.int .u32 x] w fun e w' => e = .returned (.int .i64 (bl x : Nat)) ∧ w' = w := by
  rw [bl_bitLen]
  obtain ⟨X, hX⟩ : ∃ X : Int, X = (x : Int) := ⟨_, rfl⟩
  rw [← hX]
  have hX0 : 0 ≤ X := by omega
  have hX1 : Hid (X < 4294967296) := (by unfold B at hx; omega : X < 4294967296)
  have hX' : Hid (X = (x : Int)) := hX
  clear hX hx
  go_enter Tryz.func104, Tryz.ntmps104
  go_wp2
  all_goals go_ret
  all_goals (refine ⟨congrArg Ending.returned (congrArg (Value.int IntKind.i64) ?_), rfl⟩)
  all_goals have h1 := hX1.out
  all_goals have h2 := hX'.out
  all_goals clear hX1 hX'
  all_goals subst h2
  all_goals rw [len8tab_get]
  · exact len_fin x 24 16777216 _ (by decide) (by decide) (by omega) (by omega) (by omega)
  · exact len_fin x 16 65536 _ (by decide) (by decide) (by omega) (by omega) (by omega)
  · exact len_fin x 8 256 _ (by decide) (by decide) (by omega) (by omega) (by omega)
  · exact len_fin0 x (by omega)

theorem c158x (x k idx : Nat) (w : World) (hx0 : ((x : Int) == 0) = false)
    (key : bits BinOp.and IntKind.u32 (x : Int) (-(x : Int) % 4294967296) * 125613361 % 4294967296 / 134217728 = (idx : Int))
    (hi : idx < 32) (hk : k < 32) (hcell : w.cell? ⟨2, idx, none⟩ = some (.int .u8 k)) :
    Calls Tryz.prog 88 #[.int .u32 x] w fun e w' => e = .returned (.int .i64 k) ∧ w' = w := by
  go_enter Tryz.func88, Tryz.ntmps88
  go_wp2_with (simp only [key])
  go_ret
  exact ⟨rfl, rfl⟩

/-- The library's table, where the program lays it. -/
def Tab32 (w : World) : Prop := ∀ i, i < 32 → w.cell? ⟨2, i, none⟩ = some (.int .u8 (Lib.deBruijn32tab.getD i 0 : Nat))
theorem Tab32.later {w w' : World} (h : Tab32 w) (hb : Below w.heap.size w w') : Tab32 w' := fun i hi => (hb.cell (World.block_lt_of_cell? _ _ (h i hi))).trans (h i hi)

theorem tz_ctz {x n : Nat} (h0 : x ≠ 0) (h : x < 2 ^ n) : Lib.ctz n x = tz x := by
  obtain ⟨m, hm, hk⟩ := Lib.ctzFrom_spec n x (by omega) h
  have e : Lib.ctz n x = Lib.ctzFrom n x := by simp [Lib.ctz, h0]
  rw [e]
  conv => rhs; rw [hm]
  rw [tz_pow _ _ (by omega)]

theorem c158 (x : Nat) (hx : x < B) (hx0 : x ≠ 0) (w : World) (hT : Tab32 w) :
    Calls Tryz.prog 88 #[.int .u32 x] w fun e w' => e = .returned (.int .i64 (tz x : Nat)) ∧ w' = w := by
  rw [← tz_ctz (n := 32) hx0 hx]
  obtain ⟨hlow, hk⟩ := Lib.lowest_bit 32 x hx0 hx
  obtain ⟨hi, htab⟩ := Lib.deBruijn32_at _ hk
  have hcell := hT _ hi
  rw [htab] at hcell
  refine c158x x _ _ w (by simp; omega) ?_ hi hk hcell
  have hlow' : x &&& (4294967296 - x) = 2 ^ Lib.ctz 32 x := hlow
  unfold B at hx
  have e1 : -(x : Int) % 4294967296 = ((4294967296 - x : Nat) : Int) := by omega
  rw [e1, u32_and_nat x _ hx (by omega), hlow']
  generalize 2 ^ Lib.ctz 32 x = a
  omega

theorem bl_le32 {x : Nat} (hx : x < B) : bl x ≤ 32 := (bl_le x 32).2 hx

theorem c147 (x : Nat) (hx : x < B) (w : World) :
    Calls Tryz.prog 83 #[.int .u32 x] w fun e w' => e = .returned (.int .i64 (32 - bl x : Nat)) ∧ w' = w := by
  have k := c127 x hx
  have hl := bl_le32 hx
  have hl2 : ((32 - bl x : Nat) : Int) = 32 - (bl x : Int) := by omega
  rw [hl2]
  clear hx hl2
  generalize bl x = b at *
  go_enter Tryz.func83, Tryz.ntmps83
  go_wp2_with (first | (go_at_call 104; refine (k _).mono ?_; rintro e w' ⟨rfl, rfl⟩))
  go_ret
  exact ⟨rfl, rfl⟩

theorem c74_0 (ao : Option Addr) (cap : Nat) (w : World) : Calls Tryz.prog 101 #[.slice ao 0 cap] w fun e w' => e = .returned (.int .i64 0) ∧ w' = w := by
  go_enter Tryz.func101, Tryz.ntmps101
  go_wp2
  go_ret
  exact ⟨rfl, rfl⟩
theorem c74_1 (b o n cap d l : Nat) (w : World) (hn : n ≤ 35184372088832) (hl : l ≤ 32) (hc : w.cell? ⟨b, o + n, none⟩ = some (.int .u32 d))
    (k127 : ∀ w, Calls Tryz.prog 104 #[.int .u32 d] w fun e w' => e = .returned (.int .i64 l) ∧ w' = w) :
    Calls Tryz.prog 101 #[.slice (some ⟨b, o, none⟩) (n + 1) cap] w fun e w' => e = .returned (.int .i64 (32 * n + l : Nat)) ∧ w' = w := by
  go_enter Tryz.func101, Tryz.ntmps101
  go_wp2_with (first | (go_at_call 104; refine (k127 _).mono ?_; rintro e w' ⟨rfl, rfl⟩))
  go_ret
  refine ⟨congrArg Ending.returned (congrArg (Value.int IntKind.i64) ?_), rfl⟩
  omega
theorem c74 {v : Value} {x : Nat} {w : World} (h : Is w v x) (hx : dlen x ≤ 35184372088832) : Calls Tryz.prog 101 #[v] w fun e w' => e = .returned (.int .i64 (bl x : Nat)) ∧ w' = w := by
  obtain ⟨ao, cap, rfl, h1, h2, b, o, h3, h4⟩ := h
  by_cases h0 : x = 0
  · subst h0
    rw [dlen_zero]
    exact c74_0 ao cap w
  · have hp := dlen_pos h0
    obtain rfl := h3 (by omega)
    rw [bl_top h0]
    have h5 := h4 (dlen x - 1) (by omega)
    have := c74_1 b o (dlen x - 1) cap _ _ w (by omega) (bl_le32 (dg_lt x (dlen x - 1))) h5 (fun w => c127 _ (dg_lt _ _) w)
    rw [show dlen x - 1 + 1 = dlen x by omega] at this
    exact this

theorem c119_1 (b o n cap x : Nat) (w : World) (hn : n ≤ 35184372088832) (hn1 : dlen x = n) (hx0 : x ≠ 0) (hT : Tab32 w) (hcell : ∀ i, i < n → w.cell? ⟨b, o + i, none⟩ = some (.int .u32 (dg x i : Nat))) :
    Calls Tryz.prog 62 #[.slice (some ⟨b, o, none⟩) n cap] w fun e w' => e = .returned (.int .i64 (tz x : Nat)) ∧ w' = w := by
  have HN : Hid (dlen x = n ∧ x ≠ 0) := ⟨hn1, hx0⟩
  clear hn1 hx0
  go_enter Tryz.func62, Tryz.ntmps62
  go_wp2
  go_loop [3] (fun i => ∃ j : Nat, j < n ∧ i = .int .i64 j ∧ Hid (x % B ^ j = 0)) (fun i => n - (intOf i).toNat)
  case atStart => exact ⟨0, Nat.pos_of_ne_zero fun h => HN.out.2 (dlen_eq_zero.1 (HN.out.1.trans h)), rfl, (Nat.mod_one x : x % B ^ 0 = 0)⟩
  case round =>
    obtain ⟨j, hj, rfl, hm⟩ := hrel
    have g := hcell j hj
    have hl := dg_lt x j
    generalize hd : dg x j = d at *
    have HD : Hid (dg x j = d) := hd
    have k158 := fun h => c158 d hl h w hT
    clear hcell hT hd hl
    by_cases hd0 : d = 0
    · subst hd0
      clear k158
      have HM : Hid (x % B ^ (j + 1) = 0) := (by rw [mod_succ, hm.out, HD.out, Nat.mul_zero] : x % B ^ (j + 1) = 0)
      have hlt : j + 1 < n := by
        refine Nat.lt_of_not_le fun h => ?_
        have h1 := (dlen_le (j + 1) x).1 (by rw [HN.out.1]; exact h)
        have h2 := HM.out
        rw [Nat.mod_eq_of_lt h1] at h2
        exact HN.out.2 h2
      go_wp2
      exact ⟨⟨j + 1, hlt, by simp, HM⟩, by simp [intOf]; omega⟩
    · have hd1 : ((d : Int) == 0) = false := by simp; exact hd0
      have k := k158 hd0
      clear k158
      have ht : tz x = 32 * j + tz d := by rw [tz_digit hm.out (by rw [HD.out]; exact hd0), HD.out]
      have hle : tz d ≤ 32 := by
        have h1 : d < 2 ^ 32 := HD.out ▸ dg_lt x j
        rw [← tz_ctz (n := 32) hd0 h1]
        have := (Lib.lowest_bit 32 d hd0 h1).2
        omega
      generalize tz d = t at *
      have HT : Hid (tz x = 32 * j + t) := ht
      clear ht
      go_wp2_with (first | (go_at_call 88; refine k.mono ?_; rintro e w' ⟨rfl, rfl⟩))
      go_ret
      refine ⟨congrArg Ending.returned (congrArg (Value.int IntKind.i64) ?_), rfl⟩
      rw [HT.out]
      omega
theorem c119 {v : Value} {x : Nat} {w : World} (h : Is w v x) (hx : dlen x ≤ 35184372088832) (hx0 : x ≠ 0) (hT : Tab32 w) : Calls Tryz.prog 62 #[v] w fun e w' => e = .returned (.int .i64 (tz x : Nat)) ∧ w' = w := by
  obtain ⟨ao, cap, rfl, h1, h2, b, o, h3, h4⟩ := h
  have hp := dlen_pos hx0
  obtain rfl := h3 (by omega)
  exact c119_1 b o _ cap x w hx rfl hx0 hT h4
end Go.Proofs.YtceoeiojoffnnaaGreatDoor
