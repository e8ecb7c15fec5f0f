/- Own work: contracts of the program's functions, part 8: R6 Q3 ON. -/
import Derived.Test.YtbmaoiemgepppaaGreatDoorA7
import Derived.Test.YtbmaoiemgepppaaGreatDoorA3
import Derived.Test.YtbmaoiemgepppaaGreatDoorRows
import Derived.Carry
import Derived.ChangeSlices
import Derived.WalkKit
import Derived.ProofKit
import Derived.OpenShut
import Derived.WalkLawsBesides
import Derived.ChangeAlike
import Derived.Lib.SmallJoins
import Derived.SizedLaws

/- The document's size, Valid, kept. -/
namespace Go.Proofs.YtbmaoiemgepppaaGreatDoor
set_option linter.unusedVariables false
set_option linter.unusedSimpArgs false
open Go.RowKit Go.Fl64

theorem bl_half {x : Nat} (h : x ≠ 0) : bl x = bl (x / 2) + 1 := by
  have h1 := lt_bl (x / 2)
  apply bl_eq
  · rw [Nat.pow_succ]; omega
  · refine .inr ?_
    rw [Nat.add_sub_cancel]
    by_cases h2 : x / 2 = 0
    · rw [h2]
      have : bl 0 = 0 := by unfold bl; simp
      rw [this]; omega
    · have h3 := le_bl h2
      have h4 : bl (x / 2) ≠ 0 := by unfold bl; rw [if_neg h2]; omega
      obtain ⟨k, hk⟩ : ∃ k, bl (x / 2) = k + 1 := ⟨bl (x / 2) - 1, by omega⟩
      rw [hk] at h3 ⊢
      rw [Nat.add_sub_cancel] at h3
      rw [Nat.pow_succ]; omega

set_option maxRecDepth 200000 in
theorem r42 (b o n cap x : Nat) (w : World) (hn0 : 0 < n) (hn : n ≤ 1000000000) (hx : dlen x = n) (hcell : ∀ i, i < n → w.cell? ⟨b, o + i, none⟩ = some (.int .u32 (dg x i : Nat))) :
    Calls Tryz.prog 42 #[.slice (some ⟨b, o, none⟩) n cap] w fun e w' => e = .returned (.int .i64 (bl x : Nat)) ∧ w' = w := by
  have hx0 : x ≠ 0 := by intro e; subst e; rw [dlen_zero] at hx; omega
  have hbt := bl_top hx0
  have hlt := dg_lt x (n - 1)
  have g := hcell (n - 1) (by omega)
  rw [hx] at hbt
  obtain ⟨k, rfl⟩ : ∃ k, n = k + 1 := ⟨n - 1, by omega⟩
  rw [Nat.add_sub_cancel] at hbt hlt g
  generalize hd : dg x k = d at *
  have HB : Hid (bl x = 32 * k + bl d ∧ d < 4294967296) := ⟨hbt, hlt⟩
  have hn0' : (((k + 1 : Nat) : Int) == 0) = false := by simp; omega
  clear hcell hbt hlt hx hx0 hd
  go_enter Tryz.func42, Tryz.ntmps42
  go_wp2
  go_loop [3, 4] (fun c t => ∃ (j u : Nat), c = .int .i64 (32 * (k : Int) + j) ∧ t = .int .u32 (u : Int) ∧ Hid (bl d = j + bl u ∧ u < 4294967296) ∧ j ≤ 32) (fun _ t => (intOf t).toNat)
  case atStart => exact ⟨0, d, by simp, rfl, ⟨by omega, HB.out.2⟩, by omega⟩
  case round =>
    obtain ⟨j, u, rfl, rfl, HU, hj⟩ := hrel
    by_cases hu : u = 0
    · subst hu
      have e : bl x = 32 * k + j := by
        have h1 := HU.out.1
        have : bl 0 = 0 := by unfold bl; simp
        rw [this] at h1
        have := HB.out.1
        omega
      have HE : Hid (((bl x : Nat) : Int) = 32 * (k : Int) + j) := (by rw [e]; simp : ((bl x : Nat) : Int) = 32 * (k : Int) + j)
      clear e
      go_wp2
      go_ret
      rw [HE.out]
      exact ⟨rfl, rfl⟩
    · have hu0 : 0 < (u : Int) := by omega
      have hb := bl_half hu
      have hj' : j + 1 ≤ 32 := by
        have h1 := HU.out.1
        have := bl_le32 (x := d) HB.out.2
        omega
      have HN : Hid (bl d = (j + 1) + bl (u / 2) ∧ u / 2 < 4294967296) := ⟨by have := HU.out.1; omega, by have := HU.out.2; omega⟩
      clear hb
      go_wp2
      exact ⟨⟨j + 1, u / 2, by congr 1, by simp, HN, hj'⟩, by simp [intOf]; omega⟩

set_option maxHeartbeats 4000000 in
set_option maxRecDepth 200000 in
theorem r17 (s : Bool) (b o n cap z : Nat) (e : Int) (w : World) (hn0 : 0 < n) (hn : n ≤ 1000000000) (hz : dlen z = n) (hodd : z % 2 = 1) (hcell : ∀ i, i < n → w.cell? ⟨b, o + i, none⟩ = some (.int .u32 (dg z i : Nat))) :
    Calls Tryz.prog 19 #[.agg #[.bool s, .slice (some ⟨b, o, none⟩) n cap, .int .i64 e]] w fun r w' => r = .returned (.bool (decide (n ≤ 2048) && decide (-65536 ≤ e) && decide (e ≤ 65536))) ∧ Below w.heap.size w w' := by
  have hz0 : z ≠ 0 := by intro e; subst e; simp at hodd
  obtain ⟨W, hW⟩ : ∃ W, W = w.alloc (.cells #[.bool s, .slice (some ⟨b, o, none⟩) n cap, .int .i64 e] 28) := ⟨_, rfl⟩
  have hBW : Below w.heap.size w W := by rw [hW]; exact (Below.refl _ _).alloc (Nat.le_refl _) _
  have hbx : W.heap[w.heap.size]? = some (.cells #[.bool s, .slice (some ⟨b, o, none⟩) n cap, .int .i64 e] 28 (0, 0)) := by rw [hW]; exact heap_alloc_new _ _
  have hc : ∀ i, i < n → W.cell? ⟨b, o + i, none⟩ = some (.int .u32 (dg z i : Nat)) := fun i hi => (hBW.cell (World.block_lt_of_cell? _ _ (hcell i hi))).trans (hcell i hi)
  have k42 := r42 b o n cap z W hn0 hn hz hc
  obtain ⟨⟨a0, a1, a2⟩, -⟩ := box_cells29 hbx
  have g1 := hc (n - 1) (by omega)
  have g0 : W.cell? ⟨b, o, none⟩ = some (.int .u32 (dg z 0 : Nat)) := hc 0 hn0
  have ht : dg z (n - 1) ≠ 0 := by rw [← hz]; exact dg_top hz0
  have hlow : dg z 0 % 2 = 1 := by
    unfold dg
    simp only [Nat.pow_zero, Nat.div_one]
    unfold B
    omega
  have hand := and_one32 (dg z 0) (dg_lt z 0)
  rw [hlow, show ((1 : Nat) : Int) = 1 from rfl] at hand
  have hbl : bl z ≤ 32 * n := by
    have h1 := bl_top hz0
    have h2 := bl_le32 (dg_lt z (dlen z - 1))
    rw [hz] at h1 h2
    omega
  obtain ⟨k, rfl⟩ : ∃ k, n = k + 1 := ⟨n - 1, by omega⟩
  rw [Nat.add_sub_cancel] at g1 ht
  generalize dg z k = d1 at *
  generalize dg z 0 = d0 at *
  generalize bl z = L at *
  have t1 : ((d1 : Int) != 0) = true := by simp; omega
  have hn0' : (((k + 1 : Nat) : Int) == 0) = false := by simp; omega
  have HB : Hid (Below w.heap.size w W) := hBW
  clear hcell hc hbx hBW hlow hz hodd hz0 ht
  rw [hW] at a0 a1 a2 g0 g1
  have hn1 : ((k : Int) + 1 == 0) = false := by simp; omega
  by_cases c1 : k + 1 ≤ 2048
  · have hL : (L : Int) ≤ 65536 := by omega
    have c1' : (k : Int) + 1 ≤ 2048 := by omega
    by_cases c2 : -65536 ≤ e
    · by_cases c3 : e ≤ 65536
      · rw [decide_eq_true c1, decide_eq_true c2, decide_eq_true c3]
        have t3 : decide (e ≤ 65536) = true := decide_eq_true c3
        go_enter Tryz.func19, Tryz.ntmps19
        go_wp2_with fail
        rw [← hW]
        refine k42.mono ?_
        rintro r w' ⟨rfl, hw'⟩
        rw [hw']
        clear hw' k42
        rw [← hW] at a0 a1 a2
        clear hW g0 g1
        go_wp2_with fail
        go_ret
        exact ⟨rfl, HB.out⟩
      · rw [decide_eq_true c1, decide_eq_true c2, decide_eq_false c3]
        have t3 : decide (e ≤ 65536) = false := decide_eq_false c3
        go_enter Tryz.func19, Tryz.ntmps19
        go_wp2_with fail
        rw [← hW]
        refine k42.mono ?_
        rintro r w' ⟨rfl, hw'⟩
        rw [hw']
        clear hw' k42
        rw [← hW] at a0 a1 a2
        clear hW g0 g1
        go_wp2_with fail
        go_ret
        exact ⟨rfl, HB.out⟩
    · rw [decide_eq_true c1, decide_eq_false c2]
      go_enter Tryz.func19, Tryz.ntmps19
      go_wp2_with fail
      rw [← hW]
      refine k42.mono ?_
      rintro r w' ⟨rfl, hw'⟩
      rw [hw']
      clear hw' k42
      rw [← hW] at a0 a1 a2
      clear hW g0 g1
      go_wp2_with fail
      go_ret
      exact ⟨rfl, HB.out⟩
  · have c1' : ¬ (k : Int) + 1 ≤ 2048 := by omega
    rw [decide_eq_false c1]
    go_enter Tryz.func19, Tryz.ntmps19
    go_wp2_with fail
    rw [← hW]
    go_ret
    exact ⟨rfl, HB.out⟩
end Go.Proofs.YtbmaoiemgepppaaGreatDoor
/- The document's Valid, of all numbers. -/
namespace Go.Proofs.YtbmaoiemgepppaaGreatDoor
set_option linter.unusedVariables false
set_option linter.unusedSimpArgs false
open Go.RowKit Go.Fl64

set_option maxRecDepth 200000 in
theorem rv_0 (s : Bool) (ao : Option Addr) (cap : Nat) (e : Int) (w : World) :
    Calls Tryz.prog 19 #[.agg #[.bool s, .slice ao 0 cap, .int .i64 e]] w fun r w' => r = .returned (.bool (e == 0 && !s)) ∧ Below w.heap.size w w' := by
  have HB : Hid (Below w.heap.size w (w.alloc (.cells #[.bool s, .slice ao 0 cap, .int .i64 e] 28))) := (Below.refl _ _).alloc (Nat.le_refl _) _
  cases s
  · by_cases he : e = 0
    · subst he
      go_enter Tryz.func19, Tryz.ntmps19
      go_wp2
      go_ret
      exact ⟨by simp, HB.out⟩
    · have he' : (e == 0) = false := by simp; exact he
      go_enter Tryz.func19, Tryz.ntmps19
      go_wp2
      go_ret
      exact ⟨by simp [he'], HB.out⟩
  · go_enter Tryz.func19, Tryz.ntmps19
    go_wp2
    go_ret
    exact ⟨by simp, HB.out⟩

set_option maxRecDepth 200000 in
theorem rv_not (s : Bool) (b o k cap d0 d1 : Nat) (e : Int) (w : World) (hk : k ≤ 35184372088832) (hd0 : d0 < B) (g1 : w.cell? ⟨b, o + k, none⟩ = some (.int .u32 (d1 : Nat))) (g0 : w.cell? ⟨b, o, none⟩ = some (.int .u32 (d0 : Nat)))
    (hno : d1 = 0 ∨ d0 % 2 = 0 ∨ 2048 < k + 1) :
    Calls Tryz.prog 19 #[.agg #[.bool s, .slice (some ⟨b, o, none⟩) (k + 1 : Nat) cap, .int .i64 e]] w fun r w' => r = .returned (.bool false) ∧ Below w.heap.size w w' := by
  obtain ⟨W, hW⟩ : ∃ W, W = w.alloc (.cells #[.bool s, .slice (some ⟨b, o, none⟩) (k + 1 : Nat) cap, .int .i64 e] 28) := ⟨_, rfl⟩
  have hBW : Below w.heap.size w W := by rw [hW]; exact (Below.refl _ _).alloc (Nat.le_refl _) _
  have hbx : W.heap[w.heap.size]? = some (.cells #[.bool s, .slice (some ⟨b, o, none⟩) (k + 1 : Nat) cap, .int .i64 e] 28 (0, 0)) := by rw [hW]; exact heap_alloc_new _ _
  obtain ⟨⟨a0, a1, a2⟩, -⟩ := box_cells29 hbx
  replace g1 := (hBW.cell (World.block_lt_of_cell? _ _ g1)).trans g1
  replace g0 := (hBW.cell (World.block_lt_of_cell? _ _ g0)).trans g0
  have hand := and_one32 d0 hd0
  have HB : Hid (Below w.heap.size w W) := hBW
  have hn1 : ((k : Int) + 1 == 0) = false := by simp; omega
  clear hbx hBW
  rw [hW] at a0 a1 a2 g0 g1
  by_cases c0 : d1 = 0
  · subst c0
    go_enter Tryz.func19, Tryz.ntmps19
    go_wp2_with fail
    rw [← hW]
    go_ret
    exact ⟨rfl, HB.out⟩
  · have t1 : ((d1 : Int) != 0) = true := by simp; omega
    by_cases c1 : d0 % 2 = 0
    · rw [c1, show ((0 : Nat) : Int) = 0 from rfl] at hand
      clear hno
      go_enter Tryz.func19, Tryz.ntmps19
      go_wp2_with fail
      rw [← hW]
      go_ret
      exact ⟨rfl, HB.out⟩
    · have c1' : d0 % 2 = 1 := by omega
      rw [c1', show ((1 : Nat) : Int) = 1 from rfl] at hand
      have c2 : ¬ (k : Int) + 1 ≤ 2048 := by omega
      clear hno c1 c1'
      go_enter Tryz.func19, Tryz.ntmps19
      go_wp2_with fail
      rw [← hW]
      go_ret
      exact ⟨rfl, HB.out⟩

theorem rvalid_at {s : Bool} {ao : Option Addr} {n cap z : Nat} {e : Int} {w : World} (hat : At w ao n z) (hs : n ≤ 35184372088832) :
    Calls Tryz.prog 19 #[.agg #[.bool s, .slice ao n cap, .int .i64 e]] w fun r w' => r = .returned (.bool (okN s n z e)) ∧ Below w.heap.size w w' := by
  unfold okN
  by_cases h0 : n = 0
  · subst h0
    exact rv_0 s ao cap e w
  · rw [if_neg h0]
    obtain ⟨b, o, h1, h2⟩ := hat
    obtain rfl := h1 (by omega)
    by_cases hno : dg z (n - 1) = 0 ∨ dg z 0 % 2 = 0 ∨ 2048 < n
    · have hf : (decide (n ≤ 2048) && (dg z (n - 1) != 0) && (dg z 0 % 2 == 1) && decide (-65536 ≤ e) && decide (e ≤ 65536)) = false := by
        rcases hno with h | h | h
        · simp [h]
        · simp [h]
        · rw [decide_eq_false (by omega)]; simp
      rw [hf]
      obtain ⟨k, rfl⟩ : ∃ k, n = k + 1 := ⟨n - 1, by omega⟩
      rw [Nat.add_sub_cancel] at hno
      exact rv_not s b o k cap (dg z 0) (dg z k) e w (by omega) (dg_lt z 0) (h2 k (by omega)) (h2 0 (by omega)) hno
    · have ht : dg z (n - 1) ≠ 0 := fun e => hno (.inl e)
      have ho : dg z 0 % 2 = 1 := by
        have : ¬ dg z 0 % 2 = 0 := fun e => hno (.inr (.inl e))
        omega
      have hl : n ≤ 2048 := by
        have : ¬ 2048 < n := fun e => hno (.inr (.inr e))
        omega
      have hB : ∀ i, i < n → dg z i < B := fun i _ => dg_lt z i
      -- only the lowest n digits count
      have hz : dlen (z % B ^ n) = n := by
        refine dlen_here ((dlen_le _ _).2 (Nat.mod_lt _ (Bpow_pos n))) (.inr ?_)
        rw [dg_mod (by omega)]
        exact ht
      have hodd : z % B ^ n % 2 = 1 := by
        have e1 := dg_mod (x := z) (n := n) (i := 0) (by omega)
        have : dg (z % B ^ n) 0 % 2 = 1 := by rw [e1]; exact ho
        unfold dg at this
        rw [Nat.pow_zero, Nat.div_one] at this
        unfold B at this ⊢
        omega
      refine (r17 s b o n cap (z % B ^ n) e w (by omega) (by omega) hz hodd (fun i hi => by rw [dg_mod hi]; exact h2 i hi)).mono ?_
      rintro r w' ⟨rfl, hb⟩
      refine ⟨?_, hb⟩
      have t : (dg z (n - 1) != 0) = true := by simp; exact ht
      have t2 : (dg z 0 % 2 == 1) = true := by simp; exact ho
      rw [t, t2]
      simp

end Go.Proofs.YtbmaoiemgepppaaGreatDoor
/- An argument that is the document's number, opened. -/
namespace Go.Proofs.YtbmaoiemgepppaaGreatDoor
set_option linter.unusedVariables false
set_option linter.unusedSimpArgs false
open Go.ChangeShapes Go.WideShapes Go.ChangeAt Go.RowKit Go.Joins

end Go.Proofs.YtbmaoiemgepppaaGreatDoor
