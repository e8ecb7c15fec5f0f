/- Own work: contracts of the program's functions, part A6. -/
import Derived.Test.YtceoeiojoffnnaaGreatDoorA5

/- Whole. -/
namespace Go.Proofs.YtceoeiojoffnnaaGreatDoor
set_option linter.unusedVariables false
set_option linter.unusedSimpArgs false
open Go.RowKit

set_option maxRecDepth 200000 in
theorem c12_1 (n : Int) (m : Nat) (w : World) (hT : Tab32 w) (hm : m < 18446744073709551616) (hn : 0 ≤ n) (hw : IntKind.u64.wrap n = (m : Int)) :
    Calls Tryz.prog 12 #[.int .i64 n] w fun r w' => ∃ a, r = .returned a ∧ Nrm w' w.heap.size a false m 0 ∧ Below w.heap.size w w' := by
  have hB0 : Below w.heap.size w (w.alloc (.cells #[.bool false, .slice none 0 0, .int .i64 0] 25)) := (Below.refl _ _).alloc (Nat.le_refl _) _
  have k57 := c57 m (w.alloc (.cells #[.bool false, .slice none 0 0, .int .i64 0] 25)) hm
  have hT0 := hT.later hB0
  have HB0 : Hid (Below w.heap.size w (w.alloc (.cells #[.bool false, .slice none 0 0, .int .i64 0] 25)) ∧ (w.alloc (.cells #[.bool false, .slice none 0 0, .int .i64 0] 25)).heap[w.heap.size]? = some (.cells #[.bool false, .slice none 0 0, .int .i64 0] 25 (0, 0)) ∧ Tab32 (w.alloc (.cells #[.bool false, .slice none 0 0, .int .i64 0] 25)) ∧ m < 18446744073709551616) := ⟨hB0, heap_alloc_new _ _, hT0, hm⟩
  have HS : Hid ((w.alloc (.cells #[.bool false, .slice none 0 0, .int .i64 0] 25)).heap.size = w.heap.size + 1) := (by simp : (w.alloc (.cells #[.bool false, .slice none 0 0, .int .i64 0] 25)).heap.size = w.heap.size + 1)
  clear hB0 hT hT0 hm
  have hd : decide (n < 0) = false := decide_eq_false (by omega)
  go_enter Tryz.func12, Tryz.ntmps12
  go_wp2_with fail
  (try rw [hw])
  generalize w.alloc (.cells #[.bool false, .slice none 0 0, .int .i64 0] 25) = W at *
  refine k57.mono ?_
  rintro r w1 ⟨v, rfl, hO, hB1⟩
  clear k57
  have hl : dlen m ≤ 2 := (dlen_le 2 m).2 (by have := HB0.out.2.2.2; unfold B; omega)
  have k56 := c56 (neg := false) (e := 0) hO.is (by omega) (HB0.out.2.2.1.later hB1) (by omega)
  have HB1 : Hid (Below W.heap.size W w1) := hB1
  clear hO hB1 hl
  go_wp2_with fail
  refine k56.mono ?_
  rintro r w3 ⟨a, rfl, hN, hB3⟩
  clear k56
  obtain ⟨s, ao, n', cap, ex, rfl⟩ := hN.shape
  have HB3 : Hid (Below W.heap.size W w3) := HB1.out.trans (hB3.mono HB1.out.size)
  have HC3 : Hid (w3.heap[w.heap.size]? = some (.cells #[.bool false, .slice none 0 0, .int .i64 0] 25 (0, 0))) := box_later HB0.out.2.1 HB3.out (by have := HS.out; omega)
  obtain ⟨⟨a1, a2, a3⟩, a4, a5, a6⟩ := box_cells HC3.out
  have HN : Hid (Nrm w3 W.heap.size (.agg #[.bool s, .slice ao n' cap, .int .i64 ex]) false m 0) := hN.mono HB1.out.size
  clear hN hB3
  go_wp2
  refine bodyPost_ret (results_cell_row rfl _ _ w.heap.size 25 #[.bool s, .slice ao n' cap, .int .i64 ex] (0, 0) _ rfl (store3 _ _ _ HC3.out) Tryz.underlying25 rfl Tryz.info25) rfl ?_
  have hs := HS.out
  exact ⟨_, rfl, (HN.out.store (by omega) _ _ _).mono (by omega), below_store3 (HB0.out.1.trans (HB3.out.mono (by omega))) (Nat.le_refl _) _ _ _⟩

set_option maxRecDepth 200000 in
theorem c12_2 (n : Int) (m : Nat) (w : World) (hT : Tab32 w) (hm : m < 18446744073709551616) (hn : n < 0) (hw : IntKind.u64.wrap (-IntKind.u64.wrap n) = (m : Int)) :
    Calls Tryz.prog 12 #[.int .i64 n] w fun r w' => ∃ a, r = .returned a ∧ Nrm w' w.heap.size a true m 0 ∧ Below w.heap.size w w' := by
  have hB0 : Below w.heap.size w (w.alloc (.cells #[.bool false, .slice none 0 0, .int .i64 0] 25)) := (Below.refl _ _).alloc (Nat.le_refl _) _
  have k57 := c57 m (w.alloc (.cells #[.bool false, .slice none 0 0, .int .i64 0] 25)) hm
  have hT0 := hT.later hB0
  have HB0 : Hid (Below w.heap.size w (w.alloc (.cells #[.bool false, .slice none 0 0, .int .i64 0] 25)) ∧ (w.alloc (.cells #[.bool false, .slice none 0 0, .int .i64 0] 25)).heap[w.heap.size]? = some (.cells #[.bool false, .slice none 0 0, .int .i64 0] 25 (0, 0)) ∧ Tab32 (w.alloc (.cells #[.bool false, .slice none 0 0, .int .i64 0] 25)) ∧ m < 18446744073709551616) := ⟨hB0, heap_alloc_new _ _, hT0, hm⟩
  have HS : Hid ((w.alloc (.cells #[.bool false, .slice none 0 0, .int .i64 0] 25)).heap.size = w.heap.size + 1) := (by simp : (w.alloc (.cells #[.bool false, .slice none 0 0, .int .i64 0] 25)).heap.size = w.heap.size + 1)
  clear hB0 hT hT0 hm
  go_enter Tryz.func12, Tryz.ntmps12
  go_wp2_with fail
  (try rw [hw])
  generalize w.alloc (.cells #[.bool false, .slice none 0 0, .int .i64 0] 25) = W at *
  refine k57.mono ?_
  rintro r w1 ⟨v, rfl, hO, hB1⟩
  clear k57
  have hl : dlen m ≤ 2 := (dlen_le 2 m).2 (by have := HB0.out.2.2.2; unfold B; omega)
  have k56 := c56 (neg := true) (e := 0) hO.is (by omega) (HB0.out.2.2.1.later hB1) (by omega)
  have HB1 : Hid (Below W.heap.size W w1) := hB1
  clear hO hB1 hl
  go_wp2_with fail
  refine k56.mono ?_
  rintro r w3 ⟨a, rfl, hN, hB3⟩
  clear k56
  obtain ⟨s, ao, n', cap, ex, rfl⟩ := hN.shape
  have HB3 : Hid (Below W.heap.size W w3) := HB1.out.trans (hB3.mono HB1.out.size)
  have HC3 : Hid (w3.heap[w.heap.size]? = some (.cells #[.bool false, .slice none 0 0, .int .i64 0] 25 (0, 0))) := box_later HB0.out.2.1 HB3.out (by have := HS.out; omega)
  obtain ⟨⟨a1, a2, a3⟩, a4, a5, a6⟩ := box_cells HC3.out
  have HN : Hid (Nrm w3 W.heap.size (.agg #[.bool s, .slice ao n' cap, .int .i64 ex]) true m 0) := hN.mono HB1.out.size
  clear hN hB3
  go_wp2
  refine bodyPost_ret (results_cell_row rfl _ _ w.heap.size 25 #[.bool s, .slice ao n' cap, .int .i64 ex] (0, 0) _ rfl (store3 _ _ _ HC3.out) Tryz.underlying25 rfl Tryz.info25) rfl ?_
  have hs := HS.out
  exact ⟨_, rfl, (HN.out.store (by omega) _ _ _).mono (by omega), below_store3 (HB0.out.1.trans (HB3.out.mono (by omega))) (Nat.le_refl _) _ _ _⟩

theorem c12 {n : Int} {w : World} (hT : Tab32 w) (hn : -9223372036854775808 ≤ n ∧ n ≤ 9223372036854775807) :
    Calls Tryz.prog 12 #[.int .i64 n] w fun r w' => ∃ a, r = .returned a ∧ Nrm w' w.heap.size a (decide (n < 0)) n.natAbs 0 ∧ Below w.heap.size w w' := by
  by_cases h : n < 0
  · rw [decide_eq_true h]
    exact c12_2 n n.natAbs w hT (by omega) h (by rw [IntKind.wrap_u64, IntKind.wrap_u64]; omega)
  · rw [decide_eq_false h]
    exact c12_1 n n.natAbs w hT (by omega) (by omega) (by rw [IntKind.wrap_u64]; omega)
end Go.Proofs.YtceoeiojoffnnaaGreatDoor

/- lower. -/
namespace Go.Proofs.YtceoeiojoffnnaaGreatDoor
set_option linter.unusedVariables false
set_option linter.unusedSimpArgs false
open Go.RowKit

theorem results_cell_tmp2_row {P : Program} {fn : Func} {p u v : Tmp} {ty : TypeId} (h : fn.results = #[.cell p ty, .tmp u, .tmp v]) (tmps : Array Value) (w : World) (g : Nat) (t : TypeId) (cs : Array Value) (fr : Nat × Nat) (d : TypeDesc)
    (hp : tmps.getD p undef = .pointer (some ⟨g, 0, none⟩)) (hg : w.heap[g]? = some (.cells cs t fr))
    (hu : P.underlying ty = some d) (hd : (match d with | .struct _ | .array _ _ => true | _ => false) = true) (hi : (P.info? ty).map (·.size) = some cs.size) :
    (results fn tmps).run P w = .ok (.tuple #[.agg cs, tmps.getD u undef, tmps.getD v undef]) w := by
  have hp' : tmps[p]?.getD undef = .pointer (some ⟨g, 0, none⟩) := by simpa using hp
  simp [results, h, hp', asAddr, run_loadVar_row w g t ty cs fr d hg hu hd hi]

/-- an answer with a word whether it is exact -/
def Held3 (w : World) (s : Bool) (z : Nat) (e : Int) (x : Bool) (r : Ending) (w' : World) : Prop :=
  ∃ A, r = .returned (.tuple #[if okR s z e then A else Nil, .bool (x && okR s z e), .int .i64 (if okR s z e then 0 else 2)]) ∧ Nrm w' w.heap.size A s z e ∧ Below w.heap.size w w'

set_option maxRecDepth 200000 in
theorem c96_ff (v : Value) (x : Nat) (place : Int) (w : World) (hT : Tab32 w) (h : Is w v x) (hx : dlen x ≤ 1000000) (hp1 : -4000000 ≤ place) (hp2 : place ≤ 4000000) :
    Calls Tryz.prog 56 #[.bool false, v, .int .i64 place, .bool false] w fun r w' => Held3 w false x (-place) false r w' := by
  obtain ⟨W, hW⟩ : ∃ W, W = w.alloc (.cells #[.bool false, .slice none 0 0, .int .i64 0] 25) := ⟨_, rfl⟩
  have hBW : Below w.heap.size w W := by rw [hW]; exact (Below.refl _ _).alloc (Nat.le_refl _) _
  have hC : W.heap[w.heap.size]? = some (.cells #[.bool false, .slice none 0 0, .int .i64 0] 25 (0, 0)) := by rw [hW]; exact heap_alloc_new _ _
  have hsz : W.heap.size = w.heap.size + 1 := by rw [hW]; simp
  have k56 := c56 (neg := false) (e := -place) (h.later hBW) (by omega) (hT.later hBW) (by omega)
  have HH : Hid (W.heap[w.heap.size]? = some (.cells #[.bool false, .slice none 0 0, .int .i64 0] 25 (0, 0)) ∧ W.heap.size = w.heap.size + 1 ∧ Below w.heap.size w W ∧ dlen x ≤ 1000000) := ⟨hC, hsz, hBW, hx⟩
  have HB1 : Hid (Below W.heap.size W W) := Below.refl _ _
  clear hT h hx hBW hC hsz
  go_enter Tryz.func56, Tryz.ntmps56
  go_wp2_with fail
  rw [← hW]
  clear hW
  refine k56.mono ?_
  rintro r w2 ⟨A, rfl, hN, hB2⟩
  clear k56
  have HN : Hid (Nrm w2 W.heap.size A false x (-place)) := hN.mono HB1.out.size
  have HB2 : Hid (Below W.heap.size W w2) := HB1.out.trans (hB2.mono HB1.out.size)
  clear hN hB2
  go_wp2_with fail
  refine (c63n HN.out (by have := HH.out.2.2.2; omega)).mono ?_
  rintro r w3 ⟨rfl, hB3⟩
  have HB3 : Hid (Below W.heap.size W w3) := HB2.out.trans (hB3.mono HB2.out.size)
  have HN3 : Hid (Nrm w3 W.heap.size A false x (-place)) := by
    rcases HN.out with h | ⟨h0, v, h1, ho⟩
    · exact .inl h
    · exact .inr ⟨h0, v, h1, ho.later hB3⟩
  have HC3 : Hid (w3.heap[w.heap.size]? = some (.cells #[.bool false, .slice none 0 0, .int .i64 0] 25 (0, 0))) := box_later HH.out.1 HB3.out (by have := HH.out.2.1; omega)
  have hlt3 : w.heap.size < w3.heap.size := by have := HB3.out.size; have := HH.out.2.1; omega
  have HC4 : Hid (∀ p q r o, ((((w3.setCell ⟨w.heap.size, 0, none⟩ p).setCell ⟨w.heap.size, 1, none⟩ q).setCell ⟨w.heap.size, 2, none⟩ r).alloc o).heap[w.heap.size]? = some (.cells #[p, q, r] 25 (0, 0))) := fun p q r o => (Below.heap_alloc _ _ _ (by simp [World.setCell]; omega)).trans (store3 _ _ _ HC3.out)
  obtain ⟨⟨x1, x2, x3⟩, x4, x5, x6⟩ := box_cells HC3.out
  obtain ⟨s', ao, n, cap, ex, hsh⟩ := HN3.out.shape
  obtain ⟨-, hs, hBW, -⟩ := HH.out
  have HFIN : Hid (∀ p q r o, Nrm ((((w3.setCell ⟨w.heap.size, 0, none⟩ p).setCell ⟨w.heap.size, 1, none⟩ q).setCell ⟨w.heap.size, 2, none⟩ r).alloc o) w.heap.size A false x (-place) ∧ Below w.heap.size w ((((w3.setCell ⟨w.heap.size, 0, none⟩ p).setCell ⟨w.heap.size, 1, none⟩ q).setCell ⟨w.heap.size, 2, none⟩ r).alloc o)) := by
    intro p q r o
    have hna : Nrm ((((w3.setCell ⟨w.heap.size, 0, none⟩ p).setCell ⟨w.heap.size, 1, none⟩ q).setCell ⟨w.heap.size, 2, none⟩ r).alloc o) W.heap.size A false x (-place) := by
      rcases HN3.out.store (g := w.heap.size) (by omega) p q r with h | ⟨h0, v, h1, ho⟩
      · exact .inl h
      · exact .inr ⟨h0, v, h1, ho.later ((Below.refl _ _).alloc (Nat.le_refl _) _)⟩
    exact ⟨hna.mono (by omega), (below_store3 (hBW.trans (HB3.out.mono (by omega))) (Nat.le_refl _) _ _ _).alloc (by simp [World.setCell]; omega) _⟩
  clear hB3 hs hBW
  have HOK : Hid (okR false x (-place) = okR false x (-place)) := (rfl : _ = _)
  cases hok : okR false x (-place)
  · have hNil : Nil = .agg #[.bool false, .slice none 0 0, .int .i64 0] := rfl
    clear hsh
    go_wp2
    refine bodyPost_ret (results_cell_tmp2_row rfl _ _ w.heap.size 25 #[.bool false, .slice none 0 0, .int .i64 0] (0, 0) _ rfl (HC4.out _ _ _ _) Tryz.underlying25 rfl Tryz.info25) rfl ?_
    exact ⟨A, by rw [hok]; rfl, HFIN.out _ _ _ _⟩
  · subst hsh
    go_wp2
    refine bodyPost_ret (results_cell_tmp2_row rfl _ _ w.heap.size 25 #[.bool s', .slice ao n cap, .int .i64 ex] (0, 0) _ rfl (HC4.out _ _ _ _) Tryz.underlying25 rfl Tryz.info25) rfl ?_
    exact ⟨_, by rw [hok]; rfl, HFIN.out _ _ _ _⟩

set_option maxRecDepth 200000 in
theorem c96_ft (v : Value) (x : Nat) (place : Int) (w : World) (hT : Tab32 w) (h : Is w v x) (hx : dlen x ≤ 1000000) (hp1 : -4000000 ≤ place) (hp2 : place ≤ 4000000) :
    Calls Tryz.prog 56 #[.bool false, v, .int .i64 place, .bool true] w fun r w' => Held3 w false x (-place) true r w' := by
  obtain ⟨W, hW⟩ : ∃ W, W = w.alloc (.cells #[.bool false, .slice none 0 0, .int .i64 0] 25) := ⟨_, rfl⟩
  have hBW : Below w.heap.size w W := by rw [hW]; exact (Below.refl _ _).alloc (Nat.le_refl _) _
  have hC : W.heap[w.heap.size]? = some (.cells #[.bool false, .slice none 0 0, .int .i64 0] 25 (0, 0)) := by rw [hW]; exact heap_alloc_new _ _
  have hsz : W.heap.size = w.heap.size + 1 := by rw [hW]; simp
  have k56 := c56 (neg := false) (e := -place) (h.later hBW) (by omega) (hT.later hBW) (by omega)
  have HH : Hid (W.heap[w.heap.size]? = some (.cells #[.bool false, .slice none 0 0, .int .i64 0] 25 (0, 0)) ∧ W.heap.size = w.heap.size + 1 ∧ Below w.heap.size w W ∧ dlen x ≤ 1000000) := ⟨hC, hsz, hBW, hx⟩
  have HB1 : Hid (Below W.heap.size W W) := Below.refl _ _
  clear hT h hx hBW hC hsz
  go_enter Tryz.func56, Tryz.ntmps56
  go_wp2_with fail
  rw [← hW]
  clear hW
  refine k56.mono ?_
  rintro r w2 ⟨A, rfl, hN, hB2⟩
  clear k56
  have HN : Hid (Nrm w2 W.heap.size A false x (-place)) := hN.mono HB1.out.size
  have HB2 : Hid (Below W.heap.size W w2) := HB1.out.trans (hB2.mono HB1.out.size)
  clear hN hB2
  go_wp2_with fail
  refine (c63n HN.out (by have := HH.out.2.2.2; omega)).mono ?_
  rintro r w3 ⟨rfl, hB3⟩
  have HB3 : Hid (Below W.heap.size W w3) := HB2.out.trans (hB3.mono HB2.out.size)
  have HN3 : Hid (Nrm w3 W.heap.size A false x (-place)) := by
    rcases HN.out with h | ⟨h0, v, h1, ho⟩
    · exact .inl h
    · exact .inr ⟨h0, v, h1, ho.later hB3⟩
  have HC3 : Hid (w3.heap[w.heap.size]? = some (.cells #[.bool false, .slice none 0 0, .int .i64 0] 25 (0, 0))) := box_later HH.out.1 HB3.out (by have := HH.out.2.1; omega)
  have hlt3 : w.heap.size < w3.heap.size := by have := HB3.out.size; have := HH.out.2.1; omega
  have HC4 : Hid (∀ p q r o, ((((w3.setCell ⟨w.heap.size, 0, none⟩ p).setCell ⟨w.heap.size, 1, none⟩ q).setCell ⟨w.heap.size, 2, none⟩ r).alloc o).heap[w.heap.size]? = some (.cells #[p, q, r] 25 (0, 0))) := fun p q r o => (Below.heap_alloc _ _ _ (by simp [World.setCell]; omega)).trans (store3 _ _ _ HC3.out)
  obtain ⟨⟨x1, x2, x3⟩, x4, x5, x6⟩ := box_cells HC3.out
  obtain ⟨s', ao, n, cap, ex, hsh⟩ := HN3.out.shape
  obtain ⟨-, hs, hBW, -⟩ := HH.out
  have HFIN : Hid (∀ p q r o, Nrm ((((w3.setCell ⟨w.heap.size, 0, none⟩ p).setCell ⟨w.heap.size, 1, none⟩ q).setCell ⟨w.heap.size, 2, none⟩ r).alloc o) w.heap.size A false x (-place) ∧ Below w.heap.size w ((((w3.setCell ⟨w.heap.size, 0, none⟩ p).setCell ⟨w.heap.size, 1, none⟩ q).setCell ⟨w.heap.size, 2, none⟩ r).alloc o)) := by
    intro p q r o
    have hna : Nrm ((((w3.setCell ⟨w.heap.size, 0, none⟩ p).setCell ⟨w.heap.size, 1, none⟩ q).setCell ⟨w.heap.size, 2, none⟩ r).alloc o) W.heap.size A false x (-place) := by
      rcases HN3.out.store (g := w.heap.size) (by omega) p q r with h | ⟨h0, v, h1, ho⟩
      · exact .inl h
      · exact .inr ⟨h0, v, h1, ho.later ((Below.refl _ _).alloc (Nat.le_refl _) _)⟩
    exact ⟨hna.mono (by omega), (below_store3 (hBW.trans (HB3.out.mono (by omega))) (Nat.le_refl _) _ _ _).alloc (by simp [World.setCell]; omega) _⟩
  clear hB3 hs hBW
  have HOK : Hid (okR false x (-place) = okR false x (-place)) := (rfl : _ = _)
  cases hok : okR false x (-place)
  · have hNil : Nil = .agg #[.bool false, .slice none 0 0, .int .i64 0] := rfl
    clear hsh
    go_wp2
    refine bodyPost_ret (results_cell_tmp2_row rfl _ _ w.heap.size 25 #[.bool false, .slice none 0 0, .int .i64 0] (0, 0) _ rfl (HC4.out _ _ _ _) Tryz.underlying25 rfl Tryz.info25) rfl ?_
    exact ⟨A, by rw [hok]; rfl, HFIN.out _ _ _ _⟩
  · subst hsh
    go_wp2
    refine bodyPost_ret (results_cell_tmp2_row rfl _ _ w.heap.size 25 #[.bool s', .slice ao n cap, .int .i64 ex] (0, 0) _ rfl (HC4.out _ _ _ _) Tryz.underlying25 rfl Tryz.info25) rfl ?_
    exact ⟨_, by rw [hok]; rfl, HFIN.out _ _ _ _⟩

set_option maxRecDepth 200000 in
theorem c96_tt (v : Value) (x : Nat) (place : Int) (w : World) (hT : Tab32 w) (h : Is w v x) (hx : dlen x ≤ 1000000) (hp1 : -4000000 ≤ place) (hp2 : place ≤ 4000000) :
    Calls Tryz.prog 56 #[.bool true, v, .int .i64 place, .bool true] w fun r w' => Held3 w true x (-place) true r w' := by
  obtain ⟨W, hW⟩ : ∃ W, W = w.alloc (.cells #[.bool false, .slice none 0 0, .int .i64 0] 25) := ⟨_, rfl⟩
  have hBW : Below w.heap.size w W := by rw [hW]; exact (Below.refl _ _).alloc (Nat.le_refl _) _
  have hC : W.heap[w.heap.size]? = some (.cells #[.bool false, .slice none 0 0, .int .i64 0] 25 (0, 0)) := by rw [hW]; exact heap_alloc_new _ _
  have hsz : W.heap.size = w.heap.size + 1 := by rw [hW]; simp
  have k56 := c56 (neg := true) (e := -place) (h.later hBW) (by omega) (hT.later hBW) (by omega)
  have HH : Hid (W.heap[w.heap.size]? = some (.cells #[.bool false, .slice none 0 0, .int .i64 0] 25 (0, 0)) ∧ W.heap.size = w.heap.size + 1 ∧ Below w.heap.size w W ∧ dlen x ≤ 1000000) := ⟨hC, hsz, hBW, hx⟩
  have HB1 : Hid (Below W.heap.size W W) := Below.refl _ _
  clear hT h hx hBW hC hsz
  go_enter Tryz.func56, Tryz.ntmps56
  go_wp2_with fail
  rw [← hW]
  clear hW
  refine k56.mono ?_
  rintro r w2 ⟨A, rfl, hN, hB2⟩
  clear k56
  have HN : Hid (Nrm w2 W.heap.size A true x (-place)) := hN.mono HB1.out.size
  have HB2 : Hid (Below W.heap.size W w2) := HB1.out.trans (hB2.mono HB1.out.size)
  clear hN hB2
  go_wp2_with fail
  refine (c63n HN.out (by have := HH.out.2.2.2; omega)).mono ?_
  rintro r w3 ⟨rfl, hB3⟩
  have HB3 : Hid (Below W.heap.size W w3) := HB2.out.trans (hB3.mono HB2.out.size)
  have HN3 : Hid (Nrm w3 W.heap.size A true x (-place)) := by
    rcases HN.out with h | ⟨h0, v, h1, ho⟩
    · exact .inl h
    · exact .inr ⟨h0, v, h1, ho.later hB3⟩
  have HC3 : Hid (w3.heap[w.heap.size]? = some (.cells #[.bool false, .slice none 0 0, .int .i64 0] 25 (0, 0))) := box_later HH.out.1 HB3.out (by have := HH.out.2.1; omega)
  have hlt3 : w.heap.size < w3.heap.size := by have := HB3.out.size; have := HH.out.2.1; omega
  have HC4 : Hid (∀ p q r o, ((((w3.setCell ⟨w.heap.size, 0, none⟩ p).setCell ⟨w.heap.size, 1, none⟩ q).setCell ⟨w.heap.size, 2, none⟩ r).alloc o).heap[w.heap.size]? = some (.cells #[p, q, r] 25 (0, 0))) := fun p q r o => (Below.heap_alloc _ _ _ (by simp [World.setCell]; omega)).trans (store3 _ _ _ HC3.out)
  obtain ⟨⟨x1, x2, x3⟩, x4, x5, x6⟩ := box_cells HC3.out
  obtain ⟨s', ao, n, cap, ex, hsh⟩ := HN3.out.shape
  obtain ⟨-, hs, hBW, -⟩ := HH.out
  have HFIN : Hid (∀ p q r o, Nrm ((((w3.setCell ⟨w.heap.size, 0, none⟩ p).setCell ⟨w.heap.size, 1, none⟩ q).setCell ⟨w.heap.size, 2, none⟩ r).alloc o) w.heap.size A true x (-place) ∧ Below w.heap.size w ((((w3.setCell ⟨w.heap.size, 0, none⟩ p).setCell ⟨w.heap.size, 1, none⟩ q).setCell ⟨w.heap.size, 2, none⟩ r).alloc o)) := by
    intro p q r o
    have hna : Nrm ((((w3.setCell ⟨w.heap.size, 0, none⟩ p).setCell ⟨w.heap.size, 1, none⟩ q).setCell ⟨w.heap.size, 2, none⟩ r).alloc o) W.heap.size A true x (-place) := by
      rcases HN3.out.store (g := w.heap.size) (by omega) p q r with h | ⟨h0, v, h1, ho⟩
      · exact .inl h
      · exact .inr ⟨h0, v, h1, ho.later ((Below.refl _ _).alloc (Nat.le_refl _) _)⟩
    exact ⟨hna.mono (by omega), (below_store3 (hBW.trans (HB3.out.mono (by omega))) (Nat.le_refl _) _ _ _).alloc (by simp [World.setCell]; omega) _⟩
  clear hB3 hs hBW
  have HOK : Hid (okR true x (-place) = okR true x (-place)) := (rfl : _ = _)
  cases hok : okR true x (-place)
  · have hNil : Nil = .agg #[.bool false, .slice none 0 0, .int .i64 0] := rfl
    clear hsh
    go_wp2
    refine bodyPost_ret (results_cell_tmp2_row rfl _ _ w.heap.size 25 #[.bool false, .slice none 0 0, .int .i64 0] (0, 0) _ rfl (HC4.out _ _ _ _) Tryz.underlying25 rfl Tryz.info25) rfl ?_
    exact ⟨A, by rw [hok]; rfl, HFIN.out _ _ _ _⟩
  · subst hsh
    go_wp2
    refine bodyPost_ret (results_cell_tmp2_row rfl _ _ w.heap.size 25 #[.bool s', .slice ao n cap, .int .i64 ex] (0, 0) _ rfl (HC4.out _ _ _ _) Tryz.underlying25 rfl Tryz.info25) rfl ?_
    exact ⟨_, by rw [hok]; rfl, HFIN.out _ _ _ _⟩
theorem dlen_one : dlen 1 = 1 := dlen_eq (by unfold B; omega) (.inr (by simp))

set_option maxRecDepth 200000 in
theorem c96_tf (v : Value) (x : Nat) (place : Int) (w : World) (hT : Tab32 w) (h : Is w v x) (hx : dlen x ≤ 900000) (hp1 : -4000000 ≤ place) (hp2 : place ≤ 4000000) :
    Calls Tryz.prog 56 #[.bool true, v, .int .i64 place, .bool false] w fun r w' => Held3 w true (x + 1) (-place) false r w' := by
  obtain ⟨W, hW⟩ : ∃ W, W = w.alloc (.cells #[.bool false, .slice none 0 0, .int .i64 0] 25) := ⟨_, rfl⟩
  have hBW : Below w.heap.size w W := by rw [hW]; exact (Below.refl _ _).alloc (Nat.le_refl _) _
  have hC : W.heap[w.heap.size]? = some (.cells #[.bool false, .slice none 0 0, .int .i64 0] 25 (0, 0)) := by rw [hW]; exact heap_alloc_new _ _
  have hsz : W.heap.size = w.heap.size + 1 := by rw [hW]; simp
  have HH : Hid (W.heap[w.heap.size]? = some (.cells #[.bool false, .slice none 0 0, .int .i64 0] 25 (0, 0)) ∧ W.heap.size = w.heap.size + 1 ∧ Below w.heap.size w W ∧ dlen x ≤ 900000) := ⟨hC, hsz, hBW, hx⟩
  have HI : Hid (Is W v x ∧ Tab32 W) := ⟨h.later hBW, hT.later hBW⟩
  clear hT h hx hBW hC hsz
  go_enter Tryz.func56, Tryz.ntmps56
  go_wp2_with fail
  rw [← hW]
  clear hW
  refine (c57 1 W (by omega)).mono ?_
  rintro r wa ⟨v1, rfl, hO1, hBa⟩
  have hIa := HI.out.1.later hBa
  go_wp2_with fail
  refine (c122 hIa hO1.is (by have := HH.out.2.2.2; omega) (by rw [dlen_one]; omega)).mono ?_
  rintro r wb ⟨vb, rfl, hOb, hBb⟩
  have HB1 : Hid (Below W.heap.size W wb) := below_step hBa hBb
  have k56 := c56 (neg := true) (e := -place) hOb.is (by have := HH.out.2.2.2; have := dlen_add_le x 1; have := dlen_one; omega) (HI.out.2.later HB1.out) (by omega)
  clear hO1 hIa hBa hBb hOb HI
  go_wp2_with fail
  refine k56.mono ?_
  rintro r w2 ⟨A, rfl, hN, hB2⟩
  clear k56
  have HN : Hid (Nrm w2 W.heap.size A true (x + 1) (-place)) := hN.mono HB1.out.size
  have HB2 : Hid (Below W.heap.size W w2) := HB1.out.trans (hB2.mono HB1.out.size)
  clear hN hB2
  go_wp2_with fail
  refine (c63n HN.out (by have := HH.out.2.2.2; have := dlen_add_le x 1; have := dlen_one; omega)).mono ?_
  rintro r w3 ⟨rfl, hB3⟩
  have HB3 : Hid (Below W.heap.size W w3) := HB2.out.trans (hB3.mono HB2.out.size)
  have HN3 : Hid (Nrm w3 W.heap.size A true (x + 1) (-place)) := by
    rcases HN.out with h | ⟨h0, v, h1, ho⟩
    · exact .inl h
    · exact .inr ⟨h0, v, h1, ho.later hB3⟩
  have HC3 : Hid (w3.heap[w.heap.size]? = some (.cells #[.bool false, .slice none 0 0, .int .i64 0] 25 (0, 0))) := box_later HH.out.1 HB3.out (by have := HH.out.2.1; omega)
  have hlt3 : w.heap.size < w3.heap.size := by have := HB3.out.size; have := HH.out.2.1; omega
  have HC4 : Hid (∀ p q r o, ((((w3.setCell ⟨w.heap.size, 0, none⟩ p).setCell ⟨w.heap.size, 1, none⟩ q).setCell ⟨w.heap.size, 2, none⟩ r).alloc o).heap[w.heap.size]? = some (.cells #[p, q, r] 25 (0, 0))) := fun p q r o => (Below.heap_alloc _ _ _ (by simp [World.setCell]; omega)).trans (store3 _ _ _ HC3.out)
  obtain ⟨⟨x1, x2, x3⟩, x4, x5, x6⟩ := box_cells HC3.out
  obtain ⟨s', ao, n, cap, ex, hsh⟩ := HN3.out.shape
  obtain ⟨-, hs, hBW, -⟩ := HH.out
  have HFIN : Hid (∀ p q r o, Nrm ((((w3.setCell ⟨w.heap.size, 0, none⟩ p).setCell ⟨w.heap.size, 1, none⟩ q).setCell ⟨w.heap.size, 2, none⟩ r).alloc o) w.heap.size A true (x + 1) (-place) ∧ Below w.heap.size w ((((w3.setCell ⟨w.heap.size, 0, none⟩ p).setCell ⟨w.heap.size, 1, none⟩ q).setCell ⟨w.heap.size, 2, none⟩ r).alloc o)) := by
    intro p q r o
    have hna : Nrm ((((w3.setCell ⟨w.heap.size, 0, none⟩ p).setCell ⟨w.heap.size, 1, none⟩ q).setCell ⟨w.heap.size, 2, none⟩ r).alloc o) W.heap.size A true (x + 1) (-place) := by
      rcases HN3.out.store (g := w.heap.size) (by omega) p q r with h | ⟨h0, v, h1, ho⟩
      · exact .inl h
      · exact .inr ⟨h0, v, h1, ho.later ((Below.refl _ _).alloc (Nat.le_refl _) _)⟩
    exact ⟨hna.mono (by omega), (below_store3 (hBW.trans (HB3.out.mono (by omega))) (Nat.le_refl _) _ _ _).alloc (by simp [World.setCell]; omega) _⟩
  clear hB3 hs hBW
  have HOK : Hid (okR true (x + 1) (-place) = okR true (x + 1) (-place)) := (rfl : _ = _)
  cases hok : okR true (x + 1) (-place)
  · have hNil : Nil = .agg #[.bool false, .slice none 0 0, .int .i64 0] := rfl
    clear hsh
    go_wp2
    refine bodyPost_ret (results_cell_tmp2_row rfl _ _ w.heap.size 25 #[.bool false, .slice none 0 0, .int .i64 0] (0, 0) _ rfl (HC4.out _ _ _ _) Tryz.underlying25 rfl Tryz.info25) rfl ?_
    exact ⟨A, by rw [hok]; rfl, HFIN.out _ _ _ _⟩
  · subst hsh
    go_wp2
    refine bodyPost_ret (results_cell_tmp2_row rfl _ _ w.heap.size 25 #[.bool s', .slice ao n cap, .int .i64 ex] (0, 0) _ rfl (HC4.out _ _ _ _) Tryz.underlying25 rfl Tryz.info25) rfl ?_
    exact ⟨_, by rw [hok]; rfl, HFIN.out _ _ _ _⟩

theorem c96 {neg exact : Bool} {v : Value} {x : Nat} {place : Int} {w : World} (hT : Tab32 w) (h : Is w v x) (hx : dlen x ≤ 900000) (hp1 : -4000000 ≤ place) (hp2 : place ≤ 4000000) :
    Calls Tryz.prog 56 #[.bool neg, v, .int .i64 place, .bool exact] w fun r w' => Held3 w neg (if neg && !exact then x + 1 else x) (-place) exact r w' := by
  cases neg <;> cases exact
  · exact c96_ff v x place w hT h (by omega) hp1 hp2
  · exact c96_ft v x place w hT h (by omega) hp1 hp2
  · exact c96_tf v x place w hT h hx hp1 hp2
  · exact c96_tt v x place w hT h (by omega) hp1 hp2
end Go.Proofs.YtceoeiojoffnnaaGreatDoor

/- Quo. -/
namespace Go.Proofs.YtceoeiojoffnnaaGreatDoor
set_option linter.unusedVariables false
set_option linter.unusedSimpArgs false
open Go.RowKit

theorem c94 (place : Int) (w : World) (h : -65536 ≤ place ∧ place ≤ 65536) : Calls Tryz.prog 53 #[.int .i64 place] w fun r w' => r = .returned (.bool true) ∧ w' = w := by
  obtain ⟨h1, h2⟩ := h
  go_enter Tryz.func53, Tryz.ntmps53
  go_wp2
  go_ret
  exact ⟨rfl, rfl⟩

set_option maxRecDepth 200000 in
theorem c44_1 (na nb : Bool) (ua va : Option Addr) (un uc vn vc X Y : Nat) (ea eb e place : Int) (sg xc : Bool) (zz : Nat) (w : World) (hsg : Hid ((!(na == nb)) = sg)) (hxc : Hid (decide (X % Y = 0) = xc)) (hzz : Hid ((if sg && !xc then X / Y + 1 else X / Y) = zz)) (hT : Tab32 w) (hY0 : Y ≠ 0) (hX : dlen X ≤ 900000) (hY : dlen Y ≤ 900000) (hn1 : ((vn : Int) == 0) = false) (hp : -65536 ≤ place ∧ place ≤ 65536) (hea1 : -65536 ≤ ea) (hea2 : ea ≤ 65536)
    (k67 : ∀ W g, Below w.heap.size w W → W.heap[g]? = some (.cells #[.bool na, .slice ua un uc, .int .i64 ea, .bool nb, .slice va vn vc, .int .i64 eb] 25 (0, 0)) → Calls Tryz.prog 43 #[.slice (some ⟨g, 0, none⟩) 2 2] W fun r w' => r = .returned (.bool true) ∧ Below W.heap.size W w')
    (h99 : ∀ W, Below w.heap.size w W → Calls Tryz.prog 54 #[.agg #[.bool false, .slice ua un uc, .int .i64 (ea + place)], .agg #[.bool nb, .slice va vn vc, .int .i64 eb]] W fun r w' => ∃ p q, r = .returned (.tuple #[p, q, .int .i64 e]) ∧ Own w' W.heap.size p X ∧ Own w' W.heap.size q Y ∧ Below W.heap.size W w') :
    Calls Tryz.prog 28 #[NumV na (.slice ua un uc) ea, NumV nb (.slice va vn vc) eb, .int .i64 place] w fun r w' => Held3 w sg zz (-place) xc r w' := by
  obtain ⟨W, hW⟩ : ∃ W, W = ((w.alloc (.cells #[.bool na, .slice ua un uc, .int .i64 ea] 25)).alloc (.cells #[.bool nb, .slice va vn vc, .int .i64 eb] 25)).alloc (.cells #[.bool false, .slice none 0 0, .int .i64 0] 25) := ⟨_, rfl⟩
  obtain ⟨hA, hBb, hC, hsz, hBW⟩ := boxes3 _ _ _ hW
  have hB4 : Below w.heap.size w (W.alloc (.cells #[.bool na, .slice ua un uc, .int .i64 ea, .bool nb, .slice va vn vc, .int .i64 eb] 25)) := hBW.alloc hBW.size _
  have k1 := k67 (W.alloc (.cells #[.bool na, .slice ua un uc, .int .i64 ea, .bool nb, .slice va vn vc, .int .i64 eb] 25)) (w.heap.size + 1 + 1 + 1) hB4 (by rw [← hsz]; exact heap_alloc_new _ _)
  have HH : Hid ((W.heap[w.heap.size]? = some (.cells #[.bool na, .slice ua un uc, .int .i64 ea] 25 (0, 0)) ∧ W.heap[w.heap.size + 1]? = some (.cells #[.bool nb, .slice va vn vc, .int .i64 eb] 25 (0, 0)) ∧ W.heap[w.heap.size + 1 + 1]? = some (.cells #[.bool false, .slice none 0 0, .int .i64 0] 25 (0, 0))) ∧ W.heap.size = w.heap.size + 1 + 1 + 1 ∧ Below w.heap.size w W ∧ Below W.heap.size W (W.alloc (.cells #[.bool na, .slice ua un uc, .int .i64 ea, .bool nb, .slice va vn vc, .int .i64 eb] 25))) := ⟨⟨hA, hBb, hC⟩, hsz, hBW, (Below.refl _ _).alloc (Nat.le_refl _) _⟩
  have HT : Hid (Tab32 W ∧ Y ≠ 0 ∧ dlen X ≤ 900000 ∧ dlen Y ≤ 900000) := ⟨hT.later hBW, hY0, hX, hY⟩
  have HK99 : Hid (∀ W, Below w.heap.size w W → Calls Tryz.prog 54 #[.agg #[.bool false, .slice ua un uc, .int .i64 (ea + place)], .agg #[.bool nb, .slice va vn vc, .int .i64 eb]] W fun r w' => ∃ p q, r = .returned (.tuple #[p, q, .int .i64 e]) ∧ Own w' W.heap.size p X ∧ Own w' W.heap.size q Y ∧ Below W.heap.size W w') := h99
  have k94 := fun w => c94 place w hp
  obtain ⟨hp1, hp2⟩ := hp
  have hpk : Hid (-65536 ≤ place ∧ place ≤ 65536) := ⟨hp1, hp2⟩
  unfold NumV
  clear hA hBb hC hsz hBW hB4 k67 h99 hT hY0 hX hY
  go_enter Tryz.func28, Tryz.ntmps28
  go_wp2_with fail
  rw [← hW]
  clear hW
  refine k1.mono ?_
  rintro r w1 ⟨rfl, hB1⟩
  clear k1
  have HB1 : Hid (Below W.heap.size W w1) := HH.out.2.2.2.trans (hB1.mono HH.out.2.2.2.size)
  obtain ⟨⟨a0, a1, a2⟩, -⟩ := box_cells (box_later HH.out.1.1 HB1.out (by have := HH.out.2.1; omega))
  obtain ⟨⟨b0, b1, b2⟩, -⟩ := box_cells (box_later HH.out.1.2.1 HB1.out (by have := HH.out.2.1; omega))
  clear hB1
  go_wp2_with fail
  refine (k94 _).mono ?_
  rintro r w1' ⟨rfl, rfl⟩
  clear k94
  go_wp2_with fail
  refine (HK99.out _ (HH.out.2.2.1.trans (HB1.out.mono HH.out.2.2.1.size))).mono ?_
  rintro r w2 ⟨p, q, rfl, hp, hq, hB2⟩
  have HB2 : Hid (Below W.heap.size W w2) := HB1.out.trans (hB2.mono HB1.out.size)
  clear a0 a1 a2 b0 b1 b2 hB2
  go_wp2_with fail
  refine (c100 hp.is hq.is (by have := HT.out.2.2.1; omega) (by have := HT.out.2.2.2; omega) HT.out.2.1).mono ?_
  rw [hxc.out]
  rintro r w3 ⟨qq, rfl, hO3, hB3⟩
  have HB3 : Hid (Below W.heap.size W w3) := HB2.out.trans (hB3.mono HB2.out.size)
  obtain ⟨⟨a0, a1, a2⟩, -⟩ := box_cells (box_later HH.out.1.1 HB3.out (by have := HH.out.2.1; omega))
  obtain ⟨⟨b0, b1, b2⟩, -⟩ := box_cells (box_later HH.out.1.2.1 HB3.out (by have := HH.out.2.1; omega))
  have k96 := c96 (neg := sg) (exact := xc) (place := place) (HT.out.1.later HB3.out) hO3.is (Nat.le_trans (dlen_mono (Nat.div_le_self ..)) HT.out.2.2.1) (by omega) (by omega)
  rw [hzz.out] at k96
  clear hp hq hO3 hB3
  go_wp2_with fail
  rw [hsg.out]
  refine k96.mono ?_
  clear k96
  rintro r w4 ⟨A, rfl, hN, hB4⟩
  have HB4 : Hid (Below W.heap.size W w4) := HB3.out.trans (hB4.mono HB3.out.size)
  have HN4 : Hid (Nrm w4 W.heap.size A sg zz (-place)) := hN.mono HB3.out.size
  have HC4 : Hid (w4.heap[w.heap.size + 1 + 1]? = some (.cells #[.bool false, .slice none 0 0, .int .i64 0] 25 (0, 0))) := box_later HH.out.1.2.2 HB4.out (by have := HH.out.2.1; omega)
  obtain ⟨⟨x1, x2, x3⟩, x4, x5, x6⟩ := box_cells HC4.out
  obtain ⟨s', ao, n, cap, ex, hsh⟩ := HN4.out.shape
  clear hN hB4 a0 a1 a2 b0 b1 b2 hsg
  obtain ⟨-, hs, hBW, -⟩ := HH.out
  have HF : Hid (∀ p q r, Nrm (((w4.setCell ⟨w.heap.size + 1 + 1, 0, none⟩ p).setCell ⟨w.heap.size + 1 + 1, 1, none⟩ q).setCell ⟨w.heap.size + 1 + 1, 2, none⟩ r) w.heap.size A sg zz (-place) ∧ Below w.heap.size w (((w4.setCell ⟨w.heap.size + 1 + 1, 0, none⟩ p).setCell ⟨w.heap.size + 1 + 1, 1, none⟩ q).setCell ⟨w.heap.size + 1 + 1, 2, none⟩ r)) := fun p q r =>
    ⟨(HN4.out.store (by omega) _ _ _).mono (by omega), below_store3 (hBW.trans (HB4.out.mono hBW.size)) (by omega) _ _ _⟩
  clear hs hBW
  cases hok : okR sg zz (-place)
  · have hNil : Nil = .agg #[.bool false, .slice none 0 0, .int .i64 0] := rfl
    clear hsh
    go_wp2
    refine bodyPost_ret (results_cell_tmp2_row rfl _ _ (w.heap.size + 1 + 1) 25 #[.bool false, .slice none 0 0, .int .i64 0] (0, 0) _ rfl (store3 _ _ _ HC4.out) Tryz.underlying25 rfl Tryz.info25) rfl ?_
    exact ⟨A, by rw [hok]; simp [hNil], HF.out _ _ _⟩
  · subst hsh
    go_wp2
    refine bodyPost_ret (results_cell_tmp2_row rfl _ _ (w.heap.size + 1 + 1) 25 #[.bool s', .slice ao n cap, .int .i64 ex] (0, 0) _ rfl (store3 _ _ _ HC4.out) Tryz.underlying25 rfl Tryz.info25) rfl ?_
    exact ⟨_, by rw [hok]; simp, HF.out _ _ _⟩

theorem c44 {na nb : Bool} {u v : Value} {x y : Nat} {ea eb place : Int} {w : World} (h1 : Is w u x) (h2 : Is w v y) (hT : Tab32 w) (hy0 : y ≠ 0) (hx : dlen x ≤ 2048) (hy : dlen y ≤ 2048) (hoka : okN na (dlen x) x ea = true) (hokb : okN nb (dlen y) y eb = true)
    (ha : -65536 ≤ ea ∧ ea ≤ 65536) (hb : -65536 ≤ eb ∧ eb ≤ 65536) (hp : -65536 ≤ place ∧ place ≤ 65536) (X Y : Nat) (hX : x * 2 ^ (ea + place - min (ea + place) eb).toNat = X) (hY : y * 2 ^ (eb - min (ea + place) eb).toNat = Y) :
    Calls Tryz.prog 28 #[NumV na u ea, NumV nb v eb, .int .i64 place] w fun r w' => Held3 w (na != nb) (if (na != nb) && !(decide (X % Y = 0)) then X / Y + 1 else X / Y) (-place) (decide (X % Y = 0)) r w' := by
  have h1' := h1
  have h2' := h2
  obtain ⟨ua, uc, rfl, -, -, -⟩ := h1'
  obtain ⟨va, vc, rfl, -, -, -⟩ := h2'
  have lX : dlen X ≤ 900000 := by have := shl_len (x := x) (k := (ea + place - min (ea + place) eb).toNat) rfl; rw [← hX]; omega
  have lY : dlen Y ≤ 900000 := by have := shl_len (x := y) (k := (eb - min (ea + place) eb).toNat) rfl; rw [← hY]; omega
  have hY0 : Y ≠ 0 := by rw [← hY]; exact Nat.ne_of_gt (Nat.mul_pos (by omega) (Nat.two_pow_pos _))
  refine c44_1 na nb ua va _ uc _ vc X Y ea eb (min (ea + place) eb) place (na != nb) _ _ w (rfl : (!(na == nb)) = (na != nb)) rfl rfl hT hY0 lX lY (len_ne (n := 0) hy0) hp ha.1 ha.2 (fun W g hW hg => ?_) (fun W hW => ?_)
  · have := maybe2 hg (h1.later hW) (h2.later hW) (by omega) (by omega)
    rw [hoka, hokb] at this
    exact this
  · have := c99 (na := false) (nb := nb) (ea := ea + place) (eb := eb) (h1.later hW) (h2.later hW) (by omega) (by omega) (by omega) (by omega)
    rw [hX, hY] at this
    exact this
end Go.Proofs.YtceoeiojoffnnaaGreatDoor

/- scaled, rootAt. -/
namespace Go.Proofs.YtceoeiojoffnnaaGreatDoor
set_option linter.unusedVariables false
set_option linter.unusedSimpArgs false
open Go.RowKit

set_option maxRecDepth 200000 in
theorem c95_1 (neg : Bool) (ua : Option Addr) (un uc x k : Nat) (ea place : Int) (w : World) (h : Is w (.slice ua un uc) x) (hx : dlen x ≤ 1000000) (hk : ea + place = k) (hk2 : k ≤ 4000000) (he1 : -4000000 ≤ ea) (he2 : ea ≤ 4000000) (hp1 : -4000000 ≤ place) (hp2 : place ≤ 4000000) :
    Calls Tryz.prog 85 #[NumV neg (.slice ua un uc) ea, .int .i64 place] w fun r w' => ∃ v, r = .returned (.tuple #[v, .bool true]) ∧ Own w' w.heap.size v (x * 2 ^ k) ∧ Below w.heap.size w w' := by
  obtain ⟨W, hW⟩ : ∃ W, W = w.alloc (.cells #[.bool neg, .slice ua un uc, .int .i64 ea] 25) := ⟨_, rfl⟩
  have hBW : Below w.heap.size w W := by rw [hW]; exact (Below.refl _ _).alloc (Nat.le_refl _) _
  have k109 := c109 (h.later hBW) k (by omega) (by omega)
  have HB : Hid (Below w.heap.size w W) := hBW
  clear h hx hBW
  unfold NumV
  go_enter Tryz.func85, Tryz.ntmps85
  go_wp2_with fail
  rw [← hW]
  refine k109.mono ?_
  rintro r w1 ⟨v, rfl, hO, hB1⟩
  have HF : Hid (Own w1 w.heap.size v (x * 2 ^ k) ∧ Below w.heap.size w w1) := ⟨hO.mono HB.out.size, HB.out.trans (hB1.mono HB.out.size)⟩
  clear hO hB1 k109 hW
  go_wp2
  go_ret2
  exact ⟨v, rfl, HF.out⟩

set_option maxRecDepth 200000 in
theorem c95_2 (neg : Bool) (ua : Option Addr) (un uc x k : Nat) (ea place : Int) (w : World) (h : Is w (.slice ua un uc) x) (hx : dlen x ≤ 1000000) (hk : ea + place = -(k : Int)) (hk1 : 0 < k) (hk2 : k ≤ 4000000) (he1 : -4000000 ≤ ea) (he2 : ea ≤ 4000000) (hp1 : -4000000 ≤ place) (hp2 : place ≤ 4000000) :
    Calls Tryz.prog 85 #[NumV neg (.slice ua un uc) ea, .int .i64 place] w fun r w' => ∃ v, r = .returned (.tuple #[v, .bool ((un : Int) == 0)]) ∧ Own w' w.heap.size v (x / 2 ^ k) ∧ Below w.heap.size w w' := by
  obtain ⟨W, hW⟩ : ∃ W, W = w.alloc (.cells #[.bool neg, .slice ua un uc, .int .i64 ea] 25) := ⟨_, rfl⟩
  have hBW : Below w.heap.size w W := by rw [hW]; exact (Below.refl _ _).alloc (Nat.le_refl _) _
  have hbA : W.heap[w.heap.size]? = some (.cells #[.bool neg, .slice ua un uc, .int .i64 ea] 25 (0, 0)) := by rw [hW]; exact heap_alloc_new _ _
  have k120 : Calls Tryz.prog 63 #[.slice ua un uc, .int .i64 k] W.drew fun r w' => ∃ v, r = .returned v ∧ Own w' W.heap.size v (x / 2 ^ k) ∧ Below W.heap.size W w' :=
    (c120 (w := W.drew) (h.later hBW.drew) k (by omega) (by omega)).mono fun r w' ⟨v, e1, o1, o2⟩ => ⟨v, e1, o1, Below.trans (b := W.drew) (Below.refl _ _).drew o2⟩
  have hsz : W.heap.size = w.heap.size + 1 := by rw [hW]; simp
  have HK : Hid (∀ w', Below W.heap.size W w' → w'.cell? ⟨w.heap.size, 1, none⟩ = some (.slice ua un uc)) := fun w' hb => (box_cells (box_later hbA hb (by omega))).1.2.1
  have c1 := HK.out W (Below.refl _ _)
  have HB : Hid (Below w.heap.size w W) := hBW
  clear h hx hBW hbA hsz
  unfold NumV
  go_enter Tryz.func85, Tryz.ntmps85
  go_wp2
  rw [← hW]
  clear hW
  have hneg : Hid (IntKind.i64.wrap (k : Int) = (k : Int)) := (by rw [IntKind.wrap_i64]; omega : IntKind.i64.wrap (k : Int) = (k : Int))
  go_region_held3 (fun w' => w'.cell? ⟨w.heap.size, 1, none⟩ = some (.slice ua un uc)) (first | (with_reducible assumption) | (refine HK.out _ ?_; with_reducible assumption) | go_keep)
    (first | (go_at_call 63; rw [hneg.out]; refine k120.mono ?_; rintro r w5 ⟨v5, rfl, ho5, hb5⟩))
  have HF : Hid (Own w5 w.heap.size v5 (x / 2 ^ k) ∧ Below w.heap.size w w5) := ⟨ho5.mono HB.out.size, HB.out.trans (hb5.mono HB.out.size)⟩
  clear ho5 hb5 k120 HK HB c1
  go_wp2
  go_ret2
  exact ⟨v5, rfl, HF.out⟩

/-- a number times 2 to the k, cut, and whether it is all of it -/
theorem c95 {neg : Bool} {u : Value} {x : Nat} {ea place : Int} {w : World} (h : Is w u x) (hx : dlen x ≤ 1000000) (he : -2000000 ≤ ea ∧ ea ≤ 2000000) (hp : -2000000 ≤ place ∧ place ≤ 2000000) :
    Calls Tryz.prog 85 #[NumV neg u ea, .int .i64 place] w fun r w' => ∃ v, r = .returned (.tuple #[v, .bool (decide (0 ≤ ea + place ∨ x = 0))]) ∧ Own w' w.heap.size v (if 0 ≤ ea + place then x * 2 ^ (ea + place).toNat else x / 2 ^ (-(ea + place)).toNat) ∧ Below w.heap.size w w' := by
  have h' := h
  obtain ⟨ua, uc, rfl, -, -, -⟩ := h'
  by_cases hk : 0 ≤ ea + place
  · rw [if_pos hk, decide_eq_true (.inl hk)]
    exact c95_1 neg ua _ uc x (ea + place).toNat ea place w h hx (by omega) (by omega) (by omega) (by omega) (by omega) (by omega)
  · rw [if_neg hk]
    have := c95_2 neg ua _ uc x (-(ea + place)).toNat ea place w h hx (by omega) (by omega) (by omega) (by omega) (by omega) (by omega) (by omega)
    have e : ((dlen x : Int) == 0) = decide (0 ≤ ea + place ∨ x = 0) := by
      by_cases h0 : x = 0
      · subst h0; simp [dlen_zero]
      · have h1 : dlen x ≠ 0 := fun e => h0 (dlen_eq_zero.1 e)
        rw [decide_eq_false (by omega)]; simp; omega
    rw [e] at this
    exact this

set_option maxRecDepth 200000 in
theorem c102_1 (neg : Bool) (ua : Option Addr) (un uc x q : Nat) (b : Bool) (ea place : Int) (w : World) (hq : dlen q ≤ 1000000) (hp1 : -1000000 ≤ place) (hp2 : place ≤ 1000000)
    (k95 : ∀ W, Below w.heap.size w W → Calls Tryz.prog 85 #[.agg #[.bool neg, .slice ua un uc, .int .i64 ea], .int .i64 (2 * place)] W fun r w' => ∃ v, r = .returned (.tuple #[v, .bool b]) ∧ Own w' W.heap.size v q ∧ Below W.heap.size W w') :
    Calls Tryz.prog 57 #[NumV neg (.slice ua un uc) ea, .int .i64 place] w fun r w' => ∃ v m, r = .returned (.tuple #[v, .bool (b && decide (m * m = q))]) ∧ Own w' w.heap.size v m ∧ m * m ≤ q ∧ q < (m + 1) * (m + 1) ∧ Below w.heap.size w w' := by
  obtain ⟨W, hW⟩ : ∃ W, W = w.alloc (.cells #[.bool neg, .slice ua un uc, .int .i64 ea] 25) := ⟨_, rfl⟩
  have hBW : Below w.heap.size w W := by rw [hW]; exact (Below.refl _ _).alloc (Nat.le_refl _) _
  have k1 := k95 W hBW
  have HB : Hid (Below w.heap.size w W ∧ dlen q ≤ 1000000) := ⟨hBW, hq⟩
  clear hBW k95 hq
  unfold NumV
  go_enter Tryz.func57, Tryz.ntmps57
  go_wp2_with fail
  rw [← hW]
  clear hW
  refine k1.mono ?_
  rintro r w1 ⟨v1, rfl, hO1, hB1⟩
  clear k1
  go_wp2_with fail
  refine (c112 hO1.is (by have := HB.out.2; omega)).mono ?_
  rintro r w2 ⟨v2, m, rfl, hO2, hm1, hm2, hB2⟩
  have HF : Hid (Own w2 w.heap.size v2 m ∧ m * m ≤ q ∧ q < (m + 1) * (m + 1) ∧ Below w.heap.size w w2) := ⟨hO2.mono (by have := HB.out.1.size; have := hB1.size; omega), hm1, hm2, HB.out.1.trans ((below_step hB1 hB2).mono HB.out.1.size)⟩
  clear hO1 hB1 hO2 hm1 hm2 hB2
  generalize hdx : decide (m * m = q) = dx at *
  have HD : Hid (decide (m * m = q) = dx) := hdx
  clear hdx
  cases b
  · go_wp2
    go_ret2
    exact ⟨v2, m, rfl, HF.out⟩
  · go_wp2
    go_ret2
    exact ⟨v2, m, by rw [HD.out]; rfl, HF.out⟩
end Go.Proofs.YtceoeiojoffnnaaGreatDoor
