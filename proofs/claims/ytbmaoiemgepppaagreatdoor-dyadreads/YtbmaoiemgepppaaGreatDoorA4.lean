/- Own work: contracts of the program's functions, part 4: W21 W22 W23 IFl IW1 IW3 IW5 IW6 IW7. -/
import Derived.Test.YtbmaoiemgepppaaGreatDoorA3
import Derived.WalkKit
import Derived.WalkLawsBesides
import Derived.WalkSpells
import Derived.BigQuiet
import Derived.Laws.MathBits
import Derived.Lib.TrailingZeros
import Derived.Lib.LaidTab

/- lower. -/
namespace Go.Proofs.YtbmaoiemgepppaaGreatDoor
set_option linter.unusedVariables false
set_option linter.unusedSimpArgs false
open Go.RowKit

theorem results_cell_tmp2_row {P : Program} {fn : Func} {p u v : Tmp} {ty : TypeId} (h : fn.results = #[.cell p ty, .tmp u, .tmp v]) (tmps : Array Value) (w : World) (g : Nat) (t : TypeId) (cs : Array Value) (fr : Nat × Nat) (d : TypeDesc)
    (hp : tmps.getD p undef = .pointer (some ⟨g, 0, none⟩)) (hg : w.heap[g]? = some (.cells cs t fr))
    (hu : P.underlying ty = some d) (hd : (match d with | .struct _ | .array _ _ => true | _ => false) = true) (hi : (P.info? ty).map (·.size) = some cs.size) :
    (results fn tmps).run P w = .ok (.tuple #[.agg cs, tmps.getD u undef, tmps.getD v undef]) w := by
  have hp' : tmps[p]?.getD undef = .pointer (some ⟨g, 0, none⟩) := by simpa using hp
  simp [results, h, hp', asAddr, run_loadVar_row w g t ty cs fr d hg hu hd hi]

/-- an answer with a word whether it is exact -/
def Held3 (w : World) (s : Bool) (z : Nat) (e : Int) (x : Bool) (r : Ending) (w' : World) : Prop :=
  ∃ A, r = .returned (.tuple #[if okR s z e then A else Nil, .bool (x && okR s z e), .int .i64 (if okR s z e then 0 else 2)]) ∧ Nrm w' w.heap.size A s z e ∧ Below w.heap.size w w'

set_option maxRecDepth 200000 in
theorem c96_ff (v : Value) (x : Nat) (place : Int) (w : World) (hT : Tab32 w) (h : Is w v x) (hx : dlen x ≤ 1000000) (hp1 : -4000000 ≤ place) (hp2 : place ≤ 4000000) :
    Calls Tryz.prog 53 #[.bool false, v, .int .i64 place, .bool false] w fun r w' => Held3 w false x (-place) false r w' := by
  obtain ⟨W, hW⟩ : ∃ W, W = w.alloc (.cells #[.bool false, .slice none 0 0, .int .i64 0] 24) := ⟨_, rfl⟩
  have hBW : Below w.heap.size w W := by rw [hW]; exact (Below.refl _ _).alloc (Nat.le_refl _) _
  have hC : W.heap[w.heap.size]? = some (.cells #[.bool false, .slice none 0 0, .int .i64 0] 24 (0, 0)) := by rw [hW]; exact heap_alloc_new _ _
  have hsz : W.heap.size = w.heap.size + 1 := by rw [hW]; simp
  have k56 := c56 (neg := false) (e := -place) (h.later hBW) (by omega) (hT.later hBW) (by omega)
  have HH : Hid (W.heap[w.heap.size]? = some (.cells #[.bool false, .slice none 0 0, .int .i64 0] 24 (0, 0)) ∧ W.heap.size = w.heap.size + 1 ∧ Below w.heap.size w W ∧ dlen x ≤ 1000000) := ⟨hC, hsz, hBW, hx⟩
  have HB1 : Hid (Below W.heap.size W W) := Below.refl _ _
  clear hT h hx hBW hC hsz
  go_enter Tryz.func53, Tryz.ntmps53
  go_wp2_with fail
  rw [← hW]
  clear hW
  refine k56.mono ?_
  rintro r w2 ⟨A, rfl, hN, hB2⟩
  clear k56
  have HN : Hid (Nrm w2 W.heap.size A false x (-place)) := hN.mono HB1.out.size
  have HB2 : Hid (Below W.heap.size W w2) := HB1.out.trans (hB2.mono HB1.out.size)
  clear hN hB2
  go_wp2_with fail
  refine (c63n HN.out (by have := HH.out.2.2.2; omega)).mono ?_
  rintro r w3 ⟨rfl, hB3⟩
  have HB3 : Hid (Below W.heap.size W w3) := HB2.out.trans (hB3.mono HB2.out.size)
  have HN3 : Hid (Nrm w3 W.heap.size A false x (-place)) := by
    rcases HN.out with h | ⟨h0, v, h1, ho⟩
    · exact .inl h
    · exact .inr ⟨h0, v, h1, ho.later hB3⟩
  have HC3 : Hid (w3.heap[w.heap.size]? = some (.cells #[.bool false, .slice none 0 0, .int .i64 0] 24 (0, 0))) := box_later HH.out.1 HB3.out (by have := HH.out.2.1; omega)
  have hlt3 : w.heap.size < w3.heap.size := by have := HB3.out.size; have := HH.out.2.1; omega
  have HC4 : Hid (∀ p q r o, ((((w3.setCell ⟨w.heap.size, 0, none⟩ p).setCell ⟨w.heap.size, 1, none⟩ q).setCell ⟨w.heap.size, 2, none⟩ r).alloc o).heap[w.heap.size]? = some (.cells #[p, q, r] 24 (0, 0))) := fun p q r o => (Below.heap_alloc _ _ _ (by simp [World.setCell]; omega)).trans (store3 _ _ _ HC3.out)
  obtain ⟨⟨x1, x2, x3⟩, x4, x5, x6⟩ := box_cells HC3.out
  obtain ⟨s', ao, n, cap, ex, hsh⟩ := HN3.out.shape
  obtain ⟨-, hs, hBW, -⟩ := HH.out
  have HFIN : Hid (∀ p q r o, Nrm ((((w3.setCell ⟨w.heap.size, 0, none⟩ p).setCell ⟨w.heap.size, 1, none⟩ q).setCell ⟨w.heap.size, 2, none⟩ r).alloc o) w.heap.size A false x (-place) ∧ Below w.heap.size w ((((w3.setCell ⟨w.heap.size, 0, none⟩ p).setCell ⟨w.heap.size, 1, none⟩ q).setCell ⟨w.heap.size, 2, none⟩ r).alloc o)) := by
    intro p q r o
    have hna : Nrm ((((w3.setCell ⟨w.heap.size, 0, none⟩ p).setCell ⟨w.heap.size, 1, none⟩ q).setCell ⟨w.heap.size, 2, none⟩ r).alloc o) W.heap.size A false x (-place) := by
      rcases HN3.out.store (g := w.heap.size) (by omega) p q r with h | ⟨h0, v, h1, ho⟩
      · exact .inl h
      · exact .inr ⟨h0, v, h1, ho.later ((Below.refl _ _).alloc (Nat.le_refl _) _)⟩
    exact ⟨hna.mono (by omega), (below_store3 (hBW.trans (HB3.out.mono (by omega))) (Nat.le_refl _) _ _ _).alloc (by simp [World.setCell]; omega) _⟩
  clear hB3 hs hBW
  have HOK : Hid (okR false x (-place) = okR false x (-place)) := (rfl : _ = _)
  cases hok : okR false x (-place)
  · have hNil : Nil = .agg #[.bool false, .slice none 0 0, .int .i64 0] := rfl
    clear hsh
    go_wp2
    refine bodyPost_ret (results_cell_tmp2_row rfl _ _ w.heap.size 24 #[.bool false, .slice none 0 0, .int .i64 0] (0, 0) _ rfl (HC4.out _ _ _ _) Tryz.underlying24 rfl Tryz.info24) rfl ?_
    exact ⟨A, by rw [hok]; rfl, HFIN.out _ _ _ _⟩
  · subst hsh
    go_wp2
    refine bodyPost_ret (results_cell_tmp2_row rfl _ _ w.heap.size 24 #[.bool s', .slice ao n cap, .int .i64 ex] (0, 0) _ rfl (HC4.out _ _ _ _) Tryz.underlying24 rfl Tryz.info24) rfl ?_
    exact ⟨_, by rw [hok]; rfl, HFIN.out _ _ _ _⟩

set_option maxRecDepth 200000 in
theorem c96_ft (v : Value) (x : Nat) (place : Int) (w : World) (hT : Tab32 w) (h : Is w v x) (hx : dlen x ≤ 1000000) (hp1 : -4000000 ≤ place) (hp2 : place ≤ 4000000) :
    Calls Tryz.prog 53 #[.bool false, v, .int .i64 place, .bool true] w fun r w' => Held3 w false x (-place) true r w' := by
  obtain ⟨W, hW⟩ : ∃ W, W = w.alloc (.cells #[.bool false, .slice none 0 0, .int .i64 0] 24) := ⟨_, rfl⟩
  have hBW : Below w.heap.size w W := by rw [hW]; exact (Below.refl _ _).alloc (Nat.le_refl _) _
  have hC : W.heap[w.heap.size]? = some (.cells #[.bool false, .slice none 0 0, .int .i64 0] 24 (0, 0)) := by rw [hW]; exact heap_alloc_new _ _
  have hsz : W.heap.size = w.heap.size + 1 := by rw [hW]; simp
  have k56 := c56 (neg := false) (e := -place) (h.later hBW) (by omega) (hT.later hBW) (by omega)
  have HH : Hid (W.heap[w.heap.size]? = some (.cells #[.bool false, .slice none 0 0, .int .i64 0] 24 (0, 0)) ∧ W.heap.size = w.heap.size + 1 ∧ Below w.heap.size w W ∧ dlen x ≤ 1000000) := ⟨hC, hsz, hBW, hx⟩
  have HB1 : Hid (Below W.heap.size W W) := Below.refl _ _
  clear hT h hx hBW hC hsz
  go_enter Tryz.func53, Tryz.ntmps53
  go_wp2_with fail
  rw [← hW]
  clear hW
  refine k56.mono ?_
  rintro r w2 ⟨A, rfl, hN, hB2⟩
  clear k56
  have HN : Hid (Nrm w2 W.heap.size A false x (-place)) := hN.mono HB1.out.size
  have HB2 : Hid (Below W.heap.size W w2) := HB1.out.trans (hB2.mono HB1.out.size)
  clear hN hB2
  go_wp2_with fail
  refine (c63n HN.out (by have := HH.out.2.2.2; omega)).mono ?_
  rintro r w3 ⟨rfl, hB3⟩
  have HB3 : Hid (Below W.heap.size W w3) := HB2.out.trans (hB3.mono HB2.out.size)
  have HN3 : Hid (Nrm w3 W.heap.size A false x (-place)) := by
    rcases HN.out with h | ⟨h0, v, h1, ho⟩
    · exact .inl h
    · exact .inr ⟨h0, v, h1, ho.later hB3⟩
  have HC3 : Hid (w3.heap[w.heap.size]? = some (.cells #[.bool false, .slice none 0 0, .int .i64 0] 24 (0, 0))) := box_later HH.out.1 HB3.out (by have := HH.out.2.1; omega)
  have hlt3 : w.heap.size < w3.heap.size := by have := HB3.out.size; have := HH.out.2.1; omega
  have HC4 : Hid (∀ p q r o, ((((w3.setCell ⟨w.heap.size, 0, none⟩ p).setCell ⟨w.heap.size, 1, none⟩ q).setCell ⟨w.heap.size, 2, none⟩ r).alloc o).heap[w.heap.size]? = some (.cells #[p, q, r] 24 (0, 0))) := fun p q r o => (Below.heap_alloc _ _ _ (by simp [World.setCell]; omega)).trans (store3 _ _ _ HC3.out)
  obtain ⟨⟨x1, x2, x3⟩, x4, x5, x6⟩ := box_cells HC3.out
  obtain ⟨s', ao, n, cap, ex, hsh⟩ := HN3.out.shape
  obtain ⟨-, hs, hBW, -⟩ := HH.out
  have HFIN : Hid (∀ p q r o, Nrm ((((w3.setCell ⟨w.heap.size, 0, none⟩ p).setCell ⟨w.heap.size, 1, none⟩ q).setCell ⟨w.heap.size, 2, none⟩ r).alloc o) w.heap.size A false x (-place) ∧ Below w.heap.size w ((((w3.setCell ⟨w.heap.size, 0, none⟩ p).setCell ⟨w.heap.size, 1, none⟩ q).setCell ⟨w.heap.size, 2, none⟩ r).alloc o)) := by
    intro p q r o
    have hna : Nrm ((((w3.setCell ⟨w.heap.size, 0, none⟩ p).setCell ⟨w.heap.size, 1, none⟩ q).setCell ⟨w.heap.size, 2, none⟩ r).alloc o) W.heap.size A false x (-place) := by
      rcases HN3.out.store (g := w.heap.size) (by omega) p q r with h | ⟨h0, v, h1, ho⟩
      · exact .inl h
      · exact .inr ⟨h0, v, h1, ho.later ((Below.refl _ _).alloc (Nat.le_refl _) _)⟩
    exact ⟨hna.mono (by omega), (below_store3 (hBW.trans (HB3.out.mono (by omega))) (Nat.le_refl _) _ _ _).alloc (by simp [World.setCell]; omega) _⟩
  clear hB3 hs hBW
  have HOK : Hid (okR false x (-place) = okR false x (-place)) := (rfl : _ = _)
  cases hok : okR false x (-place)
  · have hNil : Nil = .agg #[.bool false, .slice none 0 0, .int .i64 0] := rfl
    clear hsh
    go_wp2
    refine bodyPost_ret (results_cell_tmp2_row rfl _ _ w.heap.size 24 #[.bool false, .slice none 0 0, .int .i64 0] (0, 0) _ rfl (HC4.out _ _ _ _) Tryz.underlying24 rfl Tryz.info24) rfl ?_
    exact ⟨A, by rw [hok]; rfl, HFIN.out _ _ _ _⟩
  · subst hsh
    go_wp2
    refine bodyPost_ret (results_cell_tmp2_row rfl _ _ w.heap.size 24 #[.bool s', .slice ao n cap, .int .i64 ex] (0, 0) _ rfl (HC4.out _ _ _ _) Tryz.underlying24 rfl Tryz.info24) rfl ?_
    exact ⟨_, by rw [hok]; rfl, HFIN.out _ _ _ _⟩

set_option maxRecDepth 200000 in
theorem c96_tt (v : Value) (x : Nat) (place : Int) (w : World) (hT : Tab32 w) (h : Is w v x) (hx : dlen x ≤ 1000000) (hp1 : -4000000 ≤ place) (hp2 : place ≤ 4000000) :
    Calls Tryz.prog 53 #[.bool true, v, .int .i64 place, .bool true] w fun r w' => Held3 w true x (-place) true r w' := by
  obtain ⟨W, hW⟩ : ∃ W, W = w.alloc (.cells #[.bool false, .slice none 0 0, .int .i64 0] 24) := ⟨_, rfl⟩
  have hBW : Below w.heap.size w W := by rw [hW]; exact (Below.refl _ _).alloc (Nat.le_refl _) _
  have hC : W.heap[w.heap.size]? = some (.cells #[.bool false, .slice none 0 0, .int .i64 0] 24 (0, 0)) := by rw [hW]; exact heap_alloc_new _ _
  have hsz : W.heap.size = w.heap.size + 1 := by rw [hW]; simp
  have k56 := c56 (neg := true) (e := -place) (h.later hBW) (by omega) (hT.later hBW) (by omega)
  have HH : Hid (W.heap[w.heap.size]? = some (.cells #[.bool false, .slice none 0 0, .int .i64 0] 24 (0, 0)) ∧ W.heap.size = w.heap.size + 1 ∧ Below w.heap.size w W ∧ dlen x ≤ 1000000) := ⟨hC, hsz, hBW, hx⟩
  have HB1 : Hid (Below W.heap.size W W) := Below.refl _ _
  clear hT h hx hBW hC hsz
  go_enter Tryz.func53, Tryz.ntmps53
  go_wp2_with fail
  rw [← hW]
  clear hW
  refine k56.mono ?_
  rintro r w2 ⟨A, rfl, hN, hB2⟩
  clear k56
  have HN : Hid (Nrm w2 W.heap.size A true x (-place)) := hN.mono HB1.out.size
  have HB2 : Hid (Below W.heap.size W w2) := HB1.out.trans (hB2.mono HB1.out.size)
  clear hN hB2
  go_wp2_with fail
  refine (c63n HN.out (by have := HH.out.2.2.2; omega)).mono ?_
  rintro r w3 ⟨rfl, hB3⟩
  have HB3 : Hid (Below W.heap.size W w3) := HB2.out.trans (hB3.mono HB2.out.size)
  have HN3 : Hid (Nrm w3 W.heap.size A true x (-place)) := by
    rcases HN.out with h | ⟨h0, v, h1, ho⟩
    · exact .inl h
    · exact .inr ⟨h0, v, h1, ho.later hB3⟩
  have HC3 : Hid (w3.heap[w.heap.size]? = some (.cells #[.bool false, .slice none 0 0, .int .i64 0] 24 (0, 0))) := box_later HH.out.1 HB3.out (by have := HH.out.2.1; omega)
  have hlt3 : w.heap.size < w3.heap.size := by have := HB3.out.size; have := HH.out.2.1; omega
  have HC4 : Hid (∀ p q r o, ((((w3.setCell ⟨w.heap.size, 0, none⟩ p).setCell ⟨w.heap.size, 1, none⟩ q).setCell ⟨w.heap.size, 2, none⟩ r).alloc o).heap[w.heap.size]? = some (.cells #[p, q, r] 24 (0, 0))) := fun p q r o => (Below.heap_alloc _ _ _ (by simp [World.setCell]; omega)).trans (store3 _ _ _ HC3.out)
  obtain ⟨⟨x1, x2, x3⟩, x4, x5, x6⟩ := box_cells HC3.out
  obtain ⟨s', ao, n, cap, ex, hsh⟩ := HN3.out.shape
  obtain ⟨-, hs, hBW, -⟩ := HH.out
  have HFIN : Hid (∀ p q r o, Nrm ((((w3.setCell ⟨w.heap.size, 0, none⟩ p).setCell ⟨w.heap.size, 1, none⟩ q).setCell ⟨w.heap.size, 2, none⟩ r).alloc o) w.heap.size A true x (-place) ∧ Below w.heap.size w ((((w3.setCell ⟨w.heap.size, 0, none⟩ p).setCell ⟨w.heap.size, 1, none⟩ q).setCell ⟨w.heap.size, 2, none⟩ r).alloc o)) := by
    intro p q r o
    have hna : Nrm ((((w3.setCell ⟨w.heap.size, 0, none⟩ p).setCell ⟨w.heap.size, 1, none⟩ q).setCell ⟨w.heap.size, 2, none⟩ r).alloc o) W.heap.size A true x (-place) := by
      rcases HN3.out.store (g := w.heap.size) (by omega) p q r with h | ⟨h0, v, h1, ho⟩
      · exact .inl h
      · exact .inr ⟨h0, v, h1, ho.later ((Below.refl _ _).alloc (Nat.le_refl _) _)⟩
    exact ⟨hna.mono (by omega), (below_store3 (hBW.trans (HB3.out.mono (by omega))) (Nat.le_refl _) _ _ _).alloc (by simp [World.setCell]; omega) _⟩
  clear hB3 hs hBW
  have HOK : Hid (okR true x (-place) = okR true x (-place)) := (rfl : _ = _)
  cases hok : okR true x (-place)
  · have hNil : Nil = .agg #[.bool false, .slice none 0 0, .int .i64 0] := rfl
    clear hsh
    go_wp2
    refine bodyPost_ret (results_cell_tmp2_row rfl _ _ w.heap.size 24 #[.bool false, .slice none 0 0, .int .i64 0] (0, 0) _ rfl (HC4.out _ _ _ _) Tryz.underlying24 rfl Tryz.info24) rfl ?_
    exact ⟨A, by rw [hok]; rfl, HFIN.out _ _ _ _⟩
  · subst hsh
    go_wp2
    refine bodyPost_ret (results_cell_tmp2_row rfl _ _ w.heap.size 24 #[.bool s', .slice ao n cap, .int .i64 ex] (0, 0) _ rfl (HC4.out _ _ _ _) Tryz.underlying24 rfl Tryz.info24) rfl ?_
    exact ⟨_, by rw [hok]; rfl, HFIN.out _ _ _ _⟩
theorem dlen_one : dlen 1 = 1 := dlen_eq (by unfold B; omega) (.inr (by simp))

set_option maxRecDepth 200000 in
theorem c96_tf (v : Value) (x : Nat) (place : Int) (w : World) (hT : Tab32 w) (h : Is w v x) (hx : dlen x ≤ 900000) (hp1 : -4000000 ≤ place) (hp2 : place ≤ 4000000) :
    Calls Tryz.prog 53 #[.bool true, v, .int .i64 place, .bool false] w fun r w' => Held3 w true (x + 1) (-place) false r w' := by
  obtain ⟨W, hW⟩ : ∃ W, W = w.alloc (.cells #[.bool false, .slice none 0 0, .int .i64 0] 24) := ⟨_, rfl⟩
  have hBW : Below w.heap.size w W := by rw [hW]; exact (Below.refl _ _).alloc (Nat.le_refl _) _
  have hC : W.heap[w.heap.size]? = some (.cells #[.bool false, .slice none 0 0, .int .i64 0] 24 (0, 0)) := by rw [hW]; exact heap_alloc_new _ _
  have hsz : W.heap.size = w.heap.size + 1 := by rw [hW]; simp
  have HH : Hid (W.heap[w.heap.size]? = some (.cells #[.bool false, .slice none 0 0, .int .i64 0] 24 (0, 0)) ∧ W.heap.size = w.heap.size + 1 ∧ Below w.heap.size w W ∧ dlen x ≤ 900000) := ⟨hC, hsz, hBW, hx⟩
  have HI : Hid (Is W v x ∧ Tab32 W) := ⟨h.later hBW, hT.later hBW⟩
  clear hT h hx hBW hC hsz
  go_enter Tryz.func53, Tryz.ntmps53
  go_wp2_with fail
  rw [← hW]
  clear hW
  refine (c57 1 W (by omega)).mono ?_
  rintro r wa ⟨v1, rfl, hO1, hBa⟩
  have hIa := HI.out.1.later hBa
  go_wp2_with fail
  refine (c122 hIa hO1.is (by have := HH.out.2.2.2; omega) (by rw [dlen_one]; omega)).mono ?_
  rintro r wb ⟨vb, rfl, hOb, hBb⟩
  have HB1 : Hid (Below W.heap.size W wb) := below_step hBa hBb
  have k56 := c56 (neg := true) (e := -place) hOb.is (by have := HH.out.2.2.2; have := dlen_add_le x 1; have := dlen_one; omega) (HI.out.2.later HB1.out) (by omega)
  clear hO1 hIa hBa hBb hOb HI
  go_wp2_with fail
  refine k56.mono ?_
  rintro r w2 ⟨A, rfl, hN, hB2⟩
  clear k56
  have HN : Hid (Nrm w2 W.heap.size A true (x + 1) (-place)) := hN.mono HB1.out.size
  have HB2 : Hid (Below W.heap.size W w2) := HB1.out.trans (hB2.mono HB1.out.size)
  clear hN hB2
  go_wp2_with fail
  refine (c63n HN.out (by have := HH.out.2.2.2; have := dlen_add_le x 1; have := dlen_one; omega)).mono ?_
  rintro r w3 ⟨rfl, hB3⟩
  have HB3 : Hid (Below W.heap.size W w3) := HB2.out.trans (hB3.mono HB2.out.size)
  have HN3 : Hid (Nrm w3 W.heap.size A true (x + 1) (-place)) := by
    rcases HN.out with h | ⟨h0, v, h1, ho⟩
    · exact .inl h
    · exact .inr ⟨h0, v, h1, ho.later hB3⟩
  have HC3 : Hid (w3.heap[w.heap.size]? = some (.cells #[.bool false, .slice none 0 0, .int .i64 0] 24 (0, 0))) := box_later HH.out.1 HB3.out (by have := HH.out.2.1; omega)
  have hlt3 : w.heap.size < w3.heap.size := by have := HB3.out.size; have := HH.out.2.1; omega
  have HC4 : Hid (∀ p q r o, ((((w3.setCell ⟨w.heap.size, 0, none⟩ p).setCell ⟨w.heap.size, 1, none⟩ q).setCell ⟨w.heap.size, 2, none⟩ r).alloc o).heap[w.heap.size]? = some (.cells #[p, q, r] 24 (0, 0))) := fun p q r o => (Below.heap_alloc _ _ _ (by simp [World.setCell]; omega)).trans (store3 _ _ _ HC3.out)
  obtain ⟨⟨x1, x2, x3⟩, x4, x5, x6⟩ := box_cells HC3.out
  obtain ⟨s', ao, n, cap, ex, hsh⟩ := HN3.out.shape
  obtain ⟨-, hs, hBW, -⟩ := HH.out
  have HFIN : Hid (∀ p q r o, Nrm ((((w3.setCell ⟨w.heap.size, 0, none⟩ p).setCell ⟨w.heap.size, 1, none⟩ q).setCell ⟨w.heap.size, 2, none⟩ r).alloc o) w.heap.size A true (x + 1) (-place) ∧ Below w.heap.size w ((((w3.setCell ⟨w.heap.size, 0, none⟩ p).setCell ⟨w.heap.size, 1, none⟩ q).setCell ⟨w.heap.size, 2, none⟩ r).alloc o)) := by
    intro p q r o
    have hna : Nrm ((((w3.setCell ⟨w.heap.size, 0, none⟩ p).setCell ⟨w.heap.size, 1, none⟩ q).setCell ⟨w.heap.size, 2, none⟩ r).alloc o) W.heap.size A true (x + 1) (-place) := by
      rcases HN3.out.store (g := w.heap.size) (by omega) p q r with h | ⟨h0, v, h1, ho⟩
      · exact .inl h
      · exact .inr ⟨h0, v, h1, ho.later ((Below.refl _ _).alloc (Nat.le_refl _) _)⟩
    exact ⟨hna.mono (by omega), (below_store3 (hBW.trans (HB3.out.mono (by omega))) (Nat.le_refl _) _ _ _).alloc (by simp [World.setCell]; omega) _⟩
  clear hB3 hs hBW
  have HOK : Hid (okR true (x + 1) (-place) = okR true (x + 1) (-place)) := (rfl : _ = _)
  cases hok : okR true (x + 1) (-place)
  · have hNil : Nil = .agg #[.bool false, .slice none 0 0, .int .i64 0] := rfl
    clear hsh
    go_wp2
    refine bodyPost_ret (results_cell_tmp2_row rfl _ _ w.heap.size 24 #[.bool false, .slice none 0 0, .int .i64 0] (0, 0) _ rfl (HC4.out _ _ _ _) Tryz.underlying24 rfl Tryz.info24) rfl ?_
    exact ⟨A, by rw [hok]; rfl, HFIN.out _ _ _ _⟩
  · subst hsh
    go_wp2
    refine bodyPost_ret (results_cell_tmp2_row rfl _ _ w.heap.size 24 #[.bool s', .slice ao n cap, .int .i64 ex] (0, 0) _ rfl (HC4.out _ _ _ _) Tryz.underlying24 rfl Tryz.info24) rfl ?_
    exact ⟨_, by rw [hok]; rfl, HFIN.out _ _ _ _⟩

theorem c96 {neg exact : Bool} {v : Value} {x : Nat} {place : Int} {w : World} (hT : Tab32 w) (h : Is w v x) (hx : dlen x ≤ 900000) (hp1 : -4000000 ≤ place) (hp2 : place ≤ 4000000) :
    Calls Tryz.prog 53 #[.bool neg, v, .int .i64 place, .bool exact] w fun r w' => Held3 w neg (if neg && !exact then x + 1 else x) (-place) exact r w' := by
  cases neg <;> cases exact
  · exact c96_ff v x place w hT h (by omega) hp1 hp2
  · exact c96_ft v x place w hT h (by omega) hp1 hp2
  · exact c96_tf v x place w hT h hx hp1 hp2
  · exact c96_tt v x place w hT h (by omega) hp1 hp2
end Go.Proofs.YtbmaoiemgepppaaGreatDoor
/- Quo. -/
namespace Go.Proofs.YtbmaoiemgepppaaGreatDoor
set_option linter.unusedVariables false
set_option linter.unusedSimpArgs false
open Go.RowKit

theorem c94 (place : Int) (w : World) (h : -65536 ≤ place ∧ place ≤ 65536) : Calls Tryz.prog 50 #[.int .i64 place] w fun r w' => r = .returned (.bool true) ∧ w' = w := by
  obtain ⟨h1, h2⟩ := h
  go_enter Tryz.func50, Tryz.ntmps50
  go_wp2
  go_ret
  exact ⟨rfl, rfl⟩

set_option maxRecDepth 200000 in
theorem c44_1 (na nb : Bool) (ua va : Option Addr) (un uc vn vc X Y : Nat) (ea eb e place : Int) (sg xc : Bool) (zz : Nat) (w : World) (hsg : Hid ((!(na == nb)) = sg)) (hxc : Hid (decide (X % Y = 0) = xc)) (hzz : Hid ((if sg && !xc then X / Y + 1 else X / Y) = zz)) (hT : Tab32 w) (hY0 : Y ≠ 0) (hX : dlen X ≤ 900000) (hY : dlen Y ≤ 900000) (hn1 : ((vn : Int) == 0) = false) (hp : -65536 ≤ place ∧ place ≤ 65536) (hea1 : -65536 ≤ ea) (hea2 : ea ≤ 65536)
    (k67 : ∀ W g, Below w.heap.size w W → W.heap[g]? = some (.cells #[.bool na, .slice ua un uc, .int .i64 ea, .bool nb, .slice va vn vc, .int .i64 eb] 24 (0, 0)) → Calls Tryz.prog 35 #[.slice (some ⟨g, 0, none⟩) 2 2] W fun r w' => r = .returned (.bool true) ∧ Below W.heap.size W w')
    (h99 : ∀ W, Below w.heap.size w W → Calls Tryz.prog 51 #[.agg #[.bool false, .slice ua un uc, .int .i64 (ea + place)], .agg #[.bool nb, .slice va vn vc, .int .i64 eb]] W fun r w' => ∃ p q, r = .returned (.tuple #[p, q, .int .i64 e]) ∧ Own w' W.heap.size p X ∧ Own w' W.heap.size q Y ∧ Below W.heap.size W w') :
    Calls Tryz.prog 24 #[NumV na (.slice ua un uc) ea, NumV nb (.slice va vn vc) eb, .int .i64 place] w fun r w' => Held3 w sg zz (-place) xc r w' := by
  obtain ⟨W, hW⟩ : ∃ W, W = ((w.alloc (.cells #[.bool na, .slice ua un uc, .int .i64 ea] 24)).alloc (.cells #[.bool nb, .slice va vn vc, .int .i64 eb] 24)).alloc (.cells #[.bool false, .slice none 0 0, .int .i64 0] 24) := ⟨_, rfl⟩
  obtain ⟨hA, hBb, hC, hsz, hBW⟩ := boxes3 _ _ _ hW
  have hB4 : Below w.heap.size w (W.alloc (.cells #[.bool na, .slice ua un uc, .int .i64 ea, .bool nb, .slice va vn vc, .int .i64 eb] 24)) := hBW.alloc hBW.size _
  have k1 := k67 (W.alloc (.cells #[.bool na, .slice ua un uc, .int .i64 ea, .bool nb, .slice va vn vc, .int .i64 eb] 24)) (w.heap.size + 1 + 1 + 1) hB4 (by rw [← hsz]; exact heap_alloc_new _ _)
  have HH : Hid ((W.heap[w.heap.size]? = some (.cells #[.bool na, .slice ua un uc, .int .i64 ea] 24 (0, 0)) ∧ W.heap[w.heap.size + 1]? = some (.cells #[.bool nb, .slice va vn vc, .int .i64 eb] 24 (0, 0)) ∧ W.heap[w.heap.size + 1 + 1]? = some (.cells #[.bool false, .slice none 0 0, .int .i64 0] 24 (0, 0))) ∧ W.heap.size = w.heap.size + 1 + 1 + 1 ∧ Below w.heap.size w W ∧ Below W.heap.size W (W.alloc (.cells #[.bool na, .slice ua un uc, .int .i64 ea, .bool nb, .slice va vn vc, .int .i64 eb] 24))) := ⟨⟨hA, hBb, hC⟩, hsz, hBW, (Below.refl _ _).alloc (Nat.le_refl _) _⟩
  have HT : Hid (Tab32 W ∧ Y ≠ 0 ∧ dlen X ≤ 900000 ∧ dlen Y ≤ 900000) := ⟨hT.later hBW, hY0, hX, hY⟩
  have HK99 : Hid (∀ W, Below w.heap.size w W → Calls Tryz.prog 51 #[.agg #[.bool false, .slice ua un uc, .int .i64 (ea + place)], .agg #[.bool nb, .slice va vn vc, .int .i64 eb]] W fun r w' => ∃ p q, r = .returned (.tuple #[p, q, .int .i64 e]) ∧ Own w' W.heap.size p X ∧ Own w' W.heap.size q Y ∧ Below W.heap.size W w') := h99
  have k94 := fun w => c94 place w hp
  obtain ⟨hp1, hp2⟩ := hp
  have hpk : Hid (-65536 ≤ place ∧ place ≤ 65536) := ⟨hp1, hp2⟩
  unfold NumV
  clear hA hBb hC hsz hBW hB4 k67 h99 hT hY0 hX hY
  go_enter Tryz.func24, Tryz.ntmps24
  go_wp2_with fail
  rw [← hW]
  clear hW
  refine k1.mono ?_
  rintro r w1 ⟨rfl, hB1⟩
  clear k1
  have HB1 : Hid (Below W.heap.size W w1) := HH.out.2.2.2.trans (hB1.mono HH.out.2.2.2.size)
  obtain ⟨⟨a0, a1, a2⟩, -⟩ := box_cells (box_later HH.out.1.1 HB1.out (by have := HH.out.2.1; omega))
  obtain ⟨⟨b0, b1, b2⟩, -⟩ := box_cells (box_later HH.out.1.2.1 HB1.out (by have := HH.out.2.1; omega))
  clear hB1
  go_wp2_with fail
  refine (k94 _).mono ?_
  rintro r w1' ⟨rfl, rfl⟩
  clear k94
  go_wp2_with fail
  refine (HK99.out _ (HH.out.2.2.1.trans (HB1.out.mono HH.out.2.2.1.size))).mono ?_
  rintro r w2 ⟨p, q, rfl, hp, hq, hB2⟩
  have HB2 : Hid (Below W.heap.size W w2) := HB1.out.trans (hB2.mono HB1.out.size)
  clear a0 a1 a2 b0 b1 b2 hB2
  go_wp2_with fail
  refine (c100 hp.is hq.is (by have := HT.out.2.2.1; omega) (by have := HT.out.2.2.2; omega) HT.out.2.1).mono ?_
  rw [hxc.out]
  rintro r w3 ⟨qq, rfl, hO3, hB3⟩
  have HB3 : Hid (Below W.heap.size W w3) := HB2.out.trans (hB3.mono HB2.out.size)
  obtain ⟨⟨a0, a1, a2⟩, -⟩ := box_cells (box_later HH.out.1.1 HB3.out (by have := HH.out.2.1; omega))
  obtain ⟨⟨b0, b1, b2⟩, -⟩ := box_cells (box_later HH.out.1.2.1 HB3.out (by have := HH.out.2.1; omega))
  have k96 := c96 (neg := sg) (exact := xc) (place := place) (HT.out.1.later HB3.out) hO3.is (Nat.le_trans (dlen_mono (Nat.div_le_self ..)) HT.out.2.2.1) (by omega) (by omega)
  rw [hzz.out] at k96
  clear hp hq hO3 hB3
  go_wp2_with fail
  rw [hsg.out]
  refine k96.mono ?_
  clear k96
  rintro r w4 ⟨A, rfl, hN, hB4⟩
  have HB4 : Hid (Below W.heap.size W w4) := HB3.out.trans (hB4.mono HB3.out.size)
  have HN4 : Hid (Nrm w4 W.heap.size A sg zz (-place)) := hN.mono HB3.out.size
  have HC4 : Hid (w4.heap[w.heap.size + 1 + 1]? = some (.cells #[.bool false, .slice none 0 0, .int .i64 0] 24 (0, 0))) := box_later HH.out.1.2.2 HB4.out (by have := HH.out.2.1; omega)
  obtain ⟨⟨x1, x2, x3⟩, x4, x5, x6⟩ := box_cells HC4.out
  obtain ⟨s', ao, n, cap, ex, hsh⟩ := HN4.out.shape
  clear hN hB4 a0 a1 a2 b0 b1 b2 hsg
  obtain ⟨-, hs, hBW, -⟩ := HH.out
  have HF : Hid (∀ p q r, Nrm (((w4.setCell ⟨w.heap.size + 1 + 1, 0, none⟩ p).setCell ⟨w.heap.size + 1 + 1, 1, none⟩ q).setCell ⟨w.heap.size + 1 + 1, 2, none⟩ r) w.heap.size A sg zz (-place) ∧ Below w.heap.size w (((w4.setCell ⟨w.heap.size + 1 + 1, 0, none⟩ p).setCell ⟨w.heap.size + 1 + 1, 1, none⟩ q).setCell ⟨w.heap.size + 1 + 1, 2, none⟩ r)) := fun p q r =>
    ⟨(HN4.out.store (by omega) _ _ _).mono (by omega), below_store3 (hBW.trans (HB4.out.mono hBW.size)) (by omega) _ _ _⟩
  clear hs hBW
  cases hok : okR sg zz (-place)
  · have hNil : Nil = .agg #[.bool false, .slice none 0 0, .int .i64 0] := rfl
    clear hsh
    go_wp2
    refine bodyPost_ret (results_cell_tmp2_row rfl _ _ (w.heap.size + 1 + 1) 24 #[.bool false, .slice none 0 0, .int .i64 0] (0, 0) _ rfl (store3 _ _ _ HC4.out) Tryz.underlying24 rfl Tryz.info24) rfl ?_
    exact ⟨A, by rw [hok]; simp [hNil], HF.out _ _ _⟩
  · subst hsh
    go_wp2
    refine bodyPost_ret (results_cell_tmp2_row rfl _ _ (w.heap.size + 1 + 1) 24 #[.bool s', .slice ao n cap, .int .i64 ex] (0, 0) _ rfl (store3 _ _ _ HC4.out) Tryz.underlying24 rfl Tryz.info24) rfl ?_
    exact ⟨_, by rw [hok]; simp, HF.out _ _ _⟩

theorem c44 {na nb : Bool} {u v : Value} {x y : Nat} {ea eb place : Int} {w : World} (h1 : Is w u x) (h2 : Is w v y) (hT : Tab32 w) (hy0 : y ≠ 0) (hx : dlen x ≤ 2048) (hy : dlen y ≤ 2048) (hoka : okN na (dlen x) x ea = true) (hokb : okN nb (dlen y) y eb = true)
    (ha : -65536 ≤ ea ∧ ea ≤ 65536) (hb : -65536 ≤ eb ∧ eb ≤ 65536) (hp : -65536 ≤ place ∧ place ≤ 65536) (X Y : Nat) (hX : x * 2 ^ (ea + place - min (ea + place) eb).toNat = X) (hY : y * 2 ^ (eb - min (ea + place) eb).toNat = Y) :
    Calls Tryz.prog 24 #[NumV na u ea, NumV nb v eb, .int .i64 place] w fun r w' => Held3 w (na != nb) (if (na != nb) && !(decide (X % Y = 0)) then X / Y + 1 else X / Y) (-place) (decide (X % Y = 0)) r w' := by
  have h1' := h1
  have h2' := h2
  obtain ⟨ua, uc, rfl, -, -, -⟩ := h1'
  obtain ⟨va, vc, rfl, -, -, -⟩ := h2'
  have lX : dlen X ≤ 900000 := by have := shl_len (x := x) (k := (ea + place - min (ea + place) eb).toNat) rfl; rw [← hX]; omega
  have lY : dlen Y ≤ 900000 := by have := shl_len (x := y) (k := (eb - min (ea + place) eb).toNat) rfl; rw [← hY]; omega
  have hY0 : Y ≠ 0 := by rw [← hY]; exact Nat.ne_of_gt (Nat.mul_pos (by omega) (Nat.two_pow_pos _))
  refine c44_1 na nb ua va _ uc _ vc X Y ea eb (min (ea + place) eb) place (na != nb) _ _ w (rfl : (!(na == nb)) = (na != nb)) rfl rfl hT hY0 lX lY (len_ne (n := 0) hy0) hp ha.1 ha.2 (fun W g hW hg => ?_) (fun W hW => ?_)
  · have := maybe2 hg (h1.later hW) (h2.later hW) (by omega) (by omega)
    rw [hoka, hokb] at this
    exact this
  · have := c99 (na := false) (nb := nb) (ea := ea + place) (eb := eb) (h1.later hW) (h2.later hW) (by omega) (by omega) (by omega) (by omega)
    rw [hX, hY] at this
    exact this
end Go.Proofs.YtbmaoiemgepppaaGreatDoor
/- scaled, rootAt. -/
namespace Go.Proofs.YtbmaoiemgepppaaGreatDoor
set_option linter.unusedVariables false
set_option linter.unusedSimpArgs false
open Go.RowKit

set_option maxRecDepth 200000 in
theorem c95_1 (neg : Bool) (ua : Option Addr) (un uc x k : Nat) (ea place : Int) (w : World) (h : Is w (.slice ua un uc) x) (hx : dlen x ≤ 1000000) (hk : ea + place = k) (hk2 : k ≤ 4000000) (he1 : -4000000 ≤ ea) (he2 : ea ≤ 4000000) (hp1 : -4000000 ≤ place) (hp2 : place ≤ 4000000) :
    Calls Tryz.prog 89 #[NumV neg (.slice ua un uc) ea, .int .i64 place] w fun r w' => ∃ v, r = .returned (.tuple #[v, .bool true]) ∧ Own w' w.heap.size v (x * 2 ^ k) ∧ Below w.heap.size w w' := by
  obtain ⟨W, hW⟩ : ∃ W, W = w.alloc (.cells #[.bool neg, .slice ua un uc, .int .i64 ea] 24) := ⟨_, rfl⟩
  have hBW : Below w.heap.size w W := by rw [hW]; exact (Below.refl _ _).alloc (Nat.le_refl _) _
  have k109 := c109 (h.later hBW) k (by omega) (by omega)
  have HB : Hid (Below w.heap.size w W) := hBW
  clear h hx hBW
  unfold NumV
  go_enter Tryz.func89, Tryz.ntmps89
  go_wp2_with fail
  rw [← hW]
  refine k109.mono ?_
  rintro r w1 ⟨v, rfl, hO, hB1⟩
  have HF : Hid (Own w1 w.heap.size v (x * 2 ^ k) ∧ Below w.heap.size w w1) := ⟨hO.mono HB.out.size, HB.out.trans (hB1.mono HB.out.size)⟩
  clear hO hB1 k109 hW
  go_wp2
  go_ret2
  exact ⟨v, rfl, HF.out⟩

set_option maxRecDepth 200000 in
theorem c95_2 (neg : Bool) (ua : Option Addr) (un uc x k : Nat) (ea place : Int) (w : World) (h : Is w (.slice ua un uc) x) (hx : dlen x ≤ 1000000) (hk : ea + place = -(k : Int)) (hk1 : 0 < k) (hk2 : k ≤ 4000000) (he1 : -4000000 ≤ ea) (he2 : ea ≤ 4000000) (hp1 : -4000000 ≤ place) (hp2 : place ≤ 4000000) :
    Calls Tryz.prog 89 #[NumV neg (.slice ua un uc) ea, .int .i64 place] w fun r w' => ∃ v, r = .returned (.tuple #[v, .bool ((un : Int) == 0)]) ∧ Own w' w.heap.size v (x / 2 ^ k) ∧ Below w.heap.size w w' := by
  obtain ⟨W, hW⟩ : ∃ W, W = w.alloc (.cells #[.bool neg, .slice ua un uc, .int .i64 ea] 24) := ⟨_, rfl⟩
  have hBW : Below w.heap.size w W := by rw [hW]; exact (Below.refl _ _).alloc (Nat.le_refl _) _
  have hbA : W.heap[w.heap.size]? = some (.cells #[.bool neg, .slice ua un uc, .int .i64 ea] 24 (0, 0)) := by rw [hW]; exact heap_alloc_new _ _
  have k120 : Calls Tryz.prog 83 #[.slice ua un uc, .int .i64 k] W.drew fun r w' => ∃ v, r = .returned v ∧ Own w' W.heap.size v (x / 2 ^ k) ∧ Below W.heap.size W w' :=
    (c120 (w := W.drew) (h.later hBW.drew) k (by omega) (by omega)).mono fun r w' ⟨v, e1, o1, o2⟩ => ⟨v, e1, o1, Below.trans (b := W.drew) (Below.refl _ _).drew o2⟩
  have hsz : W.heap.size = w.heap.size + 1 := by rw [hW]; simp
  have HK : Hid (∀ w', Below W.heap.size W w' → w'.cell? ⟨w.heap.size, 1, none⟩ = some (.slice ua un uc)) := fun w' hb => (box_cells (box_later hbA hb (by omega))).1.2.1
  have c1 := HK.out W (Below.refl _ _)
  have HB : Hid (Below w.heap.size w W) := hBW
  clear h hx hBW hbA hsz
  unfold NumV
  go_enter Tryz.func89, Tryz.ntmps89
  go_wp2
  rw [← hW]
  clear hW
  have hneg : Hid (IntKind.i64.wrap (k : Int) = (k : Int)) := (by rw [IntKind.wrap_i64]; omega : IntKind.i64.wrap (k : Int) = (k : Int))
  go_region_held3 (fun w' => w'.cell? ⟨w.heap.size, 1, none⟩ = some (.slice ua un uc)) (first | (with_reducible assumption) | (refine HK.out _ ?_; with_reducible assumption) | go_keep)
    (first | (go_at_call 83; rw [hneg.out]; refine k120.mono ?_; rintro r w5 ⟨v5, rfl, ho5, hb5⟩))
  have HF : Hid (Own w5 w.heap.size v5 (x / 2 ^ k) ∧ Below w.heap.size w w5) := ⟨ho5.mono HB.out.size, HB.out.trans (hb5.mono HB.out.size)⟩
  clear ho5 hb5 k120 HK HB c1
  go_wp2
  go_ret2
  exact ⟨v5, rfl, HF.out⟩

/-- a number times 2 to the k, cut, and whether it is all of it -/
theorem c95 {neg : Bool} {u : Value} {x : Nat} {ea place : Int} {w : World} (h : Is w u x) (hx : dlen x ≤ 1000000) (he : -2000000 ≤ ea ∧ ea ≤ 2000000) (hp : -2000000 ≤ place ∧ place ≤ 2000000) :
    Calls Tryz.prog 89 #[NumV neg u ea, .int .i64 place] w fun r w' => ∃ v, r = .returned (.tuple #[v, .bool (decide (0 ≤ ea + place ∨ x = 0))]) ∧ Own w' w.heap.size v (if 0 ≤ ea + place then x * 2 ^ (ea + place).toNat else x / 2 ^ (-(ea + place)).toNat) ∧ Below w.heap.size w w' := by
  have h' := h
  obtain ⟨ua, uc, rfl, -, -, -⟩ := h'
  by_cases hk : 0 ≤ ea + place
  · rw [if_pos hk, decide_eq_true (.inl hk)]
    exact c95_1 neg ua _ uc x (ea + place).toNat ea place w h hx (by omega) (by omega) (by omega) (by omega) (by omega) (by omega)
  · rw [if_neg hk]
    have := c95_2 neg ua _ uc x (-(ea + place)).toNat ea place w h hx (by omega) (by omega) (by omega) (by omega) (by omega) (by omega) (by omega)
    have e : ((dlen x : Int) == 0) = decide (0 ≤ ea + place ∨ x = 0) := by
      by_cases h0 : x = 0
      · subst h0; simp [dlen_zero]
      · have h1 : dlen x ≠ 0 := fun e => h0 (dlen_eq_zero.1 e)
        rw [decide_eq_false (by omega)]; simp; omega
    rw [e] at this
    exact this

set_option maxRecDepth 200000 in
theorem c102_1 (neg : Bool) (ua : Option Addr) (un uc x q : Nat) (b : Bool) (ea place : Int) (w : World) (hq : dlen q ≤ 1000000) (hp1 : -1000000 ≤ place) (hp2 : place ≤ 1000000)
    (k95 : ∀ W, Below w.heap.size w W → Calls Tryz.prog 89 #[.agg #[.bool neg, .slice ua un uc, .int .i64 ea], .int .i64 (2 * place)] W fun r w' => ∃ v, r = .returned (.tuple #[v, .bool b]) ∧ Own w' W.heap.size v q ∧ Below W.heap.size W w') :
    Calls Tryz.prog 54 #[NumV neg (.slice ua un uc) ea, .int .i64 place] w fun r w' => ∃ v m, r = .returned (.tuple #[v, .bool (b && decide (m * m = q))]) ∧ Own w' w.heap.size v m ∧ m * m ≤ q ∧ q < (m + 1) * (m + 1) ∧ Below w.heap.size w w' := by
  obtain ⟨W, hW⟩ : ∃ W, W = w.alloc (.cells #[.bool neg, .slice ua un uc, .int .i64 ea] 24) := ⟨_, rfl⟩
  have hBW : Below w.heap.size w W := by rw [hW]; exact (Below.refl _ _).alloc (Nat.le_refl _) _
  have k1 := k95 W hBW
  have HB : Hid (Below w.heap.size w W ∧ dlen q ≤ 1000000) := ⟨hBW, hq⟩
  clear hBW k95 hq
  unfold NumV
  go_enter Tryz.func54, Tryz.ntmps54
  go_wp2_with fail
  rw [← hW]
  clear hW
  refine k1.mono ?_
  rintro r w1 ⟨v1, rfl, hO1, hB1⟩
  clear k1
  go_wp2_with fail
  refine (c112 hO1.is (by have := HB.out.2; omega)).mono ?_
  rintro r w2 ⟨v2, m, rfl, hO2, hm1, hm2, hB2⟩
  have HF : Hid (Own w2 w.heap.size v2 m ∧ m * m ≤ q ∧ q < (m + 1) * (m + 1) ∧ Below w.heap.size w w2) := ⟨hO2.mono (by have := HB.out.1.size; have := hB1.size; omega), hm1, hm2, HB.out.1.trans ((below_step hB1 hB2).mono HB.out.1.size)⟩
  clear hO1 hB1 hO2 hm1 hm2 hB2
  generalize hdx : decide (m * m = q) = dx at *
  have HD : Hid (decide (m * m = q) = dx) := hdx
  clear hdx
  cases b
  · go_wp2
    go_ret2
    exact ⟨v2, m, rfl, HF.out⟩
  · go_wp2
    go_ret2
    exact ⟨v2, m, by rw [HD.out]; rfl, HF.out⟩
end Go.Proofs.YtbmaoiemgepppaaGreatDoor
/- Plain facts on the bits of a float64, of no program: its magnitude, its sign, whether it is a NaN, and that two floats stand in order as their numbers of steps from nought do. -/
namespace Go.Fl64
open Go.RowKit

/-- The bits without the sign. -/
def mag (a : Nat) : Nat := a % 9223372036854775808
/-- Is the sign set? -/
def neg (a : Nat) : Bool := decide (9223372036854775808 ≤ a)
def isNaN (a : Nat) : Bool := decide (9218868437227405312 < mag a)
/-- A magnitude with a sign. -/
def sgn (s : Bool) (n : Nat) : Int := if s then -(n : Int) else (n : Int)
/-- How many steps from nought: less than nought where the sign is set. -/
def stp (a : Nat) : Int := sgn (neg a) (mag a)

theorem mag_lt (a : Nat) : mag a < 9223372036854775808 := Nat.mod_lt _ (by decide)

theorem and_low (a : Nat) : a &&& 9223372036854775807 = a % 9223372036854775808 := by
  have := Nat.and_two_pow_sub_one_eq_mod a 63
  simpa using this

theorem andNot_sign (a : Nat) (h : a < 18446744073709551616) : bits .andNot .u64 (a : Int) 9223372036854775808 = (mag a : Int) := by
  have e := u64_andNot_nat a 9223372036854775808 h (by decide)
  rw [show ((9223372036854775808 : Nat) : Int) = 9223372036854775808 from rfl] at e
  rw [e]
  congr 1
  unfold mag
  rw [← and_low]

theorem wrap_neg (a : Nat) (h : a < 18446744073709551616) : decide (wrap64 (a : Int) < 0) = neg a := by
  unfold neg wrap64
  congr 1
  apply propext
  omega

/-! ### The order of floats -/

/-- The number that a rung stands for, in units of the least one. -/
def val (r : Nat) : Nat := if r < 4503599627370496 then r else (4503599627370496 + r % 4503599627370496) * 2 ^ (r / 4503599627370496 - 1)

theorem val_succ (r : Nat) : val r < val (r + 1) := by
  unfold val
  by_cases h1 : r + 1 < 4503599627370496
  · rw [if_pos (by omega), if_pos h1]; omega
  · rw [if_neg h1]
    by_cases h2 : r < 4503599627370496
    · rw [if_pos h2]
      have e : r + 1 = 4503599627370496 := by omega
      rw [e]
      simp
      omega
    · rw [if_neg h2]
      by_cases h3 : r % 4503599627370496 + 1 < 4503599627370496
      · have e1 : (r + 1) % 4503599627370496 = r % 4503599627370496 + 1 := by omega
        have e2 : (r + 1) / 4503599627370496 = r / 4503599627370496 := by omega
        rw [e1, e2]
        exact Nat.mul_lt_mul_of_pos_right (by omega) (Nat.two_pow_pos _)
      · have e1 : (r + 1) % 4503599627370496 = 0 := by omega
        have e2 : (r + 1) / 4503599627370496 - 1 = (r / 4503599627370496 - 1) + 1 := by omega
        rw [e1, e2, Nat.pow_succ]
        have hp := Nat.two_pow_pos (r / 4503599627370496 - 1)
        generalize 2 ^ (r / 4503599627370496 - 1) = p at *
        have e3 : (4503599627370496 + r % 4503599627370496) * p ≤ 9007199254740991 * p := Nat.mul_le_mul_right _ (by omega)
        omega

theorem val_lt_of_lt {r s : Nat} (h : r < s) : val r < val s := by
  obtain ⟨d, rfl⟩ : ∃ d, s = r + 1 + d := ⟨s - r - 1, by omega⟩
  clear h
  induction d with
  | zero => exact val_succ r
  | succ d ih => exact Nat.lt_trans ih (val_succ _)

theorem val_lt (r s : Nat) : val r < val s ↔ r < s := by
  constructor
  · intro h
    apply Nat.lt_of_not_le
    intro hle
    rcases Nat.lt_or_eq_of_le hle with h' | h'
    · have := val_lt_of_lt h'; omega
    · subst h'; omega
  · exact val_lt_of_lt

theorem val_eq (r s : Nat) : val r = val s ↔ r = s := by
  have h1 := val_lt r s
  have h2 := val_lt s r
  omega

theorem val_zero : val 0 = 0 := rfl
theorem val_eq_zero (r : Nat) : val r = 0 ↔ r = 0 := by
  have := val_eq r 0
  rw [val_zero] at this
  exact this

theorem compare_congr {x y x' y' : Int} (h1 : x < y ↔ x' < y') (h2 : x = y ↔ x' = y') : compare x y = compare x' y' := by
  show compareOfLessAndEq x y = compareOfLessAndEq x' y'
  unfold compareOfLessAndEq
  by_cases a : x < y
  · rw [if_pos a, if_pos (h1.1 a)]
  · rw [if_neg a, if_neg (fun b => a (h1.2 b))]
    by_cases b : x = y
    · rw [if_pos b, if_pos (h2.1 b)]
    · rw [if_neg b, if_neg (fun c => b (h2.2 c))]

theorem cmp_lt {x y : Int} (h : x < y) : compare x y = .lt := by
  show compareOfLessAndEq x y = _
  unfold compareOfLessAndEq
  rw [if_pos h]
theorem cmp_eq {x y : Int} (h : x = y) : compare x y = .eq := by
  show compareOfLessAndEq x y = _
  unfold compareOfLessAndEq
  rw [if_neg (by omega), if_pos h]
theorem cmp_gt {x y : Int} (h : y < x) : compare x y = .gt := by
  show compareOfLessAndEq x y = _
  unfold compareOfLessAndEq
  rw [if_neg (by omega), if_neg (by omega)]

theorem sgn_lt (s t : Bool) (m n m' n' : Nat) (h1 : m < n ↔ m' < n') (h2 : n < m ↔ n' < m') (h3 : m = 0 ↔ m' = 0) (h4 : n = 0 ↔ n' = 0) : sgn s m < sgn t n ↔ sgn s m' < sgn t n' := by
  unfold sgn
  cases s <;> cases t <;> simp <;> omega
theorem sgn_eq (s t : Bool) (m n m' n' : Nat) (h1 : m < n ↔ m' < n') (h2 : n < m ↔ n' < m') (h3 : m = 0 ↔ m' = 0) (h4 : n = 0 ↔ n' = 0) : sgn s m = sgn t n ↔ sgn s m' = sgn t n' := by
  unfold sgn
  cases s <;> cases t <;> simp <;> omega

theorem sgn_cmp (s t : Bool) (m n m' n' : Nat) (h1 : m < n ↔ m' < n') (h2 : n < m ↔ n' < m') (h3 : m = 0 ↔ m' = 0) (h4 : n = 0 ↔ n' = 0) : compare (sgn s m) (sgn t n) = compare (sgn s m') (sgn t n') :=
  compare_congr (sgn_lt s t m n m' n' h1 h2 h3 h4) (sgn_eq s t m n m' n' h1 h2 h3 h4)

theorem signed_sgn (s : Bool) (m u : Nat) : Ieee.signed s m u = sgn s (m * 2 ^ u) := by
  unfold Ieee.signed sgn
  rw [Nat.shiftLeft_eq]

/-- A finite float read: its parts make the number of its rung. -/
theorem read_number (a : Nat) (h : a < 18446744073709551616) (hf : mag a < 9218868437227405312) :
    ∃ (m k : Nat), Ieee.double.read a = .number (neg a) m (-1074 + (k : Int)) ∧ m * 2 ^ k = val (mag a) := by
  have hs : Ieee.double.signWeight = 9223372036854775808 := by decide
  have hb : Ieee.double.binade = 4503599627370496 := by decide
  have hi : Ieee.double.infRung = 9218868437227405312 := by decide
  have hl : Ieee.double.leastPlace = -1074 := by decide
  have hn : (a / 9223372036854775808 % 2 == 1) = neg a := by
    unfold neg
    rw [Bool.beq_eq_decide_eq]
    congr 1
    apply propext
    omega
  unfold Ieee.Format.read
  simp only [hs, hb, hi, hl, hn]
  show ∃ m k, (if mag a < 4503599627370496 then _ else _) = _ ∧ _
  unfold mag at hf ⊢
  by_cases h1 : a % 9223372036854775808 < 4503599627370496
  · refine ⟨a % 9223372036854775808, 0, ?_, ?_⟩
    · rw [if_pos h1]; simp
    · unfold val; rw [if_pos h1]; simp
  · refine ⟨4503599627370496 + a % 9223372036854775808 % 4503599627370496, a % 9223372036854775808 / 4503599627370496 - 1, ?_, ?_⟩
    · rw [if_neg h1, if_pos hf]
    · unfold val; rw [if_neg h1]

theorem read_infinity (a : Nat) (h : a < 18446744073709551616) (hf : mag a = 9218868437227405312) : Ieee.double.read a = .infinity (neg a) := by
  have hs : Ieee.double.signWeight = 9223372036854775808 := by decide
  have hb : Ieee.double.binade = 4503599627370496 := by decide
  have hi : Ieee.double.infRung = 9218868437227405312 := by decide
  have hn : (a / 9223372036854775808 % 2 == 1) = neg a := by
    unfold neg
    rw [Bool.beq_eq_decide_eq]
    congr 1
    apply propext
    omega
  unfold Ieee.Format.read
  simp only [hs, hb, hi, hn]
  unfold mag at hf
  rw [hf]
  simp

theorem read_nan (a : Nat) (hf : 9218868437227405312 < mag a) : ∃ s f, Ieee.double.read a = .nan s f := by
  have hs : Ieee.double.signWeight = 9223372036854775808 := by decide
  have hb : Ieee.double.binade = 4503599627370496 := by decide
  have hi : Ieee.double.infRung = 9218868437227405312 := by decide
  unfold Ieee.Format.read
  simp only [hs, hb, hi]
  unfold mag at hf
  rw [if_neg (by omega), if_neg (by omega), if_neg (by omega)]
  exact ⟨_, _, rfl⟩

theorem order_nan_left (a b : Nat) (h : isNaN a = true) : Ieee.double.order a b = none := by
  obtain ⟨s, f, e⟩ := read_nan a (of_decide_eq_true h)
  unfold Ieee.Format.order
  rw [e]
  rfl

theorem order_nan_right (a b : Nat) (h : isNaN b = true) : Ieee.double.order a b = none := by
  obtain ⟨s, f, e⟩ := read_nan b (of_decide_eq_true h)
  unfold Ieee.Format.order
  rw [e]
  cases Ieee.double.read a <;> rfl

theorem order_num (a b : Nat) (ha : a < 18446744073709551616) (hb : b < 18446744073709551616) (na : isNaN a = false) (nb : isNaN b = false) :
    Ieee.double.order a b = some (compare (stp a) (stp b)) := by
  have na' : ¬ 9218868437227405312 < mag a := of_decide_eq_false na
  have nb' : ¬ 9218868437227405312 < mag b := of_decide_eq_false nb
  unfold Ieee.Format.order stp
  by_cases fa : mag a < 9218868437227405312
  · obtain ⟨m, k, e, hm⟩ := read_number a ha fa
    by_cases fb : mag b < 9218868437227405312
    · obtain ⟨n, l, e', hn⟩ := read_number b hb fb
      rw [e, e']
      unfold Ieee.Datum.order
      dsimp only
      rw [signed_sgn, signed_sgn]
      congr 1
      have e1 : ((-1074 + (k : Int)) - min (-1074 + (k : Int)) (-1074 + (l : Int))).toNat = k - min k l := by omega
      have e2 : ((-1074 + (l : Int)) - min (-1074 + (k : Int)) (-1074 + (l : Int))).toNat = l - min k l := by omega
      rw [e1, e2]
      have p1 : m * 2 ^ (k - min k l) * 2 ^ min k l = val (mag a) := by
        rw [Nat.mul_assoc, ← Nat.pow_add, show k - min k l + min k l = k by omega, hm]
      have p2 : n * 2 ^ (l - min k l) * 2 ^ min k l = val (mag b) := by
        rw [Nat.mul_assoc, ← Nat.pow_add, show l - min k l + min k l = l by omega, hn]
      have hp := Nat.two_pow_pos (min k l)
      generalize m * 2 ^ (k - min k l) = X at *
      generalize n * 2 ^ (l - min k l) = Y at *
      generalize 2 ^ min k l = p at *
      have v1 := val_lt (mag a) (mag b)
      have v2 := val_lt (mag b) (mag a)
      have z1 := val_eq_zero (mag a)
      have z2 := val_eq_zero (mag b)
      rw [← p1, ← p2] at v1 v2
      rw [← p1] at z1
      rw [← p2] at z2
      apply sgn_cmp
      · rw [← v1]; exact (Nat.mul_lt_mul_right hp).symm
      · rw [← v2]; exact (Nat.mul_lt_mul_right hp).symm
      · rw [← z1, Nat.mul_eq_zero]; omega
      · rw [← z2, Nat.mul_eq_zero]; omega
    · have fb' : mag b = 9218868437227405312 := by omega
      rw [e, read_infinity b hb fb', fb']
      unfold Ieee.Datum.order
      dsimp only
      congr 1
      cases neg b
      · exact (cmp_lt (by unfold sgn; cases neg a <;> simp <;> omega)).symm
      · exact (cmp_gt (by unfold sgn; cases neg a <;> simp <;> omega)).symm
  · have fa' : mag a = 9218868437227405312 := by omega
    rw [read_infinity a ha fa', fa']
    by_cases fb : mag b < 9218868437227405312
    · obtain ⟨n, l, e', hn⟩ := read_number b hb fb
      rw [e']
      unfold Ieee.Datum.order
      dsimp only
      congr 1
      cases neg a
      · exact (cmp_gt (by unfold sgn; cases neg b <;> simp <;> omega)).symm
      · exact (cmp_lt (by unfold sgn; cases neg b <;> simp <;> omega)).symm
    · have fb' : mag b = 9218868437227405312 := by omega
      rw [read_infinity b hb fb', fb']
      unfold Ieee.Datum.order
      dsimp only
      congr 1
      cases neg b <;> cases neg a <;> rfl

/-! ### The six comparisons of Go, as the walk spells them -/

theorem f64 : FloatKind.f64.format = Ieee.double := rfl

theorem self_ne (a : Nat) (h : a < 18446744073709551616) : (FloatKind.f64.format.order a a != some Ordering.eq) = isNaN a := by
  rw [f64]
  cases hn : isNaN a with
  | true => rw [order_nan_left a a hn]; rfl
  | false => rw [order_num a a h h hn hn, cmp_eq rfl]; rfl

/-- a < b, a = b of floats. -/
def lt (a b : Nat) : Bool := !isNaN a && !isNaN b && decide (stp a < stp b)
def eq (a b : Nat) : Bool := !isNaN a && !isNaN b && decide (stp a = stp b)

theorem ord_gt (a b : Nat) (ha : a < 18446744073709551616) (hb : b < 18446744073709551616) : (FloatKind.f64.format.order a b == some Ordering.gt) = lt b a := by
  rw [f64]
  unfold lt
  cases na : isNaN a with
  | true => rw [order_nan_left a b na]; cases isNaN b <;> rfl
  | false =>
    cases nb : isNaN b with
    | true => rw [order_nan_right a b nb]; rfl
    | false =>
      rw [order_num a b ha hb na nb]
      rcases Int.lt_trichotomy (stp a) (stp b) with h | h | h
      · rw [cmp_lt h, decide_eq_false (by omega)]; rfl
      · rw [cmp_eq h, decide_eq_false (by omega)]; rfl
      · rw [cmp_gt h, decide_eq_true h]; rfl

/-! ### Classes, signs -/

def cls (a : Nat) : Int :=
  if (9218868437227405312 : Int) < (mag a : Int) then 1 else if ((mag a : Int) == 9218868437227405312) then 2 else if ((mag a : Int) == 0) then 3 else if (mag a : Int) < 4503599627370496 then 4 else 5
def cneg (a : Nat) : Bool := if (9218868437227405312 : Int) < (mag a : Int) then false else neg a
/-- Bit by bit, NaNs are one. -/
def same (a b : Nat) : Bool := ((a : Int) == (b : Int)) || (isNaN a && isNaN b)
theorem same_self (a : Nat) : same a a = true := by simp [same]
/-- a with the sign s. -/
def sig (s : Bool) (m : Nat) : Nat := if s then m + 9223372036854775808 else m
theorem or_sign (m : Nat) (h : m < 9223372036854775808) : bits .or .u64 (m : Int) 9223372036854775808 = ((m + 9223372036854775808 : Nat) : Int) := by
  have e := u64_or_nat m 9223372036854775808 (by omega) (by decide)
  rw [show ((9223372036854775808 : Nat) : Int) = 9223372036854775808 from rfl] at e
  rw [e]
  congr 1
  have := Nat.two_pow_add_eq_or_of_lt (i := 63) h 1
  rw [Nat.or_comm, ← (show 2 ^ 63 * 1 = 9223372036854775808 from rfl), ← this, Nat.add_comm]

end Go.Fl64
/- What the small functions of the program answer, call by call: the bits, the sign, the magnitude of a float, whether it is a NaN. -/
namespace Go.Proofs.YtbmaoiemgepppaaGreatDoor.Ie
open Go.RowKit Go.Fl64

theorem run_bits (a : Nat) (w : World) : (callFunc 61 #[.float .f64 a]).run Tryz.prog w = .ok (.value (.int .u64 a)) w :=
  run_callFunc_extern Tryz.func61 (e := Extern.MathFloatBits.float64bits) (by kernel_rfl) (by kernel_rfl) (by kernel_rfl) (by kernel_rfl) #[.float .f64 a] w
theorem run_frombits (a : Int) (w : World) : (callFunc 60 #[.int .u64 a]).run Tryz.prog w = .ok (.value (.float .f64 a.toNat)) w :=
  run_callFunc_extern Tryz.func60 (e := Extern.MathFloatBits.float64frombits) (by kernel_rfl) (by kernel_rfl) (by kernel_rfl) (by kernel_rfl) #[.int .u64 a] w

theorem c32 (a : Nat) (ha : a < 18446744073709551616) (w : World) :
    Calls Tryz.prog 79 #[.float .f64 a] w fun e w' => e = .returned (.int .u64 (mag a)) ∧ w' = w := by
  have hb := run_bits
  go_enter Tryz.func79, Tryz.ntmps79
  go_wp2
  go_ret
  refine ⟨?_, rfl⟩
  show Ending.returned (.int .u64 (bits .andNot .u64 a 9223372036854775808)) = _
  rw [andNot_sign a ha]

theorem c33 (a : Nat) (ha : a < 18446744073709551616) (w : World) :
    Calls Tryz.prog 116 #[.float .f64 a] w fun e w' => e = .returned (.bool (neg a)) ∧ w' = w := by
  have hb := run_bits
  go_enter Tryz.func116, Tryz.ntmps116
  go_wp2
  go_ret
  refine ⟨?_, rfl⟩
  show Ending.returned (.bool (decide (wrap64 (a : Int) < 0))) = _
  rw [wrap_neg a ha]

theorem c9 (a : Nat) (ha : a < 18446744073709551616) (w : World) :
    Calls Tryz.prog 78 #[.float .f64 a] w fun e w' => e = .returned (.tuple #[.int .i64 (cls a), .bool (cneg a)]) ∧ w' = w := by
  have k32 := c32 a ha
  have k33 := c33 a ha
  unfold cls cneg
  generalize (mag a : Int) = m at k32 ⊢
  generalize neg a = s at k33 ⊢
  clear ha
  by_cases h1 : (9218868437227405312 : Int) < m
  · simp only [h1, if_true]
    go_enter Tryz.func78, Tryz.ntmps78
    go_wp2_with (first | (go_at_call 79; refine (k32 _).mono ?_; rintro e w' ⟨rfl, rfl⟩) | (go_at_call 116; refine (k33 _).mono ?_; rintro e w' ⟨rfl, rfl⟩))
    go_ret2
    exact ⟨rfl, rfl⟩
  · cases h2 : (m == 9218868437227405312) with
    | true =>
      simp only [h1, if_true, if_false]
      go_enter Tryz.func78, Tryz.ntmps78
      go_wp2_with (first | (go_at_call 79; refine (k32 _).mono ?_; rintro e w' ⟨rfl, rfl⟩) | (go_at_call 116; refine (k33 _).mono ?_; rintro e w' ⟨rfl, rfl⟩))
      go_ret2
      exact ⟨rfl, rfl⟩
    | false =>
      cases h3 : (m == 0) with
      | true =>
        simp only [h1, if_true, if_false, Bool.false_eq_true]
        go_enter Tryz.func78, Tryz.ntmps78
        go_wp2_with (first | (go_at_call 79; refine (k32 _).mono ?_; rintro e w' ⟨rfl, rfl⟩) | (go_at_call 116; refine (k33 _).mono ?_; rintro e w' ⟨rfl, rfl⟩))
        go_ret2
        exact ⟨rfl, rfl⟩
      | false =>
        by_cases h4 : m < 4503599627370496
        · simp only [h1, h4, if_true, if_false, Bool.false_eq_true]
          go_enter Tryz.func78, Tryz.ntmps78
          go_wp2_with (first | (go_at_call 79; refine (k32 _).mono ?_; rintro e w' ⟨rfl, rfl⟩) | (go_at_call 116; refine (k33 _).mono ?_; rintro e w' ⟨rfl, rfl⟩))
          go_ret2
          exact ⟨rfl, rfl⟩
        · simp only [h1, h4, if_false, Bool.false_eq_true]
          go_enter Tryz.func78, Tryz.ntmps78
          go_wp2_with (first | (go_at_call 79; refine (k32 _).mono ?_; rintro e w' ⟨rfl, rfl⟩) | (go_at_call 116; refine (k33 _).mono ?_; rintro e w' ⟨rfl, rfl⟩))
          go_ret2
          exact ⟨rfl, rfl⟩

theorem c11 (a b : Nat) (ha : a < 18446744073709551616) (hb : b < 18446744073709551616) (w : World) :
    Calls Tryz.prog 58 #[.float .f64 a, .float .f64 b] w fun e w' => e = .returned (.bool (same a b)) ∧ w' = w := by
  have kb := run_bits
  have na := self_ne a ha
  have nb := self_ne b hb
  unfold same
  clear ha hb
  generalize isNaN a = x at na ⊢
  generalize isNaN b = y at nb ⊢
  cases h1 : ((a : Int) == (b : Int)) with
  | true =>
    go_enter Tryz.func58, Tryz.ntmps58
    go_wp2
    go_ret
    exact ⟨rfl, rfl⟩
  | false =>
    cases x with
    | true =>
      go_enter Tryz.func58, Tryz.ntmps58
      go_wp2
      go_ret
      exact ⟨rfl, rfl⟩
    | false =>
      go_enter Tryz.func58, Tryz.ntmps58
      go_wp2
      go_ret
      exact ⟨rfl, rfl⟩

end Go.Proofs.YtbmaoiemgepppaaGreatDoor.Ie
/- What the library's bits.Len64, LeadingZeros64 and TrailingZeros64 answer. -/
namespace Go.Proofs.YtbmaoiemgepppaaGreatDoor.Ie
set_option linter.unusedVariables false
set_option linter.unusedSimpArgs false
open Go.RowKit Go.Fl64

theorem len_fin (x k p : Nat) (y : Int) (hk : k ≤ 56) (hp : 2 ^ k = p) (hy : y.toNat = x / p) (hy0 : x / p ≠ 0) (hy1 : x / p < 256) : wrap64 ((k : Int) + wrap64 (bitLen y.toNat : Int)) = (bitLen x : Int) := by
  have e := bitLen_shift x k (by rw [hp]; exact hy0)
  have l := bitLen_le8 (x / p) hy1
  rw [hp] at e
  rw [hy, e]
  generalize bitLen (x / p) = a at *
  unfold wrap64
  omega
theorem len_fin0 (x : Nat) (hx : x < 256) : wrap64 (wrap64 (bitLen (x : Int).toNat : Int)) = (bitLen x : Int) := by
  have l := bitLen_le8 x hx
  rw [Int.toNat_natCast]
  generalize bitLen x = a at *
  unfold wrap64
  omega

set_option maxRecDepth 1000000 in
set_option maxHeartbeats 1000000 in
theorem c62 (x : Nat) (hx : x < 18446744073709551616) (w : World) :
    Calls Tryz.prog 135 #[.int .u64 x] w fun e w' => e = .returned (.int .i64 (bitLen x)) ∧ w' = w := by
  obtain ⟨X, hX⟩ : ∃ X : Int, X = (x : Int) := ⟨_, rfl⟩
  rw [← hX]
  have hX0 : 0 ≤ X := by omega
  have hX1 : Hid (X < 18446744073709551616) := (by omega : X < 18446744073709551616)
  have hX' : Hid (X = (x : Int)) := hX
  clear hX hx
  go_enter Tryz.func135, Tryz.ntmps135
  go_wp2
  all_goals go_ret
  all_goals (refine ⟨congrArg Ending.returned (congrArg (Value.int IntKind.i64) ?_), rfl⟩)
  all_goals have h1 := hX1.out
  all_goals have h2 := hX'.out
  all_goals clear hX1 hX'
  all_goals subst h2
  all_goals rw [len8tab_get]
  · exact len_fin x 56 72057594037927936 _ (by decide) (by decide) (by omega) (by omega) (by omega)
  · exact len_fin x 48 281474976710656 _ (by decide) (by decide) (by omega) (by omega) (by omega)
  · exact len_fin x 40 1099511627776 _ (by decide) (by decide) (by omega) (by omega) (by omega)
  · exact len_fin x 32 4294967296 _ (by decide) (by decide) (by omega) (by omega) (by omega)
  · exact len_fin x 24 16777216 _ (by decide) (by decide) (by omega) (by omega) (by omega)
  · exact len_fin x 16 65536 _ (by decide) (by decide) (by omega) (by omega) (by omega)
  · exact len_fin x 8 256 _ (by decide) (by decide) (by omega) (by omega) (by omega)
  · exact len_fin0 x (by omega)

theorem bitLen_le64 (x : Nat) (hx : x < 18446744073709551616) : bitLen x ≤ 64 := by
  unfold bitLen
  split
  · omega
  · rename_i h0
    have := (Nat.log2_lt h0).2 (show x < 2 ^ 64 from hx)
    omega

theorem c57 (x : Nat) (hx : x < 18446744073709551616) (w : World) :
    Calls Tryz.prog 144 #[.int .u64 x] w fun e w' => e = .returned (.int .i64 (64 - (bitLen x : Int))) ∧ w' = w := by
  have k := c62 x hx
  have hl : Hid ((bitLen x : Int) ≤ 64) := by have := bitLen_le64 x hx; exact (by omega : (bitLen x : Int) ≤ 64)
  have h0 : Hid (0 ≤ (bitLen x : Int)) := (by omega : 0 ≤ (bitLen x : Int))
  clear hx
  generalize (bitLen x : Int) = b at k hl h0 ⊢
  go_enter Tryz.func144, Tryz.ntmps144
  go_wp2_with (first | (go_at_call 135; refine (k _).mono ?_; rintro e w' ⟨rfl, rfl⟩))
  go_ret
  refine ⟨?_, rfl⟩
  show Ending.returned (.int .i64 (wrap64 (64 - b))) = _
  have hl := hl.out
  have h0 := h0.out
  rw [show wrap64 (64 - b) = 64 - b by unfold wrap64; omega]

theorem tz_key (x a : Nat) (hx : x < 18446744073709551616) (hx0 : x ≠ 0) (hlow : x &&& (18446744073709551616 - x) = a) :
    IntKind.u64.wrap (bits BinOp.and IntKind.u64 (x : Int) (IntKind.u64.wrap (-(x : Int))) * 285870213051353865) / 288230376151711744 = ((a * 285870213051353865 % 18446744073709551616 / 288230376151711744 : Nat) : Int) := by
  have e1 : IntKind.u64.wrap (-(x : Int)) = ((18446744073709551616 - x : Nat) : Int) := by rw [IntKind.wrap_u64]; omega
  rw [e1, u64_and_nat x _ hx (by omega), hlow, IntKind.wrap_u64]
  omega

set_option maxHeartbeats 1000000 in
theorem c51x (x k idx : Nat) (w : World) (hx0 : ((x : Int) == 0) = false)
    (key : IntKind.u64.wrap (bits BinOp.and IntKind.u64 (x : Int) (IntKind.u64.wrap (-(x : Int))) * 285870213051353865) / 288230376151711744 = (idx : Int))
    (hi : idx < 64) (hk : k < 64) (hcell : w.cell? ⟨4, idx, none⟩ = some (.int .u8 k)) :
    Calls Tryz.prog 80 #[.int .u64 x] w fun e w' => e = .returned (.int .i64 k) ∧ w' = w := by
  go_enter Tryz.func80, Tryz.ntmps80
  go_wp2_with (simp only [key])
  go_ret
  exact ⟨rfl, rfl⟩

/-- The table of the library, where the program lays it. -/
def Tab (w : World) : Prop := ∀ i, i < 64 → w.cell? ⟨4, i, none⟩ = some (.int .u8 (Lib.deBruijn64tab.getD i 0 : Nat))

theorem c51 (x : Nat) (hx : x < 18446744073709551616) (hx0 : x ≠ 0) (w : World) (hT : Tab w) :
    Calls Tryz.prog 80 #[.int .u64 x] w fun e w' => e = .returned (.int .i64 (Lib.ctz 64 x)) ∧ w' = w := by
  obtain ⟨hlow, hk⟩ := Lib.lowest_bit 64 x hx0 hx
  obtain ⟨hi, htab⟩ := Lib.deBruijn64_at _ hk
  have hcell := hT _ hi
  rw [htab] at hcell
  exact c51x x _ _ w (by simp; omega) (tz_key x _ hx hx0 hlow) hi hk hcell

end Go.Proofs.YtbmaoiemgepppaaGreatDoor.Ie
/- What the program's rounding answers: a mantissa shifted and rounded, and the bits of m times 2 to the e, rounded. -/
namespace Go.Proofs.YtbmaoiemgepppaaGreatDoor.Ie
set_option linter.unusedVariables false
set_option linter.unusedSimpArgs false
open Go.RowKit Go.Fl64

theorem c58_0 (m d K L F K1 : Int) (o : Bool) (w : World) (h1 : 1 ≤ d) (h2 : d ≤ 64) (hm : 0 ≤ m) (hK : m / 2 ^ d.toNat = K) (hL : IntKind.u64.wrap (m - IntKind.u64.wrap (K * 2 ^ d.toNat)) = L) (hF : IntKind.u64.wrap (2 ^ (d.toNat - 1)) = F) (ho : (bits BinOp.and IntKind.u64 K 1 == 1) = o) (hK1 : IntKind.u64.wrap (K + 1) = K1) :
    Calls Tryz.prog 145 #[.int .u64 m, .int .i64 d, .int .i64 0] w fun e w' => e = .returned (.int .u64 K) ∧ w' = w := by
  go_enter Tryz.func145, Tryz.ntmps145
  go_wp2
  go_ret
  exact ⟨rfl, rfl⟩

theorem c58_1 (m d K L F K1 : Int) (o : Bool) (w : World) (h1 : 1 ≤ d) (h2 : d ≤ 64) (hm : 0 ≤ m) (hK : m / 2 ^ d.toNat = K) (hL : IntKind.u64.wrap (m - IntKind.u64.wrap (K * 2 ^ d.toNat)) = L) (hF : IntKind.u64.wrap (2 ^ (d.toNat - 1)) = F) (ho : (bits BinOp.and IntKind.u64 K 1 == 1) = o) (hK1 : IntKind.u64.wrap (K + 1) = K1) :
    Calls Tryz.prog 145 #[.int .u64 m, .int .i64 d, .int .i64 1] w fun e w' => e = .returned (.int .u64 (if decide (F < L) || ((L == F) && o) then K1 else K)) ∧ w' = w := by
  by_cases h3 : F < L
  · rw [decide_eq_true h3]
    simp only [Bool.true_or, if_true]
    go_enter Tryz.func145, Tryz.ntmps145
    go_wp2
    go_ret
    exact ⟨rfl, rfl⟩
  · rw [decide_eq_false h3]
    cases h4 : (L == F) with
    | true =>
      cases o with
      | true =>
        simp only [Bool.false_or, Bool.true_and, if_true]
        go_enter Tryz.func145, Tryz.ntmps145
        go_wp2
        go_ret
        exact ⟨rfl, rfl⟩
      | false =>
        simp only [Bool.false_or, Bool.true_and, if_false, Bool.false_eq_true]
        go_enter Tryz.func145, Tryz.ntmps145
        go_wp2
        go_ret
        exact ⟨rfl, rfl⟩
    | false =>
      simp only [Bool.false_or, Bool.false_and, if_false, Bool.false_eq_true]
      go_enter Tryz.func145, Tryz.ntmps145
      go_wp2
      go_ret
      exact ⟨rfl, rfl⟩

theorem c58_2 (m d K L F K1 : Int) (o : Bool) (w : World) (h1 : 1 ≤ d) (h2 : d ≤ 64) (hm : 0 ≤ m) (hK : m / 2 ^ d.toNat = K) (hL : IntKind.u64.wrap (m - IntKind.u64.wrap (K * 2 ^ d.toNat)) = L) (hF : IntKind.u64.wrap (2 ^ (d.toNat - 1)) = F) (ho : (bits BinOp.and IntKind.u64 K 1 == 1) = o) (hK1 : IntKind.u64.wrap (K + 1) = K1) :
    Calls Tryz.prog 145 #[.int .u64 m, .int .i64 d, .int .i64 2] w fun e w' => e = .returned (.int .u64 (if (L != 0) then K1 else K)) ∧ w' = w := by
  cases h3 : (L != 0) with
  | true =>
    simp only [if_true]
    go_enter Tryz.func145, Tryz.ntmps145
    go_wp2
    go_ret
    exact ⟨rfl, rfl⟩
  | false =>
    simp only [if_false, Bool.false_eq_true]
    go_enter Tryz.func145, Tryz.ntmps145
    go_wp2
    go_ret
    exact ⟨rfl, rfl⟩

theorem c58_0b (m d : Int) (w : World) (h2 : 64 < d) :
    Calls Tryz.prog 145 #[.int .u64 m, .int .i64 d, .int .i64 0] w fun e w' => e = .returned (.int .u64 0) ∧ w' = w := by
  go_enter Tryz.func145, Tryz.ntmps145
  go_wp2
  go_ret
  exact ⟨rfl, rfl⟩
theorem c58_1b (m d : Int) (w : World) (h2 : 64 < d) :
    Calls Tryz.prog 145 #[.int .u64 m, .int .i64 d, .int .i64 1] w fun e w' => e = .returned (.int .u64 0) ∧ w' = w := by
  go_enter Tryz.func145, Tryz.ntmps145
  go_wp2
  go_ret
  exact ⟨rfl, rfl⟩
theorem c58_2b (m d : Int) (w : World) (h2 : 64 < d) :
    Calls Tryz.prog 145 #[.int .u64 m, .int .i64 d, .int .i64 2] w fun e w' => e = .returned (.int .u64 1) ∧ w' = w := by
  go_enter Tryz.func145, Tryz.ntmps145
  go_wp2
  go_ret
  exact ⟨rfl, rfl⟩

/-- Is M / 2^d rounded up? The ways: 0 inward, 1 to the nearest, 2 outward. -/
def rup (M d : Nat) (way : Int) : Bool :=
  if way = 1 then decide (2 ^ d < 2 * (M % 2 ^ d)) || (decide (2 * (M % 2 ^ d) = 2 ^ d) && decide (M / 2 ^ d % 2 = 1)) else if way = 2 then decide (M % 2 ^ d ≠ 0) else false
/-- M / 2^d, rounded. -/
def rnd (M d : Nat) (way : Int) : Nat := if rup M d way then M / 2 ^ d + 1 else M / 2 ^ d

theorem rnd_big (M d : Nat) (way : Int) (hM : M < 18446744073709551616) (hM0 : M ≠ 0) (hd : 64 < d) : rnd M d way = if way = 2 then 1 else 0 := by
  have hp : 2 ^ 65 ≤ 2 ^ d := Nat.pow_le_pow_right (by decide) hd
  have hp' : 36893488147419103232 ≤ 2 ^ d := hp
  have e1 : M % 2 ^ d = M := Nat.mod_eq_of_lt (by omega)
  have e2 : M / 2 ^ d = 0 := Nat.div_eq_of_lt (by omega)
  unfold rnd rup
  rw [e1, e2]
  by_cases h1 : way = 1
  · subst h1
    simp
    omega
  · rw [if_neg h1]
    by_cases h2 : way = 2
    · subst h2
      simp [hM0]
    · rw [if_neg h2, if_neg h2]
      rfl

theorem c58 (M d : Nat) (way : Int) (hM : M < 18446744073709551616) (hM0 : M ≠ 0) (hd : 1 ≤ d) (hw : way = 0 ∨ way = 1 ∨ way = 2) (w : World) :
    Calls Tryz.prog 145 #[.int .u64 M, .int .i64 d, .int .i64 way] w fun e w' => e = .returned (.int .u64 (rnd M d way)) ∧ w' = w := by
  by_cases hb : 64 < d
  · rw [rnd_big M d way hM hM0 hb]
    rcases hw with rfl | rfl | rfl
    · exact c58_0b M d w (by omega)
    · exact c58_1b M d w (by omega)
    · exact c58_2b M d w (by omega)
  · have hp : 0 < 2 ^ d := Nat.two_pow_pos d
    have hdm : 2 ^ d * (M / 2 ^ d) + M % 2 ^ d = M := Nat.div_add_mod M (2 ^ d)
    have hml : M % 2 ^ d < 2 ^ d := Nat.mod_lt _ hp
    have e1 : 2 ^ d = 2 * 2 ^ (d - 1) := by rw [← Nat.pow_succ', show (d - 1).succ = d by omega]
    have hpb : 2 ^ (d - 1) ≤ 9223372036854775808 := (show 2 ^ (d - 1) ≤ 2 ^ 63 from Nat.pow_le_pow_right (by decide) (by omega))
    have cK : (M : Int) / 2 ^ (d : Int).toNat = ((M / 2 ^ d : Nat) : Int) := by rw [Int.toNat_natCast]; simp
    have cL : IntKind.u64.wrap ((M : Int) - IntKind.u64.wrap (((M / 2 ^ d : Nat) : Int) * 2 ^ (d : Int).toNat)) = ((M % 2 ^ d : Nat) : Int) := by
      have e2 : ((M / 2 ^ d : Nat) : Int) * 2 ^ (d : Int).toNat = ((2 ^ d * (M / 2 ^ d) : Nat) : Int) := by
        rw [Int.toNat_natCast, Int.natCast_mul, Int.mul_comm]
        simp
      rw [e2, IntKind.wrap_u64, IntKind.wrap_u64]
      omega
    have cF : IntKind.u64.wrap (2 ^ ((d : Int).toNat - 1)) = ((2 ^ (d - 1) : Nat) : Int) := by
      have e2 : (2 : Int) ^ ((d : Int).toNat - 1) = ((2 ^ (d - 1) : Nat) : Int) := by rw [Int.toNat_natCast]; simp
      rw [e2, IntKind.wrap_u64]
      omega
    have hkb : M / 2 ^ d ≤ 9223372036854775808 := by
      have : M / 2 ^ d ≤ M / 2 := Nat.div_le_div_left (by omega) (by decide)
      omega
    have co : (bits BinOp.and IntKind.u64 ((M / 2 ^ d : Nat) : Int) 1 == 1) = decide (M / 2 ^ d % 2 = 1) := by
      have e := u64_and_nat (M / 2 ^ d) 1 (by omega) (by decide)
      rw [show ((1 : Nat) : Int) = 1 from rfl] at e
      rw [e, Nat.and_one_is_mod, Bool.beq_eq_decide_eq]
      congr 1
      apply propext
      omega
    have cK1 : IntKind.u64.wrap (((M / 2 ^ d : Nat) : Int) + 1) = ((M / 2 ^ d + 1 : Nat) : Int) := by
      clear cL cF cK co hdm hml
      generalize M / 2 ^ d = q at hkb ⊢
      rw [IntKind.wrap_u64]
      omega
    rcases hw with rfl | rfl | rfl
    · have := c58_0 M d _ _ _ _ _ w (by omega) (by omega) (by omega) cK cL cF co cK1
      exact this
    · have := c58_1 M d _ _ _ _ _ w (by omega) (by omega) (by omega) cK cL cF co cK1
      have e3 : (if decide (((2 ^ (d - 1) : Nat) : Int) < ((M % 2 ^ d : Nat) : Int)) || ((((M % 2 ^ d : Nat) : Int) == ((2 ^ (d - 1) : Nat) : Int)) && decide (M / 2 ^ d % 2 = 1)) then ((M / 2 ^ d + 1 : Nat) : Int) else ((M / 2 ^ d : Nat) : Int)) = (rnd M d 1 : Int) := by
        unfold rnd rup
        rw [if_pos rfl]
        have e4 : decide (((2 ^ (d - 1) : Nat) : Int) < ((M % 2 ^ d : Nat) : Int)) = decide (2 ^ d < 2 * (M % 2 ^ d)) := by
          congr 1; apply propext; omega
        have e5 : (((M % 2 ^ d : Nat) : Int) == ((2 ^ (d - 1) : Nat) : Int)) = decide (2 * (M % 2 ^ d) = 2 ^ d) := by
          rw [Bool.beq_eq_decide_eq]; congr 1; apply propext; omega
        rw [e4, e5]
        split <;> rfl
      rw [e3] at this
      exact this
    · have := c58_2 M d _ _ _ _ _ w (by omega) (by omega) (by omega) cK cL cF co cK1
      have e3 : (if ((((M % 2 ^ d : Nat) : Int)) != 0) then ((M / 2 ^ d + 1 : Nat) : Int) else ((M / 2 ^ d : Nat) : Int)) = (rnd M d 2 : Int) := by
        unfold rnd rup
        rw [if_neg (show ¬ (2 : Int) = 1 by decide), if_pos (show (2 : Int) = 2 from rfl)]
        have e4 : ((((M % 2 ^ d : Nat) : Int)) != 0) = decide (M % 2 ^ d ≠ 0) := by
          rw [bne, Bool.beq_eq_decide_eq, ← decide_not]; congr 1; apply propext; omega
        rw [e4]
        split <;> rfl
      rw [e3] at this
      exact this

end Go.Proofs.YtbmaoiemgepppaaGreatDoor.Ie
/- What the program's roundBody answers: the bits of m times 2 to the e, rounded inward, to the nearest or outward. -/
namespace Go.Proofs.YtbmaoiemgepppaaGreatDoor.Ie
set_option linter.unusedVariables false
set_option linter.unusedSimpArgs false
open Go.RowKit Go.Fl64

/-- How many noughts lead m, a number of 64 bits; m moved up by them; the place of the last bit that is kept; the rung, as it comes; and as it is held in bounds. -/
def nz (m : Nat) : Nat := 64 - bitLen m
def tp (m : Nat) : Nat := m * 2 ^ nz m
def pl (m : Nat) (e : Int) : Int := if e - (nz m : Int) + 63 - 52 < -1074 then -1074 else e - (nz m : Int) + 63 - 52
def raw (m : Nat) (e way : Int) : Int := (pl m e + 1074) * 4503599627370496 + (rnd (tp m) (pl m e - (e - (nz m : Int))).toNat way : Int)
def bod (m : Nat) (e way : Int) : Int := if raw m e way < 9218868437227405312 then raw m e way else if way == 0 then 9218868437227405311 else 9218868437227405312

theorem nz_facts (m : Nat) (hm : m < 18446744073709551616) (h0 : m ≠ 0) : nz m ≤ 63 ∧ 9223372036854775808 ≤ tp m ∧ tp m < 18446744073709551616 := by
  obtain ⟨h1, h2⟩ := bitLen_spec m
  have h2 := h2 h0
  have h3 := bitLen_le64 m hm
  have h4 : bitLen m ≠ 0 := by unfold bitLen; rw [if_neg h0]; omega
  have hp : 0 < 2 ^ nz m := Nat.two_pow_pos _
  have e1 : 2 ^ bitLen m * 2 ^ nz m = 18446744073709551616 := by
    rw [← Nat.pow_add, show bitLen m + nz m = 64 by unfold nz; omega]
  have e2 : 2 ^ (bitLen m - 1) * 2 ^ nz m = 9223372036854775808 := by
    rw [← Nat.pow_add, show bitLen m - 1 + nz m = 63 by unfold nz; omega]
  refine ⟨by unfold nz; omega, ?_, ?_⟩
  · rw [← e2]; exact Nat.mul_le_mul_right _ h2
  · rw [← e1]; exact (Nat.mul_lt_mul_right hp).2 h1

theorem rnd_le (M d : Nat) (way : Int) (hM : M < 18446744073709551616) (hd : 11 ≤ d) : rnd M d way ≤ 9007199254740992 := by
  have hp : 2 ^ 11 ≤ 2 ^ d := Nat.pow_le_pow_right (by decide) hd
  have h1 : M / 2 ^ d ≤ M / 2 ^ 11 := Nat.div_le_div_left hp (by decide)
  have h2 : M / 2 ^ 11 < 9007199254740992 := by omega
  unfold rnd
  split <;> omega

theorem drop_ge (m : Nat) (e : Int) : 11 ≤ (pl m e - (e - (nz m : Int))).toNat := by
  unfold pl
  split <;> omega

theorem raw_bounds (m : Nat) (e way : Int) (hm : m < 18446744073709551616) (h0 : m ≠ 0) : (pl m e + 1074) * 4503599627370496 ≤ raw m e way ∧ raw m e way ≤ (pl m e + 1076) * 4503599627370496 ∧ -1074 ≤ pl m e := by
  have h1 := rnd_le (tp m) (pl m e - (e - (nz m : Int))).toNat way (nz_facts m hm h0).2.2 (drop_ge m e)
  unfold raw
  refine ⟨by omega, by omega, ?_⟩
  unfold pl
  split <;> omega

theorem bod_bounds (m : Nat) (e way : Int) (hm : m < 18446744073709551616) (h0 : m ≠ 0) : 0 ≤ bod m e way ∧ bod m e way ≤ 9218868437227405312 := by
  have h1 := raw_bounds m e way hm h0
  unfold bod
  split
  · omega
  · split <;> omega

/-- Beyond the bounds nothing changes. -/
theorem bod_clamp (m : Nat) (e way : Int) (hm : m < 18446744073709551616) (h0 : m ≠ 0) :
    bod m (if 1100 < (if e < -1200 then -1200 else e) then 1100 else (if e < -1200 then -1200 else e)) way = bod m e way := by
  obtain ⟨hz, ht0, ht1⟩ := nz_facts m hm h0
  by_cases h1 : e < -1200
  · rw [if_pos h1, if_neg (by omega)]
    have p1 : pl m (-1200) = -1074 := by unfold pl; rw [if_pos (by omega)]
    have p2 : pl m e = -1074 := by unfold pl; rw [if_pos (by omega)]
    unfold bod raw
    rw [p1, p2, rnd_big _ _ way ht1 (by omega) (by omega), rnd_big _ _ way ht1 (by omega) (by omega)]
  · rw [if_neg h1]
    by_cases h2 : 1100 < e
    · rw [if_pos h2]
      have q1 := (raw_bounds m 1100 way hm h0).1
      have q2 := (raw_bounds m e way hm h0).1
      have p1 : pl m 1100 = 1100 - (nz m : Int) + 63 - 52 := by unfold pl; rw [if_neg (by omega)]
      have p2 : pl m e = e - (nz m : Int) + 63 - 52 := by unfold pl; rw [if_neg (by omega)]
      unfold bod
      rw [if_neg (show ¬ raw m 1100 way < 9218868437227405312 by omega), if_neg (show ¬ raw m e way < 9218868437227405312 by omega)]
    · rw [if_neg h2]

set_option maxHeartbeats 1000000 in
theorem c53x (m e way S Mn e0 E P B : Int) (R : Int → Int) (w : World) (hS0 : 0 ≤ S) (hS1 : S ≤ 63) (hM : IntKind.u64.wrap (m * 2 ^ S.toNat) = Mn)
    (hc1 : (if e < -1200 then -1200 else e) = e0) (hc2 : (if 1100 < e0 then 1100 else e0) = E) (hp : (if E - S + 63 - 52 < -1074 then -1074 else E - S + 63 - 52) = P)
    (hE0 : -1200 ≤ E) (hE1 : E ≤ 1100) (hp0 : -1074 ≤ P) (hp1 : P ≤ 1111)
    (hB : IntKind.u64.wrap ((P + 1074) * 4503599627370496 + R (P - (E - S))) = B)
    (k57 : ∀ w, Calls Tryz.prog 144 #[.int .u64 m] w fun e w' => e = .returned (.int .i64 S) ∧ w' = w)
    (k58 : ∀ w, Calls Tryz.prog 145 #[.int .u64 Mn, .int .i64 (P - (E - S)), .int .i64 way] w fun e w' => e = .returned (.int .u64 (R (P - (E - S)))) ∧ w' = w) :
    Calls Tryz.prog 143 #[.int .u64 m, .int .i64 e, .int .i64 way] w fun e w' => e = .returned (.int .u64 (if B < 9218868437227405312 then B else if way == 0 then 9218868437227405311 else 9218868437227405312)) ∧ w' = w := by
  have kb := run_bits
  by_cases h1 : B < 9218868437227405312
  · rw [if_pos h1]
    go_enter Tryz.func143, Tryz.ntmps143
    go_wp2_with (first | (go_at_call 144; refine (k57 _).mono ?_; rintro e w' ⟨rfl, rfl⟩) | (go_at_call 145; refine (k58 _).mono ?_; rintro e w' ⟨rfl, rfl⟩))
    go_ret
    exact ⟨rfl, rfl⟩
  · rw [if_neg h1]
    cases h2 : (way == 0) with
    | true =>
      simp only [if_true]
      go_enter Tryz.func143, Tryz.ntmps143
      go_wp2_with (first | (go_at_call 144; refine (k57 _).mono ?_; rintro e w' ⟨rfl, rfl⟩) | (go_at_call 145; refine (k58 _).mono ?_; rintro e w' ⟨rfl, rfl⟩))
      go_ret
      exact ⟨rfl, rfl⟩
    | false =>
      simp only [if_false, Bool.false_eq_true]
      go_enter Tryz.func143, Tryz.ntmps143
      go_wp2_with (first | (go_at_call 144; refine (k57 _).mono ?_; rintro e w' ⟨rfl, rfl⟩) | (go_at_call 145; refine (k58 _).mono ?_; rintro e w' ⟨rfl, rfl⟩))
      go_ret
      exact ⟨rfl, rfl⟩

theorem c53 (m : Nat) (e way : Int) (hm : m < 18446744073709551616) (h0 : m ≠ 0) (hw : way = 0 ∨ way = 1 ∨ way = 2) (w : World) :
    Calls Tryz.prog 143 #[.int .u64 m, .int .i64 e, .int .i64 way] w fun r w' => r = .returned (.int .u64 (bod m e way)) ∧ w' = w := by
  rw [← bod_clamp m e way hm h0]
  generalize hE : (if 1100 < (if e < -1200 then -1200 else e) then 1100 else (if e < -1200 then -1200 else e)) = E
  have hE0 : -1200 ≤ E ∧ E ≤ 1100 := by
    rw [← hE]
    by_cases h1 : e < -1200
    · rw [if_pos h1, if_neg (by omega)]; omega
    · rw [if_neg h1]
      by_cases h2 : 1100 < e
      · rw [if_pos h2]; omega
      · rw [if_neg h2]; omega
  obtain ⟨hz, ht0, ht1⟩ := nz_facts m hm h0
  have hb := raw_bounds m E way hm h0
  have hd := drop_ge m E
  have hl := bitLen_le64 m hm
  have k57 := c57 m hm
  have ez : (64 : Int) - (bitLen m : Int) = (nz m : Int) := by unfold nz; omega
  rw [ez] at k57
  have k58 := fun w => c58 (tp m) (pl m E - (E - (nz m : Int))).toNat way ht1 (by omega) (by omega) hw w
  have ed : (((pl m E - (E - (nz m : Int))).toNat : Nat) : Int) = pl m E - (E - (nz m : Int)) := by omega
  rw [ed] at k58
  have hM : IntKind.u64.wrap ((m : Int) * 2 ^ (nz m : Int).toNat) = ((tp m : Nat) : Int) := by
    have e1 : (m : Int) * 2 ^ (nz m : Int).toNat = ((tp m : Nat) : Int) := by
      rw [Int.toNat_natCast]
      unfold tp
      simp
    rw [e1, IntKind.wrap_u64]
    omega
  have hP1 : pl m E ≤ 1111 := by unfold pl; split <;> omega
  have hB : IntKind.u64.wrap ((pl m E + 1074) * 4503599627370496 + (fun D : Int => (rnd (tp m) D.toNat way : Int)) (pl m E - (E - (nz m : Int)))) = raw m E way := by
    show IntKind.u64.wrap (raw m E way) = raw m E way
    rw [IntKind.wrap_u64]
    omega
  exact c53x m e way (nz m) (tp m) _ E (pl m E) (raw m E way) (fun D => (rnd (tp m) D.toNat way : Int)) w (by omega) (by omega) hM rfl hE rfl hE0.1 hE0.2 hb.2.2 hP1 hB k57 k58

end Go.Proofs.YtbmaoiemgepppaaGreatDoor.Ie
/- What the program's Make answers: the float of m times 2 to the e, rounded by the mode. -/
namespace Go.Proofs.YtbmaoiemgepppaaGreatDoor.Ie
set_option linter.unusedVariables false
set_option linter.unusedSimpArgs false
open Go.RowKit Go.Fl64

/-- The way of a mode, once the sign is known; the float that is made ('nan': of a mode that is none). -/
def wy (neg : Bool) (mode : Int) : Int := if mode = 2 then 1 else if (neg == (mode == 1)) then 2 else 0
def mk (neg : Bool) (m : Nat) (e mode : Int) (nan : Nat) : Nat := if mode = 1 ∨ mode = 2 ∨ mode = 3 then sig neg (if m = 0 then 0 else (bod m e (wy neg mode)).toNat) else nan

theorem c52 (w : World) : Calls Tryz.prog 142 #[] w fun e w' => e = .returned (.float .f64 9221120237041090561) ∧ w' = w := by
  have kf := run_frombits
  go_enter Tryz.func142, Tryz.ntmps142
  go_wp2
  go_ret
  exact ⟨rfl, rfl⟩

theorem c24_2true (m e B C : Int) (w : World) (hm : (m != 0) = true)
    (k53 : ∀ w, Calls Tryz.prog 143 #[.int .u64 m, .int .i64 e, .int .i64 1] w fun r w' => r = .returned (.int .u64 B) ∧ w' = w) (hor : bits .or .u64 B 9223372036854775808 = C) :
    Calls Tryz.prog 128 #[.bool true, .int .u64 m, .int .i64 e, .int .i64 2] w fun r w' => r = .returned (.float .f64 C.toNat) ∧ w' = w := by
  have kf := run_frombits
  go_enter Tryz.func128, Tryz.ntmps128
  go_wp2_with (first | (go_at_call 143; refine (k53 _).mono ?_; rintro e w' ⟨rfl, rfl⟩))
  go_ret
  exact ⟨rfl, rfl⟩
theorem c24_2truez (e C : Int) (w : World) (hor : bits .or .u64 0 9223372036854775808 = C) :
    Calls Tryz.prog 128 #[.bool true, .int .u64 0, .int .i64 e, .int .i64 2] w fun r w' => r = .returned (.float .f64 C.toNat) ∧ w' = w := by
  have kf := run_frombits
  go_enter Tryz.func128, Tryz.ntmps128
  go_wp2
  go_ret
  exact ⟨rfl, rfl⟩

theorem c24_2false (m e B C : Int) (w : World) (hm : (m != 0) = true)
    (k53 : ∀ w, Calls Tryz.prog 143 #[.int .u64 m, .int .i64 e, .int .i64 1] w fun r w' => r = .returned (.int .u64 B) ∧ w' = w) (hor : bits .or .u64 B 9223372036854775808 = C) :
    Calls Tryz.prog 128 #[.bool false, .int .u64 m, .int .i64 e, .int .i64 2] w fun r w' => r = .returned (.float .f64 B.toNat) ∧ w' = w := by
  have kf := run_frombits
  go_enter Tryz.func128, Tryz.ntmps128
  go_wp2_with (first | (go_at_call 143; refine (k53 _).mono ?_; rintro e w' ⟨rfl, rfl⟩))
  go_ret
  exact ⟨rfl, rfl⟩
theorem c24_2falsez (e C : Int) (w : World) (hor : bits .or .u64 0 9223372036854775808 = C) :
    Calls Tryz.prog 128 #[.bool false, .int .u64 0, .int .i64 e, .int .i64 2] w fun r w' => r = .returned (.float .f64 0) ∧ w' = w := by
  have kf := run_frombits
  go_enter Tryz.func128, Tryz.ntmps128
  go_wp2
  go_ret
  exact ⟨rfl, rfl⟩

theorem c24_1true (m e B C : Int) (w : World) (hm : (m != 0) = true)
    (k53 : ∀ w, Calls Tryz.prog 143 #[.int .u64 m, .int .i64 e, .int .i64 2] w fun r w' => r = .returned (.int .u64 B) ∧ w' = w) (hor : bits .or .u64 B 9223372036854775808 = C) :
    Calls Tryz.prog 128 #[.bool true, .int .u64 m, .int .i64 e, .int .i64 1] w fun r w' => r = .returned (.float .f64 C.toNat) ∧ w' = w := by
  have kf := run_frombits
  go_enter Tryz.func128, Tryz.ntmps128
  go_wp2_with (first | (go_at_call 143; refine (k53 _).mono ?_; rintro e w' ⟨rfl, rfl⟩))
  go_ret
  exact ⟨rfl, rfl⟩
theorem c24_1truez (e C : Int) (w : World) (hor : bits .or .u64 0 9223372036854775808 = C) :
    Calls Tryz.prog 128 #[.bool true, .int .u64 0, .int .i64 e, .int .i64 1] w fun r w' => r = .returned (.float .f64 C.toNat) ∧ w' = w := by
  have kf := run_frombits
  go_enter Tryz.func128, Tryz.ntmps128
  go_wp2
  go_ret
  exact ⟨rfl, rfl⟩

theorem c24_3false (m e B C : Int) (w : World) (hm : (m != 0) = true)
    (k53 : ∀ w, Calls Tryz.prog 143 #[.int .u64 m, .int .i64 e, .int .i64 2] w fun r w' => r = .returned (.int .u64 B) ∧ w' = w) (hor : bits .or .u64 B 9223372036854775808 = C) :
    Calls Tryz.prog 128 #[.bool false, .int .u64 m, .int .i64 e, .int .i64 3] w fun r w' => r = .returned (.float .f64 B.toNat) ∧ w' = w := by
  have kf := run_frombits
  go_enter Tryz.func128, Tryz.ntmps128
  go_wp2_with (first | (go_at_call 143; refine (k53 _).mono ?_; rintro e w' ⟨rfl, rfl⟩))
  go_ret
  exact ⟨rfl, rfl⟩
theorem c24_3falsez (e C : Int) (w : World) (hor : bits .or .u64 0 9223372036854775808 = C) :
    Calls Tryz.prog 128 #[.bool false, .int .u64 0, .int .i64 e, .int .i64 3] w fun r w' => r = .returned (.float .f64 0) ∧ w' = w := by
  have kf := run_frombits
  go_enter Tryz.func128, Tryz.ntmps128
  go_wp2
  go_ret
  exact ⟨rfl, rfl⟩

theorem c24_1false (m e B C : Int) (w : World) (hm : (m != 0) = true)
    (k53 : ∀ w, Calls Tryz.prog 143 #[.int .u64 m, .int .i64 e, .int .i64 0] w fun r w' => r = .returned (.int .u64 B) ∧ w' = w) (hor : bits .or .u64 B 9223372036854775808 = C) :
    Calls Tryz.prog 128 #[.bool false, .int .u64 m, .int .i64 e, .int .i64 1] w fun r w' => r = .returned (.float .f64 B.toNat) ∧ w' = w := by
  have kf := run_frombits
  go_enter Tryz.func128, Tryz.ntmps128
  go_wp2_with (first | (go_at_call 143; refine (k53 _).mono ?_; rintro e w' ⟨rfl, rfl⟩))
  go_ret
  exact ⟨rfl, rfl⟩
theorem c24_1falsez (e C : Int) (w : World) (hor : bits .or .u64 0 9223372036854775808 = C) :
    Calls Tryz.prog 128 #[.bool false, .int .u64 0, .int .i64 e, .int .i64 1] w fun r w' => r = .returned (.float .f64 0) ∧ w' = w := by
  have kf := run_frombits
  go_enter Tryz.func128, Tryz.ntmps128
  go_wp2
  go_ret
  exact ⟨rfl, rfl⟩

theorem c24_3true (m e B C : Int) (w : World) (hm : (m != 0) = true)
    (k53 : ∀ w, Calls Tryz.prog 143 #[.int .u64 m, .int .i64 e, .int .i64 0] w fun r w' => r = .returned (.int .u64 B) ∧ w' = w) (hor : bits .or .u64 B 9223372036854775808 = C) :
    Calls Tryz.prog 128 #[.bool true, .int .u64 m, .int .i64 e, .int .i64 3] w fun r w' => r = .returned (.float .f64 C.toNat) ∧ w' = w := by
  have kf := run_frombits
  go_enter Tryz.func128, Tryz.ntmps128
  go_wp2_with (first | (go_at_call 143; refine (k53 _).mono ?_; rintro e w' ⟨rfl, rfl⟩))
  go_ret
  exact ⟨rfl, rfl⟩
theorem c24_3truez (e C : Int) (w : World) (hor : bits .or .u64 0 9223372036854775808 = C) :
    Calls Tryz.prog 128 #[.bool true, .int .u64 0, .int .i64 e, .int .i64 3] w fun r w' => r = .returned (.float .f64 C.toNat) ∧ w' = w := by
  have kf := run_frombits
  go_enter Tryz.func128, Tryz.ntmps128
  go_wp2
  go_ret
  exact ⟨rfl, rfl⟩

theorem c24_none (neg : Bool) (m e mode : Int) (w : World) (h1 : (mode == 1) = false) (h2 : (mode == 2) = false) (h3 : (mode == 3) = false) :
    Calls Tryz.prog 128 #[.bool neg, .int .u64 m, .int .i64 e, .int .i64 mode] w fun r w' => r = .returned (.float .f64 9221120237041090561) ∧ w' = w := by
  go_enter Tryz.func128, Tryz.ntmps128
  go_wp2_with (first | (go_at_call 142; refine (c52 _).mono ?_; rintro e w' ⟨rfl, rfl⟩))
  go_ret
  exact ⟨rfl, rfl⟩

theorem c24 (neg : Bool) (m : Nat) (e mode : Int) (hm : m < 18446744073709551616) (w : World) :
    Calls Tryz.prog 128 #[.bool neg, .int .u64 m, .int .i64 e, .int .i64 mode] w fun r w' => r = .returned (.float .f64 (mk neg m e mode 9221120237041090561)) ∧ w' = w := by
  have hz : bits .or .u64 0 9223372036854775808 = 9223372036854775808 := by decide +kernel
  by_cases hmode : mode = 1 ∨ mode = 2 ∨ mode = 3
  · unfold mk
    rw [if_pos hmode]
    by_cases h0 : m = 0
    · subst h0
      rw [if_pos rfl]
      rcases hmode with rfl | rfl | rfl <;> cases neg
      · exact c24_1falsez e _ w hz
      · exact c24_1truez e _ w hz
      · exact c24_2falsez e _ w hz
      · exact c24_2truez e _ w hz
      · exact c24_3falsez e _ w hz
      · exact c24_3truez e _ w hz
    · rw [if_neg h0]
      have hb : ((m : Int) != 0) = true := by simp; omega
      have hor : ∀ way, bits .or .u64 (bod m e way) 9223372036854775808 = (((bod m e way).toNat + 9223372036854775808 : Nat) : Int) := by
        intro way
        have h1 := bod_bounds m e way hm h0
        have h2 := or_sign (bod m e way).toNat (by omega)
        rw [show (((bod m e way).toNat : Nat) : Int) = bod m e way by omega] at h2
        exact h2
      rcases hmode with rfl | rfl | rfl <;> cases neg
      · exact c24_1false m e _ _ w hb (fun w => c53 m e 0 hm h0 (by simp) w) (hor 0)
      · exact c24_1true m e _ _ w hb (fun w => c53 m e 2 hm h0 (by simp) w) (hor 2)
      · exact c24_2false m e _ _ w hb (fun w => c53 m e 1 hm h0 (by simp) w) (hor 1)
      · exact c24_2true m e _ _ w hb (fun w => c53 m e 1 hm h0 (by simp) w) (hor 1)
      · exact c24_3false m e _ _ w hb (fun w => c53 m e 2 hm h0 (by simp) w) (hor 2)
      · exact c24_3true m e _ _ w hb (fun w => c53 m e 0 hm h0 (by simp) w) (hor 0)
  · unfold mk
    rw [if_neg hmode]
    exact c24_none neg m e mode w (by simp; omega) (by simp; omega) (by simp; omega)

end Go.Proofs.YtbmaoiemgepppaaGreatDoor.Ie
