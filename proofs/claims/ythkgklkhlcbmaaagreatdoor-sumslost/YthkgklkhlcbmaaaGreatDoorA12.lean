/- Own work: contracts of the program's functions, part 12: UA4 UA5 UA6 UA7 UA8 UA9 UB1 UB2 UB3 SB1 SB2 SB3 SB4 SB5 SH5 SB6 SH6 SH7 SH8 SH9 SI1 FL2 SC1 RY6 SC2 RY7 SD1 SD2 SI2 SI3 SI4 UB4. -/
import Derived.Test.YthkgklkhlcbmaaaGreatDoorA11
import Derived.Test.YthkgklkhlcbmaaaGreatDoorA7
import Derived.Test.YthkgklkhlcbmaaaGreatDoorA4
import Derived.Test.YthkgklkhlcbmaaaGreatDoorA6
import Derived.Test.YthkgklkhlcbmaaaGreatDoorA2
import Derived.Test.YthkgklkhlcbmaaaGreatDoorA5

set_option maxHeartbeats 16000000
namespace Go.Proofs.YthkgklkhlcbmaaaGreatDoor
set_option linter.unusedVariables false
set_option linter.unusedSimpArgs false
open Go Go.RowKit Go.Fl64 Go.Shelf
attribute [local go_sem] Oper.semAt_some
def tSum (xs : Nat → Nat) : Nat → Bool × Nat × Int
  | 0 => (false, 0, 0)
  | k + 1 => tS (tSum xs k) (tF (xs k))
theorem whole0_pn (w : World) (hT : Tab32 w) : Calls Tryz.prog 83 #[.int .i64 0] w fun r w' => OutA w (false, 0, 0) r w' := by
  refine (c12_1 0 0 w hT (by omega) (by omega) (by decide)).mono ?_
  rintro r w' ⟨A, rfl, hN, hb⟩
  have hp := hN.pn
  obtain ⟨s, ao, n, cap, e, rfl⟩ := hp.shape
  exact ⟨s, ao, n, cap, e, rfl, hp, hb⟩
theorem cell_put {W : World} {l : Nat} {o o' : Obj} {p : Addr} {v : Value} (h : W.cell? p = some v) (hl : W.heap[l]? = some o) (ho : o.isCells = false) : (W.putObj l o').cell? p = some v := by
  unfold World.cell? at *
  by_cases e : p.block = l
  · rw [e, hl] at h
    cases o <;> simp_all [Obj.isCells]
  · rw [World.putObj_heap_other e]; exact h
theorem pn_put {W : World} {l : Nat} {o o' : Obj} {A : Value} {t : Bool × Nat × Int} (h : PN W A t) (hl : W.heap[l]? = some o) (ho : o.isCells = false) : PN (W.putObj l o') A t := by
  obtain ⟨ao, cap, h1, ao', cap', h2, h3, h4, b, off, h5, h6⟩ := h
  exact ⟨ao, cap, h1, ao', cap', h2, h3, h4, b, off, h5, fun i hi => cell_put (h6 i hi) hl ho⟩
theorem box_put {W : World} {l g : Nat} {o o' : Obj} {c : Array Value} {ty : TypeId} {z : Nat × Nat} (h : W.heap[g]? = some (.cells c ty z)) (hl : W.heap[l]? = some o) (ho : o.isCells = false) : (W.putObj l o').heap[g]? = some (.cells c ty z) := by
  have e : g ≠ l := by
    intro e
    rw [e, hl] at h
    cases h
    cases ho
  rw [World.putObj_heap_other e]; exact h
theorem pn_storeG {w : World} {A : Value} {t : Bool × Nat × Int} {g : Nat} {s : Bool} {ao : Option Addr} {n cap : Nat} {e : Int} (h : PN w A t) (hg : w.heap[g]? = some (.cells #[.bool s, .slice ao n cap, .int .i64 e] 59 (0, 0))) (a b c : Value) : PN (((w.setCell ⟨g, 0, none⟩ a).setCell ⟨g, 1, none⟩ b).setCell ⟨g, 2, none⟩ c) A t := by
  obtain ⟨oo, cc, h1, ao', cap', h2, h3, h4, h5⟩ := h
  exact ⟨oo, cc, h1, ao', cap', h2, h3, h4, at_boxP h5 hg (by simp) (by simp) (by simp) a b c⟩
def TotI (w : World) (B g3 : Nat) (xs : Nat → Nat) (k : Nat) (W : World) : Prop :=
  Below w.heap.size w W ∧ B ≤ W.heap.size ∧ W.heap[w.heap.size]? = some (.cells #[.bool false, .slice none 0 0, .int .i64 0] 59 (0, 0)) ∧ ∃ s ao n cap e, W.heap[g3]? = some (.cells #[.bool s, .slice ao n cap, .int .i64 e] 59 (0, 0)) ∧ PN W (.agg #[.bool s, .slice ao n cap, .int .i64 e]) (tSum xs k)
theorem TotI.later {w : World} {B g3 : Nat} {xs : Nat → Nat} {k : Nat} {A C : World} (h : TotI w B g3 xs k A) (hb : Below A.heap.size A C) : TotI w B g3 xs k C := by
  obtain ⟨h1, h2, h3, s, ao, n, cap, e, h4, h5⟩ := h
  exact ⟨h1.trans (hb.mono h1.size), Nat.le_trans h2 hb.size, box_later h3 hb (lt_of_box h3), s, ao, n, cap, e, box_later h4 hb (lt_of_box h4), h5.later hb⟩
theorem TotI.put {w : World} {B g3 : Nat} {xs : Nat → Nat} {k l : Nat} {A : World} {o o' : Obj} (h : TotI w B g3 xs k A) (hB : w.heap.size ≤ B) (hl : B ≤ l) (ho : A.heap[l]? = some o) (hc : o.isCells = false) : TotI w B g3 xs k (A.putObj l o') := by
  obtain ⟨h1, h2, h3, s, ao, n, cap, e, h4, h5⟩ := h
  have hb : Below w.heap.size A (A.putObj l o') := (Below.refl w.heap.size A).grown (grownBy_putObj' A l o') (by have := (Array.getElem?_eq_some_iff.1 ho).1; omega) (fun k e => by cases e; omega)
  exact ⟨h1.trans hb, Nat.le_trans h2 hb.size, box_put h3 ho hc, s, ao, n, cap, e, box_put h4 ho hc, pn_put h5 ho hc⟩
theorem KeepsFrom.below {B : Nat} {W W' : World} (h : Below W.heap.size W W') : KeepsFrom B W W' := ⟨h.size, fun k o _ hk _ => box_later hk h (Array.getElem?_eq_some_iff.1 hk).1⟩
set_option maxRecDepth 200000 in
theorem total_floats (Bs len cap : Nat) (ao : Option Addr) (xs : Nat → Nat) (w : World) (hreach : len * 8 ≤ 140737488351232)
    (hfin : ∀ i, i < len → xs i < 18446744073709551616 ∧ mag (xs i) < 9218868437227405312) (hadd : ∀ k, k < len → Op2 84 (tSum xs k) (tF (xs k)) (tSum xs (k + 1)))
    (hT : Tab32 w) (hI : Ie.Tab w) (hl : FAt w ao len xs) (hBs : w.cell? ⟨Bs, 0, none⟩ = some (.slice ao len cap)) :
    Calls Tryz.prog 44 #[.func (.func 85) #[] #[.pointer (some ⟨Bs, 0, none⟩)]] w fun r w' => OutA w (tSum xs len) r w' := by
  obtain ⟨W, hW⟩ : ∃ W, W = w.alloc (.cells #[.bool false, .slice none 0 0, .int .i64 0] 59) := ⟨_, rfl⟩
  have HX : Hid (Below w.heap.size w W ∧ W.heap[w.heap.size]? = some (.cells #[.bool false, .slice none 0 0, .int .i64 0] 59 (0, 0))) := ⟨by rw [hW]; exact (Below.refl _ _).alloc (Nat.le_refl _) _, by rw [hW]; exact heap_alloc_new _ _⟩
  have k1 := whole0_pn W (hT.later HX.out.1)
  refine (callsIn_wide (n := 3)).1 ?_
  refine callsIn_of_wp_marks Tryz.func44 rfl trivial ?_ rfl
  simp only [Tryz.ntmps44, List.size_toArray, List.length_cons, List.length_nil, Nat.reduceAdd, Nat.reduceSub, Array.replicate_succ, Array.replicate_zero, List.push_toArray, List.append_toArray, List.nil_append, List.cons_append]
  gi_wp2
  rw [← hW]
  refine ⟨trivial, ?_⟩
  refine (callsIn_wide.2 k1).mono ?_
  rintro r w1 ⟨s1, ao1, n1, cap1, ex1, rfl, hP1, hb1⟩
  obtain ⟨V, hV⟩ : ∃ V, V = w1.alloc (.cells #[.bool s1, .slice ao1 n1 cap1, .int .i64 ex1] 59) := ⟨_, rfl⟩
  have hbV : Below W.heap.size W V := by rw [hV]; exact hb1.alloc hb1.size _
  have hg3 : w.heap.size < w1.heap.size := Nat.lt_of_lt_of_le (lt_of_box HX.out.2) hb1.size
  have hsz : V.heap.size = w1.heap.size + 1 := by rw [hV]; simp
  have HI : Hid (TotI w V.heap.size w1.heap.size xs 0 V) := ⟨HX.out.1.trans (hbV.mono HX.out.1.size), Nat.le_refl _, box_later HX.out.2 hbV (lt_of_box HX.out.2), s1, ao1, n1, cap1, ex1, by rw [hV]; exact heap_alloc_new _ _, by rw [hV]; exact hP1.later ((Below.refl _ _).alloc (Nat.le_refl _) _)⟩
  have hwV : w.heap.size ≤ V.heap.size := HI.out.1.size
  clear k1 hP1 hb1 hbV HX hW
  gi_wp2
  rw [← hV]
  clear hV
  generalize w1.heap.size = g3 at *
  have hblt : Bs < w.heap.size := World.block_lt_of_cell? _ _ hBs
  refine range_pre rfl (by omega) (gf := 85) (lb := #[.pointer (some ⟨Bs, 0, none⟩)]) rfl trivial (enters_of Tryz.func85 (by kernel_rfl) rfl) rfl (N := len) (n₀ := w.heap.size) hwV
    (Pre := fun k v W' => PN W' v (tF (xs k))) ?seq (TotI w V.heap.size g3 xs) (fun k A B h hb => h.later hb) (fun k A l o o' h hl ho hc => h.put hwV hl ho hc) HI.out
    (fun k a' W' => ∃ g4 s ao n cap e, V.heap.size ≤ g4 ∧ a' = { tmps := #[.func (.func 85) #[] #[.pointer (some ⟨Bs, 0, none⟩)], undef, .pointer (some ⟨w.heap.size, 0, none⟩), .pointer (some ⟨g3, 0, none⟩), .pointer (some ⟨g4, 0, none⟩), .agg #[.bool s1, .slice ao1 n1 cap1, .int .i64 ex1], .func (.func 85) #[] #[.pointer (some ⟨Bs, 0, none⟩)], .agg #[.bool s, .slice ao n cap, .int .i64 e], undef, undef, undef, undef, undef, undef, undef], defers := [] } ∧ W'.heap[g4]? = some (.cells #[.bool s, .slice ao n cap, .int .i64 e] 59 (0, 0)) ∧ PN W' (.agg #[.bool s, .slice ao n cap, .int .i64 e]) (tF (xs k)))
    ?put ?assign ?body ?done
  case seq =>
    intro l J W' hbW hJb hY h0
    exact floats1_in 2 l Bs len cap ao xs w W' J hreach hfin hT hI hl hJb hY (HI.out.1.trans hbW) (((HI.out.1.trans hbW).cell (p := ⟨Bs, 0, none⟩) hblt).trans hBs) h0
  case put =>
    rintro k a' A l o o' ⟨g4, s, ao, n, cap, e, h1, h2, h3, h4⟩ hl ho hc
    exact ⟨g4, s, ao, n, cap, e, h1, h2, box_put h3 ho hc, pn_put h4 ho hc⟩
  case assign =>
    intro l k v W' K hi hk hpre hK
    obtain ⟨s, ao, n, cap, e, rfl⟩ := hpre.shape
    have hB : V.heap.size ≤ W'.heap.size := hi.2.1
    have hq := hK { tmps := #[.func (.func 85) #[] #[.pointer (some ⟨Bs, 0, none⟩)], undef, .pointer (some ⟨w.heap.size, 0, none⟩), .pointer (some ⟨g3, 0, none⟩), .pointer (some ⟨W'.heap.size, 0, none⟩), .agg #[.bool s1, .slice ao1 n1 cap1, .int .i64 ex1], .func (.func 85) #[] #[.pointer (some ⟨Bs, 0, none⟩)], .agg #[.bool s, .slice ao n cap, .int .i64 e], undef, undef, undef, undef, undef, undef, undef], defers := [] } (W'.alloc (.cells #[.bool s, .slice ao n cap, .int .i64 e] 59)) ((Below.refl _ _).alloc (Nat.le_refl _) _)
      ⟨W'.heap.size, s, ao, n, cap, e, hB, rfl, heap_alloc_new _ _, hpre.later ((Below.refl _ _).alloc (Nat.le_refl _) _)⟩
    clear hK hi hpre
    gi_wp2
    exact hq
  case body =>
    rintro l k a' W' hi hk ⟨g4, s, ao, n, cap, e, hg4, rfl, hb4, hp4⟩
    obtain ⟨i1, i2, i3, s2, ao2, n2, cap2, ex2, i4, i5⟩ := hi
    obtain ⟨⟨a0, a1, a2⟩, -⟩ := box_cells i4
    obtain ⟨⟨b0, b1, b2⟩, -⟩ := box_cells hb4
    have ka := hadd k hk W' _ _ (hT.later i1) i5 hp4
    gi_wp2
    refine ⟨trivial, ?_⟩
    refine (CallsIn.inRound l (callsIn_wide.2 ka)).mono ?_
    rintro r w6 ⟨s6, ao6, n6, cap6, ex6, rfl, hP6, hb6⟩
    have z3 := box_later i4 hb6 (lt_of_box i4)
    obtain ⟨⟨y0, y1, y2⟩, y3, y4, y5⟩ := box_cells z3
    have hbx : Below (w.heap.size + 1) W' (((w6.setCell ⟨g3, 0, none⟩ (.bool s6)).setCell ⟨g3, 1, none⟩ (.slice ao6 n6 cap6)).setCell ⟨g3, 2, none⟩ (.int .i64 ex6)) := below_store3 (hb6.mono (by omega)) (by omega) _ _ _
    have HF : Hid (KeepsFrom V.heap.size W' (((w6.setCell ⟨g3, 0, none⟩ (.bool s6)).setCell ⟨g3, 1, none⟩ (.slice ao6 n6 cap6)).setCell ⟨g3, 2, none⟩ (.int .i64 ex6)) ∧ Below w.heap.size W' (((w6.setCell ⟨g3, 0, none⟩ (.bool s6)).setCell ⟨g3, 1, none⟩ (.slice ao6 n6 cap6)).setCell ⟨g3, 2, none⟩ (.int .i64 ex6)) ∧ TotI w V.heap.size g3 xs (k + 1) (((w6.setCell ⟨g3, 0, none⟩ (.bool s6)).setCell ⟨g3, 1, none⟩ (.slice ao6 n6 cap6)).setCell ⟨g3, 2, none⟩ (.int .i64 ex6))) :=
      ⟨(KeepsFrom.below hb6).trans ((((KeepsOthers.setCell _ _ _).trans (KeepsOthers.setCell _ _ _)).trans (KeepsOthers.setCell _ _ _)).from _), hbx.mono (by omega), i1.trans (hbx.mono (by omega)), Nat.le_trans i2 hbx.size, box_later i3 hbx (by omega), s6, ao6, n6, cap6, ex6, store3 _ _ _ z3, pn_storeG hP6 z3 _ _ _⟩
    clear ka a0 a1 a2 b0 b1 b2 hP6 hb6 z3 hbx i1 i2 i3 i4 i5 hb4 hp4 HI hfin hadd hT hI hl hBs hsz
    gi_wp2
    exact HF.out
  case done =>
    intro D W' hD hi hK
    obtain ⟨i1, i2, i3, s2, ao2, n2, cap2, ex2, i4, i5⟩ := hi
    obtain ⟨⟨a0, a1, a2⟩, -⟩ := box_cells i4
    obtain ⟨⟨b0, b1, b2⟩, b3, b4, b5⟩ := box_cells i3
    have hK' := ((((KeepsOthers.setCell W' ⟨w.heap.size, 0, none⟩ (.bool s2)).trans (KeepsOthers.setCell _ ⟨w.heap.size, 1, none⟩ (.slice ao2 n2 cap2))).trans (KeepsOthers.setCell _ ⟨w.heap.size, 2, none⟩ (.int .i64 ex2))).same D _ hK rfl)
    clear hsz
    gi_wp2
    refine ⟨by simp, .inl ⟨_, _, rfl, run_takeDeferred hK', ?_⟩⟩
    have hbx : (((W'.setCell ⟨w.heap.size, 0, none⟩ (.bool s2)).setCell ⟨w.heap.size, 1, none⟩ (.slice ao2 n2 cap2)).setCell ⟨w.heap.size, 2, none⟩ (.int .i64 ex2)).heap[w.heap.size]? = some (.cells #[.bool s2, .slice ao2 n2 cap2, .int .i64 ex2] 59 (0, 0)) := store3 _ _ _ i3
    have hbl : Below w.heap.size w (((W'.setCell ⟨w.heap.size, 0, none⟩ (.bool s2)).setCell ⟨w.heap.size, 1, none⟩ (.slice ao2 n2 cap2)).setCell ⟨w.heap.size, 2, none⟩ (.int .i64 ex2)) := below_store3 i1 (Nat.le_refl _) _ _ _
    refine ⟨_, results_cell_row rfl _ _ w.heap.size 59 #[.bool s2, .slice ao2 n2 cap2, .int .i64 ex2] (0, 0) _ rfl (box_put hbx hK' rfl) Tryz.underlying59 rfl Tryz.info59, ?_⟩
    exact ⟨_, _, _, _, _, rfl, pn_put (pn_storeG i5 i3 _ _ _) hK' rfl, hbl.trans ((Below.refl w.heap.size _).grown (grownBy_putObj' _ D _) (by have := (Array.getElem?_eq_some_iff.1 hK').1; omega) (fun k e => by cases e; omega))⟩
end Go.Proofs.YthkgklkhlcbmaaaGreatDoor
namespace Go.Proofs.YthkgklkhlcbmaaaGreatDoor
set_option linter.unusedVariables false
set_option linter.unusedSimpArgs false
open Go.RowKit Go.Fl64
def UxP (w3 wc : World) (g : Nat) (s : Bool) (ao : Option Addr) (n cap : Nat) (ex : Int) (t : Bool × Nat × Int) : Prop := wc.heap[g]? = some (.cells #[.bool s, .slice ao n cap, .int .i64 ex] 59 (0, 0)) ∧ w3.heap.size ≤ g ∧ Below w3.heap.size w3 wc ∧ PN wc (.agg #[.bool s, .slice ao n cap, .int .i64 ex]) t
theorem UxP.new {w3 w7 : World} {s : Bool} {ao : Option Addr} {n cap : Nat} {ex : Int} {t : Bool × Nat × Int} (hn : PN w7 (.agg #[.bool s, .slice ao n cap, .int .i64 ex]) t) (hb : Below w3.heap.size w3 w7) : UxP w3 (w7.alloc (.cells #[.bool s, .slice ao n cap, .int .i64 ex] 59)) w7.heap.size s ao n cap ex t :=
  ⟨heap_alloc_new _ _, hb.size, hb.alloc hb.size _, hn.later ((Below.refl _ _).alloc (Nat.le_refl _) _)⟩
theorem UxP.put {w3 w7 : World} {g : Nat} {s : Bool} {ao : Option Addr} {n cap : Nat} {ex : Int} {t : Bool × Nat × Int} (hn : PN w7 (.agg #[.bool s, .slice ao n cap, .int .i64 ex]) t) (hb : Below w3.heap.size w3 w7) (hg : w3.heap.size ≤ g) (hbx : w7.heap[g]? = some (.cells #[.bool false, .slice none 0 0, .int .i64 0] 59 (0, 0))) :
    UxP w3 (((w7.setCell ⟨g, 0, none⟩ (.bool s)).setCell ⟨g, 1, none⟩ (.slice ao n cap)).setCell ⟨g, 2, none⟩ (.int .i64 ex)) g s ao n cap ex t :=
  ⟨store3 _ _ _ hbx, hg, below_store3 hb hg _ _ _, pn_store hn hbx _ _ _⟩
set_option maxRecDepth 200000 in
theorem utaken_1 (s1 : Bool) (ao1 : Option Addr) (n1 cap1 : Nat) (ex1 : Int) (f : Nat) (ta tb t : Bool × Nat × Int) (w : World) (hA : PN w (.agg #[.bool s1, .slice ao1 n1 cap1, .int .i64 ex1]) ta)
    (kE : ∀ W, Below w.heap.size w W → Calls Tryz.prog 82 #[.float .f64 f] W fun r w' => OutA W tb r w')
    (kS : ∀ W X Y, Below w.heap.size w W → PN W X ta → PN W Y tb → Calls Tryz.prog 81 #[X, Y] W fun r w' => ∃ s ao n cap e, r = .returned (.tuple #[.agg #[.bool s, .slice ao n cap, .int .i64 e], .int .i64 0]) ∧ PN w' (.agg #[.bool s, .slice ao n cap, .int .i64 e]) t ∧ Below W.heap.size W w') :
    Calls Tryz.prog 43 #[.agg #[.bool s1, .slice ao1 n1 cap1, .int .i64 ex1], .float .f64 f] w fun r w' => OutA w t r w' := by
  obtain ⟨W, hW⟩ : ∃ W, W = (w.alloc (.cells #[.bool s1, .slice ao1 n1 cap1, .int .i64 ex1] 59)).alloc (.cells #[.bool false, .slice none 0 0, .int .i64 0] 59) := ⟨_, rfl⟩
  have hgA : W.heap[w.heap.size]? = some (.cells #[.bool s1, .slice ao1 n1 cap1, .int .i64 ex1] 59 (0, 0)) := by rw [hW]; exact (Below.heap_alloc _ _ _ (by simp)).trans (heap_alloc_new _ _)
  have hgZ : W.heap[w.heap.size + 1]? = some (.cells #[.bool false, .slice none 0 0, .int .i64 0] 59 (0, 0)) := by
    rw [hW]; have := heap_alloc_new (w.alloc (.cells #[.bool s1, .slice ao1 n1 cap1, .int .i64 ex1] 59)) (.cells #[.bool false, .slice none 0 0, .int .i64 0] 59); rwa [World.size_alloc] at this
  have hBW : Below w.heap.size w W := by rw [hW]; exact (((Below.refl _ w).alloc (Nat.le_refl _) _).alloc (by simp) _)
  have HX : Hid (Below w.heap.size w W ∧ W.heap[w.heap.size]? = some (.cells #[.bool s1, .slice ao1 n1 cap1, .int .i64 ex1] 59 (0, 0)) ∧ W.heap[w.heap.size + 1]? = some (.cells #[.bool false, .slice none 0 0, .int .i64 0] 59 (0, 0)) ∧ PN W (.agg #[.bool s1, .slice ao1 n1 cap1, .int .i64 ex1]) ta) := ⟨hBW, hgA, hgZ, hA.later hBW⟩
  have HK : Hid (∀ w', Below W.heap.size W w' → ((w'.cell? ⟨w.heap.size, 0, none⟩ = some (.bool s1) ∧ w'.cell? ⟨w.heap.size, 1, none⟩ = some (.slice ao1 n1 cap1) ∧ w'.cell? ⟨w.heap.size, 2, none⟩ = some (.int .i64 ex1))) ∧ Below W.heap.size W w') := fun w' hb => ⟨(box_cells (box_later HX.out.2.1 hb (lt_of_box HX.out.2.1))).1, hb⟩
  have hBR : Below W.heap.size W W.drew := (Below.refl _ _).drew
  have km : ∀ w4, Below W.heap.size W w4 → Calls Tryz.prog 82 #[.float .f64 f] w4 fun r w' => ∃ s ao n cap e, r = .returned (.agg #[.bool s, .slice ao n cap, .int .i64 e]) ∧ PN w' (.agg #[.bool s, .slice ao n cap, .int .i64 e]) tb ∧ Below W.heap.size W w' ∧ Hid (∀ g o, w4.heap[g]? = some o → w'.heap[g]? = some o) := fun w4 hb =>
    (kE w4 (HX.out.1.trans (hb.mono HX.out.1.size))).mono fun r w' ⟨s, ao, n, cap, e, e1, o1, o2⟩ => ⟨s, ao, n, cap, e, e1, o1, hb.trans (o2.mono hb.size), fun g o hg => box_later hg o2 (lt_of_box hg)⟩
  have kt : ∀ w4 Y, Below W.heap.size W w4 → PN w4 Y tb → Calls Tryz.prog 81 #[.agg #[.bool s1, .slice ao1 n1 cap1, .int .i64 ex1], Y] w4 fun r w' => ∃ s ao n cap e, r = .returned (.tuple #[.agg #[.bool s, .slice ao n cap, .int .i64 e], .int .i64 0]) ∧ PN w' (.agg #[.bool s, .slice ao n cap, .int .i64 e]) t ∧ Below W.heap.size W w' ∧ Hid (∀ g o, w4.heap[g]? = some o → w'.heap[g]? = some o) := fun w4 Y hb h2 =>
    (kS w4 _ _ (HX.out.1.trans (hb.mono HX.out.1.size)) (HX.out.2.2.2.later hb) h2).mono fun r w' ⟨s, ao, n, cap, e, e1, o1, o2⟩ => ⟨s, ao, n, cap, e, e1, o1, hb.trans (o2.mono hb.size), fun g o hg => box_later hg o2 (lt_of_box hg)⟩
  obtain ⟨⟨a0, a1, a2⟩, -⟩ := HK.out W (Below.refl _ _)
  clear kE kS hgA hgZ hBW hA
  go_enter Tryz.func43, Tryz.ntmps43
  go_upto_region 1 with fail
  rw [← hW]
  clear hW
  go_cut [5] from 6 to 13 (fun p wx => ∃ g s ao n cap ex, p = .pointer (some ⟨g, 0, none⟩) ∧ Hid (UxP W wx g s ao n cap ex t))
  case first =>
    go_region_held3 (fun w' => ((w'.cell? ⟨w.heap.size, 0, none⟩ = some (.bool s1) ∧ w'.cell? ⟨w.heap.size, 1, none⟩ = some (.slice ao1 n1 cap1) ∧ w'.cell? ⟨w.heap.size, 2, none⟩ = some (.int .i64 ex1))) ∧ Below W.heap.size W w') (first | (with_reducible assumption) | exact ⟨⟨a0, a1, a2⟩, hBR⟩ | (refine HK.out _ ?_; with_reducible assumption) | (refine HK.out _ ?_; refine Below.alloc (by with_reducible assumption) (Below.size (by with_reducible assumption)) _) | (refine HK.out _ (below_store3 (by first | (with_reducible assumption) | exact hb7.alloc hb7.size _) (by first | exact Nat.le_refl _ | exact hb5.size | exact hb7.size) _ _ _)) | go_keep)
      (first | (go_at_call 82; refine (km _ (by first | (with_reducible assumption) | exact hBR.alloc hBR.size _)).mono ?_; rintro r w5 ⟨s5, ao5, n5, cap5, ex5, rfl, ho5, hb5, hk5⟩; first | (have HBY : Hid (w5.heap[W.heap.size]? = some (.cells #[.bool false, .slice none 0 0, .int .i64 0] 59 (0, 0))) := hk5.out _ _ (heap_alloc_new W.drew _)) | (have HBY : Hid True := trivial))
             | (go_at_call 81; refine (kt _ _ (by first | (with_reducible assumption) | exact hb5.alloc hb5.size _) (by first | (with_reducible assumption) | exact ho5.later ((Below.refl _ _).alloc (Nat.le_refl _) _))).mono ?_; rintro r w7 ⟨s7, ao7, n7, cap7, ex7, rfl, hn7, hb7, hk7⟩; first | (have HBZ := hidOf (hk7.out _ _ HBY.out); obtain ⟨⟨x1, x2, x3⟩, x4, x5, x6⟩ := box_cells HBZ.out) | (have HBZ : Hid (w7.heap[w5.heap.size]? = some (.cells #[.bool false, .slice none 0 0, .int .i64 0] 59 (0, 0))) := hk7.out _ _ (heap_alloc_new w5 _); obtain ⟨⟨x1, x2, x3⟩, x4, x5, x6⟩ := box_cells HBZ.out) | (have HBZ : Hid True := trivial)))
    all_goals go_wp2_with fail
    all_goals go_meet
    all_goals first
      | exact ⟨_, _, _, _, _, _, rfl, UxP.new hn7 hb7⟩
      | exact ⟨_, _, _, _, _, _, rfl, UxP.put hn7 hb7 hb5.size HBZ.out⟩
      | exact ⟨_, _, _, _, _, _, rfl, UxP.put hn7 hb7 (Nat.le_refl _) HBZ.out⟩
  case rest =>
    obtain ⟨W2, rfl⟩ : ∃ W2 : World, W2 = wc := ⟨_, rfl⟩
    obtain ⟨g4, s4, ao4, n4, cap4, ex4, rfl, HR⟩ := hcut
    clear km kt HK hBR a0 a1 a2
    have HS : Hid (Below w.heap.size w W2 ∧ W2.heap[w.heap.size + 1]? = some (.cells #[.bool false, .slice none 0 0, .int .i64 0] 59 (0, 0)) ∧ W2.heap[g4]? = some (.cells #[.bool s4, .slice ao4 n4 cap4, .int .i64 ex4] 59 (0, 0)) ∧ PN W2 (.agg #[.bool s4, .slice ao4 n4 cap4, .int .i64 ex4]) t) :=
      ⟨HX.out.1.trans (HR.out.2.2.1.mono HX.out.1.size), box_later HX.out.2.2.1 HR.out.2.2.1 (lt_of_box HX.out.2.2.1), HR.out.1, HR.out.2.2.2⟩
    clear HX HR
    obtain ⟨⟨d0, d1, d2⟩, -⟩ := box_cells HS.out.2.2.1
    obtain ⟨⟨z0, z1, z2⟩, z3, z4, z5⟩ := box_cells HS.out.2.1
    go_wp2_with fail
    refine bodyPost_ret (results_cell_row rfl _ _ (w.heap.size + 1) 59 #[.bool s4, .slice ao4 n4 cap4, .int .i64 ex4] (0, 0) _ rfl (store3 _ _ _ HS.out.2.1) Tryz.underlying59 rfl Tryz.info59) rfl ?_
    exact ⟨_, _, _, _, _, rfl, pn_store HS.out.2.2.2 HS.out.2.1 _ _ _, below_store3 HS.out.1 (by omega) _ _ _⟩
theorem utaken {ta : Bool × Nat × Int} {A : Value} {f : Nat} {w : World} (hT : Tab32 w) (hI : Ie.Tab w) (hf : f < 18446744073709551616) (hm : mag f < 9218868437227405312) (h : PN w A ta) {t : Bool × Nat × Int} (ho : Op2 81 ta (tF f) t) :
    Calls Tryz.prog 43 #[A, .float .f64 f] w fun r w' => OutA w t r w' := by
  obtain ⟨s, ao, n, cap, e, rfl⟩ := h.shape
  exact utaken_1 s ao n cap e f ta (tF f) _ w h (fun W hb => uexact_ok f hf hm W (hT.later hb) (Tab.later hI hb)) (fun W X Y hb h1 h2 => ho W X Y (hT.later hb) h1 h2)
theorem ufin_y (a : Nat) (ha : a < 18446744073709551616) (hf : mag a < 9218868437227405312) (w : World) : Calls Tryz.prog 41 #[.float .f64 a] w fun r w' => r = .returned (.bool true) ∧ w' = w := by
  have hs : ∀ w, (binOp .sub 25 (.float .f64 a) (.float .f64 a)).run Tryz.prog w = .ok (.float .f64 0) w := fun w => run_float_arith w .sub 25 .f64 a a _ (sub_fin ha hf)
  have he := eq_nought0
  go_enter Tryz.func41, Tryz.ntmps41
  go_wp2
  go_ret
  exact ⟨rfl, rfl⟩
theorem ufin_n (a : Nat) (ha : a < 18446744073709551616) (hf : ¬ mag a < 9218868437227405312) (w : World) : Calls Tryz.prog 41 #[.float .f64 a] w fun r w' => r = .returned (.bool false) ∧ w' = w.drew := by
  obtain ⟨n, n1, n2, hs⟩ := run_nan (P := Tryz.prog) w .sub 25 a a (by simp) (sub_non ha (by omega))
  have he := ord_eq n 0 n1 (by decide)
  have hq : eq n 0 = false := by unfold Fl64.eq; rw [n2]; rfl
  rw [hq] at he
  go_enter Tryz.func41, Tryz.ntmps41
  go_wp2
  go_ret
  exact ⟨rfl, rfl⟩
theorem lk_non {n X : Nat} (h : lk n X) (hX : X < 18446744073709551616) (hf : ¬ mag X < 9218868437227405312) : ¬ mag n < 9218868437227405312 := by
  cases hn : isNaN X
  · rw [h.eq hn]; exact hf
  · intro hlt
    have h2 : isNaN n = false := by unfold isNaN; simp; omega
    have := h.2
    unfold same at this
    rw [hn, h2] at this
    have e : n = X := by simp at this; omega
    rw [e, hn] at h2
    cases h2
theorem unear_1 (a b X : Nat) (w : World) (k : ∀ W, Below w.heap.size w W → Calls Tryz.prog 76 #[.float .f64 a, .float .f64 b, .int .i64 2] W fun r w' => OutF2 W X r w') :
    Calls Tryz.prog 37 #[.float .f64 a, .float .f64 b] w fun r w' => OutF2 w X r w' := by
  have k1 := k w (Below.refl _ _)
  clear k
  go_enter Tryz.func37, Tryz.ntmps37
  go_wp2_with fail
  refine k1.mono ?_
  rintro r w1 ⟨n, rfl, hl, hb⟩
  have HB : Hid (lk n X ∧ Below w.heap.size w w1) := ⟨hl, hb⟩
  clear k1 hl hb
  go_wp2_with fail
  go_ret
  exact ⟨n, rfl, HB.out⟩
theorem ufloats (ao : Option Addr) (len cap : Nat) (w : World) : Calls Tryz.prog 45 #[.slice ao len cap] w fun r w' => r = .returned (.func (.func 85) #[] #[.pointer (some ⟨w.heap.size, 0, none⟩)]) ∧ w' = w.alloc (.cells #[.slice ao len cap] 22) := by
  go_enter Tryz.func45, Tryz.ntmps45
  go_wp2
  go_ret
  exact ⟨rfl, rfl⟩
set_option maxRecDepth 200000 in
theorem utwo_n (a b X : Nat) (w : World) (hX : X < 18446744073709551616) (hf : ¬ mag X < 9218868437227405312)
    (kN : Calls Tryz.prog 37 #[.float .f64 a, .float .f64 b] w fun r w' => OutF2 w X r w') :
    Calls Tryz.prog 19 #[.float .f64 a, .float .f64 b] w fun r w' => ∃ n, r = .returned (.tuple #[.float .f64 n, .float .f64 0]) ∧ lk n X ∧ Below w.heap.size w w' := by
  go_enter Tryz.func19, Tryz.ntmps19
  go_wp2_with fail
  refine kN.mono ?_
  rintro r w1 ⟨n, rfl, hl, hb⟩
  have hn : ¬ mag n < 9218868437227405312 := lk_non hl hX hf
  have HB : Hid (lk n X ∧ Below w.heap.size w w1) := ⟨hl, hb⟩
  have kf := ufin_n n hl.1 hn w1
  clear kN hl hb hX hf hn
  go_wp2_with fail
  refine kf.mono ?_
  rintro r w' ⟨rfl, hw⟩
  rw [hw]
  clear hw kf w'
  go_wp2_with fail
  refine bodyPost_ret (results_tmp2 rfl _ _ _) rfl ?_
  exact ⟨n, rfl, HB.out.1, HB.out.2.drew⟩
set_option maxRecDepth 200000 in
theorem utwo_y (a b X C : Nat) (ts td : Bool × Nat × Int) (w : World) (hX : X < 18446744073709551616) (hf : mag X < 9218868437227405312)
    (kN : Calls Tryz.prog 37 #[.float .f64 a, .float .f64 b] w fun r w' => OutF2 w X r w')
    (kT : ∀ W Bs g, Below w.heap.size w W → W.cell? ⟨Bs, 0, none⟩ = some (.slice (some ⟨g, 0, none⟩) 2 2) → W.cell? ⟨g, 0, none⟩ = some (.float .f64 a) → W.cell? ⟨g, 1, none⟩ = some (.float .f64 b) → Calls Tryz.prog 44 #[.func (.func 85) #[] #[.pointer (some ⟨Bs, 0, none⟩)]] W fun r w' => OutA W ts r w')
    (kD : ∀ W A, Below w.heap.size w W → PN W A ts → Calls Tryz.prog 43 #[A, .float .f64 X] W fun r w' => OutA W td r w')
    (kR : ∀ W A, Below w.heap.size w W → PN W A td → Calls Tryz.prog 42 #[A, .int .i64 2] W fun r w' => r = .returned (.float .f64 C) ∧ Below W.heap.size W w') :
    Calls Tryz.prog 19 #[.float .f64 a, .float .f64 b] w fun r w' => r = .returned (.tuple #[.float .f64 X, .float .f64 C]) ∧ Below w.heap.size w w' := by
  have HT : Hid _ := kT
  have HD : Hid _ := kD
  have HR : Hid _ := kR
  clear kT kD kR
  go_enter Tryz.func19, Tryz.ntmps19
  go_wp2_with fail
  refine kN.mono ?_
  rintro r w1 ⟨n, rfl, hl, hb⟩
  obtain rfl : n = X := hl.eq (by unfold isNaN; simp; omega)
  have HB : Hid (Below w.heap.size w w1) := hb
  have kf := ufin_y n hX hf w1
  clear kN hl hb hX hf
  go_wp2_with fail
  refine kf.mono ?_
  rintro r w' ⟨rfl, hw⟩
  rw [hw]
  clear hw kf w'
  obtain ⟨V, hV⟩ : ∃ V, V = w1.alloc (.cells #[.float .f64 a, .float .f64 b] 25) := ⟨_, rfl⟩
  have kf := ufloats (some ⟨w1.heap.size, 0, none⟩) 2 2 V
  go_wp2_with fail
  rw [← hV]
  refine kf.mono ?_
  rintro r w2 ⟨rfl, hw⟩
  have hbV : Below w.heap.size w V := by rw [hV]; exact HB.out.alloc HB.out.size _
  have hb2 : Below V.heap.size V w2 := by rw [hw]; exact (Below.refl _ _).alloc (Nat.le_refl _) _
  have hbU : Below w.heap.size w w2 := hbV.trans (hb2.mono hbV.size)
  have hh : V.heap[w1.heap.size]? = some (.cells #[.float .f64 a, .float .f64 b] 25 (0, 0)) := by rw [hV]; exact heap_alloc_new _ _
  have hh2 := box_later hh hb2 (lt_of_box hh)
  have c1 : w2.cell? ⟨V.heap.size, 0, none⟩ = some (.slice (some ⟨w1.heap.size, 0, none⟩) 2 2) := by unfold World.cell?; rw [hw, heap_alloc_new]; rfl
  have c2 : w2.cell? ⟨w1.heap.size, 0, none⟩ = some (.float .f64 a) := by unfold World.cell?; rw [hh2]; rfl
  have c3 : w2.cell? ⟨w1.heap.size, 1, none⟩ = some (.float .f64 b) := by unfold World.cell?; rw [hh2]; rfl
  have kk := HT.out w2 V.heap.size w1.heap.size hbU c1 c2 c3
  have HU : Hid (Below w.heap.size w w2) := hbU
  clear kf hw hV hbV hb2 hbU hh hh2 c1 c2 c3 HB HT
  generalize V.heap.size = g5 at *
  go_wp2_with fail
  refine kk.mono ?_
  rintro r w3 ⟨s3, ao3, n3, cap3, ex3, rfl, hP3, hb3⟩
  have HV : Hid (Below w.heap.size w w3) := HU.out.trans (hb3.mono HU.out.size)
  have kk2 := HD.out w3 _ HV.out hP3
  clear kk hP3 hb3 HU HD
  go_wp2_with fail
  refine kk2.mono ?_
  rintro r w4 ⟨s4, ao4, n4, cap4, ex4, rfl, hP4, hb4⟩
  have HW : Hid (Below w.heap.size w w4) := HV.out.trans (hb4.mono HV.out.size)
  have kk3 := HR.out w4 _ HW.out hP4
  clear kk2 hP4 hb4 HV HR
  go_wp2_with fail
  refine kk3.mono ?_
  rintro r w5 ⟨rfl, hb5⟩
  have HF : Hid (Below w.heap.size w w5) := HW.out.trans (hb5.mono HW.out.size)
  clear kk3 hb5 HW
  go_wp2_with fail
  refine bodyPost_ret (results_tmp2 rfl _ _ _) rfl ?_
  exact ⟨rfl, HF.out⟩
def fAdd (a b : Nat) : Nat := if fin a = false ∨ fin b = false then addX a b else if (tS (tF a) (tF b)).2.1 = 0 then sig (z0 (neg a) (neg b) 2) 0 else tfF (tS (tF a) (tF b)).1 true (tS (tF a) (tF b)).2.1 (tS (tF a) (tF b)).2.2 2
theorem fadd_p (a b : Nat) (ha : a < 18446744073709551616) (hb : b < 18446744073709551616) :
    fAdd a b < 18446744073709551616 ∧ ((isNaN a = true ∨ isNaN b = true) → fAdd a b = 9221120237041090560) ∧
      (∀ W, Tab32 W → Ie.Tab W → Calls Tryz.prog 76 #[.float .f64 a, .float .f64 b, .int .i64 2] W fun r w' => OutF2 W (fAdd a b) r w') := by
  have hm : isM 2 = true := by decide
  have hm' : (1 : Int) ≤ 2 ∧ (2 : Int) ≤ 3 := by omega
  by_cases hf : fin a = false ∨ fin b = false
  · have e : fAdd a b = addX a b := if_pos hf
    rw [e]
    refine ⟨addX_lt ha hb, fun h => ?_, fun W _ _ => ?_⟩
    · unfold addX
      rcases h with h | h
      · rw [h, Bool.true_or, if_pos rfl]
      · rw [h, Bool.or_true, if_pos rfl]
    · have hrun : (∀ W, (binOp .add 25 (.float .f64 a) (.float .f64 b)).run Tryz.prog W = .ok (.float .f64 (addX a b)) W) ∨ ∀ W, ∃ n, lk n (addX a b) ∧ (binOp .add 25 (.float .f64 a) (.float .f64 b)).run Tryz.prog W = .ok (.float .f64 n) W.drew := by
        rcases add_non ha hb hf with ⟨h1, h2⟩ | h1
        · refine .inr fun W => ?_
          obtain ⟨n, n1, n2, hs⟩ := run_nan (P := Tryz.prog) W .add 25 a b (by simp) h1
          exact ⟨n, lk.nan n1 n2 h2, hs⟩
        · exact .inl fun W => run_float_arith W .add 25 .f64 a b _ h1
      by_cases hfa : mag a < 9218868437227405312
      · have hfb : ¬ mag b < 9218868437227405312 := by
          rcases hf with h | h
          · exact absurd hfa (fin_false.1 h)
          · exact fin_false.1 h
        exact padd_b a b (addX a b) 2 W hm (pfin_y a ha hfa) (pfin_n b hb hfb) hrun (addX_lt ha hb)
      · exact padd_a a b (addX a b) 2 W hm (pfin_n a ha hfa) hrun (addX_lt ha hb)
  · have hfa : mag a < 9218868437227405312 := Nat.lt_of_not_le fun h => hf (.inl (fin_false.2 (by omega)))
    have hfb : mag b < 9218868437227405312 := Nat.lt_of_not_le fun h => hf (.inr (fin_false.2 (by omega)))
    have hfs := tS_fits (tF_fits a) (tF_fits b)
    have hokR := tS_okR (tF_fits a) (tF_fits b) (by omega) (by omega) (by omega)
    have hok : Ok (tS (tF a) (tF b)) := ok_cn hokR
    obtain ⟨f1, f2, f3, f4, f5⟩ := hok.facts
    have hadd := add_op (tF_ok a) (tF_ok b) hokR
    have e : fAdd a b = if (tS (tF a) (tF b)).2.1 = 0 then sig (z0 (neg a) (neg b) 2) 0 else tfF (tS (tF a) (tF b)).1 true (tS (tF a) (tF b)).2.1 (tS (tF a) (tF b)).2.2 2 := if_neg hf
    rw [e]
    refine ⟨?_, fun h => (by unfold isNaN at h; simp only [decide_eq_true_eq] at h; rcases h with h | h; omega; omega), fun W hT hI => ?_⟩
    · split
      · exact sig_lt (by omega)
      · exact tfF_lt hm'
    · by_cases h0 : (tS (tF a) (tF b)).2.1 = 0
      · rw [if_pos h0]
        refine (padd_z a b _ 2 _ (tF a) (tF b) (tS (tF a) (tF b)) W hm ha hb (pfin_y a ha hfa) (pfin_y b hb hfb) (exact_ok a ha hfa W hT hI) (fun W' h => exact_ok b hb hfb W' (hT.later h) (Tab.later hI h)) (fun W' X Y h h1 h2 => added_op hadd (hT.later h) h1 h2) (fun W' X h => psign hok h) (by rw [sgI_nought, decide_eq_true h0]) (fun W' => pnought _ _ 2 hm' W')).mono ?_
        rintro r w' ⟨rfl, hb'⟩
        exact ⟨_, rfl, lk.refl (sig_lt (by omega)), hb'⟩
      · rw [if_neg h0]
        refine (padd_r a b _ 2 _ (tF a) (tF b) (tS (tF a) (tF b)) W hm ha hb (pfin_y a ha hfa) (pfin_y b hb hfb) (exact_ok a ha hfa W hT hI) (fun W' h => exact_ok b hb hfb W' (hT.later h) (Tab.later hI h)) (fun W' X Y h h1 h2 => added_op hadd (hT.later h) h1 h2) (fun W' X h => psign hok h) (by rw [sgI_nought, decide_eq_false h0]) (fun W' X h h1 => prounded (hT.later h) hok h1 hm')).mono ?_
        rintro r w' ⟨rfl, hb'⟩
        exact ⟨_, rfl, lk.refl (tfF_lt hm'), hb'⟩
theorem fAdd_lt {a b : Nat} (ha : a < 18446744073709551616) (hb : b < 18446744073709551616) : fAdd a b < 18446744073709551616 := (fadd_p a b ha hb).1
theorem lk_or {n X : Nat} (h : lk n X) : n = X ∨ (isNaN n = true ∧ isNaN X = true) := by
  cases hn : isNaN X
  · exact .inl (h.eq hn)
  · cases h2 : isNaN n
    · have := h.2
      unfold same at this
      rw [hn, h2] at this
      have e : n = X := by simp at this; omega
      rw [e, hn] at h2
      cases h2
    · exact .inr ⟨rfl, rfl⟩
theorem fAdd_lk {n X p Y : Nat} (h1 : lk n X) (h2 : lk p Y) (hX : X < 18446744073709551616) (hY : Y < 18446744073709551616) : fAdd n p = fAdd X Y := by
  rcases lk_or h1 with rfl | ⟨a1, a2⟩
  · rcases lk_or h2 with rfl | ⟨b1, b2⟩
    · rfl
    · rw [(fadd_p n p h1.1 h2.1).2.1 (.inr b1), (fadd_p n Y hX hY).2.1 (.inr b2)]
  · rw [(fadd_p n p h1.1 h2.1).2.1 (.inl a1), (fadd_p X Y hX hY).2.1 (.inl a2)]
theorem unear {n X p Y : Nat} (h1 : lk n X) (h2 : lk p Y) (hX : X < 18446744073709551616) (hY : Y < 18446744073709551616) (w : World) (hT : Tab32 w) (hI : Ie.Tab w) :
    Calls Tryz.prog 37 #[.float .f64 n, .float .f64 p] w fun r w' => OutF2 w (fAdd X Y) r w' := by
  rw [← fAdd_lk h1 h2 hX hY]
  exact unear_1 n p _ w fun W hW => (fadd_p n p h1.1 h2.1).2.2 W (hT.later hW) (Tab.later hI hW)
def rowF (xs : Nat → Nat) : Nat → Nat
  | 0 => 0
  | 1 => xs 0
  | k + 2 => fAdd (rowF xs (k + 1)) (xs (k + 1))
def Fls (xs : Nat → Nat) (len : Nat) : Prop := ∀ i, i < len → xs i < 18446744073709551616
theorem rowF_lt {xs : Nat → Nat} : ∀ {k len : Nat}, Fls xs len → k ≤ len → rowF xs k < 18446744073709551616
  | 0, _, _, _ => by show 0 < _; omega
  | 1, _, h, hk => h 0 (by omega)
  | k + 2, len, h, hk => fAdd_lt (rowF_lt (k := k + 1) h (by omega)) (h (k + 1) (by omega))
theorem FAt.cellAt {w : World} {b off len : Nat} {ao : Option Addr} {xs : Nat → Nat} (hc : ∀ j, j < len → w.cell? ⟨b, off + j, none⟩ = some (.float .f64 (xs j))) {j : Nat} (hj : j < len) {w' : World} (hb : Below w.heap.size w w') : w'.cell? ⟨b, off + j, none⟩ = some (.float .f64 (xs j)) :=
  (hb.cell (p := ⟨b, off + j, none⟩) (World.block_lt_of_cell? _ _ (hc j hj))).trans (hc j hj)
set_option maxRecDepth 200000 in
theorem urow (ao : Option Addr) (len cap : Nat) (xs : Nat → Nat) (w : World) (hT : Tab32 w) (hI : Ie.Tab w) (hl : FAt w ao len xs) (hx : Fls xs len) (hlen : len ≤ cap) (hcap : cap ≤ 9223372036854775807) :
    Calls Tryz.prog 11 #[.slice ao len cap] w fun r w' => OutF2 w (rowF xs len) r w' := by
  obtain ⟨b, off, hao, hc⟩ := hl
  by_cases h0 : len = 0
  · subst h0
    go_enter Tryz.func11, Tryz.ntmps11
    go_wp2
    go_ret
    exact ⟨0, rfl, lk.refl (by omega), Below.refl _ _⟩
  · obtain rfl := hao (by omega)
    have c0 : w.cell? ⟨b, off, none⟩ = some (.float .f64 (xs 0)) := hc 0 (by omega)
    have e0 : ((len : Int) == 0) = false := by rw [beq_eq_false_iff_ne]; omega
    obtain ⟨m, rfl⟩ : ∃ m, len = m + 1 := ⟨len - 1, by omega⟩
    have HX : Hid (Tab32 w ∧ Ie.Tab w ∧ Fls xs (m + 1)) := ⟨hT, hI, hx⟩
    have HC : Hid (∀ j, j < m + 1 → w.cell? ⟨b, off + j, none⟩ = some (.float .f64 (xs j))) := hc
    clear hT hI hx hc hao h0
    go_enter Tryz.func11, Tryz.ntmps11
    by_cases hc1 : cap = 1
    · obtain rfl : m = 0 := by omega
      subst hc1
      go_wp2
      try simp only [reduceIte] at *
      go_loopw [3, 15] (fun s i wr => ∃ (j n : Nat), j ≤ 0 ∧ i = .int .i64 (j : Int) ∧ s = .float .f64 n ∧ Hid (lk n (rowF xs (j + 1)) ∧ Below w.heap.size w wr)) (fun _ i _ => 0 - (intOf i).toNat)
      case atStart => exact ⟨0, xs 0, by omega, rfl, rfl, lk.refl (HX.out.2.2 0 (by omega)), Below.refl _ _⟩
      case round =>
        obtain ⟨j, n, hj, rfl, rfl, HR⟩ := hrel
        by_cases hlt : j < 0
        · omega
        · obtain rfl : j = 0 := by omega
          go_wp2
          go_ret
          exact ⟨n, rfl, HR.out⟩
    · go_wp2
      go_loopw [3, 15] (fun s i wr => ∃ (j n : Nat), j ≤ m ∧ i = .int .i64 (j : Int) ∧ s = .float .f64 n ∧ Hid (lk n (rowF xs (j + 1)) ∧ Below w.heap.size w wr)) (fun _ i _ => m - (intOf i).toNat)
      case atStart => exact ⟨0, xs 0, by omega, rfl, rfl, lk.refl (HX.out.2.2 0 (by omega)), Below.refl _ _⟩
      case round =>
        obtain ⟨j, n, hj, rfl, rfl, HR⟩ := hrel
        by_cases hlt : j < m
        · have hcx : wr.cell? ⟨b, off + 1 + j, none⟩ = some (.float .f64 (xs (j + 1))) := by
            have := FAt.cellAt (ao := none) HC.out (j := j + 1) (by omega) HR.out.2
            rwa [show off + (j + 1) = off + 1 + j by omega] at this
          have kn := unear HR.out.1 (lk.refl (HX.out.2.2 (j + 1) (by omega))) (rowF_lt HX.out.2.2 (by omega)) (HX.out.2.2 (j + 1) (by omega)) wr (HX.out.1.later HR.out.2) (Tab.later HX.out.2.1 HR.out.2)
          generalize hxe : xs (j + 1) = xe at *
          go_wp2_with fail
          refine kn.mono ?_
          rintro r w3 ⟨n3, rfl, hl3, hb3⟩
          have HF : Hid (lk n3 (rowF xs (j + 1 + 1)) ∧ Below w.heap.size w w3) := ⟨by show lk n3 (fAdd (rowF xs (j + 1)) (xs (j + 1))); rw [hxe]; exact hl3, HR.out.2.trans (hb3.mono HR.out.2.size)⟩
          clear kn hl3 hb3 hcx HR
          go_wp2_with fail
          go_roundw
          case rel =>
            simp only [show ((m : Int) + 1 == 0) = false by rw [beq_eq_false_iff_ne]; omega]
            exact ⟨_, _, _, _, _, _, _, _, _, _, ⟨j + 1, n3, by omega, by simp, rfl, HF⟩, rfl⟩
          case measure => simp [intOf]; omega
        · obtain rfl : j = m := by omega
          go_wp2
          go_ret
          exact ⟨n, rfl, HR.out⟩
def geF (a b : Nat) : Bool := (FloatKind.f64.format.order a b == some Ordering.gt) || (FloatKind.f64.format.order a b == some Ordering.eq)
def ktS (xs : Nat → Nat) : Nat → Nat
  | 0 => 0
  | k + 1 => fAdd (ktS xs k) (xs k)
def ktC (xs : Nat → Nat) : Nat → Nat
  | 0 => 0
  | k + 1 => if geF (mag (ktS xs k)) (mag (xs k)) then fAdd (ktC xs k) (fAdd (fAdd (ktS xs k) (ngt (ktS xs (k + 1)))) (xs k)) else fAdd (ktC xs k) (fAdd (fAdd (xs k) (ngt (ktS xs (k + 1)))) (ktS xs k))
theorem ktS_lt {xs : Nat → Nat} : ∀ {k len : Nat}, Fls xs len → k ≤ len → ktS xs k < 18446744073709551616
  | 0, _, _, _ => by show 0 < _; omega
  | k + 1, len, h, hk => fAdd_lt (ktS_lt (k := k) h (by omega)) (h k (by omega))
theorem ktC_lt {xs : Nat → Nat} : ∀ {k len : Nat}, Fls xs len → k ≤ len → ktC xs k < 18446744073709551616
  | 0, _, _, _ => by show 0 < _; omega
  | k + 1, len, h, hk => by
    have h1 := ktS_lt (k := k) h (by omega)
    have h2 := ktS_lt (k := k + 1) h (by omega)
    have h3 := ktC_lt (k := k) h (by omega)
    have h4 := h k (by omega)
    unfold ktC
    split
    · exact fAdd_lt h3 (fAdd_lt (fAdd_lt h1 (ngt_lt h2)) h4)
    · exact fAdd_lt h3 (fAdd_lt (fAdd_lt h4 (ngt_lt h2)) h1)
def ktF (xs : Nat → Nat) (k : Nat) : Nat := fAdd (ktS xs k) (ktC xs k)
theorem ngt_nan {b : Nat} (hb : b < 18446744073709551616) : isNaN (ngt b) = isNaN b := by unfold isNaN; rw [ngt_mag hb]
theorem lk_ngt {n X : Nat} (h : lk n X) (hX : X < 18446744073709551616) : lk (ngt n) (ngt X) := by
  rcases lk_or h with rfl | ⟨a1, a2⟩
  · exact lk.refl (ngt_lt hX)
  · exact lk.nan (ngt_lt h.1) (by rw [ngt_nan h.1]; exact a1) (by rw [ngt_nan hX]; exact a2)
theorem magLt {a : Nat} (ha : a < 18446744073709551616) : mag a < 18446744073709551616 := by unfold mag; omega
theorem magMag {a : Nat} : mag (mag a) = mag a := by unfold mag; omega
theorem geF_nan {a b : Nat} (ha : a < 18446744073709551616) (hb : b < 18446744073709551616) (h : isNaN a = true) : geF (mag a) (mag b) = false := by
  have h2 : isNaN (mag a) = true := by unfold isNaN at *; rw [magMag]; exact h
  unfold geF
  rw [ord_gt _ _ (magLt ha) (magLt hb), ord_eq _ _ (magLt ha) (magLt hb)]
  unfold Fl64.lt Fl64.eq
  rw [h2]
  simp
theorem geF_lk {n X b : Nat} (h : lk n X) (hX : X < 18446744073709551616) (hb : b < 18446744073709551616) : geF (mag n) (mag b) = geF (mag X) (mag b) := by
  rcases lk_or h with rfl | ⟨a1, a2⟩
  · rfl
  · rw [geF_nan h.1 hb a1, geF_nan hX hb a2]
set_option maxRecDepth 200000 in
theorem ukept (ao : Option Addr) (len cap : Nat) (xs : Nat → Nat) (w : World) (hT : Tab32 w) (hI : Ie.Tab w) (hl : FAt w ao len xs) (hx : Fls xs len) (hlen : len ≤ 35184372088832) :
    Calls Tryz.prog 15 #[.slice ao len cap] w fun r w' => OutF2 w (ktF xs len) r w' := by
  obtain ⟨b, off, hao, hc⟩ := hl
  have HX : Hid (Tab32 w ∧ Ie.Tab w ∧ Fls xs len) := ⟨hT, hI, hx⟩
  have HC : Hid (∀ j, j < len → w.cell? ⟨b, off + j, none⟩ = some (.float .f64 (xs j))) := hc
  have HA : Hid (0 < len → ao = some ⟨b, off, none⟩) := hao
  clear hT hI hx hc hao
  go_enter Tryz.func15, Tryz.ntmps15
  go_wp2
  go_loopw [3, 4, 10] (fun s c i wr => ∃ (j n d : Nat), j ≤ len ∧ i = .int .i64 (j : Int) ∧ s = .float .f64 n ∧ c = .float .f64 d ∧ Hid (lk n (ktS xs j) ∧ lk d (ktC xs j) ∧ Below w.heap.size w wr)) (fun _ _ i _ => len - (intOf i).toNat)
  case atStart => exact ⟨0, 0, 0, by omega, rfl, rfl, rfl, lk.refl (by omega), lk.refl (by omega), Below.refl _ _⟩
  case round =>
    obtain ⟨j, n, d, hj, rfl, rfl, rfl, HR⟩ := hrel
    by_cases hlt : j < len
    · obtain rfl := HA.out (by omega)
      have hcx : wr.cell? ⟨b, off + j, none⟩ = some (.float .f64 (xs j)) := FAt.cellAt (ao := none) HC.out (j := j) (by omega) HR.out.2.2
      have hxl := HX.out.2.2 j hlt
      have sl : ktS xs j < 18446744073709551616 := ktS_lt HX.out.2.2 (by omega)
      have cl : ktC xs j < 18446744073709551616 := ktC_lt HX.out.2.2 (by omega)
      have k1 := unear HR.out.1 (lk.refl hxl) sl hxl wr (HX.out.1.later HR.out.2.2) (Tab.later HX.out.2.1 HR.out.2.2)
      have e1 : fAdd (ktS xs j) (xs j) = ktS xs (j + 1) := rfl
      rw [e1] at k1
      go_wp2_with fail
      refine k1.mono ?_
      rintro r w1 ⟨n1, rfl, l1, hb1⟩
      have HB1 : Hid (lk n1 (ktS xs (j + 1)) ∧ Below w.heap.size w w1) := ⟨l1, HR.out.2.2.trans (hb1.mono HR.out.2.2.size)⟩
      have hn := HR.out.1.1
      have ka := c159 n hn
      have kb := c159 (xs j) hxl
      have tl : ktS xs (j + 1) < 18446744073709551616 := ktS_lt HX.out.2.2 (by omega)
      have hng : ∀ w, (Op.unary UnOp.neg (.float .f64 n1)).run Tryz.prog w = .ok (.float .f64 (ngt n1)) w := fun w => by rw [← negF n1 HB1.out.1.1]; rfl
      have hge : geF (mag (ktS xs j)) (mag (xs j)) = geF (mag n) (mag (xs j)) := (geF_lk HR.out.1 sl hxl).symm
      clear k1 l1 hb1
      cases hg : geF (mag n) (mag (xs j))
      · have hg' : (FloatKind.f64.format.order (mag n) (mag (xs j)) == some Ordering.gt || FloatKind.f64.format.order (mag n) (mag (xs j)) == some Ordering.eq) = false := hg
        go_wp2_with (first | (go_at_call 39; first | (with_reducible refine (ka _).mono ?_; rintro e w' ⟨rfl, hw⟩; rw [hw]; clear hw w') | (with_reducible refine (kb _).mono ?_; rintro e w' ⟨rfl, hw⟩; rw [hw]; clear hw w')))
        have k2 := unear (lk.refl hxl) (lk_ngt HB1.out.1 tl) hxl (ngt_lt tl) w1 (HX.out.1.later HB1.out.2) (Tab.later HX.out.2.1 HB1.out.2)
        refine k2.mono ?_
        rintro r w2 ⟨n2, rfl, l2, hb2⟩
        have HB2 : Hid (lk n2 (fAdd (xs j) (ngt (ktS xs (j + 1)))) ∧ Below w.heap.size w w2) := ⟨l2, HB1.out.2.trans (hb2.mono HB1.out.2.size)⟩
        clear k2 l2 hb2 ka kb
        have k3 := unear HB2.out.1 HR.out.1 (fAdd_lt hxl (ngt_lt tl)) sl w2 (HX.out.1.later HB2.out.2) (Tab.later HX.out.2.1 HB2.out.2)
        go_wp2_with fail
        refine k3.mono ?_
        rintro r w3 ⟨n3, rfl, l3, hb3⟩
        have HB3 : Hid (lk n3 (fAdd (fAdd (xs j) (ngt (ktS xs (j + 1)))) (ktS xs j)) ∧ Below w.heap.size w w3) := ⟨l3, HB2.out.2.trans (hb3.mono HB2.out.2.size)⟩
        clear k3 l3 hb3
        have k4 := unear HR.out.2.1 HB3.out.1 cl (fAdd_lt (fAdd_lt hxl (ngt_lt tl)) sl) w3 (HX.out.1.later HB3.out.2) (Tab.later HX.out.2.1 HB3.out.2)
        go_wp2_with fail
        refine k4.mono ?_
        rintro r w4 ⟨n4, rfl, l4, hb4⟩
        have HF : Hid (lk n1 (ktS xs (j + 1)) ∧ lk n4 (ktC xs (j + 1)) ∧ Below w.heap.size w w4) := ⟨HB1.out.1, by
          have e : ktC xs (j + 1) = fAdd (ktC xs j) (fAdd (fAdd (xs j) (ngt (ktS xs (j + 1)))) (ktS xs j)) := by
            show (if geF (mag (ktS xs j)) (mag (xs j)) then _ else _) = _
            rw [hge, hg]
            rfl
          rw [e]; exact l4, HB3.out.2.trans (hb4.mono HB3.out.2.size)⟩
        clear k4 l4 hb4 HB1 HB2 HB3 HR hcx
        go_wp2_with fail
        go_roundw
        case rel => exact ⟨j + 1, n1, n4, by omega, by simp, rfl, rfl, HF⟩
        case measure => simp [intOf]; omega
      · have hg' : (FloatKind.f64.format.order (mag n) (mag (xs j)) == some Ordering.gt || FloatKind.f64.format.order (mag n) (mag (xs j)) == some Ordering.eq) = true := hg
        go_wp2_with (first | (go_at_call 39; first | (with_reducible refine (ka _).mono ?_; rintro e w' ⟨rfl, hw⟩; rw [hw]; clear hw w') | (with_reducible refine (kb _).mono ?_; rintro e w' ⟨rfl, hw⟩; rw [hw]; clear hw w')))
        have k2 := unear HR.out.1 (lk_ngt HB1.out.1 tl) sl (ngt_lt tl) w1 (HX.out.1.later HB1.out.2) (Tab.later HX.out.2.1 HB1.out.2)
        refine k2.mono ?_
        rintro r w2 ⟨n2, rfl, l2, hb2⟩
        have HB2 : Hid (lk n2 (fAdd (ktS xs j) (ngt (ktS xs (j + 1)))) ∧ Below w.heap.size w w2) := ⟨l2, HB1.out.2.trans (hb2.mono HB1.out.2.size)⟩
        clear k2 l2 hb2 ka kb
        have k3 := unear HB2.out.1 (lk.refl hxl) (fAdd_lt sl (ngt_lt tl)) hxl w2 (HX.out.1.later HB2.out.2) (Tab.later HX.out.2.1 HB2.out.2)
        go_wp2_with fail
        refine k3.mono ?_
        rintro r w3 ⟨n3, rfl, l3, hb3⟩
        have HB3 : Hid (lk n3 (fAdd (fAdd (ktS xs j) (ngt (ktS xs (j + 1)))) (xs j)) ∧ Below w.heap.size w w3) := ⟨l3, HB2.out.2.trans (hb3.mono HB2.out.2.size)⟩
        clear k3 l3 hb3
        have k4 := unear HR.out.2.1 HB3.out.1 cl (fAdd_lt (fAdd_lt sl (ngt_lt tl)) hxl) w3 (HX.out.1.later HB3.out.2) (Tab.later HX.out.2.1 HB3.out.2)
        go_wp2_with fail
        refine k4.mono ?_
        rintro r w4 ⟨n4, rfl, l4, hb4⟩
        have HF : Hid (lk n1 (ktS xs (j + 1)) ∧ lk n4 (ktC xs (j + 1)) ∧ Below w.heap.size w w4) := ⟨HB1.out.1, by
          have e : ktC xs (j + 1) = fAdd (ktC xs j) (fAdd (fAdd (ktS xs j) (ngt (ktS xs (j + 1)))) (xs j)) := by
            show (if geF (mag (ktS xs j)) (mag (xs j)) then _ else _) = _
            rw [hge, hg]
            rfl
          rw [e]; exact l4, HB3.out.2.trans (hb4.mono HB3.out.2.size)⟩
        clear k4 l4 hb4 HB1 HB2 HB3 HR hcx
        go_wp2_with fail
        go_roundw
        case rel => exact ⟨j + 1, n1, n4, by omega, by simp, rfl, rfl, HF⟩
        case measure => simp [intOf]; omega
    · obtain rfl : j = len := by omega
      have k1 := unear HR.out.1 HR.out.2.1 (ktS_lt HX.out.2.2 (by omega)) (ktC_lt HX.out.2.2 (by omega)) wr (HX.out.1.later HR.out.2.2) (Tab.later HX.out.2.1 HR.out.2.2)
      go_wp2_with fail
      refine k1.mono ?_
      rintro r w1 ⟨n1, rfl, l1, hb1⟩
      have HB1 : Hid (lk n1 (ktF xs j) ∧ Below w.heap.size w w1) := ⟨l1, HR.out.2.2.trans (hb1.mono HR.out.2.2.size)⟩
      clear k1 l1 hb1
      go_wp2_with fail
      go_ret
      exact ⟨n1, rfl, HB1.out⟩
def halF : Nat → (Nat → Nat) → Nat → Nat
  | 0, _, _ => 0
  | f + 1, xs, len => if len = 0 then 0 else if len = 1 then xs 0 else fAdd (halF f xs (len / 2)) (halF f (fun i => xs (len / 2 + i)) (len - len / 2))
theorem halF_lt : ∀ {f : Nat} {xs : Nat → Nat} {len : Nat}, Fls xs len → halF f xs len < 18446744073709551616
  | 0, _, _, _ => by show 0 < _; omega
  | f + 1, xs, len, h => by
    unfold halF
    split
    · omega
    · split
      · exact h 0 (by omega)
      · exact fAdd_lt (halF_lt (fun i hi => h i (by omega))) (halF_lt (fun i hi => h (len / 2 + i) (by omega)))
set_option maxRecDepth 200000 in
theorem uhalves_g (b off len cap half : Nat) (H1 H2 x0 : Nat) (w : World) (hh1 : 0 < half) (hh2 : half < len) (hlen : len ≤ cap) (hcap : cap ≤ 9223372036854775807) (hq : half = len / 2)
    (hH1 : H1 < 18446744073709551616) (hH2 : H2 < 18446744073709551616) (hT : Tab32 w) (hI : Ie.Tab w)
    (k1 : ∀ W, Below w.heap.size w W → Calls Tryz.prog 13 #[.slice (some ⟨b, off, none⟩) half cap] W fun r w' => OutF2 W H1 r w')
    (k2 : ∀ W, Below w.heap.size w W → Calls Tryz.prog 13 #[.slice (some ⟨b, off + half, none⟩) (len - half) (cap - half)] W fun r w' => OutF2 W H2 r w') :
    Calls Tryz.prog 13 #[.slice (some ⟨b, off, none⟩) len cap] w fun r w' => OutF2 w (fAdd H1 H2) r w' := by
  have e0 : ((len : Int) == 0) = false := by rw [beq_eq_false_iff_ne]; omega
  have e1 : ((len : Int) == 1) = false := by rw [beq_eq_false_iff_ne]; omega
  have hdv : Int.tdiv (len : Int) 2 = (half : Int) := by rw [hq]; simp [Int.tdiv]
  have hcn : ¬ cap = half := by omega
  have i1 : (0 : Int) ≤ (half : Int) := by omega
  have i2 : (half : Int) ≤ (len : Int) := by omega
  have i3 : (half : Int) ≤ (cap : Int) := by omega
  have i4 : (len : Int) ≤ (cap : Int) := by omega
  have i5 : ¬ cap ≤ half := by omega
  have i6 : ¬ cap - half = 0 := by omega
  have HX : Hid (Tab32 w ∧ Ie.Tab w ∧ H1 < 18446744073709551616 ∧ H2 < 18446744073709551616) := ⟨hT, hI, hH1, hH2⟩
  have q1 : ∀ W, Below w.heap.size w W → Calls Tryz.prog 13 #[.slice (some ⟨b, off, none⟩) half cap] W fun r w' => ∃ n, r = .returned (.float .f64 n) ∧ lk n H1 ∧ Below w.heap.size w w' := fun W hb => (k1 W hb).mono fun r w' ⟨n, e1, e2, e3⟩ => ⟨n, e1, e2, hb.trans (e3.mono hb.size)⟩
  have q2 : ∀ W, Below w.heap.size w W → Calls Tryz.prog 13 #[.slice (some ⟨b, off + half, none⟩) (len - half) (cap - half)] W fun r w' => ∃ n, r = .returned (.float .f64 n) ∧ lk n H2 ∧ Below w.heap.size w w' := fun W hb => (k2 W hb).mono fun r w' ⟨n, e1, e2, e3⟩ => ⟨n, e1, e2, hb.trans (e3.mono hb.size)⟩
  have hBR : Below w.heap.size w w.drew := (Below.refl _ _).drew
  clear k1 k2 hT hI hH1 hH2 hq
  go_enter Tryz.func13, Tryz.ntmps13
  go_upto_region 7 with fail
  go_region_held3 (fun w' => Below w.heap.size w w') (first | (with_reducible assumption) | exact hBR | go_keep)
    (first | (go_at_call 13; first | (have hq := hl4; clear hq; with_reducible refine (q2 _ hb4).mono ?_; rintro r w5 ⟨n5, rfl, hl5, hb5⟩) | (with_reducible refine (q1 _ hBR).mono ?_; rintro r w4 ⟨n4, rfl, hl4, hb4⟩))
           | (go_at_call 37; refine (unear hl4 hl5 HX.out.2.2.1 HX.out.2.2.2 _ (HX.out.1.later hb5) (Tab.later HX.out.2.1 hb5)).mono ?_; rintro r w6 ⟨n6, rfl, hl6, hb6⟩; replace hb6 := hb5.trans (hb6.mono hb5.size)))
  all_goals
    have HF : Hid (lk n6 (fAdd H1 H2) ∧ Below w.heap.size w w6) := ⟨hl6, hb6⟩
    clear hl4 hb4 hl5 hb5 hl6 hb6 q1 q2 hBR
    go_wp2_with fail
    go_ret
    exact ⟨n6, rfl, HF.out⟩
theorem uhalves_0 (ao : Option Addr) (cap : Nat) (w : World) : Calls Tryz.prog 13 #[.slice ao 0 cap] w fun r w' => r = .returned (.float .f64 0) ∧ w' = w := by
  go_enter Tryz.func13, Tryz.ntmps13
  go_wp2
  go_ret
  exact ⟨rfl, rfl⟩
theorem uhalves_1 (b off cap x : Nat) (w : World) (hc : w.cell? ⟨b, off, none⟩ = some (.float .f64 x)) : Calls Tryz.prog 13 #[.slice (some ⟨b, off, none⟩) 1 cap] w fun r w' => r = .returned (.float .f64 x) ∧ w' = w := by
  go_enter Tryz.func13, Tryz.ntmps13
  go_wp2
  go_ret
  exact ⟨rfl, rfl⟩
theorem uhalves : ∀ (f : Nat) (ao : Option Addr) (len cap : Nat) (xs : Nat → Nat) (w : World), len ≤ f → Tab32 w → Ie.Tab w → FAt w ao len xs → Fls xs len → len ≤ cap → cap ≤ 9223372036854775807 →
    Calls Tryz.prog 13 #[.slice ao len cap] w fun r w' => OutF2 w (halF f xs len) r w' := by
  intro f
  induction f with
  | zero =>
    intro ao len cap xs w hf hT hI hl hx hlen hcap
    obtain rfl : len = 0 := by omega
    refine (uhalves_0 ao cap w).mono ?_
    rintro r w' ⟨rfl, rfl⟩
    exact ⟨0, rfl, lk.refl (by omega), Below.refl _ _⟩
  | succ f ih =>
    intro ao len cap xs w hf hT hI hl hx hlen hcap
    unfold halF
    by_cases h0 : len = 0
    · subst h0
      rw [if_pos rfl]
      refine (uhalves_0 ao cap w).mono ?_
      rintro r w' ⟨rfl, rfl⟩
      exact ⟨0, rfl, lk.refl (by omega), Below.refl _ _⟩
    · rw [if_neg h0]
      obtain ⟨b, off, hao, hc⟩ := hl
      obtain rfl := hao (by omega)
      by_cases h1 : len = 1
      · subst h1
        rw [if_pos rfl]
        refine (uhalves_1 b off cap (xs 0) w (hc 0 (by omega))).mono ?_
        rintro r w' ⟨rfl, rfl⟩
        exact ⟨xs 0, rfl, lk.refl (hx 0 (by omega)), Below.refl _ _⟩
      · rw [if_neg h1]
        have hx1 : Fls xs (len / 2) := fun i hi => hx i (by omega)
        have hx2 : Fls (fun i => xs (len / 2 + i)) (len - len / 2) := fun i hi => hx (len / 2 + i) (by omega)
        refine uhalves_g b off len cap (len / 2) _ _ 0 w (by omega) (by omega) hlen hcap rfl (halF_lt hx1) (halF_lt hx2) hT hI (fun W hb => ?_) (fun W hb => ?_)
        · exact ih _ (len / 2) cap xs W (by omega) (hT.later hb) (Tab.later hI hb) ⟨b, off, fun _ => rfl, fun j hj => FAt.cellAt (ao := none) hc (by omega) hb⟩ hx1 (by omega) hcap
        · exact ih _ (len - len / 2) (cap - len / 2) _ W (by omega) (hT.later hb) (Tab.later hI hb) ⟨b, off + len / 2, fun _ => rfl, fun j hj => by
            have := FAt.cellAt (ao := none) hc (j := len / 2 + j) (by omega) hb
            rwa [show off + (len / 2 + j) = off + len / 2 + j by omega] at this⟩ hx2 (by omega) (by omega)
def anyP (p : Nat → Bool) : Nat → Bool
  | 0 => false
  | k + 1 => anyP p k || p k
theorem anyP_mono {p : Nat → Bool} {k : Nat} (h : anyP p k = true) : ∀ {n : Nat}, k ≤ n → anyP p n = true
  | 0, hn => by obtain rfl : k = 0 := by omega
                exact h
  | n + 1, hn => by
    by_cases e : k = n + 1
    · rw [← e]; exact h
    · show (anyP p n || p n) = true
      rw [anyP_mono h (by omega)]; rfl
theorem anyP_succ {p : Nat → Bool} {k : Nat} (h : anyP p k = false) (h2 : p k = false) : anyP p (k + 1) = false := by
  show (anyP p k || p k) = false
  rw [h, h2]; rfl
theorem anyP_hit {p : Nat → Bool} {k n : Nat} (h2 : p k = true) (hn : k < n) : anyP p n = true :=
  anyP_mono (k := k + 1) (by show (anyP p k || p k) = true; rw [h2]; simp) hn
theorem anyP_none {p : Nat → Bool} : ∀ {n : Nat}, anyP p n = false → ∀ i, i < n → p i = false
  | 0, _, i, hi => by omega
  | n + 1, h, i, hi => by
    have h' : (anyP p n || p n) = false := h
    simp only [Bool.or_eq_false_iff] at h'
    by_cases e : i = n
    · rw [e]; exact h'.2
    · exact anyP_none h'.1 i (by omega)
def mnP (x : Nat) : Bool := !(decide (mag x = 0) && neg x)
theorem unought {a : Nat} (ha : a < 18446744073709551616) : (FloatKind.f64.format.order a 0 != some Ordering.eq) = !decide (mag a = 0) := by
  have h : (FloatKind.f64.format.order a 0 == some Ordering.eq) = decide (mag a = 0) := by
    rw [ord_eq a 0 ha (by decide)]
    have nb : isNaN 0 = false := by decide
    unfold Fl64.eq
    rw [nb]
    have e0 : stp 0 = 0 := by decide
    rw [e0]
    by_cases h : mag a = 0
    · have : stp a = 0 := by unfold stp sgn; rw [h]; simp
      have na : isNaN a = false := by unfold isNaN; simp; omega
      simp [this, h, na]
    · have : stp a ≠ 0 := by unfold stp sgn; split <;> omega
      simp [this, h]
  rw [← h]; rfl
set_option maxRecDepth 200000 in
theorem uany (ao : Option Addr) (len cap : Nat) (xs : Nat → Nat) (w : World) (hl : FAt w ao len xs) (hx : Fls xs len) (hlen : len ≤ 35184372088832) :
    Calls Tryz.prog 87 #[.slice ao len cap] w fun r w' => r = .returned (.bool (anyP (fun i => isNaN (xs i)) len)) ∧ Below w.heap.size w w' := by
  obtain ⟨b, off, hao, hc⟩ := hl
  have HX : Hid (Fls xs len) := hx
  have HC : Hid (∀ j, j < len → w.cell? ⟨b, off + j, none⟩ = some (.float .f64 (xs j))) := hc
  have HA : Hid (0 < len → ao = some ⟨b, off, none⟩) := hao
  clear hx hc hao
  go_enter Tryz.func87, Tryz.ntmps87
  go_wp2
  go_loopw [7] (fun i wr => ∃ j : Nat, j ≤ len ∧ i = .int .i64 (j : Int) ∧ wr = w ∧ Hid (anyP (fun i => isNaN (xs i)) j = false)) (fun i _ => len - (intOf i).toNat)
  case atStart => exact ⟨0, by omega, rfl, rfl, rfl⟩
  case round =>
    obtain ⟨j, hj, rfl, hwr, HR⟩ := hrel
    subst hwr
    by_cases hlt : j < len
    · obtain rfl := HA.out (by omega)
      have hcx : wr.cell? ⟨b, off + j, none⟩ = some (.float .f64 (xs j)) := HC.out j hlt
      have hxl := HX.out j hlt
      have hs := self_ne (xs j) hxl
      cases hp : isNaN (xs j)
      · rw [hp] at hs
        go_wp2
        go_roundw
        case rel => exact ⟨j + 1, by omega, by simp, by trivial, anyP_succ HR.out hp⟩
        case measure => simp [intOf]; omega
      · rw [hp] at hs
        go_wp2
        go_ret
        rw [anyP_hit (p := fun i => isNaN (xs i)) hp hlt]
        exact ⟨rfl, Below.refl _ _⟩
    · obtain rfl : j = len := by omega
      go_wp2
      go_ret
      rw [HR.out]
      exact ⟨rfl, Below.refl _ _⟩
set_option maxRecDepth 200000 in
theorem uallfin (ao : Option Addr) (len cap : Nat) (xs : Nat → Nat) (w : World) (hl : FAt w ao len xs) (hx : Fls xs len) (hlen : len ≤ 35184372088832) :
    Calls Tryz.prog 88 #[.slice ao len cap] w fun r w' => r = .returned (.bool (!anyP (fun i => !fin (xs i)) len)) ∧ Below w.heap.size w w' := by
  obtain ⟨b, off, hao, hc⟩ := hl
  have HX : Hid (Fls xs len) := hx
  have HC : Hid (∀ j, j < len → w.cell? ⟨b, off + j, none⟩ = some (.float .f64 (xs j))) := hc
  have HA : Hid (0 < len → ao = some ⟨b, off, none⟩) := hao
  clear hx hc hao
  go_enter Tryz.func88, Tryz.ntmps88
  go_wp2
  go_loopw [7] (fun i wr => ∃ j : Nat, j ≤ len ∧ i = .int .i64 (j : Int) ∧ wr = w ∧ Hid (anyP (fun i => !fin (xs i)) j = false)) (fun i _ => len - (intOf i).toNat)
  case atStart => exact ⟨0, by omega, rfl, rfl, rfl⟩
  case round =>
    obtain ⟨j, hj, rfl, hwr, HR⟩ := hrel
    subst hwr
    by_cases hlt : j < len
    · obtain rfl := HA.out (by omega)
      have hcx : wr.cell? ⟨b, off + j, none⟩ = some (.float .f64 (xs j)) := HC.out j hlt
      have hxl := HX.out j hlt
      cases hp : !fin (xs j)
      · have hp' : mag (xs j) < 9218868437227405312 := Nat.lt_of_not_le fun h => by
          have := (fin_false (a := xs j)).2 (by omega)
          rw [this] at hp
          cases hp
        have kf := ufin_y (xs j) hxl hp' wr
        go_wp2_with fail
        refine kf.mono ?_
        rintro r w' ⟨rfl, hw⟩
        rw [hw]
        clear hw kf w'
        go_wp2
        go_roundw
        case rel => exact ⟨j + 1, by omega, by simp, by trivial, anyP_succ HR.out hp⟩
        case measure => simp [intOf]; omega
      · have hp' : ¬ mag (xs j) < 9218868437227405312 := fin_false.1 (by simpa using hp)
        have kf := ufin_n (xs j) hxl hp' wr
        go_wp2_with fail
        refine kf.mono ?_
        rintro r w' ⟨rfl, hw⟩
        rw [hw]
        clear hw kf w'
        go_wp2
        go_ret
        rw [anyP_hit (p := fun i => !fin (xs i)) hp hlt]
        exact ⟨rfl, (Below.refl _ _).drew⟩
    · obtain rfl : j = len := by omega
      go_wp2
      go_ret
      rw [HR.out]
      exact ⟨rfl, Below.refl _ _⟩
set_option maxRecDepth 200000 in
theorem uallmn (ao : Option Addr) (len cap : Nat) (xs : Nat → Nat) (w : World) (hl : FAt w ao len xs) (hx : Fls xs len) (hlen : len ≤ 35184372088832) :
    Calls Tryz.prog 48 #[.slice ao len cap] w fun r w' => r = .returned (.bool (!anyP (fun i => mnP (xs i)) len)) ∧ Below w.heap.size w w' := by
  obtain ⟨b, off, hao, hc⟩ := hl
  have HX : Hid (Fls xs len) := hx
  have HC : Hid (∀ j, j < len → w.cell? ⟨b, off + j, none⟩ = some (.float .f64 (xs j))) := hc
  have HA : Hid (0 < len → ao = some ⟨b, off, none⟩) := hao
  clear hx hc hao
  go_enter Tryz.func48, Tryz.ntmps48
  go_wp2
  go_loopw [7] (fun i wr => ∃ j : Nat, j ≤ len ∧ i = .int .i64 (j : Int) ∧ wr = w ∧ Hid (anyP (fun i => mnP (xs i)) j = false)) (fun i _ => len - (intOf i).toNat)
  case atStart => exact ⟨0, by omega, rfl, rfl, rfl⟩
  case round =>
    obtain ⟨j, hj, rfl, hwr, HR⟩ := hrel
    subst hwr
    by_cases hlt : j < len
    · obtain rfl := HA.out (by omega)
      have hcx : wr.cell? ⟨b, off + j, none⟩ = some (.float .f64 (xs j)) := HC.out j hlt
      have hxl := HX.out j hlt
      have hs := unought hxl
      have ks := Ie.c33 (xs j) hxl
      cases hz : decide (mag (xs j) = 0)
      · rw [hz] at hs
        go_wp2
        go_ret
        rw [anyP_hit (p := fun i => mnP (xs i)) (by show mnP (xs j) = true; unfold mnP; rw [hz]; rfl) hlt]
        exact ⟨rfl, Below.refl _ _⟩
      · rw [hz] at hs
        cases hn : neg (xs j)
        · rw [hn] at ks
          go_wp2_with (go_at_call 89; refine (ks _).mono ?_; rintro r w' ⟨rfl, hw⟩; rw [hw]; clear hw w')
          go_ret
          rw [anyP_hit (p := fun i => mnP (xs i)) (by show mnP (xs j) = true; unfold mnP; rw [hz, hn]; rfl) hlt]
          exact ⟨rfl, Below.refl _ _⟩
        · rw [hn] at ks
          have hp : (fun i => mnP (xs i)) j = false := by show mnP (xs j) = false; unfold mnP; rw [hz, hn]; rfl
          go_wp2_with (go_at_call 89; refine (ks _).mono ?_; rintro r w' ⟨rfl, hw⟩; rw [hw]; clear hw w')
          go_roundw
          case rel => exact ⟨j + 1, by omega, by simp, by trivial, anyP_succ HR.out hp⟩
          case measure => simp [intOf]; omega
    · obtain rfl : j = len := by omega
      go_wp2
      go_ret
      rw [HR.out]
      exact ⟨rfl, Below.refl _ _⟩
def chk1 (xs : Nat → Nat) (len : Nat) : Int := if 65536 < len then 2 else if anyP (fun i => isNaN (xs i)) len then 4 else if anyP (fun i => !fin (xs i)) len then 5 else 0
theorem uchecked_no (m : Int) (l : Value) (w : World) (hm : isM m = false) : Calls Tryz.prog 47 #[.int .i64 m, l] w fun r w' => r = .returned (.int .i64 1) ∧ w' = w := by
  have kv := pvalid m w
  rw [hm] at kv
  go_enter Tryz.func47, Tryz.ntmps47
  go_wp2_with fail
  refine kv.mono ?_
  rintro r w' ⟨rfl, hw⟩
  rw [hw]
  clear hw kv w'
  go_wp2
  go_ret
  exact ⟨rfl, rfl⟩
set_option maxRecDepth 200000 in
theorem uchecked1 (m : Int) (g : Nat) (ao : Option Addr) (len cap : Nat) (xs : Nat → Nat) (w : World) (hm : isM m = true) (hg : w.cell? ⟨g, 0, none⟩ = some (.slice ao len cap)) (hl : FAt w ao len xs) (hx : Fls xs len) (hlen : len ≤ 35184372088832) :
    Calls Tryz.prog 47 #[.int .i64 m, .slice (some ⟨g, 0, none⟩) 1 1] w fun r w' => r = .returned (.int .i64 (chk1 xs len)) ∧ Below w.heap.size w w' := by
  have kv := pvalid m w
  rw [hm] at kv
  have ka := uany ao len cap xs w hl hx hlen
  have HF : Hid (∀ W, Below w.heap.size w W → Calls Tryz.prog 88 #[.slice ao len cap] W fun r w' => r = .returned (.bool (!anyP (fun i => !fin (xs i)) len)) ∧ Below W.heap.size W w') := fun W hb => uallfin ao len cap xs W (hl.later hb) hx hlen
  clear hl hx hm
  go_enter Tryz.func47, Tryz.ntmps47
  go_wp2_with fail
  refine kv.mono ?_
  rintro r w' ⟨rfl, hw⟩
  rw [hw]
  clear hw kv w'
  go_wp2_with fail
  go_loopw [6, 16] (fun e i wr => ∃ (j : Nat), j ≤ 1 ∧ i = .int .i64 (j : Int) ∧ ((j = 0 ∧ e = .int .i64 0 ∧ wr = w) ∨ (j = 1 ∧ e = .int .i64 (chk1 xs len) ∧ Hid (Below w.heap.size w wr)))) (fun _ i _ => 1 - (intOf i).toNat)
  case atStart => exact ⟨0, by omega, rfl, .inl ⟨rfl, rfl, rfl⟩⟩
  case round =>
    obtain ⟨j, hj, rfl, ⟨rfl, rfl, hwr⟩ | ⟨rfl, rfl, HB⟩⟩ := hrel
    · subst hwr
      by_cases h1 : 65536 < len
      · have hi : (65536 : Int) < (len : Int) := by omega
        have hd : decide ((65536 : Int) < (len : Int)) = true := decide_eq_true hi
        have hc : chk1 xs len = 2 := if_pos h1
        clear ka HF
        go_wp2_with fail
        go_ret
        rw [hc]
        exact ⟨rfl, Below.refl _ _⟩
      · have hi : ¬ (65536 : Int) < (len : Int) := by omega
        have hd : decide ((65536 : Int) < (len : Int)) = false := decide_eq_false hi
        cases h2 : anyP (fun i => isNaN (xs i)) len
        · rw [h2] at ka
          go_wp2_with fail
          refine ka.mono ?_
          rintro r w2 ⟨rfl, hb2⟩
          have kf := HF.out w2 hb2
          have HB2 : Hid (Below wr.heap.size wr w2) := hb2
          clear ka hb2 HF
          cases h3 : anyP (fun i => !fin (xs i)) len
          · rw [h3] at kf
            have hc : chk1 xs len = 0 := by unfold chk1; rw [if_neg h1, h2, h3]; rfl
            go_wp2_with fail
            refine kf.mono ?_
            rintro r w3 ⟨rfl, hb3⟩
            have HB3 : Hid (Below wr.heap.size wr w3) := HB2.out.trans (hb3.mono HB2.out.size)
            clear kf hb3 HB2 h2 h3
            go_wp2_with fail
            go_roundw
            case rel => exact ⟨1, by omega, by simp, .inr ⟨rfl, by rw [hc], HB3⟩⟩
            case measure => simp [intOf]
          · rw [h3] at kf
            have hc : chk1 xs len = 5 := by unfold chk1; rw [if_neg h1, h2, h3]; rfl
            go_wp2_with fail
            refine kf.mono ?_
            rintro r w3 ⟨rfl, hb3⟩
            have HB3 : Hid (Below wr.heap.size wr w3) := HB2.out.trans (hb3.mono HB2.out.size)
            clear kf hb3 HB2 h2 h3
            go_wp2_with fail
            go_roundw
            case rel => exact ⟨1, by omega, by simp, .inr ⟨rfl, by rw [hc], HB3⟩⟩
            case measure => simp [intOf]
        · rw [h2] at ka
          have hc : chk1 xs len = 4 := by unfold chk1; rw [if_neg h1, h2]; rfl
          go_wp2_with fail
          refine ka.mono ?_
          rintro r w2 ⟨rfl, hb2⟩
          have HB2 : Hid (Below wr.heap.size wr w2) := hb2
          clear ka hb2 HF h2
          go_wp2_with fail
          go_roundw
          case rel => exact ⟨1, by omega, by simp, .inr ⟨rfl, by rw [hc], HB2⟩⟩
          case measure => simp [intOf]
    · clear ka HF
      go_wp2_with fail
      go_ret
      exact ⟨rfl, HB.out⟩
def BxP (w3 wc : World) (g : Nat) (s : Bool) (ao : Option Addr) (n cap : Nat) (ex : Int) (t : Bool × Nat × Int) : Prop := wc.heap[g]? = some (.cells #[.bool s, .slice ao n cap, .int .i64 ex] 59 (0, 0)) ∧ w3.heap.size ≤ g ∧ Below w3.heap.size w3 wc ∧ PN wc (.agg #[.bool s, .slice ao n cap, .int .i64 ex]) t
theorem BxP.new {w3 w7 : World} {s : Bool} {ao : Option Addr} {n cap : Nat} {ex : Int} {t : Bool × Nat × Int} (hn : PN w7 (.agg #[.bool s, .slice ao n cap, .int .i64 ex]) t) (hb : Below w3.heap.size w3 w7) : BxP w3 (w7.alloc (.cells #[.bool s, .slice ao n cap, .int .i64 ex] 59)) w7.heap.size s ao n cap ex t :=
  ⟨heap_alloc_new _ _, hb.size, hb.alloc hb.size _, hn.later ((Below.refl _ _).alloc (Nat.le_refl _) _)⟩
theorem BxP.put {w3 w7 : World} {g : Nat} {s : Bool} {ao : Option Addr} {n cap : Nat} {ex : Int} {t : Bool × Nat × Int} (hn : PN w7 (.agg #[.bool s, .slice ao n cap, .int .i64 ex]) t) (hb : Below w3.heap.size w3 w7) (hg : w3.heap.size ≤ g) (hbx : w7.heap[g]? = some (.cells #[.bool false, .slice none 0 0, .int .i64 0] 59 (0, 0))) :
    BxP w3 (((w7.setCell ⟨g, 0, none⟩ (.bool s)).setCell ⟨g, 1, none⟩ (.slice ao n cap)).setCell ⟨g, 2, none⟩ (.int .i64 ex)) g s ao n cap ex t :=
  ⟨store3 _ _ _ hbx, hg, below_store3 hb hg _ _ _, pn_store hn hbx _ _ _⟩
theorem pabs {t : Bool × Nat × Int} {A : Value} {w : World} (ok : Ok t) (h : PN w A t) : Calls Tryz.prog 57 #[A] w fun r w' => OutA w (false, t.2.1, t.2.2) r w' := by
  obtain ⟨ao, cap, rfl, h1⟩ := h
  obtain ⟨f1, -, -, -, -⟩ := ok.facts
  refine (abs_ok (ea := t.2.2) h1 (by omega) ok).mono ?_
  rintro r w' ⟨v, rfl, ho, hb⟩
  obtain ⟨ao', cap', rfl, h2, h3, h4⟩ := ho.is
  exact ⟨_, _, _, _, _, rfl, ⟨ao', cap', rfl, ao', cap', rfl, h2, h3, h4⟩, hb⟩
theorem vz_cnF {K : Nat} {lo hi : Int} {s : Bool} {z : Nat} {e : Int} (h : Fits lo hi z e) (hK : 0 ≤ lo + K) : vz K (cn s z e).1 (cn s z e).2.1 (cn s z e).2.2 = vz K s z e := by
  rcases h with h | ⟨h, -, -⟩
  · subst h; rw [show cn s 0 e = (false, 0, 0) from if_pos rfl, vz_zero, vz_zero]
  · exact vz_cn (by omega)
theorem vz_turn {K : Nat} {s : Bool} {x : Nat} {e : Int} : vz K (!s && decide (0 < dlen x)) x e = - vz K s x e := by
  by_cases h : x = 0
  · subst h; rw [vz_zero, vz_zero]; rfl
  · have h1 : 0 < dlen x := by have := dlen_pos h; omega
    rw [decide_eq_true h1, Bool.and_true]
    unfold vz sv
    cases s <;> simp [Int.neg_mul]
def tD (t1 t2 : Bool × Nat × Int) : Bool × Nat × Int := cn (sumN t1.1 t1.2.1 t1.2.2 (!t2.1 && decide (0 < dlen t2.2.1)) t2.2.1 t2.2.2).1 (sumN t1.1 t1.2.1 t1.2.2 (!t2.1 && decide (0 < dlen t2.2.1)) t2.2.1 t2.2.2).2.1 (sumN t1.1 t1.2.1 t1.2.2 (!t2.1 && decide (0 < dlen t2.2.1)) t2.2.1 t2.2.2).2.2
theorem tD_fits {lo hi : Int} {t1 t2 : Bool × Nat × Int} (h1 : Fits lo hi t1.2.1 t1.2.2) (h2 : Fits lo hi t2.2.1 t2.2.2) : Fits lo (hi + 1) (tD t1 t2).2.1 (tD t1 t2).2.2 := Fits.cn (Fits.sum h1 h2)
theorem vz_tD {K : Nat} {lo hi : Int} {t1 t2 : Bool × Nat × Int} (h1 : Fits lo hi t1.2.1 t1.2.2) (h2 : Fits lo hi t2.2.1 t2.2.2) (e1 : 0 ≤ t1.2.2 + K) (e2 : 0 ≤ t2.2.2 + K) (hK : 0 ≤ lo + K) :
    vz K (tD t1 t2).1 (tD t1 t2).2.1 (tD t1 t2).2.2 = vz K t1.1 t1.2.1 t1.2.2 - vz K t2.1 t2.2.1 t2.2.2 := by
  unfold tD
  rw [vz_cnF (Fits.sum h1 h2) hK, vz_sumN e1 e2, vz_turn]
  omega
end Go.Proofs.YthkgklkhlcbmaaaGreatDoor
/- Products and quotients of floats of which one is nought or not finite. -/
namespace Go.Fl64
set_option linter.unusedVariables false
set_option linter.unusedSimpArgs false
end Go.Fl64
namespace Go.Proofs.YthkgklkhlcbmaaaGreatDoor
set_option linter.unusedVariables false
set_option linter.unusedSimpArgs false
open Go.RowKit Go.Fl64
end Go.Proofs.YthkgklkhlcbmaaaGreatDoor
namespace Go.Proofs.YthkgklkhlcbmaaaGreatDoor
set_option linter.unusedVariables false
set_option linter.unusedSimpArgs false
open Go.RowKit Go.Fl64
open Ie
end Go.Proofs.YthkgklkhlcbmaaaGreatDoor
namespace Go.Proofs.YthkgklkhlcbmaaaGreatDoor
set_option linter.unusedVariables false
set_option linter.unusedSimpArgs false
open Go.RowKit Go.Fl64
theorem dn_store {w : World} {A : Value} {t : Bool × Nat × Int} {g : Nat} (h : DN w A t) (hg : w.heap[g]? = some (.cells #[.bool false, .slice none 0 0, .int .i64 0] 50 (0, 0))) (a b c : Value) : DN (((w.setCell ⟨g, 0, none⟩ a).setCell ⟨g, 1, none⟩ b).setCell ⟨g, 2, none⟩ c) A t := by
  obtain ⟨ao, cap, h1, h2⟩ := h
  exact ⟨ao, cap, h1, h2.nil, at_box h2.at_ rfl hg (by simp) (by simp) (by simp) a b c, h2.le, h2.small⟩
def BxD (w3 wc : World) (g : Nat) (s : Bool) (ao : Option Addr) (n cap : Nat) (ex : Int) (t : Bool × Nat × Int) : Prop := wc.heap[g]? = some (.cells #[.bool s, .slice ao n cap, .int .i64 ex] 50 (0, 0)) ∧ w3.heap.size ≤ g ∧ Below w3.heap.size w3 wc ∧ DN wc (.agg #[.bool s, .slice ao n cap, .int .i64 ex]) t
theorem BxD.new {w3 w7 : World} {s : Bool} {ao : Option Addr} {n cap : Nat} {ex : Int} {t : Bool × Nat × Int} (hn : DN w7 (.agg #[.bool s, .slice ao n cap, .int .i64 ex]) t) (hb : Below w3.heap.size w3 w7) : BxD w3 (w7.alloc (.cells #[.bool s, .slice ao n cap, .int .i64 ex] 50)) w7.heap.size s ao n cap ex t :=
  ⟨heap_alloc_new _ _, hb.size, hb.alloc hb.size _, hn.later ((Below.refl _ _).alloc (Nat.le_refl _) _)⟩
theorem BxD.put {w3 w7 : World} {g : Nat} {s : Bool} {ao : Option Addr} {n cap : Nat} {ex : Int} {t : Bool × Nat × Int} (hn : DN w7 (.agg #[.bool s, .slice ao n cap, .int .i64 ex]) t) (hb : Below w3.heap.size w3 w7) (hg : w3.heap.size ≤ g) (hbx : w7.heap[g]? = some (.cells #[.bool false, .slice none 0 0, .int .i64 0] 50 (0, 0))) :
    BxD w3 (((w7.setCell ⟨g, 0, none⟩ (.bool s)).setCell ⟨g, 1, none⟩ (.slice ao n cap)).setCell ⟨g, 2, none⟩ (.int .i64 ex)) g s ao n cap ex t :=
  ⟨store3_29 _ _ _ hbx, hg, below_store3 hb hg _ _ _, dn_store hn hbx _ _ _⟩
theorem arg_nought (w : World) : Arg w none 0 0 0 := ⟨fun _ => .inr ⟨rfl, rfl⟩, ⟨0, 0, fun h => absurd h (by omega), fun i hi => absurd hi (by omega)⟩, Nat.le_refl _, by omega⟩
theorem arg_noughtD (w : World) : Arg w none (dlen 0) 0 0 := by rw [dlen_zero]; exact arg_nought w
theorem dn_nought (w : World) : DN w (.agg #[.bool false, .slice none 0 0, .int .i64 0]) (false, 0, 0) := ⟨none, 0, by show _ = Value.agg #[.bool false, .slice none (dlen 0) 0, .int .i64 0]; rw [dlen_zero], arg_noughtD w⟩
theorem less_dn {t1 t2 : Bool × Nat × Int} {X Y : Value} {w : World} (o1 : Ok t1) (o2 : Ok t2) (h1 : DN w X t1) (h2 : DN w Y t2) : Calls Tryz.prog 34 #[X, Y] w fun r w' => ∃ A, r = .returned A ∧ DN w' A (tD t1 t2) ∧ Below w.heap.size w w' := by
  obtain ⟨ao, cap, rfl, a1⟩ := h1
  obtain ⟨ao', cap', rfl, a2⟩ := h2
  obtain ⟨f1, f2, f3, -, -⟩ := o1.facts
  obtain ⟨g1, g2, g3, g4, -⟩ := o2.facts
  unfold tD
  by_cases h0 : t2.2.1 = 0
  · have e2 := g4 h0
    have e3 : t2.1 = false := by rw [e2]
    have e4 : t2.2.2 = 0 := by rw [e2]
    rw [h0, e3, e4, dlen_zero]
    refine (rlessN_1 t1.1 false ao ao' (dlen t1.2.1) cap 0 cap' t1.2.2 0 false none 0 0 0 _ _ _ w (fun W => rminus_0 false ao' cap' 0 W) (fun W hW => ?_)).mono fun r w' ⟨A, e, h, hb⟩ => ⟨A, e, h.dn, hb⟩
    have k := rplusG (nb := false) (y := 0) (eb := 0) (a1.later hW) (arg_noughtD W) (cn_ok o1) rfl (by omega) (by omega) (by omega) (by omega) (by omega) (by rw [dlen_zero]; omega)
    rw [dlen_zero] at k
    exact k
  · have hl : 0 < dlen t2.2.1 := by have := dlen_pos h0; omega
    rw [decide_eq_true hl, Bool.and_true]
    have ho : cn (!t2.1) t2.2.1 t2.2.2 = (!t2.1, t2.2.1, t2.2.2) := by
      have := cn_ok o2
      unfold cn at this ⊢
      rw [if_neg h0] at this ⊢
      rw [Prod.ext_iff] at this
      exact Prod.ext rfl this.2
    exact (rlessN_1 t1.1 t2.1 ao ao' (dlen t1.2.1) cap (dlen t2.2.1) cap' t1.2.2 t2.2.2 (!t2.1) ao' (dlen t2.2.1) cap' t2.2.2 _ _ _ w (fun W => rminus_1 t2.1 ao' (dlen t2.2.1) cap' t2.2.2 W (by omega) (by rw [beq_eq_false_iff_ne]; omega)) (fun W hW => rplusG (a1.later hW) (a2.later hW) (cn_ok o1) ho (by omega) (by omega) (by omega) (by omega) (by omega) (by omega))).mono fun r w' ⟨A, e, h, hb⟩ => ⟨A, e, h.dn, hb⟩
theorem fits_small {K : Nat} {lo hi hi' : Int} {x : Nat} {e : Int} (h : Fits lo hi x e) (hlo : 0 ≤ lo + K) (hv : x * 2 ^ (e + K).toNat < 2 ^ (hi' + K).toNat) : Fits lo hi' x e := by
  rcases h with h | ⟨h1, h2, h3⟩
  · exact .inl h
  · by_cases hx : x = 0
    · exact .inl hx
    · have hp : 2 ^ (e + K).toNat ≤ x * 2 ^ (e + K).toNat := Nat.le_mul_of_pos_left _ (by omega)
      have hlt : (e + K).toNat < (hi' + K).toNat := (Nat.pow_lt_pow_iff_right (by omega)).1 (Nat.lt_of_le_of_lt hp hv)
      refine .inr ⟨h1, by omega, ?_⟩
      rw [show (hi' + K).toNat = (hi' - e).toNat + (e + K).toNat by omega, Nat.pow_add] at hv
      exact Nat.lt_of_mul_lt_mul_right hv
theorem sv_abs (s : Bool) (x : Nat) : (sv s x).natAbs = x := by cases s <;> simp [sv]
theorem vz_abs (K : Nat) (s : Bool) (x : Nat) (e : Int) : (vz K s x e).natAbs = x * 2 ^ (e + K).toNat := by
  unfold vz
  rw [Int.natAbs_mul, sv_abs, Int.natAbs_natCast]
theorem vz_tF_le {K : Nat} (hK : 2000 ≤ K) (a : Nat) : (vz K (tF a).1 (tF a).2.1 (tF a).2.2).natAbs ≤ 2 ^ (1025 + K) := by
  rw [vz_abs]
  rcases tF_fits a with h | ⟨h1, h2, h3⟩
  · rw [h, Nat.zero_mul]; exact Nat.zero_le _
  · rw [show 1025 + K = ((1025 : Int) - (tF a).2.2).toNat + ((tF a).2.2 + K).toNat by omega, Nat.pow_add]
    exact Nat.mul_le_mul_right _ (Nat.le_of_lt h3)
theorem vz_tS {K : Nat} {lo hi : Int} {t1 t2 : Bool × Nat × Int} (h1 : Fits lo hi t1.2.1 t1.2.2) (h2 : Fits lo hi t2.2.1 t2.2.2) (e1 : 0 ≤ t1.2.2 + K) (e2 : 0 ≤ t2.2.2 + K) (hK : 0 ≤ lo + K) : vz K (tS t1 t2).1 (tS t1 t2).2.1 (tS t1 t2).2.2 = vz K t1.1 t1.2.1 t1.2.2 + vz K t2.1 t2.2.1 t2.2.2 := by
  unfold tS
  rw [vz_cnF (Fits.sum h1 h2) hK, vz_sumN e1 e2]
theorem tSum_num (xs : Nat → Nat) {K : Nat} (hK : 100000 ≤ K) : ∀ k : Nat, k ≤ 65536 → Ok (tSum xs k) ∧ Fits (-1074) 1042 (tSum xs k).2.1 (tSum xs k).2.2 ∧ (vz K (tSum xs k).1 (tSum xs k).2.1 (tSum xs k).2.2).natAbs ≤ k * 2 ^ (1025 + K)
  | 0, _ => ⟨by show Ok (false, 0, 0); unfold Ok; decide +kernel, .inl rfl, by show (vz K false 0 0).natAbs ≤ _; rw [vz_abs]; simp⟩
  | k + 1, hk => by
    obtain ⟨o, f, v⟩ := tSum_num xs hK k (by omega)
    have ft : Fits (-1074) 1042 (tF (xs k)).2.1 (tF (xs k)).2.2 := (tF_fits (xs k)).mono (Int.le_refl _) (by omega)
    have ok : Ok (tSum xs (k + 1)) := ok_cn (tS_okR f ft (by omega) (by omega) (by omega))
    have fs : Fits (-1074) 1043 (tSum xs (k + 1)).2.1 (tSum xs (k + 1)).2.2 := tS_fits f ft
    obtain ⟨-, f2, f3, -, -⟩ := o.facts
    obtain ⟨-, g2, g3, -, -⟩ := (tF_ok (xs k)).facts
    have hv : (vz K (tSum xs (k + 1)).1 (tSum xs (k + 1)).2.1 (tSum xs (k + 1)).2.2).natAbs ≤ (k + 1) * 2 ^ (1025 + K) := by
      show (vz K (tS (tSum xs k) (tF (xs k))).1 (tS (tSum xs k) (tF (xs k))).2.1 (tS (tSum xs k) (tF (xs k))).2.2).natAbs ≤ _
      rw [vz_tS f ft (by omega) (by omega) (by omega), Nat.add_mul, Nat.one_mul]
      have h1 := vz_tF_le (K := K) (by omega) (xs k)
      exact Nat.le_trans (Int.natAbs_add_le _ _) (Nat.add_le_add v h1)
    refine ⟨ok, fits_small (K := K) fs (by omega) ?_, hv⟩
    rw [vz_abs] at hv
    refine Nat.lt_of_le_of_lt hv ?_
    have e : ((1042 : Int) + K).toNat = 17 + (1025 + K) := by omega
    rw [e, Nat.pow_add 2 17 (1025 + K)]
    have hp := Nat.two_pow_pos (1025 + K)
    have h17 : k + 1 < 131072 := by omega
    rw [show (2 : Nat) ^ 17 = 131072 by decide]
    generalize 2 ^ (1025 + K) = P at *
    exact Nat.mul_lt_mul_of_pos_right h17 hp
theorem tSum_ok (xs : Nat → Nat) {k : Nat} (hk : k ≤ 65536) : Ok (tSum xs k) ∧ Fits (-1074) 1042 (tSum xs k).2.1 (tSum xs k).2.2 := by
  obtain ⟨K, hK⟩ : ∃ K : Nat, 100000 ≤ K := ⟨100000, Nat.le_refl _⟩
  have h := tSum_num xs hK k hk
  exact ⟨h.1, h.2.1⟩
theorem tSum_add (xs : Nat → Nat) {k : Nat} (hk : k ≤ 65536) : Op2 84 (tSum xs k) (tF (xs k)) (tSum xs (k + 1)) :=
  add_op (tSum_ok xs hk).1 (tF_ok (xs k)) (tS_okR (tSum_ok xs hk).2 ((tF_fits (xs k)).mono (Int.le_refl _) (by omega)) (by omega) (by omega) (by omega))
end Go.Proofs.YthkgklkhlcbmaaaGreatDoor
