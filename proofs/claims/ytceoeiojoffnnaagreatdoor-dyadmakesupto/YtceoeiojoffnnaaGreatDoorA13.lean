/- Own work: contracts of the program's functions, part A13. -/
import Derived.Test.YtceoeiojoffnnaaGreatDoorA10
import Derived.Test.YtceoeiojoffnnaaGreatDoorShelf
import Derived.Test.YtceoeiojoffnnaaGreatDoorA5
import Derived.Test.YtceoeiojoffnnaaGreatDoorA11

/- The builder of texts: its methods that write. -/
namespace Go.Proofs.YtceoeiojoffnnaaGreatDoor
set_option linter.unusedVariables false
set_option linter.unusedSimpArgs false
open Go.RowKit

theorem bld_size : (Tryz.prog.info? 96).map (·.size) = some 2 := by kernel_rfl
theorem bld_lies : liesAt Tryz.prog Tryz.prog.depth 96 (2 / Tryz.prog.cellsOf 96) 0 96 1 = true := by kernel_rfl
theorem byte_info : (Tryz.prog.info? 5).map (fun i => (i.zero, i.size, i.bytes)) = some (some (.int .u8 0), 1, 1) := by kernel_rfl

set_option maxHeartbeats 1000000 in
set_option maxRecDepth 100000 in
theorem c92_used (b : Nat) (w : World) (h0 : w.cell? ⟨b, 0, none⟩ = some (.pointer (some ⟨b, 0, none⟩))) :
    Calls Tryz.prog 92 #[.pointer (some ⟨b, 0, none⟩)] w fun e w' => e = .returned (.tuple #[]) ∧ w' = w := by
  obtain ⟨j, hj, _⟩ := Option.map_eq_some_iff.1 bld_size
  go_enter Tryz.func92, Tryz.ntmps92
  go_wp2
  rw [Lib.run_neq_ptr_same w _ Tryz.underlying93 hj]
  go_wp2
  go_end0
  exact ⟨rfl, rfl⟩
set_option maxHeartbeats 1000000 in
set_option maxRecDepth 100000 in
theorem c92_fresh (b : Nat) (w : World) (h0 : w.cell? ⟨b, 0, none⟩ = some (.pointer none)) (hsh : w.shape? b = some (96, 2)) (hfz : w.frozen? ⟨b, 0, none⟩ = false) :
    Calls Tryz.prog 92 #[.pointer (some ⟨b, 0, none⟩)] w fun e w' => e = .returned (.tuple #[]) ∧ w' = w.setCell ⟨b, 0, none⟩ (.pointer (some ⟨b, 0, none⟩)) := by
  obtain ⟨j, hj, hjs⟩ := Option.map_eq_some_iff.1 bld_size
  go_enter Tryz.func92, Tryz.ntmps92
  go_wp2
  rw [Lib.run_to_unsafe w ⟨b, 0, none⟩ Tryz.underlying93 Tryz.underlying131 hj (by rw [hjs]; decide) hsh (Nat.zero_lt_succ 1)]
  simp only [Result.andThen]
  rw [Oper.upon_value]
  go_wp2
  rw [run_callFunc_extern Tryz.func109 (by kernel_rfl) (by kernel_rfl) (by kernel_rfl) (e := Extern.AbiNoEscape.same) (by kernel_rfl)]
  rw [Lib.run_noEscape]
  simp only [Result.andThen]
  rw [Oper.upon_value]
  go_wp2
  rw [Lib.run_from_unsafe w ⟨b, 0, none⟩ Tryz.underlying131 Tryz.underlying93 hj hsh bld_lies]
  simp only [Result.andThen]
  rw [Oper.upon_value]
  go_wp2
  go_end0
  exact ⟨rfl, rfl⟩

/-- a builder at b, its row and itself made from B on, that holds the bytes bs -/
abbrev Bd (B b : Nat) (bs : List Value) (w : World) : Prop := Lib.IsBuilder 96 5 B b bs w

theorem c92 {B b : Nat} {bs : List Value} {w : World} (h : Bd B b bs w) :
    Calls Tryz.prog 92 #[.pointer (some ⟨b, 0, none⟩)] w fun e w' => e = .returned (.tuple #[]) ∧ Lib.BuilderAt 96 5 B b (.pointer (some ⟨b, 0, none⟩)) bs w' ∧ Below B w w' := by
  rcases h with h | h
  · refine (c92_fresh b w h.cell0 h.shape h.frozen0).mono ?_
    rintro e w' ⟨rfl, rfl⟩
    exact ⟨rfl, h.used _, (Below.refl B w).setCell (p := ⟨b, 0, none⟩) h.1 _⟩
  · refine (c92_used b w h.cell0).mono ?_
    rintro e w' ⟨rfl, rfl⟩
    exact ⟨rfl, h, Below.refl B _⟩

set_option maxHeartbeats 2000000 in
set_option maxRecDepth 100000 in
theorem c70 {B b : Nat} {bs : List Value} {w : World} (c : Int) (h : Bd B b bs w) (hlen : bs.length + 1 ≤ 140737488355328) (hBw : B ≤ w.heap.size) :
    Calls Tryz.prog 70 #[.pointer (some ⟨b, 0, none⟩), .int .u8 c] w fun e w' => e = .returned .nilIface ∧ Bd B b (bs ++ [.int .u8 c]) w' ∧ Below B w w' := by
  obtain ⟨i0, hi, hz0, hz1, hz2⟩ := info_parts byte_info
  have k := c92 h
  clear h
  go_enter Tryz.func70, Tryz.ntmps70
  go_wp2_with fail
  refine k.mono ?_
  rintro e w1 ⟨rfl, ⟨hB, v, hbk, hown, hne⟩, hb1⟩
  clear k
  have hs1 := hb1.size
  have c0 : w1.cell? ⟨b, 0, none⟩ = some (.pointer (some ⟨b, 0, none⟩)) := by rw [Lib.cell_of_heap hbk]; rfl
  have c1 : w1.cell? ⟨b, 1, none⟩ = some v := by rw [Lib.cell_of_heap hbk]; rfl
  have hlt : b < w1.heap.size := (Array.getElem?_eq_some_iff.1 hbk).1
  go_wp2_with (at_builtin; refine wpList_append_own _ rfl _ _ 94 rfl B 5 i0 (.int .u8 0) 1 1 Tryz.underlying94 hi hz0 hz1 hz2 rfl (by decide) _ _ _ rfl (hown.alloc _) ⟨w1.heap.size, 0, none⟩ 1 1 [.int .u8 c] rfl rfl (cell_one_new _ _ _) (by intro u hu; simp at hu; subst hu; rfl) (by unfold maxLen; omega) (by omega) (by simp; omega) ?_)
  intro v' w2 hown' hgrow _
  have hb2 : w2.heap[b]? = some (.cells #[.pointer (some ⟨b, 0, none⟩), v] 96 (0, 0)) := by
    rw [hgrow.block b (by simp; omega) (fun e => hne e.symm), Lib.alloc_old w1 _ b hlt]
    exact hbk
  have d0 : w2.cell? ⟨b, 0, none⟩ = some (.pointer (some ⟨b, 0, none⟩)) := by rw [Lib.cell_of_heap hb2]; rfl
  have d1 : w2.cell? ⟨b, 1, none⟩ = some v := by rw [Lib.cell_of_heap hb2]; rfl
  have f1 : w2.frozen? ⟨b, 1, none⟩ = false := Lib.frozen_of_heap hb2 1
  obtain ⟨ao, n', cap, rfl⟩ : ∃ ao n' cap, v' = .slice ao n' cap := by
    rcases hown'.2 with ⟨hv, _⟩ | ⟨g, cap, cur, hv, _⟩
    · exact ⟨_, _, _, hv⟩
    · exact ⟨_, _, _, hv⟩
  go_wp2
  go_ret
  refine ⟨rfl, .inr (Lib.BuilderAt.put (T := 96) (e := 5) hB hb2 (bs' := bs ++ [.int .u8 c]) (by simpa using hown') (by decide)), ?_⟩
  exact ((hb1.alloc (by omega) _).grown hgrow (by simp; omega) (fun k hk => (hown.lt k hk).1)).setCell (p := ⟨b, 1, none⟩) hB _

set_option maxHeartbeats 2000000 in
set_option maxRecDepth 100000 in
theorem c71 {B b : Nat} {bs : List Value} {w : World} (s : ByteArray) (h : Bd B b bs w) (hlen : bs.length + s.size ≤ 140737488355328) (hBw : B ≤ w.heap.size) :
    Calls Tryz.prog 71 #[.pointer (some ⟨b, 0, none⟩), .string s] w fun e w' => e = .returned (.tuple #[.int .i64 s.size, .nilIface]) ∧ Bd B b (bs ++ Lib.strCells s) w' ∧ Below B w w' := by
  obtain ⟨i0, hi, hz0, hz1, hz2⟩ := info_parts byte_info
  have k := c92 h
  clear h
  go_enter Tryz.func71, Tryz.ntmps71
  go_wp2_with fail
  refine k.mono ?_
  rintro e w1 ⟨rfl, ⟨hB, v, hbk, hown, hne⟩, hb1⟩
  clear k
  have hs1 := hb1.size
  have c0 : w1.cell? ⟨b, 0, none⟩ = some (.pointer (some ⟨b, 0, none⟩)) := by rw [Lib.cell_of_heap hbk]; rfl
  have c1 : w1.cell? ⟨b, 1, none⟩ = some v := by rw [Lib.cell_of_heap hbk]; rfl
  have hlt : b < w1.heap.size := (Array.getElem?_eq_some_iff.1 hbk).1
  go_wp2_with (at_builtin; refine Lib.wpList_append_own_string _ rfl _ _ 94 9 rfl B 5 i0 Tryz.underlying94 Tryz.underlying9 hi hz0 hz1 hz2 _ _ _ rfl hown s rfl (by unfold maxLen; omega) (by omega) (by omega) ?_)
  intro v' w2 hown' hgrow _
  have hb2 : w2.heap[b]? = some (.cells #[.pointer (some ⟨b, 0, none⟩), v] 96 (0, 0)) := by
    rw [hgrow.block b hlt (fun e => hne e.symm)]
    exact hbk
  have d0 : w2.cell? ⟨b, 0, none⟩ = some (.pointer (some ⟨b, 0, none⟩)) := by rw [Lib.cell_of_heap hb2]; rfl
  have d1 : w2.cell? ⟨b, 1, none⟩ = some v := by rw [Lib.cell_of_heap hb2]; rfl
  have f1 : w2.frozen? ⟨b, 1, none⟩ = false := Lib.frozen_of_heap hb2 1
  obtain ⟨ao, n', cap, rfl⟩ : ∃ ao n' cap, v' = .slice ao n' cap := by
    rcases hown'.2 with ⟨hv, _⟩ | ⟨g, cap, cur, hv, _⟩
    · exact ⟨_, _, _, hv⟩
    · exact ⟨_, _, _, hv⟩
  go_wp2
  go_ret2
  refine ⟨rfl, .inr (Lib.BuilderAt.put (T := 96) (e := 5) hB hb2 (bs' := bs ++ Lib.strCells s) (by simpa [Lib.strCells_length] using hown') (by decide)), ?_⟩
  exact (hb1.grown hgrow (by omega) (fun k hk => (hown.lt k hk).1)).setCell (p := ⟨b, 1, none⟩) hB _

theorem Bd.later {B b : Nat} {bs : List Value} {w w' : World} (h : Bd B b bs w) (hb : Below w.heap.size w w') : Bd B b bs w' := by
  have key : ∀ p, Lib.BuilderAt 96 5 B b p bs w → Lib.BuilderAt 96 5 B b p bs w' := fun p ⟨h1, v, h2, h3, h4⟩ => by
    refine ⟨h1, v, (hb.block b (Array.getElem?_eq_some_iff.1 h2).1).trans h2, ⟨h3.1, ?_⟩, h4⟩
    rcases h3.2 with h5 | ⟨g, cap, cur, e1, e2, e3, e4⟩
    · exact .inl h5
    · exact .inr ⟨g, cap, cur, e1, e2, (hb.block g (Array.getElem?_eq_some_iff.1 e3).1).trans e3, e4⟩
  rcases h with h | h
  · exact .inl (key _ h)
  · exact .inr (key _ h)
theorem Bd.new (w : World) : Bd w.heap.size w.heap.size [] (w.alloc (.cells #[.pointer none, .slice none 0 0] 96)) :=
  .inl ⟨Nat.le_refl _, .slice none 0 0, heap_alloc_new _ _, World.ownsRow_nil .., by simp [Value.ownBlock]⟩
end Go.Proofs.YtceoeiojoffnnaaGreatDoor

/- Show, of a number of one digit. -/
namespace Go.Proofs.YtceoeiojoffnnaaGreatDoor
set_option linter.unusedVariables false
set_option linter.unusedSimpArgs false
open Go.RowKit

set_option maxHeartbeats 4000000 in
set_option maxRecDepth 200000 in
theorem c37_pos (b o uc d : Nat) (ea : Int) (H T : List UInt8) (w : World) (hcell : w.cell? ⟨b, o, none⟩ = some (.int .u32 (d : Int))) (hH : H.length ≤ 1000) (hT : T.length ≤ 1000) (hd : d < 4294967296) (huc : 1 ≤ uc)
    (k43 : ∀ W g, Below w.heap.size w W → W.heap[g]? = some (.cells #[.bool false, .slice (some ⟨b, o, none⟩) 1 uc, .int .i64 ea] 25 (0, 0)) → Calls Tryz.prog 43 #[.slice (some ⟨g, 0, none⟩) 1 1] W fun r w' => r = .returned (.bool true) ∧ Below W.heap.size W w')
    (k72 : ∀ W, Below w.heap.size w W → Calls Tryz.prog 72 #[.int .u64 (d : Int), .int .i64 16] W fun e w' => e = .returned (.string ⟨H.toArray⟩) ∧ Below W.heap.size W w')
    (k74 : ∀ W, Below w.heap.size w W → Calls Tryz.prog 74 #[.int .i64 ea] W fun e w' => e = .returned (.string ⟨T.toArray⟩) ∧ Below W.heap.size W w') :
    Calls Tryz.prog 37 #[.agg #[.bool false, .slice (some ⟨b, o, none⟩) 1 uc, .int .i64 ea]] w fun e w' => e = .returned (.string ⟨(H ++ 112 :: T).toArray⟩) ∧ Below w.heap.size w w' := by
  obtain ⟨W, hW⟩ : ∃ W, W = w.alloc (.cells #[.bool false, .slice (some ⟨b, o, none⟩) 1 uc, .int .i64 ea] 25) := ⟨_, rfl⟩
  have hBW : Below w.heap.size w W := by rw [hW]; exact (Below.refl _ _).alloc (Nat.le_refl _) _
  have hsz : W.heap.size = w.heap.size + 1 := by rw [hW]; simp
  have hbx : W.heap[w.heap.size]? = some (.cells #[.bool false, .slice (some ⟨b, o, none⟩) 1 uc, .int .i64 ea] 25 (0, 0)) := by rw [hW]; exact heap_alloc_new _ _
  have hlt : b < w.heap.size := World.block_lt_of_cell? _ _ hcell
  have HX : Hid (Below w.heap.size w W ∧ W.heap.size = w.heap.size + 1 ∧ W.heap[w.heap.size]? = some (.cells #[.bool false, .slice (some ⟨b, o, none⟩) 1 uc, .int .i64 ea] 25 (0, 0)) ∧ w.cell? ⟨b, o, none⟩ = some (.int .u32 (d : Int)) ∧ b < w.heap.size) := ⟨hBW, hsz, hbx, hcell, hlt⟩
  have HCL : Hid (∀ W', Below W.heap.size W W' → (W'.cell? ⟨w.heap.size, 0, none⟩ = some (.bool false) ∧ W'.cell? ⟨w.heap.size, 1, none⟩ = some (.slice (some ⟨b, o, none⟩) 1 uc) ∧ W'.cell? ⟨w.heap.size, 2, none⟩ = some (.int .i64 ea)) ∧ W'.cell? ⟨b, o, none⟩ = some (.int .u32 (d : Int)) ∧ Below w.heap.size w W') := fun W' h =>
    ⟨(box_cells (box_later hbx h (by omega))).1, ((h.cell (p := ⟨b, o, none⟩) (by show b < W.heap.size; omega)).trans (hBW.cell hlt)).trans hcell, hBW.trans (h.mono hBW.size)⟩
  have k1 := k43 (W.alloc (.cells #[.bool false, .slice (some ⟨b, o, none⟩) 1 uc, .int .i64 ea] 25)) (w.heap.size + 1) (hBW.alloc hBW.size _) (by rw [← hsz]; exact heap_alloc_new _ _)
  have HK72 : Hid (∀ W, Below w.heap.size w W → Calls Tryz.prog 72 #[.int .u64 (d : Int), .int .i64 16] W fun e w' => e = .returned (.string ⟨H.toArray⟩) ∧ Below W.heap.size W w') := k72
  have HK74 : Hid (∀ W, Below w.heap.size w W → Calls Tryz.prog 74 #[.int .i64 ea] W fun e w' => e = .returned (.string ⟨T.toArray⟩) ∧ Below W.heap.size W w') := k74
  have HL : Hid (H.length ≤ 1000 ∧ T.length ≤ 1000) := ⟨hH, hT⟩
  clear hBW hsz hbx hcell hlt k43 k72 k74 hH hT
  go_enter Tryz.func37, Tryz.ntmps37
  go_wp2_with fail
  rw [← hW]
  clear hW
  refine k1.mono ?_
  rintro r w1 ⟨rfl, hb1⟩
  clear k1
  have HB1 : Hid (Below W.heap.size W w1) := ((Below.refl W.heap.size W).alloc (Nat.le_refl _) _).trans (hb1.mono (by simp))
  clear hb1
  obtain ⟨⟨x0, x1, x2⟩, x3, -⟩ := HCL.out w1 HB1.out
  obtain ⟨W2, hW2⟩ : ∃ W2, W2 = w1.alloc (.cells #[.pointer none, .slice none 0 0] 96) := ⟨_, rfl⟩
  have HD0 : Hid (Bd w1.heap.size w1.heap.size [] W2 ∧ Below w1.heap.size w1 W2) := ⟨by rw [hW2]; exact Bd.new w1, by rw [hW2]; exact (Below.refl _ _).alloc (Nat.le_refl _) _⟩
  obtain ⟨⟨y0, y1, y2⟩, y3, -⟩ := HCL.out W2 (HB1.out.trans (HD0.out.2.mono HB1.out.size))
  rw [hW2] at y0 y1 y2 y3
  have k3 := HK72.out W2 (HCL.out W2 (HB1.out.trans (HD0.out.2.mono HB1.out.size))).2.2
  go_wp2_with fail
  rw [← hW2]
  clear hW2
  refine k3.mono ?_
  rintro r w3 ⟨rfl, hb3⟩
  have HD3 : Hid (Bd w1.heap.size w1.heap.size [] w3 ∧ Below w1.heap.size w1 w3) := ⟨HD0.out.1.later hb3, HD0.out.2.trans (hb3.mono HD0.out.2.size)⟩
  clear k3 hb3
  have k4 := c71 ⟨H.toArray⟩ HD3.out.1 (by have := HL.out.1; simp [ByteArray.size]; omega) HD3.out.2.size
  go_wp2_with fail
  refine k4.mono ?_
  rintro r w4 ⟨rfl, hd4, hb4⟩
  have HD4 : Hid (Bd w1.heap.size w1.heap.size ([] ++ Lib.strCells ⟨H.toArray⟩) w4 ∧ Below w1.heap.size w1 w4) := ⟨hd4, HD3.out.2.trans hb4⟩
  clear k4 hd4 hb4
  go_wp2_with fail
  go_loop [5] (fun v => v = .int .i64 (-1)) (fun _ => 0)
  case atStart => rfl
  case round =>
    subst hrel
    have k5 := c70 112 HD4.out.1 (by have := HL.out.1; simp [Lib.strCells_length, ByteArray.size]; omega) HD4.out.2.size
    go_wp2_with fail
    refine k5.mono ?_
    rintro r w5 ⟨rfl, hd5, hb5⟩
    have HD5 : Hid (Bd w1.heap.size w1.heap.size ([] ++ Lib.strCells ⟨H.toArray⟩ ++ [.int .u8 112]) w5 ∧ Below w1.heap.size w1 w5) := ⟨hd5, HD4.out.2.trans hb5⟩
    clear k5 hd5 hb5
    obtain ⟨⟨z0, z1, z2⟩, z3, z4⟩ := HCL.out w5 (HB1.out.trans (HD5.out.2.mono HB1.out.size))
    have k6 := HK74.out w5 z4
    clear z4
    go_wp2_with fail
    refine k6.mono ?_
    rintro r w6 ⟨rfl, hb6⟩
    have HD6 : Hid (Bd w1.heap.size w1.heap.size ([] ++ Lib.strCells ⟨H.toArray⟩ ++ [.int .u8 112]) w6 ∧ Below w1.heap.size w1 w6) := ⟨HD5.out.1.later hb6, HD5.out.2.trans (hb6.mono HD5.out.2.size)⟩
    clear k6 hb6
    have k7 := c71 ⟨T.toArray⟩ HD6.out.1 (by have := HL.out.1; have := HL.out.2; simp [Lib.strCells_length, ByteArray.size]; omega) HD6.out.2.size
    go_wp2_with fail
    refine k7.mono ?_
    rintro r w7 ⟨rfl, hd7, hb7⟩
    have e7 : ([] : List Value) ++ Lib.strCells ⟨H.toArray⟩ ++ [.int .u8 112] ++ Lib.strCells ⟨T.toArray⟩ = Lib.byteCells (H ++ [112] ++ T) := by simp [Lib.byteCells, Lib.strCells]
    rw [e7] at hd7
    have HB7 : Hid (Below w1.heap.size w1 w7) := HD6.out.2.trans hb7
    have k8 := Tryz.Builder_String _ _ _ _ hd7 (by simp)
    clear k7 hd7 hb7
    go_wp2_with fail
    refine k8.mono ?_
    rintro r w8 ⟨rfl, hb8⟩
    have HB8 : Hid (Below w.heap.size w w8) := (HCL.out w8 (HB1.out.trans ((HB7.out.trans hb8).mono HB1.out.size))).2.2
    clear k8 hb8
    go_wp2_with fail
    go_ret
    exact ⟨rfl, HB8.out⟩

set_option maxHeartbeats 4000000 in
set_option maxRecDepth 200000 in
theorem c37_neg (b o uc d : Nat) (ea : Int) (H T : List UInt8) (w : World) (hcell : w.cell? ⟨b, o, none⟩ = some (.int .u32 (d : Int))) (hH : H.length ≤ 1000) (hT : T.length ≤ 1000) (hd : d < 4294967296) (huc : 1 ≤ uc)
    (k43 : ∀ W g, Below w.heap.size w W → W.heap[g]? = some (.cells #[.bool true, .slice (some ⟨b, o, none⟩) 1 uc, .int .i64 ea] 25 (0, 0)) → Calls Tryz.prog 43 #[.slice (some ⟨g, 0, none⟩) 1 1] W fun r w' => r = .returned (.bool true) ∧ Below W.heap.size W w')
    (k72 : ∀ W, Below w.heap.size w W → Calls Tryz.prog 72 #[.int .u64 (d : Int), .int .i64 16] W fun e w' => e = .returned (.string ⟨H.toArray⟩) ∧ Below W.heap.size W w')
    (k74 : ∀ W, Below w.heap.size w W → Calls Tryz.prog 74 #[.int .i64 ea] W fun e w' => e = .returned (.string ⟨T.toArray⟩) ∧ Below W.heap.size W w') :
    Calls Tryz.prog 37 #[.agg #[.bool true, .slice (some ⟨b, o, none⟩) 1 uc, .int .i64 ea]] w fun e w' => e = .returned (.string ⟨(45 :: (H ++ 112 :: T)).toArray⟩) ∧ Below w.heap.size w w' := by
  obtain ⟨W, hW⟩ : ∃ W, W = w.alloc (.cells #[.bool true, .slice (some ⟨b, o, none⟩) 1 uc, .int .i64 ea] 25) := ⟨_, rfl⟩
  have hBW : Below w.heap.size w W := by rw [hW]; exact (Below.refl _ _).alloc (Nat.le_refl _) _
  have hsz : W.heap.size = w.heap.size + 1 := by rw [hW]; simp
  have hbx : W.heap[w.heap.size]? = some (.cells #[.bool true, .slice (some ⟨b, o, none⟩) 1 uc, .int .i64 ea] 25 (0, 0)) := by rw [hW]; exact heap_alloc_new _ _
  have hlt : b < w.heap.size := World.block_lt_of_cell? _ _ hcell
  have HX : Hid (Below w.heap.size w W ∧ W.heap.size = w.heap.size + 1 ∧ W.heap[w.heap.size]? = some (.cells #[.bool true, .slice (some ⟨b, o, none⟩) 1 uc, .int .i64 ea] 25 (0, 0)) ∧ w.cell? ⟨b, o, none⟩ = some (.int .u32 (d : Int)) ∧ b < w.heap.size) := ⟨hBW, hsz, hbx, hcell, hlt⟩
  have HCL : Hid (∀ W', Below W.heap.size W W' → (W'.cell? ⟨w.heap.size, 0, none⟩ = some (.bool true) ∧ W'.cell? ⟨w.heap.size, 1, none⟩ = some (.slice (some ⟨b, o, none⟩) 1 uc) ∧ W'.cell? ⟨w.heap.size, 2, none⟩ = some (.int .i64 ea)) ∧ W'.cell? ⟨b, o, none⟩ = some (.int .u32 (d : Int)) ∧ Below w.heap.size w W') := fun W' h =>
    ⟨(box_cells (box_later hbx h (by omega))).1, ((h.cell (p := ⟨b, o, none⟩) (by show b < W.heap.size; omega)).trans (hBW.cell hlt)).trans hcell, hBW.trans (h.mono hBW.size)⟩
  have k1 := k43 (W.alloc (.cells #[.bool true, .slice (some ⟨b, o, none⟩) 1 uc, .int .i64 ea] 25)) (w.heap.size + 1) (hBW.alloc hBW.size _) (by rw [← hsz]; exact heap_alloc_new _ _)
  have HK72 : Hid (∀ W, Below w.heap.size w W → Calls Tryz.prog 72 #[.int .u64 (d : Int), .int .i64 16] W fun e w' => e = .returned (.string ⟨H.toArray⟩) ∧ Below W.heap.size W w') := k72
  have HK74 : Hid (∀ W, Below w.heap.size w W → Calls Tryz.prog 74 #[.int .i64 ea] W fun e w' => e = .returned (.string ⟨T.toArray⟩) ∧ Below W.heap.size W w') := k74
  have HL : Hid (H.length ≤ 1000 ∧ T.length ≤ 1000) := ⟨hH, hT⟩
  clear hBW hsz hbx hcell hlt k43 k72 k74 hH hT
  go_enter Tryz.func37, Tryz.ntmps37
  go_wp2_with fail
  rw [← hW]
  clear hW
  refine k1.mono ?_
  rintro r w1 ⟨rfl, hb1⟩
  clear k1
  have HB1 : Hid (Below W.heap.size W w1) := ((Below.refl W.heap.size W).alloc (Nat.le_refl _) _).trans (hb1.mono (by simp))
  clear hb1
  obtain ⟨⟨x0, x1, x2⟩, x3, -⟩ := HCL.out w1 HB1.out
  obtain ⟨W2, hW2⟩ : ∃ W2, W2 = w1.alloc (.cells #[.pointer none, .slice none 0 0] 96) := ⟨_, rfl⟩
  have HD0 : Hid (Bd w1.heap.size w1.heap.size [] W2 ∧ Below w1.heap.size w1 W2) := ⟨by rw [hW2]; exact Bd.new w1, by rw [hW2]; exact (Below.refl _ _).alloc (Nat.le_refl _) _⟩
  obtain ⟨⟨y0, y1, y2⟩, y3, -⟩ := HCL.out W2 (HB1.out.trans (HD0.out.2.mono HB1.out.size))
  rw [hW2] at y0 y1 y2 y3
  have k2 := c70 45 HD0.out.1 (by simp) HD0.out.2.size
  go_wp2_with fail
  rw [← hW2]
  clear hW2
  refine k2.mono ?_
  rintro r w2 ⟨rfl, hd2, hb2⟩
  have HD2 : Hid (Bd w1.heap.size w1.heap.size ([] ++ [.int .u8 45]) w2 ∧ Below w1.heap.size w1 w2) := ⟨hd2, HD0.out.2.trans hb2⟩
  clear k2 hd2 hb2 x0 x1 x2 x3 y0 y1 y2 y3
  obtain ⟨⟨x0, x1, x2⟩, x3, -⟩ := HCL.out w2 (HB1.out.trans (HD2.out.2.mono HB1.out.size))
  have k3 := HK72.out w2 (HCL.out w2 (HB1.out.trans (HD2.out.2.mono HB1.out.size))).2.2
  go_wp2_with fail
  refine k3.mono ?_
  rintro r w3 ⟨rfl, hb3⟩
  have HD3 : Hid (Bd w1.heap.size w1.heap.size ([] ++ [.int .u8 45]) w3 ∧ Below w1.heap.size w1 w3) := ⟨HD2.out.1.later hb3, HD2.out.2.trans (hb3.mono HD2.out.2.size)⟩
  clear k3 hb3
  have k4 := c71 ⟨H.toArray⟩ HD3.out.1 (by have := HL.out.1; simp [ByteArray.size]; omega) HD3.out.2.size
  go_wp2_with fail
  refine k4.mono ?_
  rintro r w4 ⟨rfl, hd4, hb4⟩
  have HD4 : Hid (Bd w1.heap.size w1.heap.size (([] ++ [.int .u8 45]) ++ Lib.strCells ⟨H.toArray⟩) w4 ∧ Below w1.heap.size w1 w4) := ⟨hd4, HD3.out.2.trans hb4⟩
  clear k4 hd4 hb4
  go_wp2_with fail
  go_loop [5] (fun v => v = .int .i64 (-1)) (fun _ => 0)
  case atStart => rfl
  case round =>
    subst hrel
    have k5 := c70 112 HD4.out.1 (by have := HL.out.1; simp [Lib.strCells_length, ByteArray.size]; omega) HD4.out.2.size
    go_wp2_with fail
    refine k5.mono ?_
    rintro r w5 ⟨rfl, hd5, hb5⟩
    have HD5 : Hid (Bd w1.heap.size w1.heap.size (([] ++ [.int .u8 45]) ++ Lib.strCells ⟨H.toArray⟩ ++ [.int .u8 112]) w5 ∧ Below w1.heap.size w1 w5) := ⟨hd5, HD4.out.2.trans hb5⟩
    clear k5 hd5 hb5
    obtain ⟨⟨z0, z1, z2⟩, z3, z4⟩ := HCL.out w5 (HB1.out.trans (HD5.out.2.mono HB1.out.size))
    have k6 := HK74.out w5 z4
    clear z4
    go_wp2_with fail
    refine k6.mono ?_
    rintro r w6 ⟨rfl, hb6⟩
    have HD6 : Hid (Bd w1.heap.size w1.heap.size (([] ++ [.int .u8 45]) ++ Lib.strCells ⟨H.toArray⟩ ++ [.int .u8 112]) w6 ∧ Below w1.heap.size w1 w6) := ⟨HD5.out.1.later hb6, HD5.out.2.trans (hb6.mono HD5.out.2.size)⟩
    clear k6 hb6
    have k7 := c71 ⟨T.toArray⟩ HD6.out.1 (by have := HL.out.1; have := HL.out.2; simp [Lib.strCells_length, ByteArray.size]; omega) HD6.out.2.size
    go_wp2_with fail
    refine k7.mono ?_
    rintro r w7 ⟨rfl, hd7, hb7⟩
    have e7 : (([] ++ [.int .u8 45]) : List Value) ++ Lib.strCells ⟨H.toArray⟩ ++ [.int .u8 112] ++ Lib.strCells ⟨T.toArray⟩ = Lib.byteCells ([45] ++ H ++ [112] ++ T) := by simp [Lib.byteCells, Lib.strCells]
    rw [e7] at hd7
    have HB7 : Hid (Below w1.heap.size w1 w7) := HD6.out.2.trans hb7
    have k8 := Tryz.Builder_String _ _ _ _ hd7 (by simp)
    clear k7 hd7 hb7
    go_wp2_with fail
    refine k8.mono ?_
    rintro r w8 ⟨rfl, hb8⟩
    have HB8 : Hid (Below w.heap.size w w8) := (HCL.out w8 (HB1.out.trans ((HB7.out.trans hb8).mono HB1.out.size))).2.2
    clear k8 hb8
    go_wp2_with fail
    go_ret
    exact ⟨rfl, HB8.out⟩
end Go.Proofs.YtceoeiojoffnnaaGreatDoor
