/- Own work: contracts of the program's functions, part 7: Shelf S1 S2 T1 T2 T3 T4 R4 R5 E1 Tab F3 F4 G1 G2 Q1 Q2. -/
import Derived.Shelf.Strings.Builder1
import Derived.Shelf.LaysM
import Derived.Shelf.Strconv.Itoa3
import Derived.Test.YtbmaoiemgepppaaGreatDoorProg
import Derived.Test.YtbmaoiemgepppaaGreatDoorA5
import Derived.Test.YtbmaoiemgepppaaGreatDoorA3
import Derived.Test.YtbmaoiemgepppaaGreatDoorA6
import Derived.Lib.LaidTab
import Derived.Deep.CutRange
import Derived.Deep.RegionLawGrows
import Derived.Deep.RegionHeld3
import Derived.Laws.AppendOwnNone

/- The library's contracts at this program that are used: the builder's text, a whole number's decimal digits. -/
namespace Go.Proofs
open Go.Shelf
def Tryz.lays169_ren : Go.Shelf.Ren := ⟨fun | 169 => 41 | n => n, fun | 70 => 69 | 9 => 9 | 0 => 0 | 72 => 72 | 37 => 70 | 127 => 112 | 3 => 3 | 5 => 5 | n => n, fun | n => n⟩
theorem Tryz.lays169 : Go.Proofs.Lays.n169 Tryz.prog Tryz.lays169_ren := {
  mixed := by kernel_rfl
  f169 := Tryz.func41.trans (congrArg some (by kernel_rfl))
  t0 := Tryz.underlying0
  a0 := Tryz.isAgg0
  z0 := Tryz.sizeOf0
  v0 := Tryz.zeroValue0
  t3 := Tryz.underlying3
  a3 := Tryz.isAgg3
  z3 := Tryz.sizeOf3
  v3 := Tryz.zeroValue3
  t9 := Tryz.underlying9
  a9 := Tryz.isAgg9
  z9 := Tryz.sizeOf9
  v9 := Tryz.zeroValue9
  t37 := Tryz.underlying70
  a37 := Tryz.isAgg70
  z37 := Tryz.sizeOf70
  v37 := Tryz.zeroValue70
  t70 := Tryz.underlying69
  a70 := Tryz.isAgg69
  z70 := Tryz.sizeOf69
  v70 := Tryz.zeroValue69
  t72 := Tryz.underlying72
  a72 := Tryz.isAgg72
  z72 := Tryz.sizeOf72
  v72 := Tryz.zeroValue72
  t127 := Tryz.underlying112
  a127 := Tryz.isAgg112
  z127 := Tryz.sizeOf112
  v127 := Tryz.zeroValue112 }
theorem Tryz.Builder_Extra_169 : Builder.Extra Tryz.prog Tryz.lays169_ren := {
  sizeBuilder := by kernel_rfl
  liesBuilder := by kernel_rfl
  t5 := Tryz.underlying5
  a5 := Tryz.isAgg5
  z5 := Tryz.sizeOf5
  v5 := Tryz.zeroValue5
  infoByte := by kernel_rfl
  cellsByte := by kernel_rfl
  sizeByte := by kernel_rfl
  neB5 := by decide }
open Go.RowKit in
theorem Tryz.Builder_String (B b : Nat) (l : List UInt8) (w : World) (h : Lib.IsBuilder 72 5 B b (Lib.byteCells l) w) (h0 : l ≠ []) :
    Calls Tryz.prog 41 #[.pointer (some ⟨b, 0, none⟩)] w fun e w' => e = .returned (.string ⟨l.toArray⟩) ∧ Below B w w' := Any.Builder_String Tryz.lays169 Tryz.Builder_Extra_169 B b l w h h0
def Tryz.laysM171_ren : Go.Shelf.Ren := ⟨fun | 171 => 40 | 243 => 77 | 246 => 115 | 283 => 108 | 284 => 109 | 285 => 110 | 286 => 111 | 129 => 135 | 317 => 134 | 318 => 136 | 319 => 137 | 320 => 138 | 337 => 117 | 338 => 80 | n => n, fun | 3 => 3 | 9 => 9 | 2 => 2 | 4 => 4 | 171 => 136 | 0 => 0 | 53 => 65 | 37 => 70 | 5 => 5 | 173 => 138 | 212 => 158 | 51 => 49 | 20 => 20 | 213 => 159 | 46 => 78 | 232 => 161 | 233 => 146 | n => n, fun | 17 => 5 | 18 => 6 | 19 => 4 | n => n⟩
theorem Tryz.laysM171 : Go.Proofs.LaysM.n171 Tryz.prog Tryz.laysM171_ren := {
  mixed := by kernel_rfl
  f129 := Tryz.func135.trans (congrArg some (by kernel_rfl))
  f171 := Tryz.func40.trans (congrArg some (by kernel_rfl))
  f243 := Tryz.func77.trans (congrArg some (by kernel_rfl))
  f246 := Tryz.func115.trans (congrArg some (by kernel_rfl))
  f283 := Tryz.func108.trans (congrArg some (by kernel_rfl))
  f284 := Tryz.func109.trans (congrArg some (by kernel_rfl))
  f285 := Tryz.func110.trans (congrArg some (by kernel_rfl))
  f286 := Tryz.func111.trans (congrArg some (by kernel_rfl))
  f317 := Tryz.func134.trans (congrArg some (by kernel_rfl))
  f318 := Tryz.func136.trans (congrArg some (by kernel_rfl))
  f319 := Tryz.func137.trans (congrArg some (by kernel_rfl))
  f320 := Tryz.func138.trans (congrArg some (by kernel_rfl))
  f337 := Tryz.func117.trans (congrArg some (by kernel_rfl))
  f338 := Tryz.func80.trans (congrArg some (by kernel_rfl))
  t0 := Tryz.underlying0
  a0 := Tryz.isAgg0
  z0 := Tryz.sizeOf0
  v0 := Tryz.zeroValue0
  t2 := Tryz.underlying2
  a2 := Tryz.isAgg2
  z2 := Tryz.sizeOf2
  v2 := Tryz.zeroValue2
  t3 := Tryz.underlying3
  a3 := Tryz.isAgg3
  z3 := Tryz.sizeOf3
  v3 := Tryz.zeroValue3
  t4 := Tryz.underlying4
  a4 := Tryz.isAgg4
  z4 := Tryz.sizeOf4
  v4 := Tryz.zeroValue4
  t5 := Tryz.underlying5
  a5 := Tryz.isAgg5
  z5 := Tryz.sizeOf5
  v5 := Tryz.zeroValue5
  t9 := Tryz.underlying9
  a9 := Tryz.isAgg9
  z9 := Tryz.sizeOf9
  v9 := Tryz.zeroValue9
  t20 := Tryz.underlying20
  a20 := Tryz.isAgg20
  z20 := Tryz.sizeOf20
  v20 := Tryz.zeroValue20
  t37 := Tryz.underlying70
  a37 := Tryz.isAgg70
  z37 := Tryz.sizeOf70
  v37 := Tryz.zeroValue70
  t46 := Tryz.underlying78
  a46 := Tryz.isAgg78
  z46 := Tryz.sizeOf78
  v46 := Tryz.zeroValue78
  t51 := Tryz.underlying49
  a51 := Tryz.isAgg49
  z51 := Tryz.sizeOf49
  v51 := Tryz.zeroValue49
  t53 := Tryz.underlying65
  a53 := Tryz.isAgg65
  z53 := Tryz.sizeOf65
  v53 := Tryz.zeroValue65
  t171 := Tryz.underlying136
  a171 := Tryz.isAgg136
  z171 := Tryz.sizeOf136
  v171 := Tryz.zeroValue136
  t173 := Tryz.underlying138
  a173 := Tryz.isAgg138
  z173 := Tryz.sizeOf138
  v173 := Tryz.zeroValue138
  t212 := Tryz.underlying158
  a212 := Tryz.isAgg158
  z212 := Tryz.sizeOf158
  v212 := Tryz.zeroValue158
  t213 := Tryz.underlying159
  a213 := Tryz.isAgg159
  z213 := Tryz.sizeOf159
  t232 := Tryz.underlying161
  a232 := Tryz.isAgg161
  z232 := Tryz.sizeOf161
  v232 := Tryz.zeroValue161
  t233 := Tryz.underlying146
  a233 := Tryz.isAgg146
  z233 := Tryz.sizeOf146
  v233 := Tryz.zeroValue146
  g17 := by kernel_rfl
  g18 := by kernel_rfl
  g19 := by kernel_rfl
  i0 := by kernel_rfl
  i2 := by kernel_rfl
  i3 := by kernel_rfl
  i4 := by kernel_rfl
  i5 := by kernel_rfl
  i9 := by kernel_rfl
  i20 := by kernel_rfl
  i37 := by kernel_rfl
  i46 := by kernel_rfl
  i51 := by kernel_rfl
  i53 := by kernel_rfl
  i171 := by kernel_rfl
  i173 := by kernel_rfl
  i212 := by kernel_rfl
  i232 := by kernel_rfl
  i233 := by kernel_rfl
  m17 := by kernel_rfl
  m18 := by kernel_rfl
  m19 := by kernel_rfl }
open Go.RowKit Go.Sort Go.Lib in
theorem Tryz.strconv_Itoa (n : Int) (h0 : -9223372036854775808 ≤ n) (h1 : n ≤ 9223372036854775807) (w : World) (htab : Lib.TabIs Tryz.prog w "internal/strconv.uint64pow10" .u64 Lib.pow10Tab) :
    Calls Tryz.prog 40 #[.int .i64 n] w fun e w' => e = .returned (.string ⟨(Lib.itoa n).toArray⟩) ∧ ∃ k os, w' = grow (w.drewN k) os := Any.strconv_Itoa Tryz.laysM171 n h0 h1 w htab
end Go.Proofs
/- The builder of texts: its methods that write. -/
namespace Go.Proofs.YtbmaoiemgepppaaGreatDoor
set_option linter.unusedVariables false
set_option linter.unusedSimpArgs false
open Go.RowKit

theorem bld_size : (Tryz.prog.info? 72).map (·.size) = some 2 := by kernel_rfl
theorem bld_lies : liesAt Tryz.prog Tryz.prog.depth 72 (2 / Tryz.prog.cellsOf 72) 0 72 1 = true := by kernel_rfl
theorem byte_info : (Tryz.prog.info? 5).map (fun i => (i.zero, i.size, i.bytes)) = some (some (.int .u8 0), 1, 1) := by kernel_rfl

set_option maxHeartbeats 1000000 in
set_option maxRecDepth 100000 in
theorem c92_used (b : Nat) (w : World) (h0 : w.cell? ⟨b, 0, none⟩ = some (.pointer (some ⟨b, 0, none⟩))) :
    Calls Tryz.prog 71 #[.pointer (some ⟨b, 0, none⟩)] w fun e w' => e = .returned (.tuple #[]) ∧ w' = w := by
  obtain ⟨j, hj, _⟩ := Option.map_eq_some_iff.1 bld_size
  go_enter Tryz.func71, Tryz.ntmps71
  go_wp2
  rw [Lib.run_neq_ptr_same w _ Tryz.underlying69 hj]
  go_wp2
  go_end0
  exact ⟨rfl, rfl⟩
set_option maxHeartbeats 1000000 in
set_option maxRecDepth 100000 in
theorem c92_fresh (b : Nat) (w : World) (h0 : w.cell? ⟨b, 0, none⟩ = some (.pointer none)) (hsh : w.shape? b = some (72, 2)) (hfz : w.frozen? ⟨b, 0, none⟩ = false) :
    Calls Tryz.prog 71 #[.pointer (some ⟨b, 0, none⟩)] w fun e w' => e = .returned (.tuple #[]) ∧ w' = w.setCell ⟨b, 0, none⟩ (.pointer (some ⟨b, 0, none⟩)) := by
  obtain ⟨j, hj, hjs⟩ := Option.map_eq_some_iff.1 bld_size
  go_enter Tryz.func71, Tryz.ntmps71
  go_wp2
  rw [Lib.run_to_unsafe w ⟨b, 0, none⟩ Tryz.underlying69 Tryz.underlying134 hj (by rw [hjs]; decide) hsh (Nat.zero_lt_succ 1)]
  simp only [Result.andThen]
  rw [Oper.upon_value]
  go_wp2
  rw [run_callFunc_extern Tryz.func107 (by kernel_rfl) (by kernel_rfl) (by kernel_rfl) (e := Extern.AbiNoEscape.same) (by kernel_rfl)]
  rw [Lib.run_noEscape]
  simp only [Result.andThen]
  rw [Oper.upon_value]
  go_wp2
  rw [Lib.run_from_unsafe w ⟨b, 0, none⟩ Tryz.underlying134 Tryz.underlying69 hj hsh bld_lies]
  simp only [Result.andThen]
  rw [Oper.upon_value]
  go_wp2
  go_end0
  exact ⟨rfl, rfl⟩

/-- a builder at b, its row and itself made from B on, that holds the bytes bs -/
abbrev Bd (B b : Nat) (bs : List Value) (w : World) : Prop := Lib.IsBuilder 72 5 B b bs w

theorem c92 {B b : Nat} {bs : List Value} {w : World} (h : Bd B b bs w) :
    Calls Tryz.prog 71 #[.pointer (some ⟨b, 0, none⟩)] w fun e w' => e = .returned (.tuple #[]) ∧ Lib.BuilderAt 72 5 B b (.pointer (some ⟨b, 0, none⟩)) bs w' ∧ Below B w w' := by
  rcases h with h | h
  · refine (c92_fresh b w h.cell0 h.shape h.frozen0).mono ?_
    rintro e w' ⟨rfl, rfl⟩
    exact ⟨rfl, h.used _, (Below.refl B w).setCell (p := ⟨b, 0, none⟩) h.1 _⟩
  · refine (c92_used b w h.cell0).mono ?_
    rintro e w' ⟨rfl, rfl⟩
    exact ⟨rfl, h, Below.refl B _⟩

set_option maxHeartbeats 2000000 in
set_option maxRecDepth 100000 in
theorem c70 {B b : Nat} {bs : List Value} {w : World} (c : Int) (h : Bd B b bs w) (hlen : bs.length + 1 ≤ 140737488355328) (hBw : B ≤ w.heap.size) :
    Calls Tryz.prog 36 #[.pointer (some ⟨b, 0, none⟩), .int .u8 c] w fun e w' => e = .returned .nilIface ∧ Bd B b (bs ++ [.int .u8 c]) w' ∧ Below B w w' := by
  obtain ⟨i0, hi, hz0, hz1, hz2⟩ := info_parts byte_info
  have k := c92 h
  clear h
  go_enter Tryz.func36, Tryz.ntmps36
  go_wp2_with fail
  refine k.mono ?_
  rintro e w1 ⟨rfl, ⟨hB, v, hbk, hown, hne⟩, hb1⟩
  clear k
  have hs1 := hb1.size
  have c0 : w1.cell? ⟨b, 0, none⟩ = some (.pointer (some ⟨b, 0, none⟩)) := by rw [Lib.cell_of_heap hbk]; rfl
  have c1 : w1.cell? ⟨b, 1, none⟩ = some v := by rw [Lib.cell_of_heap hbk]; rfl
  have hlt : b < w1.heap.size := (Array.getElem?_eq_some_iff.1 hbk).1
  go_wp2_with (at_builtin; refine wpList_append_own _ rfl _ _ 70 rfl B 5 i0 (.int .u8 0) 1 1 Tryz.underlying70 hi hz0 hz1 hz2 rfl (by decide) _ _ _ rfl (hown.alloc _) ⟨w1.heap.size, 0, none⟩ 1 1 [.int .u8 c] rfl rfl (cell_one_new _ _ _) (by intro u hu; simp at hu; subst hu; rfl) (by unfold maxLen; omega) (by omega) (by simp; omega) ?_)
  intro v' w2 hown' hgrow _
  have hb2 : w2.heap[b]? = some (.cells #[.pointer (some ⟨b, 0, none⟩), v] 72 (0, 0)) := by
    rw [hgrow.block b (by simp; omega) (fun e => hne e.symm), Lib.alloc_old w1 _ b hlt]
    exact hbk
  have d0 : w2.cell? ⟨b, 0, none⟩ = some (.pointer (some ⟨b, 0, none⟩)) := by rw [Lib.cell_of_heap hb2]; rfl
  have d1 : w2.cell? ⟨b, 1, none⟩ = some v := by rw [Lib.cell_of_heap hb2]; rfl
  have f1 : w2.frozen? ⟨b, 1, none⟩ = false := Lib.frozen_of_heap hb2 1
  obtain ⟨ao, n', cap, rfl⟩ : ∃ ao n' cap, v' = .slice ao n' cap := by
    rcases hown'.2 with ⟨hv, _⟩ | ⟨g, cap, cur, hv, _⟩
    · exact ⟨_, _, _, hv⟩
    · exact ⟨_, _, _, hv⟩
  go_wp2
  go_ret
  refine ⟨rfl, .inr (Lib.BuilderAt.put (T := 72) (e := 5) hB hb2 (bs' := bs ++ [.int .u8 c]) (by simpa using hown') (by decide)), ?_⟩
  exact ((hb1.alloc (by omega) _).grown hgrow (by simp; omega) (fun k hk => (hown.lt k hk).1)).setCell (p := ⟨b, 1, none⟩) hB _

set_option maxHeartbeats 2000000 in
set_option maxRecDepth 100000 in
theorem c71 {B b : Nat} {bs : List Value} {w : World} (s : ByteArray) (h : Bd B b bs w) (hlen : bs.length + s.size ≤ 140737488355328) (hBw : B ≤ w.heap.size) :
    Calls Tryz.prog 37 #[.pointer (some ⟨b, 0, none⟩), .string s] w fun e w' => e = .returned (.tuple #[.int .i64 s.size, .nilIface]) ∧ Bd B b (bs ++ Lib.strCells s) w' ∧ Below B w w' := by
  obtain ⟨i0, hi, hz0, hz1, hz2⟩ := info_parts byte_info
  have k := c92 h
  clear h
  go_enter Tryz.func37, Tryz.ntmps37
  go_wp2_with fail
  refine k.mono ?_
  rintro e w1 ⟨rfl, ⟨hB, v, hbk, hown, hne⟩, hb1⟩
  clear k
  have hs1 := hb1.size
  have c0 : w1.cell? ⟨b, 0, none⟩ = some (.pointer (some ⟨b, 0, none⟩)) := by rw [Lib.cell_of_heap hbk]; rfl
  have c1 : w1.cell? ⟨b, 1, none⟩ = some v := by rw [Lib.cell_of_heap hbk]; rfl
  have hlt : b < w1.heap.size := (Array.getElem?_eq_some_iff.1 hbk).1
  go_wp2_with (at_builtin; refine Lib.wpList_append_own_string _ rfl _ _ 70 9 rfl B 5 i0 Tryz.underlying70 Tryz.underlying9 hi hz0 hz1 hz2 _ _ _ rfl hown s rfl (by unfold maxLen; omega) (by omega) (by omega) ?_)
  intro v' w2 hown' hgrow _
  have hb2 : w2.heap[b]? = some (.cells #[.pointer (some ⟨b, 0, none⟩), v] 72 (0, 0)) := by
    rw [hgrow.block b hlt (fun e => hne e.symm)]
    exact hbk
  have d0 : w2.cell? ⟨b, 0, none⟩ = some (.pointer (some ⟨b, 0, none⟩)) := by rw [Lib.cell_of_heap hb2]; rfl
  have d1 : w2.cell? ⟨b, 1, none⟩ = some v := by rw [Lib.cell_of_heap hb2]; rfl
  have f1 : w2.frozen? ⟨b, 1, none⟩ = false := Lib.frozen_of_heap hb2 1
  obtain ⟨ao, n', cap, rfl⟩ : ∃ ao n' cap, v' = .slice ao n' cap := by
    rcases hown'.2 with ⟨hv, _⟩ | ⟨g, cap, cur, hv, _⟩
    · exact ⟨_, _, _, hv⟩
    · exact ⟨_, _, _, hv⟩
  go_wp2
  go_ret2
  refine ⟨rfl, .inr (Lib.BuilderAt.put (T := 72) (e := 5) hB hb2 (bs' := bs ++ Lib.strCells s) (by simpa [Lib.strCells_length] using hown') (by decide)), ?_⟩
  exact (hb1.grown hgrow (by omega) (fun k hk => (hown.lt k hk).1)).setCell (p := ⟨b, 1, none⟩) hB _

theorem Bd.later {B b : Nat} {bs : List Value} {w w' : World} (h : Bd B b bs w) (hb : Below w.heap.size w w') : Bd B b bs w' := by
  have key : ∀ p, Lib.BuilderAt 72 5 B b p bs w → Lib.BuilderAt 72 5 B b p bs w' := fun p ⟨h1, v, h2, h3, h4⟩ => by
    refine ⟨h1, v, (hb.block b (Array.getElem?_eq_some_iff.1 h2).1).trans h2, ⟨h3.1, ?_⟩, h4⟩
    rcases h3.2 with h5 | ⟨g, cap, cur, e1, e2, e3, e4⟩
    · exact .inl h5
    · exact .inr ⟨g, cap, cur, e1, e2, (hb.block g (Array.getElem?_eq_some_iff.1 e3).1).trans e3, e4⟩
  rcases h with h | h
  · exact .inl (key _ h)
  · exact .inr (key _ h)
theorem Bd.new (w : World) : Bd w.heap.size w.heap.size [] (w.alloc (.cells #[.pointer none, .slice none 0 0] 72)) :=
  .inl ⟨Nat.le_refl _, .slice none 0 0, heap_alloc_new _ _, World.ownsRow_nil .., by simp [Value.ownBlock]⟩
end Go.Proofs.YtbmaoiemgepppaaGreatDoor
/- Show, of a number of one digit. -/
namespace Go.Proofs.YtbmaoiemgepppaaGreatDoor
set_option linter.unusedVariables false
set_option linter.unusedSimpArgs false
open Go.RowKit

set_option maxHeartbeats 4000000 in
set_option maxRecDepth 200000 in
theorem c37_pos (b o uc d : Nat) (ea : Int) (H T : List UInt8) (w : World) (hcell : w.cell? ⟨b, o, none⟩ = some (.int .u32 (d : Int))) (hH : H.length ≤ 1000) (hT : T.length ≤ 1000) (hd : d < 4294967296) (huc : 1 ≤ uc)
    (k43 : ∀ W g, Below w.heap.size w W → W.heap[g]? = some (.cells #[.bool false, .slice (some ⟨b, o, none⟩) 1 uc, .int .i64 ea] 24 (0, 0)) → Calls Tryz.prog 35 #[.slice (some ⟨g, 0, none⟩) 1 1] W fun r w' => r = .returned (.bool true) ∧ Below W.heap.size W w')
    (k72 : ∀ W, Below w.heap.size w W → Calls Tryz.prog 38 #[.int .u64 (d : Int), .int .i64 16] W fun e w' => e = .returned (.string ⟨H.toArray⟩) ∧ Below W.heap.size W w')
    (k74 : ∀ W, Below w.heap.size w W → Calls Tryz.prog 40 #[.int .i64 ea] W fun e w' => e = .returned (.string ⟨T.toArray⟩) ∧ Below W.heap.size W w') :
    Calls Tryz.prog 13 #[.agg #[.bool false, .slice (some ⟨b, o, none⟩) 1 uc, .int .i64 ea]] w fun e w' => e = .returned (.string ⟨(H ++ 112 :: T).toArray⟩) ∧ Below w.heap.size w w' := by
  obtain ⟨W, hW⟩ : ∃ W, W = w.alloc (.cells #[.bool false, .slice (some ⟨b, o, none⟩) 1 uc, .int .i64 ea] 24) := ⟨_, rfl⟩
  have hBW : Below w.heap.size w W := by rw [hW]; exact (Below.refl _ _).alloc (Nat.le_refl _) _
  have hsz : W.heap.size = w.heap.size + 1 := by rw [hW]; simp
  have hbx : W.heap[w.heap.size]? = some (.cells #[.bool false, .slice (some ⟨b, o, none⟩) 1 uc, .int .i64 ea] 24 (0, 0)) := by rw [hW]; exact heap_alloc_new _ _
  have hlt : b < w.heap.size := World.block_lt_of_cell? _ _ hcell
  have HX : Hid (Below w.heap.size w W ∧ W.heap.size = w.heap.size + 1 ∧ W.heap[w.heap.size]? = some (.cells #[.bool false, .slice (some ⟨b, o, none⟩) 1 uc, .int .i64 ea] 24 (0, 0)) ∧ w.cell? ⟨b, o, none⟩ = some (.int .u32 (d : Int)) ∧ b < w.heap.size) := ⟨hBW, hsz, hbx, hcell, hlt⟩
  have HCL : Hid (∀ W', Below W.heap.size W W' → (W'.cell? ⟨w.heap.size, 0, none⟩ = some (.bool false) ∧ W'.cell? ⟨w.heap.size, 1, none⟩ = some (.slice (some ⟨b, o, none⟩) 1 uc) ∧ W'.cell? ⟨w.heap.size, 2, none⟩ = some (.int .i64 ea)) ∧ W'.cell? ⟨b, o, none⟩ = some (.int .u32 (d : Int)) ∧ Below w.heap.size w W') := fun W' h =>
    ⟨(box_cells (box_later hbx h (by omega))).1, ((h.cell (p := ⟨b, o, none⟩) (by show b < W.heap.size; omega)).trans (hBW.cell hlt)).trans hcell, hBW.trans (h.mono hBW.size)⟩
  have k1 := k43 (W.alloc (.cells #[.bool false, .slice (some ⟨b, o, none⟩) 1 uc, .int .i64 ea] 24)) (w.heap.size + 1) (hBW.alloc hBW.size _) (by rw [← hsz]; exact heap_alloc_new _ _)
  have HK72 : Hid (∀ W, Below w.heap.size w W → Calls Tryz.prog 38 #[.int .u64 (d : Int), .int .i64 16] W fun e w' => e = .returned (.string ⟨H.toArray⟩) ∧ Below W.heap.size W w') := k72
  have HK74 : Hid (∀ W, Below w.heap.size w W → Calls Tryz.prog 40 #[.int .i64 ea] W fun e w' => e = .returned (.string ⟨T.toArray⟩) ∧ Below W.heap.size W w') := k74
  have HL : Hid (H.length ≤ 1000 ∧ T.length ≤ 1000) := ⟨hH, hT⟩
  clear hBW hsz hbx hcell hlt k43 k72 k74 hH hT
  go_enter Tryz.func13, Tryz.ntmps13
  go_wp2_with fail
  rw [← hW]
  clear hW
  refine k1.mono ?_
  rintro r w1 ⟨rfl, hb1⟩
  clear k1
  have HB1 : Hid (Below W.heap.size W w1) := ((Below.refl W.heap.size W).alloc (Nat.le_refl _) _).trans (hb1.mono (by simp))
  clear hb1
  obtain ⟨⟨x0, x1, x2⟩, x3, -⟩ := HCL.out w1 HB1.out
  obtain ⟨W2, hW2⟩ : ∃ W2, W2 = w1.alloc (.cells #[.pointer none, .slice none 0 0] 72) := ⟨_, rfl⟩
  have HD0 : Hid (Bd w1.heap.size w1.heap.size [] W2 ∧ Below w1.heap.size w1 W2) := ⟨by rw [hW2]; exact Bd.new w1, by rw [hW2]; exact (Below.refl _ _).alloc (Nat.le_refl _) _⟩
  obtain ⟨⟨y0, y1, y2⟩, y3, -⟩ := HCL.out W2 (HB1.out.trans (HD0.out.2.mono HB1.out.size))
  rw [hW2] at y0 y1 y2 y3
  have k3 := HK72.out W2 (HCL.out W2 (HB1.out.trans (HD0.out.2.mono HB1.out.size))).2.2
  go_wp2_with fail
  rw [← hW2]
  clear hW2
  refine k3.mono ?_
  rintro r w3 ⟨rfl, hb3⟩
  have HD3 : Hid (Bd w1.heap.size w1.heap.size [] w3 ∧ Below w1.heap.size w1 w3) := ⟨HD0.out.1.later hb3, HD0.out.2.trans (hb3.mono HD0.out.2.size)⟩
  clear k3 hb3
  have k4 := c71 ⟨H.toArray⟩ HD3.out.1 (by have := HL.out.1; simp [ByteArray.size]; omega) HD3.out.2.size
  go_wp2_with fail
  refine k4.mono ?_
  rintro r w4 ⟨rfl, hd4, hb4⟩
  have HD4 : Hid (Bd w1.heap.size w1.heap.size ([] ++ Lib.strCells ⟨H.toArray⟩) w4 ∧ Below w1.heap.size w1 w4) := ⟨hd4, HD3.out.2.trans hb4⟩
  clear k4 hd4 hb4
  go_wp2_with fail
  go_loop [5] (fun v => v = .int .i64 (-1)) (fun _ => 0)
  case atStart => rfl
  case round =>
    subst hrel
    have k5 := c70 112 HD4.out.1 (by have := HL.out.1; simp [Lib.strCells_length, ByteArray.size]; omega) HD4.out.2.size
    go_wp2_with fail
    refine k5.mono ?_
    rintro r w5 ⟨rfl, hd5, hb5⟩
    have HD5 : Hid (Bd w1.heap.size w1.heap.size ([] ++ Lib.strCells ⟨H.toArray⟩ ++ [.int .u8 112]) w5 ∧ Below w1.heap.size w1 w5) := ⟨hd5, HD4.out.2.trans hb5⟩
    clear k5 hd5 hb5
    obtain ⟨⟨z0, z1, z2⟩, z3, z4⟩ := HCL.out w5 (HB1.out.trans (HD5.out.2.mono HB1.out.size))
    have k6 := HK74.out w5 z4
    clear z4
    go_wp2_with fail
    refine k6.mono ?_
    rintro r w6 ⟨rfl, hb6⟩
    have HD6 : Hid (Bd w1.heap.size w1.heap.size ([] ++ Lib.strCells ⟨H.toArray⟩ ++ [.int .u8 112]) w6 ∧ Below w1.heap.size w1 w6) := ⟨HD5.out.1.later hb6, HD5.out.2.trans (hb6.mono HD5.out.2.size)⟩
    clear k6 hb6
    have k7 := c71 ⟨T.toArray⟩ HD6.out.1 (by have := HL.out.1; have := HL.out.2; simp [Lib.strCells_length, ByteArray.size]; omega) HD6.out.2.size
    go_wp2_with fail
    refine k7.mono ?_
    rintro r w7 ⟨rfl, hd7, hb7⟩
    have e7 : ([] : List Value) ++ Lib.strCells ⟨H.toArray⟩ ++ [.int .u8 112] ++ Lib.strCells ⟨T.toArray⟩ = Lib.byteCells (H ++ [112] ++ T) := by simp [Lib.byteCells, Lib.strCells]
    rw [e7] at hd7
    have HB7 : Hid (Below w1.heap.size w1 w7) := HD6.out.2.trans hb7
    have k8 := Tryz.Builder_String _ _ _ _ hd7 (by simp)
    clear k7 hd7 hb7
    go_wp2_with fail
    refine k8.mono ?_
    rintro r w8 ⟨rfl, hb8⟩
    have HB8 : Hid (Below w.heap.size w w8) := (HCL.out w8 (HB1.out.trans ((HB7.out.trans hb8).mono HB1.out.size))).2.2
    clear k8 hb8
    go_wp2_with fail
    go_ret
    exact ⟨rfl, HB8.out⟩

set_option maxHeartbeats 4000000 in
set_option maxRecDepth 200000 in
theorem c37_neg (b o uc d : Nat) (ea : Int) (H T : List UInt8) (w : World) (hcell : w.cell? ⟨b, o, none⟩ = some (.int .u32 (d : Int))) (hH : H.length ≤ 1000) (hT : T.length ≤ 1000) (hd : d < 4294967296) (huc : 1 ≤ uc)
    (k43 : ∀ W g, Below w.heap.size w W → W.heap[g]? = some (.cells #[.bool true, .slice (some ⟨b, o, none⟩) 1 uc, .int .i64 ea] 24 (0, 0)) → Calls Tryz.prog 35 #[.slice (some ⟨g, 0, none⟩) 1 1] W fun r w' => r = .returned (.bool true) ∧ Below W.heap.size W w')
    (k72 : ∀ W, Below w.heap.size w W → Calls Tryz.prog 38 #[.int .u64 (d : Int), .int .i64 16] W fun e w' => e = .returned (.string ⟨H.toArray⟩) ∧ Below W.heap.size W w')
    (k74 : ∀ W, Below w.heap.size w W → Calls Tryz.prog 40 #[.int .i64 ea] W fun e w' => e = .returned (.string ⟨T.toArray⟩) ∧ Below W.heap.size W w') :
    Calls Tryz.prog 13 #[.agg #[.bool true, .slice (some ⟨b, o, none⟩) 1 uc, .int .i64 ea]] w fun e w' => e = .returned (.string ⟨(45 :: (H ++ 112 :: T)).toArray⟩) ∧ Below w.heap.size w w' := by
  obtain ⟨W, hW⟩ : ∃ W, W = w.alloc (.cells #[.bool true, .slice (some ⟨b, o, none⟩) 1 uc, .int .i64 ea] 24) := ⟨_, rfl⟩
  have hBW : Below w.heap.size w W := by rw [hW]; exact (Below.refl _ _).alloc (Nat.le_refl _) _
  have hsz : W.heap.size = w.heap.size + 1 := by rw [hW]; simp
  have hbx : W.heap[w.heap.size]? = some (.cells #[.bool true, .slice (some ⟨b, o, none⟩) 1 uc, .int .i64 ea] 24 (0, 0)) := by rw [hW]; exact heap_alloc_new _ _
  have hlt : b < w.heap.size := World.block_lt_of_cell? _ _ hcell
  have HX : Hid (Below w.heap.size w W ∧ W.heap.size = w.heap.size + 1 ∧ W.heap[w.heap.size]? = some (.cells #[.bool true, .slice (some ⟨b, o, none⟩) 1 uc, .int .i64 ea] 24 (0, 0)) ∧ w.cell? ⟨b, o, none⟩ = some (.int .u32 (d : Int)) ∧ b < w.heap.size) := ⟨hBW, hsz, hbx, hcell, hlt⟩
  have HCL : Hid (∀ W', Below W.heap.size W W' → (W'.cell? ⟨w.heap.size, 0, none⟩ = some (.bool true) ∧ W'.cell? ⟨w.heap.size, 1, none⟩ = some (.slice (some ⟨b, o, none⟩) 1 uc) ∧ W'.cell? ⟨w.heap.size, 2, none⟩ = some (.int .i64 ea)) ∧ W'.cell? ⟨b, o, none⟩ = some (.int .u32 (d : Int)) ∧ Below w.heap.size w W') := fun W' h =>
    ⟨(box_cells (box_later hbx h (by omega))).1, ((h.cell (p := ⟨b, o, none⟩) (by show b < W.heap.size; omega)).trans (hBW.cell hlt)).trans hcell, hBW.trans (h.mono hBW.size)⟩
  have k1 := k43 (W.alloc (.cells #[.bool true, .slice (some ⟨b, o, none⟩) 1 uc, .int .i64 ea] 24)) (w.heap.size + 1) (hBW.alloc hBW.size _) (by rw [← hsz]; exact heap_alloc_new _ _)
  have HK72 : Hid (∀ W, Below w.heap.size w W → Calls Tryz.prog 38 #[.int .u64 (d : Int), .int .i64 16] W fun e w' => e = .returned (.string ⟨H.toArray⟩) ∧ Below W.heap.size W w') := k72
  have HK74 : Hid (∀ W, Below w.heap.size w W → Calls Tryz.prog 40 #[.int .i64 ea] W fun e w' => e = .returned (.string ⟨T.toArray⟩) ∧ Below W.heap.size W w') := k74
  have HL : Hid (H.length ≤ 1000 ∧ T.length ≤ 1000) := ⟨hH, hT⟩
  clear hBW hsz hbx hcell hlt k43 k72 k74 hH hT
  go_enter Tryz.func13, Tryz.ntmps13
  go_wp2_with fail
  rw [← hW]
  clear hW
  refine k1.mono ?_
  rintro r w1 ⟨rfl, hb1⟩
  clear k1
  have HB1 : Hid (Below W.heap.size W w1) := ((Below.refl W.heap.size W).alloc (Nat.le_refl _) _).trans (hb1.mono (by simp))
  clear hb1
  obtain ⟨⟨x0, x1, x2⟩, x3, -⟩ := HCL.out w1 HB1.out
  obtain ⟨W2, hW2⟩ : ∃ W2, W2 = w1.alloc (.cells #[.pointer none, .slice none 0 0] 72) := ⟨_, rfl⟩
  have HD0 : Hid (Bd w1.heap.size w1.heap.size [] W2 ∧ Below w1.heap.size w1 W2) := ⟨by rw [hW2]; exact Bd.new w1, by rw [hW2]; exact (Below.refl _ _).alloc (Nat.le_refl _) _⟩
  obtain ⟨⟨y0, y1, y2⟩, y3, -⟩ := HCL.out W2 (HB1.out.trans (HD0.out.2.mono HB1.out.size))
  rw [hW2] at y0 y1 y2 y3
  have k2 := c70 45 HD0.out.1 (by simp) HD0.out.2.size
  go_wp2_with fail
  rw [← hW2]
  clear hW2
  refine k2.mono ?_
  rintro r w2 ⟨rfl, hd2, hb2⟩
  have HD2 : Hid (Bd w1.heap.size w1.heap.size ([] ++ [.int .u8 45]) w2 ∧ Below w1.heap.size w1 w2) := ⟨hd2, HD0.out.2.trans hb2⟩
  clear k2 hd2 hb2 x0 x1 x2 x3 y0 y1 y2 y3
  obtain ⟨⟨x0, x1, x2⟩, x3, -⟩ := HCL.out w2 (HB1.out.trans (HD2.out.2.mono HB1.out.size))
  have k3 := HK72.out w2 (HCL.out w2 (HB1.out.trans (HD2.out.2.mono HB1.out.size))).2.2
  go_wp2_with fail
  refine k3.mono ?_
  rintro r w3 ⟨rfl, hb3⟩
  have HD3 : Hid (Bd w1.heap.size w1.heap.size ([] ++ [.int .u8 45]) w3 ∧ Below w1.heap.size w1 w3) := ⟨HD2.out.1.later hb3, HD2.out.2.trans (hb3.mono HD2.out.2.size)⟩
  clear k3 hb3
  have k4 := c71 ⟨H.toArray⟩ HD3.out.1 (by have := HL.out.1; simp [ByteArray.size]; omega) HD3.out.2.size
  go_wp2_with fail
  refine k4.mono ?_
  rintro r w4 ⟨rfl, hd4, hb4⟩
  have HD4 : Hid (Bd w1.heap.size w1.heap.size (([] ++ [.int .u8 45]) ++ Lib.strCells ⟨H.toArray⟩) w4 ∧ Below w1.heap.size w1 w4) := ⟨hd4, HD3.out.2.trans hb4⟩
  clear k4 hd4 hb4
  go_wp2_with fail
  go_loop [5] (fun v => v = .int .i64 (-1)) (fun _ => 0)
  case atStart => rfl
  case round =>
    subst hrel
    have k5 := c70 112 HD4.out.1 (by have := HL.out.1; simp [Lib.strCells_length, ByteArray.size]; omega) HD4.out.2.size
    go_wp2_with fail
    refine k5.mono ?_
    rintro r w5 ⟨rfl, hd5, hb5⟩
    have HD5 : Hid (Bd w1.heap.size w1.heap.size (([] ++ [.int .u8 45]) ++ Lib.strCells ⟨H.toArray⟩ ++ [.int .u8 112]) w5 ∧ Below w1.heap.size w1 w5) := ⟨hd5, HD4.out.2.trans hb5⟩
    clear k5 hd5 hb5
    obtain ⟨⟨z0, z1, z2⟩, z3, z4⟩ := HCL.out w5 (HB1.out.trans (HD5.out.2.mono HB1.out.size))
    have k6 := HK74.out w5 z4
    clear z4
    go_wp2_with fail
    refine k6.mono ?_
    rintro r w6 ⟨rfl, hb6⟩
    have HD6 : Hid (Bd w1.heap.size w1.heap.size (([] ++ [.int .u8 45]) ++ Lib.strCells ⟨H.toArray⟩ ++ [.int .u8 112]) w6 ∧ Below w1.heap.size w1 w6) := ⟨HD5.out.1.later hb6, HD5.out.2.trans (hb6.mono HD5.out.2.size)⟩
    clear k6 hb6
    have k7 := c71 ⟨T.toArray⟩ HD6.out.1 (by have := HL.out.1; have := HL.out.2; simp [Lib.strCells_length, ByteArray.size]; omega) HD6.out.2.size
    go_wp2_with fail
    refine k7.mono ?_
    rintro r w7 ⟨rfl, hd7, hb7⟩
    have e7 : (([] ++ [.int .u8 45]) : List Value) ++ Lib.strCells ⟨H.toArray⟩ ++ [.int .u8 112] ++ Lib.strCells ⟨T.toArray⟩ = Lib.byteCells ([45] ++ H ++ [112] ++ T) := by simp [Lib.byteCells, Lib.strCells]
    rw [e7] at hd7
    have HB7 : Hid (Below w1.heap.size w1 w7) := HD6.out.2.trans hb7
    have k8 := Tryz.Builder_String _ _ _ _ hd7 (by simp)
    clear k7 hd7 hb7
    go_wp2_with fail
    refine k8.mono ?_
    rintro r w8 ⟨rfl, hb8⟩
    have HB8 : Hid (Below w.heap.size w w8) := (HCL.out w8 (HB1.out.trans ((HB7.out.trans hb8).mono HB1.out.size))).2.2
    clear k8 hb8
    go_wp2_with fail
    go_ret
    exact ⟨rfl, HB8.out⟩
end Go.Proofs.YtbmaoiemgepppaaGreatDoor
/- The numbers that the law's own small test makes. -/
namespace Go.Proofs.YtbmaoiemgepppaaGreatDoor
set_option linter.unusedVariables false
set_option linter.unusedSimpArgs false
open Go.RowKit Go.Fl64

theorem dlen_1 {x : Nat} (h0 : x ≠ 0) (h : x < 4294967296) : dlen x = 1 := by
  rw [dlen_pos h0, Nat.div_eq_of_lt (by unfold B; omega), dlen_zero]
/-- a number that was made: its value, its digits readable -/
theorem Nrm.kn {w : World} {base : Nat} {a : Value} {s : Bool} {z x t : Nat} {e e' : Int} (h : Nrm w base a s z e) (h0 : z ≠ 0) (ht : tz z = t) (hx : z / 2 ^ t = x) (he : e + (t : Int) = e') :
    ∃ ao cap, a = .agg #[.bool s, .slice ao (dlen x) cap, .int .i64 e'] ∧ Is w (.slice ao (dlen x) cap) x := by
  subst ht hx he
  rcases h with ⟨h1, -⟩ | ⟨-, v, rfl, ho⟩
  · exact absurd h1 h0
  · obtain ⟨ao, cap, rfl, h1, h2, h3⟩ := ho.is
    exact ⟨ao, cap, rfl, ao, cap, rfl, h1, h2, h3⟩
theorem Nrm.odd {w : World} {base : Nat} {a : Value} {s : Bool} {z : Nat} {e : Int} (h : Nrm w base a s z e) (ho : z % 2 = 1) :
    ∃ ao cap, a = .agg #[.bool s, .slice ao (dlen z) cap, .int .i64 e] ∧ Is w (.slice ao (dlen z) cap) z :=
  h.kn (t := 0) (by intro e; subst e; simp at ho) (tz_odd ho) (by simp) (by simp)
theorem Nrm.nil {w : World} {base : Nat} {a : Value} {s : Bool} {e : Int} (h : Nrm w base a s 0 e) : a = .agg #[.bool false, .slice none 0 0, .int .i64 0] := by
  rcases h with ⟨-, h⟩ | ⟨h, -⟩
  · exact h
  · exact absurd rfl h
theorem is_nil (w : World) : Is w (.slice none 0 0) 0 := ⟨none, 0, by rw [dlen_zero], by rw [dlen_zero]; omega, by omega, 0, 0, fun h => by rw [dlen_zero] at h; omega, fun i hi => by rw [dlen_zero] at hi; omega⟩
theorem tz12 : tz 12 = 2 := tz_pow 2 3 rfl
theorem tz2 : tz 2 = 1 := tz_pow 1 1 rfl

/-- 0.75 is 3 quarters -/
theorem t_of {w : World} (hT : Tab32 w) (hI : Ie.Tab w) :
    Calls Tryz.prog 21 #[.float .f64 4604930618986332160] w fun r w' => ∃ A, r = .returned (.tuple #[A, .int .i64 0]) ∧ Nrm w' w.heap.size A false 3 (-2) ∧ Below w.heap.size w w' := by
  have h := of_fin 4604930618986332160 3 (by omega) w hT hI (by decide) (by decide +kernel)
  rw [show Ie.sE 4604930618986332160 = -2 by decide +kernel, show neg 4604930618986332160 = false by decide] at h
  exact h
theorem t_inf {w : World} (hI : Ie.Tab w) :
    Calls Tryz.prog 21 #[.float .f64 9218868437227405312] w fun r w' => r = .returned (.tuple #[.agg #[.bool false, .slice none 0 0, .int .i64 0], .int .i64 5]) ∧ Below w.heap.size w w' :=
  of_inf 9218868437227405312 (by omega) w hI (by decide)

theorem ok3 : okN false 1 3 (-2) = true := by decide
theorem ok12 : okN true 1 3 2 = true := by decide
theorem okR_odd {s : Bool} {z : Nat} {e : Int} (ho : z % 2 = 1) (h : okN s (dlen z) z e = true) : okR s z e = true := by
  have h0 : z ≠ 0 := by intro e; subst e; simp at ho
  unfold okR
  rw [if_neg h0, tz_odd ho]
  simpa using h

theorem t_add {w : World} {A C : Value} {b c : Nat} (hA : Nrm w b A false 3 (-2)) (hC : Nrm w c C true 12 0) (hT : Tab32 w) :
    Calls Tryz.prog 22 #[A, C] w fun r w' => ∃ D, r = .returned (.tuple #[D, .int .i64 0]) ∧ Nrm w' w.heap.size D true 45 (-2) ∧ Below w.heap.size w w' := by
  obtain ⟨ua, uc, rfl, i1⟩ := hA.odd rfl
  obtain ⟨va, vc, rfl, i2⟩ := hC.kn (x := 3) (e' := 2) (by omega) tz12 (by decide) (by decide)
  have d3 : dlen 3 = 1 := dlen_1 (by omega) (by omega)
  refine (c34_1 false true ua va _ uc _ vc 3 3 45 (-2) 2 (-2) true w (by rw [dlen_1 (by omega) (by omega)]; omega) (fun W g hW hg => ?_) (fun W hW => ?_)).mono ?_
  · have := maybe2 hg (i1.later hW) (i2.later hW) (by omega) (by omega)
    rw [d3, ok3, ok12] at this
    exact this
  · have := c87 (na := false) (nb := true) (ea := -2) (eb := 2) (i1.later hW) (i2.later hW) (by omega) (by omega) (by omega) (by omega) (hT.later hW)
    rw [show sumN false 3 (-2) true 3 2 = (true, 45, -2) by decide] at this
    exact this
  · rintro r w' ⟨D, rfl, hN, hb⟩
    rw [okR_odd (by rfl) (by rw [dlen_1 (by omega) (by omega)]; decide)]
    exact ⟨D, rfl, hN, hb⟩

theorem t_quo {w : World} {A C : Value} {b c : Nat} (hA : Nrm w b A false 1 0) (hC : Nrm w c C false 3 0) (hT : Tab32 w) :
    Calls Tryz.prog 24 #[A, C, .int .i64 4] w fun r w' => ∃ D, r = .returned (.tuple #[D, .bool false, .int .i64 0]) ∧ Nrm w' w.heap.size D false 5 (-4) ∧ Below w.heap.size w w' := by
  obtain ⟨ua, uc, rfl, i1⟩ := hA.odd rfl
  obtain ⟨va, vc, rfl, i2⟩ := hC.odd rfl
  have d3 : dlen 3 = 1 := dlen_1 (by omega) (by omega)
  have d1 : dlen 1 = 1 := dlen_1 (by omega) (by omega)
  have k := c44 (na := false) (nb := false) (ea := 0) (eb := 0) (place := 4) i1 i2 hT (by omega) (by omega) (by omega) (by rw [d1]; decide) (by rw [d3]; decide) (by omega) (by omega) (by omega) 16 3 (by decide) (by decide)
  refine Calls.mono k ?_
  rintro r w' ⟨D, rfl, hN, hb⟩
  rw [show (if (false != false) && !(decide (16 % 3 = 0)) then 16 / 3 + 1 else 16 / 3) = 5 by decide, show (decide (16 % 3 = 0)) = false by decide] at *
  rw [okR_odd (by rfl) (by rw [dlen_1 (by omega) (by omega)]; decide)]
  exact ⟨D, rfl, hN, hb⟩
end Go.Proofs.YtbmaoiemgepppaaGreatDoor
/- Up, Show, Valid, Cmp at the numbers of the law's own small test. -/
namespace Go.Proofs.YtbmaoiemgepppaaGreatDoor
set_option linter.unusedVariables false
set_option linter.unusedSimpArgs false
open Go.RowKit Go.Fl64

/-- the root of 2 to the 2153, cut -/
def rt2 : Nat := 1144960046728293235183871336032099932021001373328203582057084466271116023268088952334309160449398251026851608423422093996406705367416982454983265572937599412831469178134766179576718159998760918833726194305928123249117019196003754405379980218457260605934001581424140382702148393624842846528511417719025931345035380804837646241
theorem rt2_odd : rt2 % 2 = 1 := by decide +kernel
theorem rt2_lo : rt2 * rt2 ≤ 2 ^ 2153 := by decide +kernel
theorem rt2_hi : 2 ^ 2153 < (rt2 + 1) * (rt2 + 1) := by decide +kernel
theorem rt2_ne : ¬ rt2 * rt2 = 2 ^ 2153 := by decide +kernel
theorem rt2_bl : bl rt2 = 1077 := by decide +kernel
theorem rt2_len : dlen rt2 ≤ 34 := (dlen_le 34 rt2).2 (by decide +kernel)
theorem rt2_len2 : dlen (rt2 + 2) ≤ 34 := (dlen_le 34 (rt2 + 2)).2 (by decide +kernel)
theorem root_uniqT {m M q : Nat} (h1 : m * m ≤ q) (h2 : q < (m + 1) * (m + 1)) (h3 : M * M ≤ q) (h4 : q < (M + 1) * (M + 1)) : m = M := by
  rcases Nat.lt_trichotomy m M with h | h | h
  · have := Nat.mul_le_mul (show m + 1 ≤ M by omega) (show m + 1 ≤ M by omega); omega
  · exact h
  · have := Nat.mul_le_mul (show M + 1 ≤ m by omega) (show M + 1 ≤ m by omega); omega
theorem rt_mk {z : Nat} {e : Int} (ho : z % 2 = 1) (F : Nat) (h : Ie.mk false (z / 2 ^ (bl z - 64) ||| 1) (e + ((bl z - 64 : Nat) : Int)) 3 9221120237041090561 = F) (hb : 64 < bl z) : tfF false true z e 3 = F := by
  unfold tfF tfM tfD
  rw [tz_odd ho, if_neg (by simp; omega)]
  exact h
theorem tf_lo : tfF false true rt2 (-1076) 3 = 4609047870845172685 := rt_mk rt2_odd _ (by decide +kernel) (by rw [rt2_bl]; omega)
theorem tf_hi : tfF false true (rt2 + 2) (-1076) 3 = 4609047870845172685 := rt_mk (by have := rt2_odd; omega) _ (by decide +kernel) (by decide +kernel)

theorem t_up {w : World} {A C D : Value} {a c d : Nat} (hA : Nrm w a A false 0 0) (hC : Nrm w c C false 2 0) (hD : Nrm w d D false 0 0) (hT : Tab32 w) :
    Calls Tryz.prog 25 #[A, C, D] w fun r w' => r = .returned (.tuple #[.float .f64 4609047870845172685, .int .i64 0]) ∧ Below w.heap.size w w' := by
  obtain rfl := hA.nil
  obtain rfl := hD.nil
  obtain ⟨va, vc, rfl, i2⟩ := hC.kn (x := 1) (e' := 1) (by omega) tz2 (by decide) (by decide)
  have d1 : dlen 1 = 1 := dlen_1 (by omega) (by omega)
  have hr := rt2_len
  refine c60_1 false true none va none 0 0 _ vc 0 0 rt2 0 4609047870845172685 0 1 0 w hT (by omega) (by rw [dlen_zero]; omega) (by rw [Nat.add_zero]; omega) false false rt2 (rt2 + 2) (-1076) (-1076) (by omega) (by decide) ?_ ?_ ?_ ?_ ?_ ?_ ?_
  · intro W B b hW hN
    obtain ⟨ua, uc, rfl, i⟩ := hN.odd rt2_odd
    have k := c106 (neg := false) (e := -1076) (mode := 3) (hT.later hW) i (by omega) (by omega) (by omega)
    rw [tf_lo] at k
    exact k
  · intro W B b hW hN
    obtain ⟨ua, uc, rfl, i⟩ := hN.odd (by have := rt2_odd; omega)
    have k := c106 (neg := false) (e := -1076) (mode := 3) (hT.later hW) i (by have := rt2_len2; omega) (by omega) (by omega)
    rw [tf_hi] at k
    exact k
  · intro W B b m b' hW hN hO
    obtain ⟨ua, uc, rfl, i⟩ := hN.odd rt2_odd
    have k := c87 (na := false) (nb := false) (ea := -1076) (eb := -1075) i hO.is (by omega) (by omega) (by omega) (by omega) (hT.later hW)
    rw [show sumN false rt2 (-1076) false 1 (-1075) = (false, rt2 + 2, -1076) by decide +kernel] at k
    exact k
  · intro W m b hW hN
    rw [Nat.add_zero] at hN
    obtain ⟨ua, uc, rfl, i⟩ := hN.odd rt2_odd
    have k := c87 (na := false) (nb := false) (ea := 0) (eb := -1076) (is_nil W) i (by rw [dlen_zero]; omega) (by omega) (by omega) (by omega) (hT.later hW)
    rw [show sumN false 0 0 false rt2 (-1076) = (false, rt2, -1076) from rfl] at k
    exact k
  · intro W g hW hg
    have e0 : (0 : Nat) = dlen 0 := dlen_zero.symm
    have k := maybe3 (x := 0) (y := 1) (z := 0) (na := false) (nb := false) (nc := false) (ua := none) (wa := none) (uc := 0) (wc := 0) (ea := 0) (eb := 1) (ec := 0) (g := g) (W := W) (by rw [dlen_zero]; exact hg) (by rw [dlen_zero]; exact is_nil W) (i2.later hW) (by rw [dlen_zero]; exact is_nil W) (by rw [dlen_zero]; omega) (by omega) (by rw [dlen_zero]; omega)
    rw [dlen_zero, d1, show okN false 0 0 0 = true by decide, show okN false 1 1 1 = true by decide] at k
    exact k
  · intro W hW
    have k := c102 (neg := false) (ea := 1) (place := 1076) (i2.later hW) (by omega) (by rw [show rtQ 1 1 1076 = 2 ^ 2153 by decide +kernel]; exact Nat.le_trans ((dlen_le 100 _).2 (by decide +kernel)) (by omega)) (by omega) (by omega)
    refine Calls.mono k ?_
    rintro r w' ⟨v, m, rfl, ho, h1, h2, hb⟩
    rw [show rtQ 1 1 1076 = 2 ^ 2153 by decide +kernel] at *
    obtain rfl := root_uniqT h1 h2 rt2_lo rt2_hi
    rw [decide_eq_false rt2_ne, Bool.and_false]
    exact ⟨v, rfl, ho, hb⟩
  · intro W hW
    have k := c102 (neg := false) (ea := 0) (place := 1076) (is_nil W) (by rw [dlen_zero]; omega) (by rw [show rtQ 0 0 1076 = 0 by decide +kernel, dlen_zero]; omega) (by omega) (by omega)
    refine Calls.mono k ?_
    rintro r w' ⟨v, m, rfl, ho, h1, h2, hb⟩
    rw [show rtQ 0 0 1076 = 0 by decide +kernel] at *
    obtain rfl : m = 0 := by
      rcases Nat.eq_zero_or_pos m with h | h
      · exact h
      · have := Nat.mul_le_mul h h; omega
    exact ⟨v, rfl, ho, hb⟩
end Go.Proofs.YtbmaoiemgepppaaGreatDoor
/- Show, Valid, Cmp at the numbers of the law's own small test. -/
namespace Go.Proofs.YtbmaoiemgepppaaGreatDoor
set_option linter.unusedVariables false
set_option linter.unusedSimpArgs false
open Go.RowKit Go.Fl64

/-- the library's table of powers of ten lies in its place -/
def Tab10 (w : World) : Prop := Lib.TabIs Tryz.prog w "internal/strconv.uint64pow10" .u64 Lib.pow10Tab
theorem g10 : Tryz.prog.globalNamed "internal/strconv.uint64pow10" = some 5 := by kernel_rfl
theorem Tab10.lt {w : World} (h : Tab10 w) : 5 < w.heap.size := by
  unfold Tab10 Lib.TabIs World.var? at h
  rw [g10] at h
  rcases Nat.lt_or_ge 5 w.heap.size with h1 | h1
  · exact h1
  · simp [Array.getElem?_eq_none h1] at h
theorem Tab10.later {w w' : World} (h : Tab10 w) (hb : Below w.heap.size w w') : Tab10 w' := var?_below hb g10 h.lt h

theorem hex1 {u j : Nat} (hu : u < 16) (h : j = 0 ∨ 16 ≤ u / 16 ^ (j - 1)) : j = 0 := by
  rcases h with h | h
  · exact h
  · have := Nat.div_le_self u (16 ^ (j - 1)); omega
theorem hex2 {u j : Nat} (hu : u < 256) (hl : 16 ≤ u) (h1 : u / 16 ^ j < 16) (h : j = 0 ∨ 16 ≤ u / 16 ^ (j - 1)) : j = 1 := by
  rcases h with h | h
  · subst h; simp at h1; omega
  · rcases (show j = 0 ∨ j = 1 ∨ ∃ k, j = k + 2 from by
      match j with
      | 0 => exact .inl rfl
      | 1 => exact .inr (.inl rfl)
      | k + 2 => exact .inr (.inr ⟨k, rfl⟩)) with rfl | rfl | ⟨k, rfl⟩
    · simp at h1; omega
    · rfl
    · exfalso
      have e : u / 16 ^ (k + 2 - 1) = u / 16 / 16 ^ k := by
        rw [show k + 2 - 1 = k + 1 by omega, Nat.pow_succ, Nat.mul_comm, Nat.div_div_eq_div_mul]
      rw [e] at h
      have := Nat.div_le_self (u / 16) (16 ^ k)
      omega
theorem below_more (w : World) (k : Nat) (os : Array Obj) : Below w.heap.size w (Sort.grow (w.drewN k) os) :=
  ⟨rfl, rfl, rfl, by show w.heap.size ≤ (w.heap ++ os).size; rw [Array.size_append]; omega, fun j hj => by
    show (w.heap ++ os)[j]? = w.heap[j]?
    rw [Array.getElem?_append_left hj]⟩
theorem itoa_m2 : Lib.itoa (-2) = [45, 50] := by decide +kernel
theorem itoa_m4 : Lib.itoa (-4) = [45, 52] := by decide +kernel

theorem is_cell {w : World} {ao : Option Addr} {cap d : Nat} (h : Is w (.slice ao (dlen d) cap) d) (hd0 : d ≠ 0) (hd : d < 4294967296) : ∃ b o, ao = some ⟨b, o, none⟩ ∧ w.cell? ⟨b, o, none⟩ = some (.int .u32 (d : Int)) ∧ 1 ≤ cap := by
  obtain ⟨ao', cap', e, h1, h2, b, o, h3, h4⟩ := h
  simp only [Value.slice.injEq] at e
  obtain ⟨rfl, -, rfl⟩ := e
  have d1 := dlen_1 hd0 hd
  rw [d1] at h1 h3 h4
  have h5 := h4 0 (by omega)
  rw [show dg d 0 = d by unfold dg; simp; exact Nat.mod_eq_of_lt hd] at h5
  exact ⟨b, o, h3 (by omega), h5, h1⟩

theorem t_show {w : World} {A : Value} {b d : Nat} {e : Int} {H T : List UInt8} (hA : Nrm w b A false d e) (hodd : d % 2 = 1) (hd : d < 4294967296) (hok : okN false 1 d e = true)
    (hI : Ie.Tab w) (h10 : Tab10 w) (hH : ∀ j, d / 16 ^ j < 16 → (j = 0 ∨ 16 ≤ d / 16 ^ (j - 1)) → hexL d j = H) (hT : Lib.itoa e = T) (hlH : H.length ≤ 1000) (hlT : T.length ≤ 1000) (he : -9223372036854775808 ≤ e ∧ e ≤ 9223372036854775807) :
    Calls Tryz.prog 13 #[A] w fun r w' => r = .returned (.string ⟨(H ++ 112 :: T).toArray⟩) ∧ Below w.heap.size w w' := by
  obtain ⟨ao, cap, rfl, i1⟩ := hA.odd hodd
  have hd0 : d ≠ 0 := by intro e; subst e; simp at hodd
  obtain ⟨g, o, rfl, hc, hcap⟩ := is_cell i1 hd0 hd
  have d1 := dlen_1 hd0 hd
  have k43 : ∀ W g', Below w.heap.size w W → W.heap[g']? = some (.cells #[.bool false, .slice (some ⟨g, o, none⟩) (dlen d) cap, .int .i64 e] 24 (0, 0)) → Calls Tryz.prog 35 #[.slice (some ⟨g', 0, none⟩) 1 1] W fun r w' => r = .returned (.bool true) ∧ Below W.heap.size W w' := fun W g' hW hg => by
    have := maybe1 hg (i1.later hW) (by omega)
    rw [d1, hok] at this
    exact this
  rw [d1] at k43 ⊢
  refine c37_pos g o cap d e H T w hc hlH hlT hd hcap k43 (fun W hW => ?_) (fun W hW => ?_)
  · refine (c81 d W (Tab.later hI hW) hd).mono ?_
    rintro r w' ⟨j, h1, h2, rfl, hb⟩
    rw [hH j h1 h2]
    exact ⟨rfl, hb⟩
  · refine (Tryz.strconv_Itoa e he.1 he.2 W (h10.later hW)).mono ?_
    rintro r w' ⟨rfl, k, os, rfl⟩
    rw [hT]
    exact ⟨rfl, below_more W k os⟩
theorem t_show_neg {w : World} {A : Value} {b d : Nat} {e : Int} {H T : List UInt8} (hA : Nrm w b A true d e) (hodd : d % 2 = 1) (hd : d < 4294967296) (hok : okN true 1 d e = true)
    (hI : Ie.Tab w) (h10 : Tab10 w) (hH : ∀ j, d / 16 ^ j < 16 → (j = 0 ∨ 16 ≤ d / 16 ^ (j - 1)) → hexL d j = H) (hT : Lib.itoa e = T) (hlH : H.length ≤ 1000) (hlT : T.length ≤ 1000) (he : -9223372036854775808 ≤ e ∧ e ≤ 9223372036854775807) :
    Calls Tryz.prog 13 #[A] w fun r w' => r = .returned (.string ⟨(45 :: (H ++ 112 :: T)).toArray⟩) ∧ Below w.heap.size w w' := by
  obtain ⟨ao, cap, rfl, i1⟩ := hA.odd hodd
  have hd0 : d ≠ 0 := by intro e; subst e; simp at hodd
  obtain ⟨g, o, rfl, hc, hcap⟩ := is_cell i1 hd0 hd
  have d1 := dlen_1 hd0 hd
  have k43 : ∀ W g', Below w.heap.size w W → W.heap[g']? = some (.cells #[.bool true, .slice (some ⟨g, o, none⟩) (dlen d) cap, .int .i64 e] 24 (0, 0)) → Calls Tryz.prog 35 #[.slice (some ⟨g', 0, none⟩) 1 1] W fun r w' => r = .returned (.bool true) ∧ Below W.heap.size W w' := fun W g' hW hg => by
    have := maybe1 hg (i1.later hW) (by omega)
    rw [d1, hok] at this
    exact this
  rw [d1] at k43 ⊢
  refine c37_neg g o cap d e H T w hc hlH hlT hd hcap k43 (fun W hW => ?_) (fun W hW => ?_)
  · refine (c81 d W (Tab.later hI hW) hd).mono ?_
    rintro r w' ⟨j, h1, h2, rfl, hb⟩
    rw [hH j h1 h2]
    exact ⟨rfl, hb⟩
  · refine (Tryz.strconv_Itoa e he.1 he.2 W (h10.later hW)).mono ?_
    rintro r w' ⟨rfl, k, os, rfl⟩
    rw [hT]
    exact ⟨rfl, below_more W k os⟩

theorem t_show_a {w : World} {A : Value} {b : Nat} (hA : Nrm w b A false 3 (-2)) (hI : Ie.Tab w) (h10 : Tab10 w) :
    Calls Tryz.prog 13 #[A] w fun r w' => r = .returned (.string ⟨#[51, 112, 45, 50]⟩) ∧ Below w.heap.size w w' :=
  t_show hA rfl (by omega) (by decide) hI h10 (H := [51]) (fun j h1 h2 => by obtain rfl := hex1 (by omega) h2; decide) itoa_m2 (by decide) (by decide) (by omega)
theorem t_show_q {w : World} {A : Value} {b : Nat} (hA : Nrm w b A false 5 (-4)) (hI : Ie.Tab w) (h10 : Tab10 w) :
    Calls Tryz.prog 13 #[A] w fun r w' => r = .returned (.string ⟨#[53, 112, 45, 52]⟩) ∧ Below w.heap.size w w' :=
  t_show hA rfl (by omega) (by decide) hI h10 (H := [53]) (fun j h1 h2 => by obtain rfl := hex1 (by omega) h2; decide) itoa_m4 (by decide) (by decide) (by omega)
theorem t_show_b {w : World} {A : Value} {b : Nat} (hA : Nrm w b A true 45 (-2)) (hI : Ie.Tab w) (h10 : Tab10 w) :
    Calls Tryz.prog 13 #[A] w fun r w' => r = .returned (.string ⟨#[45, 50, 100, 112, 45, 50]⟩) ∧ Below w.heap.size w w' :=
  t_show_neg hA rfl (by omega) (by decide) hI h10 (H := [50, 100]) (fun j h1 h2 => by obtain rfl := hex2 (by omega) (by omega) h1 h2; decide) itoa_m2 (by decide) (by decide) (by omega)

theorem t_valid {w : World} {A : Value} {b : Nat} (hA : Nrm w b A false 3 (-2)) :
    Calls Tryz.prog 28 #[A] w fun r w' => r = .returned (.bool true) ∧ Below w.heap.size w w' := by
  obtain ⟨ao, cap, rfl, ao', cap', e, h1, h2, h3⟩ := hA.odd rfl
  simp only [Value.slice.injEq] at e
  obtain ⟨rfl, -, rfl⟩ := e
  have d1 : dlen 3 = 1 := dlen_1 (by omega) (by omega)
  refine (c18 h3 (by omega)).mono ?_
  rintro r w' ⟨rfl, rfl⟩
  rw [d1]
  exact ⟨rfl, (Below.refl _ _).alloc (Nat.le_refl _) _⟩
theorem t_cmp {w : World} {A C : Value} {b c : Nat} (hA : Nrm w b A false 3 (-2)) (hC : Nrm w c C true 45 (-2)) :
    Calls Tryz.prog 29 #[A, C] w fun r w' => r = .returned (.int .i64 1) ∧ Below w.heap.size w w' := by
  obtain ⟨ua, uc, rfl, i1⟩ := hA.odd rfl
  obtain ⟨va, vc, rfl, i2⟩ := hC.odd rfl
  have d3 : dlen 3 = 1 := dlen_1 (by omega) (by omega)
  have d45 : dlen 45 = 1 := dlen_1 (by omega) (by omega)
  refine c30_1 false true ua va _ uc _ vc (-2) (-2) 1 w (fun W g hW hg => ?_) (fun W hW => ?_)
  · have := maybe2 hg (i1.later hW) (i2.later hW) (by omega) (by omega)
    rw [d3, d45, ok3, show okN true 1 45 (-2) = true by decide] at this
    exact this
  · rw [d3, d45]
    exact c77_1 false true ua va 1 uc 1 vc (-2) (-2) 1 (-1) W (by decide : sgI false 1 = 1) (by decide : sgI true 1 = -1) (by decide) (by omega) (by omega)
end Go.Proofs.YtbmaoiemgepppaaGreatDoor
/- The law's own small test: it answers true. -/
namespace Go.Proofs.YtbmaoiemgepppaaGreatDoor
set_option linter.unusedVariables false
set_option linter.unusedSimpArgs false
open Go.RowKit Go.Fl64

theorem Bx.lt {w3 wc : World} {g : Nat} {s : Bool} {ao : Option Addr} {n cap : Nat} {ex : Int} {sL : Bool} {zL : Nat} {eL : Int} (h : Bx w3 wc g s ao n cap ex sL zL eL) : g < wc.heap.size := lt_of_box h.1
/-- a number in its box stays -/
theorem Bx.later {w3 wc w' : World} {g : Nat} {s : Bool} {ao : Option Addr} {n cap : Nat} {ex : Int} {sL : Bool} {zL : Nat} {eL : Int} (h : Bx w3 wc g s ao n cap ex sL zL eL) (hb : Below wc.heap.size wc w') : Bx w3 w' g s ao n cap ex sL zL eL :=
  ⟨box_later h.1 hb h.lt, h.2.1, h.2.2.1.trans (hb.mono h.2.2.1.size), h.2.2.2.later hb⟩
theorem Bx.cells {w3 wc : World} {g : Nat} {s : Bool} {ao : Option Addr} {n cap : Nat} {ex : Int} {sL : Bool} {zL : Nat} {eL : Int} (h : Bx w3 wc g s ao n cap ex sL zL eL) :
    wc.cell? ⟨g, 0, none⟩ = some (.bool s) ∧ wc.cell? ⟨g, 1, none⟩ = some (.slice ao n cap) ∧ wc.cell? ⟨g, 2, none⟩ = some (.int .i64 ex) := (box_cells h.1).1

set_option maxHeartbeats 8000000 in
set_option maxRecDepth 200000 in
theorem works_ok (w : World) (hT : Tab32 w) (hI : Ie.Tab w) (h10 : Tab10 w) :
    Calls Tryz.prog 7 #[] w fun r w' => r = .returned (.bool true) ∧ Below w.heap.size w w' := by
  have HT : Hid (∀ W, Below w.heap.size w W → Tab32 W ∧ Ie.Tab W ∧ Tab10 W) := fun W h => ⟨hT.later h, Tab.later hI h, h10.later h⟩
  clear hT hI h10
  have k := t_of (HT.out w (Below.refl _ _)).1 (HT.out w (Below.refl _ _)).2.1
  go_enter Tryz.func7, Tryz.ntmps7
  go_wp2_with fail
  refine k.mono ?_
  rintro r w1 ⟨A, rfl, hA, hb1⟩
  clear k
  obtain ⟨s1, ao1, n1, cap1, ex1, rfl⟩ := hA.shape
  obtain ⟨W1, hW1⟩ : ∃ W1, W1 = w1.alloc (.cells #[.bool s1, .slice ao1 n1 cap1, .int .i64 ex1] 24) := ⟨_, rfl⟩
  have HX : Hid (Bx w W1 w1.heap.size s1 ao1 n1 cap1 ex1 false 3 (-2)) := (by rw [hW1]; exact Bx.new hA hb1 (Nat.le_refl _) : Bx w W1 w1.heap.size s1 ao1 n1 cap1 ex1 false 3 (-2))
  clear hA hb1
  go_upto_region 2 with fail
  rw [← hW1]
  clear hW1
  generalize w1.heap.size = g1 at *
  obtain ⟨a0, a1, a2⟩ := HX.out.cells
  have hBR : Below W1.heap.size W1 W1.drew := (Below.refl _ _).drew
  have HK : Hid (∀ w', Below W1.heap.size W1 w' → (w'.cell? ⟨g1, 0, none⟩ = some (.bool s1) ∧ w'.cell? ⟨g1, 1, none⟩ = some (.slice ao1 n1 cap1) ∧ w'.cell? ⟨g1, 2, none⟩ = some (.int .i64 ex1)) ∧ Below W1.heap.size W1 w') := fun w' hb => ⟨(HX.out.later hb).cells, hb⟩
  have k12 : ∀ w4, Below W1.heap.size W1 w4 → Calls Tryz.prog 23 #[.int .i64 (-12)] w4 fun r w' => ∃ C, r = .returned C ∧ Nrm w' w4.heap.size C true 12 0 ∧ Below W1.heap.size W1 w' ∧ Hid (∀ g o, w4.heap[g]? = some o → w'.heap[g]? = some o) := fun w4 hb =>
    (c12 (n := -12) (HT.out w4 (HX.out.2.2.1.trans (hb.mono HX.out.2.2.1.size))).1 (by omega)).mono fun r w' ⟨v, e1, o1, o2⟩ => ⟨v, e1, o1, hb.trans (o2.mono hb.size), fun g o hg => box_later hg o2 (lt_of_box hg)⟩
  have k19 : ∀ C c w6, Nrm w6 c C true 12 0 → Below W1.heap.size W1 w6 → Calls Tryz.prog 22 #[.agg #[.bool s1, .slice ao1 n1 cap1, .int .i64 ex1], C] w6 fun r w' => ∃ s ao n cap ex, r = .returned (.tuple #[.agg #[.bool s, .slice ao n cap, .int .i64 ex], .int .i64 0]) ∧ Nrm w' w6.heap.size (.agg #[.bool s, .slice ao n cap, .int .i64 ex]) true 45 (-2) ∧ Below W1.heap.size W1 w' ∧ Hid (∀ g o, w6.heap[g]? = some o → w'.heap[g]? = some o) := fun C c w6 hN hb =>
    (t_add (HX.out.later hb).2.2.2 hN (HT.out w6 (HX.out.2.2.1.trans (hb.mono HX.out.2.2.1.size))).1).mono fun r w' ⟨v, e1, o1, o2⟩ => by
      obtain ⟨s, ao, n, cap, ex, rfl⟩ := o1.shape
      exact ⟨s, ao, n, cap, ex, e1, o1, hb.trans (o2.mono hb.size), fun g o hg => box_later hg o2 (lt_of_box hg)⟩
  go_cut [3, 4] from 16 to 21 (fun p e wx => ∃ g s ao n cap ex, p = .pointer (some ⟨g, 0, none⟩) ∧ e = .int .i64 0 ∧ Hid (Bx W1 wx g s ao n cap ex true 45 (-2)))
  case first =>
    go_region_held3 (fun w' => (w'.cell? ⟨g1, 0, none⟩ = some (.bool s1) ∧ w'.cell? ⟨g1, 1, none⟩ = some (.slice ao1 n1 cap1) ∧ w'.cell? ⟨g1, 2, none⟩ = some (.int .i64 ex1)) ∧ Below W1.heap.size W1 w') (first | (with_reducible assumption) | exact ⟨⟨a0, a1, a2⟩, hBR⟩ | (refine HK.out _ ?_; with_reducible assumption) | (refine HK.out _ ?_; refine Below.alloc (by with_reducible assumption) (Below.size (by with_reducible assumption)) _) | (refine HK.out _ (below_store3 (by first | (with_reducible assumption) | exact hb7.alloc hb7.size _) (by first | exact Nat.le_refl _ | exact hb5.size | exact hb7.size) _ _ _)) | go_keep)
      (first | (go_at_call 23; refine (k12 _ (by first | (with_reducible assumption) | exact hBR.alloc hBR.size _)).mono ?_; rintro r w5 ⟨C5, rfl, ho5, hb5, hk5⟩; first | (have HBY : Hid (w5.heap[W1.heap.size]? = some (.cells #[.bool false, .slice none 0 0, .int .i64 0] 24 (0, 0))) := hk5.out _ _ (heap_alloc_new W1.drew _)) | (have HBY : Hid True := trivial))
             | (go_at_call 22; refine (k19 _ _ _ (by first | (with_reducible assumption) | exact ho5.later ((Below.refl _ _).alloc (Nat.le_refl _) _)) (by first | (with_reducible assumption) | exact hb5.alloc hb5.size _)).mono ?_; rintro r w7 ⟨s7, ao7, n7, cap7, ex7, rfl, hn7, hb7, hk7⟩; first | (have HBZ := hidOf (hk7.out _ _ HBY.out); obtain ⟨⟨x1, x2, x3⟩, x4, x5, x6⟩ := box_cells HBZ.out) | (have HBZ : Hid (w7.heap[w5.heap.size]? = some (.cells #[.bool false, .slice none 0 0, .int .i64 0] 24 (0, 0))) := hk7.out _ _ (heap_alloc_new w5 _); obtain ⟨⟨x1, x2, x3⟩, x4, x5, x6⟩ := box_cells HBZ.out) | (have HBZ : Hid True := trivial)))
    all_goals go_wp2_with fail
    all_goals go_meet
    all_goals first
      | exact ⟨_, _, _, _, _, _, rfl, rfl, Bx.new hn7 hb7 hb5.size⟩
      | exact ⟨_, _, _, _, _, _, rfl, rfl, Bx.put hn7 hb7 (Nat.le_trans hb5.size (by simp)) hb5.size (by simp) HBZ.out⟩
      | exact ⟨_, _, _, _, _, _, rfl, rfl, Bx.put hn7 hb7 hb5.size (Nat.le_refl _) (lt_of_box HBY.out) HBZ.out⟩
  case rest =>
    obtain ⟨W2, rfl⟩ : ∃ W2 : World, W2 = wc := ⟨_, rfl⟩
    obtain ⟨g2, s2, ao2, n2, cap2, ex2, rfl, rfl, HY⟩ := hcut
    clear k12 k19 HK hBR a0 a1 a2
    have HX2 : Hid (Bx w W2 g1 s1 ao1 n1 cap1 ex1 false 3 (-2)) := HX.out.later HY.out.2.2.1
    have HTW : Hid (∀ W, Below W2.heap.size W2 W → Tab32 W ∧ Ie.Tab W ∧ Tab10 W) := fun W h => HT.out W (HX2.out.2.2.1.trans (h.mono HX2.out.2.2.1.size))
    have k3 := c12 (n := 1) (HTW.out W2 (Below.refl _ _)).1 (by omega)
    go_wp2_with fail
    refine k3.mono ?_
    rintro r w3 ⟨P3, rfl, hn3, hb3⟩
    clear k3
    have k4 := c12 (n := 3) (HTW.out w3 hb3).1 (by omega)
    go_wp2_with fail
    refine k4.mono ?_
    rintro r w4 ⟨P4, rfl, hn4, hb4⟩
    clear k4
    have HB4 : Hid (Below W2.heap.size W2 w4) := hb3.trans (hb4.mono hb3.size)
    have k5 := t_quo (hn3.later hb4) hn4 (HTW.out w4 HB4.out).1
    clear hn3 hn4 hb3 hb4
    go_wp2_with fail
    refine k5.mono ?_
    rintro r w5 ⟨Q, rfl, hQ, hb5⟩
    clear k5
    obtain ⟨s3, ao3, n3, cap3, ex3, rfl⟩ := hQ.shape
    obtain ⟨W3, hW3⟩ : ∃ W3, W3 = w5.alloc (.cells #[.bool s3, .slice ao3 n3 cap3, .int .i64 ex3] 24) := ⟨_, rfl⟩
    have HZ : Hid (Bx W2 W3 w5.heap.size s3 ao3 n3 cap3 ex3 false 5 (-4)) := (by rw [hW3]; exact Bx.new hQ (HB4.out.trans (hb5.mono HB4.out.size)) HB4.out.size : Bx W2 W3 w5.heap.size s3 ao3 n3 cap3 ex3 false 5 (-4))
    clear hQ hb5
    have k6 := c12 (n := 0) (HTW.out W3 HZ.out.2.2.1).1 (by omega)
    go_wp2_with fail
    rw [← hW3]
    clear hW3
    generalize w5.heap.size = g3 at *
    refine k6.mono ?_
    rintro r w6 ⟨P6, rfl, hn6, hb6⟩
    clear k6
    have HTX : Hid (∀ W, Below W3.heap.size W3 W → Tab32 W ∧ Ie.Tab W ∧ Tab10 W) := fun W h => HTW.out W (HZ.out.2.2.1.trans (h.mono HZ.out.2.2.1.size))
    have k7 := c12 (n := 2) (HTX.out w6 hb6).1 (by omega)
    go_wp2_with fail
    refine k7.mono ?_
    rintro r w7 ⟨P7, rfl, hn7, hb7⟩
    clear k7
    have hb7' : Below W3.heap.size W3 w7 := hb6.trans (hb7.mono hb6.size)
    have k8 := c12 (n := 0) (HTX.out w7 hb7').1 (by omega)
    go_wp2_with fail
    refine k8.mono ?_
    rintro r w8 ⟨P8, rfl, hn8, hb8⟩
    clear k8
    have HB8 : Hid (Below W3.heap.size W3 w8) := hb7'.trans (hb8.mono hb7'.size)
    have k9 := t_up ((hn6.later hb7).later hb8) (hn7.later hb8) hn8 (HTX.out w8 HB8.out).1
    clear hn6 hn7 hn8 hb6 hb7 hb8 hb7'
    go_wp2_with fail
    refine k9.mono ?_
    rintro r w9 ⟨rfl, hb9⟩
    clear k9
    have HB9 : Hid (Below W3.heap.size W3 w9) := HB8.out.trans (hb9.mono HB8.out.size)
    clear hb9
    have k10 := c61 w9
    have k11 := t_inf (HTX.out w9 HB9.out).2.1
    go_wp2_with fail
    refine k10.mono ?_
    rintro r w10 ⟨rfl, hw10⟩
    replace hw10 := hw10.symm
    subst hw10
    clear k10
    go_wp2_with fail
    refine k11.mono ?_
    rintro r w11 ⟨rfl, hb11⟩
    clear k11
    obtain ⟨W4, hW4⟩ : ∃ W4, W4 = w11.alloc (.cells #[.bool false, .slice none 0 0, .int .i64 0] 24) := ⟨_, rfl⟩
    have HB4' : Hid (Below W3.heap.size W3 W4) := (by rw [hW4]; exact (HB9.out.trans (hb11.mono HB9.out.size)).alloc (Nat.le_trans HB9.out.size hb11.size) _ : Below W3.heap.size W3 W4)
    clear hb11
    have HA : Hid (∀ W', Below W4.heap.size W4 W' → Bx w W' g1 s1 ao1 n1 cap1 ex1 false 3 (-2) ∧ Bx W1 W' g2 s2 ao2 n2 cap2 ex2 true 45 (-2) ∧ Bx W2 W' g3 s3 ao3 n3 cap3 ex3 false 5 (-4) ∧ Ie.Tab W' ∧ Tab10 W' ∧ Below w.heap.size w W') := fun W' h => by
      have h3 : Below W3.heap.size W3 W' := HB4'.out.trans (h.mono HB4'.out.size)
      have h2 : Below W2.heap.size W2 W' := HZ.out.2.2.1.trans (h3.mono HZ.out.2.2.1.size)
      exact ⟨HX2.out.later h2, HY.out.later h2, HZ.out.later h3, (HTX.out W' h3).2.1, (HTX.out W' h3).2.2, HX2.out.2.2.1.trans (h2.mono HX2.out.2.2.1.size)⟩
    obtain ⟨z1, z2, z3, z4, z5, z6⟩ := HA.out W4 (Below.refl _ _)
    obtain ⟨a0, a1, a2⟩ := z1.cells
    rw [hW4] at a0 a1 a2
    have k12 := t_show_a z1.2.2.2 z4 z5
    clear z1 z2 z3 z4 z5 z6
    go_wp2_with fail
    rw [← hW4]
    clear hW4
    refine k12.mono ?_
    rintro r w12 ⟨rfl, hb12⟩
    have HB12 : Hid (Below W4.heap.size W4 w12) := hb12
    clear k12 hb12 a0 a1 a2
    obtain ⟨z1, z2, z3, z4, z5, z6⟩ := HA.out w12 HB12.out
    obtain ⟨a0, a1, a2⟩ := z2.cells
    have k13 := t_show_b z2.2.2.2 z4 z5
    clear z1 z2 z3 z4 z5 z6
    go_wp2_with fail
    refine k13.mono ?_
    rintro r w13 ⟨rfl, hb13⟩
    have HB13 : Hid (Below W4.heap.size W4 w13) := HB12.out.trans (hb13.mono HB12.out.size)
    clear k13 hb13 a0 a1 a2
    obtain ⟨z1, z2, z3, z4, z5, z6⟩ := HA.out w13 HB13.out
    obtain ⟨a0, a1, a2⟩ := z3.cells
    have k14 := t_show_q z3.2.2.2 z4 z5
    clear z1 z2 z3 z4 z5 z6
    go_wp2_with fail
    refine k14.mono ?_
    rintro r w14 ⟨rfl, hb14⟩
    have HB14 : Hid (Below W4.heap.size W4 w14) := HB13.out.trans (hb14.mono HB13.out.size)
    clear k14 hb14 a0 a1 a2
    have k15 := c54 4609047870845172685 4609047870845172685 w14
    go_wp2_with fail
    refine k15.mono ?_
    rintro r w15 ⟨rfl, hw15⟩
    replace hw15 := hw15.symm
    subst hw15
    clear k15
    obtain ⟨z1, z2, z3, z4, z5, z6⟩ := HA.out w14 HB14.out
    obtain ⟨a0, a1, a2⟩ := z1.cells
    have k16 := t_valid z1.2.2.2
    clear z1 z2 z3 z4 z5 z6
    go_wp2_with fail
    refine k16.mono ?_
    rintro r w16 ⟨rfl, hb16⟩
    have HB16 : Hid (Below W4.heap.size W4 w16) := HB14.out.trans (hb16.mono HB14.out.size)
    clear k16 hb16 a0 a1 a2
    obtain ⟨z1, z2, z3, z4, z5, z6⟩ := HA.out w16 HB16.out
    obtain ⟨a0, a1, a2⟩ := z1.cells
    obtain ⟨b0, b1, b2⟩ := z2.cells
    have k17 := t_cmp z1.2.2.2 z2.2.2.2
    clear z1 z2 z3 z4 z5 z6
    go_wp2_with fail
    refine k17.mono ?_
    rintro r w17 ⟨rfl, hb17⟩
    have HB17 : Hid (Below w.heap.size w w17) := (HA.out w17 (HB16.out.trans (hb17.mono HB16.out.size))).2.2.2.2.2
    clear k17 hb17 a0 a1 a2 b0 b1 b2
    go_wp2_with fail
    go_ret
    exact ⟨rfl, HB17.out⟩
end Go.Proofs.YtbmaoiemgepppaaGreatDoor
/- The document's Float, Of, Whole. -/
namespace Go.Proofs.YtbmaoiemgepppaaGreatDoor
set_option linter.unusedVariables false
set_option linter.unusedSimpArgs false
open Go.RowKit Go.Fl64

theorem Nr.shape {w : World} {base : Nat} {a : Value} {neg : Bool} {x : Nat} {e : Int} (h : Nr w base a neg x e) : ∃ s ao n cap ex, a = .agg #[.bool s, .slice ao n cap, .int .i64 ex] := by
  rcases h with ⟨_, rfl⟩ | ⟨_, ao, cap, rfl, -⟩
  · exact ⟨_, _, _, _, _, rfl⟩
  · exact ⟨_, _, _, _, _, rfl⟩
theorem cell_far3 {w : World} {g : Nat} {q : Addr} (h : q.block ≠ g) (a b c : Value) : (((w.setCell ⟨g, 0, none⟩ a).setCell ⟨g, 1, none⟩ b).setCell ⟨g, 2, none⟩ c).cell? q = w.cell? q := by
  have h1 : ∀ i, (⟨g, i, none⟩ : Addr) ≠ q := fun i e => h (by rw [← e])
  rw [World.cell?_setCell_other _ _ _ _ (h1 2), World.cell?_setCell_other _ _ _ _ (h1 1), World.cell?_setCell_other _ _ _ _ (h1 0)]
theorem Nr.store {w : World} {base : Nat} {a : Value} {neg : Bool} {x : Nat} {e : Int} (h : Nr w base a neg x e) {g : Nat} (hg : g < base) (p q r : Value) : Nr (((w.setCell ⟨g, 0, none⟩ p).setCell ⟨g, 1, none⟩ q).setCell ⟨g, 2, none⟩ r) base a neg x e := by
  rcases h with h | ⟨h0, g', cap, h1, h2, b, o, h3, h4⟩
  · exact .inl h
  · refine .inr ⟨h0, g', cap, h1, h2, b, o, h3, fun i hi => ?_⟩
    have h5 := h3 (by omega)
    simp only [Option.some.injEq, Addr.mk.injEq] at h5
    obtain ⟨rfl, rfl, -⟩ := h5
    rw [cell_far3 (by show g' ≠ g; omega)]
    exact h4 i hi
theorem Nr.mono {w : World} {base base' : Nat} {a : Value} {neg : Bool} {x : Nat} {e : Int} (h : Nr w base a neg x e) (hb : base' ≤ base) : Nr w base' a neg x e := by
  rcases h with h | ⟨h0, g', cap, h1, h2, h3⟩
  · exact .inl h
  · exact .inr ⟨h0, g', cap, h1, Nat.le_trans hb h2, h3⟩
theorem Nr.later {w w' : World} {base : Nat} {a : Value} {neg : Bool} {x : Nat} {e : Int} (h : Nr w base a neg x e) (hb : Below w.heap.size w w') : Nr w' base a neg x e := by
  rcases h with h | ⟨h0, g', cap, h1, h2, h3⟩
  · exact .inl h
  · exact .inr ⟨h0, g', cap, h1, h2, h3.later hb⟩

end Go.Proofs.YtbmaoiemgepppaaGreatDoor
/- The document's Of. -/
namespace Go.Proofs.YtbmaoiemgepppaaGreatDoor
set_option linter.unusedVariables false
set_option linter.unusedSimpArgs false
open Go.RowKit Go.Fl64

end Go.Proofs.YtbmaoiemgepppaaGreatDoor
/- The law's same: the program's number and the document's, digit by digit. -/
namespace Go.Proofs.YtbmaoiemgepppaaGreatDoor
set_option linter.unusedVariables false
set_option linter.unusedSimpArgs false
open Go.RowKit Go.Fl64

set_option maxHeartbeats 4000000 in
set_option maxRecDepth 200000 in
theorem same_1 (s : Bool) (e : Int) (ua va : Option Addr) (n uc vc x : Nat) (w : World) (h1 : At w ua n x) (h2 : At w va n x) (hn : n ≤ 35184372088832) :
    Calls Tryz.prog 6 #[.agg #[.bool s, .slice ua n uc, .int .i64 e], .agg #[.bool s, .slice va n vc, .int .i64 e]] w fun r w' => r = .returned (.bool true) ∧ Below w.heap.size w w' := by
  obtain ⟨W, hW⟩ : ∃ W, W = (w.alloc (.cells #[.bool s, .slice ua n uc, .int .i64 e] 24)).alloc (.cells #[.bool s, .slice va n vc, .int .i64 e] 28) := ⟨_, rfl⟩
  have hBW : Below w.heap.size w W := by rw [hW]; exact ((Below.refl _ _).alloc (Nat.le_refl _) _).alloc (by simp) _
  have hbA : W.heap[w.heap.size]? = some (.cells #[.bool s, .slice ua n uc, .int .i64 e] 24 (0, 0)) := by
    rw [hW, Below.heap_alloc _ _ _ (by simp)]; exact heap_alloc_new _ _
  have hbB : W.heap[w.heap.size + 1]? = some (.cells #[.bool s, .slice va n vc, .int .i64 e] 28 (0, 0)) := by
    rw [hW]
    have := heap_alloc_new (w.alloc (.cells #[.bool s, .slice ua n uc, .int .i64 e] 24)) (.cells #[.bool s, .slice va n vc, .int .i64 e] 28)
    simpa using this
  obtain ⟨⟨a0, a1, a2⟩, -⟩ := box_cells hbA
  obtain ⟨⟨b0, b1, b2⟩, -⟩ := box_cells29 hbB
  have i1 := h1.later hBW
  have i2 := h2.later hBW
  have HH : Hid (Below w.heap.size w W) := hBW
  have HA : Hid (∀ d, ((W.drewN d).cell? ⟨w.heap.size, 1, none⟩ = some (.slice ua n uc) ∧ (W.drewN d).cell? ⟨w.heap.size + 1, 1, none⟩ = some (.slice va n vc)) ∧ At (W.drewN d) ua n x ∧ At (W.drewN d) va n x) := fun d => ⟨⟨a1, b1⟩, i1, i2⟩
  have t1 : (s != s) = false := by simp
  have t2 : (e != e) = false := by simp
  have t3 : ((n : Int) != (n : Int)) = false := by simp
  have hsz : (w.alloc (.cells #[.bool s, .slice ua n uc, .int .i64 e] 24)).heap.size = w.heap.size + 1 := by simp
  clear hbA hbB h1 h2 hBW i1 i2
  rw [hW] at a0 a1 a2 b0 b1 b2
  go_enter Tryz.func6, Tryz.ntmps6
  go_wp2_with fail
  rw [← hW]
  clear hW a0 a1 a2 b0 b1 b2 hsz
  go_loopw [5] (fun v wr => ∃ (i d : Nat), i ≤ n ∧ v = .int .i64 (i : Int) ∧ wr = W.drewN d) (fun v _ => n - (intOf v).toNat)
  case atStart => exact ⟨0, 0, Nat.zero_le _, rfl, rfl⟩
  case round =>
    obtain ⟨i, d, hi, rfl, rfl⟩ := hrel
    obtain ⟨⟨c1, c2⟩, ⟨ba, oa, ha, hca⟩, ⟨bb, ob, hb, hcb⟩⟩ := HA.out d
    by_cases hin : i < n
    · obtain rfl := ha (by omega)
      obtain rfl := hb (by omega)
      have g1 := hca i hin
      have g2 := hcb i hin
      have hii : (i : Int) < (n : Int) := by omega
      generalize dg x i = q at *
      have t4 : ((q : Int) != (q : Int)) = false := by simp
      clear hca hcb ha hb
      have HW : Hid (∃ d', W.drewN d = W.drewN d') := ⟨d, rfl⟩
      generalize W.drewN d = wd at *
      go_wp2
      go_quiet (fail)
      go_wp2
      obtain ⟨d', rfl⟩ := HW.out
      exact ⟨⟨i + 1, _, by omega, by simp, World.drewN_drewN ..⟩, by simp [intOf]; omega⟩
    · obtain rfl : i = n := by omega
      clear hca hcb ha hb hin
      have HF : Hid (Below w.heap.size w (W.drewN d)) := ⟨HH.out.os, HH.out.tape, HH.out.output, HH.out.size, HH.out.block⟩
      generalize W.drewN d = wd at *
      go_wp2
      go_ret
      exact ⟨rfl, HF.out⟩
end Go.Proofs.YtbmaoiemgepppaaGreatDoor
/- What the rows list, brought to the walks: the three tables' cells hold their numbers; and a world in which they do. -/
namespace Go.Proofs.YtbmaoiemgepppaaGreatDoor
set_option linter.unusedVariables false
set_option linter.unusedSimpArgs false
open Go.RowKit Go.Fl64

theorem own : ownKnob Tryz.prog.godebug = none := by kernel_rfl
theorem g64 : Tryz.prog.globalNamed "math/bits.deBruijn64tab" = some 4 := by kernel_rfl
theorem g64t : (Tryz.prog.globals[4]?).map (·.type) = some 146 := by kernel_rfl
theorem g32 : Tryz.prog.globalNamed "math/bits.deBruijn32tab" = some 6 := by kernel_rfl
theorem g32t : (Tryz.prog.globals[6]?).map (·.type) = some 161 := by kernel_rfl
theorem g10t : (Tryz.prog.globals[5]?).map (·.type) = some 158 := by kernel_rfl
theorem cells114 : Tryz.prog.cellsOf 146 = 64 := by kernel_rfl
theorem cells130 : Tryz.prog.cellsOf 161 = 32 := by kernel_rfl
theorem cells146 : Tryz.prog.cellsOf 158 = 20 := by kernel_rfl
theorem cells5 : Tryz.prog.cellsOf 5 = 1 := by kernel_rfl
theorem cells58 : Tryz.prog.cellsOf 65 = 1 := by kernel_rfl

def zs64 : List Int := [0, 1, 56, 2, 57, 49, 28, 3, 61, 58, 42, 50, 38, 29, 17, 4, 62, 47, 59, 36, 45, 43, 51, 22, 53, 39, 33, 30, 24, 18, 12, 5, 63, 55, 48, 27, 60, 41, 37, 16, 46, 35, 44, 21, 52, 32, 23, 11, 54, 26, 40, 15, 34, 20, 31, 10, 25, 14, 19, 9, 13, 8, 7, 6]
def zs32 : List Int := [0, 1, 28, 2, 29, 14, 24, 3, 30, 22, 20, 15, 25, 17, 4, 8, 31, 27, 13, 23, 21, 19, 16, 7, 26, 12, 18, 6, 11, 5, 10, 9]
def zs10 : List Int := [1, 10, 100, 1000, 10000, 100000, 1000000, 10000000, 100000000, 1000000000, 10000000000, 100000000000, 1000000000000, 10000000000000, 100000000000000, 1000000000000000, 10000000000000000, 100000000000000000, 1000000000000000000, 10000000000000000000]
theorem zs64_at : ∀ i, i < 64 → zs64.getD i 0 = ((Lib.deBruijn64tab.getD i 0 : Nat) : Int) := by decide +kernel
theorem zs32_at : ∀ i, i < 32 → zs32.getD i 0 = ((Lib.deBruijn32tab.getD i 0 : Nat) : Int) := by decide +kernel
theorem zs10_eq : zs10 = Lib.pow10Tab := by decide +kernel

theorem tab64_of {W : World} (h : Lib.TabIs Tryz.prog W "math/bits.deBruijn64tab" .u8 zs64) : Ie.Tab W := by
  intro i hi
  have := h.cell g64 i (by exact hi)
  rw [zs64_at i hi] at this
  exact this
theorem tab32_of {W : World} (h : Lib.TabIs Tryz.prog W "math/bits.deBruijn32tab" .u8 zs32) : Tab32 W := by
  intro i hi
  have := h.cell g32 i (by exact hi)
  rw [zs32_at i hi] at this
  exact this
theorem tab10_of {W : World} (h : Lib.TabIs Tryz.prog W "internal/strconv.uint64pow10" .u64 zs10) : Tab10 W := by
  rw [zs10_eq] at h
  exact h

theorem laid_tail {P : Program} {W : World} {x : String × DataW Unit} {rest : List (String × DataW Unit)} (h : laidMet P (x :: rest) W) : laidMet P rest W := by
  obtain ⟨ps, ⟨g', t', cs, fuel, p, q, hg', ht', hvar, hd, hr, rfl⟩, hn, hc⟩ := h
  exact ⟨q, hr, (List.nodup_append.1 hn).2.1, fun b off hm => hc b off (List.mem_append_right _ hm)⟩

/-- A world whose tables' blocks hold what their initialisers lay. -/
def laidOn (w : World) : World :=
  { w with heap := ((w.heap.modify 4 fun
      | .cells _ t frozen => .cells #[.int .u8 0, .int .u8 1, .int .u8 56, .int .u8 2, .int .u8 57, .int .u8 49, .int .u8 28, .int .u8 3, .int .u8 61, .int .u8 58, .int .u8 42, .int .u8 50, .int .u8 38, .int .u8 29, .int .u8 17, .int .u8 4, .int .u8 62, .int .u8 47, .int .u8 59, .int .u8 36, .int .u8 45, .int .u8 43, .int .u8 51, .int .u8 22, .int .u8 53, .int .u8 39, .int .u8 33, .int .u8 30, .int .u8 24, .int .u8 18, .int .u8 12, .int .u8 5, .int .u8 63, .int .u8 55, .int .u8 48, .int .u8 27, .int .u8 60, .int .u8 41, .int .u8 37, .int .u8 16, .int .u8 46, .int .u8 35, .int .u8 44, .int .u8 21, .int .u8 52, .int .u8 32, .int .u8 23, .int .u8 11, .int .u8 54, .int .u8 26, .int .u8 40, .int .u8 15, .int .u8 34, .int .u8 20, .int .u8 31, .int .u8 10, .int .u8 25, .int .u8 14, .int .u8 19, .int .u8 9, .int .u8 13, .int .u8 8, .int .u8 7, .int .u8 6] t frozen
      | o => o).modify 6 fun
      | .cells _ t frozen => .cells #[.int .u8 0, .int .u8 1, .int .u8 28, .int .u8 2, .int .u8 29, .int .u8 14, .int .u8 24, .int .u8 3, .int .u8 30, .int .u8 22, .int .u8 20, .int .u8 15, .int .u8 25, .int .u8 17, .int .u8 4, .int .u8 8, .int .u8 31, .int .u8 27, .int .u8 13, .int .u8 23, .int .u8 21, .int .u8 19, .int .u8 16, .int .u8 7, .int .u8 26, .int .u8 12, .int .u8 18, .int .u8 6, .int .u8 11, .int .u8 5, .int .u8 10, .int .u8 9] t frozen
      | o => o).modify 5 fun
      | .cells _ t frozen => .cells #[.int .u64 1, .int .u64 10, .int .u64 100, .int .u64 1000, .int .u64 10000, .int .u64 100000, .int .u64 1000000, .int .u64 10000000, .int .u64 100000000, .int .u64 1000000000, .int .u64 10000000000, .int .u64 100000000000, .int .u64 1000000000000, .int .u64 10000000000000, .int .u64 100000000000000, .int .u64 1000000000000000, .int .u64 10000000000000000, .int .u64 100000000000000000, .int .u64 1000000000000000000, .int .u64 10000000000000000000] t frozen
      | o => o }
end Go.Proofs.YtbmaoiemgepppaaGreatDoor
/- compare, where the signs are alike. -/
namespace Go.Proofs.YtbmaoiemgepppaaGreatDoor
set_option linter.unusedVariables false
set_option linter.unusedSimpArgs false
open Go.RowKit Go.Fl64

theorem c75 {neg : Bool} {ao : Option Addr} {cap x : Nat} {e : Int} {w : World} (h : Is w (.slice ao (dlen x) cap) x) (hx : dlen x ≤ 1000000) (he1 : -4000000 ≤ e) (he2 : e ≤ 4000000) :
    Calls Tryz.prog 98 #[.agg #[.bool neg, .slice ao (dlen x) cap, .int .i64 e]] w fun r w' => r = .returned (.int .i64 (bl x + e)) ∧ Below w.heap.size w w' := by
  have hb := bl_le_dlen x
  exact c75_1 neg ao _ cap (bl x) e w (by omega) he1 he2 fun W hW => c74 (h.later hW) (by omega)

end Go.Proofs.YtbmaoiemgepppaaGreatDoor
/- compare and Cmp joined; Round. -/
namespace Go.Proofs.YtbmaoiemgepppaaGreatDoor
set_option linter.unusedVariables false
set_option linter.unusedSimpArgs false
open Go.RowKit Go.Fl64

theorem cmpI_cases (x y : Int) : (x < y ∧ cmpI x y = -1) ∨ (y < x ∧ cmpI x y = 1) ∨ (x = y ∧ cmpI x y = 0) := by
  unfold cmpI
  by_cases h1 : x < y
  · rw [if_pos h1]; exact .inl ⟨h1, rfl⟩
  · rw [if_neg h1]
    by_cases h2 : y < x
    · rw [if_pos h2]; exact .inr (.inl ⟨h2, rfl⟩)
    · rw [if_neg h2]; exact .inr (.inr ⟨by omega, rfl⟩)
end Go.Proofs.YtbmaoiemgepppaaGreatDoor
/- The laws' give: a number with digits of its own. -/
namespace Go.Proofs.YtbmaoiemgepppaaGreatDoor
set_option linter.unusedVariables false
set_option linter.unusedSimpArgs false
open Go.RowKit

theorem setCell_block {w : World} {g k : Nat} (i : Nat) (v : Value) (h : k ≠ g) : (w.setCell ⟨g, i, none⟩ v).heap[k]? = w.heap[k]? := by
  simp [World.setCell, Array.getElem?_modify, Ne.symm h]
/-- v is a slice in memory of its own (from block base on) that holds the lowest n digits of z -/
def Dn (w : World) (base : Nat) (v : Value) (n z : Nat) : Prop :=
  (v = .slice none 0 0 ∧ n = 0) ∨ ∃ g cap c, v = .slice (some ⟨g, 0, none⟩) n cap ∧ base ≤ g ∧ (n ≤ cap ∧ cap ≤ 9223372036854775807) ∧ w.heap[g]? = some (.cells c 49 (0, 0)) ∧ c.size = cap ∧ ∀ i, i < n → c[i]? = some (.int .u32 (dg z i : Nat))

/-- a number as the laws are handed it: n digits of z, in memory -/
structure Arg (w : World) (ao : Option Addr) (n cap z : Nat) : Prop where
  nil : n = 0 → (∃ ad, ao = some ad) ∨ (ao = none ∧ cap = 0)
  at_ : At w ao n z
  le : n ≤ cap
  small : n ≤ 35184372088832
theorem Arg.later {w w' : World} {ao : Option Addr} {n cap z : Nat} (h : Arg w ao n cap z) (hb : Below w.heap.size w w') : Arg w' ao n cap z := ⟨h.nil, h.at_.later hb, h.le, h.small⟩

theorem Dn.later {w w' : World} {base : Nat} {v : Value} {n z : Nat} (h : Dn w base v n z) (hb : Below w.heap.size w w') : Dn w' base v n z := by
  rcases h with h | ⟨g, cap, c, h0, h1, h2, h3, h4, h5⟩
  · exact .inl h
  · exact .inr ⟨g, cap, c, h0, h1, h2, (hb.block g (Array.getElem?_eq_some_iff.1 h3).1).trans h3, h4, h5⟩
theorem Dn.row {w : World} {base : Nat} {v : Value} {n z : Nat} (h : Dn w base v n z) {g : Nat} {cs : Array Value} {t : TypeId} {fr : Nat × Nat} (hg : w.heap[g]? = some (.cells cs t fr)) (ht : t ≠ 49) (cs' : Array Value) : Dn (w.setRow g cs') base v n z := by
  rcases h with h | ⟨g', cap, c, h0, h1, h2, h3, h4, h5⟩
  · exact .inl h
  · refine .inr ⟨g', cap, c, h0, h1, h2, ?_, h4, h5⟩
    rw [setRow_other]
    · exact h3
    · intro e
      subst e
      rw [h3] at hg
      simp only [Option.some.injEq, Obj.cells.injEq] at hg
      exact ht hg.2.1.symm
theorem Dn.mono {w : World} {base base' : Nat} {v : Value} {n z : Nat} (h : Dn w base v n z) (hb : base' ≤ base) : Dn w base' v n z := by
  rcases h with h | ⟨g, cap, c, h0, h1, h2⟩
  · exact .inl h
  · exact .inr ⟨g, cap, c, h0, by omega, h2⟩
theorem Dn.at {w : World} {base : Nat} {v : Value} {n z : Nat} (h : Dn w base v n z) : ∃ ao cap, v = .slice ao n cap ∧ n ≤ cap ∧ At w ao n z := by
  rcases h with ⟨rfl, rfl⟩ | ⟨g, cap, c, rfl, h1, h2, h3, h4, h5⟩
  · exact ⟨none, 0, rfl, by omega, 0, 0, fun h => by omega, fun i hi => by omega⟩
  · exact ⟨_, cap, rfl, h2.1, g, 0, fun _ => rfl, fun i hi => by rw [Nat.zero_add]; simp [World.cell?, h3, h5 i hi]⟩
end Go.Proofs.YtbmaoiemgepppaaGreatDoor
/- Several numbers given at once: x, y := give(a), give(b). -/
namespace Go.Proofs.YtbmaoiemgepppaaGreatDoor
set_option linter.unusedVariables false
set_option linter.unusedSimpArgs false
open Go.RowKit

/-- a frame with values put into slots, one behind the other -/
def putL (a : Act) (l : List (Tmp × Value)) : Act := l.foldl (fun a p => a.put (some p.1) p.2) a

theorem putL_defers (l : List (Tmp × Value)) : ∀ a : Act, (putL a l).defers = a.defers := by
  induction l with
  | nil => intro a; rfl
  | cons p r ih => intro a; show (putL (a.put (some p.1) p.2) r).defers = _; rw [ih, put_defers]
theorem putL_other {s : Tmp} (l : List (Tmp × Value)) : ∀ a : Act, s ∉ l.map (·.1) → (putL a l).tmps[s]? = a.tmps[s]? := by
  induction l with
  | nil => intro a _; rfl
  | cons p r ih =>
    intro a h
    simp only [List.map_cons, List.mem_cons, not_or] at h
    show (putL (a.put (some p.1) p.2) r).tmps[s]? = _
    rw [ih _ h.2, put_get_ne h.1]
theorem putL_mem {s : Tmp} {v : Value} (l : List (Tmp × Value)) : ∀ a : Act, (s, v) ∈ l → (l.map (·.1)).Nodup → s < a.tmps.size → (putL a l).tmps[s]? = some v := by
  induction l with
  | nil => intro a h; cases h
  | cons p r ih =>
    intro a h hn hs
    simp only [List.map_cons, List.nodup_cons] at hn
    show (putL (a.put (some p.1) p.2) r).tmps[s]? = _
    rcases List.mem_cons.1 h with h | h
    · subst h
      rw [putL_other _ _ hn.1, put_get hs]
    · exact ih _ h hn.2 (by rw [put_size]; exact hs)
theorem act_putL {a a0 : Act} {l : List (Tmp × Value)} (hn : (l.map (·.1)).Nodup) (hs : a.tmps.size = a0.tmps.size) (hd : a.defers = a0.defers) (hl : ∀ p ∈ l, a.tmps[p.1]? = some p.2) (ho : ∀ s, s ∉ l.map (·.1) → a.tmps[s]? = a0.tmps[s]?) : a = putL a0 l := by
  have ht : a.tmps = (putL a0 l).tmps := by
    refine Array.ext_getElem? fun s => ?_
    by_cases h : s ∈ l.map (·.1)
    · obtain ⟨p, hp, rfl⟩ := List.mem_map.1 h
      have h1 := hl p hp
      rw [h1, putL_mem l a0 hp hn (by rw [← hs]; exact (Array.getElem?_eq_some_iff.1 h1).1)]
    · rw [putL_other l a0 h]; exact ho s h
  have hd' : a.defers = (putL a0 l).defers := by rw [putL_defers]; exact hd
  cases a with
  | mk t d =>
    cases hp : putL a0 l with
    | mk t' d' =>
      rw [hp] at ht hd'
      simp only at ht hd'
      rw [ht, hd']

theorem follows_mixed : Tryz.prog.follows .mixedOrders = true := by kernel_rfl
end Go.Proofs.YtbmaoiemgepppaaGreatDoor
/- Exact values: a sign, a whole number, an exponent; one form for each. -/
namespace Go.Proofs.YtbmaoiemgepppaaGreatDoor
set_option linter.unusedVariables false
set_option linter.unusedSimpArgs false
open Go.RowKit

/-- the one form -/
def cn (s : Bool) (z : Nat) (e : Int) : Bool × Nat × Int := if z = 0 then (false, 0, 0) else (s, z / 2 ^ tz z, e + tz z)

/-- how far a number reaches: its lowest place, the place above its highest -/
def Fits (lo hi : Int) (x : Nat) (e : Int) : Prop := x = 0 ∨ (lo ≤ e ∧ e ≤ hi ∧ x < 2 ^ (hi - e).toNat)

theorem Fits.cn {lo hi : Int} {s : Bool} {z : Nat} {e : Int} (h : Fits lo hi z e) : Fits lo hi (cn s z e).2.1 (cn s z e).2.2 := by
  rcases h with rfl | ⟨h1, h2, h3⟩
  · left; simp [YtbmaoiemgepppaaGreatDoor.cn]
  · unfold YtbmaoiemgepppaaGreatDoor.cn
    by_cases h0 : z = 0
    · subst h0; left; simp
    · rw [if_neg h0]
      right
      have hs := (tz_spec z z (Nat.le_refl _) h0).1
      have ho := (tz_spec z z (Nat.le_refl _) h0).2
      have hq : 1 ≤ z / 2 ^ tz z := Nat.pos_of_ne_zero fun e0 => by rw [e0] at ho; simp at ho
      have ht : tz z < (hi - e).toNat := by
        refine Nat.lt_of_not_le fun h => ?_
        have h4 := Nat.pow_le_pow_right (n := 2) (by omega) h
        have h5 := Nat.mul_le_mul_left (2 ^ tz z) hq
        omega
      refine ⟨by show lo ≤ e + (tz z : Int); omega, by show e + (tz z : Int) ≤ hi; omega, ?_⟩
      show z / 2 ^ tz z < 2 ^ (hi - (e + (tz z : Int))).toNat
      refine (Nat.div_lt_iff_lt_mul (Nat.two_pow_pos _)).2 ?_
      rw [← Nat.pow_add, show (hi - (e + (tz z : Int))).toNat + tz z = (hi - e).toNat by omega]
      exact h3

theorem Fits.mono {lo hi lo' hi' : Int} {x : Nat} {e : Int} (h : Fits lo hi x e) (h1 : lo' ≤ lo) (h2 : hi ≤ hi') : Fits lo' hi' x e := by
  rcases h with h | ⟨h3, h4, h5⟩
  · exact .inl h
  · exact .inr ⟨by omega, by omega, Nat.lt_of_lt_of_le h5 (Nat.pow_le_pow_right (by omega) (by omega))⟩

theorem Fits.at {lo hi : Int} {x : Nat} {e m : Int} (h : Fits lo hi x e) (hm : m ≤ e) : x * 2 ^ (e - m).toNat < 2 ^ (hi - m).toNat := by
  rcases h with rfl | ⟨h3, h4, h5⟩
  · rw [Nat.zero_mul]; exact Nat.two_pow_pos _
  · rw [show (hi - m).toNat = (hi - e).toNat + (e - m).toNat by omega, Nat.pow_add]
    exact Nat.mul_lt_mul_of_pos_right h5 (Nat.two_pow_pos _)

theorem Fits.sum {lo hi : Int} {na nb : Bool} {x y : Nat} {ea eb : Int} (h1 : Fits lo hi x ea) (h2 : Fits lo hi y eb) :
    Fits lo (hi + 1) (sumN na x ea nb y eb).2.1 (sumN na x ea nb y eb).2.2 := by
  unfold sumN
  by_cases x0 : x = 0
  · rw [if_pos x0]; exact h2.mono (by omega) (by omega)
  · rw [if_neg x0]
    by_cases y0 : y = 0
    · rw [if_pos y0]; exact h1.mono (by omega) (by omega)
    · rw [if_neg y0]
      have a1 := h1.at (m := min ea eb) (by omega)
      have a2 := h2.at (m := min ea eb) (by omega)
      obtain ⟨p1, p2, -⟩ := h1.resolve_left x0
      obtain ⟨q1, q2, -⟩ := h2.resolve_left y0
      have hp : 2 ^ (hi + 1 - min ea eb).toNat = 2 ^ (hi - min ea eb).toNat * 2 := by
        rw [show (hi + 1 - min ea eb).toNat = (hi - min ea eb).toNat + 1 by omega, Nat.pow_succ]
      generalize x * 2 ^ (ea - min ea eb).toNat = X at *
      generalize y * 2 ^ (eb - min ea eb).toNat = Y at *
      have hall : ∀ Z, Z ≤ X + Y → Fits lo (hi + 1) Z (min ea eb) := fun Z hZ => .inr ⟨by omega, by omega, by omega⟩
      split
      · exact hall _ (Nat.le_refl _)
      · split
        · exact hall _ (by show Y - X ≤ X + Y; omega)
        · exact hall _ (by show X - Y ≤ X + Y; omega)

theorem Fits.dlen {lo hi : Int} {x : Nat} {e : Int} (h : Fits lo hi x e) (hb : hi - lo ≤ 65536) : dlen x ≤ 2048 := by
  rcases h with rfl | ⟨h1, h2, h3⟩
  · rw [dlen_zero]; omega
  · refine (dlen_le _ _).2 (Nat.lt_of_lt_of_le h3 ?_)
    have hB : ∀ n, B ^ n = 2 ^ (32 * n) := fun n => by
      have : (B : Nat) = 2 ^ 32 := by decide
      rw [this, ← Nat.pow_mul]
    have hn : (hi - e).toNat ≤ 32 * 2048 := by omega
    generalize 2048 = n at *
    rw [hB]
    exact Nat.pow_le_pow_right (by omega) hn

/-- what fits may be -/
theorem Fits.ok {lo hi : Int} {s : Bool} {z : Nat} {e : Int} (h : Fits lo hi z e) (hb : hi - lo ≤ 65536) (h1 : -65536 ≤ lo) (h2 : hi ≤ 65536) : okR s z e = true := by
  unfold okR
  by_cases h0 : z = 0
  · rw [if_pos h0]
  · rw [if_neg h0]
    have hc := h.cn (s := s)
    have hd := hc.dlen hb
    unfold YtbmaoiemgepppaaGreatDoor.cn at hc hd
    rw [if_neg h0] at hc hd
    have ho := (tz_spec z z (Nat.le_refl _) h0).2
    simp only at hc hd
    generalize z / 2 ^ tz z = x at *
    have hx0 : x ≠ 0 := by omega
    obtain ⟨c1, c2, c3⟩ := hc.resolve_left hx0
    unfold okN
    rw [if_neg (fun e => hx0 (dlen_eq_zero.1 e))]
    have e0 : dg x 0 % 2 = 1 := by
      unfold dg
      rw [Nat.pow_zero, Nat.div_one]
      unfold B
      omega
    have e1 := dg_top hx0
    simp only [Bool.and_eq_true, decide_eq_true_eq, bne_iff_ne, ne_eq, beq_iff_eq]
    exact ⟨⟨⟨⟨hd, e1⟩, e0⟩, by omega⟩, by omega⟩
end Go.Proofs.YtbmaoiemgepppaaGreatDoor
/- Numbers in memory by their one form, and what Add, Sub, Mul make of them. -/
namespace Go.Proofs.YtbmaoiemgepppaaGreatDoor
set_option linter.unusedVariables false
set_option linter.unusedSimpArgs false
open Go.RowKit

/-- A is, in memory, the number t: sign, digits, exponent -/
def PN (w : World) (A : Value) (t : Bool × Nat × Int) : Prop := ∃ ao cap, A = .agg #[.bool t.1, .slice ao (dlen t.2.1) cap, .int .i64 t.2.2] ∧ Is w (.slice ao (dlen t.2.1) cap) t.2.1
/-- t may be -/
def Ok (t : Bool × Nat × Int) : Prop := okN t.1 (dlen t.2.1) t.2.1 t.2.2 = true

theorem PN.later {w w' : World} {A : Value} {t : Bool × Nat × Int} (h : PN w A t) (hb : Below w.heap.size w w') : PN w' A t := by
  obtain ⟨ao, cap, h1, h2⟩ := h
  exact ⟨ao, cap, h1, h2.later hb⟩
theorem PN.shape {w : World} {A : Value} {t : Bool × Nat × Int} (h : PN w A t) : ∃ s ao n cap e, A = .agg #[.bool s, .slice ao n cap, .int .i64 e] := by
  obtain ⟨ao, cap, h1, -⟩ := h
  exact ⟨_, _, _, _, _, h1⟩
/-- what may be is its own form -/
theorem Ok.facts {t : Bool × Nat × Int} (h : Ok t) : dlen t.2.1 ≤ 2048 ∧ -65536 ≤ t.2.2 ∧ t.2.2 ≤ 65536 ∧ (t.2.1 = 0 → t = (false, 0, 0)) ∧ (t.2.1 ≠ 0 → t.2.1 % 2 = 1) := by
  obtain ⟨s, x, e⟩ := t
  unfold Ok okN at h
  simp only at h ⊢
  by_cases h0 : x = 0
  · subst h0
    rw [dlen_zero, if_pos rfl] at h
    simp at h
    obtain ⟨rfl, rfl⟩ := h
    rw [dlen_zero]
    exact ⟨by omega, by omega, by omega, fun _ => rfl, fun h => absurd rfl h⟩
  · rw [if_neg (fun e => h0 (dlen_eq_zero.1 e))] at h
    simp only [Bool.and_eq_true, decide_eq_true_eq, bne_iff_ne, ne_eq, beq_iff_eq] at h
    obtain ⟨⟨⟨⟨h1, h2⟩, h3⟩, h4⟩, h5⟩ := h
    refine ⟨h1, h4, h5, fun h => absurd h h0, fun _ => ?_⟩
    unfold dg at h3
    rw [Nat.pow_zero, Nat.div_one] at h3
    unfold B at h3
    omega
/-- digits that give laid, of a number that may be -/
theorem dn_pn {w : World} {base : Nat} {v : Value} {s : Bool} {x : Nat} {e : Int} (h : Dn w base v (dlen x) x) : PN w (.agg #[.bool s, v, .int .i64 e]) (s, x, e) := by
  rcases h with ⟨rfl, h0⟩ | ⟨g, cap, c, rfl, h1, h2, h3, h4, h5⟩
  · obtain rfl := dlen_eq_zero.1 h0
    exact ⟨none, 0, by rw [dlen_zero], by rw [dlen_zero]; exact is_nil w⟩
  · exact ⟨_, cap, rfl, _, cap, rfl, h2.1, h2.2, g, 0, fun _ => rfl, fun i hi => by rw [Nat.zero_add]; simp [World.cell?, h3, h5 i hi]⟩
end Go.Proofs.YtbmaoiemgepppaaGreatDoor
