/- Own work: contracts of the program's functions, part 10: VR3. -/
import Derived.Test.YtbmaoiemgepppaaGreatDoorA9
import Derived.Test.YtbmaoiemgepppaaGreatDoorA1

/- readDigits: a text cut into eights from its end, each read at base 16. -/
namespace Go.Proofs.YtbmaoiemgepppaaGreatDoor
set_option linter.unusedVariables false
set_option linter.unusedSimpArgs false
open Go Go.RowKit Go.Fl64

/-- a row that the call has made, other blocks beside it -/
structure MkG (w wr : World) (n : Nat) (f : Nat → Nat) : Prop where
  below : Below w.heap.size w wr
  size : w.heap.size < wr.heap.size
  row : wr.rowIs w.heap.size 49 n (fun i => .int .u32 (f i : Nat))
theorem MkG.start (w : World) (n : Nat) : MkG w (w.alloc (.cells (madeCells #[.int .u32 0] n) 49)) n (fun _ => 0) :=
  ⟨(Below.refl _ _).alloc (Nat.le_refl _) _, by simp, World.rowIs_made w _ n 49⟩
theorem MkG.later {w wr w' : World} {n : Nat} {f : Nat → Nat} (h : MkG w wr n f) (hb : Below wr.heap.size wr w') : MkG w w' n f :=
  ⟨below_step h.below hb, Nat.lt_of_lt_of_le h.size hb.size, h.row.of_block (hb.block _ h.size)⟩
theorem MkG.cell {w wr : World} {n : Nat} {f : Nat → Nat} (h : MkG w wr n f) {i : Nat} (hi : i < n) : wr.cell? ⟨w.heap.size, i, none⟩ = some (.int .u32 (f i : Nat)) := h.row.cell hi
theorem MkG.frozen {w wr : World} {n : Nat} {f : Nat → Nat} (h : MkG w wr n f) (i : Nat) : wr.frozen? ⟨w.heap.size, i, none⟩ = false := h.row.frozen i
theorem MkG.set {w wr : World} {n : Nat} {f : Nat → Nat} (h : MkG w wr n f) (i d : Nat) : MkG w (wr.setCell ⟨w.heap.size, i, none⟩ (.int .u32 (d : Nat))) n (fun j => if j = i then d else f j) :=
  ⟨h.below.setCell (Nat.le_refl _) _, by simp [h.size], (h.row.set i _).congr (fun j _ => by split <;> rfl)⟩
theorem MkG.congr {w wr : World} {n : Nat} {f g : Nat → Nat} (h : MkG w wr n f) (e : ∀ i, i < n → f i = g i) : MkG w wr n g :=
  ⟨h.below, h.size, h.row.congr (fun i hi => by rw [e i hi])⟩
/-- the i-th piece of a text, from its end -/
def pcS (s : ByteArray) (i : Nat) : ByteArray := s.extract (s.size - 8 * i - 8) (s.size - 8 * i)
theorem pcS_size (s : ByteArray) (i : Nat) : (pcS s i).size ≤ 8 := by
  unfold pcS; rw [ByteArray.size_extract]; omega
theorem pcS_pos {s : ByteArray} {i : Nat} (h : 8 * i < s.size) : 0 < (pcS s i).size := by
  unfold pcS; rw [ByteArray.size_extract]; omega
theorem toList_some {s : ByteArray} (h : 0 < s.size) : s.toList.isEmpty = false := by
  rw [ByteArray.toList_eq, List.isEmpty_eq_false_iff]
  intro h5
  have h6 := congrArg List.length h5
  have h7 : s.data.toList.length = s.size := by rw [Array.length_toList]; rfl
  rw [h7, List.length_nil] at h6
  omega
theorem rd_round {s : ByteArray} {w wr : World} {m j : Nat} {q : Int} (hM : MkG w wr m (fun t => if t < j then puD (pcS s t) else 0)) (hq : q = (puD (pcS s j) : Nat)) (hj : j < m) :
    (∃ j_1 : Nat, j_1 ≤ m ∧ Value.int .i64 ((j : Int) + 1) = Value.int .i64 (j_1 : Int) ∧
      MkG w (wr.setCell ⟨w.heap.size, j, none⟩ (Value.int .u32 q)) m fun t => if t < j_1 then puD (pcS s t) else 0) ∧
    m - (intOf (Value.int .i64 ((j : Int) + 1))).toNat < m - (intOf (Value.int .i64 (j : Int))).toNat := by
  subst hq
  refine ⟨⟨j + 1, by omega, by simp, (hM.set j _).congr fun i hi => ?_⟩, by simp [intOf]; omega⟩
  by_cases e : i = j
  · subst e
    rw [if_pos rfl, if_pos (by omega)]
  · rw [if_neg e]
    by_cases e2 : i < j
    · rw [if_pos e2, if_pos (by omega)]
    · rw [if_neg e2, if_neg (by omega)]

set_option maxRecDepth 200000 in
theorem rdig (kt : TeS) (s : ByteArray) (w : World) (hs : s.size ≤ 1099511627776) (hS : SenS w) (m : Nat) (hm : (s.size + 7) / 8 = m) :
    Calls Tryz.prog 12 #[.string s] w fun r w' => r = .returned (.slice (some ⟨w.heap.size, 0, none⟩) m m) ∧ MkG w w' m (fun t => puD (pcS s t)) := by
  generalize hn : s.size = n at *
  have hq : ((n : Int) + 8 - 1).tdiv 8 = (m : Int) := by rw [Int.tdiv_eq_ediv_of_nonneg (by omega)]; omega
  have hmk := run_make_row' (P := Tryz.prog) 22 49 (.int .u32 0) 4 Tryz.underlying22 Tryz.info49 rfl .i64 .i64 m (by omega) (by omega)
  have HN : Hid (s.size = n) := hn
  have HM0 : Hid ((n + 7) / 8 = m) := hm
  have hmb : m ≤ 1099511627776 := by omega
  clear hm
  go_enter Tryz.func12, Tryz.ntmps12
  go_wp2_with fail
  clear hmk
  go_loopw [16] (fun i wr => ∃ j : Nat, j ≤ m ∧ i = .int .i64 j ∧ MkG w wr m (fun t => if t < j then puD (pcS s t) else 0)) (fun i _ => m - (intOf i).toNat)
  case atStart => exact ⟨0, Nat.zero_le _, rfl, (MkG.start w _).congr fun i hi => by rw [if_neg (by omega)]⟩
  case round =>
    obtain ⟨j, hj, rfl, hM⟩ := hrel
    by_cases hjm : j < m
    · have hM0 := HM0.out
      have k := spu kt (pcS s j) wr (pcS_size s j) (toList_some (pcS_pos (by omega))) (pcS_pos (by omega)) (hS.later hM.below)
      have HM : Hid (MkG w wr m (fun t => if t < j then puD (pcS s t) else 0)) := hM
      have HD : Hid (puD (pcS s j) < 4294967296) := puD_lt _ (pcS_size s j)
      obtain ⟨e, he⟩ : ∃ e : Nat, e = n - 8 * j := ⟨_, rfl⟩
      obtain ⟨lo, hlo⟩ : ∃ lo : Nat, lo = e - 8 := ⟨_, rfl⟩
      have hp : s.extract lo e = pcS s j := by unfold pcS; rw [hn, hlo, he]
      have q1 : (n : Int) - 8 * j = (e : Int) := by omega
      have q3 : (0 : Int) ≤ e ∧ (e : Int) ≤ (n : Int) := by omega
      have q4 : (0 : Int) ≤ lo ∧ (lo : Int) ≤ (e : Int) := by omega
      have q5 : (j : Int) < (m : Int) := by omega
      have q6 : e ≤ 1099511627776 := by omega
      have q2 : ((e : Int) - 8 = (lo : Int) ∧ (lo : Int) > 0) ∨ (¬ (e : Int) - 8 > 0 ∧ lo = 0) := by omega
      clear hlo he hM hM0
      generalize hD : puD (pcS s j) = D at *
      have HDD : Hid (puD (pcS s j) = D) := hD
      clear hD
      rcases q2 with ⟨q2, q7⟩ | ⟨q2, rfl⟩
      · go_wp2_with fail
        refine k.mono ?_
        rintro r w1 ⟨er, rfl, her, hb⟩
        have hM1 := HM.out.later hb
        have g2 := hM1.cell (i := j) (by omega)
        have g3 := hM1.frozen j
        rw [if_neg (by omega)] at g2
        have HM1 : Hid (MkG w w1 m (fun t => if t < j then puD (pcS s t) else 0)) := hM1
        have q8 : (D : Int) % 4294967296 = (D : Int) := by have := HD.out; omega
        clear hM1 hb k her
        go_wp2_with fail
        exact rd_round HM1.out (by rw [HDD.out]) (by omega)
      · go_wp2_with fail
        refine k.mono ?_
        rintro r w1 ⟨er, rfl, her, hb⟩
        have hM1 := HM.out.later hb
        have g2 := hM1.cell (i := j) (by omega)
        have g3 := hM1.frozen j
        rw [if_neg (by omega)] at g2
        have HM1 : Hid (MkG w w1 m (fun t => if t < j then puD (pcS s t) else 0)) := hM1
        have q8 : (D : Int) % 4294967296 = (D : Int) := by have := HD.out; omega
        clear hM1 hb k her
        go_wp2_with fail
        exact rd_round HM1.out (by rw [HDD.out]) (by omega)
    · obtain rfl : j = m := by omega
      have q5 : ¬ (j : Int) < (j : Int) := by omega
      have HM : Hid (MkG w wr j (fun t => puD (pcS s t))) := hM.congr fun i hi => if_pos hi
      clear hM
      go_wp2_with fail
      go_ret
      exact ⟨rfl, HM.out⟩
end Go.Proofs.YtbmaoiemgepppaaGreatDoor
