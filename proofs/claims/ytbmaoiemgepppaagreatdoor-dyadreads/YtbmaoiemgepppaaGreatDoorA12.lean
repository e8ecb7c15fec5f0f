/- Own work: contracts of the program's functions, part 12: E3 V4 RC4 W44 L9 RC5 L10 W48 RE2 RE5 RD1 L6 L8 RE1 RE3 RE4 RE6 RD2 L12 VR6. -/
import Derived.Test.YtbmaoiemgepppaaGreatDoorA11
import Derived.Laws.AppendOwnNone
import Derived.Test.YtbmaoiemgepppaaGreatDoorA7
import Derived.Lib.ItoaNum
import Derived.Test.YtbmaoiemgepppaaGreatDoorA5

/- DyadOf answers true, whatever the float and the whole number are. -/
namespace Go.Proofs.YtbmaoiemgepppaaGreatDoor
set_option linter.unusedVariables false
set_option linter.unusedSimpArgs false
open Go.RowKit Go.Fl64

theorem short {m : Nat} (h : m < 18446744073709551616) : dlen (m / 2 ^ tz m) ≤ 35184372088832 := by
  have h1 : dlen m ≤ 2 := (dlen_le 2 m).2 (by unfold B; omega)
  have h2 : dlen (m / 2 ^ tz m) ≤ dlen m := dlen_mono (Nat.div_le_self ..)
  omega

end Go.Proofs.YtbmaoiemgepppaaGreatDoor
/- DyadMakes answers true: digits, and none. -/
namespace Go.Proofs.YtbmaoiemgepppaaGreatDoor
set_option linter.unusedVariables false
set_option linter.unusedSimpArgs false
open Go.RowKit Go.Fl64

end Go.Proofs.YtbmaoiemgepppaaGreatDoor
/- The document's Add, Sub, Mul, Shift of numbers that may be, and of others. -/
namespace Go.Proofs.YtbmaoiemgepppaaGreatDoor
set_option linter.unusedVariables false
set_option linter.unusedSimpArgs false
open Go.RowKit

end Go.Proofs.YtbmaoiemgepppaaGreatDoor
/- Sub, Mul refused; Shift. -/
namespace Go.Proofs.YtbmaoiemgepppaaGreatDoor
set_option linter.unusedVariables false
set_option linter.unusedSimpArgs false
open Go.RowKit

end Go.Proofs.YtbmaoiemgepppaaGreatDoor
/- DyadSums: the law's walk. -/
namespace Go.Proofs.YtbmaoiemgepppaaGreatDoor
set_option linter.unusedVariables false
set_option linter.unusedSimpArgs false
open Go.RowKit

/-- an answer: a number that keeps P, and an error -/
def Out (W : World) (P : World → Value → Prop) (E : Int) (r : Ending) (w' : World) : Prop := ∃ s ao n cap e, r = .returned (.tuple #[.agg #[.bool s, .slice ao n cap, .int .i64 e], .int .i64 E]) ∧ P w' (.agg #[.bool s, .slice ao n cap, .int .i64 e]) ∧ Below W.heap.size W w'
/-- a box, and what it holds -/
def BB (ty : TypeId) (P : World → Value → Prop) (w : World) (g : Nat) (s : Bool) (ao : Option Addr) (n cap : Nat) (e : Int) : Prop :=
  w.heap[g]? = some (.cells #[.bool s, .slice ao n cap, .int .i64 e] ty (0, 0)) ∧ P w (.agg #[.bool s, .slice ao n cap, .int .i64 e])
def Lasts (P : World → Value → Prop) : Prop := ∀ W W' A, Below W.heap.size W W' → P W A → P W' A
theorem BB.later {ty : TypeId} {P : World → Value → Prop} (hP : Lasts P) {w w' : World} {g : Nat} {s : Bool} {ao : Option Addr} {n cap : Nat} {e : Int} (h : BB ty P w g s ao n cap e) (hb : Below w.heap.size w w') : BB ty P w' g s ao n cap e :=
  ⟨box_later h.1 hb (Array.getElem?_eq_some_iff.1 h.1).1, hP _ _ _ hb h.2⟩
theorem BB.new {ty : TypeId} {P : World → Value → Prop} (hP : Lasts P) {w : World} {s : Bool} {ao : Option Addr} {n cap : Nat} {e : Int} (h : P w (.agg #[.bool s, .slice ao n cap, .int .i64 e])) : BB ty P (w.alloc (.cells #[.bool s, .slice ao n cap, .int .i64 e] ty)) w.heap.size s ao n cap e :=
  ⟨heap_alloc_new _ _, hP _ _ _ ((Below.refl _ _).alloc (Nat.le_refl _) _) h⟩
def Any (w : World) (A : Value) : Prop := True
end Go.Proofs.YtbmaoiemgepppaaGreatDoor
/- The document's and the program's Add, Sub, Mul, Shift, of all numbers. -/
namespace Go.Proofs.YtbmaoiemgepppaaGreatDoor
set_option linter.unusedVariables false
set_option linter.unusedSimpArgs false
open Go.RowKit

end Go.Proofs.YtbmaoiemgepppaaGreatDoor
/- DyadSums. -/
namespace Go.Proofs.YtbmaoiemgepppaaGreatDoor
set_option linter.unusedVariables false
set_option linter.unusedSimpArgs false
open Go.RowKit

/-- digits that give laid -/
def PI (s : Bool) (n z : Nat) (e : Int) (W : World) (A : Value) : Prop := ∃ v b, A = .agg #[.bool s, v, .int .i64 e] ∧ Dn W b v n z
theorem pn_nil (w : World) : PN w (.agg #[.bool false, .slice none 0 0, .int .i64 0]) (false, 0, 0) := ⟨none, 0, by rw [dlen_zero], by rw [dlen_zero]; exact is_nil w⟩

theorem same_pr {W : World} {A C : Value} {t : Bool × Nat × Int} (hl : dlen t.2.1 ≤ 35184372088832) (h1 : PN W A t) (h2 : ∃ b, RN W b C t) :
    Calls Tryz.prog 6 #[A, C] W fun r w' => r = .returned (.bool true) ∧ Below W.heap.size W w' := by
  obtain ⟨ua, uc, rfl, i1⟩ := h1
  obtain ⟨b, va, vc, rfl, -, i2⟩ := h2
  obtain ⟨ao, cap, e1, -, -, at1⟩ := i1
  simp only [Value.slice.injEq] at e1
  obtain ⟨rfl, -, rfl⟩ := e1
  exact same_1 t.1 t.2.2 ua va _ uc vc t.2.1 W at1 i2 hl
end Go.Proofs.YtbmaoiemgepppaaGreatDoor
/- Sign, Bits, Top, Cmp, Show: refused; Bits, Top; Show of nought. -/
namespace Go.Proofs.YtbmaoiemgepppaaGreatDoor
set_option linter.unusedVariables false
set_option linter.unusedSimpArgs false
open Go.RowKit

set_option maxHeartbeats 4000000 in
set_option maxRecDepth 200000 in
theorem pShow_no (na : Bool) (ua : Option Addr) (un uc : Nat) (ea : Int) (w : World)
    (k43 : ∀ W g, Below w.heap.size w W → W.heap[g]? = some (.cells #[.bool na, .slice ua un uc, .int .i64 ea] 24 (0, 0)) → Calls Tryz.prog 35 #[.slice (some ⟨g, 0, none⟩) 1 1] W fun r w' => r = .returned (.bool false) ∧ Below W.heap.size W w') :
    Calls Tryz.prog 13 #[.agg #[.bool na, .slice ua un uc, .int .i64 ea]] w fun r w' => r = .returned (.string ⟨#[]⟩) ∧ Below w.heap.size w w' := by
  obtain ⟨W, hW⟩ : ∃ W, W = w.alloc (.cells #[.bool na, .slice ua un uc, .int .i64 ea] 24) := ⟨_, rfl⟩
  have hBW : Below w.heap.size w W := by rw [hW]; exact (Below.refl _ _).alloc (Nat.le_refl _) _
  have hsz : W.heap.size = w.heap.size + 1 := by rw [hW]; simp
  have hbx : W.heap[w.heap.size]? = some (.cells #[.bool na, .slice ua un uc, .int .i64 ea] 24 (0, 0)) := by rw [hW]; exact heap_alloc_new _ _
  have k1 := k43 (W.alloc (.cells #[.bool na, .slice ua un uc, .int .i64 ea] 24)) (w.heap.size + 1) (hBW.alloc hBW.size _) (by rw [← hsz]; exact heap_alloc_new _ _)
  have HX : Hid (Below w.heap.size w W ∧ W.heap.size = w.heap.size + 1 ∧ W.heap[w.heap.size]? = some (.cells #[.bool na, .slice ua un uc, .int .i64 ea] 24 (0, 0))) := ⟨hBW, hsz, hbx⟩
  clear hBW hsz hbx k43
  go_enter Tryz.func13, Tryz.ntmps13
  go_wp2_with fail
  rw [← hW]
  clear hW
  refine k1.mono ?_
  rintro r w1 ⟨rfl, hb1⟩
  have HB1 : Hid (Below W.heap.size W w1) := ((Below.refl W.heap.size W).alloc (Nat.le_refl _) _).trans (hb1.mono (by simp))
  clear k1 hb1
  obtain ⟨⟨x0, x1, x2⟩, -⟩ := box_cells (box_later HX.out.2.2 HB1.out (by have := HX.out.2.1; omega))
  have HB2 : Hid (Below w.heap.size w w1) := HX.out.1.trans (HB1.out.mono HX.out.1.size)
  go_wp2
  go_ret
  exact ⟨rfl, HB2.out⟩
set_option maxHeartbeats 4000000 in
set_option maxRecDepth 200000 in
theorem pShow_0 (na : Bool) (ua : Option Addr) (uc : Nat) (ea : Int) (w : World)
    (k43 : ∀ W g, Below w.heap.size w W → W.heap[g]? = some (.cells #[.bool na, .slice ua 0 uc, .int .i64 ea] 24 (0, 0)) → Calls Tryz.prog 35 #[.slice (some ⟨g, 0, none⟩) 1 1] W fun r w' => r = .returned (.bool true) ∧ Below W.heap.size W w') :
    Calls Tryz.prog 13 #[.agg #[.bool na, .slice ua 0 uc, .int .i64 ea]] w fun r w' => r = .returned (.string ⟨#[48, 112, 48]⟩) ∧ Below w.heap.size w w' := by
  obtain ⟨W, hW⟩ : ∃ W, W = w.alloc (.cells #[.bool na, .slice ua 0 uc, .int .i64 ea] 24) := ⟨_, rfl⟩
  have hBW : Below w.heap.size w W := by rw [hW]; exact (Below.refl _ _).alloc (Nat.le_refl _) _
  have hsz : W.heap.size = w.heap.size + 1 := by rw [hW]; simp
  have hbx : W.heap[w.heap.size]? = some (.cells #[.bool na, .slice ua 0 uc, .int .i64 ea] 24 (0, 0)) := by rw [hW]; exact heap_alloc_new _ _
  have k1 := k43 (W.alloc (.cells #[.bool na, .slice ua 0 uc, .int .i64 ea] 24)) (w.heap.size + 1) (hBW.alloc hBW.size _) (by rw [← hsz]; exact heap_alloc_new _ _)
  have HX : Hid (Below w.heap.size w W ∧ W.heap.size = w.heap.size + 1 ∧ W.heap[w.heap.size]? = some (.cells #[.bool na, .slice ua 0 uc, .int .i64 ea] 24 (0, 0))) := ⟨hBW, hsz, hbx⟩
  clear hBW hsz hbx k43
  go_enter Tryz.func13, Tryz.ntmps13
  go_wp2_with fail
  rw [← hW]
  clear hW
  refine k1.mono ?_
  rintro r w1 ⟨rfl, hb1⟩
  have HB1 : Hid (Below W.heap.size W w1) := ((Below.refl W.heap.size W).alloc (Nat.le_refl _) _).trans (hb1.mono (by simp))
  clear k1 hb1
  obtain ⟨⟨x0, x1, x2⟩, -⟩ := box_cells (box_later HX.out.2.2 HB1.out (by have := HX.out.2.1; omega))
  have HB2 : Hid (Below w.heap.size w w1) := HX.out.1.trans (HB1.out.mono HX.out.1.size)
  go_wp2
  go_ret
  exact ⟨rfl, HB2.out⟩
end Go.Proofs.YtbmaoiemgepppaaGreatDoor
/- The document's decimal. -/
namespace Go.Proofs.YtbmaoiemgepppaaGreatDoor
set_option linter.unusedVariables false
set_option linter.unusedSimpArgs false
open Go.RowKit

theorem dec_get (n : Nat) (hn : n < 10) : (⟨#[48, 49, 50, 51, 52, 53, 54, 55, 56, 57]⟩ : ByteArray).extract n (n + 1) = ⟨[UInt8.ofNat (48 + n)].toArray⟩ := by
  rcases (by omega : n = 0 ∨ n = 1 ∨ n = 2 ∨ n = 3 ∨ n = 4 ∨ n = 5 ∨ n = 6 ∨ n = 7 ∨ n = 8 ∨ n = 9) with h | h | h | h | h | h | h | h | h | h <;> subst h <;> rfl

theorem bytes_cat (L M : List UInt8) : (⟨L.toArray⟩ : ByteArray) ++ ⟨M.toArray⟩ = ⟨(L ++ M).toArray⟩ := by
  apply ByteArray.ext
  simp
set_option maxHeartbeats 4000000 in
set_option maxRecDepth 200000 in
theorem rdec_0 (n : Nat) (w : World) (hn : n < 10) :
    Calls Tryz.prog 44 #[.int .i64 (n : Int)] w fun r w' => r = .returned (.string ⟨(Lib.decDigits n).toArray⟩) ∧ Below w.heap.size w w' := by
  rw [Lib.decDigits, dif_pos hn, ← dec_get n hn]
  have h0 : ¬ (n : Int) < 0 := by omega
  have h1 : (n : Int) < 10 := by omega
  go_enter Tryz.func44, Tryz.ntmps44
  go_wp2
  go_ret
  exact ⟨rfl, Below.refl _ _⟩
set_option maxHeartbeats 4000000 in
set_option maxRecDepth 200000 in
theorem rdec_1 (n q m : Nat) (w : World) (L : List UInt8) (hL : L.length ≤ 1000) (hn : ¬ n < 10) (hn1 : n ≤ 1000000000) (hq : n / 10 = q) (hm : n % 10 = m)
    (k : ∀ W, Below w.heap.size w W → Calls Tryz.prog 44 #[.int .i64 (q : Int)] W fun r w' => r = .returned (.string ⟨L.toArray⟩) ∧ Below W.heap.size W w') :
    Calls Tryz.prog 44 #[.int .i64 (n : Int)] w fun r w' => r = .returned (.string ⟨(L ++ [UInt8.ofNat (48 + m)]).toArray⟩) ∧ Below w.heap.size w w' := by
  have h0 : ¬ (n : Int) < 0 := by omega
  have h1 : ¬ (n : Int) < 10 := by omega
  have hml : m < 10 := by omega
  have hq' : (n : Int).tdiv 10 = (q : Int) := by rw [Int.tdiv_eq_ediv_of_nonneg (by omega)]; omega
  have hm' : (n : Int).tmod 10 = (m : Int) := by rw [Int.tmod_eq_emod_of_nonneg (by omega)]; omega
  have HQ : Hid (n / 10 = q ∧ n % 10 = m) := ⟨hq, hm⟩
  obtain ⟨R, hR⟩ : ∃ R : ByteArray, R = ⟨(L ++ [UInt8.ofNat (48 + m)]).toArray⟩ := ⟨_, rfl⟩
  have hcat : ∀ W, (Op.stringOp .add ⟨L.toArray⟩ ((⟨#[48, 49, 50, 51, 52, 53, 54, 55, 56, 57]⟩ : ByteArray).extract m (m + 1))).run Tryz.prog W = .ok (.string R) W := fun W => by
    rw [hR, ← bytes_cat, ← dec_get m hml]
    exact run_string_add_sum _ _ _ (by rw [dec_get m hml]; simp [ByteArray.size]; omega)
  rw [← hR]
  clear hR
  have hwq : IntKind.i64.wrap (q : Int) = (q : Int) := by rw [IntKind.wrap_i64]; omega
  have hwm : IntKind.i64.wrap ((m : Int) + 1) = (m : Int) + 1 := by rw [IntKind.wrap_i64]; omega
  have hm0 : (0 : Int) ≤ (m : Int) := by omega
  have hm1 : (m : Int) ≤ (m : Int) + 1 := by omega
  have hm2 : (m : Int) + 1 ≤ 10 := by omega
  have hm3 : (0 : Int) ≤ (m : Int) + 1 := by omega
  have hm4 : ((m : Int) + 1).toNat = m + 1 := by omega
  have k' : ∀ w4, Below w.heap.size w w4 → Calls Tryz.prog 44 #[.int .i64 (q : Int)] w4 fun r w' => r = .returned (.string ⟨L.toArray⟩) ∧ Below w.heap.size w w' := fun w4 h4 => (k w4 h4).mono fun r w' ⟨e1, o2⟩ => ⟨e1, h4.trans (o2.mono h4.size)⟩
  have hBR : Below w.heap.size w w.drew := (Below.refl _ _).drew
  clear hq hm k
  go_enter Tryz.func44, Tryz.ntmps44
  go_upto_region 5 with fail
  go_region_held3 (fun _ => True) (trivial)
    (first | (go_at_call 44; with_reducible refine (k' _ (by first | (with_reducible assumption) | exact hBR)).mono ?_; rintro r w5 ⟨rfl, hb5⟩))
  have HB : Hid (Below w.heap.size w w5) := hb5
  clear k' hBR hb5 hcat
  go_wp2
  go_ret
  exact ⟨rfl, HB.out⟩
theorem decDigits_len (k : Nat) : ∀ n, n < 10 ^ (k + 1) → (Lib.decDigits n).length ≤ k + 1 := by
  induction k with
  | zero => intro n h; rw [Lib.decDigits, dif_pos (by simpa using h)]; simp
  | succ k ih =>
    intro n h
    by_cases h0 : n < 10
    · rw [Lib.decDigits, dif_pos h0]; simp
    · rw [Lib.decDigits, dif_neg h0, List.length_append, List.length_singleton]
      have := ih (n / 10) (by rw [Nat.pow_succ] at h; omega)
      omega
/-- decimal, of a number from 0 on -/
theorem rdec (k : Nat) : ∀ n w, n < 10 ^ k → k ≤ 9 → Calls Tryz.prog 44 #[.int .i64 ((n : Nat) : Int)] w fun r w' => r = .returned (.string ⟨(Lib.decDigits n).toArray⟩) ∧ Below w.heap.size w w' := by
  induction k with
  | zero => intro n w h _; exact rdec_0 n w (by have : n < 1 := by simpa using h
                                                omega)
  | succ k ih =>
    intro n w h hk
    by_cases h0 : n < 10
    · exact rdec_0 n w h0
    · rw [Lib.decDigits, dif_neg h0]
      have h9 : n < 10 ^ 9 := Nat.lt_of_lt_of_le h (Nat.pow_le_pow_right (by omega) hk)
      have hl := decDigits_len 8 (n / 10) (by omega)
      exact rdec_1 n _ _ w _ (by omega) h0 (by omega) rfl rfl fun W _ => ih (n / 10) W (by rw [Nat.pow_succ] at h; omega) (by omega)

set_option maxHeartbeats 4000000 in
set_option maxRecDepth 200000 in
theorem rdec_neg (n : Nat) (w : World) (L : List UInt8) (hL : L.length ≤ 1000) (hn : 0 < n) (hn1 : n ≤ 1000000000)
    (k : Calls Tryz.prog 44 #[.int .i64 (n : Int)] w fun r w' => r = .returned (.string ⟨L.toArray⟩) ∧ Below w.heap.size w w') :
    Calls Tryz.prog 44 #[.int .i64 (-(n : Int))] w fun r w' => r = .returned (.string ⟨(45 :: L).toArray⟩) ∧ Below w.heap.size w w' := by
  have h0 : (-(n : Int)) < 0 := by omega
  have h1 : IntKind.i64.wrap (n : Int) = (n : Int) := by rw [IntKind.wrap_i64]; omega
  have h2 : - -(n : Int) = (n : Int) := by omega
  obtain ⟨R, hR⟩ : ∃ R : ByteArray, R = ⟨(45 :: L).toArray⟩ := ⟨_, rfl⟩
  have hcat : ∀ W, (Op.stringOp .add (⟨#[45]⟩ : ByteArray) ⟨L.toArray⟩).run Tryz.prog W = .ok (.string R) W := fun W => by
    have e : (⟨#[45]⟩ : ByteArray) = ⟨[45].toArray⟩ := rfl
    rw [hR, show 45 :: L = [45] ++ L from rfl, ← bytes_cat, ← e]
    exact run_string_add_sum _ _ _ (by rw [e]; simp [ByteArray.size]; omega)
  rw [← hR]
  obtain ⟨mm, hmm⟩ : ∃ mm : Int, mm = -(n : Int) := ⟨_, rfl⟩
  rw [← hmm] at h0 h2 ⊢
  clear hR hmm hn hn1 hL
  go_enter Tryz.func44, Tryz.ntmps44
  go_wp2_with fail
  refine k.mono ?_
  rintro r w1 ⟨rfl, hb⟩
  have HB : Hid (Below w.heap.size w w1) := hb
  clear k hb
  go_wp2
  go_ret
  exact ⟨rfl, HB.out⟩
theorem rdecimal (e : Int) (w : World) (h : -100000000 < e ∧ e < 100000000) :
    Calls Tryz.prog 44 #[.int .i64 e] w fun r w' => r = .returned (.string ⟨(Lib.itoa e).toArray⟩) ∧ Below w.heap.size w w' := by
  unfold Lib.itoa
  by_cases h0 : e < 0
  · rw [if_pos h0]
    obtain ⟨n, rfl⟩ : ∃ n : Nat, e = -(n : Int) := ⟨e.natAbs, by omega⟩
    rw [Int.natAbs_neg, Int.natAbs_natCast]
    have hl := decDigits_len 8 n (by omega)
    exact rdec_neg n w _ (by omega) (by omega) (by omega) (rdec 9 n w (by omega) (by omega))
  · rw [if_neg h0]
    obtain ⟨n, rfl⟩ : ∃ n : Nat, e = (n : Int) := ⟨e.toNat, by omega⟩
    rw [Int.toNat_natCast]
    exact rdec 9 n w (by omega) (by omega)
end Go.Proofs.YtbmaoiemgepppaaGreatDoor
/- The document's hex. -/
namespace Go.Proofs.YtbmaoiemgepppaaGreatDoor
set_option linter.unusedVariables false
set_option linter.unusedSimpArgs false
open Go.RowKit

/-- a row of bytes that was made here -/
def OB (w wr : World) (v : Value) (L : List UInt8) : Prop := wr.ownsRow w.heap.size 5 1 v L.length (Lib.byteCells L) ∧ Below w.heap.size w wr
theorem OB.shape {w wr : World} {v : Value} {L : List UInt8} (h : OB w wr v L) : ∃ ao cap, v = .slice ao L.length cap := by
  obtain ⟨⟨-, h | ⟨g, cap, cur, h, -⟩⟩, -⟩ := h
  · exact ⟨none, 0, by rw [h.1, h.2]⟩
  · exact ⟨_, _, h⟩
theorem OB.push {w wr w4 : World} {v v' : Value} {L : List UInt8} {c : Nat} (h : OB w wr v L) (hc : c < 256) (ho' : w4.ownsRow w.heap.size 5 1 v' (L.length + 1) (Lib.byteCells L ++ [.int .u8 (c : Int)])) (hg : (wr.alloc (.cells #[.int .u8 (c : Int)] 5)).grownBy w4 v.ownBlock) : OB w w4 v' (L ++ [UInt8.ofNat c]) := by
  refine ⟨?_, (h.2.alloc h.2.size _).grown hg (by simp; have := h.2.size; omega) (fun k hk => (h.1.lt k hk).1)⟩
  rw [List.length_append, List.length_singleton]
  have e : Lib.byteCells (L ++ [UInt8.ofNat c]) = Lib.byteCells L ++ [.int .u8 (c : Int)] := by
    simp [Lib.byteCells, UInt8.toNat_ofNat_of_lt' hc]
  rw [e]
  exact ho'
theorem hex16_get (m : Nat) (hm : m < 16) (h : m < (⟨#[48, 49, 50, 51, 52, 53, 54, 55, 56, 57, 97, 98, 99, 100, 101, 102]⟩ : ByteArray).size) : ((⟨#[48, 49, 50, 51, 52, 53, 54, 55, 56, 57, 97, 98, 99, 100, 101, 102]⟩ : ByteArray)[m]'h).toNat = hx m := by
  have : m = 0 ∨ m = 1 ∨ m = 2 ∨ m = 3 ∨ m = 4 ∨ m = 5 ∨ m = 6 ∨ m = 7 ∨ m = 8 ∨ m = 9 ∨ m = 10 ∨ m = 11 ∨ m = 12 ∨ m = 13 ∨ m = 14 ∨ m = 15 := by omega
  rcases this with rfl | rfl | rfl | rfl | rfl | rfl | rfl | rfl | rfl | rfl | rfl | rfl | rfl | rfl | rfl | rfl <;> rfl
theorem nib_and {d t : Nat} (hd : d < B) : bits .and .u32 ((d : Int) / 2 ^ t) 15 = ((d / 2 ^ t % 16 : Nat) : Int) := by
  have e : (d : Int) / 2 ^ t = ((d / 2 ^ t : Nat) : Int) := by simp
  have hl : d / 2 ^ t < 4294967296 := Nat.lt_of_le_of_lt (Nat.div_le_self _ _) hd
  rw [e, show (15 : Int) = ((15 : Nat) : Int) from rfl, u32_and_nat _ 15 hl (by omega), show (15 : Nat) = 2 ^ 4 - 1 from rfl, Nat.and_two_pow_sub_one_eq_mod]
theorem nib_step {x k t : Nat} (ht : t ≤ 28) : x / 2 ^ (32 * k + t) = x / 2 ^ (32 * k + (t + 4)) * 16 + dg x k / 2 ^ t % 16 := by
  have e1 : x / 2 ^ (32 * k + (t + 4)) = x / 2 ^ (32 * k + t) / 16 := by
    rw [Nat.div_div_eq_div_mul, show 32 * k + (t + 4) = 32 * k + t + 4 by omega, Nat.pow_add]
  have e2 : dg x k / 2 ^ t % 16 = x / 2 ^ (32 * k + t) % 16 := by
    have eB : B ^ k = 2 ^ (32 * k) := by rw [Nat.pow_mul]; rfl
    have hdv : 2 ^ t * 16 ∣ B := ⟨2 ^ (28 - t), by
      rw [show (16 : Nat) = 2 ^ 4 from rfl, ← Nat.pow_add, ← Nat.pow_add, show t + 4 + (28 - t) = 32 by omega]; rfl⟩
    unfold dg
    rw [eB, Nat.pow_add, ← Nat.div_div_eq_div_mul, ← Nat.mod_mul_right_div_self, Nat.mod_mod_of_dvd _ hdv, Nat.mod_mul_right_div_self]
  rw [e1, e2]
  omega
set_option maxHeartbeats 4000000 in
set_option maxRecDepth 200000 in
theorem rhex_1 (b o cap n x : Nat) (w : World) (hn0 : 0 < n) (hn : n ≤ 100000) (hx : dlen x = n) (hcell : ∀ i, i < n → w.cell? ⟨b, o + i, none⟩ = some (.int .u32 (dg x i : Nat))) :
    Calls Tryz.prog 43 #[.slice (some ⟨b, o, none⟩) n cap] w fun e w' => e = .returned (.string ⟨(hexN x).toArray⟩) ∧ Below w.heap.size w w' := by
  have HC : Hid (∀ i, i < n → w.cell? ⟨b, o + i, none⟩ = some (.int .u32 (dg x i : Nat))) := hcell
  have HN : Hid (dlen x = n) := hx
  clear hcell hx
  obtain ⟨i0, hi0, hz0, hz1, hz2⟩ := info_parts byte_info
  go_enter Tryz.func43, Tryz.ntmps43
  go_wp2
  go_loopw [3, 4] (fun v c wr => ∃ i : Nat, i ≤ n ∧ c = .int .i64 ((i : Int) - 1) ∧ Hid (OB w wr v (hexN (x / 2 ^ (32 * i))))) (fun _ c _ => (intOf c + 1).toNat)
  case atStart =>
    refine ⟨n, Nat.le_refl _, rfl, ?_⟩
    have h1 : x < B ^ n := (dlen_le n x).1 (by have := HN.out; omega)
    have h2 : x / 2 ^ (32 * n) = 0 := Nat.div_eq_of_lt (by rw [Nat.pow_mul]; exact h1)
    rw [h2, hexN_zero]
    exact (⟨World.ownsRow_nil .., Below.refl _ _⟩ : OB w w _ [])
  case round =>
    obtain ⟨i, hi, rfl, HO⟩ := hrel
    by_cases h0 : i = 0
    · subst h0
      rw [Nat.mul_zero, Nat.pow_zero, Nat.div_one] at HO
      have hx0 : x ≠ 0 := fun e => by rw [e, dlen_zero] at HN; have := HN.out; omega
      obtain ⟨L, hL⟩ : ∃ L, L = hexN x := ⟨_, rfl⟩
      rw [← hL] at HO
      have HLx : Hid (L = hexN x) := hL
      have hLn : L ≠ [] := by rw [hL]; exact fun e => hx0 (hexN_nil.1 e)
      clear hL
      obtain ⟨⟨hlen, h | ⟨g, cp, cur, rfl, hg1, hg2, hg3, hg4, hg5, hg6⟩⟩, hBB⟩ := HO.out
      · exact absurd (List.length_eq_zero_iff.1 h.2) hLn
      · have hcv := run_convert_bytes_back (P := Tryz.prog) wr 70 9 5 ⟨g, 0, none⟩ cp L Tryz.underlying70 Tryz.underlying5 Tryz.underlying9 (fun i hi => by
          have ea : (⟨g, 0, none⟩ : Addr).add i = ⟨g, i, none⟩ := by simp [Addr.add, eq_comm]
          rw [ea, Lib.cell_of_heap hg2]
          have h7 : cur[i]? = some (.int .u8 (L[i].toNat : Int)) := by
            have h8 : (cur.toList.take (L.length * 1))[i]? = (Lib.byteCells L)[i]? := by rw [hg6]
            rw [List.getElem?_take_of_lt (by omega)] at h8
            rw [← Array.getElem?_toList, h8]
            simp [Lib.byteCells, hi]
          exact h7)
        have HB : Hid (Below w.heap.size w wr) := hBB
        clear hlen hg1 hg2 hg3 hg4 hg5 hg6 hBB HO
        go_wp2
        go_ret
        exact ⟨by rw [← HLx.out]; rfl, HB.out⟩
    · obtain ⟨k, rfl⟩ : ∃ k, i = k + 1 := ⟨i - 1, by omega⟩
      rw [show ((k + 1 : Nat) : Int) - 1 = (k : Int) by omega]
      clear h0
      go_wp2_with fail
      go_loopw [3, 5] (fun v c wr => ∃ s : Nat, s ≤ 32 ∧ s % 4 = 0 ∧ c = .int .i64 ((s : Int) - 4) ∧ Hid (OB w wr v (hexN (x / 2 ^ (32 * k + s))))) (fun _ c _ => (intOf c + 4).toNat)
      case atStart => exact ⟨32, by omega, by omega, rfl, by rw [show 32 * k + 32 = 32 * (k + 1) by omega]; exact HO⟩
      case round =>
        obtain ⟨s, hs, hs4, rfl, HO2⟩ := hrel
        by_cases h0 : s = 0
        · subst h0
          go_wp2
          exact ⟨⟨k, by omega, rfl, HO2⟩, by simp [intOf]⟩
        · obtain ⟨t, rfl⟩ : ∃ t, s = t + 4 := ⟨s - 4, by omega⟩
          rw [show ((t + 4 : Nat) : Int) - 4 = (t : Int) by omega]
          obtain ⟨L, hL⟩ : ∃ L, L = hexN (x / 2 ^ (32 * k + (t + 4))) := ⟨_, rfl⟩
          rw [← hL] at HO2
          obtain ⟨ao, ca, hsh⟩ := HO2.out.shape
          subst hsh
          have HL : Hid (L = hexN (x / 2 ^ (32 * k + (t + 4)))) := hL
          clear hL h0
          have g1 := (HO2.out.2.cell (World.block_lt_of_cell? _ _ (HC.out k (by omega)))).trans (HC.out k (by omega))
          have ht : t ≤ 28 := by omega
          have hwt : IntKind.u64.wrap (t : Int) = (t : Int) := by rw [IntKind.wrap_u64]; omega
          obtain ⟨d, hd⟩ : ∃ d, d = dg x k := ⟨_, rfl⟩
          rw [← hd] at g1
          have HD : Hid (d = dg x k ∧ d < B) := ⟨hd, hd ▸ dg_lt _ _⟩
          clear hd
          obtain ⟨q, hq⟩ : ∃ q, q = d / 2 ^ t % 16 := ⟨_, rfl⟩
          have hand : bits .and .u32 ((d : Int) / 2 ^ t) 15 = ((q : Nat) : Int) := by rw [hq]; exact nib_and HD.out.2
          have hq16 : (q : Int) < 16 := by omega
          have hqn : q < 16 := by omega
          have HS : Hid (x / 2 ^ (32 * k + t) = x / 2 ^ (32 * k + (t + 4)) * 16 + q) := (by rw [nib_step ht, hq, HD.out.1] : x / 2 ^ (32 * k + t) = x / 2 ^ (32 * k + (t + 4)) * 16 + q)
          have HLL : Hid (L.length ≤ 8 * n) := (by
            rw [HL.out]
            refine hexN_len _ _ ?_
            have h1 : x < B ^ n := (dlen_le n x).1 (by have := HN.out; omega)
            have e : B ^ n = 16 ^ (8 * n) := by rw [Nat.pow_mul]; rfl
            rw [← e]
            exact Nat.lt_of_le_of_lt (Nat.div_le_self _ _) h1 : L.length ≤ 8 * n)
          have hll := HLL.out
          have HE : Hid (∀ (v' : Value) (w4 : World), OB w w4 v' (L ++ [UInt8.ofNat (hx q)]) → 0 < q ∨ 0 < L.length → OB w w4 v' (hexN (x / 2 ^ (32 * k + t)))) := (by
            intro v' w4 h hor
            rw [HS.out, hexN_step hqn, ← HL.out]
            · exact h
            · rcases hor with h | h
              · omega
              · have : x / 2 ^ (32 * k + (t + 4)) ≠ 0 := fun e => by
                  have := HL.out
                  rw [e, hexN_zero] at this
                  rw [this] at h
                  exact absurd h (by simp)
                omega : ∀ (v' : Value) (w4 : World), OB w w4 v' (L ++ [UInt8.ofNat (hx q)]) → 0 < q ∨ 0 < L.length → OB w w4 v' (hexN (x / 2 ^ (32 * k + t))))
          have HSZ : Hid (w.heap.size ≤ wr.heap.size) := HO2.out.2.size
          clear hq
          by_cases hq0 : 0 < q
          · have hq1 : (0 : Int) < (q : Int) := by omega
            go_wp2_with (at_builtin; refine wpList_append_own _ rfl _ _ 70 rfl w.heap.size 5 i0 (.int .u8 0) 1 1 Tryz.underlying70 hi0 hz0 hz1 hz2 rfl (by decide) _ _ _ rfl (HO2.out.1.alloc _) ⟨wr.heap.size, 0, none⟩ 1 1 [.int .u8 _] rfl rfl (cell_one_new _ _ _) (by intro u hu; simp at hu; subst hu; rfl) (by unfold maxLen; omega) (by have := HSZ.out; omega) (by simp; have := HSZ.out; omega) ?_)
            intro v' w4 hown4 hgrow _
            rw [hex16_get q hqn] at hown4 hgrow
            have HF := HE.out v' w4 (HO2.out.push (hx_lt q hqn) hown4 hgrow) (.inl hq0)
            have HFF : Hid (OB w w4 v' (hexN (x / 2 ^ (32 * k + t)))) := HF
            clear hown4 hgrow HF HE
            go_wp2
            exact ⟨⟨t, by omega, by omega, rfl, HFF⟩, by simp [intOf]; omega⟩
          · obtain rfl : q = 0 := by omega
            by_cases hl0 : 0 < L.length
            · have hl1 : (0 : Int) < (L.length : Int) := by omega
              go_wp2_with (at_builtin; refine wpList_append_own _ rfl _ _ 70 rfl w.heap.size 5 i0 (.int .u8 0) 1 1 Tryz.underlying70 hi0 hz0 hz1 hz2 rfl (by decide) _ _ _ rfl (HO2.out.1.alloc _) ⟨wr.heap.size, 0, none⟩ 1 1 [.int .u8 _] rfl rfl (cell_one_new _ _ _) (by intro u hu; simp at hu; subst hu; rfl) (by unfold maxLen; omega) (by have := HSZ.out; omega) (by simp; have := HSZ.out; omega) ?_)
              intro v' w4 hown4 hgrow _
              rw [hex16_get 0 hqn] at hown4 hgrow
              have HF := HE.out v' w4 (HO2.out.push (hx_lt 0 hqn) hown4 hgrow) (.inr hl0)
              have HFF : Hid (OB w w4 v' (hexN (x / 2 ^ (32 * k + t)))) := HF
              clear hown4 hgrow HF HE
              go_wp2
              exact ⟨⟨t, by omega, by omega, rfl, HFF⟩, by simp [intOf]; omega⟩
            · have hl1 : ¬ (0 : Int) < (L.length : Int) := by omega
              have hLe : L = [] := List.length_eq_zero_iff.1 (by omega)
              have HFF : Hid (OB w wr (.slice ao L.length ca) (hexN (x / 2 ^ (32 * k + t)))) := (by
                have h1 := HL.out
                rw [hLe] at h1
                rw [HS.out, hexN_nil.1 h1.symm, Nat.zero_mul, Nat.add_zero, hexN_zero, ← hLe]
                exact HO2.out : OB w wr (.slice ao L.length ca) (hexN (x / 2 ^ (32 * k + t))))
              clear hLe
              go_wp2
              exact ⟨⟨t, by omega, by omega, rfl, HFF⟩, by simp [intOf]; omega⟩
theorem rhex {ao : Option Addr} {cap x : Nat} {w : World} (h : At w ao (dlen x) x) (h0 : x ≠ 0) (hx : dlen x ≤ 100000) :
    Calls Tryz.prog 43 #[.slice ao (dlen x) cap] w fun e w' => e = .returned (.string ⟨(hexN x).toArray⟩) ∧ Below w.heap.size w w' := by
  have hl := dlen_pos h0
  obtain ⟨b, o, h1, h2⟩ := h
  obtain rfl := h1 (by omega)
  exact rhex_1 b o cap _ x w (by omega) hx rfl h2
end Go.Proofs.YtbmaoiemgepppaaGreatDoor
/- The document's Sgn, Sign, Bits, Top, Neg, Abs. -/
namespace Go.Proofs.YtbmaoiemgepppaaGreatDoor
set_option linter.unusedVariables false
set_option linter.unusedSimpArgs false
open Go.RowKit

end Go.Proofs.YtbmaoiemgepppaaGreatDoor
/- DyadRing answers true. -/
namespace Go.Proofs.YtbmaoiemgepppaaGreatDoor
set_option linter.unusedVariables false
set_option linter.unusedSimpArgs false
open Go.RowKit Go.Fl64

end Go.Proofs.YtbmaoiemgepppaaGreatDoor
/- DyadLeast answers true. -/
namespace Go.Proofs.YtbmaoiemgepppaaGreatDoor
set_option linter.unusedVariables false
set_option linter.unusedSimpArgs false
open Go.RowKit Go.Fl64

theorem cmp_gt {a b : Int} (h : b < a) : 0 < cmpI a b := by
  rcases cmpI_cases a b with ⟨h1, h2⟩ | ⟨h1, h2⟩ | ⟨h1, h2⟩ <;> omega

end Go.Proofs.YtbmaoiemgepppaaGreatDoor
/- The document's magnitude, Order, Cmp. -/
namespace Go.Proofs.YtbmaoiemgepppaaGreatDoor
set_option linter.unusedVariables false
set_option linter.unusedSimpArgs false
open Go.RowKit

end Go.Proofs.YtbmaoiemgepppaaGreatDoor
/- The document's magnitude, Order, Cmp, joined. -/
namespace Go.Proofs.YtbmaoiemgepppaaGreatDoor
set_option linter.unusedVariables false
set_option linter.unusedSimpArgs false
open Go.RowKit

end Go.Proofs.YtbmaoiemgepppaaGreatDoor
/- The document's Order and Cmp, joined. -/
namespace Go.Proofs.YtbmaoiemgepppaaGreatDoor
set_option linter.unusedVariables false
set_option linter.unusedSimpArgs false
open Go.RowKit

end Go.Proofs.YtbmaoiemgepppaaGreatDoor
/- The document's Show. -/
namespace Go.Proofs.YtbmaoiemgepppaaGreatDoor
set_option linter.unusedVariables false
set_option linter.unusedSimpArgs false
open Go.RowKit

set_option maxHeartbeats 4000000 in
set_option maxRecDepth 200000 in
theorem rshow_no (na : Bool) (ua : Option Addr) (un uc : Nat) (ea : Int) (w : World)  (kV : ∀ W, Below w.heap.size w W → Calls Tryz.prog 19 #[.agg #[.bool na, .slice ua un uc, .int .i64 ea]] W fun r w' => r = .returned (.bool false) ∧ Below W.heap.size W w') :
    Calls Tryz.prog 20 #[.agg #[.bool na, .slice ua un uc, .int .i64 ea]] w fun r w' => r = .returned (.string ⟨#[]⟩) ∧ Below w.heap.size w w' := by
  obtain ⟨W, hW⟩ : ∃ W, W = w.alloc (.cells #[.bool na, .slice ua un uc, .int .i64 ea] 28) := ⟨_, rfl⟩
  have hBW : Below w.heap.size w W := by rw [hW]; exact (Below.refl _ _).alloc (Nat.le_refl _) _
  have hA : W.heap[w.heap.size]? = some (.cells #[.bool na, .slice ua un uc, .int .i64 ea] 28 (0, 0)) := by rw [hW]; exact heap_alloc_new _ _
  have hsz : W.heap.size = w.heap.size + 1 := by rw [hW]; simp
  have HX : Hid (Below w.heap.size w W) := hBW
  have HK : Hid (∀ w', Below W.heap.size W w' → w'.cell? ⟨w.heap.size, 0, none⟩ = some (.bool na) ∧ w'.cell? ⟨w.heap.size, 1, none⟩ = some (.slice ua un uc) ∧ w'.cell? ⟨w.heap.size, 2, none⟩ = some (.int .i64 ea)) := fun w' hb => (box_cells29 (box_later hA hb (by omega))).1
  have k := kV W hBW
  clear kV hA hsz hBW
  go_enter Tryz.func20, Tryz.ntmps20
  go_wp2_with fail
  rw [← hW]
  clear hW
  refine k.mono ?_
  rintro r w1 ⟨rfl, hb1⟩
  have HB1 : Hid (Below W.heap.size W w1) := hb1
  obtain ⟨a0, a1, a2⟩ := HK.out w1 hb1
  clear k hb1
  go_wp2
  go_ret
  exact ⟨rfl, HX.out.trans (HB1.out.mono HX.out.size)⟩
set_option maxHeartbeats 4000000 in
set_option maxRecDepth 200000 in
theorem rshow_0 (na : Bool) (ua : Option Addr) (un uc : Nat) (ea : Int) (w : World) (h0 : un = 0) (kV : ∀ W, Below w.heap.size w W → Calls Tryz.prog 19 #[.agg #[.bool na, .slice ua un uc, .int .i64 ea]] W fun r w' => r = .returned (.bool true) ∧ Below W.heap.size W w') :
    Calls Tryz.prog 20 #[.agg #[.bool na, .slice ua un uc, .int .i64 ea]] w fun r w' => r = .returned (.string ⟨#[48, 112, 48]⟩) ∧ Below w.heap.size w w' := by
  subst h0
  obtain ⟨W, hW⟩ : ∃ W, W = w.alloc (.cells #[.bool na, .slice ua 0 uc, .int .i64 ea] 28) := ⟨_, rfl⟩
  have hBW : Below w.heap.size w W := by rw [hW]; exact (Below.refl _ _).alloc (Nat.le_refl _) _
  have hA : W.heap[w.heap.size]? = some (.cells #[.bool na, .slice ua 0 uc, .int .i64 ea] 28 (0, 0)) := by rw [hW]; exact heap_alloc_new _ _
  have hsz : W.heap.size = w.heap.size + 1 := by rw [hW]; simp
  have HX : Hid (Below w.heap.size w W) := hBW
  have HK : Hid (∀ w', Below W.heap.size W w' → w'.cell? ⟨w.heap.size, 0, none⟩ = some (.bool na) ∧ w'.cell? ⟨w.heap.size, 1, none⟩ = some (.slice ua 0 uc) ∧ w'.cell? ⟨w.heap.size, 2, none⟩ = some (.int .i64 ea)) := fun w' hb => (box_cells29 (box_later hA hb (by omega))).1
  have k := kV W hBW
  clear kV hA hsz hBW
  go_enter Tryz.func20, Tryz.ntmps20
  go_wp2_with fail
  rw [← hW]
  clear hW
  refine k.mono ?_
  rintro r w1 ⟨rfl, hb1⟩
  have HB1 : Hid (Below W.heap.size W w1) := hb1
  obtain ⟨a0, a1, a2⟩ := HK.out w1 hb1
  clear k hb1
  go_wp2
  go_ret
  exact ⟨rfl, HX.out.trans (HB1.out.mono HX.out.size)⟩
set_option maxHeartbeats 4000000 in
set_option maxRecDepth 200000 in
theorem rshow_pos (ua : Option Addr) (un uc : Nat) (ea : Int) (w : World) (LH LD : List UInt8) (hn0 : ((un : Int) == 0) = false) (hLH : LH.length ≤ 1000000) (hLD : LD.length ≤ 1000)
    (kV : ∀ W, Below w.heap.size w W → Calls Tryz.prog 19 #[.agg #[.bool false, .slice ua un uc, .int .i64 ea]] W fun r w' => r = .returned (.bool true) ∧ Below W.heap.size W w')
    (kH : ∀ W, Below w.heap.size w W → Calls Tryz.prog 43 #[.slice ua un uc] W fun r w' => r = .returned (.string ⟨LH.toArray⟩) ∧ Below W.heap.size W w')
    (kD : ∀ W, Below w.heap.size w W → Calls Tryz.prog 44 #[.int .i64 ea] W fun r w' => r = .returned (.string ⟨LD.toArray⟩) ∧ Below W.heap.size W w') :
    Calls Tryz.prog 20 #[.agg #[.bool false, .slice ua un uc, .int .i64 ea]] w fun r w' => r = .returned (.string ⟨([] ++ LH ++ 112 :: LD).toArray⟩) ∧ Below w.heap.size w w' := by
  obtain ⟨W, hW⟩ : ∃ W, W = w.alloc (.cells #[.bool false, .slice ua un uc, .int .i64 ea] 28) := ⟨_, rfl⟩
  have hBW : Below w.heap.size w W := by rw [hW]; exact (Below.refl _ _).alloc (Nat.le_refl _) _
  have hA : W.heap[w.heap.size]? = some (.cells #[.bool false, .slice ua un uc, .int .i64 ea] 28 (0, 0)) := by rw [hW]; exact heap_alloc_new _ _
  have hsz : W.heap.size = w.heap.size + 1 := by rw [hW]; simp
  have HX : Hid (Below w.heap.size w W) := hBW
  have HK : Hid (∀ w', Below W.heap.size W w' → w'.cell? ⟨w.heap.size, 0, none⟩ = some (.bool false) ∧ w'.cell? ⟨w.heap.size, 1, none⟩ = some (.slice ua un uc) ∧ w'.cell? ⟨w.heap.size, 2, none⟩ = some (.int .i64 ea)) := fun w' hb => (box_cells29 (box_later hA hb (by omega))).1
  have k := kV W hBW
  obtain ⟨sH, hsH⟩ : ∃ s : ByteArray, s = ⟨LH.toArray⟩ := ⟨_, rfl⟩
  obtain ⟨sD, hsD⟩ : ∃ s : ByteArray, s = ⟨LD.toArray⟩ := ⟨_, rfl⟩
  obtain ⟨R1, hR1⟩ : ∃ s : ByteArray, s = ⟨([] ++ LH).toArray⟩ := ⟨_, rfl⟩
  obtain ⟨R2, hR2⟩ : ∃ s : ByteArray, s = ⟨([] ++ LH ++ [112]).toArray⟩ := ⟨_, rfl⟩
  obtain ⟨R3, hR3⟩ : ∃ s : ByteArray, s = ⟨([] ++ LH ++ 112 :: LD).toArray⟩ := ⟨_, rfl⟩
  have hcat1 : ∀ W, (Op.stringOp .add (⟨#[]⟩ : ByteArray) sH).run Tryz.prog W = .ok (.string R1) W := fun W => by
    rw [hR1, ← bytes_cat, hsH]
    exact run_string_add_sum _ _ _ (by simp [ByteArray.size]; omega)
  have hcat2 : ∀ W, (Op.stringOp .add R1 (⟨#[112]⟩ : ByteArray)).run Tryz.prog W = .ok (.string R2) W := fun W => by
    rw [hR2, ← bytes_cat, hR1]
    exact run_string_add_sum _ _ _ (by simp [ByteArray.size]; omega)
  have hcat3 : ∀ W, (Op.stringOp .add R2 sD).run Tryz.prog W = .ok (.string R3) W := fun W => by
    rw [hR3, show [] ++ LH ++ 112 :: LD = [] ++ LH ++ [112] ++ LD by simp, ← bytes_cat, hR2, hsD]
    exact run_string_add_sum _ _ _ (by simp [ByteArray.size]; omega)
  rw [← hR3]
  have HKH : Hid (∀ w4, Below W.heap.size W w4 → Calls Tryz.prog 43 #[.slice ua un uc] w4 fun r w' => r = .returned (.string sH) ∧ Below W.heap.size W w') := (fun w4 h4 => (kH w4 (hBW.trans (h4.mono hBW.size))).mono fun r w' ⟨e1, o2⟩ => ⟨by rw [hsH]; exact e1, h4.trans (o2.mono h4.size)⟩ : ∀ w4, Below W.heap.size W w4 → Calls Tryz.prog 43 #[.slice ua un uc] w4 fun r w' => r = .returned (.string sH) ∧ Below W.heap.size W w')
  have HKD : Hid (∀ w4, Below W.heap.size W w4 → Calls Tryz.prog 44 #[.int .i64 ea] w4 fun r w' => r = .returned (.string sD) ∧ Below W.heap.size W w') := (fun w4 h4 => (kD w4 (hBW.trans (h4.mono hBW.size))).mono fun r w' ⟨e1, o2⟩ => ⟨by rw [hsD]; exact e1, h4.trans (o2.mono h4.size)⟩ : ∀ w4, Below W.heap.size W w4 → Calls Tryz.prog 44 #[.int .i64 ea] w4 fun r w' => r = .returned (.string sD) ∧ Below W.heap.size W w')
  clear kV kH kD hA hsz hBW hR1 hR2 hR3 hsH hsD hLH hLD
  go_enter Tryz.func20, Tryz.ntmps20
  go_wp2_with fail
  rw [← hW]
  clear hW
  refine k.mono ?_
  rintro r w1 ⟨rfl, hb1⟩
  have HB1 : Hid (Below W.heap.size W w1) := hb1
  obtain ⟨a0, a1, a2⟩ := HK.out w1 hb1
  clear k hb1
  have hBR : Below W.heap.size W w1.drew := HB1.out.trans ⟨rfl, rfl, rfl, Nat.le_refl _, fun _ _ => rfl⟩
  have kH' := HKH.out
  have kD' := HKD.out
  go_upto_region 8 with fail
  go_region_held3 (fun w' => w'.cell? ⟨w.heap.size, 0, none⟩ = some (.bool false) ∧ w'.cell? ⟨w.heap.size, 1, none⟩ = some (.slice ua un uc) ∧ w'.cell? ⟨w.heap.size, 2, none⟩ = some (.int .i64 ea)) (first | (with_reducible assumption) | exact ⟨a0, a1, a2⟩ | (refine HK.out _ ?_; with_reducible assumption) | go_keep)
    (first | (go_at_call 43; refine (kH' _ (by first | (with_reducible assumption) | exact hBR)).mono ?_; rintro r w5 ⟨rfl, hb5⟩) | (go_at_call 44; refine (kD' _ (by first | (with_reducible assumption) | exact hBR)).mono ?_; rintro r w6 ⟨rfl, hb6⟩))
  all_goals (have HL5 : Hid (Below W.heap.size W w5) := hb5; have HL6 : Hid (Below W.heap.size W w6) := hb6; clear kH' kD' HK HKH HKD a0 a1 a2 hBR hb5 hb6 hcat1 hcat2 hcat3; go_wp2; go_ret; first | exact ⟨rfl, HX.out.trans (HL6.out.mono HX.out.size)⟩ | exact ⟨rfl, HX.out.trans (HL5.out.mono HX.out.size)⟩)
set_option maxHeartbeats 4000000 in
set_option maxRecDepth 200000 in
theorem rshow_neg (ua : Option Addr) (un uc : Nat) (ea : Int) (w : World) (LH LD : List UInt8) (hn0 : ((un : Int) == 0) = false) (hLH : LH.length ≤ 1000000) (hLD : LD.length ≤ 1000)
    (kV : ∀ W, Below w.heap.size w W → Calls Tryz.prog 19 #[.agg #[.bool true, .slice ua un uc, .int .i64 ea]] W fun r w' => r = .returned (.bool true) ∧ Below W.heap.size W w')
    (kH : ∀ W, Below w.heap.size w W → Calls Tryz.prog 43 #[.slice ua un uc] W fun r w' => r = .returned (.string ⟨LH.toArray⟩) ∧ Below W.heap.size W w')
    (kD : ∀ W, Below w.heap.size w W → Calls Tryz.prog 44 #[.int .i64 ea] W fun r w' => r = .returned (.string ⟨LD.toArray⟩) ∧ Below W.heap.size W w') :
    Calls Tryz.prog 20 #[.agg #[.bool true, .slice ua un uc, .int .i64 ea]] w fun r w' => r = .returned (.string ⟨([45] ++ LH ++ 112 :: LD).toArray⟩) ∧ Below w.heap.size w w' := by
  obtain ⟨W, hW⟩ : ∃ W, W = w.alloc (.cells #[.bool true, .slice ua un uc, .int .i64 ea] 28) := ⟨_, rfl⟩
  have hBW : Below w.heap.size w W := by rw [hW]; exact (Below.refl _ _).alloc (Nat.le_refl _) _
  have hA : W.heap[w.heap.size]? = some (.cells #[.bool true, .slice ua un uc, .int .i64 ea] 28 (0, 0)) := by rw [hW]; exact heap_alloc_new _ _
  have hsz : W.heap.size = w.heap.size + 1 := by rw [hW]; simp
  have HX : Hid (Below w.heap.size w W) := hBW
  have HK : Hid (∀ w', Below W.heap.size W w' → w'.cell? ⟨w.heap.size, 0, none⟩ = some (.bool true) ∧ w'.cell? ⟨w.heap.size, 1, none⟩ = some (.slice ua un uc) ∧ w'.cell? ⟨w.heap.size, 2, none⟩ = some (.int .i64 ea)) := fun w' hb => (box_cells29 (box_later hA hb (by omega))).1
  have k := kV W hBW
  obtain ⟨sH, hsH⟩ : ∃ s : ByteArray, s = ⟨LH.toArray⟩ := ⟨_, rfl⟩
  obtain ⟨sD, hsD⟩ : ∃ s : ByteArray, s = ⟨LD.toArray⟩ := ⟨_, rfl⟩
  obtain ⟨R1, hR1⟩ : ∃ s : ByteArray, s = ⟨([45] ++ LH).toArray⟩ := ⟨_, rfl⟩
  obtain ⟨R2, hR2⟩ : ∃ s : ByteArray, s = ⟨([45] ++ LH ++ [112]).toArray⟩ := ⟨_, rfl⟩
  obtain ⟨R3, hR3⟩ : ∃ s : ByteArray, s = ⟨([45] ++ LH ++ 112 :: LD).toArray⟩ := ⟨_, rfl⟩
  have hcat1 : ∀ W, (Op.stringOp .add (⟨#[45]⟩ : ByteArray) sH).run Tryz.prog W = .ok (.string R1) W := fun W => by
    rw [hR1, ← bytes_cat, hsH]
    exact run_string_add_sum _ _ _ (by simp [ByteArray.size]; omega)
  have hcat2 : ∀ W, (Op.stringOp .add R1 (⟨#[112]⟩ : ByteArray)).run Tryz.prog W = .ok (.string R2) W := fun W => by
    rw [hR2, ← bytes_cat, hR1]
    exact run_string_add_sum _ _ _ (by simp [ByteArray.size]; omega)
  have hcat3 : ∀ W, (Op.stringOp .add R2 sD).run Tryz.prog W = .ok (.string R3) W := fun W => by
    rw [hR3, show [45] ++ LH ++ 112 :: LD = [45] ++ LH ++ [112] ++ LD by simp, ← bytes_cat, hR2, hsD]
    exact run_string_add_sum _ _ _ (by simp [ByteArray.size]; omega)
  rw [← hR3]
  have HKH : Hid (∀ w4, Below W.heap.size W w4 → Calls Tryz.prog 43 #[.slice ua un uc] w4 fun r w' => r = .returned (.string sH) ∧ Below W.heap.size W w') := (fun w4 h4 => (kH w4 (hBW.trans (h4.mono hBW.size))).mono fun r w' ⟨e1, o2⟩ => ⟨by rw [hsH]; exact e1, h4.trans (o2.mono h4.size)⟩ : ∀ w4, Below W.heap.size W w4 → Calls Tryz.prog 43 #[.slice ua un uc] w4 fun r w' => r = .returned (.string sH) ∧ Below W.heap.size W w')
  have HKD : Hid (∀ w4, Below W.heap.size W w4 → Calls Tryz.prog 44 #[.int .i64 ea] w4 fun r w' => r = .returned (.string sD) ∧ Below W.heap.size W w') := (fun w4 h4 => (kD w4 (hBW.trans (h4.mono hBW.size))).mono fun r w' ⟨e1, o2⟩ => ⟨by rw [hsD]; exact e1, h4.trans (o2.mono h4.size)⟩ : ∀ w4, Below W.heap.size W w4 → Calls Tryz.prog 44 #[.int .i64 ea] w4 fun r w' => r = .returned (.string sD) ∧ Below W.heap.size W w')
  clear kV kH kD hA hsz hBW hR1 hR2 hR3 hsH hsD hLH hLD
  go_enter Tryz.func20, Tryz.ntmps20
  go_wp2_with fail
  rw [← hW]
  clear hW
  refine k.mono ?_
  rintro r w1 ⟨rfl, hb1⟩
  have HB1 : Hid (Below W.heap.size W w1) := hb1
  obtain ⟨a0, a1, a2⟩ := HK.out w1 hb1
  clear k hb1
  have hBR : Below W.heap.size W w1.drew := HB1.out.trans ⟨rfl, rfl, rfl, Nat.le_refl _, fun _ _ => rfl⟩
  have kH' := HKH.out
  have kD' := HKD.out
  go_upto_region 8 with fail
  go_region_held3 (fun w' => w'.cell? ⟨w.heap.size, 0, none⟩ = some (.bool true) ∧ w'.cell? ⟨w.heap.size, 1, none⟩ = some (.slice ua un uc) ∧ w'.cell? ⟨w.heap.size, 2, none⟩ = some (.int .i64 ea)) (first | (with_reducible assumption) | exact ⟨a0, a1, a2⟩ | (refine HK.out _ ?_; with_reducible assumption) | go_keep)
    (first | (go_at_call 43; refine (kH' _ (by first | (with_reducible assumption) | exact hBR)).mono ?_; rintro r w5 ⟨rfl, hb5⟩) | (go_at_call 44; refine (kD' _ (by first | (with_reducible assumption) | exact hBR)).mono ?_; rintro r w6 ⟨rfl, hb6⟩))
  all_goals (have HL5 : Hid (Below W.heap.size W w5) := hb5; have HL6 : Hid (Below W.heap.size W w6) := hb6; clear kH' kD' HK HKH HKD a0 a1 a2 hBR hb5 hb6 hcat1 hcat2 hcat3; go_wp2; go_ret; first | exact ⟨rfl, HX.out.trans (HL6.out.mono HX.out.size)⟩ | exact ⟨rfl, HX.out.trans (HL5.out.mono HX.out.size)⟩)
end Go.Proofs.YtbmaoiemgepppaaGreatDoor
/- The document's Neg, Abs. -/
namespace Go.Proofs.YtbmaoiemgepppaaGreatDoor
set_option linter.unusedVariables false
set_option linter.unusedSimpArgs false
open Go.RowKit

end Go.Proofs.YtbmaoiemgepppaaGreatDoor
/- DyadAsks: the calls of both sides joined. -/
namespace Go.Proofs.YtbmaoiemgepppaaGreatDoor
set_option linter.unusedVariables false
set_option linter.unusedSimpArgs false
open Go.RowKit

/-- what the program holds -/
theorem PI.open {na : Bool} {un x : Nat} {ea : Int} {W : World} {X : Value} (hX : PI na un x ea W X) : ∃ pa pc, X = .agg #[.bool na, .slice pa un pc, .int .i64 ea] ∧ At W pa un x := by
  obtain ⟨v, b, rfl, d1⟩ := hX
  obtain ⟨pa, pc, rfl, p1, p2⟩ := d1.at
  exact ⟨pa, pc, rfl, p2⟩
theorem PI.is {na : Bool} {x : Nat} {ea : Int} {W : World} {X : Value} (hX : PI na (dlen x) x ea W X) : ∃ pa pc, X = .agg #[.bool na, .slice pa (dlen x) pc, .int .i64 ea] ∧ Is W (.slice pa (dlen x) pc) x := by
  obtain ⟨v, b, rfl, d1⟩ := hX
  obtain ⟨pa, pc, e1, i1⟩ := dn_pn (s := na) (e := ea) d1
  exact ⟨pa, pc, e1, i1⟩

theorem itoa_len {e : Int} (h : -100000000 < e ∧ e < 100000000) : (Lib.itoa e).length ≤ 1000 := by
  unfold Lib.itoa
  split
  · have := decDigits_len 8 e.natAbs (by omega)
    rw [List.length_cons]; omega
  · have := decDigits_len 8 e.toNat (by omega)
    omega
end Go.Proofs.YtbmaoiemgepppaaGreatDoor
/- The program's Show of a number in its one form; the program's Read joined. -/
namespace Go.Proofs.YtbmaoiemgepppaaGreatDoor
set_option linter.unusedVariables false
set_option linter.unusedSimpArgs false
open Go Go.RowKit Go.Fl64

/-- the text of a number -/
def shT (t : Bool × Nat × Int) : ByteArray := if okN t.1 (dlen t.2.1) t.2.1 t.2.2 = true then (if t.2.1 = 0 then ⟨#[48, 112, 48]⟩ else ⟨((if t.1 then [45] else []) ++ hexN t.2.1 ++ 112 :: Lib.itoa t.2.2).toArray⟩) else ⟨#[]⟩

theorem pshow {w : World} {t : Bool × Nat × Int} {ao : Option Addr} {cap : Nat} (hI : Ie.Tab w) (h10 : Tab10 w) (h : Is w (.slice ao (dlen t.2.1) cap) t.2.1) (hx : dlen t.2.1 ≤ 35184372088832) :
    Calls Tryz.prog 13 #[.agg #[.bool t.1, .slice ao (dlen t.2.1) cap, .int .i64 t.2.2]] w fun r w' => r = .returned (.string (shT t)) ∧ Below w.heap.size w w' := by
  obtain ⟨na, x, ea⟩ := t
  simp only at h hx ⊢
  have km : ∀ W g, Below w.heap.size w W → W.heap[g]? = some (.cells #[.bool na, .slice ao (dlen x) cap, .int .i64 ea] 24 (0, 0)) → Calls Tryz.prog 35 #[.slice (some ⟨g, 0, none⟩) 1 1] W fun r w' => r = .returned (.bool (okN na (dlen x) x ea)) ∧ Below W.heap.size W w' := fun W g hW hg => maybe1 hg (h.later hW) hx
  by_cases hk : okN na (dlen x) x ea = true
  · have f1 := Ok.facts (t := (na, x, ea)) hk
    simp only at f1
    rw [hk] at km
    by_cases x0 : x = 0
    · have e1 : shT (na, x, ea) = ⟨#[48, 112, 48]⟩ := by unfold shT; simp only; rw [if_pos hk, if_pos x0]
      rw [e1]
      have e0 : dlen x = 0 := by rw [x0, dlen_zero]
      rw [e0] at km ⊢
      exact pShow_0 na ao cap ea w km
    · have hl := dlen_pos x0
      have hT := itoa_len (e := ea) (by omega)
      have kT : ∀ W', Below w.heap.size w W' → Calls Tryz.prog 40 #[.int .i64 ea] W' fun e w' => e = .returned (.string ⟨(Lib.itoa ea).toArray⟩) ∧ Below W'.heap.size W' w' := fun W' hW' => by
        refine (Tryz.strconv_Itoa ea (by omega) (by omega) W' (h10.later hW')).mono ?_
        rintro r w' ⟨rfl, k, os, rfl⟩
        exact ⟨rfl, below_more W' k os⟩
      have e1 : shT (na, x, ea) = ⟨((if na then [45] else []) ++ hexN x ++ 112 :: Lib.itoa ea).toArray⟩ := by unfold shT; simp only; rw [if_pos hk, if_neg x0]
      rw [e1]
      obtain ⟨ao', cap', e2, o1, -, b, o, h3, h4⟩ := h
      injection e2 with e2 e3 e4
      subst e2; subst e4
      obtain rfl := h3 (by omega)
      obtain ⟨m, hm⟩ : ∃ m, dlen x = m + 1 := ⟨dlen (x / B), hl⟩
      rw [hm] at km o1 h4 ⊢
      cases na
      · exact show_pos b o _ m x ea _ w h4 hm (by omega) hT o1 hI km kT
      · exact show_neg b o _ m x ea _ w h4 hm (by omega) hT o1 hI km kT
  · have e1 : shT (na, x, ea) = ⟨#[]⟩ := by unfold shT; simp only; rw [if_neg hk]
    rw [e1]
    rw [Bool.not_eq_true] at hk
    rw [hk] at km
    exact pShow_no na ao (dlen x) cap ea w km

/-- the variable ErrRange holds an error or none -/
def SenR (w : World) : Prop := ∃ ev, w.cell? ⟨3, 0, none⟩ = some ev ∧ (ev = .nilIface ∨ ∃ te pe, ev = .iface te pe)
theorem SenR.later {w w' : World} (h : SenR w) (hb : Below w.heap.size w w') : SenR w' := by
  obtain ⟨ev, h1, h2⟩ := h
  exact ⟨ev, (hb.cell (World.block_lt_of_cell? _ _ h1)).trans h1, h2⟩
/-- what strings.CutPrefix answers -/
def CpS (bd : ByteArray → ByteArray) (ng : ByteArray → Bool) : Prop := ∀ (s : ByteArray) (w : World),
    Calls Tryz.prog 8 #[.string s, .string ⟨#[45]⟩] w fun e w' => e = .returned (.tuple #[.string (bd s), .bool (ng s)]) ∧ w' = w
/-- what strconv.Atoi answers -/
def AtS (av : ByteArray → Option Int) : Prop := ∀ (s : ByteArray) (w : World), s.size ≤ 16392 → SenS w → SenR w →
    Calls Tryz.prog 10 #[.string s] w fun r w' => (match av s with | some v => r = .returned (.tuple #[.int .i64 v, .nilIface]) | none => ∃ v t p, r = .returned (.tuple #[.int .i64 v, .iface t p])) ∧ Below w.heap.size w w'
/-- the number that readDigits reads -/
def rdN (s : ByteArray) : Nat := V (fun i => puD (pcS s i)) ((s.size + 7) / 8)
theorem rdf_lt (s : ByteArray) : ∀ i, i < (s.size + 7) / 8 → puD (pcS s i) < B := fun i _ => puD_lt _ (pcS_size s i)
theorem rdN_dlen (s : ByteArray) : dlen (rdN s) ≤ (s.size + 7) / 8 := (dlen_le _ _).2 (V_lt (rdf_lt s))
theorem rdN_dg (s : ByteArray) (i : Nat) (hi : i < (s.size + 7) / 8) : dg (rdN s) i = puD (pcS s i) := dg_V (rdf_lt s) i hi
/-- the number that the program takes a text for -/
def rdT (bd : ByteArray → ByteArray) (ng : ByteArray → Bool) (av : ByteArray → Option Int) (s : ByteArray) : Option (Bool × Nat × Int) := if s.size > 16392 then none else
  match av (cutB (bd s)) with
  | some v => if shT (ng s, rdN (cutA (bd s)), v) = s then some (ng s, rdN (cutA (bd s)), v) else none
  | none => none

theorem pread {bd : ByteArray → ByteArray} {ng : ByteArray → Bool} {av : ByteArray → Option Int} (kT : TeS) (kI : IxS) (kC : CpS bd ng) (kA : AtS av) (hbd : ∀ s, (bd s).size ≤ s.size) (s : ByteArray) (w : World) (hs : s.size ≤ 9223372036854775807) (hI : Ie.Tab w) (h10 : Tab10 w) (hS : SenS w) (hR : SenR w) :
    Calls Tryz.prog 4 #[.string s] w fun r w' => (match rdT bd ng av s with
      | some t => ∃ ao cap, r = .returned (.tuple #[.agg #[.bool t.1, .slice ao (dlen t.2.1) cap, .int .i64 t.2.2], .int .i64 0]) ∧ Own w' (w.heap.size + 1) (.slice ao (dlen t.2.1) cap) t.2.1
      | none => r = .returned (.tuple #[.agg #[.bool false, .slice none 0 0, .int .i64 0], .int .i64 3])) ∧ Below w.heap.size w w' := by
  by_cases hl : s.size > 16392
  · refine (pread_long s w (by omega) hs).mono ?_
    rintro r w' ⟨rfl, hb⟩
    unfold rdT
    rw [if_pos hl]
    exact ⟨rfl, hb⟩
  · have b1 : (bd s).size ≤ 16392 := by have := hbd s; omega
    have b2 := cutA_size (bd s)
    have b3 := cutB_size (bd s)
    have kp : ∀ W, Below w.heap.size w W → Calls Tryz.prog 8 #[.string s, .string ⟨#[45]⟩] W fun r w' => r = .returned (.tuple #[.string (bd s), .bool (ng s)]) ∧ w' = W := fun W _ => kC s W
    have kc : ∀ W, Below w.heap.size w W → Calls Tryz.prog 9 #[.string (bd s), .string ⟨#[112]⟩] W fun r w' => ∃ b, r = .returned (.tuple #[.string (cutA (bd s)), .string (cutB (bd s)), .bool b]) ∧ Below W.heap.size W w' := fun W _ => scut kI (bd s) W (by omega)
    have ka := fun W (hW : Below w.heap.size w W) => kA (cutB (bd s)) W (by omega) (hS.later hW) (hR.later hW)
    have e0 : rdT bd ng av s = match av (cutB (bd s)) with
        | some v => if shT (ng s, rdN (cutA (bd s)), v) = s then some (ng s, rdN (cutA (bd s)), v) else none
        | none => none := by unfold rdT; rw [if_neg hl]
    rw [e0]
    cases hv : av (cutB (bd s)) with
    | none =>
      simp only [hv] at ka ⊢
      exact pread_2 s (bd s) (cutA (bd s)) (cutB (bd s)) (ng s) w (by omega) kp kc (fun W hW => (ka W hW).mono fun r w' ⟨⟨v, t, p, e⟩, hb⟩ => ⟨v, t, p, e, hb⟩)
    | some v =>
      simp only [hv] at ka ⊢
      generalize hD : cutA (bd s) = D at *
      obtain ⟨m, hm⟩ : ∃ m, (D.size + 7) / 8 = m := ⟨_, rfl⟩
      have hdl := rdN_dlen D
      rw [hm] at hdl
      refine (pread_1 s (bd s) D (cutB (bd s)) (shT (ng s, rdN D, v)) (ng s) v (dlen (rdN D)) w (by omega)
        (fun W V0 => ∃ g, V0 = .slice (some ⟨g, 0, none⟩) m m ∧ w.heap.size + 1 ≤ g ∧ W.rowIs g 49 m (fun i => .int .u32 (puD (pcS D i) : Nat)))
        (fun W V1 => Own W (w.heap.size + 1) V1 (rdN D)) kp kc ka ?kr ?kt ?ks (fun W W' V1 h1 h2 => h1.later h2) (fun W V1 a b c h1 => own_store3 h1 (by omega) a b c)).mono ?_
      case kr =>
        intro W hW hW2
        refine (rdig kT D W (by omega) (hS.later hW) m hm).mono ?_
        rintro r w' ⟨rfl, hM⟩
        exact ⟨_, rfl, ⟨_, rfl, hW2, hM.row⟩, hM.below⟩
      case kt =>
        rintro W V0 ⟨g, rfl, hg, hrow⟩
        have hAt : At W (some ⟨g, 0, none⟩) m (rdN D) := ⟨g, 0, fun _ => rfl, fun i hi => by rw [Nat.zero_add, hrow.cell hi, rdN_dg D i (by omega)]⟩
        refine (c62 _ m m (rdN D) W hdl (Nat.le_refl _) (by omega) hAt).mono ?_
        rintro r w' ⟨rfl, rfl⟩
        exact ⟨_, _, rfl, .inr ⟨g, m, _, rfl, hg, hdl, by omega, hrow, fun i hi => by rw [rdN_dg D i (by omega)]⟩, rfl⟩
      case ks =>
        intro W ao cap hW hO
        have hm2 : dlen (rdN D) ≤ 35184372088832 := by omega
        exact pshow (t := (ng s, rdN D, v)) (Tab.later hI hW) (h10.later hW) hO.is hm2
      rintro r w' ⟨h1, hb⟩
      refine ⟨?_, hb⟩
      by_cases hS : shT (ng s, rdN D, v) = s
      · rw [if_pos hS] at h1 ⊢
        exact h1
      · rw [if_neg hS] at h1 ⊢
        exact h1
end Go.Proofs.YtbmaoiemgepppaaGreatDoor
