/- Own work: contracts of the program's functions, part 9: UD1 UF1 UF2 UD2 UD3 UD4 UD5 UD6 UE1 UE2 UE3 UF4 UF5 UF6 UE4 UE5 UE6 UE7 UF7 UF8 UF9 UG1 UG2 UG3 UG4 UG5 UG6 UG7 UG8. -/
import Derived.Test.YtdfkpjagnndfdaaGreatDoorA8
import Derived.Deep.Slices
import Derived.Laws.Cover2
import Derived.OpenShut
import Derived.WideShapes
import Derived.ChangeAlike
import Derived.Laws.AppendOwnNone
import Derived.Deep.RegionHeld
import Derived.OneCell
import Derived.Lib.SmallJoins
import Derived.Test.YtdfkpjagnndfdaaGreatDoorA7
import Derived.Sort.LoopGhostIn

/- A list of floats that is handed in, opened. -/
namespace Go.Proofs.YtdfkpjagnndfdaaGreatDoor
set_option linter.unusedVariables false
set_option linter.unusedSimpArgs false
open Go.ChangeShapes Go.WideShapes Go.Deep Go.RowKit Go.Fl64

theorem cellsF64 : Tryz.prog.cellsOf 23 = 1 := by kernel_rfl
theorem bytesF64 : Tryz.prog.bytesOf 23 = 8 := by kernel_rfl
theorem trod_flt {H : Type} {enc : TypeId × Value → H} {W : World} {base : Nat} {spare : Nat → Bool} {held : Bool} {fuel : Nat} {v : Value} {x : DataW H × List MemPlace}
    (h : DataW.trod enc Tryz.prog W base spare held fuel 23 [v] = some x) : ∃ b, v = .float .f64 b ∧ b < 18446744073709551616 := by
  cases fuel with
  | zero => simp [DataW.trod] at h
  | succ n =>
    cases v with
    | float k b =>
      simp only [DataW.trod, Tryz.underlying23] at h
      by_cases hk : k = .f64
      · subst hk
        by_cases hw : (Lit.float .f64 b).wf = true
        · exact ⟨b, rfl, by simpa [Lit.wf] using hw⟩
        · simp [hw] at h
      · simp [hk] at h
    | _ => simp [DataW.trod, Tryz.underlying23] at h

set_option maxRecDepth 100000 in
theorem open_floats {H : Type} {enc : TypeId × Value → H} {W : World} {base : Nat} {v : Value} {d : DataW H} {p : List MemPlace} (hval : Value.okWide Tryz.prog W .any base 22 v)
    (h : DataW.Trod enc Tryz.prog W 0 (fun _ => true) true 22 v d p) (hw : ∀ n ∈ d.weights Tryz.prog 22, n ≤ reachBytes) :
    ∃ ao len cap xs, v = .slice ao len cap ∧ FAt W ao len xs ∧ Fls xs len ∧ (len = 0 → (∃ ad, ao = some ad) ∨ (ao = none ∧ cap = 0)) ∧ len ≤ cap ∧ cap ≤ 17592186043904 := by
  obtain ⟨a0, len0, cap0, rfl⟩ := okWide_slice Tryz.underlying22 hval
  obtain ⟨fuel, hf⟩ := h
  rcases open_slice1 Tryz.underlying22 cellsF64 hf with ⟨hcs, hx⟩ | ⟨a, len, cap, m, n, V, D, Pl, hcs, hb, hl, hm, hmm, hx, hcell⟩
  · simp [Value.cells] at hcs
    obtain ⟨rfl, rfl, rfl⟩ := hcs
    exact ⟨none, 0, 0, fun _ => 0, rfl, ⟨0, 0, fun h => by omega, fun j hj => by omega⟩, fun i hi => by omega, fun _ => .inr ⟨rfl, rfl⟩, Nat.le_refl _, by omega⟩
  · simp [Value.cells] at hcs
    obtain ⟨rfl, rfl, rfl⟩ := hcs
    simp only [Prod.mk.injEq] at hx
    obtain ⟨rfl, rfl⟩ := hx
    simp only [if_true] at hmm
    subst hmm
    have hcap : m ≤ 17592186043904 := by
      have := hw ((((List.range len0).map D).length + ((List.range (m - len0)).map fun j => D (len0 + j)).length) * Tryz.prog.bytesOf 23) (by
        simp only [DataW.weights, Tryz.underlying22, List.mem_cons]
        simp)
      rw [bytesF64] at this
      simp only [List.length_map, List.length_range, reachBytes] at this
      omega
    have each : ∀ i, ∃ x, i < m → V i = .float .f64 x ∧ x < 18446744073709551616 := fun i => by
      by_cases hi : i < m
      · obtain ⟨x, h1, h2⟩ := trod_flt (hcell i hi).2
        exact ⟨x, fun _ => ⟨h1, h2⟩⟩
      · exact ⟨0, fun h => absurd h hi⟩
    obtain ⟨xs, hxs⟩ : ∃ xs : Nat → Nat, ∀ i, i < m → V i = .float .f64 (xs i) ∧ xs i < 18446744073709551616 := ⟨fun i => Classical.choose (each i), fun i hi => Classical.choose_spec (each i) hi⟩
    refine ⟨some a, len0, m, xs, rfl, ?_, fun i hi => (hxs i (by omega)).2, fun _ => .inl ⟨a, rfl⟩, hl, hcap⟩
    by_cases h0 : len0 = 0
    · exact ⟨0, 0, fun h => by omega, fun j hj => by omega⟩
    · obtain ⟨b, off, spot⟩ := a
      have hspot : spot = none := by simpa [Addr.add] using World.cell?_spot (hcell 0 (by omega)).1
      subst hspot
      refine ⟨b, off, fun _ => rfl, fun j hj => ?_⟩
      have := (hcell j (by omega)).1
      rw [(hxs j (by omega)).1] at this
      by_cases hj0 : j = 0
      · subst hj0; simpa [Addr.add] using this
      · simpa [Addr.add, hj0] using this
end Go.Proofs.YtdfkpjagnndfdaaGreatDoor
/- What a sum to the nearest loses is a float: in numbers. -/
namespace Go.Proofs.YtdfkpjagnndfdaaGreatDoor
set_option linter.unusedVariables false
set_option linter.unusedSimpArgs false
open Go.RowKit Go.Fl64

theorem bv_has (j : Nat) : ∀ q, q ≤ 9007199254740992 → ∃ m, bv m = q * 2 ^ j := by
  induction j with
  | zero => exact fun q hq => ⟨0 * 4503599627370496 + q, bv_at (.inl ⟨rfl, hq⟩)⟩
  | succ j ih =>
    intro q hq
    by_cases h : 4503599627370496 ≤ q
    · exact ⟨(j + 1) * 4503599627370496 + q, bv_at (.inr ⟨h, hq⟩)⟩
    · obtain ⟨m, hm⟩ := ih (2 * q) (by omega)
      exact ⟨m, by rw [hm, Nat.pow_succ]; rw [Nat.mul_comm 2 q, Nat.mul_assoc, Nat.mul_comm 2]⟩
/-- no float is nearer -/
theorem Rounds.near {N u b : Nat} (hu : 0 < u) (h : Rounds (N * u) u b 1) (m : Nat) : ((N : Int) - bv b).natAbs ≤ ((N : Int) - bv m).natAbs := by
  obtain ⟨b0, ⟨l, g⟩, -, -, w1⟩ := h.fl
  have w := w1 rfl
  have l' : bv b0 ≤ N := Nat.le_of_mul_le_mul_right l hu
  have g' : N < bv (b0 + 1) := Nat.lt_of_mul_lt_mul_right g
  have i1 : 2 * (N * u) < (bv b0 + bv (b0 + 1)) * u ↔ 2 * N < bv b0 + bv (b0 + 1) := by
    rw [← Nat.mul_assoc]; exact Nat.mul_lt_mul_right hu
  have i2 : 2 * (N * u) = (bv b0 + bv (b0 + 1)) * u ↔ 2 * N = bv b0 + bv (b0 + 1) := by
    rw [← Nat.mul_assoc]; exact Nat.mul_left_inj (by omega)
  simp only [i1, i2] at w
  have hb : (b = b0 ∧ 2 * N ≤ bv b0 + bv (b0 + 1)) ∨ (b = b0 + 1 ∧ bv b0 + bv (b0 + 1) ≤ 2 * N) := by
    split at w
    · exact .inl ⟨w, by omega⟩
    · split at w
      · rcases (show b0 % 2 = 0 ∨ b0 % 2 = 1 by omega) with p | p
        · exact .inl ⟨by omega, by omega⟩
        · exact .inr ⟨by omega, by omega⟩
      · exact .inr ⟨w, by omega⟩
  have hm : bv m ≤ bv b0 ∨ bv (b0 + 1) ≤ bv m := by
    rcases (show m ≤ b0 ∨ b0 + 1 ≤ m by omega) with p | p
    · exact .inl (bv_le p)
    · exact .inr (bv_le p)
  rcases hb with ⟨rfl, p⟩ | ⟨rfl, p⟩ <;> rcases hm with q | q <;> omega
end Go.Proofs.YtdfkpjagnndfdaaGreatDoor
/- A sum and what it lost are as much as the two numbers. -/
namespace Go.Proofs.YtdfkpjagnndfdaaGreatDoor
set_option linter.unusedVariables false
set_option linter.unusedSimpArgs false
open Go.RowKit Go.Fl64

/-- a finite float's number, by its bits -/
theorem vz_num5 {a : Nat} (ha : a < 18446744073709551616) (hf : mag a < 9218868437227405312) : vz 70000 (tF a).1 (tF a).2.1 (tF a).2.2 = sv (neg a) (bv (mag a)) * (UU 70000 : Nat) := by
  obtain ⟨m, hm, -⟩ := sM_lt a ha
  have e : nM a = m := by unfold nM; rw [hm]; rfl
  have hE : -1074 ≤ Ie.sE a := by
    by_cases h0 : mag a = 0
    · rw [(num_zero h0).2]; omega
    · exact (num_parts hf h0).2.2.1
  rw [← sv_scale, ← cn_parts a m ha hf hm, vz_cn (by omega), ← vz_num (K := 70000) (by omega) hf, e]
  unfold nN
  by_cases h0 : mag a = 0
  · have : nM a = 0 := (num_zero h0).1
    rw [← e, this]
    unfold vz
    rw [sv_zero, sv_zero]
  · rw [if_neg h0]
theorem fits_low {lo hi : Int} {t : Bool × Nat × Int} (o : Ok t) : 0 ≤ t.2.2 + (70000 : Nat) := by
  obtain ⟨f1, f2, f3, -, -⟩ := o.facts
  omega
theorem tf_near {s : Bool} {x : Nat} {e : Int} (he : -65536 ≤ e) (hx : x ≠ 0) (hf : mag (tfF s true x e 2) < 9218868437227405312) : mag (tfF s true x e 2) = rwb x e 1 ∧ neg (tfF s true x e 2) = s := by
  rw [tf_bdy (by omega)] at hf ⊢
  have e1 : wyN s 2 = 1 := by unfold wyN; rw [if_pos rfl]
  rw [e1] at hf ⊢
  obtain ⟨h1, h2, -⟩ := mag_sig (s := s) (bdy_le x e 1)
  rw [h1] at hf
  refine ⟨?_, h2⟩
  rw [h1]
  unfold bdy at hf ⊢
  rw [if_neg hx] at hf ⊢
  split at hf
  · rename_i g; rw [if_pos g]
  · rw [if_neg (by decide)] at hf; omega
theorem sv_pos_of {s : Bool} {V U : Nat} {P : Int} (hU : 0 < U) (hV : 0 < V) (h : sv s V = P * (U : Int)) : sv s P.natAbs = P ∧ V = P.natAbs * U := by
  rcases Int.natAbs_eq P with q | q <;> generalize P.natAbs = n at q <;> subst q
  · have h' : sv s V = ((n * U : Nat) : Int) := by rw [h]; rw [Int.natCast_mul]
    cases s
    · have : (V : Int) = ((n * U : Nat) : Int) := h'
      exact ⟨rfl, by omega⟩
    · have : -(V : Int) = ((n * U : Nat) : Int) := h'
      omega
  · have h' : sv s V = -((n * U : Nat) : Int) := by rw [h, Int.natCast_mul, Int.neg_mul]
    cases s
    · have : (V : Int) = -((n * U : Nat) : Int) := h'
      omega
    · have : -(V : Int) = -((n * U : Nat) : Int) := h'
      exact ⟨rfl, by omega⟩

end Go.Proofs.YtdfkpjagnndfdaaGreatDoor
/- SumsExact, as its own text asks for it. -/
namespace Go.Proofs.YtdfkpjagnndfdaaGreatDoor
set_option linter.unusedVariables false
set_option linter.unusedSimpArgs false
open Go.RowKit Go.Fl64

end Go.Proofs.YtdfkpjagnndfdaaGreatDoor
/- The document's Row and Halves. -/
namespace Go.Proofs.YtdfkpjagnndfdaaGreatDoor
set_option linter.unusedVariables false
set_option linter.unusedSimpArgs false
open Go.RowKit Go.Fl64

end Go.Proofs.YtdfkpjagnndfdaaGreatDoor
/- The document's Kept. -/
namespace Go.Proofs.YtdfkpjagnndfdaaGreatDoor
set_option linter.unusedVariables false
set_option linter.unusedSimpArgs false
open Go.RowKit Go.Fl64

theorem dabs1 (a : Nat) (ha : a < 18446744073709551616) (w : World) : Calls Tryz.prog 11 #[.float .f64 a] w fun e w' => e = .returned (.float .f64 (mag a)) ∧ w' = w := by
  go_enter Tryz.func11, Tryz.ntmps11
  go_wp2_with (first | (go_at_call 35; refine (Ie.dmag a ha _).mono ?_; rintro e w' ⟨rfl, rfl⟩) | (go_at_call 36; refine (Ie.dof _ _).mono ?_; rintro e w' ⟨rfl, rfl⟩))
  go_ret
  exact ⟨rfl, rfl⟩

end Go.Proofs.YtdfkpjagnndfdaaGreatDoor
/- The law's twin and all. -/
namespace Go.Proofs.YtdfkpjagnndfdaaGreatDoor
set_option linter.unusedVariables false
set_option linter.unusedSimpArgs false
open Go.RowKit Go.Fl64

def fcells (xs : Nat → Nat) (n : Nat) : List Value := (List.range n).map fun i => .float .f64 (xs i)
theorem info_f64 : (Tryz.prog.info? 23).map (fun i => (i.zero, i.size, i.bytes)) = some (some (.float .f64 0), 1, 8) := by kernel_rfl
theorem fcells_length (xs : Nat → Nat) (n : Nat) : (fcells xs n).length = n := by simp [fcells]
theorem fcells_get {xs : Nat → Nat} {n i : Nat} (h : i < n) : (fcells xs n)[i]? = some (.float .f64 (xs i)) := by simp [fcells, h]

theorem fat_of_row {w : World} {base n : Nat} {xs : Nat → Nat} {v : Value} (h : w.ownsRow base 23 1 v n (fcells xs n)) : ∃ ao cap, v = .slice ao n cap ∧ FAt w ao n xs ∧ n ≤ cap ∧ cap ≤ 9223372036854775807 := by
  rcases h.2 with ⟨rfl, rfl⟩ | ⟨g, cap, cur, rfl, hg, hc2, hc3, hc4, hc5, hc6⟩
  · exact ⟨none, 0, rfl, ⟨0, 0, fun h => by omega, fun j hj => by omega⟩, Nat.le_refl _, by omega⟩
  · refine ⟨some ⟨g, 0, none⟩, cap, rfl, ⟨g, 0, fun _ => rfl, fun j hj => ?_⟩, hc3, by unfold maxLen at hc4; omega⟩
    have h7 : (fcells xs n)[j]? = cur[j]? := by
      rw [← hc6, Nat.mul_one, List.getElem?_take, if_pos hj, Array.getElem?_toList]
    rw [fcells_get hj] at h7
    unfold World.cell?
    rw [hc2]
    show (if false then none else cur[0 + j]?) = _
    rw [if_neg (by decide), Nat.zero_add, ← h7]

end Go.Proofs.YtdfkpjagnndfdaaGreatDoor
/- SumsRows. -/
namespace Go.Proofs.YtdfkpjagnndfdaaGreatDoor
set_option linter.unusedVariables false
set_option linter.unusedSimpArgs false
open Go.RowKit Go.Fl64

end Go.Proofs.YtdfkpjagnndfdaaGreatDoor
/- The exact sum of what an iterator hands over. -/
namespace Go.Proofs.YtdfkpjagnndfdaaGreatDoor
set_option linter.unusedVariables false
set_option linter.unusedSimpArgs false
open Go Go.RowKit Go.Fl64 Go.Shelf
attribute [local go_sem] Oper.semAt_some

/-- what holds between two rounds: the result's box is empty, the sum's box holds the sum so far -/
def TotG (w : World) (B g3 : Nat) (ts : Nat → Bool × Nat × Int) (k : Nat) (W : World) : Prop :=
  Below w.heap.size w W ∧ B ≤ W.heap.size ∧ W.heap[w.heap.size]? = some (.cells #[.bool false, .slice none 0 0, .int .i64 0] 43 (0, 0)) ∧ ∃ s ao n cap e, W.heap[g3]? = some (.cells #[.bool s, .slice ao n cap, .int .i64 e] 43 (0, 0)) ∧ PN W (.agg #[.bool s, .slice ao n cap, .int .i64 e]) (ts k)
theorem TotG.later {w : World} {B g3 : Nat} {ts : Nat → Bool × Nat × Int} {k : Nat} {A C : World} (h : TotG w B g3 ts k A) (hb : Below A.heap.size A C) : TotG w B g3 ts k C := by
  obtain ⟨h1, h2, h3, s, ao, n, cap, e, h4, h5⟩ := h
  exact ⟨h1.trans (hb.mono h1.size), Nat.le_trans h2 hb.size, box_later h3 hb (lt_of_box h3), s, ao, n, cap, e, box_later h4 hb (lt_of_box h4), h5.later hb⟩
theorem TotG.put {w : World} {B g3 : Nat} {ts : Nat → Bool × Nat × Int} {k l : Nat} {A : World} {o o' : Obj} (h : TotG w B g3 ts k A) (hB : w.heap.size ≤ B) (hl : B ≤ l) (ho : A.heap[l]? = some o) (hc : o.isCells = false) : TotG w B g3 ts k (A.putObj l o') := by
  obtain ⟨h1, h2, h3, s, ao, n, cap, e, h4, h5⟩ := h
  have hb : Below w.heap.size A (A.putObj l o') := (Below.refl w.heap.size A).grown (grownBy_putObj' A l o') (by have := (Array.getElem?_eq_some_iff.1 ho).1; omega) (fun k e => by cases e; omega)
  exact ⟨h1.trans hb, Nat.le_trans h2 hb.size, box_put h3 ho hc, s, ao, n, cap, e, box_put h4 ho hc, pn_put h5 ho hc⟩
end Go.Proofs.YtdfkpjagnndfdaaGreatDoor
/- The iterator over the products of two lists. -/
namespace Go.Proofs.YtdfkpjagnndfdaaGreatDoor
set_option linter.unusedVariables false
set_option linter.unusedSimpArgs false
open Go Go.RowKit Go.Fl64 Go.Shelf
attribute [local go_sem] Oper.semAt_some

end Go.Proofs.YtdfkpjagnndfdaaGreatDoor
/- sums.checked of two lists. -/
namespace Go.Proofs.YtdfkpjagnndfdaaGreatDoor
set_option linter.unusedVariables false
set_option linter.unusedSimpArgs false
open Go.RowKit Go.Fl64

end Go.Proofs.YtdfkpjagnndfdaaGreatDoor
/- sums.checked of two lists of unlike lengths. -/
namespace Go.Proofs.YtdfkpjagnndfdaaGreatDoor
set_option linter.unusedVariables false
set_option linter.unusedSimpArgs false
open Go.RowKit Go.Fl64

end Go.Proofs.YtdfkpjagnndfdaaGreatDoor
/- sums.Lost. -/
namespace Go.Proofs.YtdfkpjagnndfdaaGreatDoor
set_option linter.unusedVariables false
set_option linter.unusedSimpArgs false
open Go.RowKit Go.Fl64

end Go.Proofs.YtdfkpjagnndfdaaGreatDoor
/- The document's Lost. -/
namespace Go.Proofs.YtdfkpjagnndfdaaGreatDoor
set_option linter.unusedVariables false
set_option linter.unusedSimpArgs false
open Go.RowKit Go.Fl64

end Go.Proofs.YtdfkpjagnndfdaaGreatDoor
/- The exact sum of products, in numbers; sums.Dot. -/
namespace Go.Proofs.YtdfkpjagnndfdaaGreatDoor
set_option linter.unusedVariables false
set_option linter.unusedSimpArgs false
open Go.RowKit Go.Fl64

end Go.Proofs.YtdfkpjagnndfdaaGreatDoor
/- The document's Dot where something is wrong. -/
namespace Go.Proofs.YtdfkpjagnndfdaaGreatDoor
set_option linter.unusedVariables false
set_option linter.unusedSimpArgs false
open Go.RowKit Go.Fl64

end Go.Proofs.YtdfkpjagnndfdaaGreatDoor
/- The document's Dot. -/
namespace Go.Proofs.YtdfkpjagnndfdaaGreatDoor
set_option linter.unusedVariables false
set_option linter.unusedSimpArgs false
open Go.RowKit Go.Fl64

end Go.Proofs.YtdfkpjagnndfdaaGreatDoor
/- Dot, by the program and by the document; SumsDots. -/
namespace Go.Proofs.YtdfkpjagnndfdaaGreatDoor
set_option linter.unusedVariables false
set_option linter.unusedSimpArgs false
open Go Go.RowKit Go.Fl64

end Go.Proofs.YtdfkpjagnndfdaaGreatDoor
/- Lost, on both sides. -/
namespace Go.Proofs.YtdfkpjagnndfdaaGreatDoor
set_option linter.unusedVariables false
set_option linter.unusedSimpArgs false
open Go.RowKit Go.Fl64

end Go.Proofs.YtdfkpjagnndfdaaGreatDoor
/- A sum in parts, in numbers: each part leaves at most half. -/
namespace Go.Proofs.YtdfkpjagnndfdaaGreatDoor
set_option linter.unusedVariables false
set_option linter.unusedSimpArgs false
open Go.RowKit Go.Fl64

/-- the float nearest to a number -/
def nrF (t : Bool × Nat × Int) : Nat := tfF t.1 true t.2.1 t.2.2 2
/-- what is left of a number when its nearest float is taken away -/
def nxT (t : Bool × Nat × Int) : Bool × Nat × Int := tD t (tF (nrF t))
theorem nrF_lt (t : Bool × Nat × Int) : nrF t < 18446744073709551616 := tfF_lt (by omega)

theorem Rounds.half {N u b : Nat} (hu : 0 < u) (hN : N ≠ 0) (h : Rounds (N * u) u b 1) : 2 * ((N : Int) - bv b).natAbs ≤ N := by
  obtain ⟨m, hm⟩ := bv_has N.log2 1 (by omega)
  have h1 := h.near hu m
  have h2 := Nat.log2_self_le hN
  have h3 := @Nat.lt_log2_self N
  rw [Nat.pow_succ] at h3
  rw [hm, Nat.one_mul] at h1
  generalize 2 ^ N.log2 = P at *
  omega
/-- a number on the way of a sum in parts: Z units of 2^-1074, its nearest float finite -/
structure Ap (t : Bool × Nat × Int) (Z : Int) : Prop where
  ok : Ok t
  fits : Fits (-1074) 1042 t.2.1 t.2.2
  val : vz 70000 t.1 t.2.1 t.2.2 = Z * ((UU 70000 : Nat) : Int)
  fin : mag (nrF t) < 9218868437227405312
theorem nrF_mag (t : Bool × Nat × Int) : mag (nrF t) = bdy t.2.1 t.2.2 1 := by
  unfold nrF
  rw [tf_bdy (by omega), show wyN t.1 2 = 1 by unfold wyN; rw [if_pos rfl]]
  exact (mag_sig (bdy_le _ _ 1)).1
theorem nxT_okR {t : Bool × Nat × Int} (f : Fits (-1074) 1042 t.2.1 t.2.2) : okR (sumN t.1 t.2.1 t.2.2 (!(tF (nrF t)).1 && decide (0 < dlen (tF (nrF t)).2.1)) (tF (nrF t)).2.1 (tF (nrF t)).2.2).1 (sumN t.1 t.2.1 t.2.2 (!(tF (nrF t)).1 && decide (0 < dlen (tF (nrF t)).2.1)) (tF (nrF t)).2.1 (tF (nrF t)).2.2).2.1 (sumN t.1 t.2.1 t.2.2 (!(tF (nrF t)).1 && decide (0 < dlen (tF (nrF t)).2.1)) (tF (nrF t)).2.1 (tF (nrF t)).2.2).2.2 = true :=
  (Fits.sum f ((tF_fits (nrF t)).mono (by omega) (by omega))).ok (by omega) (by omega) (by omega)
theorem Ap.zero {t : Bool × Nat × Int} {Z : Int} (h : Ap t Z) : t.2.1 = 0 ↔ Z = 0 := by
  have hU : (0 : Int) < ((UU 70000 : Nat) : Int) := by have := UU_pos 70000; omega
  constructor
  · intro h0
    have e : vz 70000 t.1 t.2.1 t.2.2 = 0 := vz_eq_zero.2 h0
    rw [h.val] at e
    rcases Int.mul_eq_zero.1 e with e | e
    · exact e
    · omega
  · intro h0
    have e := h.val
    rw [h0, Int.zero_mul] at e
    exact vz_eq_zero.1 e
theorem Ap.step {t : Bool × Nat × Int} {Z : Int} (h : Ap t Z) : ∃ Z', Ap (nxT t) Z' ∧ 2 * Z'.natAbs ≤ Z.natAbs := by
  have hU : 0 < UU 70000 := UU_pos _
  obtain ⟨f1, f2, f3, -, -⟩ := h.ok.facts
  have ok : Ok (nxT t) := ok_cn (nxT_okR h.fits)
  obtain ⟨g1, g2, g3, -, -⟩ := ok.facts
  have vL : vz 70000 (nxT t).1 (nxT t).2.1 (nxT t).2.2 = vz 70000 t.1 t.2.1 t.2.2 - vz 70000 (tF (nrF t)).1 (tF (nrF t)).2.1 (tF (nrF t)).2.2 :=
    vz_tD h.fits ((tF_fits (nrF t)).mono (Int.le_refl _) (by omega)) (fits_low (lo := 0) (hi := 0) h.ok) (fits_low (lo := 0) (hi := 0) (tF_ok _)) (by omega)
  rw [vz_num5 (nrF_lt t) h.fin, h.val, ← Int.sub_mul] at vL
  have half : 2 * (Z - sv (neg (nrF t)) (bv (mag (nrF t)))).natAbs ≤ Z.natAbs := by
    by_cases h0 : t.2.1 = 0
    · have e1 : mag (nrF t) = 0 := by rw [nrF_mag]; unfold bdy; rw [if_pos h0]
      rw [e1, bv_zero, sv_zero, h.zero.1 h0]; decide
    · have hv := h.val
      rw [vz_VA] at hv
      obtain ⟨p1, p2⟩ := sv_pos_of hU (VA_ne h0) hv
      have hr := VA_rounds (K := 70000) (Nat.le_refl _) h0 (e := t.2.2) (by omega) (way := 1)
      rw [p2] at hr
      obtain ⟨m1, m2⟩ := tf_near (s := t.1) (e := t.2.2) f2 h0 h.fin
      have hN : Z.natAbs ≠ 0 := by
        intro e
        exact h0 (h.zero.2 (by omega))
      have hh := hr.half hU hN
      have e0 : (Z - sv t.1 (bv (rwb t.2.1 t.2.2 1))).natAbs = ((Z.natAbs : Int) - bv (rwb t.2.1 t.2.2 1)).natAbs := by
        revert p1
        generalize Z.natAbs = n
        generalize bv (rwb t.2.1 t.2.2 1) = c
        intro p1
        rw [← p1]
        cases t.1 <;> unfold sv <;> simp <;> omega
      show 2 * (Z - sv (neg (tfF t.1 true t.2.1 t.2.2 2)) (bv (mag (tfF t.1 true t.2.1 t.2.2 2)))).natAbs ≤ Z.natAbs
      rw [m1, m2, e0]
      exact hh
  have hle : VA 70000 (nxT t).2.1 (nxT t).2.2 ≤ VA 70000 t.2.1 t.2.2 := by
    have e1 := vz_abs 70000 (nxT t).1 (nxT t).2.1 (nxT t).2.2
    have e2 := vz_abs 70000 t.1 t.2.1 t.2.2
    rw [vL, Int.natAbs_mul] at e1
    rw [h.val, Int.natAbs_mul] at e2
    show (nxT t).2.1 * 2 ^ ((nxT t).2.2 + (70000 : Nat)).toNat ≤ t.2.1 * 2 ^ (t.2.2 + (70000 : Nat)).toNat
    rw [← e1, ← e2]
    exact Nat.mul_le_mul_right _ (by omega)
  refine ⟨_, ⟨ok, ?_, vL, ?_⟩, half⟩
  · refine fits_small (K := 70000) (tD_fits h.fits ((tF_fits (nrF t)).mono (Int.le_refl _) (by omega))) (by omega) ?_
    refine Nat.lt_of_le_of_lt hle ?_
    rcases h.fits with h0 | ⟨h1, h2, h3⟩
    · show t.2.1 * _ < _
      rw [h0, Nat.zero_mul]
      exact Nat.two_pow_pos _
    · show t.2.1 * 2 ^ (t.2.2 + (70000 : Nat)).toNat < _
      rw [show ((1042 : Int) + (70000 : Nat)).toNat = (1042 - t.2.2).toNat + (t.2.2 + (70000 : Nat)).toNat by omega, Nat.pow_add]
      exact Nat.mul_lt_mul_of_pos_right h3 (Nat.two_pow_pos _)
  · have := bdy_mono (K := 70000) (Nat.le_refl _) (x := (nxT t).2.1) (e := (nxT t).2.2) (y := t.2.1) (f := t.2.2) (by omega) (by omega) (way := 1) (by omega) hle
    have hf := h.fin
    rw [nrF_mag] at hf ⊢
    omega
theorem Ap.sub {t : Bool × Nat × Int} {Z : Int} (h : Ap t Z) : Op2 70 t (tF (nrF t)) (nxT t) := sub_op h.ok (tF_ok _) (nxT_okR h.fits)

/-- what is left after k parts -/
def apT (t : Bool × Nat × Int) : Nat → Bool × Nat × Int
  | 0 => t
  | k + 1 => nxT (apT t k)
/-- the parts -/
def apF (t : Bool × Nat × Int) (k : Nat) : Nat := nrF (apT t k)
theorem ap_all {t : Bool × Nat × Int} {Z : Int} (h : Ap t Z) : ∀ k, ∃ Z', Ap (apT t k) Z' ∧ 2 ^ k * Z'.natAbs ≤ Z.natAbs
  | 0 => ⟨Z, h, by simp⟩
  | k + 1 => by
    obtain ⟨Z1, h1, h2⟩ := ap_all h k
    obtain ⟨Z2, h3, h4⟩ := h1.step
    refine ⟨Z2, h3, ?_⟩
    rw [Nat.pow_succ, Nat.mul_assoc]
    exact Nat.le_trans (Nat.mul_le_mul_left _ h4) h2
theorem UU_eq (K : Nat) : UU K = 2 ^ (K - 1074) := rfl
theorem Ap.small {t : Bool × Nat × Int} {Z : Int} (h : Ap t Z) {M : Nat} (hM : M = 2116) : Z.natAbs < 2 ^ M := by
  have e2 := vz_abs 70000 t.1 t.2.1 t.2.2
  rw [h.val, Int.natAbs_mul, Int.natAbs_natCast] at e2
  have hU : 0 < UU 70000 := UU_pos _
  obtain ⟨K, hK⟩ : ∃ K : Nat, K = 70000 - 1074 := ⟨_, rfl⟩
  have e5 : UU 70000 = 2 ^ K := by rw [UU_eq, ← hK]
  have e3 : Z.natAbs * UU 70000 < 2 ^ M * UU 70000 := by
    rw [e2]
    rcases h.fits with h0 | ⟨h1, h2, h3⟩
    · rw [h0, Nat.zero_mul]; exact Nat.mul_pos (Nat.two_pow_pos _) hU
    · have e4 : 2 ^ M * UU 70000 = 2 ^ (1042 - t.2.2).toNat * 2 ^ (t.2.2 + (70000 : Nat)).toNat := by
        rw [e5, ← Nat.pow_add, ← Nat.pow_add, show M + K = (1042 - t.2.2).toNat + (t.2.2 + (70000 : Nat)).toNat by omega]
      rw [e4]
      exact Nat.mul_lt_mul_of_pos_right h3 (Nat.two_pow_pos _)
  exact Nat.lt_of_mul_lt_mul_right e3
/-- after 2116 parts nothing is left -/
theorem ap_ends {t : Bool × Nat × Int} {Z : Int} (h : Ap t Z) {k : Nat} (hk : (apT t k).2.1 ≠ 0) : k < 2116 := by
  obtain ⟨Z', h1, h2⟩ := ap_all h k
  apply Decidable.byContradiction
  intro hc
  obtain ⟨M, hM⟩ : ∃ M : Nat, M = 2116 := ⟨_, rfl⟩
  have h3 : Z'.natAbs ≠ 0 := by
    intro e
    exact hk (h1.zero.2 (by omega))
  have h4 : 2 ^ M ≤ 2 ^ k := Nat.pow_le_pow_right (by omega) (by omega)
  have h5 : 2 ^ k ≤ 2 ^ k * Z'.natAbs := Nat.le_mul_of_pos_right _ (by omega)
  have h6 := h.small hM
  omega
end Go.Proofs.YtdfkpjagnndfdaaGreatDoor
/- For Apart: numbers in cells of their own beside a row that grows. -/
namespace Go.Proofs.YtdfkpjagnndfdaaGreatDoor
set_option linter.unusedVariables false
set_option linter.unusedSimpArgs false
open Go.RowKit Go.Fl64

/-- a number of the document whose digits lie in no block below B -/
def DB (w : World) (B : Nat) (s : Bool) (ao : Option Addr) (n cap : Nat) (e : Int) (t : Bool × Nat × Int) : Prop := DN w (.agg #[.bool s, .slice ao n cap, .int .i64 e]) t ∧ ∀ ad : Addr, ao = some ad → 0 < n → B ≤ ad.block
theorem NC.db {w : World} {base : Nat} {a : Value} {neg : Bool} {x : Nat} {e : Int} (h : NC w base a neg x e) : ∃ s ao n cap ex, a = .agg #[.bool s, .slice ao n cap, .int .i64 ex] ∧ DB w base s ao n cap ex (cn neg x e) := by
  obtain ⟨ao, cap, h1, h2, h3⟩ := h
  exact ⟨_, _, _, _, _, h1, ⟨ao, cap, rfl, h2⟩, h3⟩
theorem less_db {t1 t2 : Bool × Nat × Int} {X Y : Value} {w : World} (o1 : Ok t1) (o2 : Ok t2) (h1 : DN w X t1) (h2 : DN w Y t2) : Calls Tryz.prog 13 #[X, Y] w fun r w' => ∃ s ao n cap e, r = .returned (.agg #[.bool s, .slice ao n cap, .int .i64 e]) ∧ DB w' w.heap.size s ao n cap e (tD t1 t2) ∧ Below w.heap.size w w' := by
  obtain ⟨ao, cap, rfl, a1⟩ := h1
  obtain ⟨ao', cap', rfl, a2⟩ := h2
  obtain ⟨f1, f2, f3, -, -⟩ := o1.facts
  obtain ⟨g1, g2, g3, g4, -⟩ := o2.facts
  unfold tD
  by_cases h0 : t2.2.1 = 0
  · have e2 := g4 h0
    have e3 : t2.1 = false := by rw [e2]
    have e4 : t2.2.2 = 0 := by rw [e2]
    rw [h0, e3, e4, dlen_zero]
    have k2 := fun (W : World) (hW : Below w.heap.size w W) => rplusG (nb := false) (y := 0) (eb := 0) (a1.later hW) (arg_noughtD W) (cn_ok o1) rfl (by omega) (by omega) (by omega) (by omega) (by omega) (by rw [dlen_zero]; omega)
    simp only [dlen_zero] at k2
    exact (rlessN_1 t1.1 false ao ao' (dlen t1.2.1) cap 0 cap' t1.2.2 0 false none 0 0 0 _ _ _ w (fun W => rminus_0 false ao' cap' 0 W) k2).mono fun r w' ⟨A, e, h, hb⟩ => by
      obtain ⟨s, ao, n, cap, ex, rfl, h'⟩ := h.db
      exact ⟨_, _, _, _, _, e, h', hb⟩
  · have hl : 0 < dlen t2.2.1 := by have := dlen_pos h0; omega
    rw [decide_eq_true hl, Bool.and_true]
    have ho : cn (!t2.1) t2.2.1 t2.2.2 = (!t2.1, t2.2.1, t2.2.2) := by
      have := cn_ok o2
      unfold cn at this ⊢
      rw [if_neg h0] at this ⊢
      rw [Prod.ext_iff] at this
      exact Prod.ext rfl this.2
    exact (rlessN_1 t1.1 t2.1 ao ao' (dlen t1.2.1) cap (dlen t2.2.1) cap' t1.2.2 t2.2.2 (!t2.1) ao' (dlen t2.2.1) cap' t2.2.2 _ _ _ w (fun W => rminus_1 t2.1 ao' (dlen t2.2.1) cap' t2.2.2 W (by omega) (by rw [beq_eq_false_iff_ne]; omega)) (fun W hW => rplusG (a1.later hW) (a2.later hW) (cn_ok o1) ho (by omega) (by omega) (by omega) (by omega) (by omega) (by omega))).mono fun r w' ⟨A, e, h, hb⟩ => by
      obtain ⟨s, ao, n, cap, ex, rfl, h'⟩ := h.db
      exact ⟨_, _, _, _, _, e, h', hb⟩
theorem row_block {w : World} {base n : Nat} {xs : List Value} {v : Value} (h : w.ownsRow base 23 1 v n xs) {b : Nat} (hb : v.ownBlock = some b) : b < w.heap.size ∧ base ≤ b := by
  rcases h.2 with ⟨rfl, -⟩ | ⟨g, cap, cur, rfl, hg, hh, r⟩
  · cases hb
  · cases hb
    exact ⟨lt_of_box hh, hg⟩
end Go.Proofs.YtdfkpjagnndfdaaGreatDoor
/- The document's Apart. -/
namespace Go.Proofs.YtdfkpjagnndfdaaGreatDoor
set_option linter.unusedVariables false
set_option linter.unusedSimpArgs false
open Go.RowKit Go.Fl64

theorem row_ne {w : World} {base n b : Nat} {T : TypeId} {xs : List Value} {v : Value} {cs : Array Value} {fr : Nat × Nat} (h : w.ownsRow base 23 1 v n xs) (hb : w.heap[b]? = some (.cells cs T fr)) (hT : T ≠ 23) : v.ownBlock ≠ some b := by
  rcases h.2 with ⟨rfl, -⟩ | ⟨g, cap, cur, rfl, hg, hh, r⟩
  · simp [Value.ownBlock]
  · intro e
    simp only [Value.ownBlock, Option.some.injEq] at e
    subst e
    rw [hh] at hb
    simp only [Option.some.injEq, Obj.cells.injEq] at hb
    exact hT hb.2.1.symm
theorem fcells_succ (xs : Nat → Nat) (n : Nat) : fcells xs n ++ [.float .f64 (xs n)] = fcells xs (n + 1) := by
  unfold fcells
  rw [List.range_succ, List.map_append]
  rfl

end Go.Proofs.YtdfkpjagnndfdaaGreatDoor
/- The document's Apart, by cases. -/
namespace Go.Proofs.YtdfkpjagnndfdaaGreatDoor
set_option linter.unusedVariables false
set_option linter.unusedSimpArgs false
open Go.RowKit Go.Fl64

theorem tSum_val {xs : Nat → Nat} {len : Nat} (hx : Fls xs len) (hf : ∀ i, i < len → mag (xs i) < 9218868437227405312) (hlen : len ≤ 65536) : ∀ k, k ≤ len → ∃ Z : Int, vz 70000 (tSum xs k).1 (tSum xs k).2.1 (tSum xs k).2.2 = Z * ((UU 70000 : Nat) : Int)
  | 0, _ => ⟨0, by rw [Int.zero_mul]; exact vz_eq_zero.2 rfl⟩
  | k + 1, hk => by
    obtain ⟨Z, hZ⟩ := tSum_val hx hf hlen k (by omega)
    have h1 := tSum_ok xs (k := k) (by omega)
    refine ⟨Z + sv (neg (xs k)) (bv (mag (xs k))), ?_⟩
    show vz 70000 (tS (tSum xs k) (tF (xs k))).1 (tS (tSum xs k) (tF (xs k))).2.1 (tS (tSum xs k) (tF (xs k))).2.2 = _
    rw [vz_tS h1.2 ((tF_fits (xs k)).mono (Int.le_refl _) (by omega)) (fits_low (lo := 0) (hi := 0) h1.1) (fits_low (lo := 0) (hi := 0) (tF_ok _)) (by omega), hZ, vz_num5 (hx k (by omega)) (hf k (by omega)), Int.add_mul]
theorem tSum_ap {xs : Nat → Nat} {len : Nat} (hx : Fls xs len) (hc : chk1 xs len = 0) (hf : mag (nrF (tSum xs len)) < 9218868437227405312) : ∃ Z, Ap (tSum xs len) Z := by
  obtain ⟨g1, g2⟩ := chk1_zero hc
  obtain ⟨Z, hZ⟩ := tSum_val hx g2 g1 len (Nat.le_refl _)
  exact ⟨Z, (tSum_ok xs g1).1, (tSum_ok xs g1).2, hZ, hf⟩
theorem dsgn {t : Bool × Nat × Int} (o : Ok t) : ∃ sg : Int, (sg != 0) = decide (t.2.1 ≠ 0) ∧ ∀ W A, DN W A t → Calls Tryz.prog 14 #[A] W fun r w' => r = .returned (.int .i64 sg) ∧ Below W.heap.size W w' := by
  obtain ⟨f1, f2, f3, -, -⟩ := o.facts
  refine ⟨if dlen t.2.1 = 0 then 0 else if t.1 then -1 else 1, ?_, ?_⟩
  · by_cases h0 : t.2.1 = 0
    · rw [if_pos (dlen_eq_zero.2 h0), decide_eq_false (by simp [h0])]; rfl
    · rw [if_neg (fun e => h0 (dlen_eq_zero.1 e)), decide_eq_true h0]
      cases t.1 <;> rfl
  · rintro W A ⟨ao, cap, rfl, hA⟩
    exact rsgn (by omega)
theorem fin_of6 {a : Nat} (ha : a < 18446744073709551616) (h : mag a < 9218868437227405312) (W : World) : Calls Tryz.prog 10 #[.float .f64 a] W fun r w' => r = .returned (.bool true) ∧ w' = W := by
  have k := Ie.dfinite a ha W
  rw [decide_eq_true (by omega)] at k
  exact k
end Go.Proofs.YtdfkpjagnndfdaaGreatDoor
/- sums.Apart: its errors. -/
namespace Go.Proofs.YtdfkpjagnndfdaaGreatDoor
set_option linter.unusedVariables false
set_option linter.unusedSimpArgs false
open Go.RowKit Go.Fl64

set_option maxHeartbeats 4000000 in
set_option maxRecDepth 200000 in
theorem uapart_err (ao : Option Addr) (len cap : Nat) (c : Int) (w : World) (hc : (c == 0) = false)
    (k : ∀ W g, Below w.heap.size w W → W.cell? ⟨g, 0, none⟩ = some (.slice ao len cap) → Calls Tryz.prog 15 #[.int .i64 2, .slice (some ⟨g, 0, none⟩) 1 1] W fun r w' => r = .returned (.int .i64 c) ∧ Below W.heap.size W w') :
    Calls Tryz.prog 6 #[.slice ao len cap] w fun r w' => r = .returned (.tuple #[.slice none 0 0, .int .i64 c]) ∧ Below w.heap.size w w' := by
  obtain ⟨V, hV⟩ : ∃ V, V = w.alloc (.cells #[.slice ao len cap] 22) := ⟨_, rfl⟩
  have hb : Below w.heap.size w V := by rw [hV]; exact (Below.refl _ _).alloc (Nat.le_refl _) _
  have k1 := k V w.heap.size hb (by unfold World.cell?; rw [hV, heap_alloc_new]; rfl)
  have HB : Hid (Below w.heap.size w V) := hb
  have hc' : (c != 0) = true := by rw [bne, hc]; rfl
  clear k hb
  go_enter Tryz.func6, Tryz.ntmps6
  go_wp2_with fail
  rw [← hV]
  clear hV
  refine k1.mono ?_
  rintro r w1 ⟨rfl, hb1⟩
  have HF : Hid (Below w.heap.size w w1) := HB.out.trans (hb1.mono HB.out.size)
  clear k1 hb1 HB
  go_wp2_with fail
  refine bodyPost_ret (results_tmp2 rfl _ _ _) rfl ?_
  exact ⟨rfl, HF.out⟩

set_option maxHeartbeats 4000000 in
set_option maxRecDepth 200000 in
/-- Apart up to the test whether the sum is too great; what comes after is handed on -/
theorem uapart_run (ao : Option Addr) (len cap F : Nat) (fb : Bool) (ts : Bool × Nat × Int) (w : World) (Post : Value → World → Prop)
    (k : ∀ W g, Below w.heap.size w W → W.cell? ⟨g, 0, none⟩ = some (.slice ao len cap) → Calls Tryz.prog 15 #[.int .i64 2, .slice (some ⟨g, 0, none⟩) 1 1] W fun r w' => r = .returned (.int .i64 0) ∧ Below W.heap.size W w')
    (kT : ∀ W Bs, Below w.heap.size w W → W.cell? ⟨Bs, 0, none⟩ = some (.slice ao len cap) → Calls Tryz.prog 18 #[.func (.func 49) #[] #[.pointer (some ⟨Bs, 0, none⟩)]] W fun r w' => OutA W ts r w')
    (kR : ∀ W A, Below w.heap.size w W → PN W A ts → Calls Tryz.prog 17 #[A, .int .i64 2] W fun r w' => r = .returned (.float .f64 F) ∧ Below W.heap.size W w')
    (kF : ∀ W, Calls Tryz.prog 21 #[.float .f64 F] W fun r w' => r = .returned (.bool fb) ∧ Below W.heap.size W w')
    (kN : fb = false → ∀ W, Below w.heap.size w W → Post (.tuple #[.slice none 0 0, .int .i64 5]) W)
    (kP : fb = true → ∀ W A, Below w.heap.size w W → PN W A ts → Calls Tryz.prog 23 #[A] W fun r w' => ∃ g, r = .returned (.func (.func 53) #[] #[.pointer (some ⟨g, 0, none⟩)]) ∧ Hid (Calls Tryz.prog 22 #[.func (.func 53) #[] #[.pointer (some ⟨g, 0, none⟩)]] w' fun r w'' => ∃ v, r = .returned v ∧ Post (.tuple #[v, .int .i64 0]) w'')) :
    Calls Tryz.prog 6 #[.slice ao len cap] w fun r w' => ∃ v, r = .returned v ∧ Post v w' := by
  obtain ⟨V, hV⟩ : ∃ V, V = w.alloc (.cells #[.slice ao len cap] 22) := ⟨_, rfl⟩
  have hb : Below w.heap.size w V := by rw [hV]; exact (Below.refl _ _).alloc (Nat.le_refl _) _
  have k1 := k V w.heap.size hb (by unfold World.cell?; rw [hV, heap_alloc_new]; rfl)
  have HB : Hid (Below w.heap.size w V) := hb
  have HT : Hid (∀ W Bs, Below w.heap.size w W → W.cell? ⟨Bs, 0, none⟩ = some (.slice ao len cap) → Calls Tryz.prog 18 #[.func (.func 49) #[] #[.pointer (some ⟨Bs, 0, none⟩)]] W fun r w' => OutA W ts r w') := kT
  have HR : Hid (∀ W A, Below w.heap.size w W → PN W A ts → Calls Tryz.prog 17 #[A, .int .i64 2] W fun r w' => r = .returned (.float .f64 F) ∧ Below W.heap.size W w') := kR
  have HFi : Hid (∀ W, Calls Tryz.prog 21 #[.float .f64 F] W fun r w' => r = .returned (.bool fb) ∧ Below W.heap.size W w') := kF
  have HN : Hid (fb = false → ∀ W, Below w.heap.size w W → Post (.tuple #[.slice none 0 0, .int .i64 5]) W) := kN
  have HP : Hid (fb = true → ∀ W A, Below w.heap.size w W → PN W A ts → Calls Tryz.prog 23 #[A] W fun r w' => ∃ g, r = .returned (.func (.func 53) #[] #[.pointer (some ⟨g, 0, none⟩)]) ∧ Hid (Calls Tryz.prog 22 #[.func (.func 53) #[] #[.pointer (some ⟨g, 0, none⟩)]] w' fun r w'' => ∃ v, r = .returned v ∧ Post (.tuple #[v, .int .i64 0]) w'')) := kP
  clear k hb kT kR kF kN kP
  go_enter Tryz.func6, Tryz.ntmps6
  go_wp2_with fail
  rw [← hV]
  clear hV
  refine k1.mono ?_
  rintro r w2 ⟨rfl, hb1⟩
  have HF2 : Hid (Below w.heap.size w w2) := HB.out.trans (hb1.mono HB.out.size)
  clear k1 hb1 HB
  have k3 := ufloats ao len cap w2
  go_wp2_with fail
  refine k3.mono ?_
  rintro r w3 ⟨rfl, hw⟩
  have hb3 : Below w2.heap.size w2 w3 := by rw [hw]; exact (Below.refl _ _).alloc (Nat.le_refl _) _
  have c1 : w3.cell? ⟨w2.heap.size, 0, none⟩ = some (.slice ao len cap) := by unfold World.cell?; rw [hw, heap_alloc_new]; rfl
  have HF3 : Hid (Below w.heap.size w w3) := HF2.out.trans (hb3.mono HF2.out.size)
  have k4 := HT.out w3 w2.heap.size HF3.out c1
  clear k3 hw hb3 c1 HF2
  generalize w2.heap.size = g2 at *
  go_wp2_with fail
  refine k4.mono ?_
  rintro r w4 ⟨s4, ao4, n4, cap4, ex4, rfl, hP4, hb4⟩
  obtain ⟨X, hX⟩ : ∃ X, X = w4.alloc (.cells #[.bool s4, .slice ao4 n4 cap4, .int .i64 ex4] 43) := ⟨_, rfl⟩
  have hbX : Below w4.heap.size w4 X := by rw [hX]; exact (Below.refl _ _).alloc (Nat.le_refl _) _
  have hbx : X.heap[w4.heap.size]? = some (.cells #[.bool s4, .slice ao4 n4 cap4, .int .i64 ex4] 43 (0, 0)) := by rw [hX]; exact heap_alloc_new _ _
  have hb5 : Below w.heap.size w X := (HF3.out.trans (hb4.mono HF3.out.size)).trans (hbX.mono (HF3.out.trans (hb4.mono HF3.out.size)).size)
  have hPX := hP4.later hbX
  obtain ⟨⟨a0, a1, a2⟩, -⟩ := box_cells hbx
  have k5 := HR.out X _ hb5 hPX
  have HF5 : Hid (Below w.heap.size w X) := hb5
  clear k4 hP4 hb4 HF3 HT HR hbX hb5
  go_wp2_with fail
  rw [← hX]
  clear hX
  generalize w4.heap.size = g4 at *
  go_wp2_with fail
  refine k5.mono ?_
  rintro r w6 ⟨rfl, hb6⟩
  have k6 := HFi.out w6
  have HF6 : Hid (Below w.heap.size w w6 ∧ w6.heap[g4]? = some (.cells #[.bool s4, .slice ao4 n4 cap4, .int .i64 ex4] 43 (0, 0)) ∧ PN w6 (.agg #[.bool s4, .slice ao4 n4 cap4, .int .i64 ex4]) ts) := ⟨HF5.out.trans (hb6.mono HF5.out.size), box_later hbx hb6 (lt_of_box hbx), hPX.later hb6⟩
  clear k5 hb6 HFi HF5 hbx hPX a0 a1 a2
  cases fb
  · go_wp2_with fail
    refine k6.mono ?_
    rintro r w7 ⟨rfl, hb7⟩
    have HF7 : Hid (Below w.heap.size w w7) := HF6.out.1.trans (hb7.mono HF6.out.1.size)
    clear k6 hb7 HF6
    go_wp2_with fail
    refine bodyPost_ret (results_tmp2 rfl _ _ _) rfl ?_
    exact ⟨_, rfl, HN.out trivial _ HF7.out⟩
  · go_wp2_with fail
    refine k6.mono ?_
    rintro r w7 ⟨rfl, hb7⟩
    have hF7 : Below w.heap.size w w7 := HF6.out.1.trans (hb7.mono HF6.out.1.size)
    have hbx7 := box_later HF6.out.2.1 hb7 (lt_of_box HF6.out.2.1)
    obtain ⟨⟨a0, a1, a2⟩, -⟩ := box_cells hbx7
    have k7 := HP.out trivial w7 _ hF7 (HF6.out.2.2.later hb7)
    clear k6 hb7 HF6 hbx7 hF7 HP
    go_wp2_with fail
    refine k7.mono ?_
    rintro r w8 ⟨g, rfl, HC⟩
    have k8 := HC.out
    clear k7 a0 a1 a2 HC
    go_wp2_with fail
    refine k8.mono ?_
    rintro r w9 ⟨v, rfl, hpost⟩
    have HPo : Hid (Post (.tuple #[v, .int .i64 0]) w9) := hpost
    clear k8 hpost
    go_wp2_with fail
    refine bodyPost_ret (results_tmp2 rfl _ _ _) rfl ?_
    exact ⟨_, rfl, HPo.out⟩
end Go.Proofs.YtdfkpjagnndfdaaGreatDoor
/- sums.taken answers with digits in a block of its own. -/
namespace Go.Proofs.YtdfkpjagnndfdaaGreatDoor
set_option linter.unusedVariables false
set_option linter.unusedSimpArgs false
open Go.RowKit Go.Fl64

set_option maxHeartbeats 8000000 in
set_option maxRecDepth 200000 in
theorem utaken_f (Fr : Bool → Option Addr → Nat → Nat → Int → Prop) (s1 : Bool) (ao1 : Option Addr) (n1 cap1 : Nat) (ex1 : Int) (f : Nat) (ta tb t : Bool × Nat × Int) (w : World) (hA : PN w (.agg #[.bool s1, .slice ao1 n1 cap1, .int .i64 ex1]) ta)
    (kE : ∀ W, Below w.heap.size w W → Calls Tryz.prog 50 #[.float .f64 f] W fun r w' => OutA W tb r w')
    (kS : ∀ W X Y, Below w.heap.size w W → PN W X ta → PN W Y tb → Calls Tryz.prog 70 #[X, Y] W fun r w' => ∃ s ao n cap e, r = .returned (.tuple #[.agg #[.bool s, .slice ao n cap, .int .i64 e], .int .i64 0]) ∧ PN w' (.agg #[.bool s, .slice ao n cap, .int .i64 e]) t ∧ Below W.heap.size W w' ∧ Fr s ao n cap e) :
    Calls Tryz.prog 55 #[.agg #[.bool s1, .slice ao1 n1 cap1, .int .i64 ex1], .float .f64 f] w fun r w' => ∃ s ao n cap e, r = .returned (.agg #[.bool s, .slice ao n cap, .int .i64 e]) ∧ PN w' (.agg #[.bool s, .slice ao n cap, .int .i64 e]) t ∧ Below w.heap.size w w' ∧ Fr s ao n cap e := by
  obtain ⟨W, hW⟩ : ∃ W, W = (w.alloc (.cells #[.bool s1, .slice ao1 n1 cap1, .int .i64 ex1] 43)).alloc (.cells #[.bool false, .slice none 0 0, .int .i64 0] 43) := ⟨_, rfl⟩
  have hgA : W.heap[w.heap.size]? = some (.cells #[.bool s1, .slice ao1 n1 cap1, .int .i64 ex1] 43 (0, 0)) := by rw [hW]; exact (Below.heap_alloc _ _ _ (by simp)).trans (heap_alloc_new _ _)
  have hgZ : W.heap[w.heap.size + 1]? = some (.cells #[.bool false, .slice none 0 0, .int .i64 0] 43 (0, 0)) := by
    rw [hW]; have := heap_alloc_new (w.alloc (.cells #[.bool s1, .slice ao1 n1 cap1, .int .i64 ex1] 43)) (.cells #[.bool false, .slice none 0 0, .int .i64 0] 43); rwa [World.size_alloc] at this
  have hBW : Below w.heap.size w W := by rw [hW]; exact (((Below.refl _ w).alloc (Nat.le_refl _) _).alloc (by simp) _)
  have HX : Hid (Below w.heap.size w W ∧ W.heap[w.heap.size]? = some (.cells #[.bool s1, .slice ao1 n1 cap1, .int .i64 ex1] 43 (0, 0)) ∧ W.heap[w.heap.size + 1]? = some (.cells #[.bool false, .slice none 0 0, .int .i64 0] 43 (0, 0)) ∧ PN W (.agg #[.bool s1, .slice ao1 n1 cap1, .int .i64 ex1]) ta) := ⟨hBW, hgA, hgZ, hA.later hBW⟩
  have HK : Hid (∀ w', Below W.heap.size W w' → ((w'.cell? ⟨w.heap.size, 0, none⟩ = some (.bool s1) ∧ w'.cell? ⟨w.heap.size, 1, none⟩ = some (.slice ao1 n1 cap1) ∧ w'.cell? ⟨w.heap.size, 2, none⟩ = some (.int .i64 ex1))) ∧ Below W.heap.size W w') := fun w' hb => ⟨(box_cells (box_later HX.out.2.1 hb (lt_of_box HX.out.2.1))).1, hb⟩
  have hBR : Below W.heap.size W W.drew := (Below.refl _ _).drew
  have km : ∀ w4, Below W.heap.size W w4 → Calls Tryz.prog 50 #[.float .f64 f] w4 fun r w' => ∃ s ao n cap e, r = .returned (.agg #[.bool s, .slice ao n cap, .int .i64 e]) ∧ PN w' (.agg #[.bool s, .slice ao n cap, .int .i64 e]) tb ∧ Below W.heap.size W w' ∧ Hid (∀ g o, w4.heap[g]? = some o → w'.heap[g]? = some o) := fun w4 hb =>
    (kE w4 (HX.out.1.trans (hb.mono HX.out.1.size))).mono fun r w' ⟨s, ao, n, cap, e, e1, o1, o2⟩ => ⟨s, ao, n, cap, e, e1, o1, hb.trans (o2.mono hb.size), fun g o hg => box_later hg o2 (lt_of_box hg)⟩
  have kt : ∀ w4 Y, Below W.heap.size W w4 → PN w4 Y tb → Calls Tryz.prog 70 #[.agg #[.bool s1, .slice ao1 n1 cap1, .int .i64 ex1], Y] w4 fun r w' => ∃ s ao n cap e, r = .returned (.tuple #[.agg #[.bool s, .slice ao n cap, .int .i64 e], .int .i64 0]) ∧ PN w' (.agg #[.bool s, .slice ao n cap, .int .i64 e]) t ∧ Below W.heap.size W w' ∧ Hid (∀ g o, w4.heap[g]? = some o → w'.heap[g]? = some o) ∧ Hid (Fr s ao n cap e) := fun w4 Y hb h2 =>
    (kS w4 _ _ (HX.out.1.trans (hb.mono HX.out.1.size)) (HX.out.2.2.2.later hb) h2).mono fun r w' ⟨s, ao, n, cap, e, e1, o1, o2, o3⟩ => ⟨s, ao, n, cap, e, e1, o1, hb.trans (o2.mono hb.size), fun g o hg => box_later hg o2 (lt_of_box hg), o3⟩
  obtain ⟨⟨a0, a1, a2⟩, -⟩ := HK.out W (Below.refl _ _)
  clear kE kS hgA hgZ hBW hA
  go_enter Tryz.func55, Tryz.ntmps55
  go_upto_region 1 with fail
  rw [← hW]
  clear hW
  go_cut [5] from 6 to 13 (fun p wx => ∃ g s ao n cap ex, p = .pointer (some ⟨g, 0, none⟩) ∧ Hid (UxP W wx g s ao n cap ex t) ∧ Hid (Fr s ao n cap ex))
  case first =>
    go_region_held3 (fun w' => ((w'.cell? ⟨w.heap.size, 0, none⟩ = some (.bool s1) ∧ w'.cell? ⟨w.heap.size, 1, none⟩ = some (.slice ao1 n1 cap1) ∧ w'.cell? ⟨w.heap.size, 2, none⟩ = some (.int .i64 ex1))) ∧ Below W.heap.size W w') (first | (with_reducible assumption) | exact ⟨⟨a0, a1, a2⟩, hBR⟩ | (refine HK.out _ ?_; with_reducible assumption) | (refine HK.out _ ?_; refine Below.alloc (by with_reducible assumption) (Below.size (by with_reducible assumption)) _) | (refine HK.out _ (below_store3 (by first | (with_reducible assumption) | exact hb7.alloc hb7.size _) (by first | exact Nat.le_refl _ | exact hb5.size | exact hb7.size) _ _ _)) | go_keep)
      (first | (go_at_call 50; refine (km _ (by first | (with_reducible assumption) | exact hBR.alloc hBR.size _)).mono ?_; rintro r w5 ⟨s5, ao5, n5, cap5, ex5, rfl, ho5, hb5, hk5⟩; first | (have HBY : Hid (w5.heap[W.heap.size]? = some (.cells #[.bool false, .slice none 0 0, .int .i64 0] 43 (0, 0))) := hk5.out _ _ (heap_alloc_new W.drew _)) | (have HBY : Hid True := trivial))
             | (go_at_call 70; refine (kt _ _ (by first | (with_reducible assumption) | exact hb5.alloc hb5.size _) (by first | (with_reducible assumption) | exact ho5.later ((Below.refl _ _).alloc (Nat.le_refl _) _))).mono ?_; rintro r w7 ⟨s7, ao7, n7, cap7, ex7, rfl, hn7, hb7, hk7, hf7⟩; first | (have HBZ := hidOf (hk7.out _ _ HBY.out); obtain ⟨⟨x1, x2, x3⟩, x4, x5, x6⟩ := box_cells HBZ.out) | (have HBZ : Hid (w7.heap[w5.heap.size]? = some (.cells #[.bool false, .slice none 0 0, .int .i64 0] 43 (0, 0))) := hk7.out _ _ (heap_alloc_new w5 _); obtain ⟨⟨x1, x2, x3⟩, x4, x5, x6⟩ := box_cells HBZ.out) | (have HBZ : Hid True := trivial)))
    all_goals go_wp2_with fail
    all_goals go_meet
    all_goals first
      | exact ⟨_, _, _, _, _, _, rfl, UxP.new hn7 hb7, hf7⟩
      | exact ⟨_, _, _, _, _, _, rfl, UxP.put hn7 hb7 hb5.size HBZ.out, hf7⟩
      | exact ⟨_, _, _, _, _, _, rfl, UxP.put hn7 hb7 (Nat.le_refl _) HBZ.out, hf7⟩
  case rest =>
    obtain ⟨W2, rfl⟩ : ∃ W2 : World, W2 = wc := ⟨_, rfl⟩
    obtain ⟨g4, s4, ao4, n4, cap4, ex4, rfl, HR, HFr⟩ := hcut
    clear km kt HK hBR a0 a1 a2
    have HS : Hid (Below w.heap.size w W2 ∧ W2.heap[w.heap.size + 1]? = some (.cells #[.bool false, .slice none 0 0, .int .i64 0] 43 (0, 0)) ∧ W2.heap[g4]? = some (.cells #[.bool s4, .slice ao4 n4 cap4, .int .i64 ex4] 43 (0, 0)) ∧ PN W2 (.agg #[.bool s4, .slice ao4 n4 cap4, .int .i64 ex4]) t) :=
      ⟨HX.out.1.trans (HR.out.2.2.1.mono HX.out.1.size), box_later HX.out.2.2.1 HR.out.2.2.1 (lt_of_box HX.out.2.2.1), HR.out.1, HR.out.2.2.2⟩
    clear HX HR
    obtain ⟨⟨d0, d1, d2⟩, -⟩ := box_cells HS.out.2.2.1
    obtain ⟨⟨z0, z1, z2⟩, z3, z4, z5⟩ := box_cells HS.out.2.1
    go_wp2_with fail
    refine bodyPost_ret (results_cell_row rfl _ _ (w.heap.size + 1) 43 #[.bool s4, .slice ao4 n4 cap4, .int .i64 ex4] (0, 0) _ rfl (store3 _ _ _ HS.out.2.1) Tryz.underlying43 rfl Tryz.info43) rfl ?_
    exact ⟨_, _, _, _, _, rfl, pn_store HS.out.2.2.2 HS.out.2.1 _ _ _, below_store3 HS.out.1 (by omega) _ _ _, HFr.out⟩

theorem nrm_fresh {w : World} {base : Nat} {s s' : Bool} {z n cap : Nat} {e e' : Int} {ao : Option Addr} (h : Nrm w base (.agg #[.bool s', .slice ao n cap, .int .i64 e']) s z e) : ∀ ad : Addr, ao = some ad → 0 < n → base ≤ ad.block := by
  intro ad h1 h2
  rcases h with ⟨-, h⟩ | ⟨-, v, h, h3⟩
  · unfold NumV at h
    simp only [Value.agg.injEq, Array.mk.injEq, List.cons.injEq, Value.bool.injEq, Value.slice.injEq, Value.int.injEq, and_true, true_and] at h
    have := h.2.1.2.1
    omega
  · unfold NumV at h
    simp only [Value.agg.injEq, Array.mk.injEq, List.cons.injEq, Value.bool.injEq, Value.int.injEq, and_true, true_and] at h
    obtain ⟨-, rfl, -⟩ := h
    rcases h3 with ⟨h4, -⟩ | ⟨g, cap', f, h4, h5, -⟩
    · simp only [Value.slice.injEq] at h4
      omega
    · simp only [Value.slice.injEq] at h4
      obtain ⟨rfl, -⟩ := h4
      cases h1
      exact h5
theorem utaken_fresh {t : Bool × Nat × Int} {Z : Int} (h : Ap t Z) {A : Value} {w : World} (hT : Tab32 w) (hI : Ie.Tab w) (hA : PN w A t) :
    Calls Tryz.prog 55 #[A, .float .f64 (nrF t)] w fun r w' => ∃ s ao n cap e, r = .returned (.agg #[.bool s, .slice ao n cap, .int .i64 e]) ∧ PN w' (.agg #[.bool s, .slice ao n cap, .int .i64 e]) (nxT t) ∧ Below w.heap.size w w' ∧ ∀ ad : Addr, ao = some ad → 0 < n → w.heap.size ≤ ad.block := by
  obtain ⟨s, ao, n, cap, e, rfl⟩ := hA.shape
  refine utaken_f (fun _ ao n _ _ => ∀ ad : Addr, ao = some ad → 0 < n → w.heap.size ≤ ad.block) s ao n cap e (nrF t) t (tF (nrF t)) _ w hA (fun W hb => uexact_ok _ (nrF_lt t) h.fin W (hT.later hb) (Tab.later hI hb)) (fun W X Y hb hX hY => ?_)
  obtain ⟨ua, uc, rfl, i1⟩ := hX
  obtain ⟨va, vc, rfl, i2⟩ := hY
  obtain ⟨a1, a2, a3, -, -⟩ := h.ok.facts
  obtain ⟨b1, b2, b3, -, -⟩ := (tF_ok (nrF t)).facts
  refine (sub_ok i1 i2 (by omega) (by omega) (by omega) (by omega) h.ok (tF_ok _) (hT.later hb)).mono fun r w' hh => ?_
  obtain ⟨A, rfl, hN, hb'⟩ := hh
  rw [nxT_okR h.fits]
  have hp := hN.pn
  obtain ⟨s', ao', n', cap', e', rfl⟩ := hp.shape
  exact ⟨s', ao', n', cap', e', rfl, hp, hb', fun ad h1 h2 => Nat.le_trans hb.size (nrm_fresh hN ad h1 h2)⟩
end Go.Proofs.YtdfkpjagnndfdaaGreatDoor
/- A range over a function that writes what it captured, and carries what it made over the rounds. -/
namespace Go.Proofs.YtdfkpjagnndfdaaGreatDoor
set_option linter.unusedVariables false
set_option linter.unusedSimpArgs false
open Go Go.RowKit

theorem range_pre2 {F : Fence} {n : Nat} {P : Program} {g : Operand} {ps : Array Tmp} {assign body : Code} {Q : Exit → Act → World → Prop} {a : Act} {w : World}
    (hro : F.round = none) (h1 : 1 ≤ n) {gf : Nat} {lb : Array Value} (hg : a.eval g = .func (.func gf) #[] lb) (hFg : F.fn gf) (eg : ∀ args w, (callFunc gf args).run P w = .ok (.enter gf args) w)
    (hps : ps.size = 1) {N n₀ : Nat} (hn₀ : n₀ ≤ w.heap.size) (BX : World → World → Prop) (hBX : ∀ A B, Below A.heap.size A B → BX A B) (hBl : ∀ A B l o, BX A B → w.heap.size ≤ l → A.heap[l]? = some o → o.isCells = false → B.heap[l]? = some o) {Pre : Nat → Value → World → Prop}
    (hseq : ∀ (l : Nat) (J : Nat → World → Prop) (W : World), Below n₀ w W →
      (∀ k v A W', J k A → BX A W' → k < N → Pre k v W' → YieldAt F (n - 1 - 1) P l #[v] W' fun e W'' => e = .returned (.bool true) ∧ J (k + 1) W'' ∧ Below n₀ W' W'' ∧ ∀ b c T f, A.heap.size ≤ b → W'.heap[b]? = some (.cells c T f) → W''.heap[b]? = some (.cells c T f)) → J 0 W →
      CallsIn F (n - 1) P gf (#[.func (.yield l) #[] #[]] ++ lb) W fun e W' => (∃ v, e = .returned v) ∧ ∃ A, J N A ∧ BX A W')
    (I : Nat → Nat → World → Prop) (hIb : ∀ k m A B, I k m A → BX A B → I k m B) (hIm : ∀ k m m' A, I k m A → m ≤ m' → I k m' A)
    (hIp : ∀ k m A l o o', I k m A → w.heap.size ≤ l → A.heap[l]? = some o → o.isCells = false → I k m (A.putObj l o')) (h0 : I 0 w.heap.size w)
    (Ax : Nat → Act → World → Prop) (hAp : ∀ k a' A l o o', Ax k a' A → w.heap.size ≤ l → A.heap[l]? = some o → o.isCells = false → Ax k a' (A.putObj l o'))
    (hassign : ∀ (l k : Nat) (v : Value) (W : World) (m : Nat) (K : Act → World → Prop), I k m W → k < N → Pre k v W → (∀ a' W', Below W.heap.size W W' → Ax k a' W' → K a' W') →
      assign.wpIn (F.inRound l) (n - 1 - 1) P (Exit.then K (fun _ _ _ => False)) { tmps := (ps.zip #[v]).foldl (fun t (p, v) => t.setIfInBounds p v) a.tmps, defers := [] } W)
    (hbody : ∀ (l k m : Nat) (a' : Act) (W : World), I k m W → k < N → Ax k a' W → body.wpIn (F.inRound l) (n - 1 - 1) P (fun e _ W' => e = .normal ∧ KeepsFrom w.heap.size W W' ∧ Below n₀ W W' ∧ I (k + 1) W'.heap.size W' ∧ ∀ b c T f, m ≤ b → W.heap[b]? = some (.cells c T f) → W'.heap[b]? = some (.cells c T f)) a' W)
    (hdone : ∀ (D : Nat) (W : World), w.heap.size ≤ D → (∃ m, I N m W) → W.heap[D]? = some (.deferred (some [])) → Q .normal { a with defers := { target := .collected D, args := #[] } :: a.defers } W) :
    (Code.rangeFunc g ps assign body).wpIn F n P Q a w := by
  refine wpIn_rangeFunc ?_
  intro fn hfn
  rw [hro]
  obtain ⟨rec, hrec⟩ : ∃ rec : LoopState → Option Code → Loop, rec = fun st pe => { state := st, pending := pe, fn, tmps := a.tmps, params := ps, assign, body, defers := w.heap.size } := ⟨_, rfl⟩
  obtain ⟨W1, hW1⟩ : ∃ W1, (w.alloc (.deferred (some []))).alloc (.loop (rec .ready none)) = W1 := ⟨_, rfl⟩
  have hL1 : W1.heap[w.heap.size + 1]? = some (.loop (rec .ready none)) := by
    rw [← hW1]; have := World.alloc_heap_new (w.alloc (.deferred (some []))) (.loop (rec .ready none)); rwa [World.size_alloc] at this
  have hK1 : W1.heap[w.heap.size]? = some (.deferred (some [])) := by
    rw [← hW1]; exact (Below.heap_alloc _ _ _ (by simp)).trans (World.alloc_heap_new w _)
  have hb1 : Below w.heap.size w W1 := by
    rw [← hW1]; exact (((Below.refl _ w).alloc (Nat.le_refl _) _).alloc (by simp) _)
  have hI1 : I 0 W1.heap.size W1 := hIm 0 _ _ _ (hIb 0 _ w W1 h0 (hBX _ _ hb1)) hb1.size
  have put : ∀ (W : World) (o' : Obj) (o : Obj) (l : Nat), w.heap.size ≤ l → W.heap[l]? = some o → Below n₀ W (W.putObj l o') := fun W o' o l hl h =>
    (Below.refl n₀ W).grown (grownBy_putObj' W l o') (by have := (Array.getElem?_eq_some_iff.1 h).1; omega) (fun k e => by cases e; omega)
  refine ⟨w.heap.size + 1, [{ target := .collected w.heap.size, args := #[] }], W1, { target := .fn (.func gf) lb, args := #[.func (.yield (w.heap.size + 1)) #[] #[]] }, W1, gf,
    #[.func (.yield (w.heap.size + 1)) #[] #[]] ++ lb, W1, ?_, ?_, ?_, ?_, fun _ => h1, ?_⟩
  · rw [← hW1, hrec]; exact run_enterLoop_outer _ _ _ _ _
  · simp only [resolve, hg]
    simp [go_sem]
  · intro f' hf'; simp [Target.leads] at hf'; subst hf'; exact hFg
  · simp [invoke, go_sem, eg]
  · refine (hseq (w.heap.size + 1)
      (fun k W => I k W.heap.size W ∧ W.heap[w.heap.size + 1]? = some (.loop (rec .ready none)) ∧ W.heap[w.heap.size]? = some (.deferred (some [])))
      W1 (hb1.mono hn₀)
      ?_ ⟨hI1, hL1, hK1⟩).mono ?_
    · rintro k v A W ⟨hi', hl', hk'⟩ hbx hlen hpre
      have hi : I k A.heap.size W := hIb k _ A W hi' hbx
      have hl := hBl A W _ _ hbx (by omega) hl' rfl
      have hk := hBl A W _ _ hbx (Nat.le_refl _) hk' rfl
      have hy := run_yield (P := P) (args := #[v]) hl (by rw [hrec]; show 1 = ps.size; omega)
      rw [hrec] at hy
      refine ⟨fn, _, assign, body, hy, roundIn_of_wpIn hfn (hassign _ k v W _ _ hi hlen hpre ?_)⟩
      clear hy
      intro a' Wa hba hax
      have hla := box_later hl hba (Array.getElem?_eq_some_iff.1 hl).1
      have hka := box_later hk hba (Array.getElem?_eq_some_iff.1 hk).1
      have hlt : w.heap.size + 1 < Wa.heap.size := (Array.getElem?_eq_some_iff.1 hla).1
      have hia := hIb k _ W Wa hi (hBX _ _ hba)
      refine ⟨_, run_beginRound hla (by rw [hrec]), ?_⟩
      have hl2 : (Wa.putObj (w.heap.size + 1) (.loop { rec .ready none with state := .busy })).heap[w.heap.size + 1]? = some (.loop { rec .ready none with state := .busy }) := World.putObj_heap_same hlt
      have hk2 : (Wa.putObj (w.heap.size + 1) (.loop { rec .ready none with state := .busy })).heap[w.heap.size]? = some (.deferred (some [])) := (World.putObj_heap_other (by omega)).trans hka
      have hw2 := put Wa (.loop { rec .ready none with state := .busy }) _ (w.heap.size + 1) (by omega) hla
      refine wpIn_mono (hbody _ k _ a' _ (hIp k _ Wa _ _ _ hia (by omega) hla rfl) hlen (hAp k a' Wa _ _ _ hax (by omega) hla rfl)) ?_
      rintro e a3 W3 ⟨rfl, hk3, hb3, hi3, hc3⟩
      have hl3 := hk3.same _ _ (by omega) hl2 rfl
      have hd3 := hk3.same _ _ (Nat.le_refl _) hk2 rfl
      have hr := run_endRound (P := P) none hl3
      rw [hrec] at hr hl3
      have hl4 := World.putObj_heap_same (o := Obj.loop (rec .ready none)) (Array.getElem?_eq_some_iff.1 hl3).1
      have hb0 : Below n₀ W Wa := hba.mono (by have := (Array.getElem?_eq_some_iff.1 hl).1; omega)
      refine ⟨_, _, hr, rfl, ⟨hIm _ _ _ _ (hIp (k + 1) _ W3 _ _ _ hi3 (by omega) hl3 rfl) (by simp), ?_, (World.putObj_heap_other (by omega)).trans hd3⟩, ((hb0.trans hw2).trans hb3).trans (put W3 _ _ _ (by omega) hl3), ?_⟩
      · rw [hrec] at hl4 ⊢
        exact hl4
      · intro b c T f hmb hbc
        have q1 := box_later hbc hba (Array.getElem?_eq_some_iff.1 hbc).1
        have n1 : b ≠ w.heap.size + 1 := by
          rintro rfl
          rw [hl] at hbc
          cases hbc
        have q2 : (Wa.putObj (w.heap.size + 1) (.loop { rec .ready none with state := .busy })).heap[b]? = some (.cells c T f) := (World.putObj_heap_other (by omega)).trans q1
        have q3 := hc3 b c T f hmb q2
        exact (World.putObj_heap_other (by omega)).trans q3
    · rintro e W2 ⟨⟨v, rfl⟩, A, ⟨hi', hl', hk'⟩, hbx⟩
      have hi : I N A.heap.size W2 := hIb N _ A W2 hi' hbx
      have hl := hBl A W2 _ _ hbx (by omega) hl' rfl
      have hk := hBl A W2 _ _ hbx (Nat.le_refl _) hk' rfl
      exact ⟨none, _, by have := run_endLoop (P := P) hl (by rw [hrec]; simp); rw [hrec] at this; exact this, hdone _ _ (Nat.le_refl _) ⟨_, hIp N _ W2 _ _ _ hi (by omega) hl rfl⟩ ((World.putObj_heap_other (by omega)).trans hk)⟩
end Go.Proofs.YtdfkpjagnndfdaaGreatDoor
/- slices.AppendSeq of floats, over an iterator that writes what it captured. -/
namespace Go.Proofs.YtdfkpjagnndfdaaGreatDoor
set_option linter.unusedVariables false
set_option linter.unusedSimpArgs false
open Go Go.RowKit Go.Fl64 Go.Shelf
attribute [local go_sem] Oper.semAt_some

/-- below the heap's end nothing but one block has changed -/
structure BelX (Bp : Nat) (A B : World) : Prop where
  os : B.os = A.os
  tape : B.tape = A.tape
  output : B.output = A.output
  size : A.heap.size ≤ B.heap.size
  block : ∀ b, b < A.heap.size → b ≠ Bp → B.heap[b]? = A.heap[b]?
theorem Below.belX {Bp : Nat} {A B : World} (h : Below A.heap.size A B) : BelX Bp A B := ⟨h.os, h.tape, h.output, h.size, fun b hb _ => h.block b hb⟩
theorem BelX.trans {Bp : Nat} {A B C : World} (h : BelX Bp A B) (h' : BelX Bp B C) : BelX Bp A C := ⟨h'.os.trans h.os, h'.tape.trans h.tape, h'.output.trans h.output, Nat.le_trans h.size h'.size, fun b hb hn => (h'.block b (Nat.lt_of_lt_of_le hb h.size) hn).trans (h.block b hb hn)⟩

/-- what holds between two rounds of AppendSeq -/
def Seq5 (R : World → Prop) (n0 g2 : Nat) (f : Nat → Nat) (k m : Nat) (W : World) : Prop :=
  ∃ v, W.heap[g2]? = some (.cells #[v] 22 (0, 0)) ∧ W.ownsRow n0 23 1 v k (fcells f k) ∧ g2 < m ∧ (∀ b, v.ownBlock = some b → b < m) ∧ R W
theorem row_belX {Bp : Nat} {A B : World} {base n : Nat} {xs : List Value} {v : Value} (h : A.ownsRow base 23 1 v n xs) (hb : BelX Bp A B) (hp : Bp < base) : B.ownsRow base 23 1 v n xs := by
  obtain ⟨h1, h2⟩ := h
  refine ⟨h1, ?_⟩
  rcases h2 with h2 | ⟨g, cap, cur, hv, hg, hh, r⟩
  · exact .inl h2
  · exact .inr ⟨g, cap, cur, hv, hg, (hb.block g (lt_of_box hh) (by omega)).trans hh, r⟩
theorem row_put {A : World} {base n l : Nat} {xs : List Value} {v : Value} {o : Obj} (o' : Obj) (h : A.ownsRow base 23 1 v n xs) (ho : A.heap[l]? = some o) (hc : o.isCells = false) : (A.putObj l o').ownsRow base 23 1 v n xs := by
  obtain ⟨h1, h2⟩ := h
  refine ⟨h1, ?_⟩
  rcases h2 with h2 | ⟨g, cap, cur, hv, hg, hh, r⟩
  · exact .inl h2
  · exact .inr ⟨g, cap, cur, hv, hg, box_put hh ho hc, r⟩

theorem fat_put {A : World} {ao : Option Addr} {n l : Nat} {xs : Nat → Nat} {o : Obj} (o' : Obj) (h : FAt A ao n xs) (ho : A.heap[l]? = some o) (hc : o.isCells = false) : FAt (A.putObj l o') ao n xs := by
  obtain ⟨b, off, h1, h2⟩ := h
  refine ⟨b, off, h1, fun j hj => ?_⟩
  have h3 := h2 j hj
  have hne : b ≠ l := by
    rintro rfl
    unfold World.cell? at h3
    rw [ho] at h3
    cases o <;> simp_all [Obj.isCells]
  rw [← h3]
  exact World.cell?_of_block (World.putObj_heap_other (by omega))
theorem row_notcells {W : World} {base n l : Nat} {xs : List Value} {v : Value} {o : Obj} (h : W.ownsRow base 23 1 v n xs) (ho : W.heap[l]? = some o) (hc : o.isCells = false) : v.ownBlock ≠ some l := by
  rcases h.2 with ⟨rfl, -⟩ | ⟨g, cap, cur, rfl, hg, hh, r⟩
  · simp [Value.ownBlock]
  · intro e
    simp only [Value.ownBlock, Option.some.injEq] at e
    subst e
    rw [hh] at ho
    cases ho
    cases hc
set_option maxRecDepth 200000 in
set_option maxHeartbeats 4000000 in
theorem appendseq_gen (gf Bp : Nat) (lb : Array Value) (len : Nat) (f : Nat → Nat) (R : World → Prop) (w : World) (hBp : Bp < w.heap.size) (hlen : len ≤ 1000000)
    (hRx : ∀ A B, R A → BelX Bp A B → R B) (hRn : ∀ A B, R A → Below w.heap.size A B → R B) (hR0 : R w)
    (eg : ∀ args w, (callFunc gf args).run Tryz.prog w = .ok (.enter gf args) w)
    (hseq : ∀ (l : Nat) (J : Nat → World → Prop) (W : World), Below w.heap.size w W →
      (∀ k v A W', J k A → BelX Bp A W' → k < len → v = .float .f64 (f k) → YieldAt Fence.wide 1 Tryz.prog l #[v] W' fun e W'' => e = .returned (.bool true) ∧ J (k + 1) W'' ∧ Below w.heap.size W' W'' ∧ ∀ b c T q, A.heap.size ≤ b → W'.heap[b]? = some (.cells c T q) → W''.heap[b]? = some (.cells c T q)) → J 0 W →
      CallsIn Fence.wide 2 Tryz.prog gf (#[.func (.yield l) #[] #[]] ++ lb) W fun e W' => (∃ v, e = .returned v) ∧ ∃ A, J len A ∧ BelX Bp A W') :
    Calls Tryz.prog 52 #[.slice none 0 0, .func (.func gf) #[] lb] w fun r w' => ∃ ao cap, r = .returned (.slice ao len cap) ∧ FAt w' ao len f ∧ len ≤ cap ∧ R w' := by
  obtain ⟨V, hV⟩ : ∃ V, V = w.alloc (.cells #[.slice none 0 0] 22) := ⟨_, rfl⟩
  have hbV : Below w.heap.size w V := by rw [hV]; exact (Below.refl _ _).alloc (Nat.le_refl _) _
  have hsz : V.heap.size = w.heap.size + 1 := by rw [hV]; simp
  have HI : Hid (Seq5 R w.heap.size w.heap.size f 0 V.heap.size V) := ⟨.slice none 0 0, by rw [hV]; exact heap_alloc_new _ _, World.ownsRow_nil .., by omega, fun b hb => (by cases hb), hRn _ _ hR0 hbV⟩
  refine (callsIn_wide (n := 3)).1 ?_
  refine callsIn_of_wp_marks Tryz.func52 rfl trivial ?_ rfl
  simp only [Tryz.ntmps52, List.size_toArray, List.length_cons, List.length_nil, Nat.reduceAdd, Nat.reduceSub, Array.replicate_succ, Array.replicate_zero, List.push_toArray, List.append_toArray, List.nil_append, List.cons_append]
  gi_wp2
  rw [← hV]
  generalize hg2 : w.heap.size = g2 at *
  refine range_pre2 rfl (by omega) (gf := gf) (lb := lb) rfl trivial eg rfl (N := len) (n₀ := g2) (by omega) (BelX Bp) (fun A B h => Below.belX h)
    (fun A B l o h hl ho hc => (h.block l (lt_of_box ho) (by omega)).trans ho)
    (Pre := fun k v W' => v = .float .f64 (f k)) ?seq (Seq5 R g2 g2 f) ?ib ?im ?ip HI.out
    (fun k a' W' => a' = { tmps := #[.slice none 0 0, .func (.func gf) #[] lb, .pointer (some ⟨g2, 0, none⟩), undef, .slice none 0 0, .float .f64 (f k), .func (.func gf) #[] lb, .float .f64 (f k), undef, undef, undef, undef, undef], defers := [] })
    ?put ?assign ?body ?done
  case seq =>
    intro l J W' hbW hY h0
    exact hseq l J W' (hbV.trans hbW) hY h0
  case ib =>
    rintro k m A B ⟨v, h1, h2, h3, h4, h6⟩ hb
    exact ⟨v, (hb.block g2 (lt_of_box h1) (by omega)).trans h1, row_belX h2 hb (by omega), h3, h4, hRx _ _ h6 hb⟩
  case im =>
    rintro k m m' A ⟨v, h1, h2, h3, h4, h6⟩ hm
    exact ⟨v, h1, h2, by omega, fun b hb => Nat.lt_of_lt_of_le (h4 b hb) hm, h6⟩
  case ip =>
    rintro k m A l o o' ⟨v, h1, h2, h3, h4, h6⟩ hl ho hc
    have hbp : Below g2 A (A.putObj l o') := (Below.refl g2 A).grown (grownBy_putObj' A l o') (by have := (Array.getElem?_eq_some_iff.1 ho).1; omega) (fun k e => by cases e; omega)
    exact ⟨v, box_put h1 ho hc, row_put o' h2 ho hc, h3, h4, hRn _ _ h6 hbp⟩
  case put =>
    rintro k a' A l o o' h hl ho hc
    exact h
  case assign =>
    intro l k v W' m K hi hk hpre hK
    subst hpre
    have hq := hK _ W' (Below.refl _ _) rfl
    clear hK hi
    gi_wp2
    exact hq
  case body =>
    rintro l k m a' W' ⟨v, h1, h2, h3, h4, h6⟩ hk rfl
    have hcv : W'.cell? ⟨g2, 0, none⟩ = some v := cell_of_one h1
    have hgs : g2 ≤ W'.heap.size := Nat.le_of_lt (lt_of_box h1)
    obtain ⟨i0, hi0, hz0, hz1, hz2⟩ := info_parts info_f64
    gi_wp2_with (gi_at_builtin; refine wpListIn_append_own _ rfl _ _ 22 rfl g2 23 i0 (.float .f64 0) 1 8 Tryz.underlying22 hi0 hz0 hz1 hz2 rfl (by decide) _ _ _ rfl (h2.alloc _) ⟨W'.heap.size, 0, none⟩ 1 1 [.float .f64 (f k)] rfl rfl (cell_one_new _ _ _) (by intro u hu; simp at hu; subst hu; rfl) (by unfold maxLen; omega) (by omega) (by simp; omega) ?_)
    intro v' w4 hown4 hgrow _
    rw [fcells_succ] at hown4
    have hal : Below W'.heap.size W' (W'.alloc (.cells #[.float .f64 (f k)] 23)) := (Below.refl _ _).alloc (Nat.le_refl _) _
    have hgne : v.ownBlock ≠ some g2 := row_ne h2 h1 (by decide)
    have kept : ∀ b o, b ≠ g2 → v.ownBlock ≠ some b → W'.heap[b]? = some o → w4.heap[b]? = some o := fun b o _ hn ho => (hgrow.block b (by have := lt_of_box ho; simp; omega) (fun e => hn e.symm)).trans (box_later ho hal (lt_of_box ho))
    have h14 : w4.heap[g2]? = some (.cells #[v] 22 (0, 0)) := (hgrow.block g2 (by have := lt_of_box h1; simp; omega) (fun e => hgne e.symm)).trans (box_later h1 hal (lt_of_box h1))
    have hc4 := cell_of_one h14
    have hf4 := free_of_one h14
    have hgne' : v'.ownBlock ≠ some g2 := row_ne hown4 h14 (by decide)
    have hb4 : Below g2 W' (w4.setCell ⟨g2, 0, none⟩ v') := by
      refine Below.trans (Below.grown (hal.mono hgs) hgrow (by simp; omega) (fun b hb => (row_block h2 hb).2)) ?_
      exact (Below.refl g2 w4).setCell (show g2 ≤ (⟨g2, 0, none⟩ : Addr).block from Nat.le_refl g2) v'
    have HF : Hid (KeepsFrom (g2 + 1) W' (w4.setCell ⟨g2, 0, none⟩ v') ∧ Below g2 W' (w4.setCell ⟨g2, 0, none⟩ v') ∧ Seq5 R g2 g2 f (k + 1) w4.heap.size (w4.setCell ⟨g2, 0, none⟩ v') ∧ ∀ (b : Nat) (c : Array Value) (T : TypeId) (q : Nat × Nat), m ≤ b → W'.heap[b]? = some (.cells c T q) → (w4.setCell ⟨g2, 0, none⟩ v').heap[b]? = some (.cells c T q)) := by
      refine ⟨?_, hb4, ⟨v', ?_, ownsRow_setCell_other hown4 hgne' _, ?_, ?_, hRn _ _ h6 hb4⟩, ?_⟩
      · refine ⟨hb4.size, fun l o hl ho hc => ?_⟩
        rw [Below.heap_setCell _ _ _ _ (by show l ≠ g2; omega)]
        exact kept l o (by omega) (row_notcells h2 ho hc) ho
      · exact one_setCell h14
      · exact lt_of_box h14
      · exact fun b hb => (row_block hown4 hb).1
      · intro b c T q hmb hbc
        rw [Below.heap_setCell _ _ _ _ (by show b ≠ g2; omega)]
        exact kept b _ (by omega) (fun e => by have := h4 b e; omega) hbc
    obtain ⟨g', cap', rfl⟩ : ∃ g' cap', v' = .slice (some ⟨g', 0, none⟩) (k + 1) cap' := by
      rcases hown4.2 with ⟨-, h0⟩ | ⟨g', cap', cur, rfl, -⟩
      · omega
      · exact ⟨g', cap', rfl⟩
    clear hal hgne kept h14 hgne' hb4 hown4 hgrow hcv h1 h2 h3 h4 h6 hi0 hz0 hz1 hz2 hseq hsz
    gi_wp2
    exact ⟨HF.out.1, HF.out.2.1, HF.out.2.2.1, fun b c T x y => HF.out.2.2.2 b c T (x, y)⟩
  case done =>
    intro D W' hD hi hK
    obtain ⟨m, v, h1, h2, h3, h4, h6⟩ := hi
    obtain ⟨ao, cap, rfl, hfa, hle, -⟩ := fat_of_row h2
    have hcv := cell_of_one h1
    have hDg : g2 ≤ D := by omega
    clear hsz h1 h2 h3 h4 hseq
    gi_wp2
    refine ⟨by simp, .inl ⟨_, _, rfl, run_takeDeferred hK, ?_⟩⟩
    refine ⟨_, results_tmp rfl _ _ _, ?_⟩
    exact ⟨_, _, rfl, fat_put _ hfa hK rfl, hle, hRn _ _ h6 ((Below.refl g2 _).grown (grownBy_putObj' _ D _) (by have := (Array.getElem?_eq_some_iff.1 hK).1; omega) (fun k e => by cases e; omega))⟩
end Go.Proofs.YtdfkpjagnndfdaaGreatDoor
/- The iterator sums.parts$1: it writes what it captured. -/
namespace Go.Proofs.YtdfkpjagnndfdaaGreatDoor
set_option linter.unusedVariables false
set_option linter.unusedSimpArgs false
open Go Go.RowKit Go.Fl64 Go.Shelf
attribute [local go_sem] Oper.semAt_some

theorem cells_of_cell {W : World} {p : Addr} {v : Value} (h : W.cell? p = some v) : ∃ c T q, W.heap[p.block]? = some (.cells c T q) := by
  unfold World.cell? at h
  cases hb : W.heap[p.block]? with
  | none => rw [hb] at h; simp at h
  | some o =>
    rw [hb] at h
    cases o <;> first | exact ⟨_, _, _, rfl⟩ | (simp at h)
/-- a number stays where the block of its digits does -/
theorem pn_move {W W' : World} {s : Bool} {ao : Option Addr} {n cap : Nat} {e : Int} {t : Bool × Nat × Int} (h : PN W (.agg #[.bool s, .slice ao n cap, .int .i64 e]) t)
    (hk : ∀ ad : Addr, ao = some ad → 0 < n → ∀ c T q, W.heap[ad.block]? = some (.cells c T q) → W'.heap[ad.block]? = some (.cells c T q)) : PN W' (.agg #[.bool s, .slice ao n cap, .int .i64 e]) t := by
  obtain ⟨ao', cap', e1, ao2, cap2, e2, h3, h4, b, off, h5, h6⟩ := h
  have e3 : (s = t.1 ∧ (ao = ao' ∧ n = dlen t.2.1 ∧ cap = cap')) ∧ e = t.2.2 := by
    have := e1
    simp only [Value.agg.injEq, Array.mk.injEq, List.cons.injEq, Value.bool.injEq, Value.slice.injEq, Value.int.injEq, and_true, true_and] at this
    exact ⟨⟨this.1, this.2.1⟩, this.2.2⟩
  obtain ⟨⟨rfl, rfl, rfl, rfl⟩, rfl⟩ := e3
  have e4 : ao = ao2 := by simp only [Value.slice.injEq] at e2; exact e2.1
  subst e4
  refine ⟨_, _, rfl, _, _, e2, h3, h4, b, off, h5, fun i hi => ?_⟩
  obtain ⟨c, T, q, hc⟩ := cells_of_cell (h6 i hi)
  rw [← h6 i hi]
  exact World.cell?_of_block ((hk ⟨b, off, none⟩ (h5 (by omega)) (by omega) c T q hc).trans hc.symm)
theorem pn_low {W : World} {s : Bool} {ao : Option Addr} {n cap : Nat} {e : Int} {t : Bool × Nat × Int} (h : PN W (.agg #[.bool s, .slice ao n cap, .int .i64 e]) t) : ∀ ad : Addr, ao = some ad → 0 < n → ad.block < W.heap.size := by
  obtain ⟨ao', cap', e1, ao2, cap2, e2, h3, h4, b, off, h5, h6⟩ := h
  have e3 : ao = ao' ∧ n = dlen t.2.1 := by
    have := e1
    simp only [Value.agg.injEq, Array.mk.injEq, List.cons.injEq, Value.bool.injEq, Value.slice.injEq, Value.int.injEq, and_true, true_and] at this
    exact ⟨this.2.1.1, this.2.1.2.1⟩
  have e4 : ao' = ao2 := by simp only [Value.slice.injEq] at e2; exact e2.1
  intro ad ha hn
  have h7 := h5 (by omega)
  rw [e3.1, e4, h7] at ha
  cases ha
  exact World.block_lt_of_cell? _ _ (h6 0 (by omega))

theorem belX_store3 {Bp : Nat} {W : World} (a b c : Value) : BelX Bp W (((W.setCell ⟨Bp, 0, none⟩ a).setCell ⟨Bp, 1, none⟩ b).setCell ⟨Bp, 2, none⟩ c) := by
  refine ⟨rfl, rfl, rfl, by simp, fun d hd hn => ?_⟩
  rw [Below.heap_setCell _ _ _ _ (by show d ≠ Bp; omega), Below.heap_setCell _ _ _ _ (by show d ≠ Bp; omega), Below.heap_setCell _ _ _ _ (by show d ≠ Bp; omega)]
set_option maxRecDepth 200000 in
set_option maxHeartbeats 8000000 in
theorem parts1_in (n l Bp len : Nat) (t : Bool × Nat × Int) (Z : Int) (hap : Ap t Z) (hz : (apT t len).2.1 = 0) (hnz : ∀ i, i < len → (apT t i).2.1 ≠ 0) (wA w W : World) (J : Nat → World → Prop)
    (hT : Tab32 wA) (hI : Ie.Tab wA) (hwA : Below wA.heap.size wA w) (hBp : wA.heap.size ≤ Bp) (hBw : Bp < w.heap.size)
    (hY : ∀ k v A W', J k A → BelX Bp A W' → k < len → v = .float .f64 (apF t k) → YieldAt Fence.wide (n - 1) Tryz.prog l #[v] W' fun e W'' => e = .returned (.bool true) ∧ J (k + 1) W'' ∧ Below w.heap.size W' W'' ∧ ∀ b c T q, A.heap.size ≤ b → W'.heap[b]? = some (.cells c T q) → W''.heap[b]? = some (.cells c T q))
    (hbW : Below w.heap.size w W) (h0 : J 0 W) {s0 : Bool} {ao0 : Option Addr} {n0 cap0 : Nat} {e0 : Int} (hbx : w.heap[Bp]? = some (.cells #[.bool s0, .slice ao0 n0 cap0, .int .i64 e0] 43 (0, 0))) (hp : PN w (.agg #[.bool s0, .slice ao0 n0 cap0, .int .i64 e0]) t) :
    CallsIn Fence.wide n Tryz.prog 53 #[.func (.yield l) #[] #[], .pointer (some ⟨Bp, 0, none⟩)] W fun e W' => (∃ v, e = .returned v) ∧ ∃ A, J len A ∧ BelX Bp A W' := by
  have HI0 : Hid (∃ k, 0 + (len - k) = len ∧ k ≤ len ∧ Hid (Below wA.heap.size wA W ∧ ∃ A, J k A ∧ BelX Bp A W ∧ ∃ s ao m cap e, W.heap[Bp]? = some (.cells #[.bool s, .slice ao m cap, .int .i64 e] 43 (0, 0)) ∧ PN W (.agg #[.bool s, .slice ao m cap, .int .i64 e]) (apT t k) ∧ ∀ ad : Addr, ao = some ad → 0 < m → A.heap.size ≤ ad.block ∨ ad.block < w.heap.size)) :=
    ⟨0, by omega, by omega, hwA.trans (hbW.mono hwA.size), W, h0, Below.belX (Below.refl _ _), _, _, _, _, _, box_later hbx hbW hBw, hp.later hbW, fun ad h1 h2 => .inr (pn_low hp ad h1 h2)⟩
  refine callsIn_of_wp Tryz.func53 rfl trivial ?_ rfl
  simp only [Tryz.ntmps53, List.size_toArray, List.length_cons, List.length_nil, Nat.reduceAdd, Nat.reduceSub, Array.replicate_succ, Array.replicate_zero, List.push_toArray, List.append_toArray, List.nil_append, List.cons_append]
  clear hp hbx h0 hbW
  gi_wp2
  gi_loopg [] len (fun gk wr => ∃ k, gk + k = len ∧ Hid (Below wA.heap.size wA wr ∧ ∃ A, J k A ∧ BelX Bp A wr ∧ ∃ s ao m cap e, wr.heap[Bp]? = some (.cells #[.bool s, .slice ao m cap, .int .i64 e] 43 (0, 0)) ∧ PN wr (.agg #[.bool s, .slice ao m cap, .int .i64 e]) (apT t k) ∧ ∀ ad : Addr, ao = some ad → 0 < m → A.heap.size ≤ ad.block ∨ ad.block < w.heap.size))
  case atStart =>
    obtain ⟨k, h1, h2, h3⟩ := HI0.out
    obtain rfl : k = 0 := by omega
    exact ⟨0, by omega, h3⟩
  case round =>
    obtain ⟨k, hk, HR⟩ := hrel
    obtain ⟨hA, A, hJ, hbA, s1, ao1, n1, cap1, ex1, hbx, hpn, hfr⟩ := HR.out
    obtain ⟨Zk, hapk, -⟩ := ap_all hap k
    obtain ⟨⟨a0, a1, a2⟩, -⟩ := box_cells hbx
    have ks := psign hapk.ok hpn
    by_cases hlt : k < len
    · have h0 := hnz k hlt
      have hsg : (sgI (apT t k).1 (dlen (apT t k).2.1) == 0) = false := by rw [sgI_nought, decide_eq_false h0]
      have hsg' : (sgI (apT t k).1 (dlen (apT t k).2.1) != 0) = true := by rw [bne, hsg]; rfl
      have HY : Hid (∀ w3, Below wr.heap.size wr w3 → YieldAt Fence.wide (n - 1) Tryz.prog l #[.float .f64 (apF t k)] w3 fun e W'' => e = .returned (.bool true) ∧ J (k + 1) W'' ∧ Below w.heap.size w3 W'' ∧ ∀ b c T q, A.heap.size ≤ b → w3.heap[b]? = some (.cells c T q) → W''.heap[b]? = some (.cells c T q)) := fun w3 hb => hY k _ A w3 hJ (hbA.trans (Below.belX hb)) hlt rfl
      have HP : Hid (Below wA.heap.size wA wr ∧ wr.heap[Bp]? = some (.cells #[.bool s1, .slice ao1 n1 cap1, .int .i64 ex1] 43 (0, 0)) ∧ PN wr (.agg #[.bool s1, .slice ao1 n1 cap1, .int .i64 ex1]) (apT t k) ∧ (∀ ad : Addr, ao1 = some ad → 0 < n1 → A.heap.size ≤ ad.block ∨ ad.block < w.heap.size)) := ⟨hA, hbx, hpn, hfr⟩
      have HKK : Hid (gk + k = len ∧ k < len) := ⟨hk, hlt⟩
      generalize sgI (apT t k).1 (dlen (apT t k).2.1) = sg at *
      clear HR HI0 hY hJ hbA hA hbx hpn hfr hz hnz hsg hk hlt
      gi_wp2
      refine ⟨trivial, fun h => (by cases h), ?_⟩
      refine (callsIn_wide.2 ks).mono ?_
      rintro r w2 ⟨rfl, hb2⟩
      have hbx2 := box_later HP.out.2.1 hb2 (lt_of_box HP.out.2.1)
      obtain ⟨⟨b0, b1, b2⟩, -⟩ := box_cells hbx2
      have hA2 : Below wA.heap.size wA w2 := HP.out.1.trans (hb2.mono HP.out.1.size)
      have kr : Calls Tryz.prog 17 #[.agg #[.bool s1, .slice ao1 n1 cap1, .int .i64 ex1], .int .i64 2] w2 fun r w' => r = .returned (.float .f64 (apF t k)) ∧ Below w2.heap.size w2 w' := urounded (m := 2) (hT.later hA2) hapk.ok (HP.out.2.2.1.later hb2) (by omega)
      have HB2 : Hid (Below wr.heap.size wr w2) := hb2
      clear ks hb2 a0 a1 a2 hbx2 hA2
      gi_wp2
      refine ⟨trivial, fun h => (by cases h), ?_⟩
      refine (callsIn_wide.2 kr).mono ?_
      rintro r w3 ⟨rfl, hb3⟩
      have HB3 : Hid (Below wr.heap.size wr w3) := HB2.out.trans (hb3.mono HB2.out.size)
      clear kr hb3 b0 b1 b2 HB2
      obtain ⟨fn, tmps, assign, body, hy, hR⟩ := HY.out w3 HB3.out
      gi_wp2
      refine ⟨fun h => (by cases h), hR.mono ?_⟩
      rintro e W3 ⟨rfl, hJ3, hk3, hc3⟩
      have hbx3 := box_later HP.out.2.1 HB3.out (lt_of_box HP.out.2.1)
      have hbx4 : W3.heap[Bp]? = some (.cells #[.bool s1, .slice ao1 n1 cap1, .int .i64 ex1] 43 (0, 0)) := (hk3.block Bp hBw).trans hbx3
      have hp4 : PN W3 (.agg #[.bool s1, .slice ao1 n1 cap1, .int .i64 ex1]) (apT t k) := pn_move (HP.out.2.2.1.later HB3.out) (fun ad h1 h2 c T q h3 => by
        rcases HP.out.2.2.2 ad h1 h2 with h4 | h4
        · exact hc3 _ c T q h4 h3
        · exact (hk3.block _ h4).trans h3)
      have hA3 : Below wA.heap.size wA W3 := (HP.out.1.trans (HB3.out.mono HP.out.1.size)).trans (hk3.mono hwA.size)
      have kt : Calls Tryz.prog 55 #[.agg #[.bool s1, .slice ao1 n1 cap1, .int .i64 ex1], .float .f64 (apF t k)] W3 fun r w' => ∃ s ao n cap e, r = .returned (.agg #[.bool s, .slice ao n cap, .int .i64 e]) ∧ PN w' (.agg #[.bool s, .slice ao n cap, .int .i64 e]) (apT t (k + 1)) ∧ Below W3.heap.size W3 w' ∧ ∀ ad : Addr, ao = some ad → 0 < n → W3.heap.size ≤ ad.block := utaken_fresh hapk (hT.later hA3) (Tab.later hI hA3) hp4
      have HH : Hid (J (k + 1) W3 ∧ Below wA.heap.size wA W3 ∧ W3.heap[Bp]? = some (.cells #[.bool s1, .slice ao1 n1 cap1, .int .i64 ex1] 43 (0, 0))) := ⟨hJ3, hA3, hbx4⟩
      obtain ⟨⟨c0, c1, c2⟩, -⟩ := box_cells hbx4
      clear HY hy hR hJ3 hk3 hc3 hbx3 hbx4 hp4 hA3 HB3 HP
      gi_wp2
      refine ⟨trivial, fun h => (by cases h), ?_⟩
      refine (callsIn_wide.2 kt).mono ?_
      rintro r w6 ⟨s6, ao6, n6, cap6, ex6, rfl, hP6, hb6, hf6⟩
      have hz6 := box_later HH.out.2.2 hb6 (lt_of_box HH.out.2.2)
      obtain ⟨⟨x0, x1, x2⟩, x3, x4, x5⟩ := box_cells hz6
      have HS : Hid (Below wA.heap.size wA (((w6.setCell ⟨Bp, 0, none⟩ (.bool s6)).setCell ⟨Bp, 1, none⟩ (.slice ao6 n6 cap6)).setCell ⟨Bp, 2, none⟩ (.int .i64 ex6)) ∧ ∃ A, J (k + 1) A ∧ BelX Bp A (((w6.setCell ⟨Bp, 0, none⟩ (.bool s6)).setCell ⟨Bp, 1, none⟩ (.slice ao6 n6 cap6)).setCell ⟨Bp, 2, none⟩ (.int .i64 ex6)) ∧ ∃ s ao m cap e, (((w6.setCell ⟨Bp, 0, none⟩ (.bool s6)).setCell ⟨Bp, 1, none⟩ (.slice ao6 n6 cap6)).setCell ⟨Bp, 2, none⟩ (.int .i64 ex6)).heap[Bp]? = some (.cells #[.bool s, .slice ao m cap, .int .i64 e] 43 (0, 0)) ∧ PN (((w6.setCell ⟨Bp, 0, none⟩ (.bool s6)).setCell ⟨Bp, 1, none⟩ (.slice ao6 n6 cap6)).setCell ⟨Bp, 2, none⟩ (.int .i64 ex6)) (.agg #[.bool s, .slice ao m cap, .int .i64 e]) (apT t (k + 1)) ∧ ∀ ad : Addr, ao = some ad → 0 < m → A.heap.size ≤ ad.block ∨ ad.block < w.heap.size) :=
        ⟨below_store3 (HH.out.2.1.trans (hb6.mono HH.out.2.1.size)) hBp _ _ _, W3, HH.out.1, (Below.belX hb6).trans (belX_store3 _ _ _), _, _, _, _, _, store3 _ _ _ hz6, pn_storeG hP6 hz6 _ _ _, fun ad h1 h2 => .inl (hf6 ad h1 h2)⟩
      clear kt hP6 hb6 hf6 hz6 c0 c1 c2 HH
      gi_wp2
      gi_roundg (len - (k + 1))
      case measure => have := HKK.out; omega
      case rel => exact ⟨k + 1, by have := HKK.out; omega, HS⟩
    · obtain rfl : k = len := by omega
      have hsg' : (sgI (apT t k).1 (dlen (apT t k).2.1) != 0) = false := by rw [bne, sgI_nought, decide_eq_true hz]; rfl
      have HH : Hid (∃ A, J k A ∧ BelX Bp A wr) := ⟨A, hJ, hbA⟩
      generalize sgI (apT t k).1 (dlen (apT t k).2.1) = sg at *
      clear HR HI0 hY hJ hbA hA hbx hpn hfr hz hnz
      gi_wp2
      refine ⟨trivial, fun h => (by cases h), ?_⟩
      refine (callsIn_wide.2 ks).mono ?_
      rintro r w2 ⟨rfl, hb2⟩
      have HH2 : Hid (∃ A, J k A ∧ BelX Bp A w2) := by
        obtain ⟨A, h1, h2⟩ := HH.out
        exact ⟨A, h1, h2.trans (Below.belX hb2)⟩
      clear ks hb2 a0 a1 a2 HH
      gi_wp2
      go_end0
      exact ⟨⟨_, rfl⟩, HH2.out⟩
end Go.Proofs.YtdfkpjagnndfdaaGreatDoor
/- sums.Apart. -/
namespace Go.Proofs.YtdfkpjagnndfdaaGreatDoor
set_option linter.unusedVariables false
set_option linter.unusedSimpArgs false
open Go Go.RowKit Go.Fl64 Go.Shelf

theorem uparts (s : Bool) (ao : Option Addr) (n cap : Nat) (e : Int) (w : World) : Calls Tryz.prog 23 #[.agg #[.bool s, .slice ao n cap, .int .i64 e]] w fun r w' => r = .returned (.func (.func 53) #[] #[.pointer (some ⟨w.heap.size, 0, none⟩)]) ∧ w' = w.alloc (.cells #[.bool s, .slice ao n cap, .int .i64 e] 43) := by
  go_enter Tryz.func23, Tryz.ntmps23
  go_wp2
  go_ret
  exact ⟨rfl, rfl⟩
theorem ucollect (fv : Value) (w : World) (Post : Value → World → Prop) (k : Calls Tryz.prog 52 #[.slice none 0 0, fv] w fun r w' => ∃ v, r = .returned v ∧ Post v w') :
    Calls Tryz.prog 22 #[fv] w fun r w' => ∃ v, r = .returned v ∧ Post v w' := by
  go_enter Tryz.func22, Tryz.ntmps22
  go_wp2_with fail
  refine k.mono ?_
  rintro r w1 ⟨v, rfl, hp⟩
  have HP : Hid (Post v w1) := hp
  clear k hp
  go_wp2_with fail
  go_ret
  exact ⟨_, rfl, HP.out⟩
theorem least_ex {p : Nat → Prop} : ∀ n, p n → ∃ m, p m ∧ ∀ i, i < m → ¬ p i := by
  intro n
  induction n using Nat.strongRecOn with
  | ind n ih =>
    intro h
    by_cases hc : ∃ i, i < n ∧ p i
    · obtain ⟨i, h1, h2⟩ := hc
      exact ih i h1 h2
    · exact ⟨n, h, fun i hi hp => hc ⟨i, hi, hp⟩⟩
theorem ap_len {t : Bool × Nat × Int} {Z : Int} (h : Ap t Z) : ∃ n, n ≤ 2116 ∧ (apT t n).2.1 = 0 ∧ ∀ i, i < n → (apT t i).2.1 ≠ 0 := by
  have h0 : (apT t 2116).2.1 = 0 := Decidable.byContradiction fun hc => by have := ap_ends h hc; omega
  obtain ⟨m, h1, h2⟩ := least_ex (p := fun n => (apT t n).2.1 = 0) 2116 h0
  exact ⟨m, Nat.le_of_not_lt fun hc => h2 2116 hc h0, h1, h2⟩

theorem uApart_ok (ao : Option Addr) (len cap : Nat) (xs : Nat → Nat) (w : World) (hT : Tab32 w) (hI : Ie.Tab w) (hl : FAt w ao len xs) (hx : Fls xs len) (hlen : len ≤ 17592186043904) (hc : chk1 xs len = 0) (hf : mag (nrF (tSum xs len)) < 9218868437227405312) :
    Calls Tryz.prog 6 #[.slice ao len cap] w fun r w' => ∃ v, r = .returned v ∧ ∃ ao' n' cap', v = .tuple #[.slice ao' n' cap', .int .i64 0] ∧ FAt w' ao' n' (apF (tSum xs len)) ∧ (apT (tSum xs len) n').2.1 = 0 ∧ (∀ i, i < n' → (apT (tSum xs len) i).2.1 ≠ 0) ∧ n' ≤ cap' ∧ Below w.heap.size w w' := by
  obtain ⟨g1, g2⟩ := chk1_zero hc
  obtain ⟨Z, hZ⟩ := tSum_ap hx hc hf
  obtain ⟨N, hN, hz, hnz⟩ := ap_len hZ
  have kc : ∀ W g, Below w.heap.size w W → W.cell? ⟨g, 0, none⟩ = some (.slice ao len cap) → Calls Tryz.prog 15 #[.int .i64 2, .slice (some ⟨g, 0, none⟩) 1 1] W fun r w' => r = .returned (.int .i64 (chk1 xs len)) ∧ Below W.heap.size W w' := fun W g hb hg => uchecked1 2 g ao len cap xs W (by decide) hg (hl.later hb) hx (by omega)
  rw [hc] at kc
  refine uapart_run ao len cap (nrF (tSum xs len)) true (tSum xs len) w _ kc
    (fun W Bs hb hBs => total_floats Bs len cap ao xs W (by omega) (fun i hi => ⟨hx i hi, g2 i hi⟩) (fun k hk => tSum_add xs (by omega)) (hT.later hb) (Tab.later hI hb) (hl.later hb) hBs)
    (fun W A hb hA => urounded (hT.later hb) hZ.ok hA (by omega))
    (fun W => (ufin_y _ (nrF_lt _) hf W).mono fun r w' ⟨e1, e2⟩ => ⟨e1, by rw [e2]; exact Below.refl _ _⟩)
    (fun h => by cases h) (fun _ W A hb hA => ?_)
  obtain ⟨s, ao1, n1, cap1, e1, rfl⟩ := hA.shape
  refine (uparts s ao1 n1 cap1 e1 W).mono ?_
  rintro r w1 ⟨rfl, hw⟩
  have hb1 : Below W.heap.size W w1 := by rw [hw]; exact (Below.refl _ _).alloc (Nat.le_refl _) _
  have hbx : w1.heap[W.heap.size]? = some (.cells #[.bool s, .slice ao1 n1 cap1, .int .i64 e1] 43 (0, 0)) := by rw [hw]; exact heap_alloc_new _ _
  have hbw : Below w.heap.size w w1 := hb.trans (hb1.mono hb.size)
  refine ⟨_, rfl, ucollect _ w1 (fun v w'' => ∃ ao' n' cap', (.tuple #[v, .int .i64 0] : Value) = .tuple #[.slice ao' n' cap', .int .i64 0] ∧ FAt w'' ao' n' (apF (tSum xs len)) ∧ (apT (tSum xs len) n').2.1 = 0 ∧ (∀ i, i < n' → (apT (tSum xs len) i).2.1 ≠ 0) ∧ n' ≤ cap' ∧ Below w.heap.size w w'') ?_⟩
  refine (appendseq_gen 53 W.heap.size #[.pointer (some ⟨W.heap.size, 0, none⟩)] N (apF (tSum xs len)) (fun X => Below w.heap.size w X) w1 (lt_of_box hbx) (by omega)
    (fun A B hA hB => ⟨hB.os.trans hA.os, hB.tape.trans hA.tape, hB.output.trans hA.output, Nat.le_trans hA.size hB.size, fun b hb' => (hB.block b (Nat.lt_of_lt_of_le hb' hA.size) (by have := hb.size; omega)).trans (hA.block b hb')⟩)
    (fun A B hA hB => hA.trans (hB.mono hbw.size)) hbw (enters_of Tryz.func53 (by kernel_rfl) rfl)
    (fun l J W' hbW hY h0 => parts1_in 2 l W.heap.size N (tSum xs len) Z hZ hz hnz w w1 W' J hT hI hbw hb.size (lt_of_box hbx) hY hbW h0 hbx (hA.later hb1))).mono ?_
  rintro r w2 ⟨ao2, cap2, rfl, hfa, hle, hR⟩
  exact ⟨_, rfl, ao2, N, cap2, rfl, hfa, hz, hnz, hle, hR⟩
theorem uApart_inf (ao : Option Addr) (len cap : Nat) (xs : Nat → Nat) (w : World) (hT : Tab32 w) (hI : Ie.Tab w) (hl : FAt w ao len xs) (hx : Fls xs len) (hlen : len ≤ 17592186043904) (hc : chk1 xs len = 0) (hf : ¬ mag (nrF (tSum xs len)) < 9218868437227405312) :
    Calls Tryz.prog 6 #[.slice ao len cap] w fun r w' => ∃ v, r = .returned v ∧ v = .tuple #[.slice none 0 0, .int .i64 5] ∧ Below w.heap.size w w' := by
  obtain ⟨g1, g2⟩ := chk1_zero hc
  have kc : ∀ W g, Below w.heap.size w W → W.cell? ⟨g, 0, none⟩ = some (.slice ao len cap) → Calls Tryz.prog 15 #[.int .i64 2, .slice (some ⟨g, 0, none⟩) 1 1] W fun r w' => r = .returned (.int .i64 (chk1 xs len)) ∧ Below W.heap.size W w' := fun W g hb hg => uchecked1 2 g ao len cap xs W (by decide) hg (hl.later hb) hx (by omega)
  rw [hc] at kc
  exact uapart_run ao len cap (nrF (tSum xs len)) false (tSum xs len) w _ kc
    (fun W Bs hb hBs => total_floats Bs len cap ao xs W (by omega) (fun i hi => ⟨hx i hi, g2 i hi⟩) (fun k hk => tSum_add xs (by omega)) (hT.later hb) (Tab.later hI hb) (hl.later hb) hBs)
    (fun W A hb hA => urounded (hT.later hb) (tSum_ok xs g1).1 hA (by omega))
    (fun W => (ufin_n _ (nrF_lt _) hf W).mono fun r w' ⟨e1, e2⟩ => ⟨e1, by rw [e2]; exact (Below.refl _ _).drew⟩)
    (fun _ W hb => ⟨rfl, hb⟩) (fun h => by cases h)
theorem uApart_err (ao : Option Addr) (len cap : Nat) (xs : Nat → Nat) (w : World) (hl : FAt w ao len xs) (hx : Fls xs len) (hlen : len ≤ 17592186043904) (hc : chk1 xs len ≠ 0) :
    Calls Tryz.prog 6 #[.slice ao len cap] w fun r w' => r = .returned (.tuple #[.slice none 0 0, .int .i64 (chk1 xs len)]) ∧ Below w.heap.size w w' :=
  uapart_err ao len cap _ w (beq_eq_false_iff_ne.2 hc) fun W g hb hg => uchecked1 2 g ao len cap xs W (by decide) hg (hl.later hb) hx (by omega)
end Go.Proofs.YtdfkpjagnndfdaaGreatDoor
