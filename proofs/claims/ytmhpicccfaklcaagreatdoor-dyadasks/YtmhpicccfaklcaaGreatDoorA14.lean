/- Own work: contracts of the program's functions, part 14: L12 L13. -/
import Derived.Test.YtmhpicccfaklcaaGreatDoorA11
import Derived.Test.YtmhpicccfaklcaaGreatDoorA13

/- DyadAsks: the calls of both sides joined. -/
namespace Go.Proofs.YtmhpicccfaklcaaGreatDoor
set_option linter.unusedVariables false
set_option linter.unusedSimpArgs false
open Go.RowKit

set_option maxHeartbeats 4000000 in
set_option maxRecDepth 200000 in
theorem r42_0 (ao : Option Addr) (cap : Nat) (w : World) : Calls Tryz.prog 46 #[.slice ao 0 cap] w fun r w' => r = .returned (.int .i64 0) ∧ Below w.heap.size w w' := by
  go_enter Tryz.func46, Tryz.ntmps46
  go_wp2
  go_ret
  exact ⟨rfl, Below.refl _ _⟩
set_option maxHeartbeats 4000000 in
set_option maxRecDepth 200000 in
theorem rhigh_0 (na : Bool) (ao : Option Addr) (cap : Nat) (e : Int) (w : World) : Calls Tryz.prog 56 #[.agg #[.bool na, .slice ao 0 cap, .int .i64 e]] w fun r w' => r = .returned (.int .i64 0) ∧ Below w.heap.size w w' := by
  obtain ⟨W, hW⟩ : ∃ W, W = w.alloc (.cells #[.bool na, .slice ao 0 cap, .int .i64 e] 24) := ⟨_, rfl⟩
  have HB : Hid (Below w.heap.size w W) := (by rw [hW]; exact (Below.refl _ _).alloc (Nat.le_refl _) _ : Below w.heap.size w W)
  go_enter Tryz.func56, Tryz.ntmps56
  go_wp2
  go_ret
  exact ⟨rfl, hW ▸ HB.out⟩

/-- an answer: a number that keeps P -/
def OutN (W : World) (P : World → Value → Prop) (r : Ending) (w' : World) : Prop := ∃ s ao n cap e, r = .returned (.agg #[.bool s, .slice ao n cap, .int .i64 e]) ∧ P w' (.agg #[.bool s, .slice ao n cap, .int .i64 e]) ∧ Below W.heap.size W w'
theorem is_at {W : World} {pa : Option Addr} {n pc x : Nat} (h : Is W (.slice pa n pc) x) : At W pa (dlen x) x := by
  obtain ⟨ao, cap, e, -, -, a⟩ := h
  injection e with e1 e2 e3
  rw [e1]; exact a
/-- both sides' numbers, and whether they may be -/
structure Sides (w : World) (na : Bool) (ua : Option Addr) (un uc x : Nat) (ea : Int) (V : Bool) : Prop where
  ok : okN na un x ea = V
  arg : Arg w ua un uc x
  len : dlen x ≤ un
theorem Sides.valid {w : World} {na : Bool} {ua : Option Addr} {un uc x : Nat} {ea : Int} {V : Bool} (h : Sides w na ua un uc x ea V) {W : World} (hW : Below w.heap.size w W) : ∀ W', Below W.heap.size W W' → Calls Tryz.prog 11 #[.agg #[.bool na, .slice ua un uc, .int .i64 ea]] W' fun r w' => r = .returned (.bool V) ∧ Below W'.heap.size W' w' := fun W' hW' => by
  have := rvalid (s := na) (e := ea) ((h.arg.later hW).later hW')
  rw [h.ok] at this
  exact this
theorem Sides.maybe {w : World} {na : Bool} {ua : Option Addr} {un uc x : Nat} {ea : Int} {V : Bool} (h : Sides w na ua un uc x ea V) {W : World} {pa : Option Addr} {pc : Nat} (p2 : At W pa un x) : ∀ W' g, Below W.heap.size W W' → W'.heap[g]? = some (.cells #[.bool na, .slice pa un pc, .int .i64 ea] 25 (0, 0)) → Calls Tryz.prog 47 #[.slice (some ⟨g, 0, none⟩) 1 1] W' fun r w' => r = .returned (.bool V) ∧ Below W'.heap.size W' w' := fun W' g hW' hg => by
  have := maybe1_at hg (p2.later hW') h.arg.small
  rw [h.ok] at this
  exact this
/-- what the program holds -/
theorem PI.open {na : Bool} {un x : Nat} {ea : Int} {W : World} {X : Value} (hX : PI na un x ea W X) : ∃ pa pc, X = .agg #[.bool na, .slice pa un pc, .int .i64 ea] ∧ At W pa un x := by
  obtain ⟨v, b, rfl, d1⟩ := hX
  obtain ⟨pa, pc, rfl, p1, p2⟩ := d1.at
  exact ⟨pa, pc, rfl, p2⟩
theorem PI.is {na : Bool} {x : Nat} {ea : Int} {W : World} {X : Value} (hX : PI na (dlen x) x ea W X) : ∃ pa pc, X = .agg #[.bool na, .slice pa (dlen x) pc, .int .i64 ea] ∧ Is W (.slice pa (dlen x) pc) x := by
  obtain ⟨v, b, rfl, d1⟩ := hX
  obtain ⟨pa, pc, e1, i1⟩ := dn_pn (s := na) (e := ea) d1
  exact ⟨pa, pc, e1, i1⟩

theorem join_Valid {w : World} {na : Bool} {ua : Option Addr} {un uc x : Nat} {ea : Int} {V : Bool} (h : Sides w na ua un uc x ea V) :
    (∀ W X, Below w.heap.size w W → PI na un x ea W X → Calls Tryz.prog 10 #[X] W fun r w' => r = .returned (.bool V) ∧ Below W.heap.size W w') ∧
    (∀ W, Below w.heap.size w W → Calls Tryz.prog 11 #[.agg #[.bool na, .slice ua un uc, .int .i64 ea]] W fun r w' => r = .returned (.bool V) ∧ Below W.heap.size W w') := by
  refine ⟨fun W X hW hX => ?_, fun W hW => h.valid hW W (Below.refl _ _)⟩
  obtain ⟨pa, pc, rfl, p2⟩ := hX.open
  refine (c18 p2 h.arg.small).mono ?_
  rintro r w' ⟨rfl, rfl⟩
  rw [h.ok]
  exact ⟨rfl, (Below.refl _ _).alloc (Nat.le_refl _) _⟩
theorem join_Sign {w : World} {na : Bool} {ua : Option Addr} {un uc x : Nat} {ea : Int} {V : Bool} (h : Sides w na ua un uc x ea V) : ∃ c : Int,
    (∀ W X, Below w.heap.size w W → PI na un x ea W X → Calls Tryz.prog 17 #[X] W fun r w' => r = .returned (.int .i64 c) ∧ Below W.heap.size W w') ∧
    (∀ W, Below w.heap.size w W → Calls Tryz.prog 18 #[.agg #[.bool na, .slice ua un uc, .int .i64 ea]] W fun r w' => r = .returned (.int .i64 c) ∧ Below W.heap.size W w') := by
  have hsm := h.arg.small
  cases V
  · refine ⟨0, fun W X hW hX => ?_, fun W hW => rsign_no na ua un uc ea W (h.valid hW)⟩
    obtain ⟨pa, pc, rfl, p2⟩ := hX.open
    exact pSign_no na pa un pc ea W (h.maybe p2)
  · obtain rfl := okN_len h.len h.ok
    refine ⟨sgI na (dlen x), fun W X hW hX => ?_, fun W hW => rsign_1 na ua _ uc ea W _ (h.valid hW) (fun W' _ => rsgn hsm)⟩
    obtain ⟨pa, pc, rfl, i1⟩ := hX.is
    exact sign_ok i1 hsm h.ok
theorem join_Bits {w : World} {na : Bool} {ua : Option Addr} {un uc x : Nat} {ea : Int} {V : Bool} (h : Sides w na ua un uc x ea V) : ∃ c : Int,
    (∀ W X, Below w.heap.size w W → PI na un x ea W X → Calls Tryz.prog 19 #[X] W fun r w' => r = .returned (.int .i64 c) ∧ Below W.heap.size W w') ∧
    (∀ W, Below w.heap.size w W → Calls Tryz.prog 20 #[.agg #[.bool na, .slice ua un uc, .int .i64 ea]] W fun r w' => r = .returned (.int .i64 c) ∧ Below W.heap.size W w') := by
  have hsm := h.arg.small
  cases V
  · refine ⟨0, fun W X hW hX => ?_, fun W hW => rbits_no na ua un uc ea W (h.valid hW)⟩
    obtain ⟨pa, pc, rfl, p2⟩ := hX.open
    exact pBits_no na pa un pc ea W (h.maybe p2)
  · obtain rfl := okN_len h.len h.ok
    have f1 := Ok.facts (t := (na, x, ea)) h.ok
    simp only at f1
    refine ⟨(bl x : Nat), fun W X hW hX => ?_, fun W hW => rbits_1 na ua _ uc ea W _ (h.valid hW) (fun W' hW' => ?_)⟩
    · obtain ⟨pa, pc, rfl, i1⟩ := hX.is
      refine pBits_1 na pa _ pc ea _ W (h.maybe (is_at i1)) (fun W' hW' => (c74 (i1.later hW') hsm).mono fun r w' ⟨e1, e2⟩ => ⟨e1, by rw [e2]; exact Below.refl _ _⟩)
    · by_cases x0 : x = 0
      · subst x0
        rw [dlen_zero]
        exact r42_0 ua uc W'
      · obtain ⟨b, o, h1, h2⟩ := ((h.arg.later hW).later hW').at_
        have hl := dlen_pos x0
        obtain rfl := h1 (by omega)
        exact (r42 b o _ uc x W' (by omega) (by omega) rfl h2).mono fun r w' ⟨e1, e2⟩ => ⟨e1, by rw [e2]; exact Below.refl _ _⟩
theorem join_Top {w : World} {na : Bool} {ua : Option Addr} {un uc x : Nat} {ea : Int} {V : Bool} (h : Sides w na ua un uc x ea V) : ∃ c : Int,
    (∀ W X, Below w.heap.size w W → PI na un x ea W X → Calls Tryz.prog 21 #[X] W fun r w' => r = .returned (.int .i64 c) ∧ Below W.heap.size W w') ∧
    (∀ W, Below w.heap.size w W → Calls Tryz.prog 22 #[.agg #[.bool na, .slice ua un uc, .int .i64 ea]] W fun r w' => r = .returned (.int .i64 c) ∧ Below W.heap.size W w') := by
  have hsm := h.arg.small
  cases V
  · refine ⟨0, fun W X hW hX => ?_, fun W hW => rtop_no na ua un uc ea W (h.valid hW)⟩
    obtain ⟨pa, pc, rfl, p2⟩ := hX.open
    exact pTop_no na pa un pc ea W (h.maybe p2)
  · obtain rfl := okN_len h.len h.ok
    have f1 := Ok.facts (t := (na, x, ea)) h.ok
    simp only at f1
    refine ⟨(bl x : Nat) + ea, fun W X hW hX => ?_, fun W hW => rtop_1 na ua _ uc ea W _ (h.valid hW) (fun W' hW' => ?_)⟩
    · obtain ⟨pa, pc, rfl, i1⟩ := hX.is
      exact pTop_1 na pa _ pc ea _ W (h.maybe (is_at i1)) (fun W' hW' => c75 (i1.later hW') (by omega) (by omega) (by omega))
    · by_cases x0 : x = 0
      · have e0 := f1.2.2.2.1 x0
        simp only [Prod.mk.injEq] at e0
        obtain ⟨rfl, -, rfl⟩ := e0
        subst x0
        rw [dlen_zero]
        exact rhigh_0 false ua uc 0 W'
      · exact rhigh ((h.arg.later hW).later hW').at_ x0 (by omega) (by omega)
theorem join_Neg {w : World} {na : Bool} {ua : Option Addr} {un uc x : Nat} {ea : Int} {V : Bool} (h : Sides w na ua un uc x ea V) : ∃ t, dlen t.2.1 ≤ 35184372088832 ∧
    (∀ W X, Below w.heap.size w W → PI na un x ea W X → Calls Tryz.prog 13 #[X] W fun r w' => OutN W (fun W A => PN W A t) r w') ∧
    (∀ W, Below w.heap.size w W → Calls Tryz.prog 14 #[.agg #[.bool na, .slice ua un uc, .int .i64 ea]] W fun r w' => OutN W (fun W A => ∃ b, RN W b A t) r w') := by
  have hsm := h.arg.small
  cases V
  · refine ⟨(false, 0, 0), by rw [dlen_zero]; omega, fun W X hW hX => ?_, fun W hW => ?_⟩
    · obtain ⟨pa, pc, rfl, p2⟩ := hX.open
      refine (neg_no na pa un pc ea W (h.maybe p2)).mono ?_
      rintro r w' ⟨rfl, hb⟩
      exact ⟨_, _, _, _, _, rfl, pn_nil w', hb⟩
    · refine (rneg_no na ua un uc ea W (h.valid hW)).mono ?_
      rintro r w' ⟨rfl, hb⟩
      exact ⟨_, _, _, _, _, rfl, ⟨0, rn_nil w' 0⟩, hb⟩
  · obtain rfl := okN_len h.len h.ok
    have f1 := Ok.facts (t := (na, x, ea)) h.ok
    simp only at f1
    refine ⟨(!na && decide (0 < dlen x), x, ea), hsm, fun W X hW hX => ?_, fun W hW => ?_⟩
    · obtain ⟨pa, pc, rfl, i1⟩ := hX.is
      refine (negw_ok i1 (by omega) h.ok).mono ?_
      rintro r w' ⟨v', rfl, ho, hb⟩
      obtain ⟨ao', cap', rfl, o1, o2, o3⟩ := ho.is
      exact ⟨_, _, _, _, _, rfl, ⟨ao', cap', rfl, ao', cap', rfl, o1, o2, o3⟩, hb⟩
    · by_cases x0 : x = 0
      · have e0 := f1.2.2.2.1 x0
        simp only [Prod.mk.injEq] at e0
        obtain ⟨rfl, -, rfl⟩ := e0
        subst x0
        have kV' := h.valid hW
        rw [dlen_zero] at kV' ⊢
        refine (rneg_1 false ua 0 uc 0 W false none 0 0 0 0 (fun W' _ => ⟨fun _ => .inr ⟨rfl, rfl⟩, ⟨0, 0, fun h => absurd h (by omega), fun i hi => absurd hi (by omega)⟩, Nat.le_refl _, by omega⟩) kV' (fun W' => rminus_0 false ua uc 0 W')).mono ?_
        rintro r w' ⟨ao', cap', rfl, hd, hb⟩
        refine ⟨_, _, _, _, _, rfl, ⟨0, ao', cap', by simp [dlen_zero], fun _ _ _ => Nat.zero_le _, 0, 0, fun h => by simp [dlen_zero] at h, fun i hi => by simp [dlen_zero] at hi⟩, hb⟩
      · have hl : 0 < dlen x := by have := dlen_pos x0; omega
        rw [decide_eq_true hl, Bool.and_true]
        refine (rneg_1 na ua _ uc ea W (!na) ua _ uc x ea (fun W' hW' => (h.arg.later hW).later hW') (h.valid hW) (fun W' => rminus_1 na ua _ uc ea W' hsm (len_ne (n := 0) x0))).mono ?_
        rintro r w' ⟨ao', cap', rfl, hd, hb⟩
        exact ⟨_, _, _, _, _, rfl, ⟨0, ao', cap', rfl, fun _ _ _ => Nat.zero_le _, hd.at_⟩, hb⟩
theorem join_Abs {w : World} {na : Bool} {ua : Option Addr} {un uc x : Nat} {ea : Int} {V : Bool} (h : Sides w na ua un uc x ea V) : ∃ t, dlen t.2.1 ≤ 35184372088832 ∧
    (∀ W X, Below w.heap.size w W → PI na un x ea W X → Calls Tryz.prog 15 #[X] W fun r w' => OutN W (fun W A => PN W A t) r w') ∧
    (∀ W, Below w.heap.size w W → Calls Tryz.prog 16 #[.agg #[.bool na, .slice ua un uc, .int .i64 ea]] W fun r w' => OutN W (fun W A => ∃ b, RN W b A t) r w') := by
  have hsm := h.arg.small
  cases V
  · refine ⟨(false, 0, 0), by rw [dlen_zero]; omega, fun W X hW hX => ?_, fun W hW => ?_⟩
    · obtain ⟨pa, pc, rfl, p2⟩ := hX.open
      refine (abs_no na pa un pc ea W (h.maybe p2)).mono ?_
      rintro r w' ⟨rfl, hb⟩
      exact ⟨_, _, _, _, _, rfl, pn_nil w', hb⟩
    · refine (rabs_no na ua un uc ea W (h.valid hW)).mono ?_
      rintro r w' ⟨rfl, hb⟩
      exact ⟨_, _, _, _, _, rfl, ⟨0, rn_nil w' 0⟩, hb⟩
  · obtain rfl := okN_len h.len h.ok
    have f1 := Ok.facts (t := (na, x, ea)) h.ok
    simp only at f1
    refine ⟨(false, x, ea), hsm, fun W X hW hX => ?_, fun W hW => ?_⟩
    · obtain ⟨pa, pc, rfl, i1⟩ := hX.is
      refine (abs_ok i1 (by omega) h.ok).mono ?_
      rintro r w' ⟨v', rfl, ho, hb⟩
      obtain ⟨ao', cap', rfl, o1, o2, o3⟩ := ho.is
      exact ⟨_, _, _, _, _, rfl, ⟨ao', cap', rfl, ao', cap', rfl, o1, o2, o3⟩, hb⟩
    · refine (rabs_1 na ua _ uc ea W x (h.arg.later hW) (h.valid hW)).mono ?_
      rintro r w' ⟨ao', cap', rfl, hd, hb⟩
      exact ⟨_, _, _, _, _, rfl, ⟨0, ao', cap', rfl, fun _ _ _ => Nat.zero_le _, hd.at_⟩, hb⟩
theorem join_Cmp {w : World} {na nb : Bool} {ua va : Option Addr} {un uc x vn vc y : Nat} {ea eb : Int} {V V2 : Bool} (h : Sides w na ua un uc x ea V) (g : Sides w nb va vn vc y eb V2) : ∃ c : Int,
    (∀ W X Y, Below w.heap.size w W → PI na un x ea W X → PI nb vn y eb W Y → Calls Tryz.prog 23 #[X, Y] W fun r w' => r = .returned (.int .i64 c) ∧ Below W.heap.size W w') ∧
    (∀ W, Below w.heap.size w W → Calls Tryz.prog 24 #[.agg #[.bool na, .slice ua un uc, .int .i64 ea], .agg #[.bool nb, .slice va vn vc, .int .i64 eb]] W fun r w' => r = .returned (.int .i64 c) ∧ Below W.heap.size W w') := by
  have hsm := h.arg.small
  have gsm := g.arg.small
  have no : (V && V2) = false → ∀ W X Y, Below w.heap.size w W → PI na un x ea W X → PI nb vn y eb W Y → Calls Tryz.prog 23 #[X, Y] W fun r w' => r = .returned (.int .i64 0) ∧ Below W.heap.size W w' := by
    intro hv W X Y hW hX hY
    obtain ⟨pa, pc, rfl, p2⟩ := hX.open
    obtain ⟨qa, qc, rfl, q2⟩ := hY.open
    refine pCmp_no na nb pa qa un pc vn qc ea eb W (fun W' g' hW' hg => ?_)
    have := maybe2_at hg (p2.later hW') (q2.later hW') hsm gsm
    rw [h.ok, g.ok, hv] at this
    exact this
  cases V
  · exact ⟨0, no rfl, fun W hW => rcmp_no1 na nb ua va un uc vn vc ea eb 0 W (h.valid hW)⟩
  · cases V2
    · exact ⟨0, no rfl, fun W hW => rcmp_no2 na nb ua va un uc vn vc ea eb 0 W (h.valid hW) (g.valid hW)⟩
    · obtain rfl := okN_len h.len h.ok
      obtain rfl := okN_len g.len g.ok
      have f1 := Ok.facts (t := (na, x, ea)) h.ok
      have f2 := Ok.facts (t := (nb, y, eb)) g.ok
      simp only at f1 f2
      refine ⟨ordN na x ea nb y eb, fun W X Y hW hX hY => ?_, fun W hW => rcmp_1 na nb ua va _ uc _ vc ea eb _ W (h.valid hW) (g.valid hW) (fun W' hW' => rorder ((h.arg.later hW).later hW') ((g.arg.later hW).later hW') (by omega) (by omega) (by omega) (by omega))⟩
      obtain ⟨pa, pc, rfl, i1⟩ := hX.is
      obtain ⟨qa, qc, rfl, i2⟩ := hY.is
      exact cmp_ok i1 i2 (by omega) (by omega) (by omega) (by omega) h.ok g.ok
theorem itoa_len {e : Int} (h : -100000000 < e ∧ e < 100000000) : (Lib.itoa e).length ≤ 1000 := by
  unfold Lib.itoa
  split
  · have := decDigits_len 8 e.natAbs (by omega)
    rw [List.length_cons]; omega
  · have := decDigits_len 8 e.toNat (by omega)
    omega
theorem join_Show {w : World} {na : Bool} {ua : Option Addr} {un uc x : Nat} {ea : Int} {V : Bool} (hI : Ie.Tab w) (h10 : Tab10 w) (h : Sides w na ua un uc x ea V) : ∃ S : ByteArray,
    (∀ W X, Below w.heap.size w W → PI na un x ea W X → Calls Tryz.prog 25 #[X] W fun r w' => r = .returned (.string S) ∧ Below W.heap.size W w') ∧
    (∀ W, Below w.heap.size w W → Calls Tryz.prog 26 #[.agg #[.bool na, .slice ua un uc, .int .i64 ea]] W fun r w' => r = .returned (.string S) ∧ Below W.heap.size W w') := by
  have hsm := h.arg.small
  cases V
  · refine ⟨⟨#[]⟩, fun W X hW hX => ?_, fun W hW => rshow_no na ua un uc ea W (h.valid hW)⟩
    obtain ⟨pa, pc, rfl, p2⟩ := hX.open
    exact pShow_no na pa un pc ea W (h.maybe p2)
  · obtain rfl := okN_len h.len h.ok
    have f1 := Ok.facts (t := (na, x, ea)) h.ok
    simp only at f1
    by_cases x0 : x = 0
    · refine ⟨⟨#[48, 112, 48]⟩, fun W X hW hX => ?_, fun W hW => rshow_0 na ua _ uc ea W (by rw [x0, dlen_zero]) (h.valid hW)⟩
      obtain ⟨pa, pc, rfl, p2⟩ := hX.open
      have k := h.maybe (pc := pc) p2
      have e0 : dlen x = 0 := by rw [x0, dlen_zero]
      rw [e0] at k ⊢
      exact pShow_0 na pa pc ea W k
    · have hl := dlen_pos x0
      have hT := itoa_len (e := ea) (by omega)
      have hH : (hexN x).length ≤ 1000000 := by
        have := hexN_dlen (x := x) (n := dlen x) (Nat.le_refl _) 0
        rw [Nat.pow_zero, Nat.div_one] at this
        omega
      have kT : ∀ W, Below w.heap.size w W → ∀ W', Below W.heap.size W W' → Calls Tryz.prog 63 #[.int .i64 ea] W' fun e w' => e = .returned (.string ⟨(Lib.itoa ea).toArray⟩) ∧ Below W'.heap.size W' w' := fun W hW W' hW' => by
        refine (Tryz.strconv_Itoa ea (by omega) (by omega) W' ((h10.later hW).later hW')).mono ?_
        rintro r w' ⟨rfl, k, os, rfl⟩
        exact ⟨rfl, below_more W' k os⟩
      have kP : ∀ W X, Below w.heap.size w W → PI na (dlen x) x ea W X → ∃ b o pc m, dlen x = m + 1 ∧ X = .agg #[.bool na, .slice (some ⟨b, o, none⟩) (m + 1) pc, .int .i64 ea] ∧ m + 1 ≤ pc ∧ (∀ i, i < m + 1 → W.cell? ⟨b, o + i, none⟩ = some (.int .u32 (dg x i : Nat))) ∧ (∀ W' g, Below W.heap.size W W' → W'.heap[g]? = some (.cells #[.bool na, .slice (some ⟨b, o, none⟩) (m + 1) pc, .int .i64 ea] 25 (0, 0)) → Calls Tryz.prog 47 #[.slice (some ⟨g, 0, none⟩) 1 1] W' fun r w' => r = .returned (.bool true) ∧ Below W'.heap.size W' w') := by
        intro W X hW hX
        obtain ⟨pa, pc, rfl, i1⟩ := hX.is
        have k := h.maybe (pc := pc) (is_at i1)
        obtain ⟨ao, cap, e1, o1, -, b, o, h3, h4⟩ := i1
        injection e1 with e1 e2 e3
        subst e1; subst e3
        obtain rfl := h3 (by omega)
        obtain ⟨m, hm⟩ : ∃ m, dlen x = m + 1 := ⟨dlen (x / B), hl⟩
        rw [hm] at k o1 h4 ⊢
        exact ⟨b, o, _, m, rfl, rfl, o1, h4, k⟩
      cases na
      · refine ⟨_, fun W X hW hX => ?_, fun W hW => rshow_pos ua _ uc ea W (hexN x) (Lib.itoa ea) (len_ne (n := 0) x0) hH hT (h.valid hW) (fun W' hW' => rhex ((h.arg.later hW).later hW').at_ x0 (by omega)) (fun W' hW' => rdecimal ea W' (by omega))⟩
        obtain ⟨b, o, pc, m, hm, rfl, h1, h2, h3⟩ := kP W X hW hX
        exact show_pos b o pc m x ea _ W h2 hm (by omega) hT h1 (Tab.later hI hW) h3 (kT W hW)
      · refine ⟨_, fun W X hW hX => ?_, fun W hW => rshow_neg ua _ uc ea W (hexN x) (Lib.itoa ea) (len_ne (n := 0) x0) hH hT (h.valid hW) (fun W' hW' => rhex ((h.arg.later hW).later hW').at_ x0 (by omega)) (fun W' hW' => rdecimal ea W' (by omega))⟩
        obtain ⟨b, o, pc, m, hm, rfl, h1, h2, h3⟩ := kP W X hW hX
        exact show_neg b o pc m x ea _ W h2 hm (by omega) hT h1 (Tab.later hI hW) h3 (kT W hW)
end Go.Proofs.YtmhpicccfaklcaaGreatDoor

/- DyadAsks. -/
namespace Go.Proofs.YtmhpicccfaklcaaGreatDoor
set_option linter.unusedVariables false
set_option linter.unusedSimpArgs false
open Go.RowKit

theorem dyadAsks_ok (ng : Nat → Bool) (ao : Nat → Option Addr) (ln cp z : Nat → Nat) (e : Nat → Int) (w : World) (hA : ∀ i, i < 2 → Arg w (ao i) (ln i) (cp i) (z i)) (he : ∀ i, -9223372036854775808 ≤ e i ∧ e i ≤ 9223372036854775807) (hzl : ∀ i, i < 2 → dlen (z i) ≤ ln i)
    (hT : Tab32 w) (hI : Ie.Tab w) (h10 : Tab10 w) :
    Calls Tryz.prog 3 #[.agg #[.bool (ng 0), .slice (ao 0) (ln 0) (cp 0), .int .i64 (e 0)], .agg #[.bool (ng 1), .slice (ao 1) (ln 1) (cp 1), .int .i64 (e 1)]] w fun r w' => r = .returned (.bool true) ∧ Below w.heap.size w w' := by
  have h : Sides w (ng 0) (ao 0) (ln 0) (cp 0) (z 0) (e 0) _ := ⟨rfl, hA 0 (by omega), hzl 0 (by omega)⟩
  have g : Sides w (ng 1) (ao 1) (ln 1) (cp 1) (z 1) (e 1) _ := ⟨rfl, hA 1 (by omega), hzl 1 (by omega)⟩
  obtain ⟨k1, q1⟩ := join_Valid h
  obtain ⟨t1, l1, k2, q2⟩ := join_Neg h
  obtain ⟨t2, l2, k3, q3⟩ := join_Abs h
  obtain ⟨c4, k4, q4⟩ := join_Sign h
  obtain ⟨c5, k5, q5⟩ := join_Bits h
  obtain ⟨c6, k6, q6⟩ := join_Top h
  obtain ⟨c7, k7, q7⟩ := join_Cmp h g
  obtain ⟨S8, k8, q8⟩ := join_Show hI h10 h
  exact law3_1 ng ao ln cp z e w hA (PX := PI (ng 0) (ln 0) (z 0) (e 0)) (PY := PI (ng 1) (ln 1) (z 1) (e 1)) (P1 := fun W A => PN W A t1) (P2 := fun W A => PN W A t2) (R1 := fun W A => ∃ b, RN W b A t1) (R2 := fun W A => ∃ b, RN W b A t2)
    { lPX := PI.lasts _ _ _ _, lPY := PI.lasts _ _ _ _, lP1 := PN.lasts t1, lP2 := PN.lasts t2, lR1 := RN.lasts t1, lR2 := RN.lasts t2,
      kValid := k1, qValid := q1, kSign := k4, qSign := q4, kBits := k5, qBits := q5, kTop := k6, qTop := q6, kCmp := k7, qCmp := q7, kShow := k8, qShow := q8,
      kNeg := k2, qNeg := q2, sNeg := fun W A C a c => same_pr l1 a c, kAbs := k3, qAbs := q3, sAbs := fun W A C a c => same_pr l2 a c,
      s5 := fun W X hW hX => same_in hX ((hA 0 (by omega)).later hW), s6 := fun W X hW hX => same_in hX ((hA 1 (by omega)).later hW),
      gx := fun W v hW ⟨b, h⟩ => ⟨v, b, rfl, h⟩, gy := fun W v hW ⟨b, h⟩ => ⟨v, b, rfl, h⟩,
      works := fun W hW => works_ok W (hT.later hW) (Tab.later hI hW) (h10.later hW) }
end Go.Proofs.YtmhpicccfaklcaaGreatDoor
