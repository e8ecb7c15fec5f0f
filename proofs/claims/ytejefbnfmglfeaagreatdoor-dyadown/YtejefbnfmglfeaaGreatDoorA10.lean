/- Own work: contracts of the program's functions, part 10: L5 W42 G3 W43. -/
import Derived.Test.YtejefbnfmglfeaaGreatDoorA8
import Derived.Test.YtejefbnfmglfeaaGreatDoorA9
import Derived.Test.YtejefbnfmglfeaaGreatDoorA7
import Derived.Deep.CutRange
import Derived.Test.YtejefbnfmglfeaaGreatDoorA6
import Derived.Test.YtejefbnfmglfeaaGreatDoorA5

/- DyadRing: the law's walk. -/
namespace Go.Proofs.YtejefbnfmglfeaaGreatDoor
set_option linter.unusedVariables false
set_option linter.unusedSimpArgs false
open Go.RowKit Go.Fl64

/-- what several gives leave -/
def Given (W wx : World) (n : Nat) (ng : Nat → Bool) (ln z : Nat → Nat) (e : Nat → Int) (g : Nat → Nat) (v : Nat → Value) : Prop :=
  Below W.heap.size W wx ∧ ∀ k, k < n → Dn wx W.heap.size (v k) (ln k) (z k) ∧ W.heap.size ≤ g k ∧ wx.heap[g k]? = some (.cells #[.bool (ng k), v k, .int .i64 (e k)] 25 (0, 0))
theorem ord_of {ops : Array Oper} (h : ((List.range ops.size).all fun i => match ops[i]? with | some o => o.after.all (fun e => decide (e.on < i)) | none => true) = true) (i : Nat) (o : Oper) (ho : ops[i]? = some o) : ∀ e ∈ o.after, e.on < i := by
  intro e he
  have hi : i < ops.size := (Array.getElem?_eq_some_iff.1 ho).1
  have h1 := List.all_eq_true.1 h i (List.mem_range.2 hi)
  simp only [ho] at h1
  exact of_decide_eq_true (Array.all_eq_true_iff_forall_mem.1 h1 e he)
/-- one of three -/
def pick3 {α : Type} (a b c : α) : Nat → α
  | 0 => a
  | 1 => b
  | _ => c
theorem lt3 {k : Nat} (h : k < 3) : k = 0 ∨ k = 1 ∨ k = 2 := by omega

/-- a number's box, and the number in it -/
def Bn (w : World) (g : Nat) (s : Bool) (ao : Option Addr) (n cap : Nat) (e : Int) (t : Bool × Nat × Int) : Prop :=
  w.heap[g]? = some (.cells #[.bool s, .slice ao n cap, .int .i64 e] 25 (0, 0)) ∧ PN w (.agg #[.bool s, .slice ao n cap, .int .i64 e]) t
theorem Bn.later {w w' : World} {g : Nat} {s : Bool} {ao : Option Addr} {n cap : Nat} {e : Int} {t : Bool × Nat × Int} (h : Bn w g s ao n cap e t) (hb : Below w.heap.size w w') : Bn w' g s ao n cap e t :=
  ⟨box_later h.1 hb (Array.getElem?_eq_some_iff.1 h.1).1, h.2.later hb⟩
theorem Bn.new {w : World} {s : Bool} {ao : Option Addr} {n cap : Nat} {e : Int} {t : Bool × Nat × Int} (h : PN w (.agg #[.bool s, .slice ao n cap, .int .i64 e]) t) : Bn (w.alloc (.cells #[.bool s, .slice ao n cap, .int .i64 e] 25)) w.heap.size s ao n cap e t :=
  ⟨heap_alloc_new _ _, h.later ((Below.refl _ _).alloc (Nat.le_refl _) _)⟩
/-- calls of numbers that answer true, or one whole number -/
def Is2 (f : FuncId) (t1 t2 : Bool × Nat × Int) : Prop := ∀ W X Y, PN W X t1 → PN W Y t2 → Calls Tryz.prog f #[X, Y] W fun r w' => r = .returned (.bool true) ∧ Below W.heap.size W w'
def Is1 (f : FuncId) (t1 : Bool × Nat × Int) (v : Value) : Prop := ∀ W X, PN W X t1 → Calls Tryz.prog f #[X] W fun r w' => r = .returned v ∧ Below W.heap.size W w'
/-- what the law's calls answer -/
structure RingK (tx ty tz txy tyz tl tr tp tq tu ts tt td : Bool × Nat × Int) : Prop where
  k1 : Op2 28 tx ty txy
  k2 : Op2 28 ty tz tyz
  k3 : Op2 28 txy tz tl
  k4 : Op2 28 tx tyz tr
  k5 : Op2 32 tx tyz tp
  k6 : Op2 32 tx ty tq
  k7 : Op2 32 tx tz tu
  k8 : Op2 28 tq tu ts
  k9 : Op2 32 ty tx tt
  k10 : Op2 30 tx tx td
  s1 : Is2 12 tl tr
  s2 : Is2 12 tp ts
  s3 : Is2 12 tq tt
  n1 : Is1 17 td (.int .i64 0)
  v1 : Is1 10 tl (.bool true)
  v2 : Is1 10 tp (.bool true)

/-- a number that the law goes on with -/
def Fine (ng : Bool) (n z : Nat) (e : Int) : Prop := okN ng n z e = true ∧ n ≤ 200 ∧ -5000 ≤ e ∧ e ≤ 5000

set_option maxHeartbeats 16000000 in
set_option maxRecDepth 200000 in
theorem law5_1 (ng : Nat → Bool) (ao : Nat → Option Addr) (ln cp z : Nat → Nat) (e : Nat → Int) (w : World) (hA : ∀ i, i < 3 → Arg w (ao i) (ln i) (cp i) (z i)) (he : ∀ i, -9223372036854775808 ≤ e i ∧ e i ≤ 9223372036854775807) (hzl : ∀ i, i < 3 → dlen (z i) ≤ ln i) (hT : Tab32 w)
    (hK : (∀ i, i < 3 → Fine (ng i) (ln i) (z i) (e i)) → ∃ txy tyz tl tr tp tq tu ts tt td, RingK (ng 0, z 0, e 0) (ng 1, z 1, e 1) (ng 2, z 2, e 2) txy tyz tl tr tp tq tu ts tt td)
    (k14 : ∀ W, Below w.heap.size w W → Calls Tryz.prog 27 #[] W fun r w' => r = .returned (.bool true) ∧ Below W.heap.size W w') :
    Calls Tryz.prog 5 #[.agg #[.bool (ng 0), .slice (ao 0) (ln 0) (cp 0), .int .i64 (e 0)], .agg #[.bool (ng 1), .slice (ao 1) (ln 1) (cp 1), .int .i64 (e 1)], .agg #[.bool (ng 2), .slice (ao 2) (ln 2) (cp 2), .int .i64 (e 2)]] w fun r w' => r = .returned (.bool true) ∧ Below w.heap.size w w' := by
  obtain ⟨W, hW⟩ : ∃ W, W = (((w.alloc (.cells #[.bool (ng 0), .slice (ao 0) (ln 0) (cp 0), .int .i64 (e 0)] 24)).alloc (.cells #[.bool (ng 1), .slice (ao 1) (ln 1) (cp 1), .int .i64 (e 1)] 24)).alloc (.cells #[.bool (ng 2), .slice (ao 2) (ln 2) (cp 2), .int .i64 (e 2)] 24)).alloc (.cells #[.bool (ng 0), .slice (ao 0) (ln 0) (cp 0), .int .i64 (e 0), .bool (ng 1), .slice (ao 1) (ln 1) (cp 1), .int .i64 (e 1), .bool (ng 2), .slice (ao 2) (ln 2) (cp 2), .int .i64 (e 2)] 24) := ⟨_, rfl⟩
  have hB0 : W.heap[w.heap.size]? = some (.cells #[.bool (ng 0), .slice (ao 0) (ln 0) (cp 0), .int .i64 (e 0)] 24 (0, 0)) := by
    rw [hW, Below.heap_alloc _ _ _ (by simp <;> omega), Below.heap_alloc _ _ _ (by simp <;> omega), Below.heap_alloc _ _ _ (by simp)]; exact heap_alloc_new _ _
  have hB1 : W.heap[w.heap.size + 1]? = some (.cells #[.bool (ng 1), .slice (ao 1) (ln 1) (cp 1), .int .i64 (e 1)] 24 (0, 0)) := by
    rw [hW, Below.heap_alloc _ _ _ (by simp <;> omega), Below.heap_alloc _ _ _ (by simp <;> omega)]
    have := heap_alloc_new (w.alloc (.cells #[.bool (ng 0), .slice (ao 0) (ln 0) (cp 0), .int .i64 (e 0)] 24)) (.cells #[.bool (ng 1), .slice (ao 1) (ln 1) (cp 1), .int .i64 (e 1)] 24)
    simpa using this
  have hB2 : W.heap[w.heap.size + 1 + 1]? = some (.cells #[.bool (ng 2), .slice (ao 2) (ln 2) (cp 2), .int .i64 (e 2)] 24 (0, 0)) := by
    rw [hW, Below.heap_alloc _ _ _ (by simp <;> omega)]
    have := heap_alloc_new ((w.alloc (.cells #[.bool (ng 0), .slice (ao 0) (ln 0) (cp 0), .int .i64 (e 0)] 24)).alloc (.cells #[.bool (ng 1), .slice (ao 1) (ln 1) (cp 1), .int .i64 (e 1)] 24)) (.cells #[.bool (ng 2), .slice (ao 2) (ln 2) (cp 2), .int .i64 (e 2)] 24)
    simpa using this
  have hB3 : W.heap[w.heap.size + 1 + 1 + 1]? = some (.cells #[.bool (ng 0), .slice (ao 0) (ln 0) (cp 0), .int .i64 (e 0), .bool (ng 1), .slice (ao 1) (ln 1) (cp 1), .int .i64 (e 1), .bool (ng 2), .slice (ao 2) (ln 2) (cp 2), .int .i64 (e 2)] 24 (0, 0)) := by
    have := heap_alloc_new (((w.alloc (.cells #[.bool (ng 0), .slice (ao 0) (ln 0) (cp 0), .int .i64 (e 0)] 24)).alloc (.cells #[.bool (ng 1), .slice (ao 1) (ln 1) (cp 1), .int .i64 (e 1)] 24)).alloc (.cells #[.bool (ng 2), .slice (ao 2) (ln 2) (cp 2), .int .i64 (e 2)] 24)) (.cells #[.bool (ng 0), .slice (ao 0) (ln 0) (cp 0), .int .i64 (e 0), .bool (ng 1), .slice (ao 1) (ln 1) (cp 1), .int .i64 (e 1), .bool (ng 2), .slice (ao 2) (ln 2) (cp 2), .int .i64 (e 2)] 24)
    rw [hW]; simpa using this
  have hsz : W.heap.size = w.heap.size + 1 + 1 + 1 + 1 := by rw [hW]; simp
  have hBW : Below w.heap.size w W := by rw [hW]; exact ((((Below.refl _ _).alloc (Nat.le_refl _) _).alloc (by simp) _).alloc (by simp <;> omega) _).alloc (by simp <;> omega) _
  have HH : Hid (W.heap[w.heap.size]? = some (.cells #[.bool (ng 0), .slice (ao 0) (ln 0) (cp 0), .int .i64 (e 0)] 24 (0, 0)) ∧ W.heap[w.heap.size + 1]? = some (.cells #[.bool (ng 1), .slice (ao 1) (ln 1) (cp 1), .int .i64 (e 1)] 24 (0, 0)) ∧ W.heap[w.heap.size + 1 + 1]? = some (.cells #[.bool (ng 2), .slice (ao 2) (ln 2) (cp 2), .int .i64 (e 2)] 24 (0, 0)) ∧ W.heap.size = w.heap.size + 1 + 1 + 1 + 1 ∧ Below w.heap.size w W) := ⟨hB0, hB1, hB2, hsz, hBW⟩
  have HL : Hid (∀ wr, Below W.heap.size W wr → ∀ i, i < 3 → wr.cell? ⟨w.heap.size + 1 + 1 + 1, i * 3, none⟩ = some (.bool (ng i)) ∧ wr.cell? ⟨w.heap.size + 1 + 1 + 1, i * 3 + 1, none⟩ = some (.slice (ao i) (ln i) (cp i)) ∧ wr.cell? ⟨w.heap.size + 1 + 1 + 1, i * 3 + 2, none⟩ = some (.int .i64 (e i))) := by
    intro wr hb i hi
    have hg := box_later hB3 hb (by omega)
    rcases (show i = 0 ∨ i = 1 ∨ i = 2 by omega) with rfl | rfl | rfl <;> simp [World.cell?, hg]
  have HA : Hid (∀ wr, Below W.heap.size W wr → ∀ i, i < 3 → Arg wr (ao i) (ln i) (cp i) (z i)) := fun wr hb i hi => ((hA i hi).later hBW).later hb
  have HE : Hid (∀ i, -9223372036854775808 ≤ e i ∧ e i ≤ 9223372036854775807) := he
  have H14 : Hid (∀ W, Below w.heap.size w W → Calls Tryz.prog 27 #[] W fun r w' => r = .returned (.bool true) ∧ Below W.heap.size W w') := k14
  have HZL : Hid (∀ i, i < 3 → dlen (z i) ≤ ln i) := hzl
  have HT : Hid (Tab32 w) := hT
  have HKK : Hid ((∀ i, i < 3 → Fine (ng i) (ln i) (z i) (e i)) → ∃ txy tyz tl tr tp tq tu ts tt td, RingK (ng 0, z 0, e 0) (ng 1, z 1, e 1) (ng 2, z 2, e 2) txy tyz tl tr tp tq tu ts tt td) := hK
  clear hB0 hB1 hB2 hB3 hsz hBW hA k14 he hzl hT hK
  go_enter Tryz.func5, Tryz.ntmps5
  go_wp2_with fail
  rw [← hW]
  clear hW
  go_loopw [8] (fun v wr => ∃ j : Nat, j ≤ 3 ∧ v = .int .i64 j ∧ Hid (Below W.heap.size W wr) ∧ Hid (∀ i, i < j → Fine (ng i) (ln i) (z i) (e i))) (fun v _ => 3 - (intOf v).toNat)
  case atStart => exact ⟨0, Nat.zero_le _, rfl, Below.refl _ _, (fun i hi => absurd hi (Nat.not_lt_zero _) : ∀ i, i < 0 → Fine (ng i) (ln i) (z i) (e i))⟩
  case round =>
    obtain ⟨j, hj, rfl, hB, hok⟩ := hrel
    by_cases hjk : j < 3
    · obtain ⟨a0, a1, a2⟩ := HL.out wr hB.out j hjk
      have hji : (j : Int) < 3 := by omega
      have kv := rvalid (s := ng j) (e := e j) (HA.out wr hB.out j hjk)
      obtain ⟨e1, e2⟩ := HE.out j
      have hlb := (HA.out wr hB.out j hjk).small
      generalize hv : okN (ng j) (ln j) (z j) (e j) = okj at *
      have HV : Hid (okN (ng j) (ln j) (z j) (e j) = okj) := hv
      clear hv
      go_wp2_with fail
      refine kv.mono ?_
      rintro r w1 ⟨rfl, hb1⟩
      have HB1 : Hid (Below W.heap.size W w1) := hB.out.trans (hb1.mono hB.out.size)
      have HW1 : Hid (Below w.heap.size w w1) := HH.out.2.2.2.2.trans (HB1.out.mono HH.out.2.2.2.2.size)
      clear kv hb1 a0 a1 a2
      obtain ⟨a0, a1, a2⟩ := HL.out w1 HB1.out j hjk
      have k2 := H14.out w1 HW1.out
      cases okj
      · go_wp2_with fail
        refine k2.mono ?_
        rintro r w2 ⟨rfl, hb2⟩
        have HW2 : Hid (Below w.heap.size w w2) := HW1.out.trans (hb2.mono HW1.out.size)
        clear k2 hb2 a0 a1 a2
        go_wp2_with fail
        go_ret
        exact ⟨rfl, HW2.out⟩
      · by_cases c1 : ln j ≤ 200
        · have c1' : ¬ (200 : Int) < (ln j : Int) := by omega
          by_cases c2 : e j ≤ 5000
          · have c2' : ¬ (5000 : Int) < e j := by omega
            by_cases c3 : -5000 ≤ e j
            · have c3' : ¬ e j < -5000 := by omega
              clear k2
              go_wp2_with fail
              exact ⟨⟨j + 1, by omega, by simp, HB1, (fun i hi => by
                by_cases e1 : i = j
                · subst e1; exact ⟨HV.out, c1, c3, c2⟩
                · exact hok.out i (by omega) : ∀ i, i < j + 1 → Fine (ng i) (ln i) (z i) (e i))⟩, by simp [intOf]; omega⟩
            · have c3' : e j < -5000 := by omega
              go_wp2_with fail
              refine k2.mono ?_
              rintro r w2 ⟨rfl, hb2⟩
              have HW2 : Hid (Below w.heap.size w w2) := HW1.out.trans (hb2.mono HW1.out.size)
              clear k2 hb2 a0 a1 a2
              go_wp2_with fail
              go_ret
              exact ⟨rfl, HW2.out⟩
          · have c2' : (5000 : Int) < e j := by omega
            go_wp2_with fail
            refine k2.mono ?_
            rintro r w2 ⟨rfl, hb2⟩
            have HW2 : Hid (Below w.heap.size w w2) := HW1.out.trans (hb2.mono HW1.out.size)
            clear k2 hb2 a0 a1 a2
            go_wp2_with fail
            go_ret
            exact ⟨rfl, HW2.out⟩
        · have c1' : (200 : Int) < (ln j : Int) := by omega
          go_wp2_with fail
          refine k2.mono ?_
          rintro r w2 ⟨rfl, hb2⟩
          have HW2 : Hid (Below w.heap.size w w2) := HW1.out.trans (hb2.mono HW1.out.size)
          clear k2 hb2 a0 a1 a2
          go_wp2_with fail
          go_ret
          exact ⟨rfl, HW2.out⟩
    · obtain rfl : j = 3 := by omega
      have HA3 := HA.out wr hB.out
      have hs0 := box_later HH.out.1 hB.out (by have := HH.out.2.2.2.1; omega)
      have hs1 := box_later HH.out.2.1 hB.out (by have := HH.out.2.2.2.1; omega)
      have hs2 := box_later HH.out.2.2.1 hB.out (by have := HH.out.2.2.2.1; omega)
      go_upto_region 7 with fail
      go_cut [9, 10, 11] from 72 to 77 (fun p q r wx => ∃ (g : Nat → Nat) (v : Nat → Value), p = .pointer (some ⟨g 0, 0, none⟩) ∧ q = .pointer (some ⟨g 1, 0, none⟩) ∧ r = .pointer (some ⟨g 2, 0, none⟩) ∧ Hid (Given wr wx 3 ng ln z e g v))
      case first =>
        refine give_region 3 (fun k => 3 + k) (fun k => 72 + 2 * k) (fun k => 73 + 2 * k) (fun k => 9 + k) (fun k => w.heap.size + k) ng ao ln cp z e wr _ rfl (ord_of (by kernel_rfl)) ?_ ?_ ?_ ?_ ?_ ?_ ?_ ?_ ?_ ?_ ?_ ?_
        · intro k hk
          rcases lt3 hk with rfl | rfl | rfl
          · exact ⟨rfl, hs0, HA3 0 hk⟩
          · exact ⟨rfl, hs1, HA3 1 hk⟩
          · exact ⟨rfl, hs2, HA3 2 hk⟩
        · intro k hk
          rcases lt3 hk with rfl | rfl | rfl <;> decide
        · intro k hk
          rcases lt3 hk with rfl | rfl | rfl <;> exact ⟨_, rfl, rfl, rfl, rfl⟩
        · intro k hk
          rcases lt3 hk with rfl | rfl | rfl <;> exact ⟨_, rfl, rfl, ⟨_, rfl⟩, rfl, ⟨_, .data⟩, by simp, rfl, rfl⟩
        · intro k hk
          rcases lt3 hk with rfl | rfl | rfl <;> exact ⟨_, rfl, rfl, rfl, rfl⟩
        · intro k hk
          rcases lt3 hk with rfl | rfl | rfl <;> exact ⟨_, rfl, rfl, rfl, rfl, ⟨⟨_, .data⟩, by simp, rfl, rfl⟩, ⟨_, .data⟩, by simp, rfl, rfl⟩
        · show ∀ j, j < 2 * 3 → gslot (fun k => 72 + 2 * k) (fun k => 73 + 2 * k) j < 205
          decide
        · show ∀ k, k < 3 → 9 + k < 205
          decide
        · decide
        · decide
        · decide
        · intro u v g wx hb hk
          simp only [putL, gslot, show List.range (2 * 3) = [0, 1, 2, 3, 4, 5] from rfl, show List.range 3 = [0, 1, 2] from rfl, List.map_cons, List.map_nil, List.cons_append, List.nil_append, List.foldl_cons, List.foldl_nil, Nat.reduceMod, Nat.reduceDiv, Nat.reduceMul, Nat.reduceAdd, reduceIte, Nat.one_ne_zero, Act.put, List.setIfInBounds_toArray, List.set_cons_zero, List.set_cons_succ]
          go_wp2_with fail
          go_meet
          exact ⟨g, v, rfl, rfl, rfl, hb, hk⟩
      case rest =>
        obtain ⟨txy, tyz, tl, tr, tp, tq, tu, ts, tt, td, K⟩ := HKK.out hok.out
        obtain ⟨w8, hw8⟩ : ∃ w8 : World, w8 = wc := ⟨_, rfl⟩
        subst hw8
        obtain ⟨g, v, rfl, rfl, rfl, HG⟩ := hcut
        have bx : ∀ k, k < 3 → ∃ ak ck, Bn w8 (g k) (ng k) ak (ln k) ck (e k) (ng k, z k, e k) := fun k hk => by
          obtain ⟨h1, h2, h3⟩ := HG.out.2 k hk
          have hF := hok.out k hk
          have hl : dlen (z k) = ln k := by
            refine dlen_here (HZL.out k hk) ?_
            by_cases h0 : ln k = 0
            · exact .inl h0
            · right
              have := hF.1
              unfold okN at this
              rw [if_neg h0] at this
              simp only [Bool.and_eq_true, bne_iff_ne, ne_eq] at this
              exact this.1.1.1.2
          rw [← hl] at h1 ⊢
          obtain ⟨ak, ck, hv, -, -⟩ := h1.at
          have hp := dn_pn (s := ng k) (e := e k) h1
          rw [hv] at hp h3
          exact ⟨ak, ck, h3, hp⟩
        obtain ⟨xa, xc, X0⟩ := bx 0 (by omega)
        obtain ⟨ya, yc, X1⟩ := bx 1 (by omega)
        obtain ⟨za, zc, X2⟩ := bx 2 (by omega)
        replace X0 : Hid (Bn w8 (g 0) (ng 0) xa (ln 0) xc (e 0) (ng 0, z 0, e 0)) := X0
        replace X1 : Hid (Bn w8 (g 1) (ng 1) ya (ln 1) yc (e 1) (ng 1, z 1, e 1)) := X1
        replace X2 : Hid (Bn w8 (g 2) (ng 2) za (ln 2) zc (e 2) (ng 2, z 2, e 2)) := X2
        have HB8 : Hid (Below w.heap.size w w8) := HH.out.2.2.2.2.trans ((hB.out.trans (HG.out.1.mono hB.out.size)).mono HH.out.2.2.2.2.size)
        clear bx HG hs0 hs1 hs2 HA3 HA HL HE HZL HKK HH hok hB
        obtain ⟨⟨p0, p1, p2⟩, -⟩ := box_cells X0.out.1
        obtain ⟨⟨q0, q1, q2⟩, -⟩ := box_cells X1.out.1
        have kc := K.k1 w8 _ _ (HT.out.later HB8.out) X0.out.2 X1.out.2
        go_wp2_with fail
        refine kc.mono ?_
        rintro r v9 ⟨s9, a9, n9, c9, e9, rfl, hp, hb⟩
        obtain ⟨w9, hW9⟩ : ∃ w9, w9 = v9.alloc (.cells #[.bool s9, .slice a9 n9 c9, .int .i64 e9] 25) := ⟨_, rfl⟩
        have hb' : Below w8.heap.size w8 w9 := by rw [hW9]; exact hb.alloc hb.size _
        have X3 : Hid (Bn w9 (v9.heap.size) (s9) a9 (n9) c9 (e9) txy) := (by rw [hW9]; exact Bn.new hp : Bn w9 (v9.heap.size) (s9) a9 (n9) c9 (e9) txy)
        replace X0 : Hid (Bn w9 (g 0) (ng 0) xa (ln 0) xc (e 0) (ng 0, z 0, e 0)) := X0.out.later hb'
        replace X1 : Hid (Bn w9 (g 1) (ng 1) ya (ln 1) yc (e 1) (ng 1, z 1, e 1)) := X1.out.later hb'
        replace X2 : Hid (Bn w9 (g 2) (ng 2) za (ln 2) zc (e 2) (ng 2, z 2, e 2)) := X2.out.later hb'
        have HB9 : Hid (Below w.heap.size w w9) := HB8.out.trans (hb'.mono HB8.out.size)
        clear kc hb hb' hp p0 p1 p2 q0 q1 q2 HB8
        obtain ⟨⟨p0, p1, p2⟩, -⟩ := box_cells X1.out.1
        obtain ⟨⟨q0, q1, q2⟩, -⟩ := box_cells X2.out.1
        have kc := K.k2 w9 _ _ (HT.out.later HB9.out) X1.out.2 X2.out.2
        rw [hW9] at p0 p1 p2 q0 q1 q2
        go_wp2_with fail
        rw [← hW9]
        clear hW9
        refine kc.mono ?_
        rintro r v10 ⟨s10, a10, n10, c10, e10, rfl, hp, hb⟩
        obtain ⟨w10, hW10⟩ : ∃ w10, w10 = v10.alloc (.cells #[.bool s10, .slice a10 n10 c10, .int .i64 e10] 25) := ⟨_, rfl⟩
        have hb' : Below w9.heap.size w9 w10 := by rw [hW10]; exact hb.alloc hb.size _
        have X4 : Hid (Bn w10 (v10.heap.size) (s10) a10 (n10) c10 (e10) tyz) := (by rw [hW10]; exact Bn.new hp : Bn w10 (v10.heap.size) (s10) a10 (n10) c10 (e10) tyz)
        replace X0 : Hid (Bn w10 (g 0) (ng 0) xa (ln 0) xc (e 0) (ng 0, z 0, e 0)) := X0.out.later hb'
        replace X1 : Hid (Bn w10 (g 1) (ng 1) ya (ln 1) yc (e 1) (ng 1, z 1, e 1)) := X1.out.later hb'
        replace X2 : Hid (Bn w10 (g 2) (ng 2) za (ln 2) zc (e 2) (ng 2, z 2, e 2)) := X2.out.later hb'
        replace X3 : Hid (Bn w10 (v9.heap.size) (s9) a9 (n9) c9 (e9) txy) := X3.out.later hb'
        have HB10 : Hid (Below w.heap.size w w10) := HB9.out.trans (hb'.mono HB9.out.size)
        clear kc hb hb' hp p0 p1 p2 q0 q1 q2 HB9
        obtain ⟨⟨p0, p1, p2⟩, -⟩ := box_cells X3.out.1
        obtain ⟨⟨q0, q1, q2⟩, -⟩ := box_cells X2.out.1
        have kc := K.k3 w10 _ _ (HT.out.later HB10.out) X3.out.2 X2.out.2
        rw [hW10] at p0 p1 p2 q0 q1 q2
        go_wp2_with fail
        rw [← hW10]
        clear hW10
        refine kc.mono ?_
        rintro r v11 ⟨s11, a11, n11, c11, e11, rfl, hp, hb⟩
        obtain ⟨w11, hW11⟩ : ∃ w11, w11 = v11.alloc (.cells #[.bool s11, .slice a11 n11 c11, .int .i64 e11] 25) := ⟨_, rfl⟩
        have hb' : Below w10.heap.size w10 w11 := by rw [hW11]; exact hb.alloc hb.size _
        have X5 : Hid (Bn w11 (v11.heap.size) (s11) a11 (n11) c11 (e11) tl) := (by rw [hW11]; exact Bn.new hp : Bn w11 (v11.heap.size) (s11) a11 (n11) c11 (e11) tl)
        replace X0 : Hid (Bn w11 (g 0) (ng 0) xa (ln 0) xc (e 0) (ng 0, z 0, e 0)) := X0.out.later hb'
        replace X1 : Hid (Bn w11 (g 1) (ng 1) ya (ln 1) yc (e 1) (ng 1, z 1, e 1)) := X1.out.later hb'
        replace X2 : Hid (Bn w11 (g 2) (ng 2) za (ln 2) zc (e 2) (ng 2, z 2, e 2)) := X2.out.later hb'
        replace X3 : Hid (Bn w11 (v9.heap.size) (s9) a9 (n9) c9 (e9) txy) := X3.out.later hb'
        replace X4 : Hid (Bn w11 (v10.heap.size) (s10) a10 (n10) c10 (e10) tyz) := X4.out.later hb'
        have HB11 : Hid (Below w.heap.size w w11) := HB10.out.trans (hb'.mono HB10.out.size)
        clear kc hb hb' hp p0 p1 p2 q0 q1 q2 HB10
        obtain ⟨⟨p0, p1, p2⟩, -⟩ := box_cells X0.out.1
        obtain ⟨⟨q0, q1, q2⟩, -⟩ := box_cells X4.out.1
        have kc := K.k4 w11 _ _ (HT.out.later HB11.out) X0.out.2 X4.out.2
        rw [hW11] at p0 p1 p2 q0 q1 q2
        go_wp2_with fail
        rw [← hW11]
        clear hW11
        refine kc.mono ?_
        rintro r v12 ⟨s12, a12, n12, c12, e12, rfl, hp, hb⟩
        obtain ⟨w12, hW12⟩ : ∃ w12, w12 = v12.alloc (.cells #[.bool s12, .slice a12 n12 c12, .int .i64 e12] 25) := ⟨_, rfl⟩
        have hb' : Below w11.heap.size w11 w12 := by rw [hW12]; exact hb.alloc hb.size _
        have X6 : Hid (Bn w12 (v12.heap.size) (s12) a12 (n12) c12 (e12) tr) := (by rw [hW12]; exact Bn.new hp : Bn w12 (v12.heap.size) (s12) a12 (n12) c12 (e12) tr)
        replace X0 : Hid (Bn w12 (g 0) (ng 0) xa (ln 0) xc (e 0) (ng 0, z 0, e 0)) := X0.out.later hb'
        replace X1 : Hid (Bn w12 (g 1) (ng 1) ya (ln 1) yc (e 1) (ng 1, z 1, e 1)) := X1.out.later hb'
        replace X2 : Hid (Bn w12 (g 2) (ng 2) za (ln 2) zc (e 2) (ng 2, z 2, e 2)) := X2.out.later hb'
        replace X3 : Hid (Bn w12 (v9.heap.size) (s9) a9 (n9) c9 (e9) txy) := X3.out.later hb'
        replace X4 : Hid (Bn w12 (v10.heap.size) (s10) a10 (n10) c10 (e10) tyz) := X4.out.later hb'
        replace X5 : Hid (Bn w12 (v11.heap.size) (s11) a11 (n11) c11 (e11) tl) := X5.out.later hb'
        have HB12 : Hid (Below w.heap.size w w12) := HB11.out.trans (hb'.mono HB11.out.size)
        clear kc hb hb' hp p0 p1 p2 q0 q1 q2 HB11
        obtain ⟨⟨p0, p1, p2⟩, -⟩ := box_cells X0.out.1
        obtain ⟨⟨q0, q1, q2⟩, -⟩ := box_cells X4.out.1
        have kc := K.k5 w12 _ _ (HT.out.later HB12.out) X0.out.2 X4.out.2
        rw [hW12] at p0 p1 p2 q0 q1 q2
        go_wp2_with fail
        rw [← hW12]
        clear hW12
        refine kc.mono ?_
        rintro r v13 ⟨s13, a13, n13, c13, e13, rfl, hp, hb⟩
        obtain ⟨w13, hW13⟩ : ∃ w13, w13 = v13.alloc (.cells #[.bool s13, .slice a13 n13 c13, .int .i64 e13] 25) := ⟨_, rfl⟩
        have hb' : Below w12.heap.size w12 w13 := by rw [hW13]; exact hb.alloc hb.size _
        have X7 : Hid (Bn w13 (v13.heap.size) (s13) a13 (n13) c13 (e13) tp) := (by rw [hW13]; exact Bn.new hp : Bn w13 (v13.heap.size) (s13) a13 (n13) c13 (e13) tp)
        replace X0 : Hid (Bn w13 (g 0) (ng 0) xa (ln 0) xc (e 0) (ng 0, z 0, e 0)) := X0.out.later hb'
        replace X1 : Hid (Bn w13 (g 1) (ng 1) ya (ln 1) yc (e 1) (ng 1, z 1, e 1)) := X1.out.later hb'
        replace X2 : Hid (Bn w13 (g 2) (ng 2) za (ln 2) zc (e 2) (ng 2, z 2, e 2)) := X2.out.later hb'
        replace X3 : Hid (Bn w13 (v9.heap.size) (s9) a9 (n9) c9 (e9) txy) := X3.out.later hb'
        replace X4 : Hid (Bn w13 (v10.heap.size) (s10) a10 (n10) c10 (e10) tyz) := X4.out.later hb'
        replace X5 : Hid (Bn w13 (v11.heap.size) (s11) a11 (n11) c11 (e11) tl) := X5.out.later hb'
        replace X6 : Hid (Bn w13 (v12.heap.size) (s12) a12 (n12) c12 (e12) tr) := X6.out.later hb'
        have HB13 : Hid (Below w.heap.size w w13) := HB12.out.trans (hb'.mono HB12.out.size)
        clear kc hb hb' hp p0 p1 p2 q0 q1 q2 HB12
        obtain ⟨⟨p0, p1, p2⟩, -⟩ := box_cells X0.out.1
        obtain ⟨⟨q0, q1, q2⟩, -⟩ := box_cells X1.out.1
        have kc := K.k6 w13 _ _ (HT.out.later HB13.out) X0.out.2 X1.out.2
        rw [hW13] at p0 p1 p2 q0 q1 q2
        go_wp2_with fail
        rw [← hW13]
        clear hW13
        refine kc.mono ?_
        rintro r v14 ⟨s14, a14, n14, c14, e14, rfl, hp, hb⟩
        obtain ⟨w14, hW14⟩ : ∃ w14, w14 = v14.alloc (.cells #[.bool s14, .slice a14 n14 c14, .int .i64 e14] 25) := ⟨_, rfl⟩
        have hb' : Below w13.heap.size w13 w14 := by rw [hW14]; exact hb.alloc hb.size _
        have X8 : Hid (Bn w14 (v14.heap.size) (s14) a14 (n14) c14 (e14) tq) := (by rw [hW14]; exact Bn.new hp : Bn w14 (v14.heap.size) (s14) a14 (n14) c14 (e14) tq)
        replace X0 : Hid (Bn w14 (g 0) (ng 0) xa (ln 0) xc (e 0) (ng 0, z 0, e 0)) := X0.out.later hb'
        replace X1 : Hid (Bn w14 (g 1) (ng 1) ya (ln 1) yc (e 1) (ng 1, z 1, e 1)) := X1.out.later hb'
        replace X2 : Hid (Bn w14 (g 2) (ng 2) za (ln 2) zc (e 2) (ng 2, z 2, e 2)) := X2.out.later hb'
        replace X3 : Hid (Bn w14 (v9.heap.size) (s9) a9 (n9) c9 (e9) txy) := X3.out.later hb'
        replace X4 : Hid (Bn w14 (v10.heap.size) (s10) a10 (n10) c10 (e10) tyz) := X4.out.later hb'
        replace X5 : Hid (Bn w14 (v11.heap.size) (s11) a11 (n11) c11 (e11) tl) := X5.out.later hb'
        replace X6 : Hid (Bn w14 (v12.heap.size) (s12) a12 (n12) c12 (e12) tr) := X6.out.later hb'
        replace X7 : Hid (Bn w14 (v13.heap.size) (s13) a13 (n13) c13 (e13) tp) := X7.out.later hb'
        have HB14 : Hid (Below w.heap.size w w14) := HB13.out.trans (hb'.mono HB13.out.size)
        clear kc hb hb' hp p0 p1 p2 q0 q1 q2 HB13
        obtain ⟨⟨p0, p1, p2⟩, -⟩ := box_cells X0.out.1
        obtain ⟨⟨q0, q1, q2⟩, -⟩ := box_cells X2.out.1
        have kc := K.k7 w14 _ _ (HT.out.later HB14.out) X0.out.2 X2.out.2
        rw [hW14] at p0 p1 p2 q0 q1 q2
        go_wp2_with fail
        rw [← hW14]
        clear hW14
        refine kc.mono ?_
        rintro r v15 ⟨s15, a15, n15, c15, e15, rfl, hp, hb⟩
        obtain ⟨w15, hW15⟩ : ∃ w15, w15 = v15.alloc (.cells #[.bool s15, .slice a15 n15 c15, .int .i64 e15] 25) := ⟨_, rfl⟩
        have hb' : Below w14.heap.size w14 w15 := by rw [hW15]; exact hb.alloc hb.size _
        have X9 : Hid (Bn w15 (v15.heap.size) (s15) a15 (n15) c15 (e15) tu) := (by rw [hW15]; exact Bn.new hp : Bn w15 (v15.heap.size) (s15) a15 (n15) c15 (e15) tu)
        replace X0 : Hid (Bn w15 (g 0) (ng 0) xa (ln 0) xc (e 0) (ng 0, z 0, e 0)) := X0.out.later hb'
        replace X1 : Hid (Bn w15 (g 1) (ng 1) ya (ln 1) yc (e 1) (ng 1, z 1, e 1)) := X1.out.later hb'
        replace X2 : Hid (Bn w15 (g 2) (ng 2) za (ln 2) zc (e 2) (ng 2, z 2, e 2)) := X2.out.later hb'
        replace X3 : Hid (Bn w15 (v9.heap.size) (s9) a9 (n9) c9 (e9) txy) := X3.out.later hb'
        replace X4 : Hid (Bn w15 (v10.heap.size) (s10) a10 (n10) c10 (e10) tyz) := X4.out.later hb'
        replace X5 : Hid (Bn w15 (v11.heap.size) (s11) a11 (n11) c11 (e11) tl) := X5.out.later hb'
        replace X6 : Hid (Bn w15 (v12.heap.size) (s12) a12 (n12) c12 (e12) tr) := X6.out.later hb'
        replace X7 : Hid (Bn w15 (v13.heap.size) (s13) a13 (n13) c13 (e13) tp) := X7.out.later hb'
        replace X8 : Hid (Bn w15 (v14.heap.size) (s14) a14 (n14) c14 (e14) tq) := X8.out.later hb'
        have HB15 : Hid (Below w.heap.size w w15) := HB14.out.trans (hb'.mono HB14.out.size)
        clear kc hb hb' hp p0 p1 p2 q0 q1 q2 HB14
        obtain ⟨⟨p0, p1, p2⟩, -⟩ := box_cells X8.out.1
        obtain ⟨⟨q0, q1, q2⟩, -⟩ := box_cells X9.out.1
        have kc := K.k8 w15 _ _ (HT.out.later HB15.out) X8.out.2 X9.out.2
        rw [hW15] at p0 p1 p2 q0 q1 q2
        go_wp2_with fail
        rw [← hW15]
        clear hW15
        refine kc.mono ?_
        rintro r v16 ⟨s16, a16, n16, c16, e16, rfl, hp, hb⟩
        obtain ⟨w16, hW16⟩ : ∃ w16, w16 = v16.alloc (.cells #[.bool s16, .slice a16 n16 c16, .int .i64 e16] 25) := ⟨_, rfl⟩
        have hb' : Below w15.heap.size w15 w16 := by rw [hW16]; exact hb.alloc hb.size _
        have X10 : Hid (Bn w16 (v16.heap.size) (s16) a16 (n16) c16 (e16) ts) := (by rw [hW16]; exact Bn.new hp : Bn w16 (v16.heap.size) (s16) a16 (n16) c16 (e16) ts)
        replace X0 : Hid (Bn w16 (g 0) (ng 0) xa (ln 0) xc (e 0) (ng 0, z 0, e 0)) := X0.out.later hb'
        replace X1 : Hid (Bn w16 (g 1) (ng 1) ya (ln 1) yc (e 1) (ng 1, z 1, e 1)) := X1.out.later hb'
        replace X2 : Hid (Bn w16 (g 2) (ng 2) za (ln 2) zc (e 2) (ng 2, z 2, e 2)) := X2.out.later hb'
        replace X3 : Hid (Bn w16 (v9.heap.size) (s9) a9 (n9) c9 (e9) txy) := X3.out.later hb'
        replace X4 : Hid (Bn w16 (v10.heap.size) (s10) a10 (n10) c10 (e10) tyz) := X4.out.later hb'
        replace X5 : Hid (Bn w16 (v11.heap.size) (s11) a11 (n11) c11 (e11) tl) := X5.out.later hb'
        replace X6 : Hid (Bn w16 (v12.heap.size) (s12) a12 (n12) c12 (e12) tr) := X6.out.later hb'
        replace X7 : Hid (Bn w16 (v13.heap.size) (s13) a13 (n13) c13 (e13) tp) := X7.out.later hb'
        replace X8 : Hid (Bn w16 (v14.heap.size) (s14) a14 (n14) c14 (e14) tq) := X8.out.later hb'
        replace X9 : Hid (Bn w16 (v15.heap.size) (s15) a15 (n15) c15 (e15) tu) := X9.out.later hb'
        have HB16 : Hid (Below w.heap.size w w16) := HB15.out.trans (hb'.mono HB15.out.size)
        clear kc hb hb' hp p0 p1 p2 q0 q1 q2 HB15
        obtain ⟨⟨p0, p1, p2⟩, -⟩ := box_cells X1.out.1
        obtain ⟨⟨q0, q1, q2⟩, -⟩ := box_cells X0.out.1
        have kc := K.k9 w16 _ _ (HT.out.later HB16.out) X1.out.2 X0.out.2
        rw [hW16] at p0 p1 p2 q0 q1 q2
        go_wp2_with fail
        rw [← hW16]
        clear hW16
        refine kc.mono ?_
        rintro r v17 ⟨s17, a17, n17, c17, e17, rfl, hp, hb⟩
        obtain ⟨w17, hW17⟩ : ∃ w17, w17 = v17.alloc (.cells #[.bool s17, .slice a17 n17 c17, .int .i64 e17] 25) := ⟨_, rfl⟩
        have hb' : Below w16.heap.size w16 w17 := by rw [hW17]; exact hb.alloc hb.size _
        have X11 : Hid (Bn w17 (v17.heap.size) (s17) a17 (n17) c17 (e17) tt) := (by rw [hW17]; exact Bn.new hp : Bn w17 (v17.heap.size) (s17) a17 (n17) c17 (e17) tt)
        replace X0 : Hid (Bn w17 (g 0) (ng 0) xa (ln 0) xc (e 0) (ng 0, z 0, e 0)) := X0.out.later hb'
        replace X1 : Hid (Bn w17 (g 1) (ng 1) ya (ln 1) yc (e 1) (ng 1, z 1, e 1)) := X1.out.later hb'
        replace X2 : Hid (Bn w17 (g 2) (ng 2) za (ln 2) zc (e 2) (ng 2, z 2, e 2)) := X2.out.later hb'
        replace X3 : Hid (Bn w17 (v9.heap.size) (s9) a9 (n9) c9 (e9) txy) := X3.out.later hb'
        replace X4 : Hid (Bn w17 (v10.heap.size) (s10) a10 (n10) c10 (e10) tyz) := X4.out.later hb'
        replace X5 : Hid (Bn w17 (v11.heap.size) (s11) a11 (n11) c11 (e11) tl) := X5.out.later hb'
        replace X6 : Hid (Bn w17 (v12.heap.size) (s12) a12 (n12) c12 (e12) tr) := X6.out.later hb'
        replace X7 : Hid (Bn w17 (v13.heap.size) (s13) a13 (n13) c13 (e13) tp) := X7.out.later hb'
        replace X8 : Hid (Bn w17 (v14.heap.size) (s14) a14 (n14) c14 (e14) tq) := X8.out.later hb'
        replace X9 : Hid (Bn w17 (v15.heap.size) (s15) a15 (n15) c15 (e15) tu) := X9.out.later hb'
        replace X10 : Hid (Bn w17 (v16.heap.size) (s16) a16 (n16) c16 (e16) ts) := X10.out.later hb'
        have HB17 : Hid (Below w.heap.size w w17) := HB16.out.trans (hb'.mono HB16.out.size)
        clear kc hb hb' hp p0 p1 p2 q0 q1 q2 HB16
        obtain ⟨⟨p0, p1, p2⟩, -⟩ := box_cells X0.out.1
        have kc := K.k10 w17 _ _ (HT.out.later HB17.out) X0.out.2 X0.out.2
        rw [hW17] at p0 p1 p2
        go_wp2_with fail
        rw [← hW17]
        clear hW17
        refine kc.mono ?_
        rintro r v18 ⟨s18, a18, n18, c18, e18, rfl, hp, hb⟩
        obtain ⟨w18, hW18⟩ : ∃ w18, w18 = v18.alloc (.cells #[.bool s18, .slice a18 n18 c18, .int .i64 e18] 25) := ⟨_, rfl⟩
        have hb' : Below w17.heap.size w17 w18 := by rw [hW18]; exact hb.alloc hb.size _
        have X12 : Hid (Bn w18 (v18.heap.size) (s18) a18 (n18) c18 (e18) td) := (by rw [hW18]; exact Bn.new hp : Bn w18 (v18.heap.size) (s18) a18 (n18) c18 (e18) td)
        replace X0 : Hid (Bn w18 (g 0) (ng 0) xa (ln 0) xc (e 0) (ng 0, z 0, e 0)) := X0.out.later hb'
        replace X1 : Hid (Bn w18 (g 1) (ng 1) ya (ln 1) yc (e 1) (ng 1, z 1, e 1)) := X1.out.later hb'
        replace X2 : Hid (Bn w18 (g 2) (ng 2) za (ln 2) zc (e 2) (ng 2, z 2, e 2)) := X2.out.later hb'
        replace X3 : Hid (Bn w18 (v9.heap.size) (s9) a9 (n9) c9 (e9) txy) := X3.out.later hb'
        replace X4 : Hid (Bn w18 (v10.heap.size) (s10) a10 (n10) c10 (e10) tyz) := X4.out.later hb'
        replace X5 : Hid (Bn w18 (v11.heap.size) (s11) a11 (n11) c11 (e11) tl) := X5.out.later hb'
        replace X6 : Hid (Bn w18 (v12.heap.size) (s12) a12 (n12) c12 (e12) tr) := X6.out.later hb'
        replace X7 : Hid (Bn w18 (v13.heap.size) (s13) a13 (n13) c13 (e13) tp) := X7.out.later hb'
        replace X8 : Hid (Bn w18 (v14.heap.size) (s14) a14 (n14) c14 (e14) tq) := X8.out.later hb'
        replace X9 : Hid (Bn w18 (v15.heap.size) (s15) a15 (n15) c15 (e15) tu) := X9.out.later hb'
        replace X10 : Hid (Bn w18 (v16.heap.size) (s16) a16 (n16) c16 (e16) ts) := X10.out.later hb'
        replace X11 : Hid (Bn w18 (v17.heap.size) (s17) a17 (n17) c17 (e17) tt) := X11.out.later hb'
        have HB18 : Hid (Below w.heap.size w w18) := HB17.out.trans (hb'.mono HB17.out.size)
        clear kc hb hb' hp p0 p1 p2 HB17
        obtain ⟨⟨p0, p1, p2⟩, -⟩ := box_cells X5.out.1
        obtain ⟨⟨q0, q1, q2⟩, -⟩ := box_cells X6.out.1
        have kc := K.s1 w18 _ _ X5.out.2 X6.out.2
        rw [hW18] at p0 p1 p2 q0 q1 q2
        go_wp2_with fail
        rw [← hW18]
        clear hW18
        refine kc.mono ?_
        rintro r w19 ⟨rfl, hb'⟩
        replace X5 : Hid (Bn w19 (v11.heap.size) (s11) a11 (n11) c11 (e11) tl) := X5.out.later hb'
        replace X6 : Hid (Bn w19 (v12.heap.size) (s12) a12 (n12) c12 (e12) tr) := X6.out.later hb'
        replace X7 : Hid (Bn w19 (v13.heap.size) (s13) a13 (n13) c13 (e13) tp) := X7.out.later hb'
        replace X8 : Hid (Bn w19 (v14.heap.size) (s14) a14 (n14) c14 (e14) tq) := X8.out.later hb'
        replace X10 : Hid (Bn w19 (v16.heap.size) (s16) a16 (n16) c16 (e16) ts) := X10.out.later hb'
        replace X11 : Hid (Bn w19 (v17.heap.size) (s17) a17 (n17) c17 (e17) tt) := X11.out.later hb'
        replace X12 : Hid (Bn w19 (v18.heap.size) (s18) a18 (n18) c18 (e18) td) := X12.out.later hb'
        have HB19 : Hid (Below w.heap.size w w19) := HB18.out.trans (hb'.mono HB18.out.size)
        clear kc hb' p0 p1 p2 q0 q1 q2 HB18
        obtain ⟨⟨p0, p1, p2⟩, -⟩ := box_cells X7.out.1
        obtain ⟨⟨q0, q1, q2⟩, -⟩ := box_cells X10.out.1
        have kc := K.s2 w19 _ _ X7.out.2 X10.out.2
        go_wp2_with fail
        refine kc.mono ?_
        rintro r w20 ⟨rfl, hb'⟩
        replace X5 : Hid (Bn w20 (v11.heap.size) (s11) a11 (n11) c11 (e11) tl) := X5.out.later hb'
        replace X6 : Hid (Bn w20 (v12.heap.size) (s12) a12 (n12) c12 (e12) tr) := X6.out.later hb'
        replace X7 : Hid (Bn w20 (v13.heap.size) (s13) a13 (n13) c13 (e13) tp) := X7.out.later hb'
        replace X8 : Hid (Bn w20 (v14.heap.size) (s14) a14 (n14) c14 (e14) tq) := X8.out.later hb'
        replace X10 : Hid (Bn w20 (v16.heap.size) (s16) a16 (n16) c16 (e16) ts) := X10.out.later hb'
        replace X11 : Hid (Bn w20 (v17.heap.size) (s17) a17 (n17) c17 (e17) tt) := X11.out.later hb'
        replace X12 : Hid (Bn w20 (v18.heap.size) (s18) a18 (n18) c18 (e18) td) := X12.out.later hb'
        have HB20 : Hid (Below w.heap.size w w20) := HB19.out.trans (hb'.mono HB19.out.size)
        clear kc hb' p0 p1 p2 q0 q1 q2 HB19
        obtain ⟨⟨p0, p1, p2⟩, -⟩ := box_cells X8.out.1
        obtain ⟨⟨q0, q1, q2⟩, -⟩ := box_cells X11.out.1
        have kc := K.s3 w20 _ _ X8.out.2 X11.out.2
        go_wp2_with fail
        refine kc.mono ?_
        rintro r w21 ⟨rfl, hb'⟩
        replace X5 : Hid (Bn w21 (v11.heap.size) (s11) a11 (n11) c11 (e11) tl) := X5.out.later hb'
        replace X6 : Hid (Bn w21 (v12.heap.size) (s12) a12 (n12) c12 (e12) tr) := X6.out.later hb'
        replace X7 : Hid (Bn w21 (v13.heap.size) (s13) a13 (n13) c13 (e13) tp) := X7.out.later hb'
        replace X8 : Hid (Bn w21 (v14.heap.size) (s14) a14 (n14) c14 (e14) tq) := X8.out.later hb'
        replace X10 : Hid (Bn w21 (v16.heap.size) (s16) a16 (n16) c16 (e16) ts) := X10.out.later hb'
        replace X11 : Hid (Bn w21 (v17.heap.size) (s17) a17 (n17) c17 (e17) tt) := X11.out.later hb'
        replace X12 : Hid (Bn w21 (v18.heap.size) (s18) a18 (n18) c18 (e18) td) := X12.out.later hb'
        have HB21 : Hid (Below w.heap.size w w21) := HB20.out.trans (hb'.mono HB20.out.size)
        clear kc hb' p0 p1 p2 q0 q1 q2 HB20
        obtain ⟨⟨p0, p1, p2⟩, -⟩ := box_cells X12.out.1
        have kc := K.n1 w21 _ X12.out.2
        go_wp2_with fail
        refine kc.mono ?_
        rintro r w22 ⟨rfl, hb'⟩
        replace X5 : Hid (Bn w22 (v11.heap.size) (s11) a11 (n11) c11 (e11) tl) := X5.out.later hb'
        replace X6 : Hid (Bn w22 (v12.heap.size) (s12) a12 (n12) c12 (e12) tr) := X6.out.later hb'
        replace X7 : Hid (Bn w22 (v13.heap.size) (s13) a13 (n13) c13 (e13) tp) := X7.out.later hb'
        replace X8 : Hid (Bn w22 (v14.heap.size) (s14) a14 (n14) c14 (e14) tq) := X8.out.later hb'
        replace X10 : Hid (Bn w22 (v16.heap.size) (s16) a16 (n16) c16 (e16) ts) := X10.out.later hb'
        replace X11 : Hid (Bn w22 (v17.heap.size) (s17) a17 (n17) c17 (e17) tt) := X11.out.later hb'
        replace X12 : Hid (Bn w22 (v18.heap.size) (s18) a18 (n18) c18 (e18) td) := X12.out.later hb'
        have HB22 : Hid (Below w.heap.size w w22) := HB21.out.trans (hb'.mono HB21.out.size)
        clear kc hb' p0 p1 p2 HB21
        obtain ⟨⟨p0, p1, p2⟩, -⟩ := box_cells X5.out.1
        have kc := K.v1 w22 _ X5.out.2
        go_wp2_with fail
        refine kc.mono ?_
        rintro r w23 ⟨rfl, hb'⟩
        replace X5 : Hid (Bn w23 (v11.heap.size) (s11) a11 (n11) c11 (e11) tl) := X5.out.later hb'
        replace X6 : Hid (Bn w23 (v12.heap.size) (s12) a12 (n12) c12 (e12) tr) := X6.out.later hb'
        replace X7 : Hid (Bn w23 (v13.heap.size) (s13) a13 (n13) c13 (e13) tp) := X7.out.later hb'
        replace X8 : Hid (Bn w23 (v14.heap.size) (s14) a14 (n14) c14 (e14) tq) := X8.out.later hb'
        replace X10 : Hid (Bn w23 (v16.heap.size) (s16) a16 (n16) c16 (e16) ts) := X10.out.later hb'
        replace X11 : Hid (Bn w23 (v17.heap.size) (s17) a17 (n17) c17 (e17) tt) := X11.out.later hb'
        replace X12 : Hid (Bn w23 (v18.heap.size) (s18) a18 (n18) c18 (e18) td) := X12.out.later hb'
        have HB23 : Hid (Below w.heap.size w w23) := HB22.out.trans (hb'.mono HB22.out.size)
        clear kc hb' p0 p1 p2 HB22
        obtain ⟨⟨p0, p1, p2⟩, -⟩ := box_cells X7.out.1
        have kc := K.v2 w23 _ X7.out.2
        go_wp2_with fail
        refine kc.mono ?_
        rintro r w24 ⟨rfl, hb'⟩
        replace X5 : Hid (Bn w24 (v11.heap.size) (s11) a11 (n11) c11 (e11) tl) := X5.out.later hb'
        replace X6 : Hid (Bn w24 (v12.heap.size) (s12) a12 (n12) c12 (e12) tr) := X6.out.later hb'
        replace X7 : Hid (Bn w24 (v13.heap.size) (s13) a13 (n13) c13 (e13) tp) := X7.out.later hb'
        replace X8 : Hid (Bn w24 (v14.heap.size) (s14) a14 (n14) c14 (e14) tq) := X8.out.later hb'
        replace X10 : Hid (Bn w24 (v16.heap.size) (s16) a16 (n16) c16 (e16) ts) := X10.out.later hb'
        replace X11 : Hid (Bn w24 (v17.heap.size) (s17) a17 (n17) c17 (e17) tt) := X11.out.later hb'
        replace X12 : Hid (Bn w24 (v18.heap.size) (s18) a18 (n18) c18 (e18) td) := X12.out.later hb'
        have HB24 : Hid (Below w.heap.size w w24) := HB23.out.trans (hb'.mono HB23.out.size)
        clear kc hb' p0 p1 p2 HB23
        have kc := H14.out w24 HB24.out
        go_wp2_with fail
        refine kc.mono ?_
        rintro r w25 ⟨rfl, hb'⟩
        have HB25 : Hid (Below w.heap.size w w25) := HB24.out.trans (hb'.mono HB24.out.size)
        clear kc hb'
        go_wp2_with fail
        go_ret
        exact ⟨rfl, HB25.out⟩
end Go.Proofs.YtejefbnfmglfeaaGreatDoor

/- Abs, Neg: of numbers that may be, and refused. -/
namespace Go.Proofs.YtejefbnfmglfeaaGreatDoor
set_option linter.unusedVariables false
set_option linter.unusedSimpArgs false
open Go.RowKit

set_option maxHeartbeats 4000000 in
set_option maxRecDepth 200000 in
theorem abs_no (na : Bool) (ua : Option Addr) (un uc : Nat) (ea : Int) (w : World)
    (k43 : ∀ W g, Below w.heap.size w W → W.heap[g]? = some (.cells #[.bool na, .slice ua un uc, .int .i64 ea] 25 (0, 0)) → Calls Tryz.prog 42 #[.slice (some ⟨g, 0, none⟩) 1 1] W fun r w' => r = .returned (.bool false) ∧ Below W.heap.size W w') :
    Calls Tryz.prog 15 #[.agg #[.bool na, .slice ua un uc, .int .i64 ea]] w fun r w' => r = .returned (.agg #[.bool false, .slice none 0 0, .int .i64 0]) ∧ Below w.heap.size w w' := by
  obtain ⟨W, hW⟩ : ∃ W, W = (w.alloc (.cells #[.bool na, .slice ua un uc, .int .i64 ea] 25)).alloc (.cells #[.bool false, .slice none 0 0, .int .i64 0] 25) := ⟨_, rfl⟩
  have hBW : Below w.heap.size w W := by rw [hW]; exact ((Below.refl _ _).alloc (Nat.le_refl _) _).alloc (by simp) _
  have hbB : W.heap[w.heap.size + 1]? = some (.cells #[.bool false, .slice none 0 0, .int .i64 0] 25 (0, 0)) := by
    have := heap_alloc_new (w.alloc (.cells #[.bool na, .slice ua un uc, .int .i64 ea] 25)) (.cells #[.bool false, .slice none 0 0, .int .i64 0] 25)
    rw [hW]; simpa using this
  have hsz : W.heap.size = w.heap.size + 1 + 1 := by rw [hW]; simp
  have k1 := k43 (W.alloc (.cells #[.bool na, .slice ua un uc, .int .i64 ea] 25)) (w.heap.size + 1 + 1) (hBW.alloc hBW.size _) (by rw [← hsz]; exact heap_alloc_new _ _)
  have HX : Hid (Below w.heap.size w W ∧ W.heap.size = w.heap.size + 1 + 1 ∧ W.heap[w.heap.size + 1]? = some (.cells #[.bool false, .slice none 0 0, .int .i64 0] 25 (0, 0))) := ⟨hBW, hsz, hbB⟩
  clear hBW hsz hbB k43
  go_enter Tryz.func15, Tryz.ntmps15
  go_wp2_with fail
  rw [← hW]
  clear hW
  refine k1.mono ?_
  rintro r w1 ⟨rfl, hb1⟩
  have HB1 : Hid (Below W.heap.size W w1) := ((Below.refl W.heap.size W).alloc (Nat.le_refl _) _).trans (hb1.mono (by simp))
  have HC : Hid (w1.heap[w.heap.size + 1]? = some (.cells #[.bool false, .slice none 0 0, .int .i64 0] 25 (0, 0))) := box_later HX.out.2.2 HB1.out (by have := HX.out.2.1; omega)
  obtain ⟨⟨x1, x2, x3⟩, x4, x5, x6⟩ := box_cells HC.out
  clear k1 hb1
  go_wp2
  refine bodyPost_ret (results_cell_row rfl _ _ (w.heap.size + 1) 25 #[.bool false, .slice none 0 0, .int .i64 0] (0, 0) _ rfl (store3 _ _ _ HC.out) Tryz.underlying25 rfl Tryz.info25) rfl ?_
  obtain ⟨q1, q2, -⟩ := HX.out
  exact ⟨rfl, below_store3 (q1.trans (HB1.out.mono q1.size)) (by omega) _ _ _⟩

set_option maxHeartbeats 4000000 in
set_option maxRecDepth 200000 in
theorem neg_no (na : Bool) (ua : Option Addr) (un uc : Nat) (ea : Int) (w : World)
    (k43 : ∀ W g, Below w.heap.size w W → W.heap[g]? = some (.cells #[.bool na, .slice ua un uc, .int .i64 ea] 25 (0, 0)) → Calls Tryz.prog 42 #[.slice (some ⟨g, 0, none⟩) 1 1] W fun r w' => r = .returned (.bool false) ∧ Below W.heap.size W w') :
    Calls Tryz.prog 13 #[.agg #[.bool na, .slice ua un uc, .int .i64 ea]] w fun r w' => r = .returned (.agg #[.bool false, .slice none 0 0, .int .i64 0]) ∧ Below w.heap.size w w' := by
  obtain ⟨W, hW⟩ : ∃ W, W = (w.alloc (.cells #[.bool na, .slice ua un uc, .int .i64 ea] 25)).alloc (.cells #[.bool false, .slice none 0 0, .int .i64 0] 25) := ⟨_, rfl⟩
  have hBW : Below w.heap.size w W := by rw [hW]; exact ((Below.refl _ _).alloc (Nat.le_refl _) _).alloc (by simp) _
  have hbB : W.heap[w.heap.size + 1]? = some (.cells #[.bool false, .slice none 0 0, .int .i64 0] 25 (0, 0)) := by
    have := heap_alloc_new (w.alloc (.cells #[.bool na, .slice ua un uc, .int .i64 ea] 25)) (.cells #[.bool false, .slice none 0 0, .int .i64 0] 25)
    rw [hW]; simpa using this
  have hsz : W.heap.size = w.heap.size + 1 + 1 := by rw [hW]; simp
  have k1 := k43 (W.alloc (.cells #[.bool na, .slice ua un uc, .int .i64 ea] 25)) (w.heap.size + 1 + 1) (hBW.alloc hBW.size _) (by rw [← hsz]; exact heap_alloc_new _ _)
  have HX : Hid (Below w.heap.size w W ∧ W.heap.size = w.heap.size + 1 + 1 ∧ W.heap[w.heap.size + 1]? = some (.cells #[.bool false, .slice none 0 0, .int .i64 0] 25 (0, 0))) := ⟨hBW, hsz, hbB⟩
  clear hBW hsz hbB k43
  go_enter Tryz.func13, Tryz.ntmps13
  go_wp2_with fail
  rw [← hW]
  clear hW
  refine k1.mono ?_
  rintro r w1 ⟨rfl, hb1⟩
  have HB1 : Hid (Below W.heap.size W w1) := ((Below.refl W.heap.size W).alloc (Nat.le_refl _) _).trans (hb1.mono (by simp))
  have HC : Hid (w1.heap[w.heap.size + 1]? = some (.cells #[.bool false, .slice none 0 0, .int .i64 0] 25 (0, 0))) := box_later HX.out.2.2 HB1.out (by have := HX.out.2.1; omega)
  obtain ⟨⟨x1, x2, x3⟩, x4, x5, x6⟩ := box_cells HC.out
  clear k1 hb1
  go_wp2
  refine bodyPost_ret (results_cell_row rfl _ _ (w.heap.size + 1) 25 #[.bool false, .slice none 0 0, .int .i64 0] (0, 0) _ rfl (store3 _ _ _ HC.out) Tryz.underlying25 rfl Tryz.info25) rfl ?_
  obtain ⟨q1, q2, -⟩ := HX.out
  exact ⟨rfl, below_store3 (q1.trans (HB1.out.mono q1.size)) (by omega) _ _ _⟩

set_option maxHeartbeats 4000000 in
set_option maxRecDepth 200000 in
theorem abs_1 (na : Bool) (ua : Option Addr) (un uc x : Nat) (ea : Int) (w : World) (h1 : Is w (.slice ua un uc) x) (hx : dlen x ≤ 1000000)
    (k43 : ∀ W g, Below w.heap.size w W → W.heap[g]? = some (.cells #[.bool na, .slice ua un uc, .int .i64 ea] 25 (0, 0)) → Calls Tryz.prog 42 #[.slice (some ⟨g, 0, none⟩) 1 1] W fun r w' => r = .returned (.bool true) ∧ Below W.heap.size W w') :
    Calls Tryz.prog 15 #[.agg #[.bool na, .slice ua un uc, .int .i64 ea]] w fun r w' => ∃ v, r = .returned (.agg #[.bool false, v, .int .i64 ea]) ∧ Own w' w.heap.size v x ∧ Below w.heap.size w w' := by
  obtain ⟨W, hW⟩ : ∃ W, W = (w.alloc (.cells #[.bool na, .slice ua un uc, .int .i64 ea] 25)).alloc (.cells #[.bool false, .slice none 0 0, .int .i64 0] 25) := ⟨_, rfl⟩
  have hBW : Below w.heap.size w W := by rw [hW]; exact ((Below.refl _ _).alloc (Nat.le_refl _) _).alloc (by simp) _
  have hbA : W.heap[w.heap.size]? = some (.cells #[.bool na, .slice ua un uc, .int .i64 ea] 25 (0, 0)) := by
    rw [hW, Below.heap_alloc _ _ _ (by simp)]; exact heap_alloc_new _ _
  have hbB : W.heap[w.heap.size + 1]? = some (.cells #[.bool false, .slice none 0 0, .int .i64 0] 25 (0, 0)) := by
    have := heap_alloc_new (w.alloc (.cells #[.bool na, .slice ua un uc, .int .i64 ea] 25)) (.cells #[.bool false, .slice none 0 0, .int .i64 0] 25)
    rw [hW]; simpa using this
  have hsz : W.heap.size = w.heap.size + 1 + 1 := by rw [hW]; simp
  have k1 := k43 (W.alloc (.cells #[.bool na, .slice ua un uc, .int .i64 ea] 25)) (w.heap.size + 1 + 1) (hBW.alloc hBW.size _) (by rw [← hsz]; exact heap_alloc_new _ _)
  have HX : Hid (Below w.heap.size w W ∧ W.heap.size = w.heap.size + 1 + 1 ∧ W.heap[w.heap.size]? = some (.cells #[.bool na, .slice ua un uc, .int .i64 ea] 25 (0, 0)) ∧ W.heap[w.heap.size + 1]? = some (.cells #[.bool false, .slice none 0 0, .int .i64 0] 25 (0, 0))) := ⟨hBW, hsz, hbA, hbB⟩
  have HI : Hid (Is w (.slice ua un uc) x ∧ dlen x ≤ 1000000) := ⟨h1, hx⟩
  clear hBW hsz hbA hbB k43 h1 hx
  go_enter Tryz.func15, Tryz.ntmps15
  go_wp2_with fail
  rw [← hW]
  clear hW
  refine k1.mono ?_
  rintro r w1 ⟨rfl, hb1⟩
  have HB1 : Hid (Below W.heap.size W w1) := ((Below.refl W.heap.size W).alloc (Nat.le_refl _) _).trans (hb1.mono (by simp))
  have H3 : Hid (w1.heap[w.heap.size]? = some (.cells #[.bool na, .slice ua un uc, .int .i64 ea] 25 (0, 0)) ∧ w1.heap[w.heap.size + 1]? = some (.cells #[.bool false, .slice none 0 0, .int .i64 0] 25 (0, 0)) ∧ w.heap.size + 1 + 1 ≤ w1.heap.size ∧ Below w.heap.size w w1) := ⟨box_later HX.out.2.2.1 HB1.out (by have := HX.out.2.1; omega), box_later HX.out.2.2.2 HB1.out (by have := HX.out.2.1; omega), by have := HB1.out.size; have := HX.out.2.1; omega, HX.out.1.trans (HB1.out.mono HX.out.1.size)⟩
  clear k1 hb1
  have HK : Hid (∀ w', Below (w.heap.size + 1) w1 w' → (w'.cell? ⟨w.heap.size, 0, none⟩ = some (.bool na) ∧ w'.cell? ⟨w.heap.size, 1, none⟩ = some (.slice ua un uc) ∧ w'.cell? ⟨w.heap.size, 2, none⟩ = some (.int .i64 ea))) := fun w' hb => (box_cells (box_later H3.out.1 hb (by omega))).1
  have kC : ∀ w4, Below w1.heap.size w1 w4 → Calls Tryz.prog 46 #[.slice ua un uc] w4 fun r w' => ∃ ao n cap, r = .returned (.slice ao n cap) ∧ Own w' w1.heap.size (.slice ao n cap) x ∧ Below w1.heap.size w1 w' := fun w4 hb =>
    (clone_ok ((HI.out.1.later H3.out.2.2.2).later hb) (by have := HI.out.2; omega)).mono fun r w' ⟨v, e1, o1, o2⟩ => by
      obtain ⟨ao, cap, rfl, -, -, -⟩ := o1.is
      exact ⟨_, _, _, e1, o1.mono hb.size, hb.trans (o2.mono hb.size)⟩
  have hBR : Below w1.heap.size w1 w1.drew := (Below.refl _ _).drew
  have hBR1 : Below (w.heap.size + 1) w1 w1.drew := (Below.refl _ _).drew
  have H1 : Hid (w.heap.size + 1 ≤ w1.heap.size) := (by have := H3.out.2.2.1; omega : w.heap.size + 1 ≤ w1.heap.size)
  go_upto_region 3 with fail
  go_region_held3 (fun w' => w'.cell? ⟨w.heap.size, 0, none⟩ = some (.bool na) ∧ w'.cell? ⟨w.heap.size, 1, none⟩ = some (.slice ua un uc) ∧ w'.cell? ⟨w.heap.size, 2, none⟩ = some (.int .i64 ea)) (first | (with_reducible assumption) | exact HK.out _ hBR1 | (refine HK.out _ (Below.mono ?_ H1.out); with_reducible assumption) | (refine HK.out _ (below_store3 (Below.mono hb5 H1.out) (Nat.le_refl _) _ _ _)) | go_keep)
    (first | (go_at_call 46; refine (kC _ (by first | (with_reducible assumption) | exact hBR)).mono ?_; rintro r w5 ⟨ao5, n5, cap5, rfl, ho5, hb5⟩; have hblk5 := box_later H3.out.2.1 hb5 (by have := H3.out.2.2.1; omega); obtain ⟨⟨x1, x2, x3⟩, x4, x5, x6⟩ := box_cells hblk5))
  have HF : Hid (Below w1.heap.size w1 w5 ∧ Own w5 w1.heap.size (.slice ao5 n5 cap5) x ∧ w5.heap[w.heap.size + 1]? = some (.cells #[.bool false, .slice none 0 0, .int .i64 0] 25 (0, 0))) := ⟨hb5, ho5, hblk5⟩
  clear ho5 hb5 hblk5 x1 x2 x3 x4 x5 x6 kC HK hBR hBR1
  go_wp2
  refine bodyPost_ret (results_cell_row rfl _ _ (w.heap.size + 1) 25 #[.bool false, .slice ao5 n5 cap5, .int .i64 ea] (0, 0) _ rfl (store3 _ _ _ HF.out.2.2) Tryz.underlying25 rfl Tryz.info25) rfl ?_
  obtain ⟨-, -, q2, q1⟩ := H3.out
  exact ⟨_, rfl, (own_store3 HF.out.2.1 (by omega) _ _ _).mono (by omega), below_store3 (q1.trans (HF.out.1.mono q1.size)) (by omega) _ _ _⟩

set_option maxHeartbeats 4000000 in
set_option maxRecDepth 200000 in
theorem negw_1 (na : Bool) (ua : Option Addr) (un uc x : Nat) (ea : Int) (nn : Bool) (w : World)
    (k43 : ∀ W g, Below w.heap.size w W → W.heap[g]? = some (.cells #[.bool na, .slice ua un uc, .int .i64 ea] 25 (0, 0)) → Calls Tryz.prog 42 #[.slice (some ⟨g, 0, none⟩) 1 1] W fun r w' => r = .returned (.bool true) ∧ Below W.heap.size W w')
    (kN : ∀ W, Below w.heap.size w W → Calls Tryz.prog 43 #[.agg #[.bool na, .slice ua un uc, .int .i64 ea]] W fun r w' => ∃ v, r = .returned (.agg #[.bool nn, v, .int .i64 ea]) ∧ Own w' W.heap.size v x ∧ Below W.heap.size W w') :
    Calls Tryz.prog 13 #[.agg #[.bool na, .slice ua un uc, .int .i64 ea]] w fun r w' => ∃ v, r = .returned (.agg #[.bool nn, v, .int .i64 ea]) ∧ Own w' w.heap.size v x ∧ Below w.heap.size w w' := by
  obtain ⟨W, hW⟩ : ∃ W, W = (w.alloc (.cells #[.bool na, .slice ua un uc, .int .i64 ea] 25)).alloc (.cells #[.bool false, .slice none 0 0, .int .i64 0] 25) := ⟨_, rfl⟩
  have hBW : Below w.heap.size w W := by rw [hW]; exact ((Below.refl _ _).alloc (Nat.le_refl _) _).alloc (by simp) _
  have hbA : W.heap[w.heap.size]? = some (.cells #[.bool na, .slice ua un uc, .int .i64 ea] 25 (0, 0)) := by
    rw [hW, Below.heap_alloc _ _ _ (by simp)]; exact heap_alloc_new _ _
  have hbB : W.heap[w.heap.size + 1]? = some (.cells #[.bool false, .slice none 0 0, .int .i64 0] 25 (0, 0)) := by
    have := heap_alloc_new (w.alloc (.cells #[.bool na, .slice ua un uc, .int .i64 ea] 25)) (.cells #[.bool false, .slice none 0 0, .int .i64 0] 25)
    rw [hW]; simpa using this
  have hsz : W.heap.size = w.heap.size + 1 + 1 := by rw [hW]; simp
  have k1 := k43 (W.alloc (.cells #[.bool na, .slice ua un uc, .int .i64 ea] 25)) (w.heap.size + 1 + 1) (hBW.alloc hBW.size _) (by rw [← hsz]; exact heap_alloc_new _ _)
  have HX : Hid (Below w.heap.size w W ∧ W.heap.size = w.heap.size + 1 + 1 ∧ W.heap[w.heap.size]? = some (.cells #[.bool na, .slice ua un uc, .int .i64 ea] 25 (0, 0)) ∧ W.heap[w.heap.size + 1]? = some (.cells #[.bool false, .slice none 0 0, .int .i64 0] 25 (0, 0))) := ⟨hBW, hsz, hbA, hbB⟩
  have HKN : Hid (∀ W, Below w.heap.size w W → Calls Tryz.prog 43 #[.agg #[.bool na, .slice ua un uc, .int .i64 ea]] W fun r w' => ∃ v, r = .returned (.agg #[.bool nn, v, .int .i64 ea]) ∧ Own w' W.heap.size v x ∧ Below W.heap.size W w') := kN
  clear hBW hsz hbA hbB k43 kN
  go_enter Tryz.func13, Tryz.ntmps13
  go_wp2_with fail
  rw [← hW]
  clear hW
  refine k1.mono ?_
  rintro r w1 ⟨rfl, hb1⟩
  have HB1 : Hid (Below W.heap.size W w1) := ((Below.refl W.heap.size W).alloc (Nat.le_refl _) _).trans (hb1.mono (by simp))
  have HW1 : Hid (Below w.heap.size w w1) := HX.out.1.trans (HB1.out.mono HX.out.1.size)
  obtain ⟨⟨a0, a1, a2⟩, -⟩ := box_cells (box_later HX.out.2.2.1 HB1.out (by have := HX.out.2.1; omega))
  have k2 := HKN.out w1 HW1.out
  clear k1 hb1
  go_wp2_with fail
  refine k2.mono ?_
  rintro r w2 ⟨v, rfl, ho, hb2⟩
  obtain ⟨ao, cap, rfl, -, -, -⟩ := ho.is
  generalize dlen x = n2 at *
  have HC : Hid (w2.heap[w.heap.size + 1]? = some (.cells #[.bool false, .slice none 0 0, .int .i64 0] 25 (0, 0))) := box_later HX.out.2.2.2 (HB1.out.trans (hb2.mono HB1.out.size)) (by have := HX.out.2.1; omega)
  have HF : Hid (Own w2 w1.heap.size (.slice ao n2 cap) x ∧ Below w.heap.size w w2 ∧ w.heap.size + 1 < w1.heap.size) := ⟨ho, HW1.out.trans (hb2.mono HW1.out.size), by have := HB1.out.size; have := HX.out.2.1; omega⟩
  obtain ⟨⟨x1, x2, x3⟩, x4, x5, x6⟩ := box_cells HC.out
  clear k2 ho hb2 a0 a1 a2
  go_wp2
  refine bodyPost_ret (results_cell_row rfl _ _ (w.heap.size + 1) 25 #[.bool nn, .slice ao n2 cap, .int .i64 ea] (0, 0) _ rfl (store3 _ _ _ HC.out) Tryz.underlying25 rfl Tryz.info25) rfl ?_
  exact ⟨_, rfl, (own_store3 HF.out.1 HF.out.2.2 _ _ _).mono (by have := HF.out.2.2; omega), below_store3 HF.out.2.1 (by omega) _ _ _⟩

theorem abs_ok {na : Bool} {ua : Option Addr} {uc x : Nat} {ea : Int} {w : World} (h1 : Is w (.slice ua (dlen x) uc) x) (hx : dlen x ≤ 1000000) (hoka : okN na (dlen x) x ea = true) :
    Calls Tryz.prog 15 #[.agg #[.bool na, .slice ua (dlen x) uc, .int .i64 ea]] w fun r w' => ∃ v, r = .returned (.agg #[.bool false, v, .int .i64 ea]) ∧ Own w' w.heap.size v x ∧ Below w.heap.size w w' :=
  abs_1 na ua _ uc x ea w h1 hx (fun W g hW hg => by
    have := maybe1 hg (h1.later hW) (by omega)
    rw [hoka] at this
    exact this)
theorem negw_ok {na : Bool} {ua : Option Addr} {uc x : Nat} {ea : Int} {w : World} (h1 : Is w (.slice ua (dlen x) uc) x) (hx : dlen x ≤ 1000000) (hoka : okN na (dlen x) x ea = true) :
    Calls Tryz.prog 13 #[.agg #[.bool na, .slice ua (dlen x) uc, .int .i64 ea]] w fun r w' => ∃ v, r = .returned (.agg #[.bool (!na && decide (0 < dlen x)), v, .int .i64 ea]) ∧ Own w' w.heap.size v x ∧ Below w.heap.size w w' :=
  negw_1 na ua _ uc x ea _ w (fun W g hW hg => by
    have := maybe1 hg (h1.later hW) (by omega)
    rw [hoka] at this
    exact this) (fun W hW => neg_ok (h1.later hW) (by omega))
end Go.Proofs.YtejefbnfmglfeaaGreatDoor

/- Several numbers given at once, without their signs: x, y := Abs(give(a)), Abs(give(b)). -/
namespace Go.Proofs.YtejefbnfmglfeaaGreatDoor
set_option linter.unusedVariables false
set_option linter.unusedSimpArgs false
open Go.RowKit

theorem own_row_ty {w : World} {base x : Nat} {v : Value} (h : Own w base v x) {g : Nat} {cs : Array Value} {t : TypeId} {fr : Nat × Nat} (hg : w.heap[g]? = some (.cells cs t fr)) (ht : t ≠ 55) (cs' : Array Value) : Own (w.setRow g cs') base v x := by
  rcases h with h | ⟨g', cap, f, h0, h1, h2, h3, h4, h5⟩
  · exact .inl h
  · have h4' := h4
    obtain ⟨c, hc, hn, hf⟩ := h4'
    refine .inr ⟨g', cap, f, h0, h1, h2, h3, h4.of_block (setRow_other w g g' cs' ?_), h5⟩
    intro e
    subst e
    rw [hc] at hg
    simp only [Option.some.injEq, Obj.cells.injEq] at hg
    exact ht hg.2.1.symm

/-- the slot of value number j: a load, a give, an Abs -/
def aslot (ld gv ab : Nat → Tmp) (j : Nat) : Tmp := if j % 3 = 0 then ld (j / 3) else if j % 3 = 1 then gv (j / 3) else ab (j / 3)
def aval (W0 : World) (ng : Nat → Bool) (ao : Nat → Option Addr) (ln cp z : Nat → Nat) (e : Nat → Int) (j : Nat) (w : World) (u : Value) : Prop :=
  if j % 3 = 0 then u = .agg #[.bool (ng (j / 3)), .slice (ao (j / 3)) (ln (j / 3)) (cp (j / 3)), .int .i64 (e (j / 3))]
  else if j % 3 = 1 then ∃ v, u = .agg #[.bool (ng (j / 3)), v, .int .i64 (e (j / 3))] ∧ Dn w W0.heap.size v (ln (j / 3)) (z (j / 3))
  else ∃ v, u = .agg #[.bool false, v, .int .i64 (e (j / 3))] ∧ Own w W0.heap.size v (z (j / 3))

theorem abs_region {ops : Array Oper} {Q : Exit → Act → World → Prop} {id : Nat} (n : Nat) (src ld gv ab bx : Nat → Tmp) (gs : Nat → Nat) (ng : Nat → Bool) (ao : Nat → Option Addr) (ln cp z : Nat → Nat) (e : Nat → Int) (W0 : World) (a0 : Act)
    (hsz : ops.size = 3 * n + n + n) (hord : ∀ (i : Nat) (o : Oper), ops[i]? = some o → ∀ e ∈ o.after, e.on < i)
    (hsrc : ∀ k, k < n → a0.tmps[src k]? = some (.pointer (some ⟨gs k, 0, none⟩)) ∧ W0.heap[gs k]? = some (.cells #[.bool (ng k), .slice (ao k) (ln k) (cp k), .int .i64 (e k)] 24 (0, 0)) ∧ Arg W0 (ao k) (ln k) (cp k) (z k) ∧ dlen (z k) = ln k ∧ okN (ng k) (ln k) (z k) (e k) = true ∧ ln k ≤ 1000000)
    (hfree : ∀ k, k < n → (∀ j, j < 3 * n → src k ≠ aslot ld gv ab j) ∧ ∀ j, j < n → src k ≠ bx j)
    (hld : ∀ k, k < n → ∃ o, ops[3 * k]? = some o ∧ o.guard = none ∧ o.op = .load 24 (.tmp (src k)) ∧ o.dst = some (ld k))
    (hgv : ∀ k, k < n → ∃ o, ops[3 * k + 1]? = some o ∧ o.guard = none ∧ (∃ ts, o.op = .call { callee := .value (.func 9), args := #[.tmp (ld k)], argTypes := ts }) ∧ o.dst = some (gv k) ∧ ∃ e ∈ o.after, e.on = 3 * k ∧ Region.binds .any e = true)
    (hab : ∀ k, k < n → ∃ o, ops[3 * k + 2]? = some o ∧ o.guard = none ∧ (∃ ts, o.op = .call { callee := .value (.func 15), args := #[.tmp (gv k)], argTypes := ts }) ∧ o.dst = some (ab k) ∧ ∃ e ∈ o.after, e.on = 3 * k + 1 ∧ Region.binds .any e = true)
    (hal : ∀ k, k < n → ∃ o, ops[3 * n + k]? = some o ∧ o.guard = none ∧ o.op = .alloc 25 ∧ o.dst = some (bx k))
    (hst : ∀ k, k < n → ∃ o, ops[3 * n + n + k]? = some o ∧ o.guard = none ∧ o.op = .store 25 (.tmp (bx k)) (.tmp (ab k)) ∧ o.dst = none ∧ (∃ e ∈ o.after, e.on = 3 * n + k ∧ Region.binds .any e = true) ∧ (∃ e ∈ o.after, e.on = 3 * k + 2 ∧ Region.binds .any e = true))
    (hin : ∀ j, j < 3 * n → aslot ld gv ab j < a0.tmps.size) (hbin : ∀ k, k < n → bx k < a0.tmps.size)
    (hinj : ∀ j, j < 3 * n → ∀ j', j' < 3 * n → aslot ld gv ab j = aslot ld gv ab j' → j = j') (hbinj : ∀ k, k < n → ∀ k', k' < n → bx k = bx k' → k = k') (hsb : ∀ j, j < 3 * n → ∀ k, k < n → aslot ld gv ab j ≠ bx k)
    (hQ : ∀ (u v : Nat → Value) (g : Nat → Nat) (w : World), Below W0.heap.size W0 w → (∀ k, k < n → Own w W0.heap.size (v k) (z k) ∧ W0.heap.size ≤ g k ∧ w.heap[g k]? = some (.cells #[.bool false, v k, .int .i64 (e k)] 25 (0, 0))) →
      Q .normal (putL a0 ((List.range (3 * n)).map (fun j => (aslot ld gv ab j, u j)) ++ (List.range n).map (fun k => (bx k, .pointer (some ⟨g k, 0, none⟩))))) w) :
    (Code.region id ops true).wp Tryz.prog Q a0 W0 := by
  have sl0 : ∀ k, aslot ld gv ab (3 * k) = ld k := fun k => by unfold aslot; rw [if_pos (by omega), show 3 * k / 3 = k by omega]
  have sl1 : ∀ k, aslot ld gv ab (3 * k + 1) = gv k := fun k => by unfold aslot; rw [if_neg (by omega), if_pos (by omega), show (3 * k + 1) / 3 = k by omega]
  have sl2 : ∀ k, aslot ld gv ab (3 * k + 2) = ab k := fun k => by unfold aslot; rw [if_neg (by omega), if_neg (by omega), show (3 * k + 2) / 3 = k by omega]
  have va0 : ∀ k w u, aval W0 ng ao ln cp z e (3 * k) w u = (u = .agg #[.bool (ng k), .slice (ao k) (ln k) (cp k), .int .i64 (e k)]) := fun k w u => by unfold aval; rw [if_pos (by omega), show 3 * k / 3 = k by omega]
  have va1 : ∀ k w u, aval W0 ng ao ln cp z e (3 * k + 1) w u = ∃ v, u = .agg #[.bool (ng k), v, .int .i64 (e k)] ∧ Dn w W0.heap.size v (ln k) (z k) := fun k w u => by unfold aval; rw [if_neg (by omega), if_pos (by omega), show (3 * k + 1) / 3 = k by omega]
  have va2 : ∀ k w u, aval W0 ng ao ln cp z e (3 * k + 2) w u = ∃ v, u = .agg #[.bool false, v, .int .i64 (e k)] ∧ Own w W0.heap.size v (z k) := fun k w u => by unfold aval; rw [if_neg (by omega), if_neg (by omega), show (3 * k + 2) / 3 = k by omega]
  have hthree : ∀ j, ∃ k, j = 3 * k ∨ j = 3 * k + 1 ∨ j = 3 * k + 2 := fun j => ⟨j / 3, by omega⟩
  refine par_region follows_mixed (3 * n) n (aslot ld gv ab) bx (fun k => 3 * k + 2) (fun j => if j % 3 = 0 then [] else [j - 1]) 25 #[.bool false, .slice none 0 0, .int .i64 0] W0 a0 (aval W0 ng ao ln cp z e) hsz hord ?_ ?_ ?_ ?_ ?_ hal zero_num Tryz.info25 ?_ hin hbin (fun j j' hj hj' h => hinj j hj j' hj' h) (fun k k' hk hk' h => hbinj k hk k' hk' h) (fun j k hj hk => hsb j hj k hk) ?_
  · intro j w w' u hb h
    obtain ⟨k, rfl | rfl | rfl⟩ := hthree j
    · rw [va0] at h ⊢; exact h
    · rw [va1] at h ⊢
      obtain ⟨v, rfl, hd⟩ := h
      exact ⟨v, rfl, hd.later hb⟩
    · rw [va2] at h ⊢
      obtain ⟨v, rfl, hd⟩ := h
      exact ⟨v, rfl, hd.later hb⟩
  · intro j w u g cs cs' hg h
    obtain ⟨k, rfl | rfl | rfl⟩ := hthree j
    · rw [va0] at h ⊢; exact h
    · rw [va1] at h ⊢
      obtain ⟨v, rfl, hd⟩ := h
      exact ⟨v, rfl, hd.row hg (by decide) cs'⟩
    · rw [va2] at h ⊢
      obtain ⟨v, rfl, hd⟩ := h
      exact ⟨v, rfl, own_row_ty hd hg (by decide) cs'⟩
  · intro k hk w u h
    rw [va2] at h
    obtain ⟨v, rfl, hd⟩ := h
    obtain ⟨ao', cap', rfl, -, -, -⟩ := hd.is
    exact ⟨_, rfl, rfl, one3 rfl rfl⟩
  · intro j hj j' hj'
    obtain ⟨k, rfl | rfl | rfl⟩ := hthree j
    · rw [if_pos (by omega)] at hj'; cases hj'
    · rw [if_neg (by omega)] at hj'
      obtain rfl : j' = 3 * k + 1 - 1 := by simpa using hj'
      refine ⟨by omega, fun o ho => ?_⟩
      obtain ⟨o', ho', -, -, -, e, he, h1, h2⟩ := hgv k (by omega)
      obtain rfl : o' = o := Option.some.inj (ho'.symm.trans ho)
      exact ⟨e, he, by omega, h2⟩
    · rw [if_neg (by omega)] at hj'
      obtain rfl : j' = 3 * k + 2 - 1 := by simpa using hj'
      refine ⟨by omega, fun o ho => ?_⟩
      obtain ⟨o', ho', -, -, -, e, he, h1, h2⟩ := hab k (by omega)
      obtain rfl : o' = o := Option.some.inj (ho'.symm.trans ho)
      exact ⟨e, he, by omega, h2⟩
  · intro j hj a w hb hoth hdep
    obtain ⟨k, rfl | rfl | rfl⟩ := hthree j
    · obtain ⟨o, ho, hg, hop, hd⟩ := hld k (by omega)
      obtain ⟨s1, s2, s3⟩ := hsrc k (by omega)
      obtain ⟨f1, f2⟩ := hfree k (by omega)
      refine step_load ho hg hop (by rw [hoth _ f1 f2]; exact s1) ((hb.block _ (Array.getElem?_eq_some_iff.1 s2).1).trans s2) Tryz.underlying24 rfl Tryz.info24 ?_
      exact ⟨_, by rw [hd, sl0], by rw [va0], Below.refl _ _⟩
    · obtain ⟨o, ho, hg, ⟨ts, hop⟩, hd, -⟩ := hgv k (by omega)
      obtain ⟨s1, s2, s3, -⟩ := hsrc k (by omega)
      obtain ⟨u, hu, hv⟩ := hdep (3 * k + 1 - 1) (by rw [if_neg (by omega)]; simp)
      rw [show 3 * k + 1 - 1 = 3 * k by omega] at hu hv
      rw [va0] at hv
      subst hv
      rw [sl0] at hu
      refine step_call ho hg hop (enters Tryz.func9 (by kernel_rfl) (by kernel_rfl)) (vs := #[_]) (by simp only [List.map_toArray, List.map_cons, List.map_nil]; rw [eval_get hu]) ?_
      refine (give_ok (s3.later hb)).mono ?_
      rintro r w' ⟨v, rfl, hd', hb'⟩
      refine ⟨_, rfl, _, by rw [hd, sl1], ?_, hb'⟩
      rw [va1]
      exact ⟨v, rfl, hd'.mono hb.size⟩
    · obtain ⟨o, ho, hg, ⟨ts, hop⟩, hd, -⟩ := hab k (by omega)
      obtain ⟨s1, s2, s3, s4, s5, s6⟩ := hsrc k (by omega)
      obtain ⟨u, hu, hv⟩ := hdep (3 * k + 2 - 1) (by rw [if_neg (by omega)]; simp)
      rw [show 3 * k + 2 - 1 = 3 * k + 1 by omega] at hu hv
      rw [va1] at hv
      obtain ⟨v, rfl, hv⟩ := hv
      rw [sl1] at hu
      refine step_call ho hg hop (enters Tryz.func15 (by kernel_rfl) (by kernel_rfl)) (vs := #[_]) (by simp only [List.map_toArray, List.map_cons, List.map_nil]; rw [eval_get hu]) ?_
      rw [← s4] at hv
      have hI : ∃ ua uc, v = .slice ua (dlen (z k)) uc ∧ Is w (.slice ua (dlen (z k)) uc) (z k) := by
        rcases hv with ⟨rfl, h0⟩ | ⟨g, cap, c, rfl, h1, h2, h3, h4, h5⟩
        · have h0' := dlen_eq_zero.1 h0
          exact ⟨none, 0, by rw [h0], none, 0, rfl, by omega, by omega, 0, 0, fun h => by omega, fun i hi => by omega⟩
        · exact ⟨_, cap, rfl, _, cap, rfl, h2.1, h2.2, g, 0, fun _ => rfl, fun i hi => by rw [Nat.zero_add]; simp [World.cell?, h3, h5 i hi]⟩
      obtain ⟨ua, uc, rfl, hI⟩ := hI
      rw [← s4] at s5 s6
      refine (abs_ok hI s6 s5).mono ?_
      rintro r w' ⟨v', rfl, hd', hb'⟩
      refine ⟨_, rfl, _, by rw [hd, sl2], ?_, hb'⟩
      rw [va2]
      exact ⟨v', rfl, hd'.mono hb.size⟩
  · intro k hk
    obtain ⟨o, h1, h2, h3, h4, h5, h6⟩ := hst k hk
    exact ⟨by omega, o, h1, h2, by rw [h3, sl2], h4, h5, h6⟩
  · intro u g a w hb hu hg hs hd hoth
    have hv : ∀ k, ∃ v, k < n → Own w W0.heap.size v (z k) ∧ W0.heap.size ≤ g k ∧ w.heap[g k]? = some (.cells #[.bool false, v, .int .i64 (e k)] 25 (0, 0)) := fun k => by
      by_cases hk : k < n
      · have h1 := (hu (3 * k + 2) (by omega)).2
        obtain ⟨h2, h3, cs, h4, h5⟩ := hg k hk
        rw [va2] at h1
        obtain ⟨v, h6, h7⟩ := h1
        rw [h6] at h4
        simp only [Value.agg.injEq] at h4
        subst h4
        exact ⟨v, fun _ => ⟨h7, h3, h5⟩⟩
      · exact ⟨undef, fun h => absurd h hk⟩
    obtain ⟨v, hv⟩ := Classical.axiomOfChoice hv
    have ha : a = putL a0 ((List.range (3 * n)).map (fun j => (aslot ld gv ab j, u j)) ++ (List.range n).map (fun k => (bx k, .pointer (some ⟨g k, 0, none⟩)))) := by
      have hkeys : ((List.range (3 * n)).map (fun j => (aslot ld gv ab j, u j)) ++ (List.range n).map (fun k => (bx k, Value.pointer (some ⟨g k, 0, none⟩)))).map (·.1) = (List.range (3 * n)).map (aslot ld gv ab) ++ (List.range n).map bx := by
        simp [Function.comp_def]
      refine act_putL ?_ hs hd ?_ ?_
      · rw [hkeys, List.nodup_append]
        refine ⟨?_, ?_, ?_⟩
        · refine List.pairwise_map.2 ((List.nodup_range (n := 3 * n)).imp_of_mem ?_)
          intro x y hx hy hne he
          exact hne (hinj x (List.mem_range.1 hx) y (List.mem_range.1 hy) he)
        · refine List.pairwise_map.2 ((List.nodup_range (n := n)).imp_of_mem ?_)
          intro x y hx hy hne he
          exact hne (hbinj x (List.mem_range.1 hx) y (List.mem_range.1 hy) he)
        · intro x hx y hy
          obtain ⟨j, hj, rfl⟩ := List.mem_map.1 hx
          obtain ⟨k, hk, rfl⟩ := List.mem_map.1 hy
          exact hsb j (List.mem_range.1 hj) k (List.mem_range.1 hk)
      · intro p hp
        rcases List.mem_append.1 hp with h | h
        · obtain ⟨j, hj, rfl⟩ := List.mem_map.1 h
          exact (hu j (List.mem_range.1 hj)).1
        · obtain ⟨k, hk, rfl⟩ := List.mem_map.1 h
          exact (hg k (List.mem_range.1 hk)).1
      · intro s hsn
        rw [hkeys] at hsn
        refine hoth s (fun j hj he => hsn ?_) (fun k hk he => hsn ?_)
        · exact List.mem_append_left _ (List.mem_map.2 ⟨j, List.mem_range.2 hj, he.symm⟩)
        · exact List.mem_append_right _ (List.mem_map.2 ⟨k, List.mem_range.2 hk, he.symm⟩)
    rw [ha]
    exact hQ u v g w hb hv
end Go.Proofs.YtejefbnfmglfeaaGreatDoor

/- Root, of numbers that may be and are not below nought. -/
namespace Go.Proofs.YtejefbnfmglfeaaGreatDoor
set_option linter.unusedVariables false
set_option linter.unusedSimpArgs false
open Go.RowKit

set_option maxHeartbeats 4000000 in
set_option maxRecDepth 200000 in
theorem c29_1 (ua : Option Addr) (un uc Q : Nat) (ea place : Int) (bb : Bool) (w : World) (hT : Tab32 w) (hQ : dlen Q ≤ 900000) (hp : -65536 ≤ place ∧ place ≤ 65536)
    (k43 : ∀ W g, Below w.heap.size w W → W.heap[g]? = some (.cells #[.bool false, .slice ua un uc, .int .i64 ea] 25 (0, 0)) → Calls Tryz.prog 42 #[.slice (some ⟨g, 0, none⟩) 1 1] W fun r w' => r = .returned (.bool true) ∧ Below W.heap.size W w')
    (kR : ∀ W, Below w.heap.size w W → Calls Tryz.prog 85 #[.agg #[.bool false, .slice ua un uc, .int .i64 ea], .int .i64 place] W fun r w' => ∃ v m, r = .returned (.tuple #[v, .bool (bb && decide (m * m = Q))]) ∧ Own w' W.heap.size v m ∧ m * m ≤ Q ∧ Q < (m + 1) * (m + 1) ∧ Below W.heap.size W w') :
    Calls Tryz.prog 40 #[.agg #[.bool false, .slice ua un uc, .int .i64 ea], .int .i64 place] w fun r w' => ∃ m, (m * m ≤ Q ∧ Q < (m + 1) * (m + 1)) ∧ Held3 w false m (-place) (bb && decide (m * m = Q)) r w' := by
  obtain ⟨W, hW⟩ : ∃ W, W = (w.alloc (.cells #[.bool false, .slice ua un uc, .int .i64 ea] 25)).alloc (.cells #[.bool false, .slice none 0 0, .int .i64 0] 25) := ⟨_, rfl⟩
  have hBW : Below w.heap.size w W := by rw [hW]; exact ((Below.refl _ _).alloc (Nat.le_refl _) _).alloc (by simp) _
  have hbA : W.heap[w.heap.size]? = some (.cells #[.bool false, .slice ua un uc, .int .i64 ea] 25 (0, 0)) := by
    rw [hW, Below.heap_alloc _ _ _ (by simp)]; exact heap_alloc_new _ _
  have hbB : W.heap[w.heap.size + 1]? = some (.cells #[.bool false, .slice none 0 0, .int .i64 0] 25 (0, 0)) := by
    have := heap_alloc_new (w.alloc (.cells #[.bool false, .slice ua un uc, .int .i64 ea] 25)) (.cells #[.bool false, .slice none 0 0, .int .i64 0] 25)
    rw [hW]; simpa using this
  have hsz : W.heap.size = w.heap.size + 1 + 1 := by rw [hW]; simp
  have k1 := k43 (W.alloc (.cells #[.bool false, .slice ua un uc, .int .i64 ea] 25)) (w.heap.size + 1 + 1) (hBW.alloc hBW.size _) (by rw [← hsz]; exact heap_alloc_new _ _)
  have HX : Hid (Below w.heap.size w W ∧ W.heap.size = w.heap.size + 1 + 1 ∧ W.heap[w.heap.size]? = some (.cells #[.bool false, .slice ua un uc, .int .i64 ea] 25 (0, 0)) ∧ W.heap[w.heap.size + 1]? = some (.cells #[.bool false, .slice none 0 0, .int .i64 0] 25 (0, 0))) := ⟨hBW, hsz, hbA, hbB⟩
  have HKR : Hid (∀ W, Below w.heap.size w W → Calls Tryz.prog 85 #[.agg #[.bool false, .slice ua un uc, .int .i64 ea], .int .i64 place] W fun r w' => ∃ v m, r = .returned (.tuple #[v, .bool (bb && decide (m * m = Q))]) ∧ Own w' W.heap.size v m ∧ m * m ≤ Q ∧ Q < (m + 1) * (m + 1) ∧ Below W.heap.size W w') := kR
  have HT : Hid (Tab32 w ∧ dlen Q ≤ 900000 ∧ -65536 ≤ place ∧ place ≤ 65536) := ⟨hT, hQ, hp⟩
  have k94 := c94 place
  clear hBW hsz hbA hbB k43 kR hT hQ
  go_enter Tryz.func40, Tryz.ntmps40
  go_wp2_with fail
  rw [← hW]
  clear hW
  refine k1.mono ?_
  rintro r w1 ⟨rfl, hb1⟩
  have HB1 : Hid (Below W.heap.size W w1) := ((Below.refl W.heap.size W).alloc (Nat.le_refl _) _).trans (hb1.mono (by simp))
  have HW1 : Hid (Below w.heap.size w w1) := HX.out.1.trans (HB1.out.mono HX.out.1.size)
  obtain ⟨⟨a0, a1, a2⟩, -⟩ := box_cells (box_later HX.out.2.2.1 HB1.out (by have := HX.out.2.1; omega))
  clear k1 hb1
  go_wp2_with fail
  refine (k94 w1 hp).mono ?_
  rintro r w1' ⟨rfl, hw⟩
  replace hw := hw.symm
  subst hw
  clear k94
  have k2 := HKR.out w1 HW1.out
  go_wp2_with fail
  refine k2.mono ?_
  rintro r w2 ⟨v, m, rfl, ho, hm1, hm2, hb2⟩
  have HB2 : Hid (Below W.heap.size W w2) := HB1.out.trans (hb2.mono HB1.out.size)
  have HW2 : Hid (Below w.heap.size w w2 ∧ m * m ≤ Q ∧ Q < (m + 1) * (m + 1) ∧ Own w2 w1.heap.size v m) := ⟨HW1.out.trans (hb2.mono HW1.out.size), hm1, hm2, ho⟩
  have hml : dlen m ≤ 900000 := by
    have : m ≤ Q := Nat.le_trans (Nat.le_mul_self m) hm1
    exact Nat.le_trans (dlen_mono this) HT.out.2.1
  obtain ⟨b', hb'⟩ : ∃ b', b' = (bb && decide (m * m = Q)) := ⟨_, rfl⟩
  have k96 := c96 (neg := false) (exact := b') (place := place) (HT.out.1.later HW2.out.1) ho.is hml (by omega) (by omega)
  rw [← hb']
  have HBB : Hid (b' = (bb && decide (m * m = Q))) := hb'
  obtain ⟨ao, cap, rfl, -, -, -⟩ := ho.is
  generalize dlen m = nm at *
  clear k2 ho hm1 hm2 hb2 a0 a1 a2 hml hb'
  simp only [Bool.false_and, if_false, Bool.false_eq_true] at k96
  go_wp2_with fail
  refine k96.mono ?_
  clear k96
  rintro r w4 ⟨A, rfl, hN, hB4⟩
  have HB4 : Hid (Below W.heap.size W w4) := HB2.out.trans (hB4.mono HB2.out.size)
  have HN4 : Hid (Nrm w4 W.heap.size A false m (-place)) := hN.mono HB2.out.size
  have HC4 : Hid (w4.heap[w.heap.size + 1]? = some (.cells #[.bool false, .slice none 0 0, .int .i64 0] 25 (0, 0))) := box_later HX.out.2.2.2 HB4.out (by have := HX.out.2.1; omega)
  obtain ⟨⟨x1, x2, x3⟩, x4, x5, x6⟩ := box_cells HC4.out
  obtain ⟨s', ao, n, cap, ex, hsh⟩ := HN4.out.shape
  clear hN hB4
  have HF : Hid (∀ p q r, Nrm (((w4.setCell ⟨w.heap.size + 1, 0, none⟩ p).setCell ⟨w.heap.size + 1, 1, none⟩ q).setCell ⟨w.heap.size + 1, 2, none⟩ r) w.heap.size A false m (-place) ∧ Below w.heap.size w (((w4.setCell ⟨w.heap.size + 1, 0, none⟩ p).setCell ⟨w.heap.size + 1, 1, none⟩ q).setCell ⟨w.heap.size + 1, 2, none⟩ r)) := fun p q r =>
    ⟨(HN4.out.store (by have := HX.out.2.1; omega) _ _ _).mono (by have := HX.out.2.1; omega), below_store3 (HX.out.1.trans (HB4.out.mono HX.out.1.size)) (by omega) _ _ _⟩
  cases hok : okR false m (-place)
  · have hNil : Nil = .agg #[.bool false, .slice none 0 0, .int .i64 0] := rfl
    clear hsh
    go_wp2
    refine bodyPost_ret (results_cell_tmp2_row rfl _ _ (w.heap.size + 1) 25 #[.bool false, .slice none 0 0, .int .i64 0] (0, 0) _ rfl (store3 _ _ _ HC4.out) Tryz.underlying25 rfl Tryz.info25) rfl ?_
    exact ⟨m, ⟨HW2.out.2.1, HW2.out.2.2.1⟩, A, by rw [hok]; simp [hNil], HF.out _ _ _⟩
  · subst hsh
    go_wp2
    refine bodyPost_ret (results_cell_tmp2_row rfl _ _ (w.heap.size + 1) 25 #[.bool s', .slice ao n cap, .int .i64 ex] (0, 0) _ rfl (store3 _ _ _ HC4.out) Tryz.underlying25 rfl Tryz.info25) rfl ?_
    exact ⟨m, ⟨HW2.out.2.1, HW2.out.2.2.1⟩, _, by rw [hok, ← HBB.out]; simp, HF.out _ _ _⟩

theorem root_ok {ua : Option Addr} {uc x : Nat} {ea place : Int} {w : World} (h1 : Is w (.slice ua (dlen x) uc) x) (hT : Tab32 w) (hx : dlen x ≤ 2048) (hoka : okN false (dlen x) x ea = true) (ha : -65536 ≤ ea ∧ ea ≤ 65536) (hp : -65536 ≤ place ∧ place ≤ 65536) :
    Calls Tryz.prog 40 #[.agg #[.bool false, .slice ua (dlen x) uc, .int .i64 ea], .int .i64 place] w fun r w' => ∃ m, (m * m ≤ rtQ x ea place ∧ rtQ x ea place < (m + 1) * (m + 1)) ∧ Held3 w false m (-place) (decide (0 ≤ ea + 2 * place ∨ x = 0) && decide (m * m = rtQ x ea place)) r w' := by
  have hq : dlen (rtQ x ea place) ≤ 900000 := by
    unfold rtQ
    split
    · have := shl_len (x := x) (k := (ea + 2 * place).toNat) rfl; omega
    · exact Nat.le_trans (dlen_mono (Nat.div_le_self ..)) (by omega)
  refine c29_1 ua _ uc _ ea place _ w hT hq hp (fun W g hW hg => ?_) (fun W hW => ?_)
  · have := maybe1 hg (h1.later hW) (by omega)
    rw [hoka] at this
    exact this
  · exact c102 (neg := false) (h1.later hW) (by omega) (by omega) (by omega) (by omega)
end Go.Proofs.YtejefbnfmglfeaaGreatDoor
