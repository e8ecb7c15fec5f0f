/- Own work: contracts of the program's functions, part 13: SNP DL2 DL3. -/
import Derived.Test.YtknljimmilhfkaaA9
import Derived.Test.YtknljimmilhfkaaA12
import Derived.Test.YtknljimmilhfkaaA10

/- Several values made at once and put into boxes, which hold their zero value till then. -/
namespace Go.Proofs.Ytknljimmilhfkaa
set_option linter.unusedVariables false
set_option linter.unusedSimpArgs false
open Go.RowKit

/-- What holds while such a region runs: the operations ahead of m make values (number j in slot 'slot j', of which V j holds), the next n lay boxes of type T, the last n store number 'vs k' into box k. -/
structure ParZ (W0 : World) (a0 : Act) (m n : Nat) (slot bx : Nat → Tmp) (vs : Nat → Nat) (T : TypeId) (zs : Array Value) (V : Nat → World → Value → Prop) (listed : Array Bool) (a : Act) (w : World) : Prop where
  below : Below W0.heap.size W0 w
  size : a.tmps.size = a0.tmps.size
  defers : a.defers = a0.defers
  other : ∀ s, (∀ j, j < m → s ≠ slot j) → (∀ k, k < n → s ≠ bx k) → a.tmps[s]? = a0.tmps[s]?
  val : ∀ j, j < m → listed.getD j false = true → ∃ u, a.tmps[slot j]? = some u ∧ V j w u
  box : ∀ k, k < n → listed.getD (m + k) false = true → ∃ g cs, a.tmps[bx k]? = some (.pointer (some ⟨g, 0, none⟩)) ∧ W0.heap.size ≤ g ∧ w.heap[g]? = some (.cells cs T (0, 0)) ∧ cs.size = zs.size ∧
    (listed.getD (m + n + k) false = true → a.tmps[slot (vs k)]? = some (.agg cs)) ∧ (listed.getD (m + n + k) false = false → cs = zs)
  apart : ∀ k k', k < n → k' < n → k ≠ k' → listed.getD (m + k) false = true → listed.getD (m + k') false = true → a.tmps[bx k]? ≠ a.tmps[bx k']?
  stored : ∀ k, k < n → listed.getD (m + n + k) false = true → listed.getD (m + k) false = true ∧ listed.getD (vs k) false = true

theorem parz_region {P : Program} {ops : Array Oper} {Q : Exit → Act → World → Prop} {id : Nat} (hm : P.follows .mixedOrders = true) (m n : Nat) (slot bx : Nat → Tmp) (vs : Nat → Nat) (dep : Nat → List Nat) (T : TypeId) (zs : Array Value)
    (W0 : World) (a0 : Act) (V : Nat → World → Value → Prop) (hsz : ops.size = m + n + n)
    (hord : ∀ (i : Nat) (o : Oper), ops[i]? = some o → ∀ e ∈ o.after, e.on < i)
    (hV1 : ∀ j w w' u, Below w.heap.size w w' → V j w u → V j w' u)
    (hV2 : ∀ j w u g cs', w.heap[g]? = some (.cells zs T (0, 0)) → V j w u → V j (w.setRow g cs') u)
    (hVs : ∀ k, k < n → ∀ w u, V (vs k) w u → ∃ cs : Array Value, u = .agg cs ∧ cs.size = zs.size ∧ cs.all (·.oneCell') = true)
    (hdep : ∀ j, j < m → ∀ j' ∈ dep j, j' < m ∧ ∀ o, ops[j]? = some o → ∃ e ∈ o.after, e.on = j' ∧ Region.binds .any e = true)
    (hA : ∀ j, j < m → ∀ (a : Act) (w : World), Below W0.heap.size W0 w → (∀ s, (∀ j, j < m → s ≠ slot j) → (∀ k, k < n → s ≠ bx k) → a.tmps[s]? = a0.tmps[s]?) →
      (∀ j' ∈ dep j, ∃ u, a.tmps[slot j']? = some u ∧ V j' w u) → wpOp P ops Q j (fun a' w' => ∃ u, a' = a.put (some (slot j)) u ∧ V j w' u ∧ Below w.heap.size w w') a w)
    (hal : ∀ k, k < n → ∃ o, ops[m + k]? = some o ∧ o.guard = none ∧ o.op = .alloc T ∧ o.dst = some (bx k))
    (hz : ∀ w, (zeroValue T).run P w = .ok (.agg zs) w) (hi : (P.info? T).map (·.size) = some zs.size)
    (hst : ∀ k, k < n → vs k < m ∧ ∃ o, ops[m + n + k]? = some o ∧ o.guard = none ∧ o.op = .store T (.tmp (bx k)) (.tmp (slot (vs k))) ∧ o.dst = none ∧ (∃ e ∈ o.after, e.on = m + k ∧ Region.binds .any e = true) ∧ (∃ e ∈ o.after, e.on = vs k ∧ Region.binds .any e = true))
    (hin : ∀ j, j < m → slot j < a0.tmps.size) (hbin : ∀ k, k < n → bx k < a0.tmps.size)
    (hinj : ∀ j j', j < m → j' < m → slot j = slot j' → j = j') (hbinj : ∀ k k', k < n → k' < n → bx k = bx k' → k = k') (hsb : ∀ j k, j < m → k < n → slot j ≠ bx k)
    (hQ : ∀ (u : Nat → Value) (g : Nat → Nat) (a : Act) (w : World), Below W0.heap.size W0 w → (∀ j, j < m → a.tmps[slot j]? = some (u j) ∧ V j w (u j)) →
      (∀ k, k < n → a.tmps[bx k]? = some (.pointer (some ⟨g k, 0, none⟩)) ∧ W0.heap.size ≤ g k ∧ ∃ cs, u (vs k) = .agg cs ∧ w.heap[g k]? = some (.cells cs T (0, 0))) →
      a.tmps.size = a0.tmps.size → a.defers = a0.defers → (∀ s, (∀ j, j < m → s ≠ slot j) → (∀ k, k < n → s ≠ bx k) → a.tmps[s]? = a0.tmps[s]?) → Q .normal a w) :
    (Code.region id ops true).wp P Q a0 W0 := by
  refine wp_region_any hm ?_
  refine wpAny_inv (ParZ W0 a0 m n slot bx vs T zs V) ?_ ?_ ops.size _ a0 _ (by simp) ?_ (by simp)
  · -- a step
    intro listed a w i hl hI hr
    obtain ⟨hun, o, ho, hall⟩ := mem_ready.1 hr
    have hunf := not_listed hun
    have hio : i < ops.size := (Array.getElem?_eq_some_iff.1 ho).1
    have hil : i < listed.size := by omega
    have hset := listed_set hil
    have hne : ∀ x, x ≠ i → (listed.setIfInBounds i true).getD x false = listed.getD x false := fun x hx => getD_set_ne false (Ne.symm hx)
    have hpart : i < m ∨ (∃ k, k < n ∧ i = m + k) ∨ ∃ k, k < n ∧ i = m + n + k := by
      by_cases h1 : i < m
      · exact .inl h1
      · by_cases h2 : i < m + n
        · exact .inr (.inl ⟨i - m, by omega, by omega⟩)
        · exact .inr (.inr ⟨i - m - n, by omega, by omega⟩)
    rcases hpart with him | ⟨k, hk, rfl⟩ | ⟨k, hk, rfl⟩
    · refine wpOp_mono ?_ (hA i him a w hI.below hI.other fun j' hj' => ?_)
      · rintro a' w' ⟨u, rfl, hu, hb⟩
        have hlt : slot i < a.tmps.size := by rw [hI.size]; exact hin i him
        refine ⟨hI.below.trans (hb.mono hI.below.size), by rw [put_size]; exact hI.size, by rw [put_defers]; exact hI.defers, fun s h1 h2 => ?_, fun j hj h1 => ?_, fun k hk h1 => ?_, fun k k' hk hk' hkk h1 h2 => ?_, fun k hk h1 => ?_⟩
        · rw [put_get_ne (h1 i him)]; exact hI.other s h1 h2
        · by_cases e : j = i
          · subst e; exact ⟨u, put_get hlt, hu⟩
          · rw [hne j e] at h1
            obtain ⟨u', g1, g2⟩ := hI.val j hj h1
            exact ⟨u', by rw [put_get_ne (fun e2 => e (hinj j i hj him e2))]; exact g1, hV1 _ _ _ _ hb g2⟩
        · rw [hne _ (by omega)] at h1
          obtain ⟨g, cs, g1, g2, g3, g4, g5, g6⟩ := hI.box k hk h1
          refine ⟨g, cs, by rw [put_get_ne (Ne.symm (hsb i k him hk))]; exact g1, g2, (hb.block g (Array.getElem?_eq_some_iff.1 g3).1).trans g3, g4, fun h2 => ?_, fun h2 => g6 (by rw [← hne (m + n + k) (by omega)]; exact h2)⟩
          rw [hne _ (by omega)] at h2
          have h3 := (hI.stored k hk h2).2
          have h4 : vs k ≠ i := fun e => by rw [e, hunf] at h3; cases h3
          rw [put_get_ne (fun e2 => h4 (hinj _ _ (hst k hk).1 him e2))]
          exact g5 h2
        · rw [hne _ (by omega)] at h1 h2
          rw [put_get_ne (Ne.symm (hsb i k him hk)), put_get_ne (Ne.symm (hsb i k' him hk'))]
          exact hI.apart k k' hk hk' hkk h1 h2
        · rw [hne _ (by omega)] at h1
          obtain ⟨h2, h3⟩ := hI.stored k hk h1
          exact ⟨by rw [hne _ (by omega)]; exact h2, getD_set_true h3⟩
      · obtain ⟨h1, h2⟩ := hdep i him j' hj'
        obtain ⟨e, he, rfl, hbd⟩ := h2 o ho
        exact hI.val _ h1 (hall e he hbd)
    · obtain ⟨o', ho', hg, hop, hd⟩ := hal k hk
      refine step_alloc ho' hg hop hz ?_
      rw [hd]
      have hlt : bx k < a.tmps.size := by rw [hI.size]; exact hbin k hk
      have hbw : Below w.heap.size w (w.alloc (.cells zs T)) := (Below.refl _ _).alloc (Nat.le_refl _) _
      refine ⟨hI.below.trans (hbw.mono hI.below.size), by rw [put_size]; exact hI.size, by rw [put_defers]; exact hI.defers, fun s h1 h2 => ?_, fun j hj h1 => ?_, fun k1 hk1 h1 => ?_, fun k1 k2 hk1 hk2 hkk h1 h2 => ?_, fun k1 hk1 h1 => ?_⟩
      · rw [put_get_ne (h2 k hk)]; exact hI.other s h1 h2
      · rw [hne j (by omega)] at h1
        obtain ⟨u', g1, g2⟩ := hI.val j hj h1
        exact ⟨u', by rw [put_get_ne (hsb j k hj hk)]; exact g1, hV1 _ _ _ _ hbw g2⟩
      · by_cases e : k1 = k
        · subst e
          refine ⟨w.heap.size, zs, put_get hlt, hI.below.size, heap_alloc_new _ _, rfl, fun h2 => ?_, fun _ => rfl⟩
          rw [hne _ (by omega)] at h2
          have := (hI.stored k1 hk h2).1
          rw [hunf] at this
          cases this
        · rw [hne _ (by omega)] at h1
          obtain ⟨g, cs, g1, g2, g3, g4, g5, g6⟩ := hI.box k1 hk1 h1
          refine ⟨g, cs, by rw [put_get_ne (fun e2 => e (hbinj _ _ hk1 hk e2))]; exact g1, g2, (hbw.block g (Array.getElem?_eq_some_iff.1 g3).1).trans g3, g4, fun h2 => ?_, fun h2 => g6 (by rw [← hne (m + n + k1) (by omega)]; exact h2)⟩
          rw [hne _ (by omega)] at h2
          rw [put_get_ne (hsb _ k (hst k1 hk1).1 hk)]
          exact g5 h2
      · have old : ∀ k1, k1 < n → k1 ≠ k → listed.getD (m + k1) false = true → a.tmps[bx k1]? ≠ some (.pointer (some ⟨w.heap.size, 0, none⟩)) := fun k1 hk1 e h1 h2 => by
          obtain ⟨g, cs, g1, g2, g3, g4, g5, g6⟩ := hI.box k1 hk1 h1
          have hlt := (Array.getElem?_eq_some_iff.1 g3).1
          rw [g1] at h2
          simp only [Option.some.injEq, Value.pointer.injEq, Addr.mk.injEq] at h2
          omega
        by_cases e1 : k1 = k
        · subst e1
          rw [hne _ (by omega)] at h2
          rw [put_get hlt, put_get_ne (fun e2 => hkk (hbinj _ _ hk hk2 e2.symm))]
          exact Ne.symm (old k2 hk2 (Ne.symm hkk) h2)
        · rw [hne _ (by omega)] at h1
          by_cases e2 : k2 = k
          · subst e2
            rw [put_get hlt, put_get_ne (fun e2 => e1 (hbinj _ _ hk1 hk e2))]
            exact old k1 hk1 e1 h1
          · rw [hne _ (by omega)] at h2
            rw [put_get_ne (fun e3 => e1 (hbinj _ _ hk1 hk e3)), put_get_ne (fun e3 => e2 (hbinj _ _ hk2 hk e3))]
            exact hI.apart k1 k2 hk1 hk2 hkk h1 h2
      · rw [hne _ (by omega)] at h1
        obtain ⟨h2, h3⟩ := hI.stored k1 hk1 h1
        exact ⟨getD_set_true h2, getD_set_true h3⟩
    · obtain ⟨hvm, o', ho', hg, hop, hd, ⟨e1, he1, hon1, hb1⟩, e2, he2, hon2, hb2⟩ := hst k hk
      obtain rfl : o' = o := Option.some.inj (ho'.symm.trans ho)
      have l1 := hall e1 he1 hb1
      have l2 := hall e2 he2 hb2
      rw [hon1] at l1
      rw [hon2] at l2
      obtain ⟨u, hu1, hu2⟩ := hI.val _ hvm l2
      obtain ⟨cs, rfl, hc1, hc2⟩ := hVs k hk w u hu2
      obtain ⟨g, old, g1, g2, g3, g4, g5, g6⟩ := hI.box k hk l1
      rw [g6 hunf] at g3 g4
      refine step_store ho' hg hop g1 hu1 g3 (by rw [hc1]; exact hi) (by omega) hc2 ?_
      rw [hd]
      show ParZ W0 a0 m n slot bx vs T zs V _ a _
      refine ⟨below_row hI.below g2 _, hI.size, hI.defers, hI.other, fun j hj h1 => ?_, fun k1 hk1 h1 => ?_, fun k1 k2 hk1 hk2 hkk h1 h2 => ?_, fun k1 hk1 h1 => ?_⟩
      · rw [hne j (by omega)] at h1
        obtain ⟨u', q1, q2⟩ := hI.val j hj h1
        exact ⟨u', q1, hV2 _ _ _ _ _ g3 q2⟩
      · rw [hne _ (by omega)] at h1
        by_cases e : k1 = k
        · subst e
          exact ⟨g, cs, g1, g2, setRow_heap w g _ cs T _ g3, hc1, fun _ => hu1, fun h2 => by rw [hset] at h2; cases h2⟩
        · obtain ⟨g', cs', q1, q2, q3, q4, q5, q6⟩ := hI.box k1 hk1 h1
          have hgg : g' ≠ g := fun e2 => by
            subst e2
            exact hI.apart k1 k hk1 hk e h1 l1 (q1.trans g1.symm)
          refine ⟨g', cs', q1, q2, (setRow_other w g g' cs hgg).trans q3, q4, fun h2 => ?_, fun h2 => q6 (by rw [← hne (m + n + k1) (by omega)]; exact h2)⟩
          rw [hne _ (by omega)] at h2
          exact q5 h2
      · rw [hne _ (by omega)] at h1 h2
        exact hI.apart k1 k2 hk1 hk2 hkk h1 h2
      · by_cases e : k1 = k
        · subst e
          exact ⟨getD_set_true l1, getD_set_true l2⟩
        · rw [hne _ (by omega)] at h1
          obtain ⟨h2, h3⟩ := hI.stored k1 hk1 h1
          exact ⟨getD_set_true h2, getD_set_true h3⟩
  · -- the end: all have come up
    intro listed a w hl hI hr
    have hfull : ∀ i, i < ops.size → listed.getD i false = true := by
      intro i
      induction i using Nat.strongRecOn with
      | _ i ih =>
        intro hi
        cases hx : listed.getD i false with
        | true => rfl
        | false =>
          exfalso
          have ho : ops[i]? = some ops[i] := Array.getElem?_eq_getElem hi
          have : i ∈ Region.ready .any ops listed := by
            refine mem_ready.2 ⟨?_, ops[i], ho, fun e he _ => ih e.on (hord i _ ho e he) (Nat.lt_trans (hord i _ ho e he) hi)⟩
            have hil : i < listed.size := by omega
            simp only [Array.getD_eq_getD_getElem?, Array.getElem?_eq_getElem hil, Option.getD_some] at hx ⊢
            exact hx
          rw [hr] at this
          cases this
    have hval : ∀ j, ∃ u, j < m → a.tmps[slot j]? = some u ∧ V j w u := fun j => by
      by_cases hj : j < m
      · obtain ⟨u, h1, h2⟩ := hI.val j hj (hfull j (by omega))
        exact ⟨u, fun _ => ⟨h1, h2⟩⟩
      · exact ⟨undef, fun h => absurd h hj⟩
    obtain ⟨u, hu⟩ := Classical.axiomOfChoice hval
    have hbox : ∀ k, ∃ g, k < n → a.tmps[bx k]? = some (.pointer (some ⟨g, 0, none⟩)) ∧ W0.heap.size ≤ g ∧ ∃ cs, u (vs k) = .agg cs ∧ w.heap[g]? = some (.cells cs T (0, 0)) := fun k => by
      by_cases hk : k < n
      · obtain ⟨g, cs, h1, h2, h3, h4, h5, -⟩ := hI.box k hk (hfull _ (by omega))
        refine ⟨g, fun _ => ⟨h1, h2, cs, ?_, h3⟩⟩
        have h6 := h5 (hfull _ (by omega))
        rw [(hu _ (hst k hk).1).1] at h6
        exact Option.some.inj h6
      · exact ⟨0, fun h => absurd h hk⟩
    obtain ⟨g, hg⟩ := Classical.axiomOfChoice hbox
    exact hQ u g a w hI.below hu hg hI.size hI.defers hI.other
  · -- the start
    have h0 : ∀ x, (Array.replicate ops.size false).getD x false = true → False := fun x h => by
      simp [Array.getD_eq_getD_getElem?, Array.getElem?_replicate] at h
      split at h <;> simp at h
    exact ⟨(Below.refl _ _).drew, rfl, rfl, fun _ _ _ => rfl, fun j _ h => (h0 _ h).elim, fun k _ h => (h0 _ h).elim, fun k k' _ _ _ h => (h0 _ h).elim, fun k _ h => (h0 _ h).elim⟩
end Go.Proofs.Ytknljimmilhfkaa
/- Several values made at once and put into boxes that are there already. -/
namespace Go.Proofs.Ytknljimmilhfkaa
set_option linter.unusedVariables false
set_option linter.unusedSimpArgs false
open Go.RowKit

/-- all but the boxes gs k stays, and what lies below B -/
structure KeepB (n : Nat) (gs : Nat → Nat) (B : Nat) (W0 w : World) : Prop where
  below : Below B W0 w
  size : W0.heap.size ≤ w.heap.size
  keep : ∀ b, b < W0.heap.size → (∀ k, k < n → b ≠ gs k) → w.heap[b]? = W0.heap[b]?
theorem KeepB.step {n : Nat} {gs : Nat → Nat} {B : Nat} {W0 w w' : World} (h : KeepB n gs B W0 w) (hB : B ≤ W0.heap.size) (hb : Below w.heap.size w w') : KeepB n gs B W0 w' :=
  ⟨h.below.trans (hb.mono (Nat.le_trans hB h.size)), Nat.le_trans h.size hb.size, fun b h1 h2 => (hb.block b (Nat.lt_of_lt_of_le h1 h.size)).trans (h.keep b h1 h2)⟩
theorem KeepB.row {n : Nat} {gs : Nat → Nat} {B : Nat} {W0 w : World} (h : KeepB n gs B W0 w) {k : Nat} (hk : k < n) (hB : B ≤ gs k) (cs : Array Value) : KeepB n gs B W0 (w.setRow (gs k) cs) :=
  ⟨below_row h.below hB _, by simpa using h.size, fun b h1 h2 => (setRow_other w (gs k) b cs (h2 k hk)).trans (h.keep b h1 h2)⟩

structure ParS (W0 : World) (a0 : Act) (m n : Nat) (slot : Nat → Tmp) (vs gs : Nat → Nat) (B : Nat) (T : TypeId) (C : Array Value → Prop) (z : Nat) (V : Nat → World → Value → Prop) (listed : Array Bool) (a : Act) (w : World) : Prop where
  kept : KeepB n gs B W0 w
  size : a.tmps.size = a0.tmps.size
  defers : a.defers = a0.defers
  other : ∀ s, (∀ j, j < m → s ≠ slot j) → a.tmps[s]? = a0.tmps[s]?
  val : ∀ j, j < m → listed.getD j false = true → ∃ u, a.tmps[slot j]? = some u ∧ V j w u
  box : ∀ k, k < n → ∃ cs, w.heap[gs k]? = some (.cells cs T (0, 0)) ∧ cs.size = z ∧ C cs ∧ (listed.getD (m + k) false = true → a.tmps[slot (vs k)]? = some (.agg cs))
  stored : ∀ k, k < n → listed.getD (m + k) false = true → listed.getD (vs k) false = true

theorem pars_region {P : Program} {ops : Array Oper} {Q : Exit → Act → World → Prop} {id : Nat} (hm : P.follows .mixedOrders = true) (m n : Nat) (slot bx : Nat → Tmp) (vs gs : Nat → Nat) (B : Nat) (dep : Nat → List Nat) (T : TypeId) (C : Array Value → Prop) (z : Nat)
    (W0 : World) (a0 : Act) (V : Nat → World → Value → Prop) (hsz : ops.size = m + n)
    (hord : ∀ (i : Nat) (o : Oper), ops[i]? = some o → ∀ e ∈ o.after, e.on < i)
    (hV1 : ∀ j w w' u, Below w.heap.size w w' → V j w u → V j w' u)
    (hV2 : ∀ j w u g cs cs', w.heap[g]? = some (.cells cs T (0, 0)) → C cs → V j w u → V j (w.setRow g cs') u)
    (hVs : ∀ k, k < n → ∀ w u, V (vs k) w u → ∃ cs : Array Value, u = .agg cs ∧ cs.size = z ∧ C cs ∧ cs.all (·.oneCell') = true)
    (hdep : ∀ j, j < m → ∀ j' ∈ dep j, j' < m ∧ ∀ o, ops[j]? = some o → ∃ e ∈ o.after, e.on = j' ∧ Region.binds .any e = true)
    (hA : ∀ j, j < m → ∀ (a : Act) (w : World), KeepB n gs B W0 w → (∀ s, (∀ j, j < m → s ≠ slot j) → a.tmps[s]? = a0.tmps[s]?) →
      (∀ j' ∈ dep j, ∃ u, a.tmps[slot j']? = some u ∧ V j' w u) → wpOp P ops Q j (fun a' w' => ∃ u, a' = a.put (some (slot j)) u ∧ V j w' u ∧ Below w.heap.size w w') a w)
    (hi : (P.info? T).map (·.size) = some z)
    (hst : ∀ k, k < n → vs k < m ∧ ∃ o, ops[m + k]? = some o ∧ o.guard = none ∧ o.op = .store T (.tmp (bx k)) (.tmp (slot (vs k))) ∧ o.dst = none ∧ (∃ e ∈ o.after, e.on = vs k ∧ Region.binds .any e = true))
    (hbx : ∀ k, k < n → a0.tmps[bx k]? = some (.pointer (some ⟨gs k, 0, none⟩)) ∧ ∀ j, j < m → bx k ≠ slot j)
    (hbox : ∀ k, k < n → B ≤ gs k ∧ ∃ cs, W0.heap[gs k]? = some (.cells cs T (0, 0)) ∧ cs.size = z ∧ C cs)
    (hgs : ∀ k k', k < n → k' < n → gs k = gs k' → k = k') (hB : B ≤ W0.heap.size)
    (hin : ∀ j, j < m → slot j < a0.tmps.size)
    (hinj : ∀ j j', j < m → j' < m → slot j = slot j' → j = j')
    (hQ : ∀ (u : Nat → Value) (a : Act) (w : World), KeepB n gs B W0 w → (∀ j, j < m → a.tmps[slot j]? = some (u j) ∧ V j w (u j)) →
      (∀ k, k < n → ∃ cs, u (vs k) = .agg cs ∧ w.heap[gs k]? = some (.cells cs T (0, 0))) →
      a.tmps.size = a0.tmps.size → a.defers = a0.defers → (∀ s, (∀ j, j < m → s ≠ slot j) → a.tmps[s]? = a0.tmps[s]?) → Q .normal a w) :
    (Code.region id ops true).wp P Q a0 W0 := by
  refine wp_region_any hm ?_
  refine wpAny_inv (ParS W0 a0 m n slot vs gs B T C z V) ?_ ?_ ops.size _ a0 _ (by simp) ?_ (by simp)
  · -- a step
    intro listed a w i hl hI hr
    obtain ⟨hun, o, ho, hall⟩ := mem_ready.1 hr
    have hunf := not_listed hun
    have hio : i < ops.size := (Array.getElem?_eq_some_iff.1 ho).1
    have hil : i < listed.size := by omega
    have hset := listed_set hil
    have hne : ∀ x, x ≠ i → (listed.setIfInBounds i true).getD x false = listed.getD x false := fun x hx => getD_set_ne false (Ne.symm hx)
    have hpart : i < m ∨ ∃ k, k < n ∧ i = m + k := by
      by_cases h1 : i < m
      · exact .inl h1
      · exact .inr ⟨i - m, by omega, by omega⟩
    rcases hpart with him | ⟨k, hk, rfl⟩
    · refine wpOp_mono ?_ (hA i him a w hI.kept hI.other fun j' hj' => ?_)
      · rintro a' w' ⟨u, rfl, hu, hb⟩
        have hlt : slot i < a.tmps.size := by rw [hI.size]; exact hin i him
        refine ⟨hI.kept.step hB hb, by rw [put_size]; exact hI.size, by rw [put_defers]; exact hI.defers, fun s h1 => ?_, fun j hj h1 => ?_, fun k hk => ?_, fun k hk h1 => ?_⟩
        · rw [put_get_ne (h1 i him)]; exact hI.other s h1
        · by_cases e : j = i
          · subst e; exact ⟨u, put_get hlt, hu⟩
          · rw [hne j e] at h1
            obtain ⟨u', g1, g2⟩ := hI.val j hj h1
            exact ⟨u', by rw [put_get_ne (fun e2 => e (hinj j i hj him e2))]; exact g1, hV1 _ _ _ _ hb g2⟩
        · obtain ⟨cs, g3, g4, g5, g6⟩ := hI.box k hk
          refine ⟨cs, (hb.block _ (Array.getElem?_eq_some_iff.1 g3).1).trans g3, g4, g5, fun h2 => ?_⟩
          rw [hne _ (by omega)] at h2
          have h3 := hI.stored k hk h2
          have h4 : vs k ≠ i := fun e => by rw [e, hunf] at h3; cases h3
          rw [put_get_ne (fun e2 => h4 (hinj _ _ (hst k hk).1 him e2))]
          exact g6 h2
        · rw [hne _ (by omega)] at h1
          exact getD_set_true (hI.stored k hk h1)
      · obtain ⟨h1, h2⟩ := hdep i him j' hj'
        obtain ⟨e, he, rfl, hbd⟩ := h2 o ho
        exact hI.val _ h1 (hall e he hbd)
    · obtain ⟨hvm, o', ho', hg, hop, hd, e2, he2, hon2, hb2⟩ := hst k hk
      obtain rfl : o' = o := Option.some.inj (ho'.symm.trans ho)
      have l2 := hall e2 he2 hb2
      rw [hon2] at l2
      obtain ⟨u, hu1, hu2⟩ := hI.val _ hvm l2
      obtain ⟨cs, rfl, hc1, hcC, hc2⟩ := hVs k hk w u hu2
      obtain ⟨old, g3, g4, g5, g6⟩ := hI.box k hk
      have hbk : a.tmps[bx k]? = some (.pointer (some ⟨gs k, 0, none⟩)) := by rw [hI.other _ (hbx k hk).2]; exact (hbx k hk).1
      refine step_store ho' hg hop hbk hu1 g3 (by rw [hc1]; exact hi) (by omega) hc2 ?_
      rw [hd]
      show ParS W0 a0 m n slot vs gs B T C z V _ a _
      refine ⟨hI.kept.row hk (hbox k hk).1 _, hI.size, hI.defers, hI.other, fun j hj h1 => ?_, fun k1 hk1 => ?_, fun k1 hk1 h1 => ?_⟩
      · rw [hne j (by omega)] at h1
        obtain ⟨u', q1, q2⟩ := hI.val j hj h1
        exact ⟨u', q1, hV2 _ _ _ _ _ _ g3 g5 q2⟩
      · by_cases e : k1 = k
        · subst e
          exact ⟨cs, setRow_heap w (gs k1) old cs T _ g3, hc1, hcC, fun _ => hu1⟩
        · obtain ⟨cs', q3, q4, q5, q6⟩ := hI.box k1 hk1
          have hgg : gs k1 ≠ gs k := fun e2 => e (hgs k1 k hk1 hk e2)
          refine ⟨cs', (setRow_other w (gs k) (gs k1) cs hgg).trans q3, q4, q5, fun h2 => ?_⟩
          rw [hne _ (by omega)] at h2
          exact q6 h2
      · by_cases e : k1 = k
        · subst e
          exact getD_set_true l2
        · rw [hne _ (by omega)] at h1
          exact getD_set_true (hI.stored k1 hk1 h1)
  · -- the end: all have come up
    intro listed a w hl hI hr
    have hfull : ∀ i, i < ops.size → listed.getD i false = true := by
      intro i
      induction i using Nat.strongRecOn with
      | _ i ih =>
        intro hi
        cases hx : listed.getD i false with
        | true => rfl
        | false =>
          exfalso
          have ho : ops[i]? = some ops[i] := Array.getElem?_eq_getElem hi
          have : i ∈ Region.ready .any ops listed := by
            refine mem_ready.2 ⟨?_, ops[i], ho, fun e he _ => ih e.on (hord i _ ho e he) (Nat.lt_trans (hord i _ ho e he) hi)⟩
            have hil : i < listed.size := by omega
            simp only [Array.getD_eq_getD_getElem?, Array.getElem?_eq_getElem hil, Option.getD_some] at hx ⊢
            exact hx
          rw [hr] at this
          cases this
    have hval : ∀ j, ∃ u, j < m → a.tmps[slot j]? = some u ∧ V j w u := fun j => by
      by_cases hj : j < m
      · obtain ⟨u, h1, h2⟩ := hI.val j hj (hfull j (by omega))
        exact ⟨u, fun _ => ⟨h1, h2⟩⟩
      · exact ⟨undef, fun h => absurd h hj⟩
    obtain ⟨u, hu⟩ := Classical.axiomOfChoice hval
    refine hQ u a w hI.kept hu (fun k hk => ?_) hI.size hI.defers hI.other
    obtain ⟨cs, h3, h4, h5, h6⟩ := hI.box k hk
    have h7 := h6 (hfull _ (by omega))
    rw [(hu _ (hst k hk).1).1] at h7
    exact ⟨cs, Option.some.inj h7, h3⟩
  · -- the start
    have h0 : ∀ x, (Array.replicate ops.size false).getD x false = true → False := fun x h => by
      simp [Array.getD_eq_getD_getElem?, Array.getElem?_replicate] at h
      split at h <;> simp at h
    refine ⟨⟨(Below.refl _ _).drew, Nat.le_refl _, fun _ _ _ => rfl⟩, rfl, rfl, fun _ _ => rfl, fun j _ h => (h0 _ h).elim, fun k hk => ?_, fun k _ h => (h0 _ h).elim⟩
    obtain ⟨-, cs, h1, h2, h3⟩ := hbox k hk
    exact ⟨cs, h1, h2, h3, fun h => (h0 _ h).elim⟩
end Go.Proofs.Ytknljimmilhfkaa
/- lo, hi := Float(r.Lo), Float(r.Hi): into new boxes, and into old ones. -/
namespace Go.Proofs.Ytknljimmilhfkaa
set_option linter.unusedVariables false
set_option linter.unusedSimpArgs false
open Go.RowKit Go.Fl64

theorem gord_of {ops : Array Oper} (h : ((List.range ops.size).all fun i => match ops[i]? with | some o => o.after.all (fun e => decide (e.on < i)) | none => true) = true) (i : Nat) (o : Oper) (ho : ops[i]? = some o) : ∀ e ∈ o.after, e.on < i := by
  intro e he
  have hi : i < ops.size := (Array.getElem?_eq_some_iff.1 ho).1
  have h1 := List.all_eq_true.1 h i (List.mem_range.2 hi)
  simp only [ho] at h1
  exact of_decide_eq_true (Array.all_eq_true_iff_forall_mem.1 h1 e he)
theorem grun_fieldI0 (g : Nat) (w : World) : (Instr.fieldAt 24 (.pointer (some ⟨g, 0, none⟩)) 0).run Try.prog w = .ok (.pointer (some ⟨g, 0, none⟩)) w := by kernel_rfl
theorem grun_fieldI1 (g : Nat) (w : World) : (Instr.fieldAt 24 (.pointer (some ⟨g, 0, none⟩)) 1).run Try.prog w = .ok (.pointer (some ⟨g, 1, none⟩)) w := by kernel_rfl
theorem grun_loadF (g f x : Nat) (w : World) (h : w.cell? ⟨g, f, none⟩ = some (.float .f64 x)) : (Instr.loadAt 22 (.pointer (some ⟨g, f, none⟩))).run Try.prog w = .ok (.float .f64 x) w := by
  have u := Try.isAgg22
  simp [Instr.loadAt, Instr.sureAddr, loadVar, h, go_sem]
theorem gstep_fieldI {ops : Array Oper} {Q : Exit → Act → World → Prop} {i : Nat} {o : Oper} {K : Act → World → Prop} {a : Act} {w : World}
    (hi : ops[i]? = some o) (hg : o.guard = none) {s : Tmp} {f : Nat} (hop : o.op = .fieldAddr 24 (.tmp s) f) {g : Nat} (hf : f = 0 ∨ f = 1)
    (hs : a.tmps[s]? = some (.pointer (some ⟨g, 0, none⟩))) (h : K (a.put o.dst (.pointer (some ⟨g, f, none⟩))) w) : wpOp Try.prog ops Q i K a w := by
  refine step_wanted hi hg ?_
  unfold Oper.wp
  rcases hf with rfl | rfl
  · simp [execOp, hop, eval_get hs, grun_fieldI0, Result.andThen, Oper.upon, h]
  · simp [execOp, hop, eval_get hs, grun_fieldI1, Result.andThen, Oper.upon, h]
theorem gstep_loadF {ops : Array Oper} {Q : Exit → Act → World → Prop} {i : Nat} {o : Oper} {K : Act → World → Prop} {a : Act} {w : World}
    (hi : ops[i]? = some o) (hg : o.guard = none) {s : Tmp} (hop : o.op = .load 22 (.tmp s)) {g f x : Nat}
    (hs : a.tmps[s]? = some (.pointer (some ⟨g, f, none⟩))) (hc : w.cell? ⟨g, f, none⟩ = some (.float .f64 x)) (h : K (a.put o.dst (.float .f64 x)) w) : wpOp Try.prog ops Q i K a w := by
  refine step_wanted hi hg ?_
  unfold Oper.wp
  simp [execOp, hop, eval_get hs, grun_loadF g f x w hc, Result.andThen, Oper.upon, h]
theorem gzero_num (w : World) : (zeroValue 30).run Try.prog w = .ok (.agg #[.bool false, .slice none 0 0, .int .i64 0]) w := Try.zeroValue30 w
/-- the shape of a number in its box -/
def NumC (cs : Array Value) : Prop := ∃ (s : Bool) (ao : Option Addr) (n cap : Nat) (e : Int), cs = #[.bool s, .slice ao n cap, .int .i64 e]
theorem gat_row {W : World} {ao : Option Addr} {n z g : Nat} {cs0 : Array Value} {T : TypeId} (h : At W ao n z) (hE : W.heap[g]? = some (.cells cs0 T (0, 0))) (hC : NumC cs0) (cs : Array Value) : At (W.setRow g cs) ao n z := by
  obtain ⟨bb, o, h1, h2⟩ := h
  obtain ⟨s', ao', n', cap', e', rfl⟩ := hC
  refine ⟨bb, o, h1, fun i hi => ?_⟩
  have hc := h2 i hi
  have hne : bb ≠ g := by
    rintro rfl
    simp only [World.cell?, hE] at hc
    rcases (show o + i = 0 ∨ o + i = 1 ∨ o + i = 2 ∨ 3 ≤ o + i by omega) with e | e | e | e
    · rw [e] at hc; simp at hc
    · rw [e] at hc; simp at hc
    · rw [e] at hc; simp at hc
    · rw [Array.getElem?_eq_none (by simpa using e)] at hc; cases hc
  have hs := setRow_other W g bb cs hne
  unfold World.cell? at hc ⊢
  rw [hs]
  exact hc
theorem DN.grow {W : World} {A : Value} {t : Bool × Nat × Int} {g : Nat} {cs0 : Array Value} {T : TypeId} (h : DN W A t) (hE : W.heap[g]? = some (.cells cs0 T (0, 0))) (hC : NumC cs0) (cs : Array Value) : DN (W.setRow g cs) A t := by
  obtain ⟨ao', cap', h2, h3⟩ := h
  exact ⟨ao', cap', h2, h3.nil, gat_row h3.at_ hE hC cs, h3.le, h3.small⟩
theorem DN.cells {W : World} {A : Value} {t : Bool × Nat × Int} (h : DN W A t) : ∃ cs : Array Value, A = .agg cs ∧ cs.size = 3 ∧ NumC cs ∧ cs.all (·.oneCell') = true := by
  obtain ⟨s, ao, n, cap, e, rfl⟩ := h.shape
  exact ⟨_, rfl, rfl, ⟨_, _, _, _, _, rfl⟩, one3 rfl rfl⟩

def flE (g f0 f1 : Nat) (j : Nat) (w : World) (u : Value) : Prop :=
  match j with
  | 0 => u = .pointer (some ⟨g, 0, none⟩)
  | 1 => u = .float .f64 f0
  | 2 => DN w u (tF f0)
  | 3 => u = .pointer (some ⟨g, 1, none⟩)
  | 4 => u = .float .f64 f1
  | _ => DN w u (tF f1)
def flD (j : Nat) : List Nat :=
  match j with
  | 0 => []
  | 1 => [0]
  | 2 => [1]
  | 3 => []
  | 4 => [3]
  | _ => [4]
theorem flE_later {g f0 f1 j : Nat} {w w' : World} {u : Value} (hb : Below w.heap.size w w') (h : flE g f0 f1 j w u) : flE g f0 f1 j w' u := by
  rcases (show j = 0 ∨ j = 1 ∨ j = 2 ∨ j = 3 ∨ j = 4 ∨ ∃ k, j = k + 5 by by_cases h : 5 ≤ j; exact .inr (.inr (.inr (.inr (.inr ⟨j - 5, by omega⟩)))); omega) with rfl | rfl | rfl | rfl | rfl | ⟨k, rfl⟩
  · exact h
  · exact h
  · exact DN.later h hb
  · exact h
  · exact h
  · exact DN.later (t := tF f1) h hb
theorem flE_row {g f0 f1 j g' : Nat} {w : World} {u : Value} {cs0 cs : Array Value} {T : TypeId} (hE : w.heap[g']? = some (.cells cs0 T (0, 0))) (hC : NumC cs0) (h : flE g f0 f1 j w u) : flE g f0 f1 j (w.setRow g' cs) u := by
  rcases (show j = 0 ∨ j = 1 ∨ j = 2 ∨ j = 3 ∨ j = 4 ∨ ∃ k, j = k + 5 by by_cases h : 5 ≤ j; exact .inr (.inr (.inr (.inr (.inr ⟨j - 5, by omega⟩)))); omega) with rfl | rfl | rfl | rfl | rfl | ⟨k, rfl⟩
  · exact h
  · exact h
  · exact DN.grow h hE hC _
  · exact h
  · exact h
  · exact DN.grow (t := tF f1) h hE hC _
theorem glt6 {j : Nat} (h : j < 6) : j = 0 ∨ j = 1 ∨ j = 2 ∨ j = 3 ∨ j = 4 ∨ j = 5 := by omega
theorem glt2 {j : Nat} (h : j < 2) : j = 0 ∨ j = 1 := by omega
/-- the six operations that make the two numbers -/
structure FlOps (ops : Array Oper) (src s0 : Tmp) : Prop where
  o0 : ∃ o, ops[0]? = some o ∧ o.guard = none ∧ o.op = .fieldAddr 24 (.tmp src) 0 ∧ o.dst = some s0
  o1 : ∃ o, ops[1]? = some o ∧ o.guard = none ∧ o.op = .load 22 (.tmp s0) ∧ o.dst = some (s0 + 1) ∧ ∃ e ∈ o.after, e.on = 0 ∧ Region.binds .any e = true
  o2 : ∃ o, ops[2]? = some o ∧ o.guard = none ∧ (∃ ts, o.op = .call { callee := .value (.func 5), args := #[.tmp (s0 + 1)], argTypes := ts }) ∧ o.dst = some (s0 + 2) ∧ ∃ e ∈ o.after, e.on = 1 ∧ Region.binds .any e = true
  o3 : ∃ o, ops[3]? = some o ∧ o.guard = none ∧ o.op = .fieldAddr 24 (.tmp src) 1 ∧ o.dst = some (s0 + 3)
  o4 : ∃ o, ops[4]? = some o ∧ o.guard = none ∧ o.op = .load 22 (.tmp (s0 + 3)) ∧ o.dst = some (s0 + 4) ∧ ∃ e ∈ o.after, e.on = 3 ∧ Region.binds .any e = true
  o5 : ∃ o, ops[5]? = some o ∧ o.guard = none ∧ (∃ ts, o.op = .call { callee := .value (.func 5), args := #[.tmp (s0 + 4)], argTypes := ts }) ∧ o.dst = some (s0 + 5) ∧ ∃ e ∈ o.after, e.on = 4 ∧ Region.binds .any e = true
theorem FlOps.dep {ops : Array Oper} {src s0 : Tmp} (h : FlOps ops src s0) : ∀ j, j < 6 → ∀ j' ∈ flD j, j' < 6 ∧ ∀ o, ops[j]? = some o → ∃ e ∈ o.after, e.on = j' ∧ Region.binds .any e = true := by
  intro j hj j' hj'
  rcases glt6 hj with rfl | rfl | rfl | rfl | rfl | rfl
  · simp [flD] at hj'
  · obtain rfl : j' = 0 := by simpa [flD] using hj'
    refine ⟨by omega, fun o ho => ?_⟩
    obtain ⟨o', ho', -, -, -, e⟩ := h.o1
    obtain rfl : o' = o := Option.some.inj (ho'.symm.trans ho)
    exact e
  · obtain rfl : j' = 1 := by simpa [flD] using hj'
    refine ⟨by omega, fun o ho => ?_⟩
    obtain ⟨o', ho', -, -, -, e⟩ := h.o2
    obtain rfl : o' = o := Option.some.inj (ho'.symm.trans ho)
    exact e
  · simp [flD] at hj'
  · obtain rfl : j' = 3 := by simpa [flD] using hj'
    refine ⟨by omega, fun o ho => ?_⟩
    obtain ⟨o', ho', -, -, -, e⟩ := h.o4
    obtain rfl : o' = o := Option.some.inj (ho'.symm.trans ho)
    exact e
  · obtain rfl : j' = 4 := by simpa [flD] using hj'
    refine ⟨by omega, fun o ho => ?_⟩
    obtain ⟨o', ho', -, -, -, e⟩ := h.o5
    obtain rfl : o' = o := Option.some.inj (ho'.symm.trans ho)
    exact e
theorem FlOps.step {ops : Array Oper} {Q : Exit → Act → World → Prop} {src s0 : Tmp} (h : FlOps ops src s0) {g f0 f1 : Nat} (h0 : f0 < 18446744073709551616) (h1 : f1 < 18446744073709551616) {j : Nat} (hj : j < 6) {a : Act} {w : World}
    (hs : a.tmps[src]? = some (.pointer (some ⟨g, 0, none⟩))) (c0 : w.cell? ⟨g, 0, none⟩ = some (.float .f64 f0)) (c1 : w.cell? ⟨g, 1, none⟩ = some (.float .f64 f1))
    (hd : ∀ j' ∈ flD j, ∃ u, a.tmps[s0 + j']? = some u ∧ flE g f0 f1 j' w u) : wpOp Try.prog ops Q j (fun a' w' => ∃ u, a' = a.put (some (s0 + j)) u ∧ flE g f0 f1 j w' u ∧ Below w.heap.size w w') a w := by
  rcases glt6 hj with rfl | rfl | rfl | rfl | rfl | rfl
  · obtain ⟨o, ho, hg, hop, hdst⟩ := h.o0
    refine gstep_fieldI ho hg hop (.inl rfl) hs ?_
    exact ⟨_, by rw [hdst]; rfl, rfl, Below.refl _ _⟩
  · obtain ⟨o, ho, hg, hop, hdst, -⟩ := h.o1
    obtain ⟨u, hu, hv⟩ := hd 0 (by simp [flD])
    obtain rfl : u = _ := hv
    refine gstep_loadF ho hg hop hu c0 ?_
    exact ⟨_, by rw [hdst], rfl, Below.refl _ _⟩
  · obtain ⟨o, ho, hg, ⟨ts, hop⟩, hdst, -⟩ := h.o2
    obtain ⟨u, hu, hv⟩ := hd 1 (by simp [flD])
    obtain rfl : u = _ := hv
    refine step_call ho hg hop (enters Try.func5 (by kernel_rfl) (by kernel_rfl)) (vs := #[_]) (by simp only [List.map_toArray, List.map_cons, List.map_nil]; rw [eval_get hu]) ?_
    refine (float_dn f0 h0 w).mono ?_
    rintro r w' ⟨A, rfl, hE, hb'⟩
    exact ⟨_, rfl, _, by rw [hdst], hE, hb'⟩
  · obtain ⟨o, ho, hg, hop, hdst⟩ := h.o3
    refine gstep_fieldI ho hg hop (.inr rfl) hs ?_
    exact ⟨_, by rw [hdst], rfl, Below.refl _ _⟩
  · obtain ⟨o, ho, hg, hop, hdst, -⟩ := h.o4
    obtain ⟨u, hu, hv⟩ := hd 3 (by simp [flD])
    obtain rfl : u = _ := hv
    refine gstep_loadF ho hg hop hu c1 ?_
    exact ⟨_, by rw [hdst], rfl, Below.refl _ _⟩
  · obtain ⟨o, ho, hg, ⟨ts, hop⟩, hdst, -⟩ := h.o5
    obtain ⟨u, hu, hv⟩ := hd 4 (by simp [flD])
    obtain rfl : u = _ := hv
    refine step_call ho hg hop (enters Try.func5 (by kernel_rfl) (by kernel_rfl)) (vs := #[_]) (by simp only [List.map_toArray, List.map_cons, List.map_nil]; rw [eval_get hu]) ?_
    refine (float_dn f1 h1 w).mono ?_
    rintro r w' ⟨A, rfl, hE, hb'⟩
    exact ⟨_, rfl, _, by rw [hdst], hE, hb'⟩
/-- into new boxes -/
theorem flz_region {ops : Array Oper} {Q : Exit → Act → World → Prop} {id : Nat} (src s0 b0 : Tmp) (g f0 f1 : Nat) (W0 : World) (a0 : Act) (h0 : f0 < 18446744073709551616) (h1 : f1 < 18446744073709551616)
    (hsz : ops.size = 10) (hord : ∀ (i : Nat) (o : Oper), ops[i]? = some o → ∀ e ∈ o.after, e.on < i) (hops : FlOps ops src s0)
    (hs : a0.tmps[src]? = some (.pointer (some ⟨g, 0, none⟩))) (hc : ∀ w, Below W0.heap.size W0 w → w.cell? ⟨g, 0, none⟩ = some (.float .f64 f0) ∧ w.cell? ⟨g, 1, none⟩ = some (.float .f64 f1))
    (hfree : (∀ j, j < 6 → src ≠ s0 + j) ∧ ∀ k, k < 2 → src ≠ b0 + k)
    (hal : ∀ k, k < 2 → ∃ o, ops[6 + k]? = some o ∧ o.guard = none ∧ o.op = .alloc 30 ∧ o.dst = some (b0 + k))
    (hst : ∀ k, k < 2 → ∃ o, ops[6 + 2 + k]? = some o ∧ o.guard = none ∧ o.op = .store 30 (.tmp (b0 + k)) (.tmp (s0 + (3 * k + 2))) ∧ o.dst = none ∧ (∃ e ∈ o.after, e.on = 6 + k ∧ Region.binds .any e = true) ∧ (∃ e ∈ o.after, e.on = 3 * k + 2 ∧ Region.binds .any e = true))
    (hin : ∀ j, j < 6 → s0 + j < a0.tmps.size) (hbin : ∀ k, k < 2 → b0 + k < a0.tmps.size) (hsb : ∀ j, j < 6 → ∀ k, k < 2 → s0 + j ≠ b0 + k)
    (hQ : ∀ (u : Nat → Value) (gb : Nat → Nat) (w : World), Below W0.heap.size W0 w → DN w (u 2) (tF f0) → DN w (u 5) (tF f1) → W0.heap.size ≤ gb 0 → W0.heap.size ≤ gb 1 →
      (∃ cs, u 2 = .agg cs ∧ w.heap[gb 0]? = some (.cells cs 30 (0, 0))) → (∃ cs, u 5 = .agg cs ∧ w.heap[gb 1]? = some (.cells cs 30 (0, 0))) →
      Q .normal (putL a0 ((List.range 6).map (fun j => (s0 + j, u j)) ++ (List.range 2).map (fun k => (b0 + k, .pointer (some ⟨gb k, 0, none⟩))))) w) :
    (Code.region id ops true).wp Try.prog Q a0 W0 := by
  refine parz_region follows_mixed 6 2 (fun j => s0 + j) (fun k => b0 + k) (fun k => 3 * k + 2) flD 30 #[.bool false, .slice none 0 0, .int .i64 0] W0 a0 (flE g f0 f1) hsz hord (fun j w w' u hb h => flE_later hb h) (fun j w u g' cs' hg h => flE_row hg ⟨_, _, _, _, _, rfl⟩ h) ?_ hops.dep ?_ hal gzero_num Try.info30 ?_ hin hbin (fun j j' _ _ h => Nat.add_left_cancel h) (fun k k' _ _ h => Nat.add_left_cancel h) (fun j k hj hk => hsb j hj k hk) ?_
  · intro k hk w u h
    rcases glt2 hk with rfl | rfl
    · obtain ⟨cs, e1, e2, -, e3⟩ := DN.cells (show DN w u (tF f0) from h)
      exact ⟨cs, e1, e2, e3⟩
    · obtain ⟨cs, e1, e2, -, e3⟩ := DN.cells (show DN w u (tF f1) from h)
      exact ⟨cs, e1, e2, e3⟩
  · intro j hj a w hb hoth hdep
    exact hops.step h0 h1 hj (by rw [hoth src hfree.1 hfree.2]; exact hs) (hc w hb).1 (hc w hb).2 hdep
  · intro k hk
    obtain ⟨o, x1, x2, x3, x4, x5, x6⟩ := hst k hk
    exact ⟨by omega, o, x1, x2, x3, x4, x5, x6⟩
  · intro u gb a w hb hu hg hs' hd' hoth
    have ha : a = putL a0 ((List.range 6).map (fun j => (s0 + j, u j)) ++ (List.range 2).map (fun k => (b0 + k, .pointer (some ⟨gb k, 0, none⟩)))) := by
      refine act_putL ?_ hs' hd' ?_ ?_
      · have e : ((List.range 6).map (fun j => (s0 + j, u j)) ++ (List.range 2).map (fun k => (b0 + k, Value.pointer (some ⟨gb k, 0, none⟩)))).map (·.1) = (List.range 6).map (fun j => s0 + j) ++ (List.range 2).map (fun k => b0 + k) := by simp [Function.comp_def]
        rw [e, List.nodup_append]
        refine ⟨?_, ?_, ?_⟩
        · refine List.pairwise_map.2 ((List.nodup_range (n := 6)).imp_of_mem ?_)
          intro x y hx hy hne he
          exact hne (Nat.add_left_cancel he)
        · refine List.pairwise_map.2 ((List.nodup_range (n := 2)).imp_of_mem ?_)
          intro x y hx hy hne he
          exact hne (Nat.add_left_cancel he)
        · intro x hx y hy
          obtain ⟨j, hj, rfl⟩ := List.mem_map.1 hx
          obtain ⟨k, hk, rfl⟩ := List.mem_map.1 hy
          exact hsb j (List.mem_range.1 hj) k (List.mem_range.1 hk)
      · intro p hp
        rcases List.mem_append.1 hp with h | h
        · obtain ⟨j, hj, rfl⟩ := List.mem_map.1 h
          exact (hu j (List.mem_range.1 hj)).1
        · obtain ⟨k, hk, rfl⟩ := List.mem_map.1 h
          exact (hg k (List.mem_range.1 hk)).1
      · intro s hsn
        refine hoth s (fun j hj he => hsn ?_) (fun k hk he => hsn ?_)
        · rw [List.map_append]
          exact List.mem_append_left _ (List.mem_map.2 ⟨_, List.mem_map.2 ⟨j, List.mem_range.2 hj, rfl⟩, he.symm⟩)
        · rw [List.map_append]
          exact List.mem_append_right _ (List.mem_map.2 ⟨_, List.mem_map.2 ⟨k, List.mem_range.2 hk, rfl⟩, he.symm⟩)
    rw [ha]
    exact hQ u gb w hb (hu 2 (by omega)).2 (hu 5 (by omega)).2 (hg 0 (by omega)).2.1 (hg 1 (by omega)).2.1 (hg 0 (by omega)).2.2 (hg 1 (by omega)).2.2
/-- into old boxes -/
theorem fls_region {ops : Array Oper} {Q : Exit → Act → World → Prop} {id : Nat} (src s0 b0 : Tmp) (g f0 f1 B : Nat) (gs : Nat → Nat) (W0 : World) (a0 : Act) (h0 : f0 < 18446744073709551616) (h1 : f1 < 18446744073709551616)
    (hsz : ops.size = 8) (hord : ∀ (i : Nat) (o : Oper), ops[i]? = some o → ∀ e ∈ o.after, e.on < i) (hops : FlOps ops src s0)
    (hs : a0.tmps[src]? = some (.pointer (some ⟨g, 0, none⟩))) (hc : ∀ w, KeepB 2 gs B W0 w → w.cell? ⟨g, 0, none⟩ = some (.float .f64 f0) ∧ w.cell? ⟨g, 1, none⟩ = some (.float .f64 f1))
    (hfree : ∀ j, j < 6 → src ≠ s0 + j)
    (hst : ∀ k, k < 2 → ∃ o, ops[6 + k]? = some o ∧ o.guard = none ∧ o.op = .store 30 (.tmp (b0 + k)) (.tmp (s0 + (3 * k + 2))) ∧ o.dst = none ∧ (∃ e ∈ o.after, e.on = 3 * k + 2 ∧ Region.binds .any e = true))
    (hbx : ∀ k, k < 2 → a0.tmps[b0 + k]? = some (.pointer (some ⟨gs k, 0, none⟩)))
    (hbox : ∀ k, k < 2 → B ≤ gs k ∧ ∃ cs, W0.heap[gs k]? = some (.cells cs 30 (0, 0)) ∧ cs.size = 3 ∧ NumC cs) (hgs : gs 0 ≠ gs 1) (hB : B ≤ W0.heap.size)
    (hin : ∀ j, j < 6 → s0 + j < a0.tmps.size) (hsb : ∀ j, j < 6 → ∀ k, k < 2 → s0 + j ≠ b0 + k)
    (hQ : ∀ (u : Nat → Value) (w : World), KeepB 2 gs B W0 w → DN w (u 2) (tF f0) → DN w (u 5) (tF f1) →
      (∃ cs, u 2 = .agg cs ∧ w.heap[gs 0]? = some (.cells cs 30 (0, 0))) → (∃ cs, u 5 = .agg cs ∧ w.heap[gs 1]? = some (.cells cs 30 (0, 0))) →
      Q .normal (putL a0 ((List.range 6).map (fun j => (s0 + j, u j)))) w) :
    (Code.region id ops true).wp Try.prog Q a0 W0 := by
  refine pars_region follows_mixed 6 2 (fun j => s0 + j) (fun k => b0 + k) (fun k => 3 * k + 2) gs B flD 30 NumC 3 W0 a0 (flE g f0 f1) hsz hord (fun j w w' u hb h => flE_later hb h) (fun j w u g' cs cs' hg hC h => flE_row hg hC h) ?_ hops.dep ?_ Try.info30 ?_ ?_ hbox ?_ hB hin (fun j j' _ _ h => Nat.add_left_cancel h) ?_
  · intro k hk w u h
    rcases glt2 hk with rfl | rfl
    · exact DN.cells (show DN w u (tF f0) from h)
    · exact DN.cells (show DN w u (tF f1) from h)
  · intro j hj a w hb hoth hdep
    exact hops.step h0 h1 hj (by rw [hoth src hfree]; exact hs) (hc w hb).1 (hc w hb).2 hdep
  · intro k hk
    obtain ⟨o, x1, x2, x3, x4, x5⟩ := hst k hk
    exact ⟨by omega, o, x1, x2, x3, x4, x5⟩
  · intro k hk
    exact ⟨hbx k hk, fun j hj e => hsb j hj k hk e.symm⟩
  · intro k k' hk hk' e
    rcases glt2 hk with rfl | rfl <;> rcases glt2 hk' with rfl | rfl
    · rfl
    · exact absurd e hgs
    · exact absurd e.symm hgs
    · rfl
  · intro u a w hb hu hg hs' hd' hoth
    have ha : a = putL a0 ((List.range 6).map (fun j => (s0 + j, u j))) := by
      refine act_putL ?_ hs' hd' ?_ ?_
      · have e : ((List.range 6).map (fun j => (s0 + j, u j))).map (·.1) = (List.range 6).map (fun j => s0 + j) := by simp [Function.comp_def]
        rw [e]
        refine List.pairwise_map.2 ((List.nodup_range (n := 6)).imp_of_mem ?_)
        intro x y hx hy hne he
        exact hne (Nat.add_left_cancel he)
      · intro p hp
        obtain ⟨j, hj, rfl⟩ := List.mem_map.1 hp
        exact (hu j (List.mem_range.1 hj)).1
      · intro s hsn
        refine hoth s (fun j hj he => hsn ?_)
        exact List.mem_map.2 ⟨_, List.mem_map.2 ⟨j, List.mem_range.2 hj, rfl⟩, he.symm⟩
    rw [ha]
    exact hQ u w hb (hu 2 (by omega)).2 (hu 5 (by omega)).2 (hg 0 (by omega)) (hg 1 (by omega))
end Go.Proofs.Ytknljimmilhfkaa
