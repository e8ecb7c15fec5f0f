/- Own work: contracts of the program's functions, part 14: SNP. -/
import Derived.Test.YtknljimmilhfkaaA9

/- Several values made at once and put into boxes, which hold their zero value till then. -/
namespace Go.Proofs.Ytknljimmilhfkaa
set_option linter.unusedVariables false
set_option linter.unusedSimpArgs false
open Go.RowKit

/-- What holds while such a region runs: the operations ahead of m make values (number j in slot 'slot j', of which V j holds), the next n lay boxes of type T, the last n store number 'vs k' into box k. -/
structure ParZ (W0 : World) (a0 : Act) (m n : Nat) (slot bx : Nat → Tmp) (vs : Nat → Nat) (T : TypeId) (zs : Array Value) (V : Nat → World → Value → Prop) (listed : Array Bool) (a : Act) (w : World) : Prop where
  below : Below W0.heap.size W0 w
  size : a.tmps.size = a0.tmps.size
  defers : a.defers = a0.defers
  other : ∀ s, (∀ j, j < m → s ≠ slot j) → (∀ k, k < n → s ≠ bx k) → a.tmps[s]? = a0.tmps[s]?
  val : ∀ j, j < m → listed.getD j false = true → ∃ u, a.tmps[slot j]? = some u ∧ V j w u
  box : ∀ k, k < n → listed.getD (m + k) false = true → ∃ g cs, a.tmps[bx k]? = some (.pointer (some ⟨g, 0, none⟩)) ∧ W0.heap.size ≤ g ∧ w.heap[g]? = some (.cells cs T (0, 0)) ∧ cs.size = zs.size ∧
    (listed.getD (m + n + k) false = true → a.tmps[slot (vs k)]? = some (.agg cs)) ∧ (listed.getD (m + n + k) false = false → cs = zs)
  apart : ∀ k k', k < n → k' < n → k ≠ k' → listed.getD (m + k) false = true → listed.getD (m + k') false = true → a.tmps[bx k]? ≠ a.tmps[bx k']?
  stored : ∀ k, k < n → listed.getD (m + n + k) false = true → listed.getD (m + k) false = true ∧ listed.getD (vs k) false = true

theorem parz_region {P : Program} {ops : Array Oper} {Q : Exit → Act → World → Prop} {id : Nat} (hm : P.follows .mixedOrders = true) (m n : Nat) (slot bx : Nat → Tmp) (vs : Nat → Nat) (dep : Nat → List Nat) (T : TypeId) (zs : Array Value)
    (W0 : World) (a0 : Act) (V : Nat → World → Value → Prop) (hsz : ops.size = m + n + n)
    (hord : ∀ (i : Nat) (o : Oper), ops[i]? = some o → ∀ e ∈ o.after, e.on < i)
    (hV1 : ∀ j w w' u, Below w.heap.size w w' → V j w u → V j w' u)
    (hV2 : ∀ j w u g cs', w.heap[g]? = some (.cells zs T (0, 0)) → V j w u → V j (w.setRow g cs') u)
    (hVs : ∀ k, k < n → ∀ w u, V (vs k) w u → ∃ cs : Array Value, u = .agg cs ∧ cs.size = zs.size ∧ cs.all (·.oneCell') = true)
    (hdep : ∀ j, j < m → ∀ j' ∈ dep j, j' < m ∧ ∀ o, ops[j]? = some o → ∃ e ∈ o.after, e.on = j' ∧ Region.binds .any e = true)
    (hA : ∀ j, j < m → ∀ (a : Act) (w : World), Below W0.heap.size W0 w → (∀ s, (∀ j, j < m → s ≠ slot j) → (∀ k, k < n → s ≠ bx k) → a.tmps[s]? = a0.tmps[s]?) →
      (∀ j' ∈ dep j, ∃ u, a.tmps[slot j']? = some u ∧ V j' w u) → wpOp P ops Q j (fun a' w' => ∃ u, a' = a.put (some (slot j)) u ∧ V j w' u ∧ Below w.heap.size w w') a w)
    (hal : ∀ k, k < n → ∃ o, ops[m + k]? = some o ∧ o.guard = none ∧ o.op = .alloc T ∧ o.dst = some (bx k))
    (hz : ∀ w, (zeroValue T).run P w = .ok (.agg zs) w) (hi : (P.info? T).map (·.size) = some zs.size)
    (hst : ∀ k, k < n → vs k < m ∧ ∃ o, ops[m + n + k]? = some o ∧ o.guard = none ∧ o.op = .store T (.tmp (bx k)) (.tmp (slot (vs k))) ∧ o.dst = none ∧ (∃ e ∈ o.after, e.on = m + k ∧ Region.binds .any e = true) ∧ (∃ e ∈ o.after, e.on = vs k ∧ Region.binds .any e = true))
    (hin : ∀ j, j < m → slot j < a0.tmps.size) (hbin : ∀ k, k < n → bx k < a0.tmps.size)
    (hinj : ∀ j j', j < m → j' < m → slot j = slot j' → j = j') (hbinj : ∀ k k', k < n → k' < n → bx k = bx k' → k = k') (hsb : ∀ j k, j < m → k < n → slot j ≠ bx k)
    (hQ : ∀ (u : Nat → Value) (g : Nat → Nat) (a : Act) (w : World), Below W0.heap.size W0 w → (∀ j, j < m → a.tmps[slot j]? = some (u j) ∧ V j w (u j)) →
      (∀ k, k < n → a.tmps[bx k]? = some (.pointer (some ⟨g k, 0, none⟩)) ∧ W0.heap.size ≤ g k ∧ ∃ cs, u (vs k) = .agg cs ∧ w.heap[g k]? = some (.cells cs T (0, 0))) →
      a.tmps.size = a0.tmps.size → a.defers = a0.defers → (∀ s, (∀ j, j < m → s ≠ slot j) → (∀ k, k < n → s ≠ bx k) → a.tmps[s]? = a0.tmps[s]?) → Q .normal a w) :
    (Code.region id ops true).wp P Q a0 W0 := by
  refine wp_region_any hm ?_
  refine wpAny_inv (ParZ W0 a0 m n slot bx vs T zs V) ?_ ?_ ops.size _ a0 _ (by simp) ?_ (by simp)
  · -- a step
    intro listed a w i hl hI hr
    obtain ⟨hun, o, ho, hall⟩ := mem_ready.1 hr
    have hunf := not_listed hun
    have hio : i < ops.size := (Array.getElem?_eq_some_iff.1 ho).1
    have hil : i < listed.size := by omega
    have hset := listed_set hil
    have hne : ∀ x, x ≠ i → (listed.setIfInBounds i true).getD x false = listed.getD x false := fun x hx => getD_set_ne false (Ne.symm hx)
    have hpart : i < m ∨ (∃ k, k < n ∧ i = m + k) ∨ ∃ k, k < n ∧ i = m + n + k := by
      by_cases h1 : i < m
      · exact .inl h1
      · by_cases h2 : i < m + n
        · exact .inr (.inl ⟨i - m, by omega, by omega⟩)
        · exact .inr (.inr ⟨i - m - n, by omega, by omega⟩)
    rcases hpart with him | ⟨k, hk, rfl⟩ | ⟨k, hk, rfl⟩
    · refine wpOp_mono ?_ (hA i him a w hI.below hI.other fun j' hj' => ?_)
      · rintro a' w' ⟨u, rfl, hu, hb⟩
        have hlt : slot i < a.tmps.size := by rw [hI.size]; exact hin i him
        refine ⟨hI.below.trans (hb.mono hI.below.size), by rw [put_size]; exact hI.size, by rw [put_defers]; exact hI.defers, fun s h1 h2 => ?_, fun j hj h1 => ?_, fun k hk h1 => ?_, fun k k' hk hk' hkk h1 h2 => ?_, fun k hk h1 => ?_⟩
        · rw [put_get_ne (h1 i him)]; exact hI.other s h1 h2
        · by_cases e : j = i
          · subst e; exact ⟨u, put_get hlt, hu⟩
          · rw [hne j e] at h1
            obtain ⟨u', g1, g2⟩ := hI.val j hj h1
            exact ⟨u', by rw [put_get_ne (fun e2 => e (hinj j i hj him e2))]; exact g1, hV1 _ _ _ _ hb g2⟩
        · rw [hne _ (by omega)] at h1
          obtain ⟨g, cs, g1, g2, g3, g4, g5, g6⟩ := hI.box k hk h1
          refine ⟨g, cs, by rw [put_get_ne (Ne.symm (hsb i k him hk))]; exact g1, g2, (hb.block g (Array.getElem?_eq_some_iff.1 g3).1).trans g3, g4, fun h2 => ?_, fun h2 => g6 (by rw [← hne (m + n + k) (by omega)]; exact h2)⟩
          rw [hne _ (by omega)] at h2
          have h3 := (hI.stored k hk h2).2
          have h4 : vs k ≠ i := fun e => by rw [e, hunf] at h3; cases h3
          rw [put_get_ne (fun e2 => h4 (hinj _ _ (hst k hk).1 him e2))]
          exact g5 h2
        · rw [hne _ (by omega)] at h1 h2
          rw [put_get_ne (Ne.symm (hsb i k him hk)), put_get_ne (Ne.symm (hsb i k' him hk'))]
          exact hI.apart k k' hk hk' hkk h1 h2
        · rw [hne _ (by omega)] at h1
          obtain ⟨h2, h3⟩ := hI.stored k hk h1
          exact ⟨by rw [hne _ (by omega)]; exact h2, getD_set_true h3⟩
      · obtain ⟨h1, h2⟩ := hdep i him j' hj'
        obtain ⟨e, he, rfl, hbd⟩ := h2 o ho
        exact hI.val _ h1 (hall e he hbd)
    · obtain ⟨o', ho', hg, hop, hd⟩ := hal k hk
      refine step_alloc ho' hg hop hz ?_
      rw [hd]
      have hlt : bx k < a.tmps.size := by rw [hI.size]; exact hbin k hk
      have hbw : Below w.heap.size w (w.alloc (.cells zs T)) := (Below.refl _ _).alloc (Nat.le_refl _) _
      refine ⟨hI.below.trans (hbw.mono hI.below.size), by rw [put_size]; exact hI.size, by rw [put_defers]; exact hI.defers, fun s h1 h2 => ?_, fun j hj h1 => ?_, fun k1 hk1 h1 => ?_, fun k1 k2 hk1 hk2 hkk h1 h2 => ?_, fun k1 hk1 h1 => ?_⟩
      · rw [put_get_ne (h2 k hk)]; exact hI.other s h1 h2
      · rw [hne j (by omega)] at h1
        obtain ⟨u', g1, g2⟩ := hI.val j hj h1
        exact ⟨u', by rw [put_get_ne (hsb j k hj hk)]; exact g1, hV1 _ _ _ _ hbw g2⟩
      · by_cases e : k1 = k
        · subst e
          refine ⟨w.heap.size, zs, put_get hlt, hI.below.size, heap_alloc_new _ _, rfl, fun h2 => ?_, fun _ => rfl⟩
          rw [hne _ (by omega)] at h2
          have := (hI.stored k1 hk h2).1
          rw [hunf] at this
          cases this
        · rw [hne _ (by omega)] at h1
          obtain ⟨g, cs, g1, g2, g3, g4, g5, g6⟩ := hI.box k1 hk1 h1
          refine ⟨g, cs, by rw [put_get_ne (fun e2 => e (hbinj _ _ hk1 hk e2))]; exact g1, g2, (hbw.block g (Array.getElem?_eq_some_iff.1 g3).1).trans g3, g4, fun h2 => ?_, fun h2 => g6 (by rw [← hne (m + n + k1) (by omega)]; exact h2)⟩
          rw [hne _ (by omega)] at h2
          rw [put_get_ne (hsb _ k (hst k1 hk1).1 hk)]
          exact g5 h2
      · have old : ∀ k1, k1 < n → k1 ≠ k → listed.getD (m + k1) false = true → a.tmps[bx k1]? ≠ some (.pointer (some ⟨w.heap.size, 0, none⟩)) := fun k1 hk1 e h1 h2 => by
          obtain ⟨g, cs, g1, g2, g3, g4, g5, g6⟩ := hI.box k1 hk1 h1
          have hlt := (Array.getElem?_eq_some_iff.1 g3).1
          rw [g1] at h2
          simp only [Option.some.injEq, Value.pointer.injEq, Addr.mk.injEq] at h2
          omega
        by_cases e1 : k1 = k
        · subst e1
          rw [hne _ (by omega)] at h2
          rw [put_get hlt, put_get_ne (fun e2 => hkk (hbinj _ _ hk hk2 e2.symm))]
          exact Ne.symm (old k2 hk2 (Ne.symm hkk) h2)
        · rw [hne _ (by omega)] at h1
          by_cases e2 : k2 = k
          · subst e2
            rw [put_get hlt, put_get_ne (fun e2 => e1 (hbinj _ _ hk1 hk e2))]
            exact old k1 hk1 e1 h1
          · rw [hne _ (by omega)] at h2
            rw [put_get_ne (fun e3 => e1 (hbinj _ _ hk1 hk e3)), put_get_ne (fun e3 => e2 (hbinj _ _ hk2 hk e3))]
            exact hI.apart k1 k2 hk1 hk2 hkk h1 h2
      · rw [hne _ (by omega)] at h1
        obtain ⟨h2, h3⟩ := hI.stored k1 hk1 h1
        exact ⟨getD_set_true h2, getD_set_true h3⟩
    · obtain ⟨hvm, o', ho', hg, hop, hd, ⟨e1, he1, hon1, hb1⟩, e2, he2, hon2, hb2⟩ := hst k hk
      obtain rfl : o' = o := Option.some.inj (ho'.symm.trans ho)
      have l1 := hall e1 he1 hb1
      have l2 := hall e2 he2 hb2
      rw [hon1] at l1
      rw [hon2] at l2
      obtain ⟨u, hu1, hu2⟩ := hI.val _ hvm l2
      obtain ⟨cs, rfl, hc1, hc2⟩ := hVs k hk w u hu2
      obtain ⟨g, old, g1, g2, g3, g4, g5, g6⟩ := hI.box k hk l1
      rw [g6 hunf] at g3 g4
      refine step_store ho' hg hop g1 hu1 g3 (by rw [hc1]; exact hi) (by omega) hc2 ?_
      rw [hd]
      show ParZ W0 a0 m n slot bx vs T zs V _ a _
      refine ⟨below_row hI.below g2 _, hI.size, hI.defers, hI.other, fun j hj h1 => ?_, fun k1 hk1 h1 => ?_, fun k1 k2 hk1 hk2 hkk h1 h2 => ?_, fun k1 hk1 h1 => ?_⟩
      · rw [hne j (by omega)] at h1
        obtain ⟨u', q1, q2⟩ := hI.val j hj h1
        exact ⟨u', q1, hV2 _ _ _ _ _ g3 q2⟩
      · rw [hne _ (by omega)] at h1
        by_cases e : k1 = k
        · subst e
          exact ⟨g, cs, g1, g2, setRow_heap w g _ cs T _ g3, hc1, fun _ => hu1, fun h2 => by rw [hset] at h2; cases h2⟩
        · obtain ⟨g', cs', q1, q2, q3, q4, q5, q6⟩ := hI.box k1 hk1 h1
          have hgg : g' ≠ g := fun e2 => by
            subst e2
            exact hI.apart k1 k hk1 hk e h1 l1 (q1.trans g1.symm)
          refine ⟨g', cs', q1, q2, (setRow_other w g g' cs hgg).trans q3, q4, fun h2 => ?_, fun h2 => q6 (by rw [← hne (m + n + k1) (by omega)]; exact h2)⟩
          rw [hne _ (by omega)] at h2
          exact q5 h2
      · rw [hne _ (by omega)] at h1 h2
        exact hI.apart k1 k2 hk1 hk2 hkk h1 h2
      · by_cases e : k1 = k
        · subst e
          exact ⟨getD_set_true l1, getD_set_true l2⟩
        · rw [hne _ (by omega)] at h1
          obtain ⟨h2, h3⟩ := hI.stored k1 hk1 h1
          exact ⟨getD_set_true h2, getD_set_true h3⟩
  · -- the end: all have come up
    intro listed a w hl hI hr
    have hfull : ∀ i, i < ops.size → listed.getD i false = true := by
      intro i
      induction i using Nat.strongRecOn with
      | _ i ih =>
        intro hi
        cases hx : listed.getD i false with
        | true => rfl
        | false =>
          exfalso
          have ho : ops[i]? = some ops[i] := Array.getElem?_eq_getElem hi
          have : i ∈ Region.ready .any ops listed := by
            refine mem_ready.2 ⟨?_, ops[i], ho, fun e he _ => ih e.on (hord i _ ho e he) (Nat.lt_trans (hord i _ ho e he) hi)⟩
            have hil : i < listed.size := by omega
            simp only [Array.getD_eq_getD_getElem?, Array.getElem?_eq_getElem hil, Option.getD_some] at hx ⊢
            exact hx
          rw [hr] at this
          cases this
    have hval : ∀ j, ∃ u, j < m → a.tmps[slot j]? = some u ∧ V j w u := fun j => by
      by_cases hj : j < m
      · obtain ⟨u, h1, h2⟩ := hI.val j hj (hfull j (by omega))
        exact ⟨u, fun _ => ⟨h1, h2⟩⟩
      · exact ⟨undef, fun h => absurd h hj⟩
    obtain ⟨u, hu⟩ := Classical.axiomOfChoice hval
    have hbox : ∀ k, ∃ g, k < n → a.tmps[bx k]? = some (.pointer (some ⟨g, 0, none⟩)) ∧ W0.heap.size ≤ g ∧ ∃ cs, u (vs k) = .agg cs ∧ w.heap[g]? = some (.cells cs T (0, 0)) := fun k => by
      by_cases hk : k < n
      · obtain ⟨g, cs, h1, h2, h3, h4, h5, -⟩ := hI.box k hk (hfull _ (by omega))
        refine ⟨g, fun _ => ⟨h1, h2, cs, ?_, h3⟩⟩
        have h6 := h5 (hfull _ (by omega))
        rw [(hu _ (hst k hk).1).1] at h6
        exact Option.some.inj h6
      · exact ⟨0, fun h => absurd h hk⟩
    obtain ⟨g, hg⟩ := Classical.axiomOfChoice hbox
    exact hQ u g a w hI.below hu hg hI.size hI.defers hI.other
  · -- the start
    have h0 : ∀ x, (Array.replicate ops.size false).getD x false = true → False := fun x h => by
      simp [Array.getD_eq_getD_getElem?, Array.getElem?_replicate] at h
      split at h <;> simp at h
    exact ⟨(Below.refl _ _).drew, rfl, rfl, fun _ _ _ => rfl, fun j _ h => (h0 _ h).elim, fun k _ h => (h0 _ h).elim, fun k k' _ _ _ h => (h0 _ h).elim, fun k _ h => (h0 _ h).elim⟩
end Go.Proofs.Ytknljimmilhfkaa
