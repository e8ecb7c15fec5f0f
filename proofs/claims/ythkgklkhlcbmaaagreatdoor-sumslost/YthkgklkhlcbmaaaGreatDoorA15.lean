/- Own work: contracts of the program's functions, part 15: UG7 UG8 UG9. -/
import Derived.Test.YthkgklkhlcbmaaaGreatDoorA14
import Derived.Sort.LoopGhostIn

set_option maxHeartbeats 16000000
namespace Go.Proofs.YthkgklkhlcbmaaaGreatDoor
set_option linter.unusedVariables false
set_option linter.unusedSimpArgs false
open Go Go.RowKit Go.Fl64 Go.Shelf
attribute [local go_sem] Oper.semAt_some
theorem cells_of_cell {W : World} {p : Addr} {v : Value} (h : W.cell? p = some v) : ∃ c T q, W.heap[p.block]? = some (.cells c T q) := by
  unfold World.cell? at h
  cases hb : W.heap[p.block]? with
  | none => rw [hb] at h; simp at h
  | some o =>
    rw [hb] at h
    cases o <;> first | exact ⟨_, _, _, rfl⟩ | (simp at h)
theorem pn_move {W W' : World} {s : Bool} {ao : Option Addr} {n cap : Nat} {e : Int} {t : Bool × Nat × Int} (h : PN W (.agg #[.bool s, .slice ao n cap, .int .i64 e]) t)
    (hk : ∀ ad : Addr, ao = some ad → 0 < n → ∀ c T q, W.heap[ad.block]? = some (.cells c T q) → W'.heap[ad.block]? = some (.cells c T q)) : PN W' (.agg #[.bool s, .slice ao n cap, .int .i64 e]) t := by
  obtain ⟨ao', cap', e1, ao2, cap2, e2, h3, h4, b, off, h5, h6⟩ := h
  have e3 : (s = t.1 ∧ (ao = ao' ∧ n = dlen t.2.1 ∧ cap = cap')) ∧ e = t.2.2 := by
    have := e1
    simp only [Value.agg.injEq, Array.mk.injEq, List.cons.injEq, Value.bool.injEq, Value.slice.injEq, Value.int.injEq, and_true, true_and] at this
    exact ⟨⟨this.1, this.2.1⟩, this.2.2⟩
  obtain ⟨⟨rfl, rfl, rfl, rfl⟩, rfl⟩ := e3
  have e4 : ao = ao2 := by simp only [Value.slice.injEq] at e2; exact e2.1
  subst e4
  refine ⟨_, _, rfl, _, _, e2, h3, h4, b, off, h5, fun i hi => ?_⟩
  obtain ⟨c, T, q, hc⟩ := cells_of_cell (h6 i hi)
  rw [← h6 i hi]
  exact World.cell?_of_block ((hk ⟨b, off, none⟩ (h5 (by omega)) (by omega) c T q hc).trans hc.symm)
theorem pn_low {W : World} {s : Bool} {ao : Option Addr} {n cap : Nat} {e : Int} {t : Bool × Nat × Int} (h : PN W (.agg #[.bool s, .slice ao n cap, .int .i64 e]) t) : ∀ ad : Addr, ao = some ad → 0 < n → ad.block < W.heap.size := by
  obtain ⟨ao', cap', e1, ao2, cap2, e2, h3, h4, b, off, h5, h6⟩ := h
  have e3 : ao = ao' ∧ n = dlen t.2.1 := by
    have := e1
    simp only [Value.agg.injEq, Array.mk.injEq, List.cons.injEq, Value.bool.injEq, Value.slice.injEq, Value.int.injEq, and_true, true_and] at this
    exact ⟨this.2.1.1, this.2.1.2.1⟩
  have e4 : ao' = ao2 := by simp only [Value.slice.injEq] at e2; exact e2.1
  intro ad ha hn
  have h7 := h5 (by omega)
  rw [e3.1, e4, h7] at ha
  cases ha
  exact World.block_lt_of_cell? _ _ (h6 0 (by omega))
theorem belX_store3 {Bp : Nat} {W : World} (a b c : Value) : BelX Bp W (((W.setCell ⟨Bp, 0, none⟩ a).setCell ⟨Bp, 1, none⟩ b).setCell ⟨Bp, 2, none⟩ c) := by
  refine ⟨rfl, rfl, rfl, by simp, fun d hd hn => ?_⟩
  rw [Below.heap_setCell _ _ _ _ (by show d ≠ Bp; omega), Below.heap_setCell _ _ _ _ (by show d ≠ Bp; omega), Below.heap_setCell _ _ _ _ (by show d ≠ Bp; omega)]
set_option maxRecDepth 200000 in
theorem parts1_in (n l Bp len : Nat) (t : Bool × Nat × Int) (Z : Int) (hap : Ap t Z) (hz : (apT t len).2.1 = 0) (hnz : ∀ i, i < len → (apT t i).2.1 ≠ 0) (wA w W : World) (J : Nat → World → Prop)
    (hT : Tab32 wA) (hI : Ie.Tab wA) (hwA : Below wA.heap.size wA w) (hBp : wA.heap.size ≤ Bp) (hBw : Bp < w.heap.size)
    (hY : ∀ k v A W', J k A → BelX Bp A W' → k < len → v = .float .f64 (apF t k) → YieldAt Fence.wide (n - 1) Tryz.prog l #[v] W' fun e W'' => e = .returned (.bool true) ∧ J (k + 1) W'' ∧ Below w.heap.size W' W'' ∧ ∀ b c T q, A.heap.size ≤ b → W'.heap[b]? = some (.cells c T q) → W''.heap[b]? = some (.cells c T q))
    (hbW : Below w.heap.size w W) (h0 : J 0 W) {s0 : Bool} {ao0 : Option Addr} {n0 cap0 : Nat} {e0 : Int} (hbx : w.heap[Bp]? = some (.cells #[.bool s0, .slice ao0 n0 cap0, .int .i64 e0] 59 (0, 0))) (hp : PN w (.agg #[.bool s0, .slice ao0 n0 cap0, .int .i64 e0]) t) :
    CallsIn Fence.wide n Tryz.prog 96 #[.func (.yield l) #[] #[], .pointer (some ⟨Bp, 0, none⟩)] W fun e W' => (∃ v, e = .returned v) ∧ ∃ A, J len A ∧ BelX Bp A W' := by
  have HI0 : Hid (∃ k, 0 + (len - k) = len ∧ k ≤ len ∧ Hid (Below wA.heap.size wA W ∧ ∃ A, J k A ∧ BelX Bp A W ∧ ∃ s ao m cap e, W.heap[Bp]? = some (.cells #[.bool s, .slice ao m cap, .int .i64 e] 59 (0, 0)) ∧ PN W (.agg #[.bool s, .slice ao m cap, .int .i64 e]) (apT t k) ∧ ∀ ad : Addr, ao = some ad → 0 < m → A.heap.size ≤ ad.block ∨ ad.block < w.heap.size)) :=
    ⟨0, by omega, by omega, hwA.trans (hbW.mono hwA.size), W, h0, Below.belX (Below.refl _ _), _, _, _, _, _, box_later hbx hbW hBw, hp.later hbW, fun ad h1 h2 => .inr (pn_low hp ad h1 h2)⟩
  refine callsIn_of_wp Tryz.func96 rfl trivial ?_ rfl
  simp only [Tryz.ntmps96, List.size_toArray, List.length_cons, List.length_nil, Nat.reduceAdd, Nat.reduceSub, Array.replicate_succ, Array.replicate_zero, List.push_toArray, List.append_toArray, List.nil_append, List.cons_append]
  clear hp hbx h0 hbW
  gi_wp2
  gi_loopg [] len (fun gk wr => ∃ k, gk + k = len ∧ Hid (Below wA.heap.size wA wr ∧ ∃ A, J k A ∧ BelX Bp A wr ∧ ∃ s ao m cap e, wr.heap[Bp]? = some (.cells #[.bool s, .slice ao m cap, .int .i64 e] 59 (0, 0)) ∧ PN wr (.agg #[.bool s, .slice ao m cap, .int .i64 e]) (apT t k) ∧ ∀ ad : Addr, ao = some ad → 0 < m → A.heap.size ≤ ad.block ∨ ad.block < w.heap.size))
  case atStart =>
    obtain ⟨k, h1, h2, h3⟩ := HI0.out
    obtain rfl : k = 0 := by omega
    exact ⟨0, by omega, h3⟩
  case round =>
    obtain ⟨k, hk, HR⟩ := hrel
    obtain ⟨hA, A, hJ, hbA, s1, ao1, n1, cap1, ex1, hbx, hpn, hfr⟩ := HR.out
    obtain ⟨Zk, hapk, -⟩ := ap_all hap k
    obtain ⟨⟨a0, a1, a2⟩, -⟩ := box_cells hbx
    have ks := psign hapk.ok hpn
    by_cases hlt : k < len
    · have h0 := hnz k hlt
      have hsg : (sgI (apT t k).1 (dlen (apT t k).2.1) == 0) = false := by rw [sgI_nought, decide_eq_false h0]
      have hsg' : (sgI (apT t k).1 (dlen (apT t k).2.1) != 0) = true := by rw [bne, hsg]; rfl
      have HY : Hid (∀ w3, Below wr.heap.size wr w3 → YieldAt Fence.wide (n - 1) Tryz.prog l #[.float .f64 (apF t k)] w3 fun e W'' => e = .returned (.bool true) ∧ J (k + 1) W'' ∧ Below w.heap.size w3 W'' ∧ ∀ b c T q, A.heap.size ≤ b → w3.heap[b]? = some (.cells c T q) → W''.heap[b]? = some (.cells c T q)) := fun w3 hb => hY k _ A w3 hJ (hbA.trans (Below.belX hb)) hlt rfl
      have HP : Hid (Below wA.heap.size wA wr ∧ wr.heap[Bp]? = some (.cells #[.bool s1, .slice ao1 n1 cap1, .int .i64 ex1] 59 (0, 0)) ∧ PN wr (.agg #[.bool s1, .slice ao1 n1 cap1, .int .i64 ex1]) (apT t k) ∧ (∀ ad : Addr, ao1 = some ad → 0 < n1 → A.heap.size ≤ ad.block ∨ ad.block < w.heap.size)) := ⟨hA, hbx, hpn, hfr⟩
      have HKK : Hid (gk + k = len ∧ k < len) := ⟨hk, hlt⟩
      generalize sgI (apT t k).1 (dlen (apT t k).2.1) = sg at *
      clear HR HI0 hY hJ hbA hA hbx hpn hfr hz hnz hsg hk hlt
      gi_wp2
      refine ⟨trivial, fun h => (by cases h), ?_⟩
      refine (callsIn_wide.2 ks).mono ?_
      rintro r w2 ⟨rfl, hb2⟩
      have hbx2 := box_later HP.out.2.1 hb2 (lt_of_box HP.out.2.1)
      obtain ⟨⟨b0, b1, b2⟩, -⟩ := box_cells hbx2
      have hA2 : Below wA.heap.size wA w2 := HP.out.1.trans (hb2.mono HP.out.1.size)
      have kr : Calls Tryz.prog 42 #[.agg #[.bool s1, .slice ao1 n1 cap1, .int .i64 ex1], .int .i64 2] w2 fun r w' => r = .returned (.float .f64 (apF t k)) ∧ Below w2.heap.size w2 w' := urounded (m := 2) (hT.later hA2) hapk.ok (HP.out.2.2.1.later hb2) (by omega)
      have HB2 : Hid (Below wr.heap.size wr w2) := hb2
      clear ks hb2 a0 a1 a2 hbx2 hA2
      gi_wp2
      refine ⟨trivial, fun h => (by cases h), ?_⟩
      refine (callsIn_wide.2 kr).mono ?_
      rintro r w3 ⟨rfl, hb3⟩
      have HB3 : Hid (Below wr.heap.size wr w3) := HB2.out.trans (hb3.mono HB2.out.size)
      clear kr hb3 b0 b1 b2 HB2
      obtain ⟨fn, tmps, assign, body, hy, hR⟩ := HY.out w3 HB3.out
      gi_wp2
      refine ⟨fun h => (by cases h), hR.mono ?_⟩
      rintro e W3 ⟨rfl, hJ3, hk3, hc3⟩
      have hbx3 := box_later HP.out.2.1 HB3.out (lt_of_box HP.out.2.1)
      have hbx4 : W3.heap[Bp]? = some (.cells #[.bool s1, .slice ao1 n1 cap1, .int .i64 ex1] 59 (0, 0)) := (hk3.block Bp hBw).trans hbx3
      have hp4 : PN W3 (.agg #[.bool s1, .slice ao1 n1 cap1, .int .i64 ex1]) (apT t k) := pn_move (HP.out.2.2.1.later HB3.out) (fun ad h1 h2 c T q h3 => by
        rcases HP.out.2.2.2 ad h1 h2 with h4 | h4
        · exact hc3 _ c T q h4 h3
        · exact (hk3.block _ h4).trans h3)
      have hA3 : Below wA.heap.size wA W3 := (HP.out.1.trans (HB3.out.mono HP.out.1.size)).trans (hk3.mono hwA.size)
      have kt : Calls Tryz.prog 43 #[.agg #[.bool s1, .slice ao1 n1 cap1, .int .i64 ex1], .float .f64 (apF t k)] W3 fun r w' => ∃ s ao n cap e, r = .returned (.agg #[.bool s, .slice ao n cap, .int .i64 e]) ∧ PN w' (.agg #[.bool s, .slice ao n cap, .int .i64 e]) (apT t (k + 1)) ∧ Below W3.heap.size W3 w' ∧ ∀ ad : Addr, ao = some ad → 0 < n → W3.heap.size ≤ ad.block := utaken_fresh hapk (hT.later hA3) (Tab.later hI hA3) hp4
      have HH : Hid (J (k + 1) W3 ∧ Below wA.heap.size wA W3 ∧ W3.heap[Bp]? = some (.cells #[.bool s1, .slice ao1 n1 cap1, .int .i64 ex1] 59 (0, 0))) := ⟨hJ3, hA3, hbx4⟩
      obtain ⟨⟨c0, c1, c2⟩, -⟩ := box_cells hbx4
      clear HY hy hR hJ3 hk3 hc3 hbx3 hbx4 hp4 hA3 HB3 HP
      gi_wp2
      refine ⟨trivial, fun h => (by cases h), ?_⟩
      refine (callsIn_wide.2 kt).mono ?_
      rintro r w6 ⟨s6, ao6, n6, cap6, ex6, rfl, hP6, hb6, hf6⟩
      have hz6 := box_later HH.out.2.2 hb6 (lt_of_box HH.out.2.2)
      obtain ⟨⟨x0, x1, x2⟩, x3, x4, x5⟩ := box_cells hz6
      have HS : Hid (Below wA.heap.size wA (((w6.setCell ⟨Bp, 0, none⟩ (.bool s6)).setCell ⟨Bp, 1, none⟩ (.slice ao6 n6 cap6)).setCell ⟨Bp, 2, none⟩ (.int .i64 ex6)) ∧ ∃ A, J (k + 1) A ∧ BelX Bp A (((w6.setCell ⟨Bp, 0, none⟩ (.bool s6)).setCell ⟨Bp, 1, none⟩ (.slice ao6 n6 cap6)).setCell ⟨Bp, 2, none⟩ (.int .i64 ex6)) ∧ ∃ s ao m cap e, (((w6.setCell ⟨Bp, 0, none⟩ (.bool s6)).setCell ⟨Bp, 1, none⟩ (.slice ao6 n6 cap6)).setCell ⟨Bp, 2, none⟩ (.int .i64 ex6)).heap[Bp]? = some (.cells #[.bool s, .slice ao m cap, .int .i64 e] 59 (0, 0)) ∧ PN (((w6.setCell ⟨Bp, 0, none⟩ (.bool s6)).setCell ⟨Bp, 1, none⟩ (.slice ao6 n6 cap6)).setCell ⟨Bp, 2, none⟩ (.int .i64 ex6)) (.agg #[.bool s, .slice ao m cap, .int .i64 e]) (apT t (k + 1)) ∧ ∀ ad : Addr, ao = some ad → 0 < m → A.heap.size ≤ ad.block ∨ ad.block < w.heap.size) :=
        ⟨below_store3 (HH.out.2.1.trans (hb6.mono HH.out.2.1.size)) hBp _ _ _, W3, HH.out.1, (Below.belX hb6).trans (belX_store3 _ _ _), _, _, _, _, _, store3 _ _ _ hz6, pn_storeG hP6 hz6 _ _ _, fun ad h1 h2 => .inl (hf6 ad h1 h2)⟩
      clear kt hP6 hb6 hf6 hz6 c0 c1 c2 HH
      gi_wp2
      gi_roundg (len - (k + 1))
      case measure => have := HKK.out; omega
      case rel => exact ⟨k + 1, by have := HKK.out; omega, HS⟩
    · obtain rfl : k = len := by omega
      have hsg' : (sgI (apT t k).1 (dlen (apT t k).2.1) != 0) = false := by rw [bne, sgI_nought, decide_eq_true hz]; rfl
      have HH : Hid (∃ A, J k A ∧ BelX Bp A wr) := ⟨A, hJ, hbA⟩
      generalize sgI (apT t k).1 (dlen (apT t k).2.1) = sg at *
      clear HR HI0 hY hJ hbA hA hbx hpn hfr hz hnz
      gi_wp2
      refine ⟨trivial, fun h => (by cases h), ?_⟩
      refine (callsIn_wide.2 ks).mono ?_
      rintro r w2 ⟨rfl, hb2⟩
      have HH2 : Hid (∃ A, J k A ∧ BelX Bp A w2) := by
        obtain ⟨A, h1, h2⟩ := HH.out
        exact ⟨A, h1, h2.trans (Below.belX hb2)⟩
      clear ks hb2 a0 a1 a2 HH
      gi_wp2
      go_end0
      exact ⟨⟨_, rfl⟩, HH2.out⟩
theorem uparts (s : Bool) (ao : Option Addr) (n cap : Nat) (e : Int) (w : World) : Calls Tryz.prog 59 #[.agg #[.bool s, .slice ao n cap, .int .i64 e]] w fun r w' => r = .returned (.func (.func 96) #[] #[.pointer (some ⟨w.heap.size, 0, none⟩)]) ∧ w' = w.alloc (.cells #[.bool s, .slice ao n cap, .int .i64 e] 59) := by
  go_enter Tryz.func59, Tryz.ntmps59
  go_wp2
  go_ret
  exact ⟨rfl, rfl⟩
theorem ucollect (fv : Value) (w : World) (Post : Value → World → Prop) (k : Calls Tryz.prog 95 #[.slice none 0 0, fv] w fun r w' => ∃ v, r = .returned v ∧ Post v w') :
    Calls Tryz.prog 58 #[fv] w fun r w' => ∃ v, r = .returned v ∧ Post v w' := by
  go_enter Tryz.func58, Tryz.ntmps58
  go_wp2_with fail
  refine k.mono ?_
  rintro r w1 ⟨v, rfl, hp⟩
  have HP : Hid (Post v w1) := hp
  clear k hp
  go_wp2_with fail
  go_ret
  exact ⟨_, rfl, HP.out⟩
theorem least_ex {p : Nat → Prop} : ∀ n, p n → ∃ m, p m ∧ ∀ i, i < m → ¬ p i := by
  intro n
  induction n using Nat.strongRecOn with
  | ind n ih =>
    intro h
    by_cases hc : ∃ i, i < n ∧ p i
    · obtain ⟨i, h1, h2⟩ := hc
      exact ih i h1 h2
    · exact ⟨n, h, fun i hi hp => hc ⟨i, hi, hp⟩⟩
theorem ap_len {t : Bool × Nat × Int} {Z : Int} (h : Ap t Z) : ∃ n, n ≤ 2116 ∧ (apT t n).2.1 = 0 ∧ ∀ i, i < n → (apT t i).2.1 ≠ 0 := by
  have h0 : (apT t 2116).2.1 = 0 := Decidable.byContradiction fun hc => by have := ap_ends h hc; omega
  obtain ⟨m, h1, h2⟩ := least_ex (p := fun n => (apT t n).2.1 = 0) 2116 h0
  exact ⟨m, Nat.le_of_not_lt fun hc => h2 2116 hc h0, h1, h2⟩
theorem uApart_ok (ao : Option Addr) (len cap : Nat) (xs : Nat → Nat) (w : World) (hT : Tab32 w) (hI : Ie.Tab w) (hl : FAt w ao len xs) (hx : Fls xs len) (hlen : len ≤ 17592186043904) (hc : chk1 xs len = 0) (hf : mag (nrF (tSum xs len)) < 9218868437227405312) :
    Calls Tryz.prog 27 #[.slice ao len cap] w fun r w' => ∃ v, r = .returned v ∧ ∃ ao' n' cap', v = .tuple #[.slice ao' n' cap', .int .i64 0] ∧ FAt w' ao' n' (apF (tSum xs len)) ∧ (apT (tSum xs len) n').2.1 = 0 ∧ (∀ i, i < n' → (apT (tSum xs len) i).2.1 ≠ 0) ∧ n' ≤ cap' ∧ Below w.heap.size w w' := by
  obtain ⟨g1, g2⟩ := chk1_zero hc
  obtain ⟨Z, hZ⟩ := tSum_ap hx hc hf
  obtain ⟨N, hN, hz, hnz⟩ := ap_len hZ
  have kc : ∀ W g, Below w.heap.size w W → W.cell? ⟨g, 0, none⟩ = some (.slice ao len cap) → Calls Tryz.prog 47 #[.int .i64 2, .slice (some ⟨g, 0, none⟩) 1 1] W fun r w' => r = .returned (.int .i64 (chk1 xs len)) ∧ Below W.heap.size W w' := fun W g hb hg => uchecked1 2 g ao len cap xs W (by decide) hg (hl.later hb) hx (by omega)
  rw [hc] at kc
  refine uapart_run ao len cap (nrF (tSum xs len)) true (tSum xs len) w _ kc
    (fun W Bs hb hBs => total_floats Bs len cap ao xs W (by omega) (fun i hi => ⟨hx i hi, g2 i hi⟩) (fun k hk => tSum_add xs (by omega)) (hT.later hb) (Tab.later hI hb) (hl.later hb) hBs)
    (fun W A hb hA => urounded (hT.later hb) hZ.ok hA (by omega))
    (fun W => (ufin_y _ (nrF_lt _) hf W).mono fun r w' ⟨e1, e2⟩ => ⟨e1, by rw [e2]; exact Below.refl _ _⟩)
    (fun h => by cases h) (fun _ W A hb hA => ?_)
  obtain ⟨s, ao1, n1, cap1, e1, rfl⟩ := hA.shape
  refine (uparts s ao1 n1 cap1 e1 W).mono ?_
  rintro r w1 ⟨rfl, hw⟩
  have hb1 : Below W.heap.size W w1 := by rw [hw]; exact (Below.refl _ _).alloc (Nat.le_refl _) _
  have hbx : w1.heap[W.heap.size]? = some (.cells #[.bool s, .slice ao1 n1 cap1, .int .i64 e1] 59 (0, 0)) := by rw [hw]; exact heap_alloc_new _ _
  have hbw : Below w.heap.size w w1 := hb.trans (hb1.mono hb.size)
  refine ⟨_, rfl, ucollect _ w1 (fun v w'' => ∃ ao' n' cap', (.tuple #[v, .int .i64 0] : Value) = .tuple #[.slice ao' n' cap', .int .i64 0] ∧ FAt w'' ao' n' (apF (tSum xs len)) ∧ (apT (tSum xs len) n').2.1 = 0 ∧ (∀ i, i < n' → (apT (tSum xs len) i).2.1 ≠ 0) ∧ n' ≤ cap' ∧ Below w.heap.size w w'') ?_⟩
  refine (appendseq_gen 96 W.heap.size #[.pointer (some ⟨W.heap.size, 0, none⟩)] N (apF (tSum xs len)) (fun X => Below w.heap.size w X) w1 (lt_of_box hbx) (by omega)
    (fun A B hA hB => ⟨hB.os.trans hA.os, hB.tape.trans hA.tape, hB.output.trans hA.output, Nat.le_trans hA.size hB.size, fun b hb' => (hB.block b (Nat.lt_of_lt_of_le hb' hA.size) (by have := hb.size; omega)).trans (hA.block b hb')⟩)
    (fun A B hA hB => hA.trans (hB.mono hbw.size)) hbw (enters_of Tryz.func96 (by kernel_rfl) rfl)
    (fun l J W' hbW hY h0 => parts1_in 2 l W.heap.size N (tSum xs len) Z hZ hz hnz w w1 W' J hT hI hbw hb.size (lt_of_box hbx) hY hbW h0 hbx (hA.later hb1))).mono ?_
  rintro r w2 ⟨ao2, cap2, rfl, hfa, hle, hR⟩
  exact ⟨_, rfl, ao2, N, cap2, rfl, hfa, hz, hnz, hle, hR⟩
theorem uApart_inf (ao : Option Addr) (len cap : Nat) (xs : Nat → Nat) (w : World) (hT : Tab32 w) (hI : Ie.Tab w) (hl : FAt w ao len xs) (hx : Fls xs len) (hlen : len ≤ 17592186043904) (hc : chk1 xs len = 0) (hf : ¬ mag (nrF (tSum xs len)) < 9218868437227405312) :
    Calls Tryz.prog 27 #[.slice ao len cap] w fun r w' => ∃ v, r = .returned v ∧ v = .tuple #[.slice none 0 0, .int .i64 5] ∧ Below w.heap.size w w' := by
  obtain ⟨g1, g2⟩ := chk1_zero hc
  have kc : ∀ W g, Below w.heap.size w W → W.cell? ⟨g, 0, none⟩ = some (.slice ao len cap) → Calls Tryz.prog 47 #[.int .i64 2, .slice (some ⟨g, 0, none⟩) 1 1] W fun r w' => r = .returned (.int .i64 (chk1 xs len)) ∧ Below W.heap.size W w' := fun W g hb hg => uchecked1 2 g ao len cap xs W (by decide) hg (hl.later hb) hx (by omega)
  rw [hc] at kc
  exact uapart_run ao len cap (nrF (tSum xs len)) false (tSum xs len) w _ kc
    (fun W Bs hb hBs => total_floats Bs len cap ao xs W (by omega) (fun i hi => ⟨hx i hi, g2 i hi⟩) (fun k hk => tSum_add xs (by omega)) (hT.later hb) (Tab.later hI hb) (hl.later hb) hBs)
    (fun W A hb hA => urounded (hT.later hb) (tSum_ok xs g1).1 hA (by omega))
    (fun W => (ufin_n _ (nrF_lt _) hf W).mono fun r w' ⟨e1, e2⟩ => ⟨e1, by rw [e2]; exact (Below.refl _ _).drew⟩)
    (fun _ W hb => ⟨rfl, hb⟩) (fun h => by cases h)
theorem uApart_err (ao : Option Addr) (len cap : Nat) (xs : Nat → Nat) (w : World) (hl : FAt w ao len xs) (hx : Fls xs len) (hlen : len ≤ 17592186043904) (hc : chk1 xs len ≠ 0) :
    Calls Tryz.prog 27 #[.slice ao len cap] w fun r w' => r = .returned (.tuple #[.slice none 0 0, .int .i64 (chk1 xs len)]) ∧ Below w.heap.size w w' :=
  uapart_err ao len cap _ w (beq_eq_false_iff_ne.2 hc) fun W g hb hg => uchecked1 2 g ao len cap xs W (by decide) hg (hl.later hb) hx (by omega)
end Go.Proofs.YthkgklkhlcbmaaaGreatDoor
namespace Go.Proofs.YthkgklkhlcbmaaaGreatDoor
set_option linter.unusedVariables false
set_option linter.unusedSimpArgs false
open Go Go.RowKit Go.Fl64
theorem len_one {t : Bool × Nat × Int} {n m : Nat} (h1 : (apT t n).2.1 = 0) (h2 : ∀ i, i < n → (apT t i).2.1 ≠ 0) (h3 : (apT t m).2.1 = 0) (h4 : ∀ i, i < m → (apT t i).2.1 ≠ 0) : n = m := by
  rcases (show n < m ∨ n = m ∨ m < n by omega) with h | h | h
  · exact absurd h1 (h4 n h)
  · exact h
  · exact absurd h3 (h2 m h)
theorem fat_nil (w : World) (f : Nat → Nat) : FAt w none 0 f := ⟨0, 0, fun h => by omega, fun j hj => by omega⟩
theorem apart_both (ao : Option Addr) (len cap : Nat) (xs : Nat → Nat) (w : World) (hT : Tab32 w) (hI : Ie.Tab w) (hl : FAt w ao len xs) (hx : Fls xs len) (hlen : len ≤ 17592186043904) :
    ∃ (n : Nat) (G : Int) (f : Nat → Nat), Fls f n ∧ n ≤ 2116 ∧
      (∀ W, Below w.heap.size w W → Calls Tryz.prog 27 #[.slice ao len cap] W fun r w' => ∃ ao' cap', r = .returned (.tuple #[.slice ao' n cap', .int .i64 G]) ∧ FAt w' ao' n f ∧ Below W.heap.size W w') ∧
      (∀ W, Below w.heap.size w W → Calls Tryz.prog 28 #[.slice ao len cap] W fun r w' => ∃ ao' cap', r = .returned (.tuple #[.slice ao' n cap', .int .i64 G]) ∧ FAt w' ao' n f ∧ Below W.heap.size W w') := by
  by_cases hc : chk1 xs len = 0
  · by_cases hf : mag (nrF (tSum xs len)) < 9218868437227405312
    · obtain ⟨Z, hZ⟩ := tSum_ap hx hc hf
      obtain ⟨N, hN, hz, hnz⟩ := ap_len hZ
      refine ⟨N, 0, apF (tSum xs len), fun i _ => nrF_lt _, hN, fun W hb => ?_, fun W hb => ?_⟩
      · refine (uApart_ok ao len cap xs W (hT.later hb) (Tab.later hI hb) (hl.later hb) hx hlen hc hf).mono ?_
        rintro r w' ⟨v, rfl, ao', n', cap', rfl, h1, h2, h3, h4, h5⟩
        obtain rfl := len_one h2 h3 hz hnz
        exact ⟨_, _, rfl, h1, h5⟩
      · refine (dApart_ok ao len cap xs W (hl.later hb) hx hc hf).mono ?_
        rintro r w' ⟨ao', n', cap', rfl, h1, h2, h3, h4, h5⟩
        obtain rfl := len_one h2 h3 hz hnz
        exact ⟨_, _, rfl, h1, h5⟩
    · refine ⟨0, 5, xs, fun i hi => by omega, by omega, fun W hb => ?_, fun W hb => ?_⟩
      · refine (uApart_inf ao len cap xs W (hT.later hb) (Tab.later hI hb) (hl.later hb) hx hlen hc hf).mono ?_
        rintro r w' ⟨v, rfl, rfl, h5⟩
        exact ⟨_, _, rfl, fat_nil _ _, h5⟩
      · refine (dApart_inf ao len cap xs W (hl.later hb) hx hc hf).mono ?_
        rintro r w' ⟨rfl, h5⟩
        exact ⟨_, _, rfl, fat_nil _ _, h5⟩
  · refine ⟨0, chk1 xs len, xs, fun i hi => by omega, by omega, fun W hb => ?_, fun W hb => ?_⟩
    · refine (uApart_err ao len cap xs W (hl.later hb) hx hlen hc).mono ?_
      rintro r w' ⟨rfl, h5⟩
      exact ⟨_, _, rfl, fat_nil _ _, h5⟩
    · refine (dApart_err ao len cap xs W (hl.later hb) hx hlen hc).mono ?_
      rintro r w' ⟨rfl, h5⟩
      exact ⟨_, _, rfl, fat_nil _ _, h5⟩
set_option maxRecDepth 200000 in
theorem sumsLost_ok (ao : Option Addr) (len cap : Nat) (xs : Nat → Nat) (s : Nat) (w : World) (hl : FAt w ao len xs) (hx : Fls xs len) (hn : len = 0 → (∃ ad, ao = some ad) ∨ (ao = none ∧ cap = 0)) (h1 : len ≤ cap) (h2 : cap ≤ 17592186043904) (hs : s < 18446744073709551616) (hT : Tab32 w) (hI : Ie.Tab w) :
    Calls Tryz.prog 7 #[.slice ao len cap, .float .f64 s] w fun r w' => r = .returned (.bool true) ∧ Below w.heap.size w w' := by
  obtain ⟨n, G, f, hfl, hn6, kU, kD⟩ := apart_both ao len cap xs w hT hI hl hx (by omega)
  have HX : Hid (farF xs len s < 18446744073709551616) := farF_lt xs len s
  have HT : Hid (∀ W, Below w.heap.size w W → Tab32 W ∧ Ie.Tab W) := fun W h => ⟨hT.later h, Tab.later hI h⟩
  have kk := uLost ao len cap s xs w hT hI hl hx hs (by omega)
  have HD : Hid (∀ W, Below w.heap.size w W → Calls Tryz.prog 26 #[.slice ao len cap, .float .f64 s] W fun r w' => r = .returned (.tuple #[.float .f64 (farF xs len s), .int .i64 (farE xs len s)]) ∧ Below W.heap.size W w') := fun W hb => dLost ao len cap s xs W (hl.later hb) hx hs (by omega)
  have HU : Hid _ := kU
  have HA : Hid _ := kD
  have HL : Hid (Fls f n ∧ n ≤ 2116) := ⟨hfl, hn6⟩
  clear hx hT hI hl hn kU kD hfl hn6 hs
  generalize farF xs len s = X at *
  generalize farE xs len s = E at *
  go_enter Tryz.func7, Tryz.ntmps7
  go_wp2_with fail
  refine kk.mono ?_
  rintro r w1 ⟨rfl, hb1⟩
  have HB1 : Hid (Below w.heap.size w w1) := hb1
  clear kk hb1
  have kk := HD.out w1 HB1.out
  go_wp2_with fail
  refine kk.mono ?_
  rintro r w2 ⟨rfl, hb2⟩
  have HB2 : Hid (Below w.heap.size w w2) := HB1.out.trans (hb2.mono HB1.out.size)
  clear kk hb2 HD HB1
  have kk := HU.out w2 HB2.out
  go_wp2_with fail
  refine kk.mono ?_
  rintro r w3 ⟨aoP, capP, rfl, hfP, hb3⟩
  have HB3 : Hid (Below w.heap.size w w3 ∧ FAt w3 aoP n f) := ⟨HB2.out.trans (hb3.mono HB2.out.size), hfP⟩
  clear kk hb3 HU HB2 hfP
  have kk := HA.out w3 HB3.out.1
  go_wp2_with fail
  refine kk.mono ?_
  rintro r w4 ⟨aoD, capD, rfl, hfD, hb4⟩
  have HB4 : Hid (Below w.heap.size w w4 ∧ FAt w4 aoP n f ∧ FAt w4 aoD n f) := ⟨HB3.out.1.trans (hb4.mono HB3.out.1.size), HB3.out.2.later hb4, hfD⟩
  clear kk hb4 HA HB3 hfD
  have kk := lsame5 (lk.refl HX.out) HX.out w4
  have hee : (E == E) = true := beq_self_eq_true E
  have hgg : (G == G) = true := beq_self_eq_true G
  go_wp2_with fail
  refine kk.mono ?_
  rintro r w' ⟨rfl, hw⟩
  rw [hw]
  clear hw kk w'
  have kk := lall5 (cap := capP) (cap' := capD) HB4.out.2.1 HB4.out.2.2 HL.out.1 (by have := HL.out.2; omega)
  go_wp2_with fail
  refine kk.mono ?_
  rintro r w5 ⟨rfl, hb5⟩
  have HB5 : Hid (Below w.heap.size w w5) := HB4.out.1.trans (hb5.mono HB4.out.1.size)
  clear kk hb5 HB4
  have kk := sure5_ok w5 (HT.out _ HB5.out).1 (HT.out _ HB5.out).2
  go_wp2_with fail
  refine kk.mono ?_
  rintro r w6 ⟨rfl, hb6⟩
  have HB6 : Hid (Below w.heap.size w w6) := HB5.out.trans (hb6.mono HB5.out.size)
  clear kk hb6 HB5
  go_wp2_with fail
  go_ret
  exact ⟨rfl, HB6.out⟩
end Go.Proofs.YthkgklkhlcbmaaaGreatDoor
