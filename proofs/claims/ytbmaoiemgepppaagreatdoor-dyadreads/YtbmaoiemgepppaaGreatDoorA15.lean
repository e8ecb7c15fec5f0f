/- Own work: contracts of the program's functions, part 15: VRC VRD VRE VRF. -/
import Derived.Test.YtbmaoiemgepppaaGreatDoorA14
import Derived.Test.YtbmaoiemgepppaaGreatDoorA7
import Derived.Test.YtbmaoiemgepppaaGreatDoorA12

/- The document's Read, walked. -/
namespace Go.Proofs.YtbmaoiemgepppaaGreatDoor
set_option linter.unusedVariables false
set_option linter.unusedSimpArgs false
open Go Go.RowKit Go.Fl64

theorem btA_get (s : ByteArray) (i : Nat) (h : i < s.size) : (s[i]'h).toNat = btA s i := by
  unfold btA
  have h2 : i < s.data.size := h
  rw [Array.getElem?_eq_getElem h2]
  rfl
/-- the number that the bytes from st on are, i of them -/
def hvR (s : ByteArray) (st : Nat) : Nat → Nat
  | 0 => 0
  | i + 1 => hvR s st i * 16 + (dgR (btA s (st + i))).toNat
theorem dgR_lt (c : Nat) : (dgR c).toNat < 16 := by
  unfold dgR
  split
  · omega
  · split <;> omega
theorem hvR_lt (s : ByteArray) (st : Nat) : ∀ i, hvR s st i < 16 ^ i
  | 0 => Nat.one_pos
  | i + 1 => by
    have h1 := hvR_lt s st i
    have h2 := dgR_lt (btA s (st + i))
    show hvR s st i * 16 + _ < 16 ^ (i + 1)
    rw [Nat.pow_succ]; omega
theorem hvR_dlen8 (s : ByteArray) (st i k : Nat) (h : i ≤ 8 * k) : dlen (hvR s st i) ≤ k := by
  refine (dlen_le _ _).2 ?_
  have h1 := hvR_lt s st i
  have h2 : (16 : Nat) ^ i ≤ 16 ^ (8 * k) := Nat.pow_le_pow_right (by decide) h
  rw [pow16B] at h2
  exact Nat.lt_of_lt_of_le h1 h2
theorem hvR_dlen (s : ByteArray) (st i : Nat) (h : i ≤ 16448) : dlen (hvR s st i) ≤ 2056 := hvR_dlen8 s st i 2056 (by omega)
theorem ir_nil (w : World) : Ir w (.slice none 0 0) 0 := ⟨none, 0, by rw [dlen_zero], by rw [dlen_zero]; omega, 0, 0, fun h => by rw [dlen_zero] at h; omega, fun i hi => by rw [dlen_zero] at hi; omega⟩
/-- the decimal number that the bytes from st on are -/
def evR (s : ByteArray) (st : Nat) : Nat → Nat
  | 0 => 0
  | i + 1 => 10 * evR s st i + (btA s (st + i) - 48)
/-- what a text is read as -/
def RdOut (s : ByteArray) (w : World) (r : Ending) (w' : World) : Prop := ∃ o : Option (Bool × Nat × Int), (∀ t', Ok t' → shT t' = s → o = some t') ∧ (∀ t, o = some t → Ok t ∧ shT t = s) ∧ Out w (fun W A => ∃ b, RN W b A (o.getD (false, 0, 0))) (if o.isSome then 0 else 3) r w'
/-- no number's text -/
def NoT (s : ByteArray) : Prop := ∀ t', Ok t' → shT t' ≠ s
theorem rd_none {s : ByteArray} (hN : NoT s) {w w' : World} (hb : Below w.heap.size w w') : RdOut s w (.returned (.tuple #[.agg #[.bool false, .slice none 0 0, .int .i64 0], .int .i64 3])) w' :=
  ⟨none, fun t' h1 h2 => absurd h2 (hN t' h1), (fun t h => by cases h), ⟨_, _, _, _, _, rfl, ⟨0, rn_nil w' 0⟩, hb⟩⟩
theorem rd_some {s : ByteArray} {t : Bool × Nat × Int} (hT : ∀ t', Ok t' → shT t' = s → t' = t) (h1 : Ok t) (h2 : shT t = s) {w w' : World} {ao : Option Addr} {cap : Nat} (hat : At w' ao (dlen t.2.1) t.2.1) (hb : Below w.heap.size w w') : RdOut s w (.returned (.tuple #[.agg #[.bool t.1, .slice ao (dlen t.2.1) cap, .int .i64 t.2.2], .int .i64 0])) w' :=
  ⟨some t, fun t' g1 g2 => by rw [hT t' g1 g2], (fun t' h => by cases h; exact ⟨h1, h2⟩), ⟨_, _, _, _, _, rfl, ⟨0, ao, cap, rfl, fun _ _ _ => Nat.zero_le _, hat⟩, hb⟩⟩
theorem str_ne {S s : ByteArray} (hS : ¬ S = s) : (!S.toList == s.toList) = true := by
  rw [ByteArray.toList_eq, ByteArray.toList_eq]
  simp only [Bool.not_eq_true', beq_eq_false_iff_ne, ne_eq]
  intro h5
  apply hS
  cases S; cases s
  exact congrArg ByteArray.mk (Array.toList_inj.1 h5)
theorem at_store3 {W : World} {ao : Option Addr} {n z g : Nat} {T : TypeId} {s : Bool} {a : Option Addr} {m c : Nat} {e : Int} (h : At W ao n z) (hE : W.heap[g]? = some (.cells #[.bool s, .slice a m c, .int .i64 e] T (0, 0))) (x y v : Value) : At (((W.setCell ⟨g, 0, none⟩ x).setCell ⟨g, 1, none⟩ y).setCell ⟨g, 2, none⟩ v) ao n z := by
  obtain ⟨bb, o, h1, h2⟩ := h
  refine ⟨bb, o, h1, fun i hi => ?_⟩
  have hc := h2 i hi
  have hne : g ≠ bb := by
    rintro rfl
    simp only [World.cell?, hE] at hc
    rcases (show o + i = 0 ∨ o + i = 1 ∨ o + i = 2 ∨ 3 ≤ o + i by omega) with e | e | e | e
    · rw [e] at hc; simp at hc
    · rw [e] at hc; simp at hc
    · rw [e] at hc; simp at hc
    · rw [Array.getElem?_eq_none (by simpa using e)] at hc; cases hc
  rw [← hc]
  simp [World.cell?, World.setCell, Array.getElem?_modify, hne]
set_option maxHeartbeats 4000000 in
set_option maxRecDepth 200000 in
theorem rread_1 (s : ByteArray) (w : World) (n st : Nat) (hn : s.size = n) (h0 : 0 < n) (hs : n ≤ 16448) (neg : Bool) (hneg : (((btA s 0 : Nat) : Int) == 45) = neg) (hst : (if neg = true then (1 : Int) else 0) = (st : Int))
    (N1 : ∀ i, st + i ≤ n → (∀ k, k < i → 0 ≤ dgR (btA s (st + k))) → (st + i < n → dgR (btA s (st + i)) < 0 ∧ btA s (st + i) ≠ 112) → NoT s)
    (N2 : ∀ i (mn : Bool) st2 j2, st + i < n → (∀ k, k < i → 0 ≤ dgR (btA s (st + k))) → btA s (st + i) = 112 → mn = decide (st + i + 1 < n ∧ btA s (st + i + 1) = 45) → st2 = st + i + 1 + (if mn then 1 else 0) → st2 + j2 ≤ n → (∀ k, k < j2 → 48 ≤ btA s (st2 + k) ∧ btA s (st2 + k) ≤ 57) → (st2 + j2 < n → 48 ≤ btA s (st2 + j2) → btA s (st2 + j2) ≤ 57 → 1073741824 ≤ evR s st2 j2) → ∀ t', Ok t' → shT t' = s → t' = (neg, hvR s st i, if mn then -((evR s st2 j2 : Nat) : Int) else ((evR s st2 j2 : Nat) : Int)))
    (kd : ∀ (c : Nat) (W : World), c < 256 → Calls Tryz.prog 15 #[.int .u8 (c : Int)] W fun r w' => r = .returned (.int .i64 (dgR c)) ∧ w' = W) :
    Calls Tryz.prog 5 #[.string s] w fun r w' => RdOut s w r w' := by
  have HN1 : Hid (∀ i, st + i ≤ n → (∀ k, k < i → 0 ≤ dgR (btA s (st + k))) → (st + i < n → dgR (btA s (st + i)) < 0 ∧ btA s (st + i) ≠ 112) → NoT s) := N1
  have HN2 : Hid (∀ i (mn : Bool) st2 j2, st + i < n → (∀ k, k < i → 0 ≤ dgR (btA s (st + k))) → btA s (st + i) = 112 → mn = decide (st + i + 1 < n ∧ btA s (st + i + 1) = 45) → st2 = st + i + 1 + (if mn then 1 else 0) → st2 + j2 ≤ n → (∀ k, k < j2 → 48 ≤ btA s (st2 + k) ∧ btA s (st2 + k) ≤ 57) → (st2 + j2 < n → 48 ≤ btA s (st2 + j2) → btA s (st2 + j2) ≤ 57 → 1073741824 ≤ evR s st2 j2) → ∀ t', Ok t' → shT t' = s → t' = (neg, hvR s st i, if mn then -((evR s st2 j2 : Nat) : Int) else ((evR s st2 j2 : Nat) : Int))) := N2
  clear N1 N2
  obtain ⟨W, hW⟩ : ∃ W, W = w.alloc (.cells #[.bool false, .slice none 0 0, .int .i64 0] 28) := ⟨_, rfl⟩
  have hE : s.toList.isEmpty = false := toList_some (by omega)
  have hg := btA_get s
  have kS := rsignb neg W
  have hst1 : st ≤ 1 := by split at hst <;> omega
  rw [hst] at kS
  go_enter Tryz.func5, Tryz.ntmps5
  go_wp2_with fail
  rw [← hW]
  have HA : Hid (W = w.alloc (.cells #[.bool false, .slice none 0 0, .int .i64 0] 28)) := hW
  clear hW
  refine kS.mono ?_
  rintro r w1 ⟨rfl, hw⟩
  replace hw := hw.symm
  subst hw
  go_wp2_with fail
  go_loopw [5, 6] (fun iv v wr => ∃ i : Nat, st + i ≤ n ∧ iv = .int .i64 ((st + i : Nat) : Int) ∧ Ir wr v (hvR s st i) ∧ (∀ k, k < i → 0 ≤ dgR (btA s (st + k))) ∧ Below W.heap.size W wr) (fun iv _ _ => n - (intOf iv).toNat)
  case atStart => exact ⟨0, by omega, rfl, ir_nil W, fun k hk => by omega, Below.refl _ _⟩
  case round =>
    obtain ⟨i, hi, rfl, hv, hd, hb⟩ := hrel
    by_cases hA : st + i < n ∧ 0 ≤ dgR (btA s (st + i))
    · obtain ⟨q1, q2⟩ := hA
      obtain ⟨c, hc⟩ : ∃ c, c = btA s (st + i) := ⟨_, rfl⟩
      obtain ⟨j, hj⟩ : ∃ j, j = st + i := ⟨_, rfl⟩
      rw [← hc] at q2
      rw [← hj] at hc q1 hi ⊢
      have hgi := hg j (by omega)
      have kd1 := fun W' => kd c W' (by rw [hc]; exact btA_lt s j)
      obtain ⟨d, hd1⟩ : ∃ d : Nat, dgR c = (d : Int) := ⟨(dgR c).toNat, by omega⟩
      rw [hd1] at kd1
      have q3 : (j : Int) < (n : Int) := by omega
      have q4 : (0 : Int) ≤ j ∧ (j : Int) < (s.size : Int) := by omega
      have q5 : (d : Int) ≥ 0 := by omega
      rw [← hc] at hgi
      have HJ : Hid (j = st + i ∧ c = btA s j ∧ dgR c = (d : Int)) := ⟨hj, hc, hd1⟩
      have HV : Hid (Ir wr u6 (hvR s st i) ∧ (∀ k, k < i → 0 ≤ dgR (btA s (st + k))) ∧ Below W.heap.size W wr) := ⟨hv, hd, hb⟩
      have HK : Hid (∀ W', Calls Tryz.prog 15 #[.int .u8 (c : Int)] W' fun r w' => r = .returned (.int .i64 (d : Int)) ∧ w' = W') := kd1
      clear kd hg kS hneg hst hj hc hd1 hv hd hb q2
      go_wp2_with fail
      refine (kd1 wr).mono ?_
      rintro e w' ⟨rfl, hw'⟩
      replace hw' := hw'.symm
      subst hw'
      clear kd1
      go_upto_region 7 with fail
      go_cut [6] from 34 to 44 (fun v w' => Hid (Ir w' v (hvR s st i * 16 + d) ∧ Below W.heap.size W w'))
      case first =>
        obtain ⟨ao, cap, rfl, hcap, hAt⟩ := HV.out.1
        have HB : Hid (Below W.heap.size W wr) := HV.out.2.2
        have hji := HJ.out.1
        have hxs := hvR_dlen s st i (by omega)
        have hdl : d < 16 := by have := dgR_lt c; rw [HJ.out.2.2] at this; omega
        generalize hX : hvR s st i = x at *
        refine val_region follows_mixed 11 34 rdD wr _ (rdV (.slice ao (dlen x) cap) s j c d x) (by kernel_rfl) (fun k V V' u hb h => rdV_later hb h) (by show 45 ≤ 123; decide) ?_ ?_
        · intro k hk o ho a V hbV hoth hdep
          rcases lt11 hk with rfl | rfl | rfl | rfl | rfl | rfl | rfl | rfl | rfl | rfl | rfl
          · obtain rfl := Option.some.inj ho
            exact owp_move rfl ((hoth 6 (by omega)).trans rfl) ⟨_, rfl, rfl, Below.refl _ _⟩
          · obtain rfl := Option.some.inj ho
            obtain ⟨u0, h0, v0⟩ := hdep 0 (by simp [rdD])
            obtain rfl : u0 = _ := v0
            refine owp_call rfl (enters Tryz.func18 (by kernel_rfl) (by kernel_rfl)) (vs := #[_]) (by simp only [List.map_toArray, List.map_cons, List.map_nil]; rw [eval_get h0]) ?_
            refine (r40 ao (dlen x) cap x V (Nat.le_refl _) hcap (by omega) (hAt.later hbV)).mono ?_
            rintro r w' ⟨rfl, rfl⟩
            exact ⟨_, rfl, _, rfl, rfl, Below.refl _ _⟩
          · obtain rfl := Option.some.inj ho
            obtain ⟨u0, h0, v0⟩ := hdep 1 (by simp [rdD])
            obtain rfl : u0 = _ := v0
            refine owp_call rfl (enters Tryz.func17 (by kernel_rfl) (by kernel_rfl)) (vs := #[.slice ao (dlen x) cap, .int .i64 4]) (by simp only [List.map_toArray, List.map_cons, List.map_nil]; rw [eval_get h0]; rfl) ?_
            have kU : Calls Tryz.prog 17 #[.slice ao (dlen x) cap, .int .i64 4] V fun e w' => ∃ v, e = .returned v ∧ Ir w' v (x * 2 ^ 4) ∧ Below V.heap.size V w' := rup (x := x) ⟨ao, cap, rfl, hcap, hAt.later hbV⟩ 4 (by omega) (by omega)
            refine kU.mono ?_
            rintro r w' ⟨v, rfl, hI, hb'⟩
            exact ⟨_, rfl, _, rfl, hI, hb'⟩
          · obtain rfl := Option.some.inj ho
            exact owp_move rfl ((hoth 0 (by omega)).trans rfl) ⟨_, rfl, rfl, Below.refl _ _⟩
          · obtain rfl := Option.some.inj ho
            exact owp_move rfl ((hoth 5 (by omega)).trans rfl) ⟨_, rfl, rfl, Below.refl _ _⟩
          · obtain rfl := Option.some.inj ho
            obtain ⟨u0, h0, v0⟩ := hdep 3 (by simp [rdD])
            obtain rfl : u0 = _ := v0
            obtain ⟨u1, h1, v1⟩ := hdep 4 (by simp [rdD])
            obtain rfl : u1 = _ := v1
            exact owp_run1 (w' := V) (v := .int .u8 (c : Int)) (by simp [execOp, eval_get h0, eval_get h1, run_ixs s j c (by omega) HJ.out.2.1.symm V]) ⟨_, rfl, rfl, Below.refl _ _⟩
          · obtain rfl := Option.some.inj ho
            obtain ⟨u0, h0, v0⟩ := hdep 5 (by simp [rdD])
            obtain rfl : u0 = _ := v0
            refine owp_call rfl (enters Tryz.func15 (by kernel_rfl) (by kernel_rfl)) (vs := #[_]) (by simp only [List.map_toArray, List.map_cons, List.map_nil]; rw [eval_get h0]) ?_
            refine (HK.out V).mono ?_
            rintro r w' ⟨rfl, rfl⟩
            exact ⟨_, rfl, _, rfl, rfl, Below.refl _ _⟩
          · obtain rfl := Option.some.inj ho
            obtain ⟨u0, h0, v0⟩ := hdep 6 (by simp [rdD])
            obtain rfl : u0 = _ := v0
            exact owp_run1 (w' := V) (v := .int .u32 (d : Int)) (by simp [execOp, eval_get h0, run_cv32 (d : Int) V (by rw [IntKind.wrap_u32]; omega)]) ⟨_, rfl, rfl, Below.refl _ _⟩
          · obtain rfl := Option.some.inj ho
            obtain ⟨u0, h0, v0⟩ := hdep 7 (by simp [rdD])
            obtain rfl : u0 = _ := v0
            refine owp_run1 (w' := V.alloc (.cells #[.int .u32 (d : Int)] 49)) (v := .slice (some ⟨V.heap.size, 0, none⟩) 1 1) (by simp [execOp, eval_get h0, run_bs1 (d : Int) V]) ⟨_, rfl, ⟨_, rfl, ?_⟩, (Below.refl _ _).alloc (Nat.le_refl _) _⟩
            simp only [World.cell?, heap_alloc_new]
            rfl
          · obtain rfl := Option.some.inj ho
            obtain ⟨u0, h0, g, rfl, hcl⟩ := hdep 8 (by simp [rdD])
            refine owp_call rfl (enters Tryz.func18 (by kernel_rfl) (by kernel_rfl)) (vs := #[_]) (by simp only [List.map_toArray, List.map_cons, List.map_nil]; rw [eval_get h0]) ?_
            refine (r40 (some ⟨g, 0, none⟩) 1 1 d V (dlen_d16 hdl) (by omega) (by omega) (at_d16 (Nat.le_refl _) hcl hdl)).mono ?_
            rintro r w' ⟨rfl, rfl⟩
            exact ⟨_, rfl, _, rfl, ⟨_, _, rfl, dlen_d16 hdl, at_d16 (dlen_d16 hdl) hcl hdl⟩, Below.refl _ _⟩
          · obtain rfl := Option.some.inj ho
            obtain ⟨u0, h0, v0⟩ := hdep 2 (by simp [rdD])
            obtain ⟨u1, h1, v1⟩ := hdep 9 (by simp [rdD])
            refine owp_call rfl (enters Tryz.func16 (by kernel_rfl) (by kernel_rfl)) (vs := #[u0, u1]) (by simp only [List.map_toArray, List.map_cons, List.map_nil]; rw [eval_get h0, eval_get h1]) ?_
            have hdx := dlen_x16 hxs
            have hd1 := dlen_d16 hdl
            refine (rsum (x := x * 2 ^ 4) (y := d) v0 v1 (by omega) (by omega)).mono ?_
            rintro r w' ⟨v, rfl, hI, hb'⟩
            exact ⟨_, rfl, _, rfl, hI, hb'⟩
        · intro o ho u V hbV hu
          have hop : o.op = .assign (.tmp 44) := by rw [← Option.some.inj ho]; rfl
          have hds : o.dst = some 6 := by rw [← Option.some.inj ho]; rfl
          clear ho
          have e10 : Ir V (u 10) (x * 2 ^ 4 + d) := hu 10 (by omega)
          have HF : Hid (Ir V (u 10) (x * 16 + d) ∧ Below W.heap.size W V) := ⟨e10, HB.out.trans (hbV.mono HB.out.size)⟩
          clear hu e10
          simp only [putL, show List.range 11 = [0, 1, 2, 3, 4, 5, 6, 7, 8, 9, 10] from rfl, List.map_cons, List.map_nil, List.cons_append, List.nil_append, List.foldl_cons, List.foldl_nil, Nat.reduceLT, Nat.reduceMod, Nat.reduceDiv, Nat.reduceMul, Nat.reduceAdd, Nat.reduceEqDiff, reduceIte, Nat.one_ne_zero, Act.put, List.setIfInBounds_toArray, List.set_cons_zero, List.set_cons_succ]
          refine owp_assign (v := u 10) hop rfl ?_
          rw [hds]
          simp only [Act.put, List.setIfInBounds_toArray, List.set_cons_zero, List.set_cons_succ]
          go_wp2_with fail
          go_meet
          exact HF
      case rest =>
        go_wp2_with fail
        have hj := HJ.out.1
        refine ⟨⟨i + 1, by omega, by rw [hj]; rfl, ?_, ?_, hcut.out.2⟩, by simp only [intOf]; omega⟩
        · have h5 : hvR s st (i + 1) = hvR s st i * 16 + d := by
            show hvR s st i * 16 + (dgR (btA s (st + i))).toNat = _
            rw [← hj, ← HJ.out.2.1, HJ.out.2.2]; rfl
          rw [h5]; exact hcut.out.1
        · intro k hk
          by_cases hki : k < i
          · exact HV.out.2.1 k hki
          · obtain rfl : k = i := by omega
            rw [← hj, ← HJ.out.2.1, HJ.out.2.2]; omega
    · have HBW : Hid (Below w.heap.size w W) := (by rw [HA.out]; exact (Below.refl _ _).alloc (Nat.le_refl _) _ : Below w.heap.size w W)
      have HC : Hid (wr.heap[w.heap.size]? = some (.cells #[.bool false, .slice none 0 0, .int .i64 0] 28 (0, 0))) := (by
        have e1 : W.heap[w.heap.size]? = some (.cells #[.bool false, .slice none 0 0, .int .i64 0] 28 (0, 0)) := by rw [HA.out]; exact heap_alloc_new _ _
        exact box_later e1 hb (Array.getElem?_eq_some_iff.1 e1).1 : wr.heap[w.heap.size]? = some (.cells #[.bool false, .slice none 0 0, .int .i64 0] 28 (0, 0)))
      have HBR : Hid (Below w.heap.size w wr) := HBW.out.trans (hb.mono HBW.out.size)
      obtain ⟨j, hj⟩ : ∃ j, j = st + i := ⟨_, rfl⟩
      have HD : Hid (∀ k, k < i → 0 ≤ dgR (btA s (st + k))) := hd
      have HI : Hid (Ir wr u6 (hvR s st i)) := hv
      have HJ : Hid (j = st + i) := hj
      rw [← hj] at hA hi ⊢
      obtain ⟨⟨x1, x2, x3⟩, x4, x5, x6⟩ := box_cells29 HC.out
      clear hd hb hv kS hneg hst hj
      by_cases q1 : j < n
      · obtain ⟨c, hc⟩ : ∃ c, c = btA s j := ⟨_, rfl⟩
        have kd1 := kd c wr (by rw [hc]; exact btA_lt s j)
        obtain ⟨D, hD⟩ : ∃ D, D = dgR c := ⟨_, rfl⟩
        have q2 : ¬ (D ≥ 0) := by
          intro h
          exact hA ⟨q1, by rw [← hc, ← hD]; exact h⟩
        have hgi := hg j (by omega)
        have q3 : (j : Int) < (n : Int) := by omega
        have q4 : (0 : Int) ≤ j ∧ (j : Int) < (s.size : Int) := by omega
        rw [← hD] at kd1
        rw [← hc] at hgi
        have HCc : Hid (c = btA s j ∧ D = dgR c) := ⟨hc, hD⟩
        have HG : Hid (∀ (i : Nat) (h : i < s.size), (s[i]'h).toNat = btA s i) := hg
        clear hA kd hg hc hD
        go_wp2_with fail
        refine kd1.mono ?_
        rintro e w' ⟨rfl, hw'⟩
        replace hw' := hw'.symm
        subst hw'
        clear kd1
        by_cases qp : c = 112
        · subst qp
          go_upto_region 12 with fail
          obtain ⟨mn, hmn⟩ : ∃ mn, mn = decide (j + 1 < n ∧ btA s (j + 1) = 45) := ⟨_, rfl⟩
          go_cut [7] from 10 to 69 (fun v w' => v = .bool mn ∧ w' = wr)
          case first =>
            by_cases r1 : j + 1 < n
            · obtain ⟨c2, hc2⟩ : ∃ c2, c2 = btA s (j + 1) := ⟨_, rfl⟩
              have hg2 := HG.out (j + 1) (by omega)
              rw [← hc2] at hg2
              have r2 : (j : Int) + 1 < (n : Int) := by omega
              have r3 : (0 : Int) ≤ (j : Int) + 1 ∧ (j : Int) + 1 < (s.size : Int) := by omega
              have r4 : ((j : Int) + 1).toNat = j + 1 := by omega
              have HM : Hid (mn = ((c2 : Int) == 45)) := (by
                rw [hmn, ← hc2]
                by_cases h : c2 = 45
                · subst h; simp [r1]
                · have : ¬ ((c2 : Int) = 45) := by omega
                  simp [h, this] : mn = ((c2 : Int) == 45))
              clear hmn hc2
              go_wp2_with fail
              go_meet
              exact ⟨by rw [HM.out], rfl⟩
            · have r2 : ¬ (j : Int) + 1 < (n : Int) := by omega
              have HM : Hid (mn = false) := (by rw [hmn]; simp [r1] : mn = false)
              clear hmn
              go_wp2_with fail
              go_meet
              exact ⟨by rw [HM.out], rfl⟩
          case rest =>
            obtain ⟨rfl, hwc⟩ := hcut
            replace hwc := hwc.symm
            subst hwc
            obtain ⟨d2, hd2⟩ : ∃ d2 : Nat, (if mn = true then (1 : Int) else 0) = (d2 : Int) ∧ (if mn = true then 1 else 0) = d2 := by cases mn <;> exact ⟨_, rfl, rfl⟩
            have kS2 := rsignb mn wr
            rw [hd2.1] at kS2
            have hd3 : d2 ≤ 1 := by have := hd2.2; split at this <;> omega
            obtain ⟨st2, hst2⟩ : ∃ st2, st2 = j + 1 + d2 := ⟨_, rfl⟩
            have hle : st2 ≤ n := by
              rw [hst2]
              cases hm : mn with
              | false => rw [hm] at hd2; simp at hd2; omega
              | true => rw [hm] at hmn hd2; simp at hd2; have := of_decide_eq_true hmn.symm; omega
            have q7 : (j : Int) + 1 + (d2 : Int) = (st2 : Int) := by omega
            have HS : Hid (mn = decide (j + 1 < n ∧ btA s (j + 1) = 45) ∧ st2 = j + 1 + d2 ∧ (if mn = true then 1 else 0) = d2) := ⟨hmn, hst2, hd2.2⟩
            clear hmn hst2 hd2
            go_wp2_with fail
            refine kS2.mono ?_
            rintro e w' ⟨rfl, hw'⟩
            replace hw' := hw'.symm
            subst hw'
            clear kS2
            go_wp2_with fail
            go_loopw [5, 8] (fun iv ev w' => ∃ j2 : Nat, st2 + j2 ≤ n ∧ iv = .int .i64 ((st2 + j2 : Nat) : Int) ∧ ev = .int .i64 ((evR s st2 j2 : Nat) : Int) ∧ (∀ k, k < j2 → 48 ≤ btA s (st2 + k) ∧ btA s (st2 + k) ≤ 57) ∧ evR s st2 j2 ≤ 100000000000 ∧ w' = wr) (fun iv _ _ => n - (intOf iv).toNat)
            case atStart => exact ⟨0, by omega, rfl, rfl, (fun k hk => by omega), Nat.zero_le _, rfl⟩
            case round =>
              obtain ⟨j2, hj2, rfl, rfl, hdg, hev, hwr⟩ := hrel
              subst hwr
              obtain ⟨J, hJ⟩ : ∃ J, J = st2 + j2 := ⟨_, rfl⟩
              obtain ⟨c3, hc3⟩ : ∃ c3, c3 = btA s J := ⟨_, rfl⟩
              obtain ⟨ev, hevd⟩ : ∃ ev, ev = evR s st2 j2 := ⟨_, rfl⟩
              have hcl := btA_lt s J
              rw [← hc3] at hcl
              rw [← hevd] at hev ⊢
              rw [← hJ] at hj2 ⊢
              obtain ⟨cb, hcb⟩ : ∃ cb, cb = decide (J < n ∧ 48 ≤ c3 ∧ c3 ≤ 57 ∧ ev < 1073741824) := ⟨_, rfl⟩
              have HL : Hid (J = st2 + j2 ∧ c3 = btA s J ∧ ev = evR s st2 j2 ∧ ∀ k, k < j2 → 48 ≤ btA s (st2 + k) ∧ btA s (st2 + k) ≤ 57) := ⟨hJ, hc3, hevd, hdg⟩
              clear hJ hc3 hevd hdg
              go_upto_region 15 with fail
              go_cut [93] from 74 to 103 (fun v w' => v = .bool cb ∧ w' = wr)
              case first =>
                by_cases r1 : J < n
                · have hg3 := HG.out J (by omega)
                  rw [← HL.out.2.1] at hg3
                  have r2 : (J : Int) < (n : Int) := by omega
                  have r3 : (0 : Int) ≤ (J : Int) ∧ (J : Int) < (s.size : Int) := by omega
                  by_cases r4 : 48 ≤ c3
                  · have r5 : (48 : Int) ≤ (c3 : Int) := by omega
                    by_cases r6 : c3 ≤ 57
                    · have r7 : (c3 : Int) ≤ 57 := by omega
                      by_cases r8 : ev < 1073741824
                      · have r9 : (ev : Int) < 1073741824 := by omega
                        have HM : Hid (cb = true) := (by rw [hcb]; simp [r1, r4, r6, r8] : cb = true)
                        clear hcb
                        go_wp2_with fail
                        go_meet
                        exact ⟨by rw [HM.out], rfl⟩
                      · have r9 : ¬ (ev : Int) < 1073741824 := by omega
                        have HM : Hid (cb = false) := (by rw [hcb]; simp [r8] : cb = false)
                        clear hcb
                        go_wp2_with fail
                        go_meet
                        exact ⟨by rw [HM.out], rfl⟩
                    · have r7 : ¬ (c3 : Int) ≤ 57 := by omega
                      have HM : Hid (cb = false) := (by rw [hcb]; simp [r6] : cb = false)
                      clear hcb
                      go_wp2_with fail
                      go_meet
                      exact ⟨by rw [HM.out], rfl⟩
                  · have r5 : ¬ (48 : Int) ≤ (c3 : Int) := by omega
                    have HM : Hid (cb = false) := (by rw [hcb]; simp [r4] : cb = false)
                    clear hcb
                    go_wp2_with fail
                    go_meet
                    exact ⟨by rw [HM.out], rfl⟩
                · have r2 : ¬ (J : Int) < (n : Int) := by omega
                  have HM : Hid (cb = false) := (by rw [hcb]; simp [r1] : cb = false)
                  clear hcb
                  go_wp2_with fail
                  go_meet
                  exact ⟨by rw [HM.out], rfl⟩
              case rest =>
                obtain ⟨rfl, hwc⟩ := hcut
                replace hwc := hwc.symm
                subst hwc
                cases cb with
                | true =>
                  obtain ⟨r1, r2, r3, r4⟩ := of_decide_eq_true hcb.symm
                  have hg3 := HG.out J (by omega)
                  rw [← HL.out.2.1] at hg3
                  obtain ⟨d3, hd3⟩ : ∃ d3, d3 = c3 - 48 := ⟨_, rfl⟩
                  have q8 : IntKind.u8.wrap ((c3 : Int) - 48) = (d3 : Int) := by rw [IntKind.wrap_u8]; omega
                  have q9 : d3 ≤ 9 := by omega
                  have q10 : (0 : Int) ≤ (J : Int) ∧ (J : Int) < (s.size : Int) := by omega
                  have q11 : (ev : Int) < 1073741824 := by omega
                  have HE : Hid (d3 = c3 - 48) := hd3
                  clear hd3 hcb
                  go_wp2_with fail
                  have hJ := HL.out.1
                  have h5 : evR s st2 (j2 + 1) = 10 * ev + d3 := by
                    show 10 * evR s st2 j2 + (btA s (st2 + j2) - 48) = _
                    rw [HE.out, HL.out.2.1, ← HL.out.2.2.1, ← hJ]
                  refine ⟨⟨j2 + 1, by omega, by rw [hJ]; rfl, by rw [h5]; rfl, ?_, by omega, trivial⟩, by simp only [intOf]; omega⟩
                  intro k hk
                  by_cases hki : k < j2
                  · exact HL.out.2.2.2 k hki
                  · obtain rfl : k = j2 := by omega
                    rw [← hJ, ← HL.out.2.1]; exact ⟨r2, r3⟩
                | false =>
                  obtain ⟨ao, cap, rfl, hcap, hAt⟩ := HI.out
                  have hji := HJ.out
                  have hxs := hvR_dlen s st i (by omega)
                  obtain ⟨x, hX⟩ : ∃ x, x = hvR s st i := ⟨_, rfl⟩
                  rw [← hX] at hcap hAt hxs ⊢
                  have HT : Hid (∀ t', Ok t' → shT t' = s → t' = (neg, x, if mn then -((ev : Nat) : Int) else ((ev : Nat) : Int))) := (by
                    have hN := HN2.out i mn st2 j2 (by omega) HD.out (by rw [← hji]; exact HCc.out.1.symm) (by rw [← hji]; exact HS.out.1) (by rw [← hji, HS.out.2.1, HS.out.2.2]) (by have := HL.out.1; omega) HL.out.2.2.2 (by
                      intro a1 a2 a3
                      rw [← HL.out.1] at a1
                      rw [← HL.out.1, ← HL.out.2.1] at a2 a3
                      have h7 := of_decide_eq_false hcb.symm
                      rw [← HL.out.2.2.1]
                      omega)
                    rw [← hX, ← HL.out.2.2.1] at hN
                    exact hN : ∀ t', Ok t' → shT t' = s → t' = (neg, x, if mn then -((ev : Nat) : Int) else ((ev : Nat) : Int)))
                  have kT := r40 ao (dlen x) cap x wr (Nat.le_refl _) hcap (by omega) hAt
                  have HAt : Hid (At wr ao (dlen x) x ∧ dlen x ≤ 2056) := ⟨hAt, hxs⟩
                  obtain ⟨nx, hnx⟩ : ∃ nx, nx = dlen x := ⟨_, rfl⟩
                  rw [← hnx] at kT ⊢
                  have HNX : Hid (nx = dlen x) := hnx
                  clear hAt hxs hX hcb hnx HD HI HN2 HN1 hcap
                  obtain ⟨E, hE⟩ : ∃ E : Int, E = if mn = true then -((ev : Nat) : Int) else ((ev : Nat) : Int) := ⟨_, rfl⟩
                  rw [← hE] at HT
                  cases mn with
                  | false =>
                    have hE2 : ((ev : Nat) : Int) = E := by rw [hE]; rfl
                    clear hE
                    go_upto_region 20 with fail
                    rw [hE2]
                    clear hE2
                    go_wp2_with fail
                    refine kT.mono ?_
                    rintro r w' ⟨rfl, hw'⟩
                    replace hw' := hw'.symm
                    subst hw'
                    clear kT
                    obtain ⟨V3, hV3⟩ : ∃ V2, V2 = wr.alloc (.cells #[.bool false, .slice none 0 0, .int .i64 0] 28) := ⟨_, rfl⟩
                    have hbV3 : Below wr.heap.size wr V3 := by rw [hV3]; exact (Below.refl _ _).alloc (Nat.le_refl _) _
                    have hzV3 : V3.heap[wr.heap.size]? = some (.cells #[.bool false, .slice none 0 0, .int .i64 0] 28 (0, 0)) := by rw [hV3]; exact heap_alloc_new _ _
                    obtain ⟨⟨y0, y1, y2⟩, y3, y4, y5⟩ := box_cells29 hzV3
                    have HZ : Hid (Below wr.heap.size wr V3 ∧ V3.heap[wr.heap.size]? = some (.cells #[.bool false, .slice none 0 0, .int .i64 0] 28 (0, 0))) := ⟨hbV3, hzV3⟩
                    clear hbV3 hzV3 x1 x2 x3 x4 x5 x6
                    go_upto_region 21 with (rw [← hV3]; clear hV3)
                    obtain ⟨gx, hgx⟩ : ∃ g, g = wr.heap.size := ⟨_, rfl⟩
                    obtain ⟨W3, hW3⟩ : ∃ V2, V2 = ((V3.setCell ⟨wr.heap.size, 0, none⟩ (.bool neg)).setCell ⟨wr.heap.size, 1, none⟩ (.slice ao nx cap)).setCell ⟨wr.heap.size, 2, none⟩ (.int .i64 E) := ⟨_, rfl⟩
                    have HX : Hid (W3.heap[gx]? = some (.cells #[.bool neg, .slice ao nx cap, .int .i64 E] 28 (0, 0)) ∧ At W3 ao (dlen x) x ∧ Below w.heap.size w W3 ∧ W3.heap[w.heap.size]? = some (.cells #[.bool false, .slice none 0 0, .int .i64 0] 28 (0, 0))) := (by
                      rw [hW3, hgx]
                      have hb3 : Below wr.heap.size wr (((V3.setCell ⟨wr.heap.size, 0, none⟩ (.bool neg)).setCell ⟨wr.heap.size, 1, none⟩ (.slice ao nx cap)).setCell ⟨wr.heap.size, 2, none⟩ (.int .i64 E)) := below_store3 HZ.out.1 (Nat.le_refl _) _ _ _
                      exact ⟨store3_29 _ _ _ HZ.out.2, HAt.out.1.later hb3, HBR.out.trans (hb3.mono HBR.out.size), box_later HC.out hb3 (Array.getElem?_eq_some_iff.1 HC.out).1⟩ : W3.heap[gx]? = some (.cells #[.bool neg, .slice ao nx cap, .int .i64 E] 28 (0, 0)) ∧ At W3 ao (dlen x) x ∧ Below w.heap.size w W3 ∧ W3.heap[w.heap.size]? = some (.cells #[.bool false, .slice none 0 0, .int .i64 0] 28 (0, 0)))
                    rw [← hW3, ← hgx]
                    clear hW3 hgx HZ y0 y1 y2 y3 y4 y5
                    obtain ⟨⟨z0, z1, z2⟩, -⟩ := box_cells29 HX.out.1
                    have kV : Calls Tryz.prog 19 #[.agg #[.bool neg, .slice ao nx cap, .int .i64 E]] W3 fun r w' => r = .returned (.bool (okN neg (dlen x) x E)) ∧ Below W3.heap.size W3 w' := by
                      rw [HNX.out]
                      exact rvalid_at HX.out.2.1 (by have := HAt.out.2; omega)
                    go_wp2_with fail
                    refine kV.mono ?_
                    rintro r w4 ⟨rfl, hb4⟩
                    clear kV
                    have HX4 : Hid (w4.heap[gx]? = some (.cells #[.bool neg, .slice ao nx cap, .int .i64 E] 28 (0, 0)) ∧ At w4 ao (dlen x) x ∧ Below w.heap.size w w4 ∧ w4.heap[w.heap.size]? = some (.cells #[.bool false, .slice none 0 0, .int .i64 0] 28 (0, 0))) := ⟨box_later HX.out.1 hb4 (Array.getElem?_eq_some_iff.1 HX.out.1).1, HX.out.2.1.later hb4, HX.out.2.2.1.trans (hb4.mono HX.out.2.2.1.size), box_later HX.out.2.2.2 hb4 (Array.getElem?_eq_some_iff.1 HX.out.2.2.2).1⟩
                    clear hb4 HX z0 z1 z2
                    cases hok : okN neg (dlen x) x E with
                    | false =>
                      obtain ⟨⟨x1, x2, x3⟩, x4, x5, x6⟩ := box_cells29 HX4.out.2.2.2
                      have HO : Hid (okN neg (dlen x) x E = false) := hok
                      clear hok
                      go_wp2
                      refine bodyPost_ret (results_cell_tmp_row rfl _ _ w.heap.size 28 #[.bool false, .slice none 0 0, .int .i64 0] (0, 0) _ rfl (store3_29 _ _ _ HX4.out.2.2.2) Tryz.underlying28 rfl Tryz.info28) rfl ?_
                      refine rd_none (fun t' h1 h2 => ?_) (below_store3 HX4.out.2.2.1 (Nat.le_refl _) _ _ _)
                      have h3 := HT.out t' h1 h2
                      subst h3
                      exact absurd (HO.out.symm.trans h1) (by simp)
                    | true =>
                      have HO : Hid (okN neg (dlen x) x E = true) := hok
                      clear hok
                      obtain ⟨⟨z0, z1, z2⟩, -⟩ := box_cells29 HX4.out.1
                      have kW : Calls Tryz.prog 20 #[.agg #[.bool neg, .slice ao nx cap, .int .i64 E]] w4 fun r w' => r = .returned (.string (shT (neg, x, E))) ∧ Below w4.heap.size w4 w' := by
                        rw [HNX.out]
                        exact rshow_ok (t := (neg, x, E)) HX4.out.2.1 (by have := HAt.out.2; show dlen x ≤ _; omega)
                      obtain ⟨S, hS⟩ : ∃ S, S = shT (neg, x, E) := ⟨_, rfl⟩
                      rw [← hS] at kW
                      have HSS : Hid (S = shT (neg, x, E)) := hS
                      clear hS
                      go_wp2_with fail
                      refine kW.mono ?_
                      rintro r w5 ⟨rfl, hb5⟩
                      clear kW
                      have HX5 : Hid (w5.heap[gx]? = some (.cells #[.bool neg, .slice ao nx cap, .int .i64 E] 28 (0, 0)) ∧ At w5 ao (dlen x) x ∧ Below w.heap.size w w5 ∧ w5.heap[w.heap.size]? = some (.cells #[.bool false, .slice none 0 0, .int .i64 0] 28 (0, 0))) := ⟨box_later HX4.out.1 hb5 (Array.getElem?_eq_some_iff.1 HX4.out.1).1, HX4.out.2.1.later hb5, HX4.out.2.2.1.trans (hb5.mono HX4.out.2.2.1.size), box_later HX4.out.2.2.2 hb5 (Array.getElem?_eq_some_iff.1 HX4.out.2.2.2).1⟩
                      clear hb5 HX4 z0 z1 z2
                      obtain ⟨⟨x1, x2, x3⟩, x4, x5, x6⟩ := box_cells29 HX5.out.2.2.2
                      by_cases hq : S = s
                      · have HQ : Hid (S = s) := hq
                        subst hq
                        obtain ⟨⟨z0, z1, z2⟩, -⟩ := box_cells29 HX5.out.1
                        go_wp2
                        refine bodyPost_ret (results_cell_tmp_row rfl _ _ w.heap.size 28 #[.bool neg, .slice ao nx cap, .int .i64 E] (0, 0) _ rfl (store3_29 _ _ _ HX5.out.2.2.2) Tryz.underlying28 rfl Tryz.info28) rfl ?_
                        rw [HNX.out]
                        exact rd_some (t := (neg, x, E)) HT.out HO.out HSS.out.symm (at_store3 HX5.out.2.1 HX5.out.2.2.2 _ _ _) (below_store3 HX5.out.2.2.1 (Nat.le_refl _) _ _ _)
                      · have hq2 := str_ne hq
                        have HQ : Hid (¬ S = s) := hq
                        clear hq
                        go_wp2
                        refine bodyPost_ret (results_cell_tmp_row rfl _ _ w.heap.size 28 #[.bool false, .slice none 0 0, .int .i64 0] (0, 0) _ rfl (store3_29 _ _ _ HX5.out.2.2.2) Tryz.underlying28 rfl Tryz.info28) rfl ?_
                        refine rd_none (fun t' h1 h2 => ?_) (below_store3 HX5.out.2.2.1 (Nat.le_refl _) _ _ _)
                        have h3 := HT.out t' h1 h2
                        subst h3
                        exact HQ.out (HSS.out.trans h2)
                  | true =>
                    have hE2 : -((ev : Nat) : Int) = E := by rw [hE]; rfl
                    clear hE
                    go_upto_region 20 with fail
                    clear hE2
                    go_wp2_with fail
                    refine kT.mono ?_
                    rintro r w' ⟨rfl, hw'⟩
                    replace hw' := hw'.symm
                    subst hw'
                    clear kT
                    obtain ⟨V3, hV3⟩ : ∃ V2, V2 = wr.alloc (.cells #[.bool false, .slice none 0 0, .int .i64 0] 28) := ⟨_, rfl⟩
                    have hbV3 : Below wr.heap.size wr V3 := by rw [hV3]; exact (Below.refl _ _).alloc (Nat.le_refl _) _
                    have hzV3 : V3.heap[wr.heap.size]? = some (.cells #[.bool false, .slice none 0 0, .int .i64 0] 28 (0, 0)) := by rw [hV3]; exact heap_alloc_new _ _
                    obtain ⟨⟨y0, y1, y2⟩, y3, y4, y5⟩ := box_cells29 hzV3
                    have HZ : Hid (Below wr.heap.size wr V3 ∧ V3.heap[wr.heap.size]? = some (.cells #[.bool false, .slice none 0 0, .int .i64 0] 28 (0, 0))) := ⟨hbV3, hzV3⟩
                    clear hbV3 hzV3 x1 x2 x3 x4 x5 x6
                    go_upto_region 21 with (rw [← hV3]; clear hV3)
                    obtain ⟨gx, hgx⟩ : ∃ g, g = wr.heap.size := ⟨_, rfl⟩
                    obtain ⟨W3, hW3⟩ : ∃ V2, V2 = ((V3.setCell ⟨wr.heap.size, 0, none⟩ (.bool neg)).setCell ⟨wr.heap.size, 1, none⟩ (.slice ao nx cap)).setCell ⟨wr.heap.size, 2, none⟩ (.int .i64 E) := ⟨_, rfl⟩
                    have HX : Hid (W3.heap[gx]? = some (.cells #[.bool neg, .slice ao nx cap, .int .i64 E] 28 (0, 0)) ∧ At W3 ao (dlen x) x ∧ Below w.heap.size w W3 ∧ W3.heap[w.heap.size]? = some (.cells #[.bool false, .slice none 0 0, .int .i64 0] 28 (0, 0))) := (by
                      rw [hW3, hgx]
                      have hb3 : Below wr.heap.size wr (((V3.setCell ⟨wr.heap.size, 0, none⟩ (.bool neg)).setCell ⟨wr.heap.size, 1, none⟩ (.slice ao nx cap)).setCell ⟨wr.heap.size, 2, none⟩ (.int .i64 E)) := below_store3 HZ.out.1 (Nat.le_refl _) _ _ _
                      exact ⟨store3_29 _ _ _ HZ.out.2, HAt.out.1.later hb3, HBR.out.trans (hb3.mono HBR.out.size), box_later HC.out hb3 (Array.getElem?_eq_some_iff.1 HC.out).1⟩ : W3.heap[gx]? = some (.cells #[.bool neg, .slice ao nx cap, .int .i64 E] 28 (0, 0)) ∧ At W3 ao (dlen x) x ∧ Below w.heap.size w W3 ∧ W3.heap[w.heap.size]? = some (.cells #[.bool false, .slice none 0 0, .int .i64 0] 28 (0, 0)))
                    rw [← hW3, ← hgx]
                    clear hW3 hgx HZ y0 y1 y2 y3 y4 y5
                    obtain ⟨⟨z0, z1, z2⟩, -⟩ := box_cells29 HX.out.1
                    have kV : Calls Tryz.prog 19 #[.agg #[.bool neg, .slice ao nx cap, .int .i64 E]] W3 fun r w' => r = .returned (.bool (okN neg (dlen x) x E)) ∧ Below W3.heap.size W3 w' := by
                      rw [HNX.out]
                      exact rvalid_at HX.out.2.1 (by have := HAt.out.2; omega)
                    go_wp2_with fail
                    refine kV.mono ?_
                    rintro r w4 ⟨rfl, hb4⟩
                    clear kV
                    have HX4 : Hid (w4.heap[gx]? = some (.cells #[.bool neg, .slice ao nx cap, .int .i64 E] 28 (0, 0)) ∧ At w4 ao (dlen x) x ∧ Below w.heap.size w w4 ∧ w4.heap[w.heap.size]? = some (.cells #[.bool false, .slice none 0 0, .int .i64 0] 28 (0, 0))) := ⟨box_later HX.out.1 hb4 (Array.getElem?_eq_some_iff.1 HX.out.1).1, HX.out.2.1.later hb4, HX.out.2.2.1.trans (hb4.mono HX.out.2.2.1.size), box_later HX.out.2.2.2 hb4 (Array.getElem?_eq_some_iff.1 HX.out.2.2.2).1⟩
                    clear hb4 HX z0 z1 z2
                    cases hok : okN neg (dlen x) x E with
                    | false =>
                      obtain ⟨⟨x1, x2, x3⟩, x4, x5, x6⟩ := box_cells29 HX4.out.2.2.2
                      have HO : Hid (okN neg (dlen x) x E = false) := hok
                      clear hok
                      go_wp2
                      refine bodyPost_ret (results_cell_tmp_row rfl _ _ w.heap.size 28 #[.bool false, .slice none 0 0, .int .i64 0] (0, 0) _ rfl (store3_29 _ _ _ HX4.out.2.2.2) Tryz.underlying28 rfl Tryz.info28) rfl ?_
                      refine rd_none (fun t' h1 h2 => ?_) (below_store3 HX4.out.2.2.1 (Nat.le_refl _) _ _ _)
                      have h3 := HT.out t' h1 h2
                      subst h3
                      exact absurd (HO.out.symm.trans h1) (by simp)
                    | true =>
                      have HO : Hid (okN neg (dlen x) x E = true) := hok
                      clear hok
                      obtain ⟨⟨z0, z1, z2⟩, -⟩ := box_cells29 HX4.out.1
                      have kW : Calls Tryz.prog 20 #[.agg #[.bool neg, .slice ao nx cap, .int .i64 E]] w4 fun r w' => r = .returned (.string (shT (neg, x, E))) ∧ Below w4.heap.size w4 w' := by
                        rw [HNX.out]
                        exact rshow_ok (t := (neg, x, E)) HX4.out.2.1 (by have := HAt.out.2; show dlen x ≤ _; omega)
                      obtain ⟨S, hS⟩ : ∃ S, S = shT (neg, x, E) := ⟨_, rfl⟩
                      rw [← hS] at kW
                      have HSS : Hid (S = shT (neg, x, E)) := hS
                      clear hS
                      go_wp2_with fail
                      refine kW.mono ?_
                      rintro r w5 ⟨rfl, hb5⟩
                      clear kW
                      have HX5 : Hid (w5.heap[gx]? = some (.cells #[.bool neg, .slice ao nx cap, .int .i64 E] 28 (0, 0)) ∧ At w5 ao (dlen x) x ∧ Below w.heap.size w w5 ∧ w5.heap[w.heap.size]? = some (.cells #[.bool false, .slice none 0 0, .int .i64 0] 28 (0, 0))) := ⟨box_later HX4.out.1 hb5 (Array.getElem?_eq_some_iff.1 HX4.out.1).1, HX4.out.2.1.later hb5, HX4.out.2.2.1.trans (hb5.mono HX4.out.2.2.1.size), box_later HX4.out.2.2.2 hb5 (Array.getElem?_eq_some_iff.1 HX4.out.2.2.2).1⟩
                      clear hb5 HX4 z0 z1 z2
                      obtain ⟨⟨x1, x2, x3⟩, x4, x5, x6⟩ := box_cells29 HX5.out.2.2.2
                      by_cases hq : S = s
                      · have HQ : Hid (S = s) := hq
                        subst hq
                        obtain ⟨⟨z0, z1, z2⟩, -⟩ := box_cells29 HX5.out.1
                        go_wp2
                        refine bodyPost_ret (results_cell_tmp_row rfl _ _ w.heap.size 28 #[.bool neg, .slice ao nx cap, .int .i64 E] (0, 0) _ rfl (store3_29 _ _ _ HX5.out.2.2.2) Tryz.underlying28 rfl Tryz.info28) rfl ?_
                        rw [HNX.out]
                        exact rd_some (t := (neg, x, E)) HT.out HO.out HSS.out.symm (at_store3 HX5.out.2.1 HX5.out.2.2.2 _ _ _) (below_store3 HX5.out.2.2.1 (Nat.le_refl _) _ _ _)
                      · have hq2 := str_ne hq
                        have HQ : Hid (¬ S = s) := hq
                        clear hq
                        go_wp2
                        refine bodyPost_ret (results_cell_tmp_row rfl _ _ w.heap.size 28 #[.bool false, .slice none 0 0, .int .i64 0] (0, 0) _ rfl (store3_29 _ _ _ HX5.out.2.2.2) Tryz.underlying28 rfl Tryz.info28) rfl ?_
                        refine rd_none (fun t' h1 h2 => ?_) (below_store3 HX5.out.2.2.1 (Nat.le_refl _) _ _ _)
                        have h3 := HT.out t' h1 h2
                        subst h3
                        exact HQ.out (HSS.out.trans h2)
        · have qp1 : (((c : Nat) : Int) != 112) = true := by rw [bne_iff_ne]; omega
          go_wp2
          refine bodyPost_ret (results_cell_tmp_row rfl _ _ w.heap.size 28 #[.bool false, .slice none 0 0, .int .i64 0] (0, 0) _ rfl (store3_29 _ _ _ HC.out) Tryz.underlying28 rfl Tryz.info28) rfl ?_
          refine rd_none (HN1.out i (by rw [← HJ.out]; omega) HD.out fun _ => ?_) (below_store3 HBR.out (Nat.le_refl _) _ _ _)
          rw [← HJ.out, ← HCc.out.1, ← HCc.out.2]
          exact ⟨by omega, qp⟩
      · have q3 : ¬ (j : Int) < (n : Int) := by omega
        clear hA kd hg
        go_wp2
        refine bodyPost_ret (results_cell_tmp_row rfl _ _ w.heap.size 28 #[.bool false, .slice none 0 0, .int .i64 0] (0, 0) _ rfl (store3_29 _ _ _ HC.out) Tryz.underlying28 rfl Tryz.info28) rfl ?_
        exact rd_none (HN1.out i (by rw [← HJ.out]; omega) HD.out fun h => absurd (by rw [HJ.out]; exact h) q1) (below_store3 HBR.out (Nat.le_refl _) _ _ _)
end Go.Proofs.YtbmaoiemgepppaaGreatDoor
/- A text that tells a number: what the document's Read makes of it. -/
namespace Go.Proofs.YtbmaoiemgepppaaGreatDoor
set_option linter.unusedVariables false
set_option linter.unusedSimpArgs false
open Go Go.RowKit Go.Fl64

/-- the parts of a text: a sign, digits of base 16, the letter, a sign, decimal digits -/
structure TxP (s : ByteArray) (neg : Bool) (x : Nat) (e : Int) (st m st2 D : Nat) : Prop where
  hst : st = if neg then 1 else 0
  hm : m = (hexZ x).length
  hm0 : 0 < m
  hD0 : 0 < D
  hD : D = (Lib.decDigits e.natAbs).length
  hst2 : st2 = st + m + 1 + (if e < 0 then 1 else 0)
  size : s.size = st2 + D
  b0 : (btA s 0 = 45) ↔ neg = true
  bh : ∀ k, k < m → ∃ b, (hexZ x)[k]? = some b ∧ btA s (st + k) = b.toNat
  bp : btA s (st + m) = 112
  bs : (btA s (st + m + 1) = 45) ↔ e < 0
  bd : ∀ k, k < D → ∃ b, (Lib.decDigits e.natAbs)[k]? = some b ∧ btA s (st2 + k) = b.toNat
theorem itoa_split (e : Int) : Lib.itoa e = (if e < 0 then [45] else []) ++ Lib.decDigits e.natAbs := by
  unfold Lib.itoa
  by_cases h : e < 0
  · rw [if_pos h, if_pos h]; rfl
  · rw [if_neg h, if_neg h]
    have : e.toNat = e.natAbs := by omega
    rw [this]; rfl
theorem getD_some {l : List UInt8} {i : Nat} {b : UInt8} (h : l[i]? = some b) : (l[i]?.getD 0).toNat = b.toNat := by rw [h]; rfl
theorem txp {s : ByteArray} {t : Bool × Nat × Int} (h : Ok t) (hs : shT t = s) : ∃ st m st2 D, TxP s t.1 t.2.1 t.2.2 st m st2 D := by
  have hf := shT_form h
  rw [hs] at hf
  obtain ⟨neg, x, e⟩ := t
  simp only at hf ⊢
  have hL : s.data.toList = (if neg = true then [45] else []) ++ (hexZ x ++ 112 :: ((if e < 0 then [45] else []) ++ Lib.decDigits e.natAbs)) := by
    rw [hf, list_of, itoa_split, List.append_assoc]
  have hh0 : 0 < (hexZ x).length := List.length_pos_iff.2 (hexZ_ne x)
  have hd0 : 0 < (Lib.decDigits e.natAbs).length := List.length_pos_iff.2 (dec_ne _)
  have hlen := size_list s
  obtain ⟨A, hA⟩ : ∃ A : List UInt8, A = if neg = true then [45] else [] := ⟨_, rfl⟩
  obtain ⟨S, hS⟩ : ∃ S : List UInt8, S = if e < 0 then [45] else [] := ⟨_, rfl⟩
  have hAl : A.length = if neg then 1 else 0 := by rw [hA]; cases neg <;> rfl
  have hSl : S.length = if e < 0 then 1 else 0 := by rw [hS]; split <;> rfl
  rw [← hA, ← hS] at hL
  have dgx : ∀ b ∈ hexZ x, b.toNat ≠ 45 ∧ b.toNat ≠ 112 := fun b hb => by
    obtain ⟨d, h1, h2⟩ := hexZ_dg x b hb
    have := hx_facts h1
    rw [h2]; exact ⟨this.2.2.2.2.1, this.2.2.2.1⟩
  have bh : ∀ k, k < (hexZ x).length → ∃ b, (hexZ x)[k]? = some b ∧ btA s (A.length + k) = b.toNat := fun k hk => by
    refine ⟨(hexZ x)[k], List.getElem?_eq_getElem hk, ?_⟩
    rw [btA_list, hL]
    refine getD_some ?_
    rw [List.getElem?_append_right (by omega), Nat.add_sub_cancel_left, List.getElem?_append_left hk]
    exact List.getElem?_eq_getElem hk
  have bp : btA s (A.length + (hexZ x).length) = 112 := by
    rw [btA_list, hL]
    refine (getD_some (b := 112) ?_).trans rfl
    rw [List.getElem?_append_right (by omega), Nat.add_sub_cancel_left, List.getElem?_append_right (Nat.le_refl _), Nat.sub_self]
    rfl
  have bd : ∀ k, k < (Lib.decDigits e.natAbs).length → ∃ b, (Lib.decDigits e.natAbs)[k]? = some b ∧ btA s (A.length + (hexZ x).length + 1 + S.length + k) = b.toNat := fun k hk => by
    refine ⟨(Lib.decDigits e.natAbs)[k], List.getElem?_eq_getElem hk, ?_⟩
    rw [btA_list, hL]
    refine getD_some ?_
    rw [show A.length + (hexZ x).length + 1 + S.length + k = A.length + ((hexZ x).length + (1 + S.length + k)) by omega, List.getElem?_append_right (by omega), Nat.add_sub_cancel_left, List.getElem?_append_right (by omega), Nat.add_sub_cancel_left, show 1 + S.length + k = (S.length + k) + 1 by omega, List.getElem?_cons_succ, List.getElem?_append_right (by omega), Nat.add_sub_cancel_left]
    exact List.getElem?_eq_getElem hk
  refine ⟨A.length, (hexZ x).length, A.length + (hexZ x).length + 1 + S.length, (Lib.decDigits e.natAbs).length, hAl, rfl, hh0, hd0, rfl, by rw [hSl], ?_, ?_, bh, bp, ?_, bd⟩
  · rw [hlen, hL]
    simp only [List.length_append, List.length_cons]
    omega
  · cases neg with
    | true =>
      have : btA s 0 = 45 := by
        rw [btA_list, hL, hA]; rfl
      simp [this]
    | false =>
      obtain ⟨b, h1, h2⟩ := bh 0 hh0
      have hA0 : A.length = 0 := by rw [hAl]; rfl
      rw [hA0] at h2
      have := dgx b (List.mem_of_getElem? h1)
      rw [show (0 : Nat) + 0 = 0 from rfl] at h2
      rw [h2]
      simp [this.1]
  · by_cases he : e < 0
    · have hS1 : S = [45] := by rw [hS, if_pos he]
      have : btA s (A.length + (hexZ x).length + 1) = 45 := by
        rw [btA_list, hL]
        refine (getD_some (b := 45) ?_).trans rfl
        rw [show A.length + (hexZ x).length + 1 = A.length + ((hexZ x).length + 1) by omega, List.getElem?_append_right (by omega), Nat.add_sub_cancel_left, List.getElem?_append_right (by omega), Nat.add_sub_cancel_left, List.getElem?_cons_succ, hS1]
        rfl
      simp [this, he]
    · obtain ⟨b, h1, h2⟩ := bd 0 hd0
      have hS0 : S.length = 0 := by rw [hSl, if_neg he]
      rw [hS0, Nat.add_zero, Nat.add_zero] at h2
      have := dec_dg _ b (List.mem_of_getElem? h1)
      rw [h2]
      constructor
      · intro h; omega
      · intro h; exact absurd h he
theorem take_snoc {l : List UInt8} {k : Nat} {b : UInt8} (h : l[k]? = some b) : l.take (k + 1) = l.take k ++ [b] := by
  rw [List.take_add_one, h]; rfl
theorem TxP.hv {s : ByteArray} {neg : Bool} {x : Nat} {e : Int} {st m st2 D : Nat} (T : TxP s neg x e st m st2 D) : ∀ i, i ≤ m → hvR s st i = hxV ((hexZ x).take i)
  | 0, _ => rfl
  | i + 1, hi => by
    obtain ⟨b, h1, h2⟩ := T.bh i (by omega)
    obtain ⟨d, h3, h4⟩ := hexZ_dg x b (List.mem_of_getElem? h1)
    have hf := hx_facts h3
    show hvR s st i * 16 + (dgR (btA s (st + i))).toNat = _
    rw [take_snoc h1, hxV_snoc, T.hv i (by omega), h2, h4, hf.2.1, hf.2.2.1]
    rfl
theorem TxP.hvx {s : ByteArray} {neg : Bool} {x : Nat} {e : Int} {st m st2 D : Nat} (T : TxP s neg x e st m st2 D) : hvR s st m = x := by
  rw [T.hv m (Nat.le_refl _), T.hm, List.take_length, hexZ_val]
theorem TxP.ev {s : ByteArray} {neg : Bool} {x : Nat} {e : Int} {st m st2 D : Nat} (T : TxP s neg x e st m st2 D) : ∀ i, i ≤ D → evR s st2 i = dcV ((Lib.decDigits e.natAbs).take i)
  | 0, _ => rfl
  | i + 1, hi => by
    obtain ⟨b, h1, h2⟩ := T.bd i (by omega)
    show 10 * evR s st2 i + (btA s (st2 + i) - 48) = _
    rw [take_snoc h1, dcV_snoc, T.ev i (by omega), h2]
    omega
theorem TxP.evx {s : ByteArray} {neg : Bool} {x : Nat} {e : Int} {st m st2 D : Nat} (T : TxP s neg x e st m st2 D) : evR s st2 D = e.natAbs := by
  rw [T.ev D (Nat.le_refl _), T.hD, List.take_length, dec_val]
theorem TxP.ev_le {s : ByteArray} {neg : Bool} {x : Nat} {e : Int} {st m st2 D : Nat} (T : TxP s neg x e st m st2 D) {i : Nat} (hi : i ≤ D) : evR s st2 i ≤ e.natAbs := by
  rw [T.ev i hi]
  have h1 := dec_val e.natAbs
  rw [← List.take_append_drop i (Lib.decDigits e.natAbs)] at h1
  unfold dcV at h1 ⊢
  rw [List.foldl_append] at h1
  have h2 := dc_mono ((Lib.decDigits e.natAbs).drop i) (((Lib.decDigits e.natAbs).take i).foldl (fun a b => a * 10 + (b.toNat - 48)) 0)
  omega
theorem dgR_112 : dgR 112 = -1 := by decide
theorem TxP.dig {s : ByteArray} {neg : Bool} {x : Nat} {e : Int} {st m st2 D : Nat} (T : TxP s neg x e st m st2 D) {k : Nat} (hk : k < m) : 0 ≤ dgR (btA s (st + k)) ∧ btA s (st + k) ≠ 112 := by
  obtain ⟨b, h1, h2⟩ := T.bh k hk
  obtain ⟨d, h3, h4⟩ := hexZ_dg x b (List.mem_of_getElem? h1)
  have hf := hx_facts h3
  rw [h2, h4, hf.2.2.1]
  exact ⟨by omega, hf.2.2.2.1⟩
/-- the hypotheses of the walk -/
theorem read_nums (s : ByteArray) (n st : Nat) (hn : s.size = n) (neg : Bool) (hneg : (((btA s 0 : Nat) : Int) == 45) = neg) (hst : (if neg = true then (1 : Int) else 0) = (st : Int)) :
    (∀ i, st + i ≤ n → (∀ k, k < i → 0 ≤ dgR (btA s (st + k))) → (st + i < n → dgR (btA s (st + i)) < 0 ∧ btA s (st + i) ≠ 112) → NoT s) ∧
    (∀ i (mn : Bool) st2 j2, st + i < n → (∀ k, k < i → 0 ≤ dgR (btA s (st + k))) → btA s (st + i) = 112 → mn = decide (st + i + 1 < n ∧ btA s (st + i + 1) = 45) → st2 = st + i + 1 + (if mn then 1 else 0) → st2 + j2 ≤ n → (∀ k, k < j2 → 48 ≤ btA s (st2 + k) ∧ btA s (st2 + k) ≤ 57) → (st2 + j2 < n → 48 ≤ btA s (st2 + j2) → btA s (st2 + j2) ≤ 57 → 1073741824 ≤ evR s st2 j2) → ∀ t', Ok t' → shT t' = s → t' = (neg, hvR s st i, if mn then -((evR s st2 j2 : Nat) : Int) else ((evR s st2 j2 : Nat) : Int))) := by
  have key : ∀ t', Ok t' → shT t' = s → ∃ m st2 D, TxP s t'.1 t'.2.1 t'.2.2 st m st2 D ∧ t'.1 = neg := fun t' h1 h2 => by
    obtain ⟨st', m, st2, D, T⟩ := txp h1 h2
    have hb : t'.1 = neg := by
      rw [← hneg]
      have := T.b0
      cases hc : t'.1 with
      | true => rw [this.2 hc]; rfl
      | false =>
        have h3 : ¬ (((btA s 0 : Nat) : Int) = 45) := fun h => by
          have h4 := this.1 (by omega)
          rw [hc] at h4; cases h4
        exact (beq_eq_false_iff_ne.2 h3).symm
    have : st' = st := by
      have h3 := T.hst
      rw [hb] at h3
      cases neg <;> simp at h3 hst <;> omega
    subst this
    exact ⟨m, st2, D, T, hb⟩
  have nil_of : ∀ {i m : Nat} {t' : Bool × Nat × Int} {st2 D : Nat}, TxP s t'.1 t'.2.1 t'.2.2 st m st2 D → (∀ k, k < i → 0 ≤ dgR (btA s (st + k))) → i ≤ m := fun {i m t' st2 D} T hd => by
    rcases Nat.lt_or_ge m i with h | h
    · have := hd m h
      rw [T.bp, dgR_112] at this
      omega
    · exact h
  refine ⟨fun i hi hd hx t' h1 h2 => ?_, fun i mn st2 j2 hi hd hp hmn hst2 hj2 hdd hex t' h1 h2 => ?_⟩
  · obtain ⟨m, st2, D, T, -⟩ := key t' h1 h2
    have hsz := T.size
    have hs2 := T.hst2
    have him := nil_of T hd
    have h3 := hx (by omega)
    rcases Nat.lt_or_ge i m with h | h
    · have := (T.dig h).1; omega
    · obtain rfl : i = m := by omega
      exact h3.2 T.bp
  · obtain ⟨m, st2', D, T, hng⟩ := key t' h1 h2
    have hsz := T.size
    have hs2 := T.hst2
    have him := nil_of T hd
    obtain rfl : i = m := by
      rcases Nat.lt_or_ge i m with h | h
      · exact absurd hp (T.dig h).2
      · omega
    have hD0 := T.hD0
    have hmn2 : mn = decide (t'.2.2 < 0) := by
      rw [hmn]
      by_cases he : t'.2.2 < 0
      · have hb := T.bs.2 he
        rw [if_pos he] at hs2
        simp [hb, he]; omega
      · have hb : ¬ btA s (st + i + 1) = 45 := fun h => he (T.bs.1 h)
        simp [hb, he]
    have hst3 : st2 = st2' := by
      rw [hst2, hs2, hmn2]
      by_cases he : t'.2.2 < 0 <;> simp [he]
    subst hst3
    have hf := Ok.facts h1
    have hjD : j2 = D := by
      rcases Nat.lt_or_ge j2 D with h | h
      · obtain ⟨b, g1, g2⟩ := T.bd j2 h
        have g3 := dec_dg _ b (List.mem_of_getElem? g1)
        have g4 := hex (by omega) (by rw [g2]; exact g3.1) (by rw [g2]; exact g3.2)
        have g5 := T.ev_le (Nat.le_of_lt h)
        omega
      · omega
    subst hjD
    rw [T.hvx, T.evx, hmn2]
    obtain ⟨a, b, c⟩ := t'
    simp only at hng ⊢
    rw [hng]
    by_cases he : c < 0
    · simp [he]; omega
    · simp [he]; omega
end Go.Proofs.YtbmaoiemgepppaaGreatDoor
/- What the program's Read makes of a text that tells a number. -/
namespace Go.Proofs.YtbmaoiemgepppaaGreatDoor
set_option linter.unusedVariables false
set_option linter.unusedSimpArgs false
open Go Go.RowKit Go.Fl64

theorem dec_len (k : Nat) : ∀ u, u < 10 ^ (k + 1) → (Lib.decDigits u).length ≤ k + 1 := by
  induction k with
  | zero =>
    intro u h
    rw [Lib.decDigits, dif_pos (by simpa using h)]
    simp
  | succ k ih =>
    intro u h
    rw [Lib.decDigits]
    split
    · simp
    · rw [List.length_append, List.length_singleton]
      have := ih (u / 10) (by rw [Nat.pow_succ] at h; omega)
      omega
theorem hexZ_len {x k : Nat} (h : dlen x ≤ k) (hk : 0 < k) : (hexZ x).length ≤ 8 * k := by
  unfold hexZ
  split
  · simp; omega
  · exact hexN_len8 h
theorem shT_size {s : ByteArray} {t : Bool × Nat × Int} (h : Ok t) (hs : shT t = s) : 0 < s.size ∧ s.size ≤ 16392 := by
  obtain ⟨st, m, st2, D, T⟩ := txp h hs
  have hf := h.facts
  have h1 := T.size
  have h2 := T.hst2
  have h3 := T.hst
  have h4 : m ≤ 8 * 2048 := by rw [T.hm]; exact hexZ_len hf.1 (by omega)
  have h5 : D ≤ 5 := by rw [T.hD]; exact dec_len 4 _ (by omega)
  have h6 : st ≤ 1 := by rw [h3]; split <;> omega
  have h7 : (if t.2.2 < 0 then 1 else 0 : Nat) ≤ 1 := by split <;> omega
  omega
theorem index_at (c : UInt8) (r : List UInt8) : ∀ l : List UInt8, (∀ b ∈ l, b ≠ c) → Lib.indexByte (l ++ c :: r) c = (l.length : Int)
  | [], _ => by simp [Lib.indexByte]
  | b :: l, h => by
    have ih := index_at c r l (fun b hb => h b (List.mem_cons_of_mem _ hb))
    have hb := h b (List.mem_cons_self ..)
    rw [List.cons_append, Lib.indexByte, if_neg (by simpa using hb), ih, if_neg (by simp)]
    simp
/-- the digits of a text, as one number -/
theorem pu_take {s : ByteArray} : ∀ i, i ≤ s.size → puN s i = hxV (s.data.toList.take i)
  | 0, _ => rfl
  | i + 1, hi => by
    have hl : i < s.data.toList.length := by rw [← size_list]; omega
    show puN s i * 16 + dgB (btA s i) = _
    rw [take_snoc (List.getElem?_eq_getElem hl), hxV_snoc, pu_take i (by omega), btA_list, List.getElem?_eq_getElem hl]
    rfl
theorem pu_split {s t : ByteArray} {a : Nat} (h : ∀ k, k < t.size → btA t k = btA s (a + k)) : ∀ j, j ≤ t.size → puN s (a + j) = puN s a * 16 ^ j + puN t j
  | 0, _ => by simp [puN]
  | j + 1, hj => by
    show puN s (a + j) * 16 + dgB (btA s (a + j)) = puN s a * 16 ^ (j + 1) + (puN t j * 16 + dgB (btA t j))
    rw [pu_split h j (by omega), h j (by omega), Nat.pow_succ, Nat.add_mul, Nat.mul_assoc]
    omega
theorem ext_bt (s : ByteArray) (a b k : Nat) (hb : b ≤ s.size) (hk : a + k < b) : btA (s.extract a b) k = btA s (a + k) := by
  unfold btA
  rw [ByteArray.data_extract, Array.getElem?_extract]
  have : k < min b s.data.size - a := by
    have : s.data.size = s.size := rfl
    omega
  rw [if_pos this]
theorem ext_size (s : ByteArray) (a b : Nat) (hb : b ≤ s.size) : (s.extract a b).size = b - a := by
  rw [ByteArray.size_extract]; omega
theorem rdN_all {s : ByteArray} (hd : ∀ j, j < s.size → dgB (btA s j) < 16) : rdN s = puN s s.size := by
  have hB : (16 : Nat) ^ 8 = B := rfl
  have key : ∀ i, i < (s.size + 7) / 8 → puD (pcS s i) = dg (puN s s.size) i := fun i hi => by
    obtain ⟨a, ha⟩ : ∃ a, a = s.size - 8 * i - 8 := ⟨_, rfl⟩
    obtain ⟨b, hb⟩ : ∃ b, b = s.size - 8 * i := ⟨_, rfl⟩
    have hbs : b ≤ s.size := by omega
    have e1 : pcS s i = s.extract a b := by unfold pcS; rw [ha, hb]
    have hz := ext_size s a b hbs
    have hbt : ∀ k, k < (s.extract a b).size → btA (s.extract a b) k = btA s (a + k) := fun k hk => ext_bt s a b k hbs (by omega)
    have h1 := pu_split hbt (b - a) (by omega)
    rw [show a + (b - a) = b by omega] at h1
    have e2 : puD (pcS s i) = puN (s.extract a b) (b - a) := by
      rw [e1]
      unfold puD
      rw [if_pos (fun j hj => by rw [hbt j hj]; exact hd _ (by omega)), hz]
    obtain ⟨r, hr⟩ : ∃ r, r = s.extract b s.size := ⟨_, rfl⟩
    have hrz := ext_size s b s.size (Nat.le_refl _)
    have hrb : ∀ k, k < (s.extract b s.size).size → btA (s.extract b s.size) k = btA s (b + k) := fun k hk => ext_bt s b s.size k (Nat.le_refl _) (by omega)
    have h2 := pu_split hrb (s.size - b) (by omega)
    rw [show b + (s.size - b) = s.size by omega] at h2
    have h3 : puN (s.extract b s.size) (s.size - b) < 16 ^ (s.size - b) := puN_lt fun j hj => by rw [hrb j (by omega)]; exact hd _ (by omega)
    have h4 : (16 : Nat) ^ (s.size - b) = B ^ i := by
      rw [show s.size - b = 8 * i by omega, pow16B]
    rw [h4] at h2 h3
    have h5 : puN s s.size / B ^ i = puN s b := by
      rw [h2, Nat.mul_comm, Nat.mul_add_div (Nat.pow_pos (by decide)), Nat.div_eq_of_lt h3, Nat.add_zero]
    have h6 : puN (s.extract a b) (b - a) < B := by
      have h7 : puN (s.extract a b) (b - a) < 16 ^ (b - a) := puN_lt fun j hj => by rw [hbt j (by omega)]; exact hd _ (by omega)
      have h8 : (16 : Nat) ^ (b - a) ≤ 16 ^ 8 := Nat.pow_le_pow_right (by decide) (by omega)
      rw [hB] at h8
      omega
    rw [e2]
    unfold dg
    rw [h5, h1]
    rcases Nat.lt_or_ge b 8 with h | h
    · have : a = 0 := by omega
      subst this
      rw [show puN s 0 = 0 from rfl, Nat.zero_mul, Nat.zero_add, Nat.mod_eq_of_lt h6]
    · rw [show b - a = 8 by omega] at h6 ⊢
      rw [hB, Nat.mul_comm, Nat.mul_add_mod, Nat.mod_eq_of_lt h6]
  unfold rdN
  rw [V_congr key, V_dg]
  refine Nat.mod_eq_of_lt ?_
  have h1 := puN_lt (s := s) (i := s.size) hd
  have h2 : (16 : Nat) ^ s.size ≤ 16 ^ (8 * ((s.size + 7) / 8)) := Nat.pow_le_pow_right (by decide) (by omega)
  rw [pow16B] at h2
  exact Nat.lt_of_lt_of_le h1 h2
theorem ba_ext {s t : ByteArray} (h : s.data.toList = t.data.toList) : s = t := by
  cases s; cases t
  exact congrArg ByteArray.mk (Array.toList_inj.1 h)
theorem ext_list (s : ByteArray) (a b : Nat) : (s.extract a b).data.toList = s.data.toList.extract a b := by rw [ByteArray.data_extract, Array.toList_extract]
theorem rdN_hexZ (x : Nat) : rdN ⟨(hexZ x).toArray⟩ = x := by
  obtain ⟨s, hs⟩ : ∃ s : ByteArray, s = ⟨(hexZ x).toArray⟩ := ⟨_, rfl⟩
  have hl : s.data.toList = hexZ x := by rw [hs]
  rw [← hs, rdN_all ?_, pu_take s.size (Nat.le_refl _), hl, size_list, hl, List.take_length, hexZ_val]
  intro j hj
  have hj2 : j < (hexZ x).length := by rw [← hl, ← size_list]; exact hj
  rw [btA_list, hl, List.getElem?_eq_getElem hj2]
  obtain ⟨d, h1, h2⟩ := hexZ_dg x _ (List.getElem_mem hj2)
  show dgB ((hexZ x)[j]).toNat < 16
  rw [h2, (hx_facts h1).2.1]
  exact h1
/-- a text that tells a number is read as it -/
theorem pRd_of {s : ByteArray} {t : Bool × Nat × Int} (h : Ok t) (hs : shT t = s) : pRd s = some t := by
  have hz := (shT_size h hs).2
  have hf := shT_form h
  rw [hs] at hf
  have hfc := h.facts
  obtain ⟨neg, x, e⟩ := t
  simp only at hf hfc
  have hL : s.data.toList = (if neg = true then [45] else []) ++ (hexZ x ++ 112 :: Lib.itoa e) := by
    rw [hf, list_of, List.append_assoc]
  have dgx : ∀ b ∈ hexZ x, b ≠ 45 ∧ b ≠ 112 := fun b hb => by
    obtain ⟨d, h1, h2⟩ := hexZ_dg x b hb
    have := hx_facts h1
    constructor
    · rintro rfl; exact this.2.2.2.2.1 (h2.symm.trans rfl)
    · rintro rfl; exact this.2.2.2.1 (h2.symm.trans rfl)
  have hng : ngS s = neg := by
    unfold ngS Lib.hasPrefix
    rw [hL]
    cases neg with
    | true => rfl
    | false =>
      cases hx : hexZ x with
      | nil => exact absurd hx (hexZ_ne x)
      | cons b l =>
        have := (dgx b (by rw [hx]; exact List.mem_cons_self ..)).1
        simp [List.isPrefixOf]
        exact fun h => this h.symm
  have hbd : bdS s = ⟨(hexZ x ++ 112 :: Lib.itoa e).toArray⟩ := by
    unfold bdS Lib.trimPrefix
    have h1 : Lib.hasPrefix s.data.toList [45] = neg := hng
    rw [h1, hL]
    cases neg <;> rfl
  have hix : Lib.indexByte (bdS s).data.toList 112 = ((hexZ x).length : Int) := by
    rw [hbd, list_of]
    exact index_at 112 _ _ fun b hb => (dgx b hb).2
  have hbl : (bdS s).data.toList = hexZ x ++ 112 :: Lib.itoa e := by rw [hbd, list_of]
  have hA : cutA (bdS s) = ⟨(hexZ x).toArray⟩ := by
    unfold cutA
    rw [hix, if_neg (by omega)]
    refine ba_ext ((ext_list _ _ _).trans ?_)
    rw [hbl]
    simp [List.extract]
  have hB : cutB (bdS s) = ⟨(Lib.itoa e).toArray⟩ := by
    unfold cutB
    rw [hix, if_neg (by omega)]
    refine ba_ext ((ext_list _ _ _).trans ?_)
    rw [size_list, hbl]
    simp [List.extract]
    exact List.take_of_length_le (by omega)
  have hav : avS (cutB (bdS s)) = some e := by
    rw [hB]
    unfold avS
    rw [list_of, atoi_itoa e hfc.2.1 hfc.2.2.1]
  unfold pRd rdT
  rw [if_neg (by omega), hav]
  simp only
  rw [hng, hA, rdN_hexZ, if_pos hs]
theorem pRd_some {s : ByteArray} {t : Bool × Nat × Int} (h : pRd s = some t) : Ok t ∧ shT t = s := by
  have h2 : shT t = s ∧ ∃ v, avS (cutB (bdS s)) = some v := by
    unfold pRd rdT at h
    split at h
    · cases h
    · cases hv : avS (cutB (bdS s)) with
      | none => rw [hv] at h; cases h
      | some v =>
        rw [hv] at h
        simp only at h
        split at h
        · rename_i h1
          cases h
          exact ⟨h1, v, rfl⟩
        · cases h
  refine ⟨?_, h2.1⟩
  by_cases hk : Ok t
  · exact hk
  · exfalso
    have h3 := shT_no hk
    rw [h2.1] at h3
    obtain ⟨v, hv⟩ := h2.2
    rw [h3] at hv
    have : avS (cutB (bdS ⟨#[]⟩)) = none := by decide +kernel
    rw [this] at hv
    cases hv
end Go.Proofs.YtbmaoiemgepppaaGreatDoor
/- The document's Read of every text; the law DyadReads. -/
namespace Go.Proofs.YtbmaoiemgepppaaGreatDoor
set_option linter.unusedVariables false
set_option linter.unusedSimpArgs false
open Go Go.RowKit Go.Fl64

set_option maxHeartbeats 4000000 in
set_option maxRecDepth 200000 in
theorem rread_long (s : ByteArray) (w : World) (hN : NoT s) (h : 16448 < s.size) (hs : s.size ≤ 9223372036854775807) : Calls Tryz.prog 5 #[.string s] w fun r w' => RdOut s w r w' := by
  obtain ⟨W, hW⟩ : ∃ W, W = w.alloc (.cells #[.bool false, .slice none 0 0, .int .i64 0] 28) := ⟨_, rfl⟩
  have HC : Hid (W.heap[w.heap.size]? = some (.cells #[.bool false, .slice none 0 0, .int .i64 0] 28 (0, 0)) ∧ Below w.heap.size w W) := (by rw [hW]; exact ⟨heap_alloc_new _ _, (Below.refl _ _).alloc (Nat.le_refl _) _⟩ : W.heap[w.heap.size]? = some (.cells #[.bool false, .slice none 0 0, .int .i64 0] 28 (0, 0)) ∧ Below w.heap.size w W)
  obtain ⟨⟨x1, x2, x3⟩, x4, x5, x6⟩ := box_cells29 HC.out.1
  have q1 : (16448 : Int) < (s.size : Int) := by omega
  rw [hW] at x1 x2 x3 x4 x5 x6
  go_enter Tryz.func5, Tryz.ntmps5
  go_wp2_with fail
  rw [← hW]
  refine bodyPost_ret (results_cell_tmp_row rfl _ _ w.heap.size 28 #[.bool false, .slice none 0 0, .int .i64 0] (0, 0) _ rfl HC.out.1 Tryz.underlying28 rfl Tryz.info28) rfl ?_
  exact rd_none hN HC.out.2
set_option maxHeartbeats 4000000 in
set_option maxRecDepth 200000 in
theorem rread_empty (w : World) (hN : NoT ⟨#[]⟩) : Calls Tryz.prog 5 #[.string ⟨#[]⟩] w fun r w' => RdOut ⟨#[]⟩ w r w' := by
  obtain ⟨W, hW⟩ : ∃ W, W = w.alloc (.cells #[.bool false, .slice none 0 0, .int .i64 0] 28) := ⟨_, rfl⟩
  have HC : Hid (W.heap[w.heap.size]? = some (.cells #[.bool false, .slice none 0 0, .int .i64 0] 28 (0, 0)) ∧ Below w.heap.size w W) := (by rw [hW]; exact ⟨heap_alloc_new _ _, (Below.refl _ _).alloc (Nat.le_refl _) _⟩ : W.heap[w.heap.size]? = some (.cells #[.bool false, .slice none 0 0, .int .i64 0] 28 (0, 0)) ∧ Below w.heap.size w W)
  obtain ⟨⟨x1, x2, x3⟩, x4, x5, x6⟩ := box_cells29 HC.out.1
  have kS := rsignb false W
  have hE : (⟨#[]⟩ : ByteArray).toList.isEmpty = true := by rw [ByteArray.toList_eq]; rfl
  go_enter Tryz.func5, Tryz.ntmps5
  go_wp2_with fail
  rw [← hW]
  clear hW
  refine kS.mono ?_
  rintro r w1 ⟨rfl, hw⟩
  replace hw := hw.symm
  subst hw
  clear kS
  go_wp2_with fail
  go_loopw [5, 6] (fun iv v wr => iv = .int .i64 0 ∧ v = .slice none 0 0 ∧ wr = W) (fun iv _ _ => 0)
  case atStart => exact ⟨rfl, rfl, rfl⟩
  case round =>
    obtain ⟨rfl, rfl, rfl⟩ := hrel
    go_wp2
    refine bodyPost_ret (results_cell_tmp_row rfl _ _ w.heap.size 28 #[.bool false, .slice none 0 0, .int .i64 0] (0, 0) _ rfl (store3_29 _ _ _ HC.out.1) Tryz.underlying28 rfl Tryz.info28) rfl ?_
    exact rd_none hN (below_store3 HC.out.2 (Nat.le_refl _) _ _ _)
theorem rread_ok (s : ByteArray) (w : World) (hs : s.size ≤ 9223372036854775807) : Calls Tryz.prog 5 #[.string s] w fun r w' => RdOut s w r w' := by
  by_cases h1 : 16448 < s.size
  · exact rread_long s w (fun t' h2 h3 => by have := (shT_size h2 h3).2; omega) h1 hs
  · by_cases h0 : 0 < s.size
    · obtain ⟨neg, hneg⟩ : ∃ neg, (((btA s 0 : Nat) : Int) == 45) = neg := ⟨_, rfl⟩
      obtain ⟨st, hst⟩ : ∃ st : Nat, (if neg = true then (1 : Int) else 0) = (st : Int) := by cases neg <;> exact ⟨_, rfl⟩
      obtain ⟨N1, N2⟩ := read_nums s s.size st rfl neg hneg hst
      exact rread_1 s w s.size st rfl h0 (by omega) neg hneg hst N1 N2 (fun c W hc => rdigit c hc W)
    · have he : s = ⟨#[]⟩ := by
        refine ba_ext ?_
        have : s.data.toList.length = 0 := by rw [← size_list]; omega
        rw [List.eq_nil_of_length_eq_zero this]
      subst he
      exact rread_empty w (fun t' h2 h3 => by have := (shT_size h2 h3).1; exact h0 this)
set_option maxHeartbeats 4000000 in
set_option maxRecDepth 200000 in
theorem lawRd (s : ByteArray) (er : Int) (w : World) (PA PC : World → Value → Prop)
    (hPA : ∀ w w' v, Below w.heap.size w w' → PA w v → PA w' v) (hPC : ∀ w w' v, Below w.heap.size w w' → PC w v → PC w' v)
    (k9 : Calls Tryz.prog 4 #[.string s] w fun r w' => ∃ s ao l cap ex, r = .returned (.tuple #[.agg #[.bool s, .slice ao l cap, .int .i64 ex], .int .i64 er]) ∧ PA w' (.agg #[.bool s, .slice ao l cap, .int .i64 ex]) ∧ Below w.heap.size w w')
    (k10 : ∀ W, Calls Tryz.prog 5 #[.string s] W fun r w' => ∃ s ao l cap ex, r = .returned (.tuple #[.agg #[.bool s, .slice ao l cap, .int .i64 ex], .int .i64 er]) ∧ PC w' (.agg #[.bool s, .slice ao l cap, .int .i64 ex]) ∧ Below W.heap.size W w')
    (k11 : ∀ W A C, PA W A → PC W C → Calls Tryz.prog 6 #[A, C] W fun r w' => r = .returned (.bool true) ∧ Below W.heap.size W w')
    (k14 : ∀ W, Below w.heap.size w W → Calls Tryz.prog 7 #[] W fun r w' => r = .returned (.bool true) ∧ Below W.heap.size W w') :
    Calls Tryz.prog 3 #[.string s] w fun r w' => r = .returned (.bool true) ∧ Below w.heap.size w w' := by
  have te : (er == er) = true := by simp
  have H : Hid ((∀ w w' v, Below w.heap.size w w' → PA w v → PA w' v) ∧ (∀ w w' v, Below w.heap.size w w' → PC w v → PC w' v)) := ⟨hPA, hPC⟩
  have H10 : Hid (∀ W, Calls Tryz.prog 5 #[.string s] W fun r w' => ∃ s ao l cap ex, r = .returned (.tuple #[.agg #[.bool s, .slice ao l cap, .int .i64 ex], .int .i64 er]) ∧ PC w' (.agg #[.bool s, .slice ao l cap, .int .i64 ex]) ∧ Below W.heap.size W w') := k10
  have H11 : Hid (∀ W A C, PA W A → PC W C → Calls Tryz.prog 6 #[A, C] W fun r w' => r = .returned (.bool true) ∧ Below W.heap.size W w') := k11
  have H14 : Hid (∀ W, Below w.heap.size w W → Calls Tryz.prog 7 #[] W fun r w' => r = .returned (.bool true) ∧ Below W.heap.size W w') := k14
  clear hPA hPC k10 k11 k14
  go_enter Tryz.func3, Tryz.ntmps3
  go_wp2_with fail
  refine k9.mono ?_
  rintro r w1 ⟨s1, ao1, n1, cap1, ex1, rfl, hA, hb1⟩
  clear k9
  obtain ⟨W1, hW1⟩ : ∃ W1, W1 = w1.alloc (.cells #[.bool s1, .slice ao1 n1 cap1, .int .i64 ex1] 24) := ⟨_, rfl⟩
  have HX : Hid (PA W1 (.agg #[.bool s1, .slice ao1 n1 cap1, .int .i64 ex1]) ∧ Below w.heap.size w W1 ∧ W1.heap[w1.heap.size]? = some (.cells #[.bool s1, .slice ao1 n1 cap1, .int .i64 ex1] 24 (0, 0))) := ⟨by rw [hW1]; exact H.out.1 _ _ _ ((Below.refl _ _).alloc (Nat.le_refl _) _) hA, by rw [hW1]; exact hb1.alloc hb1.size _, by rw [hW1]; exact heap_alloc_new _ _⟩
  have k2 := H10.out W1
  clear hA hb1
  go_wp2_with fail
  rw [← hW1]
  clear hW1
  generalize w1.heap.size = g1 at *
  refine k2.mono ?_
  rintro r w2 ⟨s2, ao2, n2, cap2, ex2, rfl, hC, hb2⟩
  clear k2
  obtain ⟨W2, hW2⟩ : ∃ W2, W2 = w2.alloc (.cells #[.bool s2, .slice ao2 n2 cap2, .int .i64 ex2] 28) := ⟨_, rfl⟩
  have hbW : Below W1.heap.size W1 W2 := by rw [hW2]; exact hb2.alloc hb2.size _
  have HY : Hid (PC W2 (.agg #[.bool s2, .slice ao2 n2 cap2, .int .i64 ex2]) ∧ PA W2 (.agg #[.bool s1, .slice ao1 n1 cap1, .int .i64 ex1]) ∧ Below w.heap.size w W2) := ⟨by rw [hW2]; exact H.out.2 _ _ _ ((Below.refl _ _).alloc (Nat.le_refl _) _) hC, H.out.1 _ _ _ hbW HX.out.1, HX.out.2.1.trans (hbW.mono HX.out.2.1.size)⟩
  obtain ⟨⟨a0, a1, a2⟩, -⟩ := box_cells (box_later HX.out.2.2 hbW (lt_of_box HX.out.2.2))
  obtain ⟨⟨b0, b1, b2⟩, -⟩ := box_cells29 (by rw [hW2]; exact heap_alloc_new _ _ : W2.heap[w2.heap.size]? = some (.cells #[.bool s2, .slice ao2 n2 cap2, .int .i64 ex2] 28 (0, 0)))
  rw [hW2] at a0 a1 a2 b0 b1 b2
  have k3 := H11.out W2 _ _ HY.out.2.1 HY.out.1
  clear hC hb2 hbW
  go_wp2_with fail
  rw [← hW2]
  clear hW2 a0 a1 a2 b0 b1 b2
  refine k3.mono ?_
  rintro r w3 ⟨rfl, hb3⟩
  have HB3 : Hid (Below w.heap.size w w3) := HY.out.2.2.trans (hb3.mono HY.out.2.2.size)
  clear k3 hb3
  have k4 := H14.out w3 HB3.out
  go_wp2_with fail
  refine k4.mono ?_
  rintro r w4 ⟨rfl, hb4⟩
  have HB4 : Hid (Below w.heap.size w w4) := HB3.out.trans (hb4.mono HB3.out.size)
  clear k4 hb4
  go_wp2_with fail
  go_ret
  exact ⟨rfl, HB4.out⟩
theorem dyadReads_ok (s : ByteArray) (w : World) (hs : s.size ≤ 9223372036854775807) (hT : Tab32 w) (hI : Ie.Tab w) (h10 : Tab10 w) (hS : SenS w) (hR : SenR w) :
    Calls Tryz.prog 3 #[.string s] w fun r w' => r = .returned (.bool true) ∧ Below w.heap.size w w' := by
  have hnil : dlen ((none : Option (Bool × Nat × Int)).getD (false, 0, 0)).2.1 ≤ 35184372088832 := by show dlen 0 ≤ _; rw [dlen_zero]; omega
  refine lawRd s (if (pRd s).isSome then 0 else 3) w (fun W A => PN W A ((pRd s).getD (false, 0, 0))) (fun W A => ∃ b, RN W b A ((pRd s).getD (false, 0, 0))) (fun w w' v hb h => h.later hb) (fun w w' v hb ⟨b, h⟩ => ⟨b, h.later hb⟩) ?_ (fun W => ?_) (fun W A C h1 h2 => same_pr ?_ h1 h2) (fun W hW => works_ok W (hT.later hW) (Tab.later hI hW) (h10.later hW))
  · refine (pread_ok s w hs hI h10 hS hR).mono ?_
    rintro r w' ⟨h1, hb⟩
    cases ho : pRd s with
    | none =>
      rw [ho] at h1
      obtain rfl := h1
      exact ⟨_, _, _, _, _, rfl, pn_nil w', hb⟩
    | some t =>
      rw [ho] at h1
      obtain ⟨ao, cap, rfl, hO⟩ := h1
      exact ⟨_, _, _, _, _, rfl, ⟨ao, cap, rfl, hO.is⟩, hb⟩
  · refine (rread_ok s W hs).mono ?_
    rintro r w' ⟨o, h1, h2, h3⟩
    have e : o = pRd s := by
      cases ho : pRd s with
      | none =>
        cases o with
        | none => rfl
        | some t =>
          obtain ⟨g1, g2⟩ := h2 t rfl
          rw [pRd_of g1 g2] at ho
          cases ho
      | some t =>
        obtain ⟨g1, g2⟩ := pRd_some ho
        exact h1 t g1 g2
    subst e
    exact h3
  · cases ho : pRd s with
    | none => exact hnil
    | some t =>
      have := (pRd_some ho).1.facts
      show dlen t.2.1 ≤ _
      omega
end Go.Proofs.YtbmaoiemgepppaaGreatDoor
