/- Own work: contracts of the program's functions, part 10: RV3 RV4 RW2 RW3 RW4 RW5. -/
import Derived.Test.YtbpeijejanhihaaGreatDoorA9
import Derived.Test.YtbpeijejanhihaaGreatDoorA8

set_option maxHeartbeats 16000000
namespace Go.Proofs.YtbpeijejanhihaaGreatDoor
set_option linter.unusedVariables false
set_option linter.unusedSimpArgs false
open Go.RowKit
theorem cell_new1 (w : World) (u : Value) : (w.alloc (.cells #[u] 55)).cell? ⟨w.heap.size, 0 + 0, none⟩ = some u := by
  have h := heap_alloc_new w (.cells #[u] 55)
  unfold World.cell?
  simp only [h, Nat.add_zero]
  rfl
set_option maxRecDepth 200000 in
theorem rdiv_0 (ba oa na ca : Nat) (vb : Value) (x y : Nat) (w : World) (hna0 : 0 < na) (hna : na ≤ 100000000) (hx : dlen x = na) (hlt : x < y) (hca : ∀ i, i < na → w.cell? ⟨ba, oa + i, none⟩ = some (.int .u32 (dg x i : Nat)))
    (kO : Calls Tryz.prog 59 #[.slice (some ⟨ba, oa, none⟩) na ca, vb] w fun e w' => e = .returned (.int .i64 (cmpI x y)) ∧ ∃ d, w' = w.drewN d) :
    Calls Tryz.prog 85 #[.slice (some ⟨ba, oa, none⟩) na ca, vb] w fun e w' => ∃ q r, e = .returned (.tuple #[q, r]) ∧ Ir w' q 0 ∧ Ir w' r x ∧ Below w.heap.size w w' := by
  have hc : cmpI x y = -1 := by unfold cmpI; rw [if_pos (by omega)]
  rw [hc] at kO
  have HX : Hid (dlen x = na) := hx
  have HCA : Hid (∀ i, i < na → w.cell? ⟨ba, oa + i, none⟩ = some (.int .u32 (dg x i : Nat))) := hca
  clear hx hc hlt hca
  go_enter Tryz.func85, Tryz.ntmps85
  go_wp2_with fail
  refine kO.mono ?_
  rintro r w1 ⟨rfl, d, hd⟩
  have HB1 : Hid (Below w.heap.size w w1) := (hd ▸ ⟨rfl, rfl, rfl, Nat.le_refl _, fun _ _ => rfl⟩ : Below w.heap.size w w1)
  have HN : Hid (∀ j u, (cells x na)[j]? = some u → (w1.alloc (Obj.cells (madeCells #[Value.int IntKind.u32 0] 0) 55)).cell? ((⟨ba, oa, none⟩ : Addr).add j) = some u) := news_cells HCA.out (HB1.out.alloc HB1.out.size _)
  have hOM : (w1.alloc (Obj.cells (madeCells #[Value.int IntKind.u32 0] 0) 55)).ownsRow w1.heap.size 55 1 (.slice (some ⟨w1.heap.size, 0, none⟩) 0 0) 0 [] := World.ownsRow_made w1 _ 0 (Nat.le_refl _) (by unfold maxLen; omega) (by simp [madeCells])
  have hmk := run_make_row' (P := Tryz.prog) 32 55 (.int .u32 0) 4 Tryz.underlying32 Tryz.info55 rfl .i64 .i64 0 (by omega) (by omega) w1
  rw [show ((0 : Nat) : Int) = 0 from rfl] at hmk
  obtain ⟨i0, hi0, hz0, hz1, hz2⟩ := info_parts Tryz.info55
  clear kO hd
  go_wp2_with (at_builtin; refine wpList_append_own _ rfl _ _ 32 rfl w1.heap.size 55 i0 (.int .u32 0) 1 4 Tryz.underlying32 hi0 hz0 hz1 hz2 rfl (by decide) _ 0 [] rfl hOM ⟨ba, oa, none⟩ na ca (cells x na) rfl (by rw [cells_length, Nat.mul_one]) HN.out cells_one (by unfold maxLen; omega) (by omega) (by simp) ?_)
  intro v' w4 hown hgrow _
  obtain ⟨ao', cap', rfl, hc', hA⟩ := at_of_row hown
  have HR : Hid (At w4 ao' na x ∧ na ≤ cap' ∧ Below w.heap.size w w4) := ⟨hA, hc', HB1.out.trans ((Below.grown ((Below.refl w1.heap.size w1).alloc (Nat.le_refl _) _) hgrow (by simp) (fun k hk => by simp [Value.ownBlock] at hk; omega)).mono HB1.out.size)⟩
  have k40 := r40 ao' na cap' x w4 (by rw [HX.out]; exact Nat.le_refl _) hc' (by omega) hA
  clear hown hgrow hA HN hOM hmk hi0 hz0 hz1 hz2
  go_wp2_with fail
  refine k40.mono ?_
  rintro r w5 ⟨rfl, rfl⟩
  clear k40
  go_wp2
  refine bodyPost_ret (results_tmp2 rfl _ _ _) rfl ?_
  exact ⟨_, _, rfl, Ir.nil _ _ _, ⟨ao', cap', rfl, by rw [HX.out]; exact HR.out.2.1, by rw [HX.out]; exact HR.out.1⟩, HR.out.2.2⟩
set_option maxRecDepth 200000 in
theorem rdiv_1 (va : Value) (bb ob cb : Nat) (x y : Nat) (w : World) (hge : ¬ x < y) (hyB : y < B) (hcb : w.cell? ⟨bb, ob, none⟩ = some (.int .u32 (y : Nat)))
    (kO : Calls Tryz.prog 59 #[va, .slice (some ⟨bb, ob, none⟩) 1 cb] w fun e w' => e = .returned (.int .i64 (cmpI x y)) ∧ ∃ d, w' = w.drewN d)
    (kS : ∀ d, Calls Tryz.prog 112 #[va, .int .u32 (y : Nat)] (w.drewN d) fun e w' => ∃ v, e = .returned (.tuple #[v, .int .u32 (x % y : Nat)]) ∧ Own w' (w.drewN d).heap.size v (x / y) ∧ Below (w.drewN d).heap.size (w.drewN d) w') (hy0 : 0 < y) :
    Calls Tryz.prog 85 #[va, .slice (some ⟨bb, ob, none⟩) 1 cb] w fun e w' => ∃ q r, e = .returned (.tuple #[q, r]) ∧ Ir w' q (x / y) ∧ Ir w' r (x % y) ∧ Below w.heap.size w w' := by
  have hc : ¬ cmpI x y < 0 := by unfold cmpI; rw [if_neg (by omega)]; split <;> omega
  have HR : Hid (x % y < B) := (Nat.lt_trans (Nat.mod_lt _ hy0) hyB : x % y < B)
  generalize cmpI (x : Int) (y : Int) = c at *
  go_enter Tryz.func85, Tryz.ntmps85
  go_wp2_with fail
  refine kO.mono ?_
  rintro r w1 ⟨rfl, d, rfl⟩
  have k := kS d
  have hcb' : (w.drewN d).cell? ⟨bb, ob, none⟩ = some (.int .u32 (y : Nat)) := hcb
  have HBd : Hid (Below w.heap.size w (w.drewN d)) := (⟨rfl, rfl, rfl, Nat.le_refl _, fun _ _ => rfl⟩ : Below w.heap.size w (w.drewN d))
  generalize w.drewN d = w1 at *
  clear kO kS hcb
  go_wp2_with fail
  refine k.mono ?_
  rintro r w2 ⟨v, rfl, hO, hB2⟩
  have HB2 : Hid (Below w.heap.size w w2 ∧ Own w2 w1.heap.size v (x / y)) := ⟨HBd.out.trans (hB2.mono HBd.out.size), hO⟩
  obtain ⟨q, hq⟩ : ∃ q, q = x % y := ⟨_, rfl⟩
  rw [← hq] at HR ⊢
  have HQ : Hid (q = x % y) := hq
  obtain ⟨W, hW⟩ : ∃ W, W = w2.alloc (.cells #[.int .u32 (q : Nat)] 55) := ⟨_, rfl⟩
  have hBW : Below w2.heap.size w2 W := by rw [hW]; exact (Below.refl _ _).alloc (Nat.le_refl _) _
  have hA : At W (some ⟨w2.heap.size, 0, none⟩) 1 q := ⟨w2.heap.size, 0, fun _ => rfl, fun i hi => by
    obtain rfl : i = 0 := by omega
    rw [hW, dg_zero, Nat.mod_eq_of_lt HR.out]
    exact cell_new1 w2 _⟩
  have hL : dlen q ≤ 1 := (dlen_le 1 q).2 (by rw [Nat.pow_one]; exact HR.out)
  have k40 := r40 (some ⟨w2.heap.size, 0, none⟩) 1 1 q W hL (Nat.le_refl _) (by omega) hA
  have HE : Hid (At W (some ⟨w2.heap.size, 0, none⟩) (dlen q) q ∧ dlen q ≤ 1 ∧ Below w2.heap.size w2 W) := ⟨at_short hA hL, hL, hBW⟩
  clear k hO hB2 hA hL hBW hq
  go_wp2_with fail
  rw [← hW]
  clear hW
  refine k40.mono ?_
  rintro r w5 ⟨rfl, rfl⟩
  clear k40
  go_wp2
  refine bodyPost_ret (results_tmp2 rfl _ _ _) rfl ?_
  have hB := HB2.out.1.trans (HE.out.2.2.mono HB2.out.1.size)
  exact ⟨_, _, rfl, (HB2.out.2.is.ir).later HE.out.2.2, by rw [← HQ.out]; exact ⟨_, _, rfl, HE.out.2.1, HE.out.1⟩, hB⟩
theorem rdivide {u v : Value} {x y : Nat} {w : World} (hu : Ir w u x) (hv : Ir w v y) (hx0 : x ≠ 0) (hy0 : y ≠ 0) (hx : dlen x ≤ 100000000) (hy : dlen y ≤ 100000000) :
    Calls Tryz.prog 85 #[u, v] w fun e w' => ∃ q r, e = .returned (.tuple #[q, r]) ∧ Ir w' q (x / y) ∧ Ir w' r (x % y) ∧ Below w.heap.size w w' := by
  have kO := rord hu hv (by omega) (by omega)
  have hxp : 0 < dlen x := Nat.pos_of_ne_zero fun e => hx0 (dlen_eq_zero.1 e)
  have hyp : 0 < dlen y := Nat.pos_of_ne_zero fun e => hy0 (dlen_eq_zero.1 e)
  obtain ⟨ao, ca, rfl, a1, ba, oa, a3, a4⟩ := id hu
  obtain ⟨bo, cb, rfl, b1, bb, ob, b3, b4⟩ := id hv
  obtain rfl := a3 hxp
  obtain rfl := b3 hyp
  by_cases hlt : x < y
  · rw [Nat.div_eq_of_lt hlt, Nat.mod_eq_of_lt hlt]
    exact rdiv_0 ba oa (dlen x) ca _ x y w hxp hx rfl hlt a4 kO
  · by_cases h1 : dlen y = 1
    · have hyB : y < B := by have := lt_dlen y; rw [h1, Nat.pow_one] at this; exact this
      have c0 := b4 0 hyp
      rw [dg_zero, Nat.mod_eq_of_lt hyB, Nat.add_zero] at c0
      rw [h1] at kO ⊢
      exact rdiv_1 _ bb ob cb x y w hlt hyB c0 kO (fun d => rsingle (hu.later ⟨rfl, rfl, rfl, Nat.le_refl _, fun _ _ => rfl⟩) hx0 (by omega) (by omega) hyB) (by omega)
    · obtain ⟨M, hM⟩ : ∃ M, dlen y + M = dlen x := ⟨dlen x - dlen y, by have := dlen_mono (show y ≤ x by omega); omega⟩
      obtain ⟨p, hp⟩ : ∃ p, p = (bl y - 1) % 32 := ⟨_, rfl⟩
      obtain ⟨S, hS⟩ : ∃ S, S + p + 1 = 32 := ⟨31 - p, by omega⟩
      obtain ⟨f1, f2, f3, f4, f5⟩ := div_facts hy0 hx0 rfl rfl hM (by omega) hp hS
      obtain ⟨-, hb1, -, -, hS32⟩ := shift_of hy0 rfl hp hS
      have hbl := bl_le_dlen y
      have hc : ¬ cmpI x y < 0 := by unfold cmpI; rw [if_neg (by omega)]; split <;> omega
      have hpm : ((bl y : Int) - 1).tmod 32 = (p : Int) := by
        rw [Int.tmod_eq_emod_of_nonneg (by omega)]; omega
      have := rdiv_2 (some ⟨ba, oa, none⟩) (some ⟨bb, ob, none⟩) (dlen x) (dlen y) ca cb x y p S (bl y) (x * 2 ^ S) (y * 2 ^ S) M w hx hy (by omega) hM hS32 (by omega) hpm (by omega) hb1 f4 f5 f1 f2 f3
        (fun W hW => (rord (hu.later hW) (hv.later hW) (by omega) (by omega)).mono fun r w' ⟨e1, d, e2⟩ => ⟨e1, by rw [e2]; exact ⟨rfl, rfl, rfl, Nat.le_refl _, fun _ _ => rfl⟩⟩) hc
        (fun W hW => by
          obtain ⟨_, _, e, _, b', o', h5, h6⟩ := hv.later hW
          simp only [Value.slice.injEq] at e
          obtain ⟨e, -, -⟩ := e
          subst e
          have := h5 hyp
          simp only [Option.some.injEq, Addr.mk.injEq] at this
          obtain ⟨rfl, rfl, -⟩ := this
          exact r42 bb ob (dlen y) cb y W hyp (by omega) rfl h6)
        (fun W hW => rup (hv.later hW) S (by omega) (by omega)) (fun W hW => rup (hu.later hW) S (by omega) (by omega))
      rw [quo_shift, rem_shift] at this
      exact this
theorem cmp_eq {x y : Nat} : (cmpI (x : Int) (y : Int) == 0) = decide (x = y) := by
  unfold cmpI
  by_cases h : x = y
  · subst h; simp
  · rw [decide_eq_false h]
    by_cases h2 : (x : Int) < (y : Int)
    · rw [if_pos h2]; rfl
    · rw [if_neg h2, if_pos (by omega)]; rfl
end Go.Proofs.YtbpeijejanhihaaGreatDoor
namespace Go.Proofs.YtbpeijejanhihaaGreatDoor
set_option linter.unusedVariables false
set_option linter.unusedSimpArgs false
open Go.RowKit
set_option maxRecDepth 200000 in
theorem rlessN_1 (na nb : Bool) (ua va : Option Addr) (un uc vn vc : Nat) (ea eb : Int) (nc : Bool) (xa : Option Addr) (xn xc : Nat) (ec : Int) (s : Bool) (z : Nat) (e : Int) (w : World) (kM : ∀ W, Calls Tryz.prog 71 #[.agg #[.bool nb, .slice va vn vc, .int .i64 eb]] W fun r w' => r = .returned (.agg #[.bool nc, .slice xa xn xc, .int .i64 ec]) ∧ Below W.heap.size W w')
    (kA : ∀ W, Below w.heap.size w W → Calls Tryz.prog 23 #[.agg #[.bool na, .slice ua un uc, .int .i64 ea], .agg #[.bool nc, .slice xa xn xc, .int .i64 ec]] W fun r w' => ∃ a, r = .returned a ∧ NC w' W.heap.size a s z e ∧ Below W.heap.size W w') :
    Calls Tryz.prog 34 #[.agg #[.bool na, .slice ua un uc, .int .i64 ea], .agg #[.bool nb, .slice va vn vc, .int .i64 eb]] w fun r w' => ∃ a, r = .returned a ∧ NC w' w.heap.size a s z e ∧ Below w.heap.size w w' := by
  have HKM : Hid _ := kM
  have HKA : Hid _ := kA
  clear kM kA
  obtain ⟨W, hW⟩ : ∃ W, W = ((w.alloc (.cells #[.bool na, .slice ua un uc, .int .i64 ea] 34)).alloc (.cells #[.bool nb, .slice va vn vc, .int .i64 eb] 34)).alloc (.cells #[.bool false, .slice none 0 0, .int .i64 0] 34) := ⟨_, rfl⟩
  obtain ⟨hA, hBb, hC, hsz, hBW⟩ := boxes3 _ _ _ hW
  have HH : Hid ((W.heap[w.heap.size]? = some (.cells #[.bool na, .slice ua un uc, .int .i64 ea] 34 (0, 0)) ∧ W.heap[w.heap.size + 1]? = some (.cells #[.bool nb, .slice va vn vc, .int .i64 eb] 34 (0, 0)) ∧ W.heap[w.heap.size + 1 + 1]? = some (.cells #[.bool false, .slice none 0 0, .int .i64 0] 34 (0, 0))) ∧ W.heap.size = w.heap.size + 1 + 1 + 1 ∧ Below w.heap.size w W) := ⟨⟨hA, hBb, hC⟩, hsz, hBW⟩
  obtain ⟨⟨a0, a1, a2⟩, -⟩ := box_cells29 hA
  obtain ⟨⟨b0, b1, b2⟩, -⟩ := box_cells29 hBb
  clear hA hBb hC hsz hBW
  have kM : ∀ w4, Below W.heap.size W w4 → Calls Tryz.prog 71 #[.agg #[.bool nb, .slice va vn vc, .int .i64 eb]] w4 fun r w' => r = .returned (.agg #[.bool nc, .slice xa xn xc, .int .i64 ec]) ∧ Below W.heap.size W w' := fun w4 hb => (HKM.out w4).mono fun r w' ⟨e1, o2⟩ => ⟨e1, hb.trans (o2.mono hb.size)⟩
  have kA : ∀ w5, Below W.heap.size W w5 → Calls Tryz.prog 23 #[.agg #[.bool na, .slice ua un uc, .int .i64 ea], .agg #[.bool nc, .slice xa xn xc, .int .i64 ec]] w5 fun r w' => ∃ s' ao n cap ex, r = .returned (.agg #[.bool s', .slice ao n cap, .int .i64 ex]) ∧ Hid (NC w' W.heap.size (.agg #[.bool s', .slice ao n cap, .int .i64 ex]) s z e) ∧ Below W.heap.size W w' ∧ Hid (w'.heap[w.heap.size + 1 + 1]? = some (.cells #[.bool false, .slice none 0 0, .int .i64 0] 34 (0, 0))) ∧
      (w'.cell? ⟨w.heap.size + 1 + 1, 0, none⟩ = some (.bool false) ∧ w'.cell? ⟨w.heap.size + 1 + 1, 1, none⟩ = some (.slice none 0 0) ∧ w'.cell? ⟨w.heap.size + 1 + 1, 2, none⟩ = some (.int .i64 0)) ∧ (w'.frozen? ⟨w.heap.size + 1 + 1, 0, none⟩ = false ∧ w'.frozen? ⟨w.heap.size + 1 + 1, 1, none⟩ = false ∧ w'.frozen? ⟨w.heap.size + 1 + 1, 2, none⟩ = false) := by
    intro w5 hb
    refine (HKA.out w5 (HH.out.2.2.trans (hb.mono HH.out.2.2.size))).mono ?_
    rintro r w6 ⟨A, rfl, hN, hb6⟩
    obtain ⟨s', ao, n, cap, ex, rfl⟩ := hN.shape
    have hb16 : Below W.heap.size W w6 := hb.trans (hb6.mono hb.size)
    have hblk := box_later HH.out.1.2.2 hb16 (by have := HH.out.2.1; omega)
    obtain ⟨f1, f2⟩ := box_cells29 hblk
    exact ⟨s', ao, n, cap, ex, rfl, hN.mono hb.size, hb16, hblk, f1, f2⟩
  have HK : Hid (∀ w', Below W.heap.size W w' → ((w'.cell? ⟨w.heap.size, 0, none⟩ = some (.bool na) ∧ w'.cell? ⟨w.heap.size, 1, none⟩ = some (.slice ua un uc) ∧ w'.cell? ⟨w.heap.size, 2, none⟩ = some (.int .i64 ea)) ∧ (w'.cell? ⟨w.heap.size + 1, 0, none⟩ = some (.bool nb) ∧ w'.cell? ⟨w.heap.size + 1, 1, none⟩ = some (.slice va vn vc) ∧ w'.cell? ⟨w.heap.size + 1, 2, none⟩ = some (.int .i64 eb)))) := fun w' hb => ⟨(box_cells29 (box_later HH.out.1.1 hb (by have := HH.out.2.1; omega))).1, (box_cells29 (box_later HH.out.1.2.1 hb (by have := HH.out.2.1; omega))).1⟩
  have HK2 : Hid (∀ w', Below (w.heap.size + 1 + 1) W w' → ((w'.cell? ⟨w.heap.size, 0, none⟩ = some (.bool na) ∧ w'.cell? ⟨w.heap.size, 1, none⟩ = some (.slice ua un uc) ∧ w'.cell? ⟨w.heap.size, 2, none⟩ = some (.int .i64 ea)) ∧ (w'.cell? ⟨w.heap.size + 1, 0, none⟩ = some (.bool nb) ∧ w'.cell? ⟨w.heap.size + 1, 1, none⟩ = some (.slice va vn vc) ∧ w'.cell? ⟨w.heap.size + 1, 2, none⟩ = some (.int .i64 eb)))) := fun w' hb => ⟨(box_cells29 (box_later HH.out.1.1 hb (by omega))).1, (box_cells29 (box_later HH.out.1.2.1 hb (by omega))).1⟩
  have HS2 : Hid (w.heap.size + 1 + 1 ≤ W.heap.size) := (by have := HH.out.2.1; omega : w.heap.size + 1 + 1 ≤ W.heap.size)
  have hBR : Below W.heap.size W W.drew := (Below.refl _ _).drew
  go_enter Tryz.func34, Tryz.ntmps34
  go_upto_region 1 with fail
  rw [← hW]
  clear hW
  go_region_held3 (fun w' => ((w'.cell? ⟨w.heap.size, 0, none⟩ = some (.bool na) ∧ w'.cell? ⟨w.heap.size, 1, none⟩ = some (.slice ua un uc) ∧ w'.cell? ⟨w.heap.size, 2, none⟩ = some (.int .i64 ea)) ∧ (w'.cell? ⟨w.heap.size + 1, 0, none⟩ = some (.bool nb) ∧ w'.cell? ⟨w.heap.size + 1, 1, none⟩ = some (.slice va vn vc) ∧ w'.cell? ⟨w.heap.size + 1, 2, none⟩ = some (.int .i64 eb)))) (first | (with_reducible assumption) | exact ⟨⟨a0, a1, a2⟩, b0, b1, b2⟩ | (refine HK.out _ ?_; with_reducible assumption) | (refine HK2.out _ (below_store3 (Below.mono hb6 HS2.out) (Nat.le_refl _) _ _ _)) | go_keep)
    (first | (go_at_call 71; refine (kM _ (by first | (with_reducible assumption) | exact hBR)).mono ?_; rintro r w5 ⟨rfl, hb5⟩) | (go_at_call 23; refine (kA _ (by first | (with_reducible assumption) | exact hBR)).mono ?_; rintro r w6 ⟨s6, ao6, n6, cap6, ex6, rfl, hN6, hb6, hblk6, ⟨x1, x2, x3⟩, x4, x5, x6⟩))
  all_goals (have HF : Hid (Below W.heap.size W w6) := hb6; clear hb5 hb6 kM kA x1 x2 x3 x4 x5 x6 a0 a1 a2 b0 b1 b2 HK HK2 hBR; go_wp2; refine bodyPost_ret (results_cell_row rfl _ _ (w.heap.size + 1 + 1) 34 #[.bool s6, .slice ao6 n6 cap6, .int .i64 ex6] (0, 0) _ rfl (store3_29 _ _ _ hblk6.out) Tryz.underlying34 rfl Tryz.info34) rfl ?_; exact ⟨_, rfl, (hN6.out.store (by have := HH.out.2.1; omega) _ _ _).mono HH.out.2.2.size, below_store3 (HH.out.2.2.trans (HF.out.mono HH.out.2.2.size)) (by omega) _ _ _⟩)
theorem cn_odd {s : Bool} {x : Nat} {e : Int} (h : x % 2 = 1) : cn s x e = (s, x, e) := by
  unfold cn
  rw [if_neg (by omega), tz_odd h, Nat.pow_zero, Nat.div_one]
  simp
set_option maxRecDepth 200000 in
theorem rone (place : Int) (w : World) (hp1 : -4000000 ≤ place) (hp2 : place ≤ 4000000) :
    Calls Tryz.prog 53 #[.int .i64 place] w fun r w' => ∃ g, r = .returned (.agg #[.bool false, .slice (some ⟨g, 0, none⟩) 1 1, .int .i64 (-place)]) ∧ w.heap.size ≤ g ∧ At w' (some ⟨g, 0, none⟩) 1 1 ∧ Below w.heap.size w w' := by
  go_enter Tryz.func53, Tryz.ntmps53
  go_wp2
  obtain ⟨W, hW⟩ : ∃ W, W = (w.alloc (.cells #[.bool false, .slice (some ⟨w.heap.size + 1, 0, none⟩) 1 1, .int .i64 (-place)] 34)).alloc (.cells #[.int .u32 1] 55) := ⟨_, rfl⟩
  have hA : W.heap[w.heap.size]? = some (.cells #[.bool false, .slice (some ⟨w.heap.size + 1, 0, none⟩) 1 1, .int .i64 (-place)] 34 (0, 0)) := by
    rw [hW, Below.heap_alloc _ _ _ (by simp)]; exact heap_alloc_new _ _
  have hC : W.cell? ⟨w.heap.size + 1, 0, none⟩ = some (.int .u32 1) := by
    have h := cell_new1 (w.alloc (.cells #[.bool false, .slice (some ⟨w.heap.size + 1, 0, none⟩) 1 1, .int .i64 (-place)] 34)) (.int .u32 1)
    rw [← hW, Nat.add_zero] at h
    have hs : (w.alloc (.cells #[.bool false, .slice (some ⟨w.heap.size + 1, 0, none⟩) 1 1, .int .i64 (-place)] 34)).heap.size = w.heap.size + 1 := by simp
    rw [hs] at h
    exact h
  have hBW : Below w.heap.size w W := by rw [hW]; exact ((Below.refl _ _).alloc (Nat.le_refl _) _).alloc (by simp) _
  rw [← hW]
  refine bodyPost_ret (results_cell_row rfl _ _ w.heap.size 34 #[.bool false, .slice (some ⟨w.heap.size + 1, 0, none⟩) 1 1, .int .i64 (-place)] (0, 0) _ rfl hA Tryz.underlying34 rfl Tryz.info34) rfl ?_
  refine ⟨w.heap.size + 1, rfl, by omega, ⟨w.heap.size + 1, 0, fun _ => rfl, fun i hi => ?_⟩, hBW⟩
  obtain rfl : i = 0 := by omega
  rw [dg_zero, show 1 % B = 1 by rfl]
  exact hC
theorem rless_one {ao va : Option Addr} {cap vc q : Nat} {place : Int} {w : World} (ho : Arg w ao (dlen (cn true q (-place)).2.1) cap (cn true q (-place)).2.1) (h1 : At w va 1 1) (hvc : 1 ≤ vc) (hp1 : -1000000 ≤ place) (hp2 : place ≤ 1000000) (hq : dlen q ≤ 30000) :
    Calls Tryz.prog 34 #[.agg #[.bool (cn true q (-place)).1, .slice ao (dlen (cn true q (-place)).2.1) cap, .int .i64 (cn true q (-place)).2.2], .agg #[.bool false, .slice va 1 vc, .int .i64 (-place)]] w fun r w' => ∃ a, r = .returned a ∧ NC w' w.heap.size a true (q + 1) (-place) ∧ Below w.heap.size w w' := by
  have d1 : dlen 1 = 1 := by rw [dlen_pos (by omega), show 1 / B = 0 by rfl, dlen_zero]
  have hA1 : Arg w va (dlen 1) vc 1 := ⟨fun h => by rw [d1] at h; omega, by rw [d1]; exact h1, by rw [d1]; exact hvc, by rw [d1]; omega⟩
  refine rlessN_1 _ false ao va _ cap 1 vc _ (-place) true va 1 vc (-place) true (q + 1) (-place) w (fun W => rminus_1 false va 1 vc (-place) W (by omega) rfl) (fun W hW => ?_)
  have htz : tz q ≤ 32 * 30000 := by
    by_cases h0 : q = 0
    · rw [h0]; exact Nat.le_trans (Nat.le_of_eq (by rw [tz]; rfl)) (Nat.zero_le _)
    · have h2 := (tz_spec q q (Nat.le_refl _) h0).1
      have h3 : 2 ^ tz q ≤ q := by
        have h4 : 0 < q / 2 ^ tz q := by
          rcases Nat.eq_zero_or_pos (q / 2 ^ tz q) with h | h
          · rw [h, Nat.mul_zero] at h2; omega
          · exact h
        exact Nat.le_trans (Nat.le_mul_of_pos_right _ h4) (Nat.le_of_eq h2)
      have h5 := lt_bl q
      have h6 := bl_le_dlen q
      have h7 : tz q < bl q := (Nat.pow_lt_pow_iff_right (by omega)).1 (Nat.lt_of_le_of_lt h3 h5)
      omega
  have hcn : cn (cn true q (-place)).1 (cn true q (-place)).2.1 (cn true q (-place)).2.2 = (cn true q (-place)) := by
    by_cases h0 : q = 0
    · unfold cn; rw [if_pos h0, if_pos rfl]
    · have h2 := (tz_spec q q (Nat.le_refl _) h0).2
      have : cn true q (-place) = (true, q / 2 ^ tz q, -place + tz q) := by unfold cn; rw [if_neg h0]
      rw [this]
      exact cn_odd h2
  have he : -2000000 ≤ (cn true q (-place)).2.2 ∧ (cn true q (-place)).2.2 ≤ 2000000 := by
    by_cases h0 : q = 0
    · unfold cn; rw [if_pos h0]; exact ⟨by decide, by decide⟩
    · unfold cn; rw [if_neg h0]; exact ⟨by simp only; omega, by simp only; omega⟩
  have hl : dlen (cn true q (-place)).2.1 ≤ 300000 := by
    by_cases h0 : q = 0
    · unfold cn; rw [if_pos h0, dlen_zero]; omega
    · unfold cn; rw [if_neg h0]; exact Nat.le_trans (dlen_mono (Nat.div_le_self _ _)) (by omega)
  have := rplusG (na := (cn true q (-place)).1) (nb := true) (ea := (cn true q (-place)).2.2) (eb := -place) (ho.later hW) (hA1.later hW) hcn (cn_odd rfl) he.1 he.2 (by omega) (by omega) hl (by rw [d1]; omega)
  have hs : sumN (cn true q (-place)).1 (cn true q (-place)).2.1 (cn true q (-place)).2.2 true 1 (-place) = (true, q + 1, -place) := by
    by_cases h0 : q = 0
    · subst h0
      unfold cn; rw [if_pos rfl]; unfold sumN; rw [if_pos rfl]
    · have h2 := tz_spec q q (Nat.le_refl _) h0
      have e1 : cn true q (-place) = (true, q / 2 ^ tz q, -place + tz q) := by unfold cn; rw [if_neg h0]
      have h3 : q / 2 ^ tz q ≠ 0 := by omega
      rw [e1]
      unfold sumN
      simp only
      rw [if_neg h3, if_neg (by omega), if_pos trivial, show min (-place + (tz q : Int)) (-place) = -place by omega, show (-place + (tz q : Int) - -place).toNat = tz q by omega, show (-place - -place).toNat = 0 by omega, Nat.pow_zero, Nat.mul_one, Nat.mul_comm, h2.1]
  rw [hs, d1] at this
  exact this
end Go.Proofs.YtbpeijejanhihaaGreatDoor
namespace Go.Proofs.YtbpeijejanhihaaGreatDoor
set_option linter.unusedVariables false
set_option linter.unusedSimpArgs false
open Go.RowKit
theorem rless_nc {va : Option Addr} {vc q base : Nat} {place : Int} {w : World} {s6 : Bool} {ao6 : Option Addr} {n6 cap6 : Nat} {ex6 : Int} (h : NC w base (.agg #[.bool s6, .slice ao6 n6 cap6, .int .i64 ex6]) true q (-place)) (h1 : At w va 1 1) (hvc : 1 ≤ vc) (hp1 : -1000000 ≤ place) (hp2 : place ≤ 1000000) (hq : dlen q ≤ 30000) :
    Calls Tryz.prog 34 #[.agg #[.bool s6, .slice ao6 n6 cap6, .int .i64 ex6], .agg #[.bool false, .slice va 1 vc, .int .i64 (-place)]] w fun r w' => ∃ a, r = .returned a ∧ NC w' w.heap.size a true (q + 1) (-place) ∧ Below w.heap.size w w' := by
  obtain ⟨ao, cap, e, hA, -⟩ := h
  rw [e]
  exact rless_one hA h1 hvc hp1 hp2 hq
set_option maxRecDepth 200000 in
theorem rover_ae (na nb : Bool) (ua va : Option Addr) (uc vc x y k : Nat) (ea eb place : Int) (w : World) (sg : Bool) (hsg : (!(na == nb)) = sg) (h1 : At w ua (dlen x) x) (hu : dlen x ≤ uc) (h2 : At w va (dlen y) y) (hv : dlen y ≤ vc) (hx0 : x ≠ 0) (hy0 : y ≠ 0) (hx : dlen x ≤ 3000) (hy : dlen y ≤ 3000)
    (he1 : -200000 ≤ ea) (he2 : ea ≤ 200000) (he3 : -200000 ≤ eb) (he4 : eb ≤ 200000) (hp1 : -200000 ≤ place) (hp2 : place ≤ 200000) (hk : ea - eb + place = (k : Int)) (hk2 : k ≤ 600000) (hr : (x * 2 ^ k) % (y) = 0) :
    Calls Tryz.prog 54 #[.agg #[.bool na, .slice ua (dlen x) uc, .int .i64 ea], .agg #[.bool nb, .slice va (dlen y) vc, .int .i64 eb], .int .i64 place] w fun r w' => ∃ A, r = .returned (.tuple #[A, .bool true]) ∧ NC w' w.heap.size A sg ((x * 2 ^ k) / (y)) (-place) ∧ Below w.heap.size w w' := by
  obtain ⟨W, hW⟩ : ∃ W, W = ((w.alloc (.cells #[.bool na, .slice ua (dlen x) uc, .int .i64 ea] 34)).alloc (.cells #[.bool nb, .slice va (dlen y) vc, .int .i64 eb] 34)).alloc (.cells #[.bool false, .slice none 0 0, .int .i64 0] 34) := ⟨_, rfl⟩
  obtain ⟨hA, hBb, hC, hsz, hBW⟩ := boxes3 _ _ _ hW
  have HH : Hid ((W.heap[w.heap.size]? = some (.cells #[.bool na, .slice ua (dlen x) uc, .int .i64 ea] 34 (0, 0)) ∧ W.heap[w.heap.size + 1]? = some (.cells #[.bool nb, .slice va (dlen y) vc, .int .i64 eb] 34 (0, 0)) ∧ W.heap[w.heap.size + 1 + 1]? = some (.cells #[.bool false, .slice none 0 0, .int .i64 0] 34 (0, 0))) ∧ W.heap.size = w.heap.size + 1 + 1 + 1 ∧ Below w.heap.size w W) := ⟨⟨hA, hBb, hC⟩, hsz, hBW⟩
  obtain ⟨⟨a0, a1, a2⟩, -⟩ := box_cells29 hA
  obtain ⟨⟨b0, b1, b2⟩, -⟩ := box_cells29 hBb
  have HI : Hid (Ir w (.slice ua (dlen x) uc) x ∧ Ir w (.slice va (dlen y) vc) y) := ⟨⟨ua, uc, rfl, hu, h1⟩, ⟨va, vc, rfl, hv, h2⟩⟩
  have HN : Hid ((x ≠ 0 ∧ y ≠ 0 ∧ dlen x ≤ 3000 ∧ dlen y ≤ 3000 ∧ k ≤ 600000) ∧ (x * 2 ^ k) % (y) = 0) := ⟨⟨hx0, hy0, hx, hy, hk2⟩, hr⟩
  have hxz : ((dlen x : Int) == 0) = false := len_ne (n := 0) hx0
  clear hA hBb hC hsz hBW h1 h2 hr
  generalize hdx : dlen x = lx at *
  generalize hdy : dlen y = ly at *
  rw [hW] at a0 a1 a2 b0 b1 b2
  go_enter Tryz.func54, Tryz.ntmps54
  go_wp2
  go_quiet (fail)
  rw [← hW]
  have HBW1 : Hid (Below W.heap.size W (W.drewN nq)) := (⟨rfl, rfl, rfl, Nat.le_refl _, fun _ _ => rfl⟩ : Below W.heap.size W (W.drewN nq))
  obtain ⟨W1, hW1⟩ : ∃ W1, W1 = W.drewN nq := ⟨_, rfl⟩
  rw [← hW1] at HBW1 ⊢
  clear hW hW1 a0 a1 a2 b0 b1 b2
  have HIW : Hid (Ir W1 (.slice ua lx uc) x ∧ Ir W1 (.slice va ly vc) y) := ⟨HI.out.1.later (HH.out.2.2.trans (HBW1.out.mono HH.out.2.2.size)), HI.out.2.later (HH.out.2.2.trans (HBW1.out.mono HH.out.2.2.size))⟩
  have ku := rup HIW.out.1 k (by have := HN.out.1; omega) (by omega)
  go_wp2_with fail
  refine ku.mono ?_
  rintro r w4 ⟨vu, rfl, hIu, hb4⟩
  have HB4 : Hid (Below W.heap.size W w4) := HBW1.out.trans (hb4.mono HBW1.out.size)
  have hl : dlen (x * 2 ^ k) ≤ 25000 := by
    have := shl_len (x := x) (k := k) rfl
    have := HN.out.1
    omega
  have kd := rdivide hIu (HIW.out.2.later hb4) (Nat.mul_ne_zero HN.out.1.1 (by have := Nat.two_pow_pos k; omega)) HN.out.1.2.1 (by omega) (by have := HN.out.1; omega)
  have HO : Hid (Ir w4 vu (x * 2 ^ k)) := hIu
  clear ku hIu hb4
  go_wp2_with fail
  refine kd.mono ?_
  rintro r w5 ⟨vq, vr, rfl, hIq, hIr, hb5⟩
  have HB5 : Hid (Below W.heap.size W w5) := HB4.out.trans (hb5.mono HB4.out.size)
  obtain ⟨⟨a0, a1, a2⟩, -⟩ := box_cells29 (box_later HH.out.1.1 HB5.out (by have := HH.out.2.1; omega))
  obtain ⟨⟨b0, b1, b2⟩, -⟩ := box_cells29 (box_later HH.out.1.2.1 HB5.out (by have := HH.out.2.1; omega))
  obtain ⟨rr, rcap, rfl, hrc, hrA⟩ := hIr
  have hql : dlen ((x * 2 ^ k) / (y)) ≤ 30000 := Nat.le_trans (dlen_mono (Nat.div_le_self _ _)) (by omega)
  have kn := rnorm (neg := sg) (e := -place) hIq (by omega) (by omega)
  have HQL : Hid (dlen ((x * 2 ^ k) / (y)) ≤ 30000) := hql
  have hrl : ((dlen ((x * 2 ^ k) % (y)) : Int) == 0) = true := by rw [show (x * 2 ^ k) % (y) = 0 from HN.out.2, dlen_zero]; rfl
  clear kd hIq hb5 hrA hql hl
  generalize hdr : dlen ((x * 2 ^ k) % (y)) = lr at *
  go_wp2_with fail
  refine kn.mono ?_
  rintro r w6 ⟨A, rfl, hN6, hb6⟩
  obtain ⟨s6, ao6, n6, cap6, ex6, rfl⟩ := hN6.shape
  have HB6 : Hid (Below W.heap.size W w6) := HB5.out.trans (hb6.mono HB5.out.size)
  have HN6 : Hid (NC w6 w5.heap.size (.agg #[.bool s6, .slice ao6 n6 cap6, .int .i64 ex6]) sg ((x * 2 ^ k) / (y)) (-place)) := hN6
  obtain ⟨w7, hw7⟩ : ∃ w7, w7 = w6.alloc (.cells #[.bool s6, .slice ao6 n6 cap6, .int .i64 ex6] 34) := ⟨_, rfl⟩
  have hB67 : Below w6.heap.size w6 w7 := by rw [hw7]; exact (Below.refl _ _).alloc (Nat.le_refl _) _
  have HB7 : Hid (Below W.heap.size W w7) := HB6.out.trans (hB67.mono HB6.out.size)
  have hbox : w7.heap[w6.heap.size]? = some (.cells #[.bool s6, .slice ao6 n6 cap6, .int .i64 ex6] 34 (0, 0)) := by rw [hw7]; exact heap_alloc_new _ _
  have HBX : Hid (w7.heap[w6.heap.size]? = some (.cells #[.bool s6, .slice ao6 n6 cap6, .int .i64 ex6] 34 (0, 0)) ∧ Below w6.heap.size w6 w7) := ⟨hbox, hB67⟩
  have hres := box_later HH.out.1.2.2 HB7.out (by have := HH.out.2.1; omega)
  have HRES : Hid (w7.heap[w.heap.size + 1 + 1]? = some (.cells #[.bool false, .slice none 0 0, .int .i64 0] 34 (0, 0))) := hres
  obtain ⟨⟨c0, c1, c2⟩, c3, c4, c5⟩ := box_cells29 hres
  obtain ⟨⟨d0, d1, d2⟩, d3, d4, d5⟩ := box_cells29 hbox
  clear kn hN6 hb6 hbox hres hB67 a0 a1 a2 b0 b1 b2
  rw [hw7] at c0 c1 c2 c3 c4 c5 d0 d1 d2 d3 d4 d5
  go_wp2
  rw [← hw7]
  refine bodyPost_ret (results_cell_tmp_row rfl _ _ (w.heap.size + 1 + 1) 34 #[.bool s6, .slice ao6 n6 cap6, .int .i64 ex6] (0, 0) _ rfl (store3_29 _ _ _ HRES.out) Tryz.underlying34 rfl Tryz.info34) rfl ?_
  have q1 := HH.out.2.1
  have q2 := HB5.out.size
  exact ⟨_, rfl, ((HN6.out.later HBX.out.2).store (by omega) _ _ _).mono (by omega), below_store3 (HH.out.2.2.trans (HB7.out.mono HH.out.2.2.size)) (by omega) _ _ _⟩
set_option maxRecDepth 200000 in
theorem rover_arp (na nb : Bool) (ua va : Option Addr) (uc vc x y k : Nat) (ea eb place : Int) (w : World) (hsg : (!(na == nb)) = false) (h1 : At w ua (dlen x) x) (hu : dlen x ≤ uc) (h2 : At w va (dlen y) y) (hv : dlen y ≤ vc) (hx0 : x ≠ 0) (hy0 : y ≠ 0) (hx : dlen x ≤ 3000) (hy : dlen y ≤ 3000)
    (he1 : -200000 ≤ ea) (he2 : ea ≤ 200000) (he3 : -200000 ≤ eb) (he4 : eb ≤ 200000) (hp1 : -200000 ≤ place) (hp2 : place ≤ 200000) (hk : ea - eb + place = (k : Int)) (hk2 : k ≤ 600000) (hr : ¬ (x * 2 ^ k) % (y) = 0) :
    Calls Tryz.prog 54 #[.agg #[.bool na, .slice ua (dlen x) uc, .int .i64 ea], .agg #[.bool nb, .slice va (dlen y) vc, .int .i64 eb], .int .i64 place] w fun r w' => ∃ A, r = .returned (.tuple #[A, .bool false]) ∧ NC w' w.heap.size A false ((x * 2 ^ k) / (y)) (-place) ∧ Below w.heap.size w w' := by
  obtain ⟨W, hW⟩ : ∃ W, W = ((w.alloc (.cells #[.bool na, .slice ua (dlen x) uc, .int .i64 ea] 34)).alloc (.cells #[.bool nb, .slice va (dlen y) vc, .int .i64 eb] 34)).alloc (.cells #[.bool false, .slice none 0 0, .int .i64 0] 34) := ⟨_, rfl⟩
  obtain ⟨hA, hBb, hC, hsz, hBW⟩ := boxes3 _ _ _ hW
  have HH : Hid ((W.heap[w.heap.size]? = some (.cells #[.bool na, .slice ua (dlen x) uc, .int .i64 ea] 34 (0, 0)) ∧ W.heap[w.heap.size + 1]? = some (.cells #[.bool nb, .slice va (dlen y) vc, .int .i64 eb] 34 (0, 0)) ∧ W.heap[w.heap.size + 1 + 1]? = some (.cells #[.bool false, .slice none 0 0, .int .i64 0] 34 (0, 0))) ∧ W.heap.size = w.heap.size + 1 + 1 + 1 ∧ Below w.heap.size w W) := ⟨⟨hA, hBb, hC⟩, hsz, hBW⟩
  obtain ⟨⟨a0, a1, a2⟩, -⟩ := box_cells29 hA
  obtain ⟨⟨b0, b1, b2⟩, -⟩ := box_cells29 hBb
  have HI : Hid (Ir w (.slice ua (dlen x) uc) x ∧ Ir w (.slice va (dlen y) vc) y) := ⟨⟨ua, uc, rfl, hu, h1⟩, ⟨va, vc, rfl, hv, h2⟩⟩
  have HN : Hid ((x ≠ 0 ∧ y ≠ 0 ∧ dlen x ≤ 3000 ∧ dlen y ≤ 3000 ∧ k ≤ 600000) ∧ ¬ (x * 2 ^ k) % (y) = 0) := ⟨⟨hx0, hy0, hx, hy, hk2⟩, hr⟩
  have hxz : ((dlen x : Int) == 0) = false := len_ne (n := 0) hx0
  clear hA hBb hC hsz hBW h1 h2 hr
  generalize hdx : dlen x = lx at *
  generalize hdy : dlen y = ly at *
  rw [hW] at a0 a1 a2 b0 b1 b2
  go_enter Tryz.func54, Tryz.ntmps54
  go_wp2
  go_quiet (fail)
  rw [← hW]
  have HBW1 : Hid (Below W.heap.size W (W.drewN nq)) := (⟨rfl, rfl, rfl, Nat.le_refl _, fun _ _ => rfl⟩ : Below W.heap.size W (W.drewN nq))
  obtain ⟨W1, hW1⟩ : ∃ W1, W1 = W.drewN nq := ⟨_, rfl⟩
  rw [← hW1] at HBW1 ⊢
  clear hW hW1 a0 a1 a2 b0 b1 b2
  have HIW : Hid (Ir W1 (.slice ua lx uc) x ∧ Ir W1 (.slice va ly vc) y) := ⟨HI.out.1.later (HH.out.2.2.trans (HBW1.out.mono HH.out.2.2.size)), HI.out.2.later (HH.out.2.2.trans (HBW1.out.mono HH.out.2.2.size))⟩
  have ku := rup HIW.out.1 k (by have := HN.out.1; omega) (by omega)
  go_wp2_with fail
  refine ku.mono ?_
  rintro r w4 ⟨vu, rfl, hIu, hb4⟩
  have HB4 : Hid (Below W.heap.size W w4) := HBW1.out.trans (hb4.mono HBW1.out.size)
  have hl : dlen (x * 2 ^ k) ≤ 25000 := by
    have := shl_len (x := x) (k := k) rfl
    have := HN.out.1
    omega
  have kd := rdivide hIu (HIW.out.2.later hb4) (Nat.mul_ne_zero HN.out.1.1 (by have := Nat.two_pow_pos k; omega)) HN.out.1.2.1 (by omega) (by have := HN.out.1; omega)
  have HO : Hid (Ir w4 vu (x * 2 ^ k)) := hIu
  clear ku hIu hb4
  go_wp2_with fail
  refine kd.mono ?_
  rintro r w5 ⟨vq, vr, rfl, hIq, hIr, hb5⟩
  have HB5 : Hid (Below W.heap.size W w5) := HB4.out.trans (hb5.mono HB4.out.size)
  obtain ⟨⟨a0, a1, a2⟩, -⟩ := box_cells29 (box_later HH.out.1.1 HB5.out (by have := HH.out.2.1; omega))
  obtain ⟨⟨b0, b1, b2⟩, -⟩ := box_cells29 (box_later HH.out.1.2.1 HB5.out (by have := HH.out.2.1; omega))
  obtain ⟨rr, rcap, rfl, hrc, hrA⟩ := hIr
  have hql : dlen ((x * 2 ^ k) / (y)) ≤ 30000 := Nat.le_trans (dlen_mono (Nat.div_le_self _ _)) (by omega)
  have kn := rnorm (neg := false) (e := -place) hIq (by omega) (by omega)
  have HQL : Hid (dlen ((x * 2 ^ k) / (y)) ≤ 30000) := hql
  have hrl : ((dlen ((x * 2 ^ k) % (y)) : Int) == 0) = false := len_ne (n := 0) HN.out.2
  clear kd hIq hb5 hrA hql hl
  generalize hdr : dlen ((x * 2 ^ k) % (y)) = lr at *
  go_wp2_with fail
  refine kn.mono ?_
  rintro r w6 ⟨A, rfl, hN6, hb6⟩
  obtain ⟨s6, ao6, n6, cap6, ex6, rfl⟩ := hN6.shape
  have HB6 : Hid (Below W.heap.size W w6) := HB5.out.trans (hb6.mono HB5.out.size)
  have HN6 : Hid (NC w6 w5.heap.size (.agg #[.bool s6, .slice ao6 n6 cap6, .int .i64 ex6]) false ((x * 2 ^ k) / (y)) (-place)) := hN6
  obtain ⟨w7, hw7⟩ : ∃ w7, w7 = w6.alloc (.cells #[.bool s6, .slice ao6 n6 cap6, .int .i64 ex6] 34) := ⟨_, rfl⟩
  have hB67 : Below w6.heap.size w6 w7 := by rw [hw7]; exact (Below.refl _ _).alloc (Nat.le_refl _) _
  have HB7 : Hid (Below W.heap.size W w7) := HB6.out.trans (hB67.mono HB6.out.size)
  have hbox : w7.heap[w6.heap.size]? = some (.cells #[.bool s6, .slice ao6 n6 cap6, .int .i64 ex6] 34 (0, 0)) := by rw [hw7]; exact heap_alloc_new _ _
  have HBX : Hid (w7.heap[w6.heap.size]? = some (.cells #[.bool s6, .slice ao6 n6 cap6, .int .i64 ex6] 34 (0, 0)) ∧ Below w6.heap.size w6 w7) := ⟨hbox, hB67⟩
  have hres := box_later HH.out.1.2.2 HB7.out (by have := HH.out.2.1; omega)
  have HRES : Hid (w7.heap[w.heap.size + 1 + 1]? = some (.cells #[.bool false, .slice none 0 0, .int .i64 0] 34 (0, 0))) := hres
  obtain ⟨⟨c0, c1, c2⟩, c3, c4, c5⟩ := box_cells29 hres
  obtain ⟨⟨d0, d1, d2⟩, d3, d4, d5⟩ := box_cells29 hbox
  clear kn hN6 hb6 hbox hres hB67 a0 a1 a2 b0 b1 b2
  rw [hw7] at c0 c1 c2 c3 c4 c5 d0 d1 d2 d3 d4 d5
  go_wp2
  rw [← hw7]
  refine bodyPost_ret (results_cell_tmp_row rfl _ _ (w.heap.size + 1 + 1) 34 #[.bool s6, .slice ao6 n6 cap6, .int .i64 ex6] (0, 0) _ rfl (store3_29 _ _ _ HRES.out) Tryz.underlying34 rfl Tryz.info34) rfl ?_
  have q1 := HH.out.2.1
  have q2 := HB5.out.size
  exact ⟨_, rfl, ((HN6.out.later HBX.out.2).store (by omega) _ _ _).mono (by omega), below_store3 (HH.out.2.2.trans (HB7.out.mono HH.out.2.2.size)) (by omega) _ _ _⟩
set_option maxRecDepth 200000 in
theorem rover_arn (na nb : Bool) (ua va : Option Addr) (uc vc x y k : Nat) (ea eb place : Int) (w : World) (hsg : (!(na == nb)) = true) (h1 : At w ua (dlen x) x) (hu : dlen x ≤ uc) (h2 : At w va (dlen y) y) (hv : dlen y ≤ vc) (hx0 : x ≠ 0) (hy0 : y ≠ 0) (hx : dlen x ≤ 3000) (hy : dlen y ≤ 3000)
    (he1 : -200000 ≤ ea) (he2 : ea ≤ 200000) (he3 : -200000 ≤ eb) (he4 : eb ≤ 200000) (hp1 : -200000 ≤ place) (hp2 : place ≤ 200000) (hk : ea - eb + place = (k : Int)) (hk2 : k ≤ 600000) (hr : ¬ (x * 2 ^ k) % (y) = 0) :
    Calls Tryz.prog 54 #[.agg #[.bool na, .slice ua (dlen x) uc, .int .i64 ea], .agg #[.bool nb, .slice va (dlen y) vc, .int .i64 eb], .int .i64 place] w fun r w' => ∃ A, r = .returned (.tuple #[A, .bool false]) ∧ NC w' w.heap.size A true ((x * 2 ^ k) / (y) + 1) (-place) ∧ Below w.heap.size w w' := by
  obtain ⟨W, hW⟩ : ∃ W, W = ((w.alloc (.cells #[.bool na, .slice ua (dlen x) uc, .int .i64 ea] 34)).alloc (.cells #[.bool nb, .slice va (dlen y) vc, .int .i64 eb] 34)).alloc (.cells #[.bool false, .slice none 0 0, .int .i64 0] 34) := ⟨_, rfl⟩
  obtain ⟨hA, hBb, hC, hsz, hBW⟩ := boxes3 _ _ _ hW
  have HH : Hid ((W.heap[w.heap.size]? = some (.cells #[.bool na, .slice ua (dlen x) uc, .int .i64 ea] 34 (0, 0)) ∧ W.heap[w.heap.size + 1]? = some (.cells #[.bool nb, .slice va (dlen y) vc, .int .i64 eb] 34 (0, 0)) ∧ W.heap[w.heap.size + 1 + 1]? = some (.cells #[.bool false, .slice none 0 0, .int .i64 0] 34 (0, 0))) ∧ W.heap.size = w.heap.size + 1 + 1 + 1 ∧ Below w.heap.size w W) := ⟨⟨hA, hBb, hC⟩, hsz, hBW⟩
  obtain ⟨⟨a0, a1, a2⟩, -⟩ := box_cells29 hA
  obtain ⟨⟨b0, b1, b2⟩, -⟩ := box_cells29 hBb
  have HI : Hid (Ir w (.slice ua (dlen x) uc) x ∧ Ir w (.slice va (dlen y) vc) y) := ⟨⟨ua, uc, rfl, hu, h1⟩, ⟨va, vc, rfl, hv, h2⟩⟩
  have HN : Hid ((x ≠ 0 ∧ y ≠ 0 ∧ dlen x ≤ 3000 ∧ dlen y ≤ 3000 ∧ k ≤ 600000) ∧ ¬ (x * 2 ^ k) % (y) = 0) := ⟨⟨hx0, hy0, hx, hy, hk2⟩, hr⟩
  have hxz : ((dlen x : Int) == 0) = false := len_ne (n := 0) hx0
  clear hA hBb hC hsz hBW h1 h2 hr
  generalize hdx : dlen x = lx at *
  generalize hdy : dlen y = ly at *
  rw [hW] at a0 a1 a2 b0 b1 b2
  go_enter Tryz.func54, Tryz.ntmps54
  go_wp2
  go_quiet (fail)
  rw [← hW]
  have HBW1 : Hid (Below W.heap.size W (W.drewN nq)) := (⟨rfl, rfl, rfl, Nat.le_refl _, fun _ _ => rfl⟩ : Below W.heap.size W (W.drewN nq))
  obtain ⟨W1, hW1⟩ : ∃ W1, W1 = W.drewN nq := ⟨_, rfl⟩
  rw [← hW1] at HBW1 ⊢
  clear hW hW1 a0 a1 a2 b0 b1 b2
  have HIW : Hid (Ir W1 (.slice ua lx uc) x ∧ Ir W1 (.slice va ly vc) y) := ⟨HI.out.1.later (HH.out.2.2.trans (HBW1.out.mono HH.out.2.2.size)), HI.out.2.later (HH.out.2.2.trans (HBW1.out.mono HH.out.2.2.size))⟩
  have ku := rup HIW.out.1 k (by have := HN.out.1; omega) (by omega)
  go_wp2_with fail
  refine ku.mono ?_
  rintro r w4 ⟨vu, rfl, hIu, hb4⟩
  have HB4 : Hid (Below W.heap.size W w4) := HBW1.out.trans (hb4.mono HBW1.out.size)
  have hl : dlen (x * 2 ^ k) ≤ 25000 := by
    have := shl_len (x := x) (k := k) rfl
    have := HN.out.1
    omega
  have kd := rdivide hIu (HIW.out.2.later hb4) (Nat.mul_ne_zero HN.out.1.1 (by have := Nat.two_pow_pos k; omega)) HN.out.1.2.1 (by omega) (by have := HN.out.1; omega)
  have HO : Hid (Ir w4 vu (x * 2 ^ k)) := hIu
  clear ku hIu hb4
  go_wp2_with fail
  refine kd.mono ?_
  rintro r w5 ⟨vq, vr, rfl, hIq, hIr, hb5⟩
  have HB5 : Hid (Below W.heap.size W w5) := HB4.out.trans (hb5.mono HB4.out.size)
  obtain ⟨⟨a0, a1, a2⟩, -⟩ := box_cells29 (box_later HH.out.1.1 HB5.out (by have := HH.out.2.1; omega))
  obtain ⟨⟨b0, b1, b2⟩, -⟩ := box_cells29 (box_later HH.out.1.2.1 HB5.out (by have := HH.out.2.1; omega))
  obtain ⟨rr, rcap, rfl, hrc, hrA⟩ := hIr
  have hql : dlen ((x * 2 ^ k) / (y)) ≤ 30000 := Nat.le_trans (dlen_mono (Nat.div_le_self _ _)) (by omega)
  have kn := rnorm (neg := true) (e := -place) hIq (by omega) (by omega)
  have HQL : Hid (dlen ((x * 2 ^ k) / (y)) ≤ 30000) := hql
  have hrl : ((dlen ((x * 2 ^ k) % (y)) : Int) == 0) = false := len_ne (n := 0) HN.out.2
  clear kd hIq hb5 hrA hql hl
  generalize hdr : dlen ((x * 2 ^ k) % (y)) = lr at *
  go_wp2_with fail
  refine kn.mono ?_
  rintro r w6 ⟨A, rfl, hN6, hb6⟩
  obtain ⟨s6, ao6, n6, cap6, ex6, rfl⟩ := hN6.shape
  have HB6 : Hid (Below W.heap.size W w6) := HB5.out.trans (hb6.mono HB5.out.size)
  have HN6 : Hid (NC w6 w5.heap.size (.agg #[.bool s6, .slice ao6 n6 cap6, .int .i64 ex6]) true ((x * 2 ^ k) / (y)) (-place)) := hN6
  obtain ⟨w7, hw7⟩ : ∃ w7, w7 = w6.alloc (.cells #[.bool s6, .slice ao6 n6 cap6, .int .i64 ex6] 34) := ⟨_, rfl⟩
  have hB67 : Below w6.heap.size w6 w7 := by rw [hw7]; exact (Below.refl _ _).alloc (Nat.le_refl _) _
  have HB7 : Hid (Below W.heap.size W w7) := HB6.out.trans (hB67.mono HB6.out.size)
  have hbox : w7.heap[w6.heap.size]? = some (.cells #[.bool s6, .slice ao6 n6 cap6, .int .i64 ex6] 34 (0, 0)) := by rw [hw7]; exact heap_alloc_new _ _
  have HBX : Hid (w7.heap[w6.heap.size]? = some (.cells #[.bool s6, .slice ao6 n6 cap6, .int .i64 ex6] 34 (0, 0)) ∧ Below w6.heap.size w6 w7) := ⟨hbox, hB67⟩
  have hres := box_later HH.out.1.2.2 HB7.out (by have := HH.out.2.1; omega)
  have HRES : Hid (w7.heap[w.heap.size + 1 + 1]? = some (.cells #[.bool false, .slice none 0 0, .int .i64 0] 34 (0, 0))) := hres
  obtain ⟨⟨c0, c1, c2⟩, c3, c4, c5⟩ := box_cells29 hres
  obtain ⟨⟨d0, d1, d2⟩, d3, d4, d5⟩ := box_cells29 hbox
  clear kn hN6 hb6 hbox hres hB67 a0 a1 a2 b0 b1 b2
  rw [hw7] at c0 c1 c2 c3 c4 c5 d0 d1 d2 d3 d4 d5
  have HK : Hid (∀ w', Below w7.heap.size w7 w' → (w'.cell? ⟨w6.heap.size, 0, none⟩ = some (.bool s6) ∧ w'.cell? ⟨w6.heap.size, 1, none⟩ = some (.slice ao6 n6 cap6) ∧ w'.cell? ⟨w6.heap.size, 2, none⟩ = some (.int .i64 ex6))) := fun w' hb => (box_cells29 (box_later HBX.out.1 hb (by have := HBX.out.1; exact (Array.getElem?_eq_some_iff.1 this).1))).1
  have kO : ∀ w8, Below w7.heap.size w7 w8 → Calls Tryz.prog 53 #[.int .i64 place] w8 fun r w' => ∃ g, r = .returned (.agg #[.bool false, .slice (some ⟨g, 0, none⟩) 1 1, .int .i64 (-place)]) ∧ Hid (At w' (some ⟨g, 0, none⟩) 1 1) ∧ Below w7.heap.size w7 w' ∧ (w'.cell? ⟨w6.heap.size, 0, none⟩ = some (.bool s6) ∧ w'.cell? ⟨w6.heap.size, 1, none⟩ = some (.slice ao6 n6 cap6) ∧ w'.cell? ⟨w6.heap.size, 2, none⟩ = some (.int .i64 ex6)) := fun w8 hb => (rone place w8 (by omega) (by omega)).mono fun r w' ⟨g, e1, e2, e3, e4⟩ => ⟨g, e1, e3, hb.trans (e4.mono hb.size), HK.out w' (hb.trans (e4.mono hb.size))⟩
  have kL : ∀ g w9, Hid (At w9 (some ⟨g, 0, none⟩) 1 1) → Below w7.heap.size w7 w9 → Calls Tryz.prog 34 #[.agg #[.bool s6, .slice ao6 n6 cap6, .int .i64 ex6], .agg #[.bool false, .slice (some ⟨g, 0, none⟩) 1 1, .int .i64 (-place)]] w9 fun r w' => ∃ s ao n cap ex, r = .returned (.agg #[.bool s, .slice ao n cap, .int .i64 ex]) ∧ Hid (NC w' w7.heap.size (.agg #[.bool s, .slice ao n cap, .int .i64 ex]) true ((x * 2 ^ k) / (y) + 1) (-place)) ∧ Below w7.heap.size w7 w' ∧ Hid (w'.heap[w6.heap.size]? = some (.cells #[.bool s6, .slice ao6 n6 cap6, .int .i64 ex6] 34 (0, 0))) ∧ (w'.cell? ⟨w6.heap.size, 0, none⟩ = some (.bool s6) ∧ w'.cell? ⟨w6.heap.size, 1, none⟩ = some (.slice ao6 n6 cap6) ∧ w'.cell? ⟨w6.heap.size, 2, none⟩ = some (.int .i64 ex6)) ∧ (w'.frozen? ⟨w6.heap.size, 0, none⟩ = false ∧ w'.frozen? ⟨w6.heap.size, 1, none⟩ = false ∧ w'.frozen? ⟨w6.heap.size, 2, none⟩ = false) := by
    intro g w9 hA hb
    refine (rless_nc ((HN6.out.later HBX.out.2).later hb) hA.out (Nat.le_refl _) (by omega) (by omega) HQL.out).mono ?_
    rintro r w10 ⟨A, rfl, hN, hb10⟩
    obtain ⟨s, ao, n, cap, ex, rfl⟩ := hN.shape
    have hbb := hb.trans (hb10.mono hb.size)
    have hblk := box_later HBX.out.1 hbb (by have := HBX.out.1; exact (Array.getElem?_eq_some_iff.1 this).1)
    obtain ⟨f1, f2⟩ := box_cells29 hblk
    exact ⟨s, ao, n, cap, ex, rfl, hN.mono hb.size, hbb, hblk, f1, f2⟩
  have hBR : Below w7.heap.size w7 w7.drew := (Below.refl _ _).drew
  have e0 : w7.cell? ⟨w6.heap.size, 0, none⟩ = some (.bool s6) ∧ w7.cell? ⟨w6.heap.size, 1, none⟩ = some (.slice ao6 n6 cap6) ∧ w7.cell? ⟨w6.heap.size, 2, none⟩ = some (.int .i64 ex6) := HK.out w7 (Below.refl _ _)
  go_upto_region 14 with fail
  rw [← hw7]
  clear hw7 c0 c1 c2 c3 c4 c5 d0 d1 d2 d3 d4 d5
  obtain ⟨d0, d1, d2⟩ := e0
  go_cut [64] from 61 to 64 (fun v wx => ∃ s ao n cap ex, v = .agg #[.bool s, .slice ao n cap, .int .i64 ex] ∧ Hid (NC wx w7.heap.size (.agg #[.bool s, .slice ao n cap, .int .i64 ex]) true ((x * 2 ^ k) / (y) + 1) (-place)) ∧ Hid (wx.heap[w6.heap.size]? = some (.cells #[.bool s, .slice ao n cap, .int .i64 ex] 34 (0, 0))) ∧ Hid (Below w6.heap.size w7 wx))
  case first =>
    go_region_with (first | (go_at_call 53; refine (kO _ (by first | (with_reducible assumption) | exact hBR | exact Below.refl _ _)).mono ?_; rintro r w8 ⟨g8, rfl, hA8, hb8, ⟨y1, y2, y3⟩⟩) | (go_at_call 34; refine (kL _ _ hA8 (by with_reducible assumption)).mono ?_; rintro r w9 ⟨s9, ao9, n9, cap9, ex9, rfl, hN9, hb9, hblk9, ⟨x1, x2, x3⟩, x4, x5, x6⟩))
    all_goals go_wp2_with fail
    all_goals go_meet
    all_goals exact ⟨s9, ao9, n9, cap9, ex9, rfl, hN9.out.store (Array.getElem?_eq_some_iff.1 HBX.out.1).1 _ _ _, store3_29 _ _ _ hblk9.out, below_store3 (hb9.mono HBX.out.2.size) (Nat.le_refl _) _ _ _⟩
  case rest =>
    obtain ⟨s9, ao9, n9, cap9, ex9, rfl, hN9, hB9, hL9⟩ := hcut
    obtain ⟨wx, rfl⟩ : ∃ wx : World, wx = wc := ⟨_, rfl⟩
    have q1 := HH.out.2.1
    have q2 := HB6.out.size
    have q3 := HB7.out.size
    have HBx : Hid (Below W.heap.size W wx) := HB7.out.trans (hL9.out.mono HB6.out.size)
    have hres := box_later HH.out.1.2.2 HBx.out (by omega)
    have HRES2 : Hid (wx.heap[w.heap.size + 1 + 1]? = some (.cells #[.bool false, .slice none 0 0, .int .i64 0] 34 (0, 0))) := hres
    obtain ⟨⟨c0, c1, c2⟩, c3, c4, c5⟩ := box_cells29 hres
    clear d0 d1 d2
    obtain ⟨⟨d0, d1, d2⟩, d3, d4, d5⟩ := box_cells29 hB9.out
    clear kO kL hBR hres
    go_wp2
    refine bodyPost_ret (results_cell_tmp_row rfl _ _ (w.heap.size + 1 + 1) 34 #[.bool s9, .slice ao9 n9 cap9, .int .i64 ex9] (0, 0) _ rfl (store3_29 _ _ _ HRES2.out) Tryz.underlying34 rfl Tryz.info34) rfl ?_
    exact ⟨_, rfl, (hN9.out.store (by omega) _ _ _).mono (by omega), below_store3 (HH.out.2.2.trans (HBx.out.mono HH.out.2.2.size)) (by omega) _ _ _⟩
set_option maxRecDepth 200000 in
theorem rover_be (na nb : Bool) (ua va : Option Addr) (uc vc x y k : Nat) (ea eb place : Int) (w : World) (sg : Bool) (hsg : (!(na == nb)) = sg) (h1 : At w ua (dlen x) x) (hu : dlen x ≤ uc) (h2 : At w va (dlen y) y) (hv : dlen y ≤ vc) (hx0 : x ≠ 0) (hy0 : y ≠ 0) (hx : dlen x ≤ 3000) (hy : dlen y ≤ 3000)
    (he1 : -200000 ≤ ea) (he2 : ea ≤ 200000) (he3 : -200000 ≤ eb) (he4 : eb ≤ 200000) (hp1 : -200000 ≤ place) (hp2 : place ≤ 200000) (hk : ea - eb + place = -(k : Int)) (hk1 : 0 < k) (hk2 : k ≤ 600000) (hr : (x) % (y * 2 ^ k) = 0) :
    Calls Tryz.prog 54 #[.agg #[.bool na, .slice ua (dlen x) uc, .int .i64 ea], .agg #[.bool nb, .slice va (dlen y) vc, .int .i64 eb], .int .i64 place] w fun r w' => ∃ A, r = .returned (.tuple #[A, .bool true]) ∧ NC w' w.heap.size A sg ((x) / (y * 2 ^ k)) (-place) ∧ Below w.heap.size w w' := by
  obtain ⟨W, hW⟩ : ∃ W, W = ((w.alloc (.cells #[.bool na, .slice ua (dlen x) uc, .int .i64 ea] 34)).alloc (.cells #[.bool nb, .slice va (dlen y) vc, .int .i64 eb] 34)).alloc (.cells #[.bool false, .slice none 0 0, .int .i64 0] 34) := ⟨_, rfl⟩
  obtain ⟨hA, hBb, hC, hsz, hBW⟩ := boxes3 _ _ _ hW
  have HH : Hid ((W.heap[w.heap.size]? = some (.cells #[.bool na, .slice ua (dlen x) uc, .int .i64 ea] 34 (0, 0)) ∧ W.heap[w.heap.size + 1]? = some (.cells #[.bool nb, .slice va (dlen y) vc, .int .i64 eb] 34 (0, 0)) ∧ W.heap[w.heap.size + 1 + 1]? = some (.cells #[.bool false, .slice none 0 0, .int .i64 0] 34 (0, 0))) ∧ W.heap.size = w.heap.size + 1 + 1 + 1 ∧ Below w.heap.size w W) := ⟨⟨hA, hBb, hC⟩, hsz, hBW⟩
  obtain ⟨⟨a0, a1, a2⟩, -⟩ := box_cells29 hA
  obtain ⟨⟨b0, b1, b2⟩, -⟩ := box_cells29 hBb
  have HI : Hid (Ir w (.slice ua (dlen x) uc) x ∧ Ir w (.slice va (dlen y) vc) y) := ⟨⟨ua, uc, rfl, hu, h1⟩, ⟨va, vc, rfl, hv, h2⟩⟩
  have HN : Hid ((x ≠ 0 ∧ y ≠ 0 ∧ dlen x ≤ 3000 ∧ dlen y ≤ 3000 ∧ k ≤ 600000) ∧ (x) % (y * 2 ^ k) = 0) := ⟨⟨hx0, hy0, hx, hy, hk2⟩, hr⟩
  have hxz : ((dlen x : Int) == 0) = false := len_ne (n := 0) hx0
  clear hA hBb hC hsz hBW h1 h2 hr
  generalize hdx : dlen x = lx at *
  generalize hdy : dlen y = ly at *
  rw [hW] at a0 a1 a2 b0 b1 b2
  go_enter Tryz.func54, Tryz.ntmps54
  go_wp2
  go_quiet (fail)
  rw [← hW]
  have HBW1 : Hid (Below W.heap.size W (W.drewN nq)) := (⟨rfl, rfl, rfl, Nat.le_refl _, fun _ _ => rfl⟩ : Below W.heap.size W (W.drewN nq))
  obtain ⟨W1, hW1⟩ : ∃ W1, W1 = W.drewN nq := ⟨_, rfl⟩
  rw [← hW1] at HBW1 ⊢
  clear hW hW1 a0 a1 a2 b0 b1 b2
  have HIW : Hid (Ir W1 (.slice ua lx uc) x ∧ Ir W1 (.slice va ly vc) y) := ⟨HI.out.1.later (HH.out.2.2.trans (HBW1.out.mono HH.out.2.2.size)), HI.out.2.later (HH.out.2.2.trans (HBW1.out.mono HH.out.2.2.size))⟩
  have ku := rup HIW.out.2 k (by have := HN.out.1; omega) (by omega)
  go_wp2_with fail
  refine ku.mono ?_
  rintro r w4 ⟨vu, rfl, hIu, hb4⟩
  have HB4 : Hid (Below W.heap.size W w4) := HBW1.out.trans (hb4.mono HBW1.out.size)
  have hl : dlen (y * 2 ^ k) ≤ 25000 := by
    have := shl_len (x := y) (k := k) rfl
    have := HN.out.1
    omega
  have kd := rdivide (HIW.out.1.later hb4) hIu HN.out.1.1 (Nat.mul_ne_zero HN.out.1.2.1 (by have := Nat.two_pow_pos k; omega)) (by have := HN.out.1; omega) (by omega)
  have HO : Hid (Ir w4 vu (y * 2 ^ k)) := hIu
  clear ku hIu hb4
  go_wp2_with fail
  refine kd.mono ?_
  rintro r w5 ⟨vq, vr, rfl, hIq, hIr, hb5⟩
  have HB5 : Hid (Below W.heap.size W w5) := HB4.out.trans (hb5.mono HB4.out.size)
  obtain ⟨⟨a0, a1, a2⟩, -⟩ := box_cells29 (box_later HH.out.1.1 HB5.out (by have := HH.out.2.1; omega))
  obtain ⟨⟨b0, b1, b2⟩, -⟩ := box_cells29 (box_later HH.out.1.2.1 HB5.out (by have := HH.out.2.1; omega))
  obtain ⟨rr, rcap, rfl, hrc, hrA⟩ := hIr
  have hql : dlen ((x) / (y * 2 ^ k)) ≤ 30000 := Nat.le_trans (dlen_mono (Nat.div_le_self _ _)) (by have := HN.out.1; omega)
  have kn := rnorm (neg := sg) (e := -place) hIq (by omega) (by omega)
  have HQL : Hid (dlen ((x) / (y * 2 ^ k)) ≤ 30000) := hql
  have hrl : ((dlen ((x) % (y * 2 ^ k)) : Int) == 0) = true := by rw [show (x) % (y * 2 ^ k) = 0 from HN.out.2, dlen_zero]; rfl
  clear kd hIq hb5 hrA hql hl
  generalize hdr : dlen ((x) % (y * 2 ^ k)) = lr at *
  go_wp2_with fail
  refine kn.mono ?_
  rintro r w6 ⟨A, rfl, hN6, hb6⟩
  obtain ⟨s6, ao6, n6, cap6, ex6, rfl⟩ := hN6.shape
  have HB6 : Hid (Below W.heap.size W w6) := HB5.out.trans (hb6.mono HB5.out.size)
  have HN6 : Hid (NC w6 w5.heap.size (.agg #[.bool s6, .slice ao6 n6 cap6, .int .i64 ex6]) sg ((x) / (y * 2 ^ k)) (-place)) := hN6
  obtain ⟨w7, hw7⟩ : ∃ w7, w7 = w6.alloc (.cells #[.bool s6, .slice ao6 n6 cap6, .int .i64 ex6] 34) := ⟨_, rfl⟩
  have hB67 : Below w6.heap.size w6 w7 := by rw [hw7]; exact (Below.refl _ _).alloc (Nat.le_refl _) _
  have HB7 : Hid (Below W.heap.size W w7) := HB6.out.trans (hB67.mono HB6.out.size)
  have hbox : w7.heap[w6.heap.size]? = some (.cells #[.bool s6, .slice ao6 n6 cap6, .int .i64 ex6] 34 (0, 0)) := by rw [hw7]; exact heap_alloc_new _ _
  have HBX : Hid (w7.heap[w6.heap.size]? = some (.cells #[.bool s6, .slice ao6 n6 cap6, .int .i64 ex6] 34 (0, 0)) ∧ Below w6.heap.size w6 w7) := ⟨hbox, hB67⟩
  have hres := box_later HH.out.1.2.2 HB7.out (by have := HH.out.2.1; omega)
  have HRES : Hid (w7.heap[w.heap.size + 1 + 1]? = some (.cells #[.bool false, .slice none 0 0, .int .i64 0] 34 (0, 0))) := hres
  obtain ⟨⟨c0, c1, c2⟩, c3, c4, c5⟩ := box_cells29 hres
  obtain ⟨⟨d0, d1, d2⟩, d3, d4, d5⟩ := box_cells29 hbox
  clear kn hN6 hb6 hbox hres hB67 a0 a1 a2 b0 b1 b2
  rw [hw7] at c0 c1 c2 c3 c4 c5 d0 d1 d2 d3 d4 d5
  go_wp2
  rw [← hw7]
  refine bodyPost_ret (results_cell_tmp_row rfl _ _ (w.heap.size + 1 + 1) 34 #[.bool s6, .slice ao6 n6 cap6, .int .i64 ex6] (0, 0) _ rfl (store3_29 _ _ _ HRES.out) Tryz.underlying34 rfl Tryz.info34) rfl ?_
  have q1 := HH.out.2.1
  have q2 := HB5.out.size
  exact ⟨_, rfl, ((HN6.out.later HBX.out.2).store (by omega) _ _ _).mono (by omega), below_store3 (HH.out.2.2.trans (HB7.out.mono HH.out.2.2.size)) (by omega) _ _ _⟩
set_option maxRecDepth 200000 in
theorem rover_brp (na nb : Bool) (ua va : Option Addr) (uc vc x y k : Nat) (ea eb place : Int) (w : World) (hsg : (!(na == nb)) = false) (h1 : At w ua (dlen x) x) (hu : dlen x ≤ uc) (h2 : At w va (dlen y) y) (hv : dlen y ≤ vc) (hx0 : x ≠ 0) (hy0 : y ≠ 0) (hx : dlen x ≤ 3000) (hy : dlen y ≤ 3000)
    (he1 : -200000 ≤ ea) (he2 : ea ≤ 200000) (he3 : -200000 ≤ eb) (he4 : eb ≤ 200000) (hp1 : -200000 ≤ place) (hp2 : place ≤ 200000) (hk : ea - eb + place = -(k : Int)) (hk1 : 0 < k) (hk2 : k ≤ 600000) (hr : ¬ (x) % (y * 2 ^ k) = 0) :
    Calls Tryz.prog 54 #[.agg #[.bool na, .slice ua (dlen x) uc, .int .i64 ea], .agg #[.bool nb, .slice va (dlen y) vc, .int .i64 eb], .int .i64 place] w fun r w' => ∃ A, r = .returned (.tuple #[A, .bool false]) ∧ NC w' w.heap.size A false ((x) / (y * 2 ^ k)) (-place) ∧ Below w.heap.size w w' := by
  obtain ⟨W, hW⟩ : ∃ W, W = ((w.alloc (.cells #[.bool na, .slice ua (dlen x) uc, .int .i64 ea] 34)).alloc (.cells #[.bool nb, .slice va (dlen y) vc, .int .i64 eb] 34)).alloc (.cells #[.bool false, .slice none 0 0, .int .i64 0] 34) := ⟨_, rfl⟩
  obtain ⟨hA, hBb, hC, hsz, hBW⟩ := boxes3 _ _ _ hW
  have HH : Hid ((W.heap[w.heap.size]? = some (.cells #[.bool na, .slice ua (dlen x) uc, .int .i64 ea] 34 (0, 0)) ∧ W.heap[w.heap.size + 1]? = some (.cells #[.bool nb, .slice va (dlen y) vc, .int .i64 eb] 34 (0, 0)) ∧ W.heap[w.heap.size + 1 + 1]? = some (.cells #[.bool false, .slice none 0 0, .int .i64 0] 34 (0, 0))) ∧ W.heap.size = w.heap.size + 1 + 1 + 1 ∧ Below w.heap.size w W) := ⟨⟨hA, hBb, hC⟩, hsz, hBW⟩
  obtain ⟨⟨a0, a1, a2⟩, -⟩ := box_cells29 hA
  obtain ⟨⟨b0, b1, b2⟩, -⟩ := box_cells29 hBb
  have HI : Hid (Ir w (.slice ua (dlen x) uc) x ∧ Ir w (.slice va (dlen y) vc) y) := ⟨⟨ua, uc, rfl, hu, h1⟩, ⟨va, vc, rfl, hv, h2⟩⟩
  have HN : Hid ((x ≠ 0 ∧ y ≠ 0 ∧ dlen x ≤ 3000 ∧ dlen y ≤ 3000 ∧ k ≤ 600000) ∧ ¬ (x) % (y * 2 ^ k) = 0) := ⟨⟨hx0, hy0, hx, hy, hk2⟩, hr⟩
  have hxz : ((dlen x : Int) == 0) = false := len_ne (n := 0) hx0
  clear hA hBb hC hsz hBW h1 h2 hr
  generalize hdx : dlen x = lx at *
  generalize hdy : dlen y = ly at *
  rw [hW] at a0 a1 a2 b0 b1 b2
  go_enter Tryz.func54, Tryz.ntmps54
  go_wp2
  go_quiet (fail)
  rw [← hW]
  have HBW1 : Hid (Below W.heap.size W (W.drewN nq)) := (⟨rfl, rfl, rfl, Nat.le_refl _, fun _ _ => rfl⟩ : Below W.heap.size W (W.drewN nq))
  obtain ⟨W1, hW1⟩ : ∃ W1, W1 = W.drewN nq := ⟨_, rfl⟩
  rw [← hW1] at HBW1 ⊢
  clear hW hW1 a0 a1 a2 b0 b1 b2
  have HIW : Hid (Ir W1 (.slice ua lx uc) x ∧ Ir W1 (.slice va ly vc) y) := ⟨HI.out.1.later (HH.out.2.2.trans (HBW1.out.mono HH.out.2.2.size)), HI.out.2.later (HH.out.2.2.trans (HBW1.out.mono HH.out.2.2.size))⟩
  have ku := rup HIW.out.2 k (by have := HN.out.1; omega) (by omega)
  go_wp2_with fail
  refine ku.mono ?_
  rintro r w4 ⟨vu, rfl, hIu, hb4⟩
  have HB4 : Hid (Below W.heap.size W w4) := HBW1.out.trans (hb4.mono HBW1.out.size)
  have hl : dlen (y * 2 ^ k) ≤ 25000 := by
    have := shl_len (x := y) (k := k) rfl
    have := HN.out.1
    omega
  have kd := rdivide (HIW.out.1.later hb4) hIu HN.out.1.1 (Nat.mul_ne_zero HN.out.1.2.1 (by have := Nat.two_pow_pos k; omega)) (by have := HN.out.1; omega) (by omega)
  have HO : Hid (Ir w4 vu (y * 2 ^ k)) := hIu
  clear ku hIu hb4
  go_wp2_with fail
  refine kd.mono ?_
  rintro r w5 ⟨vq, vr, rfl, hIq, hIr, hb5⟩
  have HB5 : Hid (Below W.heap.size W w5) := HB4.out.trans (hb5.mono HB4.out.size)
  obtain ⟨⟨a0, a1, a2⟩, -⟩ := box_cells29 (box_later HH.out.1.1 HB5.out (by have := HH.out.2.1; omega))
  obtain ⟨⟨b0, b1, b2⟩, -⟩ := box_cells29 (box_later HH.out.1.2.1 HB5.out (by have := HH.out.2.1; omega))
  obtain ⟨rr, rcap, rfl, hrc, hrA⟩ := hIr
  have hql : dlen ((x) / (y * 2 ^ k)) ≤ 30000 := Nat.le_trans (dlen_mono (Nat.div_le_self _ _)) (by have := HN.out.1; omega)
  have kn := rnorm (neg := false) (e := -place) hIq (by omega) (by omega)
  have HQL : Hid (dlen ((x) / (y * 2 ^ k)) ≤ 30000) := hql
  have hrl : ((dlen ((x) % (y * 2 ^ k)) : Int) == 0) = false := len_ne (n := 0) HN.out.2
  clear kd hIq hb5 hrA hql hl
  generalize hdr : dlen ((x) % (y * 2 ^ k)) = lr at *
  go_wp2_with fail
  refine kn.mono ?_
  rintro r w6 ⟨A, rfl, hN6, hb6⟩
  obtain ⟨s6, ao6, n6, cap6, ex6, rfl⟩ := hN6.shape
  have HB6 : Hid (Below W.heap.size W w6) := HB5.out.trans (hb6.mono HB5.out.size)
  have HN6 : Hid (NC w6 w5.heap.size (.agg #[.bool s6, .slice ao6 n6 cap6, .int .i64 ex6]) false ((x) / (y * 2 ^ k)) (-place)) := hN6
  obtain ⟨w7, hw7⟩ : ∃ w7, w7 = w6.alloc (.cells #[.bool s6, .slice ao6 n6 cap6, .int .i64 ex6] 34) := ⟨_, rfl⟩
  have hB67 : Below w6.heap.size w6 w7 := by rw [hw7]; exact (Below.refl _ _).alloc (Nat.le_refl _) _
  have HB7 : Hid (Below W.heap.size W w7) := HB6.out.trans (hB67.mono HB6.out.size)
  have hbox : w7.heap[w6.heap.size]? = some (.cells #[.bool s6, .slice ao6 n6 cap6, .int .i64 ex6] 34 (0, 0)) := by rw [hw7]; exact heap_alloc_new _ _
  have HBX : Hid (w7.heap[w6.heap.size]? = some (.cells #[.bool s6, .slice ao6 n6 cap6, .int .i64 ex6] 34 (0, 0)) ∧ Below w6.heap.size w6 w7) := ⟨hbox, hB67⟩
  have hres := box_later HH.out.1.2.2 HB7.out (by have := HH.out.2.1; omega)
  have HRES : Hid (w7.heap[w.heap.size + 1 + 1]? = some (.cells #[.bool false, .slice none 0 0, .int .i64 0] 34 (0, 0))) := hres
  obtain ⟨⟨c0, c1, c2⟩, c3, c4, c5⟩ := box_cells29 hres
  obtain ⟨⟨d0, d1, d2⟩, d3, d4, d5⟩ := box_cells29 hbox
  clear kn hN6 hb6 hbox hres hB67 a0 a1 a2 b0 b1 b2
  rw [hw7] at c0 c1 c2 c3 c4 c5 d0 d1 d2 d3 d4 d5
  go_wp2
  rw [← hw7]
  refine bodyPost_ret (results_cell_tmp_row rfl _ _ (w.heap.size + 1 + 1) 34 #[.bool s6, .slice ao6 n6 cap6, .int .i64 ex6] (0, 0) _ rfl (store3_29 _ _ _ HRES.out) Tryz.underlying34 rfl Tryz.info34) rfl ?_
  have q1 := HH.out.2.1
  have q2 := HB5.out.size
  exact ⟨_, rfl, ((HN6.out.later HBX.out.2).store (by omega) _ _ _).mono (by omega), below_store3 (HH.out.2.2.trans (HB7.out.mono HH.out.2.2.size)) (by omega) _ _ _⟩
set_option maxRecDepth 200000 in
theorem rover_brn (na nb : Bool) (ua va : Option Addr) (uc vc x y k : Nat) (ea eb place : Int) (w : World) (hsg : (!(na == nb)) = true) (h1 : At w ua (dlen x) x) (hu : dlen x ≤ uc) (h2 : At w va (dlen y) y) (hv : dlen y ≤ vc) (hx0 : x ≠ 0) (hy0 : y ≠ 0) (hx : dlen x ≤ 3000) (hy : dlen y ≤ 3000)
    (he1 : -200000 ≤ ea) (he2 : ea ≤ 200000) (he3 : -200000 ≤ eb) (he4 : eb ≤ 200000) (hp1 : -200000 ≤ place) (hp2 : place ≤ 200000) (hk : ea - eb + place = -(k : Int)) (hk1 : 0 < k) (hk2 : k ≤ 600000) (hr : ¬ (x) % (y * 2 ^ k) = 0) :
    Calls Tryz.prog 54 #[.agg #[.bool na, .slice ua (dlen x) uc, .int .i64 ea], .agg #[.bool nb, .slice va (dlen y) vc, .int .i64 eb], .int .i64 place] w fun r w' => ∃ A, r = .returned (.tuple #[A, .bool false]) ∧ NC w' w.heap.size A true ((x) / (y * 2 ^ k) + 1) (-place) ∧ Below w.heap.size w w' := by
  obtain ⟨W, hW⟩ : ∃ W, W = ((w.alloc (.cells #[.bool na, .slice ua (dlen x) uc, .int .i64 ea] 34)).alloc (.cells #[.bool nb, .slice va (dlen y) vc, .int .i64 eb] 34)).alloc (.cells #[.bool false, .slice none 0 0, .int .i64 0] 34) := ⟨_, rfl⟩
  obtain ⟨hA, hBb, hC, hsz, hBW⟩ := boxes3 _ _ _ hW
  have HH : Hid ((W.heap[w.heap.size]? = some (.cells #[.bool na, .slice ua (dlen x) uc, .int .i64 ea] 34 (0, 0)) ∧ W.heap[w.heap.size + 1]? = some (.cells #[.bool nb, .slice va (dlen y) vc, .int .i64 eb] 34 (0, 0)) ∧ W.heap[w.heap.size + 1 + 1]? = some (.cells #[.bool false, .slice none 0 0, .int .i64 0] 34 (0, 0))) ∧ W.heap.size = w.heap.size + 1 + 1 + 1 ∧ Below w.heap.size w W) := ⟨⟨hA, hBb, hC⟩, hsz, hBW⟩
  obtain ⟨⟨a0, a1, a2⟩, -⟩ := box_cells29 hA
  obtain ⟨⟨b0, b1, b2⟩, -⟩ := box_cells29 hBb
  have HI : Hid (Ir w (.slice ua (dlen x) uc) x ∧ Ir w (.slice va (dlen y) vc) y) := ⟨⟨ua, uc, rfl, hu, h1⟩, ⟨va, vc, rfl, hv, h2⟩⟩
  have HN : Hid ((x ≠ 0 ∧ y ≠ 0 ∧ dlen x ≤ 3000 ∧ dlen y ≤ 3000 ∧ k ≤ 600000) ∧ ¬ (x) % (y * 2 ^ k) = 0) := ⟨⟨hx0, hy0, hx, hy, hk2⟩, hr⟩
  have hxz : ((dlen x : Int) == 0) = false := len_ne (n := 0) hx0
  clear hA hBb hC hsz hBW h1 h2 hr
  generalize hdx : dlen x = lx at *
  generalize hdy : dlen y = ly at *
  rw [hW] at a0 a1 a2 b0 b1 b2
  go_enter Tryz.func54, Tryz.ntmps54
  go_wp2
  go_quiet (fail)
  rw [← hW]
  have HBW1 : Hid (Below W.heap.size W (W.drewN nq)) := (⟨rfl, rfl, rfl, Nat.le_refl _, fun _ _ => rfl⟩ : Below W.heap.size W (W.drewN nq))
  obtain ⟨W1, hW1⟩ : ∃ W1, W1 = W.drewN nq := ⟨_, rfl⟩
  rw [← hW1] at HBW1 ⊢
  clear hW hW1 a0 a1 a2 b0 b1 b2
  have HIW : Hid (Ir W1 (.slice ua lx uc) x ∧ Ir W1 (.slice va ly vc) y) := ⟨HI.out.1.later (HH.out.2.2.trans (HBW1.out.mono HH.out.2.2.size)), HI.out.2.later (HH.out.2.2.trans (HBW1.out.mono HH.out.2.2.size))⟩
  have ku := rup HIW.out.2 k (by have := HN.out.1; omega) (by omega)
  go_wp2_with fail
  refine ku.mono ?_
  rintro r w4 ⟨vu, rfl, hIu, hb4⟩
  have HB4 : Hid (Below W.heap.size W w4) := HBW1.out.trans (hb4.mono HBW1.out.size)
  have hl : dlen (y * 2 ^ k) ≤ 25000 := by
    have := shl_len (x := y) (k := k) rfl
    have := HN.out.1
    omega
  have kd := rdivide (HIW.out.1.later hb4) hIu HN.out.1.1 (Nat.mul_ne_zero HN.out.1.2.1 (by have := Nat.two_pow_pos k; omega)) (by have := HN.out.1; omega) (by omega)
  have HO : Hid (Ir w4 vu (y * 2 ^ k)) := hIu
  clear ku hIu hb4
  go_wp2_with fail
  refine kd.mono ?_
  rintro r w5 ⟨vq, vr, rfl, hIq, hIr, hb5⟩
  have HB5 : Hid (Below W.heap.size W w5) := HB4.out.trans (hb5.mono HB4.out.size)
  obtain ⟨⟨a0, a1, a2⟩, -⟩ := box_cells29 (box_later HH.out.1.1 HB5.out (by have := HH.out.2.1; omega))
  obtain ⟨⟨b0, b1, b2⟩, -⟩ := box_cells29 (box_later HH.out.1.2.1 HB5.out (by have := HH.out.2.1; omega))
  obtain ⟨rr, rcap, rfl, hrc, hrA⟩ := hIr
  have hql : dlen ((x) / (y * 2 ^ k)) ≤ 30000 := Nat.le_trans (dlen_mono (Nat.div_le_self _ _)) (by have := HN.out.1; omega)
  have kn := rnorm (neg := true) (e := -place) hIq (by omega) (by omega)
  have HQL : Hid (dlen ((x) / (y * 2 ^ k)) ≤ 30000) := hql
  have hrl : ((dlen ((x) % (y * 2 ^ k)) : Int) == 0) = false := len_ne (n := 0) HN.out.2
  clear kd hIq hb5 hrA hql hl
  generalize hdr : dlen ((x) % (y * 2 ^ k)) = lr at *
  go_wp2_with fail
  refine kn.mono ?_
  rintro r w6 ⟨A, rfl, hN6, hb6⟩
  obtain ⟨s6, ao6, n6, cap6, ex6, rfl⟩ := hN6.shape
  have HB6 : Hid (Below W.heap.size W w6) := HB5.out.trans (hb6.mono HB5.out.size)
  have HN6 : Hid (NC w6 w5.heap.size (.agg #[.bool s6, .slice ao6 n6 cap6, .int .i64 ex6]) true ((x) / (y * 2 ^ k)) (-place)) := hN6
  obtain ⟨w7, hw7⟩ : ∃ w7, w7 = w6.alloc (.cells #[.bool s6, .slice ao6 n6 cap6, .int .i64 ex6] 34) := ⟨_, rfl⟩
  have hB67 : Below w6.heap.size w6 w7 := by rw [hw7]; exact (Below.refl _ _).alloc (Nat.le_refl _) _
  have HB7 : Hid (Below W.heap.size W w7) := HB6.out.trans (hB67.mono HB6.out.size)
  have hbox : w7.heap[w6.heap.size]? = some (.cells #[.bool s6, .slice ao6 n6 cap6, .int .i64 ex6] 34 (0, 0)) := by rw [hw7]; exact heap_alloc_new _ _
  have HBX : Hid (w7.heap[w6.heap.size]? = some (.cells #[.bool s6, .slice ao6 n6 cap6, .int .i64 ex6] 34 (0, 0)) ∧ Below w6.heap.size w6 w7) := ⟨hbox, hB67⟩
  have hres := box_later HH.out.1.2.2 HB7.out (by have := HH.out.2.1; omega)
  have HRES : Hid (w7.heap[w.heap.size + 1 + 1]? = some (.cells #[.bool false, .slice none 0 0, .int .i64 0] 34 (0, 0))) := hres
  obtain ⟨⟨c0, c1, c2⟩, c3, c4, c5⟩ := box_cells29 hres
  obtain ⟨⟨d0, d1, d2⟩, d3, d4, d5⟩ := box_cells29 hbox
  clear kn hN6 hb6 hbox hres hB67 a0 a1 a2 b0 b1 b2
  rw [hw7] at c0 c1 c2 c3 c4 c5 d0 d1 d2 d3 d4 d5
  have HK : Hid (∀ w', Below w7.heap.size w7 w' → (w'.cell? ⟨w6.heap.size, 0, none⟩ = some (.bool s6) ∧ w'.cell? ⟨w6.heap.size, 1, none⟩ = some (.slice ao6 n6 cap6) ∧ w'.cell? ⟨w6.heap.size, 2, none⟩ = some (.int .i64 ex6))) := fun w' hb => (box_cells29 (box_later HBX.out.1 hb (by have := HBX.out.1; exact (Array.getElem?_eq_some_iff.1 this).1))).1
  have kO : ∀ w8, Below w7.heap.size w7 w8 → Calls Tryz.prog 53 #[.int .i64 place] w8 fun r w' => ∃ g, r = .returned (.agg #[.bool false, .slice (some ⟨g, 0, none⟩) 1 1, .int .i64 (-place)]) ∧ Hid (At w' (some ⟨g, 0, none⟩) 1 1) ∧ Below w7.heap.size w7 w' ∧ (w'.cell? ⟨w6.heap.size, 0, none⟩ = some (.bool s6) ∧ w'.cell? ⟨w6.heap.size, 1, none⟩ = some (.slice ao6 n6 cap6) ∧ w'.cell? ⟨w6.heap.size, 2, none⟩ = some (.int .i64 ex6)) := fun w8 hb => (rone place w8 (by omega) (by omega)).mono fun r w' ⟨g, e1, e2, e3, e4⟩ => ⟨g, e1, e3, hb.trans (e4.mono hb.size), HK.out w' (hb.trans (e4.mono hb.size))⟩
  have kL : ∀ g w9, Hid (At w9 (some ⟨g, 0, none⟩) 1 1) → Below w7.heap.size w7 w9 → Calls Tryz.prog 34 #[.agg #[.bool s6, .slice ao6 n6 cap6, .int .i64 ex6], .agg #[.bool false, .slice (some ⟨g, 0, none⟩) 1 1, .int .i64 (-place)]] w9 fun r w' => ∃ s ao n cap ex, r = .returned (.agg #[.bool s, .slice ao n cap, .int .i64 ex]) ∧ Hid (NC w' w7.heap.size (.agg #[.bool s, .slice ao n cap, .int .i64 ex]) true ((x) / (y * 2 ^ k) + 1) (-place)) ∧ Below w7.heap.size w7 w' ∧ Hid (w'.heap[w6.heap.size]? = some (.cells #[.bool s6, .slice ao6 n6 cap6, .int .i64 ex6] 34 (0, 0))) ∧ (w'.cell? ⟨w6.heap.size, 0, none⟩ = some (.bool s6) ∧ w'.cell? ⟨w6.heap.size, 1, none⟩ = some (.slice ao6 n6 cap6) ∧ w'.cell? ⟨w6.heap.size, 2, none⟩ = some (.int .i64 ex6)) ∧ (w'.frozen? ⟨w6.heap.size, 0, none⟩ = false ∧ w'.frozen? ⟨w6.heap.size, 1, none⟩ = false ∧ w'.frozen? ⟨w6.heap.size, 2, none⟩ = false) := by
    intro g w9 hA hb
    refine (rless_nc ((HN6.out.later HBX.out.2).later hb) hA.out (Nat.le_refl _) (by omega) (by omega) HQL.out).mono ?_
    rintro r w10 ⟨A, rfl, hN, hb10⟩
    obtain ⟨s, ao, n, cap, ex, rfl⟩ := hN.shape
    have hbb := hb.trans (hb10.mono hb.size)
    have hblk := box_later HBX.out.1 hbb (by have := HBX.out.1; exact (Array.getElem?_eq_some_iff.1 this).1)
    obtain ⟨f1, f2⟩ := box_cells29 hblk
    exact ⟨s, ao, n, cap, ex, rfl, hN.mono hb.size, hbb, hblk, f1, f2⟩
  have hBR : Below w7.heap.size w7 w7.drew := (Below.refl _ _).drew
  have e0 : w7.cell? ⟨w6.heap.size, 0, none⟩ = some (.bool s6) ∧ w7.cell? ⟨w6.heap.size, 1, none⟩ = some (.slice ao6 n6 cap6) ∧ w7.cell? ⟨w6.heap.size, 2, none⟩ = some (.int .i64 ex6) := HK.out w7 (Below.refl _ _)
  go_upto_region 14 with fail
  rw [← hw7]
  clear hw7 c0 c1 c2 c3 c4 c5 d0 d1 d2 d3 d4 d5
  obtain ⟨d0, d1, d2⟩ := e0
  go_cut [64] from 61 to 64 (fun v wx => ∃ s ao n cap ex, v = .agg #[.bool s, .slice ao n cap, .int .i64 ex] ∧ Hid (NC wx w7.heap.size (.agg #[.bool s, .slice ao n cap, .int .i64 ex]) true ((x) / (y * 2 ^ k) + 1) (-place)) ∧ Hid (wx.heap[w6.heap.size]? = some (.cells #[.bool s, .slice ao n cap, .int .i64 ex] 34 (0, 0))) ∧ Hid (Below w6.heap.size w7 wx))
  case first =>
    go_region_with (first | (go_at_call 53; refine (kO _ (by first | (with_reducible assumption) | exact hBR | exact Below.refl _ _)).mono ?_; rintro r w8 ⟨g8, rfl, hA8, hb8, ⟨y1, y2, y3⟩⟩) | (go_at_call 34; refine (kL _ _ hA8 (by with_reducible assumption)).mono ?_; rintro r w9 ⟨s9, ao9, n9, cap9, ex9, rfl, hN9, hb9, hblk9, ⟨x1, x2, x3⟩, x4, x5, x6⟩))
    all_goals go_wp2_with fail
    all_goals go_meet
    all_goals exact ⟨s9, ao9, n9, cap9, ex9, rfl, hN9.out.store (Array.getElem?_eq_some_iff.1 HBX.out.1).1 _ _ _, store3_29 _ _ _ hblk9.out, below_store3 (hb9.mono HBX.out.2.size) (Nat.le_refl _) _ _ _⟩
  case rest =>
    obtain ⟨s9, ao9, n9, cap9, ex9, rfl, hN9, hB9, hL9⟩ := hcut
    obtain ⟨wx, rfl⟩ : ∃ wx : World, wx = wc := ⟨_, rfl⟩
    have q1 := HH.out.2.1
    have q2 := HB6.out.size
    have q3 := HB7.out.size
    have HBx : Hid (Below W.heap.size W wx) := HB7.out.trans (hL9.out.mono HB6.out.size)
    have hres := box_later HH.out.1.2.2 HBx.out (by omega)
    have HRES2 : Hid (wx.heap[w.heap.size + 1 + 1]? = some (.cells #[.bool false, .slice none 0 0, .int .i64 0] 34 (0, 0))) := hres
    obtain ⟨⟨c0, c1, c2⟩, c3, c4, c5⟩ := box_cells29 hres
    clear d0 d1 d2
    obtain ⟨⟨d0, d1, d2⟩, d3, d4, d5⟩ := box_cells29 hB9.out
    clear kO kL hBR hres
    go_wp2
    refine bodyPost_ret (results_cell_tmp_row rfl _ _ (w.heap.size + 1 + 1) 34 #[.bool s9, .slice ao9 n9 cap9, .int .i64 ex9] (0, 0) _ rfl (store3_29 _ _ _ HRES2.out) Tryz.underlying34 rfl Tryz.info34) rfl ?_
    exact ⟨_, rfl, (hN9.out.store (by omega) _ _ _).mono (by omega), below_store3 (HH.out.2.2.trans (HBx.out.mono HH.out.2.2.size)) (by omega) _ _ _⟩
end Go.Proofs.YtbpeijejanhihaaGreatDoor
namespace Go.Proofs.YtbpeijejanhihaaGreatDoor
set_option linter.unusedVariables false
set_option linter.unusedSimpArgs false
open Go.RowKit
set_option maxRecDepth 200000 in
theorem rover_0 (na nb : Bool) (ua va : Option Addr) (uc vn vc : Nat) (ea eb place : Int) (w : World) :
    Calls Tryz.prog 54 #[.agg #[.bool na, .slice ua 0 uc, .int .i64 ea], .agg #[.bool nb, .slice va vn vc, .int .i64 eb], .int .i64 place] w fun r w' => r = .returned (.tuple #[.agg #[.bool false, .slice none 0 0, .int .i64 0], .bool true]) ∧ Below w.heap.size w w' := by
  obtain ⟨W, hW⟩ : ∃ W, W = ((w.alloc (.cells #[.bool na, .slice ua 0 uc, .int .i64 ea] 34)).alloc (.cells #[.bool nb, .slice va vn vc, .int .i64 eb] 34)).alloc (.cells #[.bool false, .slice none 0 0, .int .i64 0] 34) := ⟨_, rfl⟩
  obtain ⟨hA, hBb, hC, hsz, hBW⟩ := boxes3 _ _ _ hW
  have HH : Hid (W.heap[w.heap.size + 1 + 1]? = some (.cells #[.bool false, .slice none 0 0, .int .i64 0] 34 (0, 0)) ∧ Below w.heap.size w W) := ⟨hC, hBW⟩
  obtain ⟨⟨a0, a1, a2⟩, -⟩ := box_cells29 hA
  obtain ⟨⟨c0, c1, c2⟩, c3, c4, c5⟩ := box_cells29 hC
  clear hA hBb hC hsz hBW
  rw [hW] at a0 a1 a2 c0 c1 c2 c3 c4 c5
  go_enter Tryz.func54, Tryz.ntmps54
  go_wp2
  rw [← hW]
  refine bodyPost_ret (results_cell_tmp_row rfl _ _ (w.heap.size + 1 + 1) 34 #[.bool false, .slice none 0 0, .int .i64 0] (0, 0) _ rfl HH.out.1 Tryz.underlying34 rfl Tryz.info34) rfl ?_
  exact ⟨rfl, HH.out.2⟩
def ovX (x : Nat) (ea eb place : Int) : Nat := x * 2 ^ (ea + place - min (ea + place) eb).toNat
def ovY (y : Nat) (ea eb place : Int) : Nat := y * 2 ^ (eb - min (ea + place) eb).toNat
theorem rover {na nb : Bool} {ua va : Option Addr} {uc vc x y : Nat} {ea eb place : Int} {w : World} (h1 : At w ua (dlen x) x) (hu : dlen x ≤ uc) (h2 : At w va (dlen y) y) (hv : dlen y ≤ vc) (hy0 : y ≠ 0) (hx : dlen x ≤ 3000) (hy : dlen y ≤ 3000)
    (ha : -200000 ≤ ea ∧ ea ≤ 200000) (hb : -200000 ≤ eb ∧ eb ≤ 200000) (hp : -200000 ≤ place ∧ place ≤ 200000) {X Y : Nat} (hX : ovX x ea eb place = X) (hY : ovY y ea eb place = Y) :
    Calls Tryz.prog 54 #[.agg #[.bool na, .slice ua (dlen x) uc, .int .i64 ea], .agg #[.bool nb, .slice va (dlen y) vc, .int .i64 eb], .int .i64 place] w fun r w' => ∃ A, r = .returned (.tuple #[A, .bool (decide (X % Y = 0))]) ∧ NC w' w.heap.size A (na != nb) (if (na != nb) && !(decide (X % Y = 0)) then X / Y + 1 else X / Y) (-place) ∧ Below w.heap.size w w' := by
  by_cases hx0 : x = 0
  · subst hx0
    have hX0 : X = 0 := by rw [← hX]; unfold ovX; rw [Nat.zero_mul]
    rw [dlen_zero, hX0, Nat.zero_mod, Nat.zero_div]
    refine (rover_0 na nb ua va uc _ vc ea eb place w).mono ?_
    rintro r w' ⟨rfl, hb'⟩
    refine ⟨_, rfl, ⟨none, 0, ?_, ?_, fun ad e => by cases e⟩, hb'⟩
    · simp [cn, dlen_zero]
    · simp only [decide_true, Bool.not_true, Bool.and_false, Bool.false_eq_true, if_false]
      unfold cn; rw [if_pos rfl]
      exact ⟨fun _ => .inr ⟨rfl, rfl⟩, ⟨0, 0, fun h => by rw [dlen_zero] at h; omega, fun i hi => by rw [dlen_zero] at hi; omega⟩, by rw [dlen_zero]; exact Nat.le_refl _, by rw [dlen_zero]; omega⟩
  · by_cases hs : 0 ≤ ea - eb + place
    · obtain ⟨k, hk⟩ : ∃ k : Nat, ea - eb + place = (k : Int) := ⟨(ea - eb + place).toNat, by omega⟩
      obtain rfl : x * 2 ^ k = X := by rw [← hX]; unfold ovX; rw [show (ea + place - min (ea + place) eb).toNat = k by omega]
      obtain rfl : y = Y := by rw [← hY]; unfold ovY; rw [show (eb - min (ea + place) eb).toNat = 0 by omega, Nat.pow_zero, Nat.mul_one]
      by_cases hr : x * 2 ^ k % y = 0
      · rw [decide_eq_true hr, Bool.not_true, Bool.and_false, if_neg (by decide)]
        exact rover_ae na nb ua va uc vc x y k ea eb place w (na != nb) rfl h1 hu h2 hv hx0 hy0 hx hy ha.1 ha.2 hb.1 hb.2 hp.1 hp.2 hk (by omega) hr
      · rw [decide_eq_false hr, Bool.not_false, Bool.and_true]
        by_cases hsg : (na != nb) = true
        · rw [hsg, if_pos rfl]
          exact rover_arn na nb ua va uc vc x y k ea eb place w hsg h1 hu h2 hv hx0 hy0 hx hy ha.1 ha.2 hb.1 hb.2 hp.1 hp.2 hk (by omega) hr
        · have hsg' : (na != nb) = false := by simpa using hsg
          rw [hsg', if_neg (by decide)]
          exact rover_arp na nb ua va uc vc x y k ea eb place w hsg' h1 hu h2 hv hx0 hy0 hx hy ha.1 ha.2 hb.1 hb.2 hp.1 hp.2 hk (by omega) hr
    · obtain ⟨k, hk⟩ : ∃ k : Nat, ea - eb + place = -(k : Int) := ⟨(-(ea - eb + place)).toNat, by omega⟩
      obtain rfl : x = X := by rw [← hX]; unfold ovX; rw [show (ea + place - min (ea + place) eb).toNat = 0 by omega, Nat.pow_zero, Nat.mul_one]
      obtain rfl : y * 2 ^ k = Y := by rw [← hY]; unfold ovY; rw [show (eb - min (ea + place) eb).toNat = k by omega]
      by_cases hr : x % (y * 2 ^ k) = 0
      · rw [decide_eq_true hr, Bool.not_true, Bool.and_false, if_neg (by decide)]
        exact rover_be na nb ua va uc vc x y k ea eb place w (na != nb) rfl h1 hu h2 hv hx0 hy0 hx hy ha.1 ha.2 hb.1 hb.2 hp.1 hp.2 hk (by omega) (by omega) hr
      · rw [decide_eq_false hr, Bool.not_false, Bool.and_true]
        by_cases hsg : (na != nb) = true
        · rw [hsg, if_pos rfl]
          exact rover_brn na nb ua va uc vc x y k ea eb place w hsg h1 hu h2 hv hx0 hy0 hx hy ha.1 ha.2 hb.1 hb.2 hp.1 hp.2 hk (by omega) (by omega) hr
        · have hsg' : (na != nb) = false := by simpa using hsg
          rw [hsg', if_neg (by decide)]
          exact rover_brp na nb ua va uc vc x y k ea eb place w hsg' h1 hu h2 hv hx0 hy0 hx hy ha.1 ha.2 hb.1 hb.2 hp.1 hp.2 hk (by omega) (by omega) hr
end Go.Proofs.YtbpeijejanhihaaGreatDoor
namespace Go.Proofs.YtbpeijejanhihaaGreatDoor
set_option linter.unusedVariables false
set_option linter.unusedSimpArgs false
open Go.RowKit
theorem NC.nought (w : World) (base : Nat) (s : Bool) (e : Int) : NC w base (.agg #[.bool false, .slice none 0 0, .int .i64 0]) s 0 e := by
  refine ⟨none, 0, ?_, ?_, fun ad e => by cases e⟩
  · unfold cn; rw [if_pos rfl, dlen_zero]
  · unfold cn; rw [if_pos rfl]
    exact ⟨fun _ => .inr ⟨rfl, rfl⟩, ⟨0, 0, fun h => by rw [dlen_zero] at h; omega, fun i hi => by rw [dlen_zero] at hi; omega⟩, by rw [dlen_zero]; exact Nat.le_refl _, by rw [dlen_zero]; omega⟩
end Go.Proofs.YtbpeijejanhihaaGreatDoor
