/- Own work: contracts of the program's functions, part 6: R8 RB7 RB8 RB9 W33 RC1 RW1 SA3 RC2 RC3 V1 V2 E2 V3 E3 V4 RC4 W42 W44 RC5 RD1 SA6 L5 G3 W43 L7 L9 RT2 DV1 RV1 DV2 DV3 RV2 DV4 RV3 RV4 RW2 RW3 RW4 RW5 RW6 RW7 RW8 RW9 RX1 W49 RX2 RX3 W50 L16. -/
import Derived.Test.YtdfkpjagnndfdaaGreatDoorA3
import Derived.Test.YtdfkpjagnndfdaaGreatDoorA5
import Derived.Test.YtdfkpjagnndfdaaGreatDoorA2
import Derived.Test.YtdfkpjagnndfdaaGreatDoorA4
import Derived.Laws.AppendOwnNone
import Derived.Deep.CutRange
import Derived.Test.YtdfkpjagnndfdaaGreatDoorA1
import Derived.Deep.CutBlock

/- The document's norm: its answer has room for its digits. -/
namespace Go.Proofs.YtdfkpjagnndfdaaGreatDoor
set_option linter.unusedVariables false
set_option linter.unusedSimpArgs false
open Go.RowKit

set_option maxHeartbeats 2000000 in
set_option maxRecDepth 200000 in
theorem r34c_1 (neg : Bool) (ao : Option Addr) (n cap x : Nat) (e : Int) (w : World) (h : At w ao n x) (hxn : dlen x ≤ n) (hn : n ≤ cap) (hc : n ≤ 1000000000) (hx0 : x ≠ 0) (he : -4611686018427387904 ≤ e ∧ e ≤ 4611686018427387904) :
    Calls Tryz.prog 30 #[.bool neg, .slice ao n cap, .int .i64 e] w fun r w' => ∃ g cap', r = .returned (.agg #[.bool neg, .slice (some ⟨g, 0, none⟩) (dlen (x / 2 ^ tz x)) cap', .int .i64 (e + tz x)]) ∧ w.heap.size ≤ g ∧ dlen (x / 2 ^ tz x) ≤ cap' ∧ At w' (some ⟨g, 0, none⟩) (dlen (x / 2 ^ tz x)) (x / 2 ^ tz x) ∧ Below w.heap.size w w' := by
  obtain ⟨w0, hw0⟩ : ∃ w0, w0 = w.alloc (.cells #[.bool false, .slice none 0 0, .int .i64 0] 33) := ⟨_, rfl⟩
  have hB0 : Below w.heap.size w w0 := by rw [hw0]; exact (Below.refl _ _).alloc (Nat.le_refl _) _
  have h0 := h.later hB0
  have k40 := r40 ao n cap x w0 hxn hn (by omega) h0
  have htz : tz x / 32 < dlen x := by
    have h1 := (tz_spec _ x (Nat.le_refl _) hx0)
    have h2 : 2 ^ tz x ≤ x := by
      have h3 : 1 ≤ x / 2 ^ tz x := Nat.pos_of_ne_zero fun e0 => by have := h1.2; rw [e0] at this; simp at this
      have := Nat.mul_le_mul_left (2 ^ tz x) h3
      omega
    have h4 := lt_bl x
    have h5 : tz x < bl x := Nat.lt_of_not_le fun h6 => by
      have := Nat.pow_le_pow_right (n := 2) (by omega) h6
      omega
    have hd0 : dlen x ≠ 0 := fun e => hx0 (dlen_eq_zero.1 e)
    have := bl_top hx0
    have := bl_le32 (dg_lt x (dlen x - 1))
    omega
  have hs := at_short h0 hxn
  have k64 := r64 rfl (by omega : dlen x ≤ cap) hs (tz x) (by omega) htz (by omega)
  have hl0 : 0 < dlen x := by omega
  have hn0 : ((dlen x : Int) == 0) = false := by simp; omega
  have HS : Hid (At w0 ao (dlen x) x) := hs
  have HH : Hid (w0.heap[w.heap.size]? = some (.cells #[.bool false, .slice none 0 0, .int .i64 0] 33 (0, 0))) := (by rw [hw0]; exact heap_alloc_new _ _ : w0.heap[w.heap.size]? = some (.cells #[.bool false, .slice none 0 0, .int .i64 0] 33 (0, 0)))
  have HB0 : Hid (Below w.heap.size w w0) := hB0
  have HX : Hid (w0.heap.size = w.heap.size + 1) := (by rw [hw0]; simp : w0.heap.size = w.heap.size + 1)
  have HT : Hid (tz x / 32 < dlen x ∧ x ≠ 0) := ⟨htz, hx0⟩
  obtain ⟨he1, he2⟩ := he
  have hlb : dlen x ≤ 1000000000 := by omega
  clear h h0 hB0 hs hxn hn hx0
  generalize hL : dlen x = L at *
  generalize htzx : tz x = T at *
  have HTZ : Hid (tz x = T ∧ dlen x = L) := ⟨htzx, hL⟩
  clear htzx hL
  have hTb : T ≤ 40000000000 := by omega
  go_enter Tryz.func30, Tryz.ntmps30
  go_wp2_with fail
  rw [← hw0]
  clear hw0
  refine k40.mono ?_
  rintro r w1 ⟨rfl, rfl⟩
  clear k40
  go_wp2_with fail
  go_loop [7] (fun v => ∃ t : Nat, t ≤ T ∧ v = .int .i64 (t : Int)) (fun v => T - (intOf v).toNat)
  case atStart => exact ⟨0, Nat.zero_le _, rfl⟩
  case round =>
    obtain ⟨t, ht, rfl⟩ := hrel
    obtain ⟨b, o, hb, hcell⟩ := HS.out
    obtain rfl := hb (by omega)
    have hq : (t : Int).tdiv 32 = ((t / 32 : Nat) : Int) := by rw [Int.tdiv_eq_ediv_of_nonneg (by omega)]; rfl
    have hr : (t : Int).tmod 32 = ((t % 32 : Nat) : Int) := by rw [Int.tmod_eq_emod_of_nonneg (by omega)]; rfl
    have htl : t / 32 < L := by omega
    have g1 := hcell (t / 32) htl
    have hpb : t % 32 < 32 := by omega
    generalize hi : t / 32 = i at *
    generalize hp : t % 32 = p at *
    generalize hd : dg x i = d at *
    have HI : Hid (t / 32 = i ∧ t % 32 = p ∧ dg x i = d) := ⟨hi, hp, hd⟩
    have hbit := bit_tz HTZ.out.1 HT.out.2 ht HI.out
    clear hi hp hd hcell hb
    by_cases htt : t < T
    · rw [decide_eq_true htt] at hbit
      go_wp2_with fail
      exact ⟨⟨t + 1, by omega, by simp⟩, by simp [intOf]; omega⟩
    · rw [decide_eq_false htt] at hbit
      obtain rfl : t = T := by omega
      clear htt ht
      go_wp2_with fail
      refine k64.mono ?_
      rintro r w3 ⟨ao3, cap3, bb, rfl, hA3, hc3, hB3⟩
      clear k64 hq hr hbit g1
      have HH3 : Hid (w3.heap[w.heap.size]? = some (.cells #[.bool false, .slice none 0 0, .int .i64 0] 33 (0, 0))) := box_later HH.out hB3 (by have := HX.out; omega)
      obtain ⟨⟨a1, a2, a3⟩, a4, a5, a6⟩ := box_cells29 HH3.out
      have HA3 : Hid (At w3 ao3 (dlen (x / 2 ^ t)) (x / 2 ^ t) ∧ Below w1.heap.size w1 w3) := ⟨hA3, hB3⟩
      clear hA3 hB3
      have hyo : x / 2 ^ t % 2 = 1 := by rw [← HTZ.out.1]; exact (tz_spec _ x (Nat.le_refl _) HT.out.2).2
      have hy0 : 0 < dlen (x / 2 ^ t) := Nat.pos_of_ne_zero fun e => by rw [dlen_eq_zero.1 e] at hyo; simp at hyo
      have hyl : dlen (x / 2 ^ t) ≤ 1000000000 := by
        have h1 : dlen (x / 2 ^ t) ≤ dlen x := dlen_mono (Nat.div_le_self ..)
        rw [HTZ.out.2] at h1; omega
      obtain ⟨b3, o3, hb3, hc3'⟩ := HA3.out.1
      obtain rfl := hb3 hy0
      have HN : Hid (∀ j u, (cells (x / 2 ^ t) (dlen (x / 2 ^ t)))[j]? = some u → (w3.alloc (Obj.cells (madeCells #[Value.int IntKind.u32 0] 0) 63)).cell? ((⟨b3, o3, none⟩ : Addr).add j) = some u) := fun j u hj => by
        have hjl : j < dlen (x / 2 ^ t) := by
          have := (List.getElem?_eq_some_iff.1 hj).1
          rwa [cells_length] at this
        rw [cells_get hjl] at hj
        have hcl := hc3' j hjl
        rw [show (⟨b3, o3, none⟩ : Addr).add j = ⟨b3, o3 + j, none⟩ by simp [Addr.add]]
        rw [World.cell?_alloc_old _ _ _ (by have := World.block_lt_of_cell? _ _ hcl; show b3 ≠ w3.heap.size; simp at this; omega)]
        rw [← hj]; exact hcl
      have hOM : (w3.alloc (Obj.cells (madeCells #[Value.int IntKind.u32 0] 0) 63)).ownsRow w3.heap.size 63 1 (.slice (some ⟨w3.heap.size, 0, none⟩) 0 0) 0 [] := World.ownsRow_made w3 _ 0 (Nat.le_refl _) (by unfold maxLen; omega) (by simp [madeCells])
      have hmk := run_make_row' (P := Tryz.prog) 31 63 (.int .u32 0) 4 Tryz.underlying31 Tryz.info63 rfl .i64 .i64 0 (by omega) (by omega) w3
      rw [show ((0 : Nat) : Int) = 0 from rfl] at hmk
      clear hc3' hb3 hyo
      generalize hy : x / 2 ^ t = y at *
      have HY : Hid (x / 2 ^ t = y) := hy
      clear hy
      generalize hM : dlen y = M at *
      have HM : Hid (dlen y = M) := hM
      clear hM
      have hM0 : M ≠ 0 := by omega
      obtain ⟨i0, hi0, hz0, hz1, hz2⟩ := info_parts Tryz.info63
      go_wp2_with (at_builtin; refine wpList_append_own _ rfl _ _ 31 rfl w3.heap.size 63 i0 (.int .u32 0) 1 4 Tryz.underlying31 hi0 hz0 hz1 hz2 rfl (by decide) _ 0 [] rfl hOM ⟨b3, o3, none⟩ M cap3 (cells y M) rfl (by rw [cells_length, Nat.mul_one]) HN.out (by intro u hu; simp [cells] at hu; obtain ⟨j, -, rfl⟩ := hu; rfl) (by unfold maxLen; omega) (by omega) (by simp) ?_)
      intro v' w4 hown4 hgrow _
      have hsz := HX.out
      have hs3 := HA3.out.2.size
      have hh4 : w4.heap[w.heap.size]? = some (.cells #[.bool false, .slice none 0 0, .int .i64 0] 33 (0, 0)) := by
        rw [hgrow.block _ (by simp; omega) (fun e => by simp [Value.ownBlock] at e; omega), Lib.alloc_old w3 _ _ (by omega)]
        exact HH3.out
      obtain ⟨⟨a1, a2, a3⟩, a4, a5, a6⟩ := box_cells29 hh4
      have HR : Hid (w4.ownsRow w3.heap.size 63 1 v' M (cells y M) ∧ w4.heap[w.heap.size]? = some (.cells #[.bool false, .slice none 0 0, .int .i64 0] 33 (0, 0))) := ⟨hown4, hh4⟩
      have HG : Hid (Below w3.heap.size w3 w4) := Below.grown ((Below.refl w3.heap.size w3).alloc (Nat.le_refl _) _) hgrow (by simp) (fun k hk => by simp [Value.ownBlock] at hk; omega)
      obtain ⟨g4, cap4, cur4, rfl, hg4, -⟩ := (hown4.2.resolve_left fun h => hM0 h.2)
      clear hown4 hh4 hgrow HN hOM
      go_wp2
      refine bodyPost_ret (results_cell_row rfl _ _ w.heap.size 33 #[.bool neg, .slice (some ⟨g4, 0, none⟩) M cap4, .int .i64 (e + t)] (0, 0) _ rfl (store3_29 _ _ _ HR.out.2) Tryz.underlying33 rfl Tryz.info33) rfl ?_
      obtain ⟨ao5, cap5, hv5, hcc5, hA5⟩ := at_of_row HR.out.1
      simp only [Value.slice.injEq] at hv5
      obtain ⟨rfl, -, rfl⟩ := hv5
      obtain ⟨b5, o5, hb5, hc5⟩ := hA5
      have hb5' := hb5 (by omega)
      simp only [Option.some.injEq, Addr.mk.injEq] at hb5'
      obtain ⟨rfl, rfl, -⟩ := hb5'
      rw [HY.out, HM.out]
      refine ⟨_, _, rfl, by omega, hcc5, ⟨g4, 0, fun _ => rfl, fun j hj => ?_⟩, below_store3 (HB0.out.trans ((HA3.out.2.trans (HG.out.mono hs3)).mono (by omega))) (Nat.le_refl _) _ _ _⟩
      rw [World.cell?_setCell_other _ _ _ _ (by intro e; simp at e), World.cell?_setCell_other _ _ _ _ (by intro e; simp at e), World.cell?_setCell_other _ _ _ _ (by intro e; simp at e)]
      exact hc5 j hj

/-- a number of the document, that can be handed on -/
def NC (w' : World) (base : Nat) (a : Value) (neg : Bool) (x : Nat) (e : Int) : Prop := ∃ ao cap, a = .agg #[.bool (cn neg x e).1, .slice ao (dlen (cn neg x e).2.1) cap, .int .i64 (cn neg x e).2.2] ∧ Arg w' ao (dlen (cn neg x e).2.1) cap (cn neg x e).2.1 ∧ (∀ ad : Addr, ao = some ad → 0 < dlen (cn neg x e).2.1 → base ≤ ad.block)
theorem NC.later {w w' : World} {base : Nat} {a : Value} {neg : Bool} {x : Nat} {e : Int} (h : NC w base a neg x e) (hb : Below w.heap.size w w') : NC w' base a neg x e := by
  obtain ⟨ao, cap, h1, h2, h3⟩ := h
  exact ⟨ao, cap, h1, h2.later hb, h3⟩
theorem NC.mono {w : World} {base base' : Nat} {a : Value} {neg : Bool} {x : Nat} {e : Int} (h : NC w base a neg x e) (hb : base' ≤ base) : NC w base' a neg x e := by
  obtain ⟨ao, cap, h1, h2, h3⟩ := h
  exact ⟨ao, cap, h1, h2, fun ad e hl => Nat.le_trans hb (h3 ad e hl)⟩
theorem rnorm {neg : Bool} {v : Value} {x : Nat} {e : Int} {w : World} (h : Ir w v x) (hc : dlen x ≤ 1000000000) (he : -4611686018427387904 ≤ e ∧ e ≤ 4611686018427387904) :
    Calls Tryz.prog 30 #[.bool neg, v, .int .i64 e] w fun r w' => ∃ a, r = .returned a ∧ NC w' w.heap.size a neg x e ∧ Below w.heap.size w w' := by
  obtain ⟨ao, cap, rfl, h1, h2⟩ := h
  by_cases h0 : x = 0
  · subst h0
    refine (r34_0 neg ao _ cap e w h2 h1 (by omega)).mono ?_
    rintro r w' ⟨rfl, hb⟩
    refine ⟨_, rfl, ⟨none, 0, ?_, ?_, fun ad e => by cases e⟩, hb⟩
    · unfold cn; rw [if_pos rfl, dlen_zero]
    · unfold cn; rw [if_pos rfl]
      exact ⟨fun _ => .inr ⟨rfl, rfl⟩, ⟨0, 0, fun h => by rw [dlen_zero] at h; omega, fun i hi => by rw [dlen_zero] at hi; omega⟩, by rw [dlen_zero]; exact Nat.le_refl _, by rw [dlen_zero]; omega⟩
  · refine (r34c_1 neg ao _ cap x e w h2 (Nat.le_refl _) h1 hc h0 he).mono ?_
    rintro r w' ⟨g, cap', rfl, hg, hcc, ho, hb⟩
    have hle : dlen (x / 2 ^ tz x) ≤ dlen x := dlen_mono (Nat.div_le_self _ _)
    refine ⟨_, rfl, ⟨some ⟨g, 0, none⟩, cap', ?_, ?_, fun ad e _ => ?_⟩, hb⟩
    · unfold cn; rw [if_neg h0]
    · unfold cn; rw [if_neg h0]
      exact ⟨fun _ => .inl ⟨_, rfl⟩, ho, hcc, (by omega : dlen (x / 2 ^ tz x) ≤ 35184372088832)⟩
    · injection e with e; rw [← e]; exact hg
end Go.Proofs.YtdfkpjagnndfdaaGreatDoor
/- The document's Shift. -/
namespace Go.Proofs.YtdfkpjagnndfdaaGreatDoor
set_option linter.unusedVariables false
set_option linter.unusedSimpArgs false
open Go.RowKit

end Go.Proofs.YtdfkpjagnndfdaaGreatDoor
/- The document's High, far. -/
namespace Go.Proofs.YtdfkpjagnndfdaaGreatDoor
set_option linter.unusedVariables false
set_option linter.unusedSimpArgs false
open Go.RowKit

end Go.Proofs.YtdfkpjagnndfdaaGreatDoor
/- The document's Plus. -/
namespace Go.Proofs.YtdfkpjagnndfdaaGreatDoor
set_option linter.unusedVariables false
set_option linter.unusedSimpArgs false
open Go.RowKit

end Go.Proofs.YtdfkpjagnndfdaaGreatDoor
/- Add and Up, refused. -/
namespace Go.Proofs.YtdfkpjagnndfdaaGreatDoor
set_option linter.unusedVariables false
set_option linter.unusedSimpArgs false
open Go.RowKit

end Go.Proofs.YtdfkpjagnndfdaaGreatDoor
/- The document's Plus joined, Add. -/
namespace Go.Proofs.YtdfkpjagnndfdaaGreatDoor
set_option linter.unusedVariables false
set_option linter.unusedSimpArgs false
open Go.RowKit

set_option maxHeartbeats 4000000 in
set_option maxRecDepth 200000 in
theorem rplus_a (na nb : Bool) (ua va : Option Addr) (uc vn vc : Nat) (ea eb : Int) (w : World) (z : Nat) (hAr : Arg w va vn vc z) :
    Calls Tryz.prog 8 #[.agg #[.bool na, .slice ua 0 uc, .int .i64 ea], .agg #[.bool nb, .slice va vn vc, .int .i64 eb]] w fun r w' => ∃ ao' cap', r = .returned (.agg #[.bool nb, .slice ao' vn cap', .int .i64 eb]) ∧ Dn w' w.heap.size (.slice ao' vn cap') vn z ∧ Below w.heap.size w w' := by
  obtain ⟨W, hW⟩ : ∃ W, W = ((w.alloc (.cells #[.bool na, .slice ua 0 uc, .int .i64 ea] 33)).alloc (.cells #[.bool nb, .slice va vn vc, .int .i64 eb] 33)).alloc (.cells #[.bool false, .slice none 0 0, .int .i64 0] 33) := ⟨_, rfl⟩
  obtain ⟨hA, hBb, hC, hsz, hBW⟩ := boxes3 _ _ _ hW
  have hn := hAr.small
  have k1 := rtwin (ng := nb) (e := eb) (hAr.later hBW)
  have HH : Hid (W.heap[w.heap.size + 1 + 1]? = some (.cells #[.bool false, .slice none 0 0, .int .i64 0] 33 (0, 0)) ∧ W.heap.size = w.heap.size + 1 + 1 + 1 ∧ Below w.heap.size w W) := ⟨hC, hsz, hBW⟩
  clear hA hBb hC hsz hBW hAr
  go_enter Tryz.func8, Tryz.ntmps8
  go_wp2_with fail
  rw [← hW]
  clear hW
  refine k1.mono ?_
  rintro r w4 ⟨ao4, cap4, rfl, hd, hB4⟩
  have HC4 : Hid (w4.heap[w.heap.size + 1 + 1]? = some (.cells #[.bool false, .slice none 0 0, .int .i64 0] 33 (0, 0))) := box_later HH.out.1 hB4 (by have := HH.out.2.1; omega)
  obtain ⟨⟨x1, x2, x3⟩, x4, x5, x6⟩ := box_cells29 HC4.out
  have HD4 : Hid (Dn w4 W.heap.size (.slice ao4 vn cap4) vn z ∧ Below W.heap.size W w4) := ⟨hd, hB4⟩
  clear hd hB4 k1
  go_wp2
  refine bodyPost_ret (results_cell_row rfl _ _ (w.heap.size + 1 + 1) 33 #[.bool nb, .slice ao4 vn cap4, .int .i64 eb] (0, 0) _ rfl (store3_29 _ _ _ HC4.out) Tryz.underlying33 rfl Tryz.info33) rfl ?_
  obtain ⟨-, hs, hBW⟩ := HH.out
  obtain ⟨hd, hb⟩ := HD4.out
  exact ⟨_, _, rfl, (((hd.store (by omega) _ _).store (by omega) _ _).store (by omega) _ _).mono (by omega), below_store3 (hBW.trans (hb.mono hBW.size)) (by omega) _ _ _⟩
set_option maxHeartbeats 4000000 in
set_option maxRecDepth 200000 in
theorem rplus_b (na nb : Bool) (ua va : Option Addr) (un uc vc : Nat) (ea eb : Int) (w : World) (z : Nat) (hAr : Arg w ua un uc z) (hn0 : ((un : Int) == 0) = false) :
    Calls Tryz.prog 8 #[.agg #[.bool na, .slice ua un uc, .int .i64 ea], .agg #[.bool nb, .slice va 0 vc, .int .i64 eb]] w fun r w' => ∃ ao' cap', r = .returned (.agg #[.bool na, .slice ao' un cap', .int .i64 ea]) ∧ Dn w' w.heap.size (.slice ao' un cap') un z ∧ Below w.heap.size w w' := by
  obtain ⟨W, hW⟩ : ∃ W, W = ((w.alloc (.cells #[.bool na, .slice ua un uc, .int .i64 ea] 33)).alloc (.cells #[.bool nb, .slice va 0 vc, .int .i64 eb] 33)).alloc (.cells #[.bool false, .slice none 0 0, .int .i64 0] 33) := ⟨_, rfl⟩
  obtain ⟨hA, hBb, hC, hsz, hBW⟩ := boxes3 _ _ _ hW
  have hn := hAr.small
  have k1 := rtwin (ng := na) (e := ea) (hAr.later hBW)
  have HH : Hid (W.heap[w.heap.size + 1 + 1]? = some (.cells #[.bool false, .slice none 0 0, .int .i64 0] 33 (0, 0)) ∧ W.heap.size = w.heap.size + 1 + 1 + 1 ∧ Below w.heap.size w W) := ⟨hC, hsz, hBW⟩
  clear hA hBb hC hsz hBW hAr
  go_enter Tryz.func8, Tryz.ntmps8
  go_wp2_with fail
  rw [← hW]
  clear hW
  refine k1.mono ?_
  rintro r w4 ⟨ao4, cap4, rfl, hd, hB4⟩
  have HC4 : Hid (w4.heap[w.heap.size + 1 + 1]? = some (.cells #[.bool false, .slice none 0 0, .int .i64 0] 33 (0, 0))) := box_later HH.out.1 hB4 (by have := HH.out.2.1; omega)
  obtain ⟨⟨x1, x2, x3⟩, x4, x5, x6⟩ := box_cells29 HC4.out
  have HD4 : Hid (Dn w4 W.heap.size (.slice ao4 un cap4) un z ∧ Below W.heap.size W w4) := ⟨hd, hB4⟩
  clear hd hB4 k1
  go_wp2
  refine bodyPost_ret (results_cell_row rfl _ _ (w.heap.size + 1 + 1) 33 #[.bool na, .slice ao4 un cap4, .int .i64 ea] (0, 0) _ rfl (store3_29 _ _ _ HC4.out) Tryz.underlying33 rfl Tryz.info33) rfl ?_
  obtain ⟨-, hs, hBW⟩ := HH.out
  obtain ⟨hd, hb⟩ := HD4.out
  exact ⟨_, _, rfl, (((hd.store (by omega) _ _).store (by omega) _ _).store (by omega) _ _).mono (by omega), below_store3 (hBW.trans (hb.mono hBW.size)) (by omega) _ _ _⟩

theorem RN.shape {w : World} {base : Nat} {A : Value} {t : Bool × Nat × Int} (h : RN w base A t) : ∃ s ao n cap e, A = .agg #[.bool s, .slice ao n cap, .int .i64 e] := by
  obtain ⟨ao, cap, h1, -⟩ := h
  exact ⟨_, _, _, _, _, h1⟩

/-- the answer and its error: the value t where it may be -/
def Ans (V : Bool) (t : Bool × Nat × Int) : Bool × Nat × Int := if V then t else (false, 0, 0)

end Go.Proofs.YtdfkpjagnndfdaaGreatDoor
/- Plus of the document, of numbers of any length: its answer can be handed on. -/
namespace Go.Proofs.YtdfkpjagnndfdaaGreatDoor
set_option linter.unusedVariables false
set_option linter.unusedSimpArgs false
open Go.RowKit

theorem NC.shape {w : World} {base : Nat} {a : Value} {s : Bool} {z : Nat} {e : Int} (h : NC w base a s z e) : ∃ s ao n cap ex, a = .agg #[.bool s, .slice ao n cap, .int .i64 ex] := by
  obtain ⟨ao, cap, h1, -⟩ := h
  exact ⟨_, _, _, _, _, h1⟩
theorem NC.store {w : World} {base g : Nat} {A : Value} {s : Bool} {z : Nat} {e : Int} (h : NC w base A s z e) (hg : g < base) (a b c : Value) : NC (((w.setCell ⟨g, 0, none⟩ a).setCell ⟨g, 1, none⟩ b).setCell ⟨g, 2, none⟩ c) base A s z e := by
  obtain ⟨ao, cap, h1, h2, h3⟩ := h
  refine ⟨ao, cap, h1, ⟨h2.nil, ?_, h2.le, h2.small⟩, h3⟩
  obtain ⟨bb, oo, hb, hc⟩ := h2.at_
  refine ⟨bb, oo, hb, fun i hi => ?_⟩
  have hbb : base ≤ bb := h3 _ (hb (by omega)) (by omega)
  rw [World.cell?_setCell_other _ _ _ _ (by intro e; simp at e <;> omega), World.cell?_setCell_other _ _ _ _ (by intro e; simp at e <;> omega), World.cell?_setCell_other _ _ _ _ (by intro e; simp at e <;> omega)]
  exact hc i hi
theorem Dn.nc {w : World} {base : Nat} {ao : Option Addr} {cap z : Nat} {s : Bool} {e : Int} (h : Dn w base (.slice ao (dlen z) cap) (dlen z) z) (hc : cn s z e = (s, z, e)) (hz : dlen z ≤ 35184372088832) : NC w base (.agg #[.bool s, .slice ao (dlen z) cap, .int .i64 e]) s z e := by
  refine ⟨ao, cap, by rw [hc], ?_, ?_⟩
  · rw [hc]
    rcases h with ⟨h1, h2⟩ | ⟨g, cap', c, h1, h2, h3, h4, h5, h6⟩
    · simp only [Value.slice.injEq] at h1
      obtain ⟨rfl, -, rfl⟩ := h1
      exact ⟨fun _ => .inr ⟨rfl, rfl⟩, ⟨0, 0, fun h => by simp only at h; omega, fun i hi => by simp only at hi; omega⟩, by simp only; omega, hz⟩
    · simp only [Value.slice.injEq] at h1
      obtain ⟨rfl, -, rfl⟩ := h1
      refine ⟨fun _ => .inl ⟨_, rfl⟩, ⟨g, 0, fun _ => rfl, fun i hi => ?_⟩, h3.1, hz⟩
      rw [Nat.zero_add]
      simp [World.cell?, h4, h6 i hi]
  · rw [hc]
    rcases h with ⟨h1, h2⟩ | ⟨g, cap', c, h1, h2, h3, h4, h5, h6⟩
    · intro ad e hl; simp only at hl; omega
    · simp only [Value.slice.injEq] at h1
      obtain ⟨rfl, -, rfl⟩ := h1
      intro ad e _
      injection e with e; rw [← e]; exact h2
set_option maxHeartbeats 4000000 in
set_option maxRecDepth 200000 in
theorem rplusN_c (na nb : Bool) (ua va : Option Addr) (un uc vn vc X Y : Nat) (ea eb : Int) (w : World) (hne : (na == nb) = true) (hX : dlen (X + Y) ≤ 1000000) (hX1 : dlen X ≤ 1000000) (hX2 : dlen Y ≤ 1000000) (he1 : -4000000 ≤ ea) (he2 : ea ≤ 4000000) (he3 : -4000000 ≤ eb) (he4 : eb ≤ 4000000) (hn0 : ((un : Int) == 0) = false) (hn1 : ((vn : Int) == 0) = false)
    (ku : ∀ W i, Below w.heap.size w W → i = ea - min ea eb → Calls Tryz.prog 29 #[.slice ua un uc, .int .i64 i] W fun r w' => ∃ v, r = .returned v ∧ Ir w' v X ∧ Below W.heap.size W w')
    (kv : ∀ W i, Below w.heap.size w W → i = eb - min ea eb → Calls Tryz.prog 29 #[.slice va vn vc, .int .i64 i] W fun r w' => ∃ v, r = .returned v ∧ Ir w' v Y ∧ Below W.heap.size W w') :
    Calls Tryz.prog 8 #[.agg #[.bool na, .slice ua un uc, .int .i64 ea], .agg #[.bool nb, .slice va vn vc, .int .i64 eb]] w fun r w' => ∃ a, r = .returned a ∧ NC w' w.heap.size a na (X + Y) (min ea eb) ∧ Below w.heap.size w w' := by
  obtain ⟨W, hW⟩ : ∃ W, W = ((w.alloc (.cells #[.bool na, .slice ua un uc, .int .i64 ea] 33)).alloc (.cells #[.bool nb, .slice va vn vc, .int .i64 eb] 33)).alloc (.cells #[.bool false, .slice none 0 0, .int .i64 0] 33) := ⟨_, rfl⟩
  obtain ⟨hA, hBb, hC, hsz, hBW⟩ := boxes3 _ _ _ hW
  have k1 := fun i hi => ku W i hBW hi
  have HKV : Hid (∀ W i, Below w.heap.size w W → i = eb - min ea eb → Calls Tryz.prog 29 #[.slice va vn vc, .int .i64 i] W fun r w' => ∃ v, r = .returned v ∧ Ir w' v Y ∧ Below W.heap.size W w') := kv
  have HH : Hid ((W.heap[w.heap.size]? = some (.cells #[.bool na, .slice ua un uc, .int .i64 ea] 33 (0, 0)) ∧ W.heap[w.heap.size + 1]? = some (.cells #[.bool nb, .slice va vn vc, .int .i64 eb] 33 (0, 0)) ∧ W.heap[w.heap.size + 1 + 1]? = some (.cells #[.bool false, .slice none 0 0, .int .i64 0] 33 (0, 0))) ∧ W.heap.size = w.heap.size + 1 + 1 + 1 ∧ Below w.heap.size w W) := ⟨⟨hA, hBb, hC⟩, hsz, hBW⟩
  clear hA hBb hC hsz hBW ku kv
  go_enter Tryz.func8, Tryz.ntmps8
  go_wp2_with fail
  rw [← hW]
  clear hW
  refine (k1 _ (by first | rfl | (rw [IntKind.wrap_i64]; omega) | omega)).mono ?_
  rintro r w4 ⟨p, rfl, hp, hB4⟩
  clear k1
  obtain ⟨⟨a0, a1, a2⟩, -⟩ := box_cells29 (box_later HH.out.1.1 hB4 (by have := HH.out.2.1; omega))
  obtain ⟨⟨b0, b1, b2⟩, -⟩ := box_cells29 (box_later HH.out.1.2.1 hB4 (by have := HH.out.2.1; omega))
  have HB4 : Hid (Below W.heap.size W w4) := hB4
  have HP4 : Hid (Ir w4 p X) := hp
  clear hB4 hp
  go_wp2_with fail
  refine (HKV.out w4 _ (HH.out.2.2.trans (HB4.out.mono HH.out.2.2.size)) (by first | rfl | (rw [IntKind.wrap_i64]; omega) | omega)).mono ?_
  rintro r w5 ⟨q, rfl, hq, hB5⟩
  have hB5' : Below W.heap.size W w5 := HB4.out.trans (hB5.mono HB4.out.size)
  have hp := HP4.out.later hB5
  clear a0 a1 a2 b0 b1 b2 hB5
  obtain ⟨⟨h1, h2, h3⟩, hs, hBW⟩ := HH.out
  obtain ⟨⟨a0, a1, a2⟩, -⟩ := box_cells29 (box_later h1 hB5' (by omega))
  obtain ⟨⟨b0, b1, b2⟩, -⟩ := box_cells29 (box_later h2 hB5' (by omega))
  have HC5 : Hid (w5.heap[w.heap.size + 1 + 1]? = some (.cells #[.bool false, .slice none 0 0, .int .i64 0] 33 (0, 0)) ∧ Below W.heap.size W w5) := ⟨box_later h3 hB5' (by omega), hB5'⟩
  have hp6 := hp
  have hq6 := hq
  have kS : ∀ W6, Below w5.heap.size w5 W6 → Calls Tryz.prog 31 #[p, q] W6 fun r w' => ∃ v, r = .returned v ∧ Ir w' v (X + Y) ∧ Below w5.heap.size w5 w' := fun W6 hb =>
    (rsum (w := W6) (hp6.later hb) (hq6.later hb) (by omega) (by omega)).mono fun r w' ⟨v, e1, o1, o2⟩ => ⟨v, e1, o1, hb.trans (o2.mono hb.size)⟩
  have hKeep : ∀ w', Below w5.heap.size w5 w' → w'.cell? ⟨w.heap.size, 0, none⟩ = some (.bool na) := fun w' hb => (hb.cell (World.block_lt_of_cell? _ _ a0)).trans a0
  have HK : Hid (∀ w', Below w5.heap.size w5 w' → w'.cell? ⟨w.heap.size, 0, none⟩ = some (.bool na)) := hKeep
  have HR5 : Hid (∀ dd, Below w5.heap.size w5 (w5.drewN dd).drew) := (fun dd => ⟨rfl, rfl, rfl, Nat.le_refl _, fun _ _ => rfl⟩ : ∀ dd, Below w5.heap.size w5 (w5.drewN dd).drew)
  have hR5 : Below w5.heap.size w5 w5.drew := (Below.refl _ _).drew
  have k56 : ∀ v7 w7, Ir w7 v7 (X + Y) → Below w5.heap.size w5 w7 → Calls Tryz.prog 30 #[.bool na, v7, .int .i64 (min ea eb)] w7 fun r w' => ∃ s ao n cap ex, r = .returned (.agg #[.bool s, .slice ao n cap, .int .i64 ex]) ∧
      Hid (NC w' w7.heap.size (.agg #[.bool s, .slice ao n cap, .int .i64 ex]) na (X + Y) (min ea eb) ∧ w5.heap.size ≤ w7.heap.size) ∧ Below w5.heap.size w5 w' ∧ Hid (w'.heap[w.heap.size + 1 + 1]? = some (.cells #[.bool false, .slice none 0 0, .int .i64 0] 33 (0, 0))) ∧
      (w'.cell? ⟨w.heap.size + 1 + 1, 0, none⟩ = some (.bool false) ∧ w'.cell? ⟨w.heap.size + 1 + 1, 1, none⟩ = some (.slice none 0 0) ∧ w'.cell? ⟨w.heap.size + 1 + 1, 2, none⟩ = some (.int .i64 0)) ∧ (w'.frozen? ⟨w.heap.size + 1 + 1, 0, none⟩ = false ∧ w'.frozen? ⟨w.heap.size + 1 + 1, 1, none⟩ = false ∧ w'.frozen? ⟨w.heap.size + 1 + 1, 2, none⟩ = false) := by
    intro v7 w7 ho hb
    obtain ⟨ao0, cap0, rfl, hl0, hat0⟩ := ho
    refine (rnorm ⟨ao0, cap0, rfl, hl0, hat0⟩ (by omega) (by omega)).mono ?_
    rintro r w8 ⟨a, rfl, hN, hb8⟩
    obtain ⟨s, ao, n, cap, ex, rfl⟩ := hN.shape
    have hb58 : Below w5.heap.size w5 w8 := hb.trans (hb8.mono hb.size)
    have hblk := box_later HC5.out.1 hb58 (by have := HC5.out.2.size; omega)
    obtain ⟨f1, f2⟩ := box_cells29 hblk
    exact ⟨s, ao, n, cap, ex, rfl, ⟨hN, hb.size⟩, hb58, hblk, f1, f2⟩
  clear h1 h2 h3 hp hq hp6 hq6 hB5' hs hBW hKeep hX hX1 hX2 HR5
  go_wp2
  go_region_held3 (fun w' => w'.cell? ⟨w.heap.size, 0, none⟩ = some (.bool na)) (first | (with_reducible assumption) | (refine HK.out _ ?_; with_reducible assumption) | (rw [World.cell?_setCell_other _ _ _ _ (by simp), World.cell?_setCell_other _ _ _ _ (by simp), World.cell?_setCell_other _ _ _ _ (by simp)]; refine HK.out _ ?_; with_reducible assumption) | go_keep)
    (first | (go_at_call 31; refine (kS _ (by first | (with_reducible assumption) | exact hR5)).mono ?_; rintro r w7 ⟨v7, rfl, ho7, hb7⟩) | (go_at_call 30; refine (k56 _ _ ho7 hb7).mono ?_; rintro r w8 ⟨s8, ao8, n8, cap8, ex8, rfl, hN8, hb8, hblk8, ⟨x1, x2, x3⟩, x4, x5, x6⟩))
  have HF : Hid (Below w5.heap.size w5 w8) := hb8
  clear ho7 hb7 hb8 k56 kS x1 x2 x3 x4 x5 x6 a0 a1 a2 b0 b1 b2 HK
  go_wp2
  refine bodyPost_ret (results_cell_row rfl _ _ (w.heap.size + 1 + 1) 33 #[.bool s8, .slice ao8 n8 cap8, .int .i64 ex8] (0, 0) _ rfl (store3_29 _ _ _ hblk8.out) Tryz.underlying33 rfl Tryz.info33) rfl ?_
  obtain ⟨-, hs, hBW⟩ := HH.out
  have hs4 := HC5.out.2.size
  have hs5 := hN8.out.2
  exact ⟨_, rfl, (hN8.out.1.store (by omega) _ _ _).mono (by omega), below_store3 (hBW.trans ((HC5.out.2.trans (HF.out.mono hs4)).mono hBW.size)) (by omega) _ _ _⟩
set_option maxHeartbeats 4000000 in
set_option maxRecDepth 200000 in
theorem rplusN_d (na nb : Bool) (ua va : Option Addr) (un uc vn vc X Y : Nat) (ea eb : Int) (w : World) (hlt : X < Y) (hne : (na == nb) = false) (hX : dlen (Y - X) ≤ 1000000) (hX1 : dlen X ≤ 1000000) (hX2 : dlen Y ≤ 1000000) (he1 : -4000000 ≤ ea) (he2 : ea ≤ 4000000) (he3 : -4000000 ≤ eb) (he4 : eb ≤ 4000000) (hn0 : ((un : Int) == 0) = false) (hn1 : ((vn : Int) == 0) = false)
    (ku : ∀ W i, Below w.heap.size w W → i = ea - min ea eb → Calls Tryz.prog 29 #[.slice ua un uc, .int .i64 i] W fun r w' => ∃ v, r = .returned v ∧ Ir w' v X ∧ Below W.heap.size W w')
    (kv : ∀ W i, Below w.heap.size w W → i = eb - min ea eb → Calls Tryz.prog 29 #[.slice va vn vc, .int .i64 i] W fun r w' => ∃ v, r = .returned v ∧ Ir w' v Y ∧ Below W.heap.size W w') :
    Calls Tryz.prog 8 #[.agg #[.bool na, .slice ua un uc, .int .i64 ea], .agg #[.bool nb, .slice va vn vc, .int .i64 eb]] w fun r w' => ∃ a, r = .returned a ∧ NC w' w.heap.size a nb (Y - X) (min ea eb) ∧ Below w.heap.size w w' := by
  obtain ⟨W, hW⟩ : ∃ W, W = ((w.alloc (.cells #[.bool na, .slice ua un uc, .int .i64 ea] 33)).alloc (.cells #[.bool nb, .slice va vn vc, .int .i64 eb] 33)).alloc (.cells #[.bool false, .slice none 0 0, .int .i64 0] 33) := ⟨_, rfl⟩
  obtain ⟨hA, hBb, hC, hsz, hBW⟩ := boxes3 _ _ _ hW
  have k1 := fun i hi => ku W i hBW hi
  have HKV : Hid (∀ W i, Below w.heap.size w W → i = eb - min ea eb → Calls Tryz.prog 29 #[.slice va vn vc, .int .i64 i] W fun r w' => ∃ v, r = .returned v ∧ Ir w' v Y ∧ Below W.heap.size W w') := kv
  have HH : Hid ((W.heap[w.heap.size]? = some (.cells #[.bool na, .slice ua un uc, .int .i64 ea] 33 (0, 0)) ∧ W.heap[w.heap.size + 1]? = some (.cells #[.bool nb, .slice va vn vc, .int .i64 eb] 33 (0, 0)) ∧ W.heap[w.heap.size + 1 + 1]? = some (.cells #[.bool false, .slice none 0 0, .int .i64 0] 33 (0, 0))) ∧ W.heap.size = w.heap.size + 1 + 1 + 1 ∧ Below w.heap.size w W) := ⟨⟨hA, hBb, hC⟩, hsz, hBW⟩
  clear hA hBb hC hsz hBW ku kv
  go_enter Tryz.func8, Tryz.ntmps8
  go_wp2_with fail
  rw [← hW]
  clear hW
  refine (k1 _ (by first | rfl | (rw [IntKind.wrap_i64]; omega) | omega)).mono ?_
  rintro r w4 ⟨p, rfl, hp, hB4⟩
  clear k1
  obtain ⟨⟨a0, a1, a2⟩, -⟩ := box_cells29 (box_later HH.out.1.1 hB4 (by have := HH.out.2.1; omega))
  obtain ⟨⟨b0, b1, b2⟩, -⟩ := box_cells29 (box_later HH.out.1.2.1 hB4 (by have := HH.out.2.1; omega))
  have HB4 : Hid (Below W.heap.size W w4) := hB4
  have HP4 : Hid (Ir w4 p X) := hp
  clear hB4 hp
  go_wp2_with fail
  refine (HKV.out w4 _ (HH.out.2.2.trans (HB4.out.mono HH.out.2.2.size)) (by first | rfl | (rw [IntKind.wrap_i64]; omega) | omega)).mono ?_
  rintro r w5 ⟨q, rfl, hq, hB5⟩
  have hB5' : Below W.heap.size W w5 := HB4.out.trans (hB5.mono HB4.out.size)
  have hp := HP4.out.later hB5
  clear a0 a1 a2 b0 b1 b2 hB5
  obtain ⟨⟨h1, h2, h3⟩, hs, hBW⟩ := HH.out
  obtain ⟨⟨a0, a1, a2⟩, -⟩ := box_cells29 (box_later h1 hB5' (by omega))
  obtain ⟨⟨b0, b1, b2⟩, -⟩ := box_cells29 (box_later h2 hB5' (by omega))
  have HC5 : Hid (w5.heap[w.heap.size + 1 + 1]? = some (.cells #[.bool false, .slice none 0 0, .int .i64 0] 33 (0, 0)) ∧ Below W.heap.size W w5) := ⟨box_later h3 hB5' (by omega), hB5'⟩
  have hp6 := hp
  have hq6 := hq
  have kS : ∀ W6, Below w5.heap.size w5 W6 → Calls Tryz.prog 33 #[q, p] W6 fun r w' => ∃ v, r = .returned v ∧ Ir w' v (Y - X) ∧ Below w5.heap.size w5 w' := fun W6 hb =>
    (rless (w := W6) (hq6.later hb) (hp6.later hb) (by omega) (by omega)).mono fun r w' ⟨v, e1, o1, o2⟩ => ⟨v, e1, o1, hb.trans (o2.mono hb.size)⟩
  have hKeep : ∀ w', Below w5.heap.size w5 w' → w'.cell? ⟨w.heap.size + 1, 0, none⟩ = some (.bool nb) := fun w' hb => (hb.cell (World.block_lt_of_cell? _ _ b0)).trans b0
  have HK : Hid (∀ w', Below w5.heap.size w5 w' → w'.cell? ⟨w.heap.size + 1, 0, none⟩ = some (.bool nb)) := hKeep
  have HR5 : Hid (∀ dd, Below w5.heap.size w5 (w5.drewN dd).drew) := (fun dd => ⟨rfl, rfl, rfl, Nat.le_refl _, fun _ _ => rfl⟩ : ∀ dd, Below w5.heap.size w5 (w5.drewN dd).drew)
  have hR5 : Below w5.heap.size w5 w5.drew := (Below.refl _ _).drew
  have k56 : ∀ v7 w7, Ir w7 v7 (Y - X) → Below w5.heap.size w5 w7 → Calls Tryz.prog 30 #[.bool nb, v7, .int .i64 (min ea eb)] w7 fun r w' => ∃ s ao n cap ex, r = .returned (.agg #[.bool s, .slice ao n cap, .int .i64 ex]) ∧
      Hid (NC w' w7.heap.size (.agg #[.bool s, .slice ao n cap, .int .i64 ex]) nb (Y - X) (min ea eb) ∧ w5.heap.size ≤ w7.heap.size) ∧ Below w5.heap.size w5 w' ∧ Hid (w'.heap[w.heap.size + 1 + 1]? = some (.cells #[.bool false, .slice none 0 0, .int .i64 0] 33 (0, 0))) ∧
      (w'.cell? ⟨w.heap.size + 1 + 1, 0, none⟩ = some (.bool false) ∧ w'.cell? ⟨w.heap.size + 1 + 1, 1, none⟩ = some (.slice none 0 0) ∧ w'.cell? ⟨w.heap.size + 1 + 1, 2, none⟩ = some (.int .i64 0)) ∧ (w'.frozen? ⟨w.heap.size + 1 + 1, 0, none⟩ = false ∧ w'.frozen? ⟨w.heap.size + 1 + 1, 1, none⟩ = false ∧ w'.frozen? ⟨w.heap.size + 1 + 1, 2, none⟩ = false) := by
    intro v7 w7 ho hb
    obtain ⟨ao0, cap0, rfl, hl0, hat0⟩ := ho
    refine (rnorm ⟨ao0, cap0, rfl, hl0, hat0⟩ (by omega) (by omega)).mono ?_
    rintro r w8 ⟨a, rfl, hN, hb8⟩
    obtain ⟨s, ao, n, cap, ex, rfl⟩ := hN.shape
    have hb58 : Below w5.heap.size w5 w8 := hb.trans (hb8.mono hb.size)
    have hblk := box_later HC5.out.1 hb58 (by have := HC5.out.2.size; omega)
    obtain ⟨f1, f2⟩ := box_cells29 hblk
    exact ⟨s, ao, n, cap, ex, rfl, ⟨hN, hb.size⟩, hb58, hblk, f1, f2⟩
  have k129 := rord hp hq (by omega) (by omega)
  have hcm : cmpI (X : Int) (Y : Int) < 0 := by unfold cmpI; rw [if_pos (by omega)]; omega
  generalize cmpI (X : Int) (Y : Int) = cv at *
  clear h1 h2 h3 hp hq hp6 hq6 hB5' hs hBW hKeep hX hX1 hX2 hlt
  go_wp2_with fail
  refine k129.mono ?_
  rintro r w7 ⟨rfl, dd, rfl⟩
  have hR5 := HR5.out dd
  clear k129
  have z0 : (w5.drewN dd).cell? ⟨w.heap.size + 1, 0, none⟩ = some (.bool nb) := b0
  go_wp2
  go_region_held3 (fun w' => w'.cell? ⟨w.heap.size + 1, 0, none⟩ = some (.bool nb)) (first | (with_reducible assumption) | (refine HK.out _ ?_; with_reducible assumption) | (rw [World.cell?_setCell_other _ _ _ _ (by simp), World.cell?_setCell_other _ _ _ _ (by simp), World.cell?_setCell_other _ _ _ _ (by simp)]; refine HK.out _ ?_; with_reducible assumption) | go_keep)
    (first | (go_at_call 33; refine (kS _ (by first | (with_reducible assumption) | exact hR5)).mono ?_; rintro r w7 ⟨v7, rfl, ho7, hb7⟩) | (go_at_call 30; refine (k56 _ _ ho7 hb7).mono ?_; rintro r w8 ⟨s8, ao8, n8, cap8, ex8, rfl, hN8, hb8, hblk8, ⟨x1, x2, x3⟩, x4, x5, x6⟩))
  have HF : Hid (Below w5.heap.size w5 w8) := hb8
  clear ho7 hb7 hb8 k56 kS x1 x2 x3 x4 x5 x6 a0 a1 a2 b0 b1 b2 HK
  go_wp2
  refine bodyPost_ret (results_cell_row rfl _ _ (w.heap.size + 1 + 1) 33 #[.bool s8, .slice ao8 n8 cap8, .int .i64 ex8] (0, 0) _ rfl (store3_29 _ _ _ hblk8.out) Tryz.underlying33 rfl Tryz.info33) rfl ?_
  obtain ⟨-, hs, hBW⟩ := HH.out
  have hs4 := HC5.out.2.size
  have hs5 := hN8.out.2
  exact ⟨_, rfl, (hN8.out.1.store (by omega) _ _ _).mono (by omega), below_store3 (hBW.trans ((HC5.out.2.trans (HF.out.mono hs4)).mono hBW.size)) (by omega) _ _ _⟩
set_option maxHeartbeats 4000000 in
set_option maxRecDepth 200000 in
theorem rplusN_e (na nb : Bool) (ua va : Option Addr) (un uc vn vc X Y : Nat) (ea eb : Int) (w : World) (hlt : Y ≤ X) (hne : (na == nb) = false) (hX : dlen (X - Y) ≤ 1000000) (hX1 : dlen X ≤ 1000000) (hX2 : dlen Y ≤ 1000000) (he1 : -4000000 ≤ ea) (he2 : ea ≤ 4000000) (he3 : -4000000 ≤ eb) (he4 : eb ≤ 4000000) (hn0 : ((un : Int) == 0) = false) (hn1 : ((vn : Int) == 0) = false)
    (ku : ∀ W i, Below w.heap.size w W → i = ea - min ea eb → Calls Tryz.prog 29 #[.slice ua un uc, .int .i64 i] W fun r w' => ∃ v, r = .returned v ∧ Ir w' v X ∧ Below W.heap.size W w')
    (kv : ∀ W i, Below w.heap.size w W → i = eb - min ea eb → Calls Tryz.prog 29 #[.slice va vn vc, .int .i64 i] W fun r w' => ∃ v, r = .returned v ∧ Ir w' v Y ∧ Below W.heap.size W w') :
    Calls Tryz.prog 8 #[.agg #[.bool na, .slice ua un uc, .int .i64 ea], .agg #[.bool nb, .slice va vn vc, .int .i64 eb]] w fun r w' => ∃ a, r = .returned a ∧ NC w' w.heap.size a na (X - Y) (min ea eb) ∧ Below w.heap.size w w' := by
  obtain ⟨W, hW⟩ : ∃ W, W = ((w.alloc (.cells #[.bool na, .slice ua un uc, .int .i64 ea] 33)).alloc (.cells #[.bool nb, .slice va vn vc, .int .i64 eb] 33)).alloc (.cells #[.bool false, .slice none 0 0, .int .i64 0] 33) := ⟨_, rfl⟩
  obtain ⟨hA, hBb, hC, hsz, hBW⟩ := boxes3 _ _ _ hW
  have k1 := fun i hi => ku W i hBW hi
  have HKV : Hid (∀ W i, Below w.heap.size w W → i = eb - min ea eb → Calls Tryz.prog 29 #[.slice va vn vc, .int .i64 i] W fun r w' => ∃ v, r = .returned v ∧ Ir w' v Y ∧ Below W.heap.size W w') := kv
  have HH : Hid ((W.heap[w.heap.size]? = some (.cells #[.bool na, .slice ua un uc, .int .i64 ea] 33 (0, 0)) ∧ W.heap[w.heap.size + 1]? = some (.cells #[.bool nb, .slice va vn vc, .int .i64 eb] 33 (0, 0)) ∧ W.heap[w.heap.size + 1 + 1]? = some (.cells #[.bool false, .slice none 0 0, .int .i64 0] 33 (0, 0))) ∧ W.heap.size = w.heap.size + 1 + 1 + 1 ∧ Below w.heap.size w W) := ⟨⟨hA, hBb, hC⟩, hsz, hBW⟩
  clear hA hBb hC hsz hBW ku kv
  go_enter Tryz.func8, Tryz.ntmps8
  go_wp2_with fail
  rw [← hW]
  clear hW
  refine (k1 _ (by first | rfl | (rw [IntKind.wrap_i64]; omega) | omega)).mono ?_
  rintro r w4 ⟨p, rfl, hp, hB4⟩
  clear k1
  obtain ⟨⟨a0, a1, a2⟩, -⟩ := box_cells29 (box_later HH.out.1.1 hB4 (by have := HH.out.2.1; omega))
  obtain ⟨⟨b0, b1, b2⟩, -⟩ := box_cells29 (box_later HH.out.1.2.1 hB4 (by have := HH.out.2.1; omega))
  have HB4 : Hid (Below W.heap.size W w4) := hB4
  have HP4 : Hid (Ir w4 p X) := hp
  clear hB4 hp
  go_wp2_with fail
  refine (HKV.out w4 _ (HH.out.2.2.trans (HB4.out.mono HH.out.2.2.size)) (by first | rfl | (rw [IntKind.wrap_i64]; omega) | omega)).mono ?_
  rintro r w5 ⟨q, rfl, hq, hB5⟩
  have hB5' : Below W.heap.size W w5 := HB4.out.trans (hB5.mono HB4.out.size)
  have hp := HP4.out.later hB5
  clear a0 a1 a2 b0 b1 b2 hB5
  obtain ⟨⟨h1, h2, h3⟩, hs, hBW⟩ := HH.out
  obtain ⟨⟨a0, a1, a2⟩, -⟩ := box_cells29 (box_later h1 hB5' (by omega))
  obtain ⟨⟨b0, b1, b2⟩, -⟩ := box_cells29 (box_later h2 hB5' (by omega))
  have HC5 : Hid (w5.heap[w.heap.size + 1 + 1]? = some (.cells #[.bool false, .slice none 0 0, .int .i64 0] 33 (0, 0)) ∧ Below W.heap.size W w5) := ⟨box_later h3 hB5' (by omega), hB5'⟩
  have hp6 := hp
  have hq6 := hq
  have kS : ∀ W6, Below w5.heap.size w5 W6 → Calls Tryz.prog 33 #[p, q] W6 fun r w' => ∃ v, r = .returned v ∧ Ir w' v (X - Y) ∧ Below w5.heap.size w5 w' := fun W6 hb =>
    (rless (w := W6) (hp6.later hb) (hq6.later hb) (by omega) (by omega)).mono fun r w' ⟨v, e1, o1, o2⟩ => ⟨v, e1, o1, hb.trans (o2.mono hb.size)⟩
  have hKeep : ∀ w', Below w5.heap.size w5 w' → w'.cell? ⟨w.heap.size, 0, none⟩ = some (.bool na) := fun w' hb => (hb.cell (World.block_lt_of_cell? _ _ a0)).trans a0
  have HK : Hid (∀ w', Below w5.heap.size w5 w' → w'.cell? ⟨w.heap.size, 0, none⟩ = some (.bool na)) := hKeep
  have HR5 : Hid (∀ dd, Below w5.heap.size w5 (w5.drewN dd).drew) := (fun dd => ⟨rfl, rfl, rfl, Nat.le_refl _, fun _ _ => rfl⟩ : ∀ dd, Below w5.heap.size w5 (w5.drewN dd).drew)
  have hR5 : Below w5.heap.size w5 w5.drew := (Below.refl _ _).drew
  have k56 : ∀ v7 w7, Ir w7 v7 (X - Y) → Below w5.heap.size w5 w7 → Calls Tryz.prog 30 #[.bool na, v7, .int .i64 (min ea eb)] w7 fun r w' => ∃ s ao n cap ex, r = .returned (.agg #[.bool s, .slice ao n cap, .int .i64 ex]) ∧
      Hid (NC w' w7.heap.size (.agg #[.bool s, .slice ao n cap, .int .i64 ex]) na (X - Y) (min ea eb) ∧ w5.heap.size ≤ w7.heap.size) ∧ Below w5.heap.size w5 w' ∧ Hid (w'.heap[w.heap.size + 1 + 1]? = some (.cells #[.bool false, .slice none 0 0, .int .i64 0] 33 (0, 0))) ∧
      (w'.cell? ⟨w.heap.size + 1 + 1, 0, none⟩ = some (.bool false) ∧ w'.cell? ⟨w.heap.size + 1 + 1, 1, none⟩ = some (.slice none 0 0) ∧ w'.cell? ⟨w.heap.size + 1 + 1, 2, none⟩ = some (.int .i64 0)) ∧ (w'.frozen? ⟨w.heap.size + 1 + 1, 0, none⟩ = false ∧ w'.frozen? ⟨w.heap.size + 1 + 1, 1, none⟩ = false ∧ w'.frozen? ⟨w.heap.size + 1 + 1, 2, none⟩ = false) := by
    intro v7 w7 ho hb
    obtain ⟨ao0, cap0, rfl, hl0, hat0⟩ := ho
    refine (rnorm ⟨ao0, cap0, rfl, hl0, hat0⟩ (by omega) (by omega)).mono ?_
    rintro r w8 ⟨a, rfl, hN, hb8⟩
    obtain ⟨s, ao, n, cap, ex, rfl⟩ := hN.shape
    have hb58 : Below w5.heap.size w5 w8 := hb.trans (hb8.mono hb.size)
    have hblk := box_later HC5.out.1 hb58 (by have := HC5.out.2.size; omega)
    obtain ⟨f1, f2⟩ := box_cells29 hblk
    exact ⟨s, ao, n, cap, ex, rfl, ⟨hN, hb.size⟩, hb58, hblk, f1, f2⟩
  have k129 := rord hp hq (by omega) (by omega)
  have hcm : ¬ cmpI (X : Int) (Y : Int) < 0 := by unfold cmpI; rw [if_neg (by omega)]; split <;> omega
  generalize cmpI (X : Int) (Y : Int) = cv at *
  clear h1 h2 h3 hp hq hp6 hq6 hB5' hs hBW hKeep hX hX1 hX2 hlt
  go_wp2_with fail
  refine k129.mono ?_
  rintro r w7 ⟨rfl, dd, rfl⟩
  have hR5 := HR5.out dd
  clear k129
  have z0 : (w5.drewN dd).cell? ⟨w.heap.size, 0, none⟩ = some (.bool na) := a0
  go_wp2
  go_region_held3 (fun w' => w'.cell? ⟨w.heap.size, 0, none⟩ = some (.bool na)) (first | (with_reducible assumption) | (refine HK.out _ ?_; with_reducible assumption) | (rw [World.cell?_setCell_other _ _ _ _ (by simp), World.cell?_setCell_other _ _ _ _ (by simp), World.cell?_setCell_other _ _ _ _ (by simp)]; refine HK.out _ ?_; with_reducible assumption) | go_keep)
    (first | (go_at_call 33; refine (kS _ (by first | (with_reducible assumption) | exact hR5)).mono ?_; rintro r w7 ⟨v7, rfl, ho7, hb7⟩) | (go_at_call 30; refine (k56 _ _ ho7 hb7).mono ?_; rintro r w8 ⟨s8, ao8, n8, cap8, ex8, rfl, hN8, hb8, hblk8, ⟨x1, x2, x3⟩, x4, x5, x6⟩))
  have HF : Hid (Below w5.heap.size w5 w8) := hb8
  clear ho7 hb7 hb8 k56 kS x1 x2 x3 x4 x5 x6 a0 a1 a2 b0 b1 b2 HK
  go_wp2
  refine bodyPost_ret (results_cell_row rfl _ _ (w.heap.size + 1 + 1) 33 #[.bool s8, .slice ao8 n8 cap8, .int .i64 ex8] (0, 0) _ rfl (store3_29 _ _ _ hblk8.out) Tryz.underlying33 rfl Tryz.info33) rfl ?_
  obtain ⟨-, hs, hBW⟩ := HH.out
  have hs4 := HC5.out.2.size
  have hs5 := hN8.out.2
  exact ⟨_, rfl, (hN8.out.1.store (by omega) _ _ _).mono (by omega), below_store3 (hBW.trans ((HC5.out.2.trans (HF.out.mono hs4)).mono hBW.size)) (by omega) _ _ _⟩
theorem rplusG {na nb : Bool} {ua va : Option Addr} {uc vc x y : Nat} {ea eb : Int} {w : World} (h1 : Arg w ua (dlen x) uc x) (h2 : Arg w va (dlen y) vc y) (c1 : cn na x ea = (na, x, ea)) (c2 : cn nb y eb = (nb, y, eb)) (he1 : -2000000 ≤ ea) (he2 : ea ≤ 2000000) (he3 : -2000000 ≤ eb) (he4 : eb ≤ 2000000) (hl1 : dlen x ≤ 300000) (hl2 : dlen y ≤ 300000) :
    Calls Tryz.prog 8 #[.agg #[.bool na, .slice ua (dlen x) uc, .int .i64 ea], .agg #[.bool nb, .slice va (dlen y) vc, .int .i64 eb]] w fun r w' => ∃ a, r = .returned a ∧ NC w' w.heap.size a (sumN na x ea nb y eb).1 (sumN na x ea nb y eb).2.1 (sumN na x ea nb y eb).2.2 ∧ Below w.heap.size w w' := by
  unfold sumN
  by_cases x0 : x = 0
  · rw [if_pos x0]
    show Calls _ _ _ _ fun r w' => ∃ a, r = .returned a ∧ NC w' w.heap.size a nb y eb ∧ _
    subst x0
    rw [dlen_zero]
    refine (rplus_a na nb ua va uc _ vc ea eb w y h2).mono ?_
    rintro r w' ⟨ao', cap', rfl, hd, hb⟩
    exact ⟨_, rfl, hd.nc (by first | exact c2 | exact c1) (by omega), hb⟩
  · rw [if_neg x0]
    by_cases y0 : y = 0
    · rw [if_pos y0]
      show Calls _ _ _ _ fun r w' => ∃ a, r = .returned a ∧ NC w' w.heap.size a na x ea ∧ _
      subst y0
      rw [dlen_zero]
      refine (rplus_b na nb ua va _ uc vc ea eb w x h1 (len_ne (n := 0) x0)).mono ?_
      rintro r w' ⟨ao', cap', rfl, hd, hb⟩
      exact ⟨_, rfl, hd.nc (by first | exact c2 | exact c1) (by omega), hb⟩
    · rw [if_neg y0]
      have l1 : dlen (x * 2 ^ (ea - min ea eb).toNat) ≤ 760000 := by have := shl_len (x := x) (k := (ea - min ea eb).toNat) rfl; omega
      have l2 : dlen (y * 2 ^ (eb - min ea eb).toNat) ≤ 760000 := by have := shl_len (x := y) (k := (eb - min ea eb).toNat) rfl; omega
      have ku : ∀ W i, Below w.heap.size w W → i = ea - min ea eb → Calls Tryz.prog 29 #[.slice ua (dlen x) uc, .int .i64 i] W fun r w' => ∃ v, r = .returned v ∧ Ir w' v (x * 2 ^ (ea - min ea eb).toNat) ∧ Below W.heap.size W w' := by
        intro W i hW hi
        have hik : i = (((ea - min ea eb).toNat : Nat) : Int) := by omega
        rw [hik]
        exact rup ⟨ua, uc, rfl, h1.le, (h1.later hW).at_⟩ _ (by omega) (by omega)
      have kv : ∀ W i, Below w.heap.size w W → i = eb - min ea eb → Calls Tryz.prog 29 #[.slice va (dlen y) vc, .int .i64 i] W fun r w' => ∃ v, r = .returned v ∧ Ir w' v (y * 2 ^ (eb - min ea eb).toNat) ∧ Below W.heap.size W w' := by
        intro W i hW hi
        have hik : i = (((eb - min ea eb).toNat : Nat) : Int) := by omega
        rw [hik]
        exact rup ⟨va, vc, rfl, h2.le, (h2.later hW).at_⟩ _ (by omega) (by omega)
      by_cases hs : na = nb
      · rw [if_pos hs]
        have hne : (na == nb) = true := by simp [hs]
        refine (rplusN_c na nb ua va _ uc _ vc _ _ ea eb w hne (by have := dlen_add_le (x * 2 ^ (ea - min ea eb).toNat) (y * 2 ^ (eb - min ea eb).toNat); omega) (by omega) (by omega) (by omega) (by omega) (by omega) (by omega) (len_ne (n := 0) x0) (len_ne (n := 0) y0) ku kv).mono ?_
        rintro r w' ⟨a, rfl, hn, hb⟩
        exact ⟨a, rfl, hn, hb⟩
      · rw [if_neg hs]
        have hne : (na == nb) = false := by simp [hs]
        by_cases hlt : x * 2 ^ (ea - min ea eb).toNat < y * 2 ^ (eb - min ea eb).toNat
        · rw [if_pos hlt]
          refine (rplusN_d na nb ua va _ uc _ vc _ _ ea eb w hlt hne (Nat.le_trans (dlen_mono (Nat.sub_le ..)) (by omega)) (by omega) (by omega) (by omega) (by omega) (by omega) (by omega) (len_ne (n := 0) x0) (len_ne (n := 0) y0) ku kv).mono ?_
          rintro r w' ⟨a, rfl, hn, hb⟩
          exact ⟨a, rfl, hn, hb⟩
        · rw [if_neg hlt]
          refine (rplusN_e na nb ua va _ uc _ vc _ _ ea eb w (by omega) hne (Nat.le_trans (dlen_mono (Nat.sub_le ..)) (by omega)) (by omega) (by omega) (by omega) (by omega) (by omega) (by omega) (len_ne (n := 0) x0) (len_ne (n := 0) y0) ku kv).mono ?_
          rintro r w' ⟨a, rfl, hn, hb⟩
          exact ⟨a, rfl, hn, hb⟩

end Go.Proofs.YtdfkpjagnndfdaaGreatDoor
/- The document's Float, as a number that can be handed on. -/
namespace Go.Proofs.YtdfkpjagnndfdaaGreatDoor
set_option linter.unusedVariables false
set_option linter.unusedSimpArgs false
open Go.RowKit Go.Fl64

theorem rnormN {neg : Bool} {ao : Option Addr} {n cap x : Nat} {e : Int} {w : World} (h2 : At w ao n x) (hn : dlen x ≤ n) (h1 : n ≤ cap) (hc : n ≤ 1000000000) (he : -4611686018427387904 ≤ e ∧ e ≤ 4611686018427387904) :
    Calls Tryz.prog 30 #[.bool neg, .slice ao n cap, .int .i64 e] w fun r w' => ∃ a, r = .returned a ∧ NC w' w.heap.size a neg x e ∧ Below w.heap.size w w' := by
  by_cases h0 : x = 0
  · subst h0
    refine (r34_0 neg ao _ cap e w h2 h1 (by omega)).mono ?_
    rintro r w' ⟨rfl, hb⟩
    refine ⟨_, rfl, ⟨none, 0, ?_, ?_, fun ad e => by cases e⟩, hb⟩
    · unfold cn; rw [if_pos rfl, dlen_zero]
    · unfold cn; rw [if_pos rfl]
      exact ⟨fun _ => .inr ⟨rfl, rfl⟩, ⟨0, 0, fun h => by rw [dlen_zero] at h; omega, fun i hi => by rw [dlen_zero] at hi; omega⟩, by rw [dlen_zero]; exact Nat.le_refl _, by rw [dlen_zero]; omega⟩
  · refine (r34c_1 neg ao _ cap x e w h2 hn h1 hc h0 he).mono ?_
    rintro r w' ⟨g, cap', rfl, hg, hcc, ho, hb⟩
    have hle : dlen (x / 2 ^ tz x) ≤ dlen x := dlen_mono (Nat.div_le_self _ _)
    refine ⟨_, rfl, ⟨some ⟨g, 0, none⟩, cap', ?_, ?_, fun ad e _ => ?_⟩, hb⟩
    · unfold cn; rw [if_neg h0]
    · unfold cn; rw [if_neg h0]
      exact ⟨fun _ => .inl ⟨_, rfl⟩, ho, hcc, (by omega : dlen (x / 2 ^ tz x) ≤ 35184372088832)⟩
    · injection e with e; rw [← e]; exact hg
theorem xnorm_two {ng : Bool} {m : Nat} {e : Int} {W : World} (hm : m < 18446744073709551616) (he : -4611686018427387904 ≤ e ∧ e ≤ 4611686018427387904) :
    Calls Tryz.prog 30 #[.bool ng, .slice (some ⟨W.heap.size, 0, none⟩) 2 2, .int .i64 e] (W.alloc (Obj.cells #[Value.int IntKind.u32 ((m : Int) % 4294967296), Value.int IntKind.u32 ((m : Int) / 4294967296)] 63)) fun r w' => ∃ s ao n cap ex, r = .returned (.agg #[.bool s, .slice ao n cap, .int .i64 ex]) ∧ NC w' (W.heap.size + 1) (.agg #[.bool s, .slice ao n cap, .int .i64 ex]) ng m e ∧ Below W.heap.size W w' := by
  have hL : dlen m ≤ 2 := (dlen_le 2 m).2 (by unfold B; omega)
  refine (rnormN (two_at m W hm) hL (Nat.le_refl _) (by omega) he).mono ?_
  rintro r w' ⟨a, rfl, hn, hb⟩
  obtain ⟨s, ao, n, cap, ex, rfl⟩ := hn.shape
  refine ⟨_, _, _, _, _, rfl, hn.mono (by simp), ?_⟩
  exact ((Below.refl W.heap.size W).alloc (Nat.le_refl _) _).trans (hb.mono (by simp))

set_option maxRecDepth 200000 in
theorem x33_0 (a m : Nat) (w : World) (ng : Bool) (hX : bits .and .u64 ((a : Int) / 4503599627370496) 2047 = 0) (hand : bits .and .u64 (a : Int) 4503599627370495 = (m : Int)) (hng : ((a : Int) / 9223372036854775808 == 1) = ng) (hm : m < 18446744073709551616) :
    Calls Tryz.prog 9 #[.float .f64 a] w fun r w' => ∃ A, r = .returned A ∧ NC w' w.heap.size A ng m (-1074) ∧ Below w.heap.size w w' := by
  have kb := Ie.run_bits
  obtain ⟨W, hW⟩ : ∃ W, W = w.alloc (.cells #[.bool false, .slice none 0 0, .int .i64 0] 33) := ⟨_, rfl⟩
  have k34 := xnorm_two (ng := ng) (m := m) (e := (-1074)) (W := W) hm (by omega)
  have HB0 : Hid (Below w.heap.size w W ∧ W.heap[w.heap.size]? = some (.cells #[.bool false, .slice none 0 0, .int .i64 0] 33 (0, 0)) ∧ W.heap.size = w.heap.size + 1) := ⟨by rw [hW]; exact (Below.refl _ _).alloc (Nat.le_refl _) _, by rw [hW]; exact heap_alloc_new _ _, by rw [hW]; simp⟩
  rw [HB0.out.2.2] at k34
  go_enter Tryz.func9, Tryz.ntmps9
  go_wp2_with fail
  rw [← hW]
  clear hW
  refine k34.mono ?_
  rintro r w3 ⟨s, ao, n, cap, ex, rfl, hn, hb⟩
  have hs := HB0.out.2.2
  have HC3 : Hid (w3.heap[w.heap.size]? = some (.cells #[.bool false, .slice none 0 0, .int .i64 0] 33 (0, 0))) := box_later HB0.out.2.1 hb (by omega)
  obtain ⟨⟨a1, a2, a3⟩, a4, a5, a6⟩ := box_cells29 HC3.out
  have HN : Hid (NC w3 (w.heap.size + 1) (.agg #[.bool s, .slice ao n cap, .int .i64 ex]) ng m (-1074) ∧ Below (w.heap.size + 1) W w3) := ⟨hn.mono (by omega), hb⟩
  clear hn hb k34 hs
  go_wp2
  refine bodyPost_ret (results_cell_row rfl _ _ w.heap.size 33 #[.bool s, .slice ao n cap, .int .i64 ex] (0, 0) _ rfl (store3_29 _ _ _ HC3.out) Tryz.underlying33 rfl Tryz.info33) rfl ?_
  have hs := HB0.out.2.2
  exact ⟨_, rfl, (HN.out.1.store (by omega) _ _ _).mono (by omega), below_store3 (HB0.out.1.trans (HN.out.2.mono (by omega))) (Nat.le_refl _) _ _ _⟩

set_option maxRecDepth 200000 in
theorem x33_1 (a m0 m : Nat) (X : Int) (w : World) (ng : Bool) (hX : bits .and .u64 ((a : Int) / 4503599627370496) 2047 = X) (hX0 : (X == 0) = false) (hX1 : 0 ≤ X) (hX2 : X < 2048) (hand : bits .and .u64 (a : Int) 4503599627370495 = (m0 : Int)) (hor : bits .or .u64 (m0 : Int) 4503599627370496 = (m : Int)) (hng : ((a : Int) / 9223372036854775808 == 1) = ng) (hm : m < 18446744073709551616) :
    Calls Tryz.prog 9 #[.float .f64 a] w fun r w' => ∃ A, r = .returned A ∧ NC w' w.heap.size A ng m (X - 1075) ∧ Below w.heap.size w w' := by
  have kb := Ie.run_bits
  obtain ⟨W, hW⟩ : ∃ W, W = w.alloc (.cells #[.bool false, .slice none 0 0, .int .i64 0] 33) := ⟨_, rfl⟩
  have k34 := xnorm_two (ng := ng) (m := m) (e := (X - 1075)) (W := W) hm (by omega)
  have HB0 : Hid (Below w.heap.size w W ∧ W.heap[w.heap.size]? = some (.cells #[.bool false, .slice none 0 0, .int .i64 0] 33 (0, 0)) ∧ W.heap.size = w.heap.size + 1) := ⟨by rw [hW]; exact (Below.refl _ _).alloc (Nat.le_refl _) _, by rw [hW]; exact heap_alloc_new _ _, by rw [hW]; simp⟩
  rw [HB0.out.2.2] at k34
  go_enter Tryz.func9, Tryz.ntmps9
  go_wp2_with fail
  rw [← hW]
  clear hW
  refine k34.mono ?_
  rintro r w3 ⟨s, ao, n, cap, ex, rfl, hn, hb⟩
  have hs := HB0.out.2.2
  have HC3 : Hid (w3.heap[w.heap.size]? = some (.cells #[.bool false, .slice none 0 0, .int .i64 0] 33 (0, 0))) := box_later HB0.out.2.1 hb (by omega)
  obtain ⟨⟨a1, a2, a3⟩, a4, a5, a6⟩ := box_cells29 HC3.out
  have HN : Hid (NC w3 (w.heap.size + 1) (.agg #[.bool s, .slice ao n cap, .int .i64 ex]) ng m (X - 1075) ∧ Below (w.heap.size + 1) W w3) := ⟨hn.mono (by omega), hb⟩
  clear hn hb k34 hs
  go_wp2
  refine bodyPost_ret (results_cell_row rfl _ _ w.heap.size 33 #[.bool s, .slice ao n cap, .int .i64 ex] (0, 0) _ rfl (store3_29 _ _ _ HC3.out) Tryz.underlying33 rfl Tryz.info33) rfl ?_
  have hs := HB0.out.2.2
  exact ⟨_, rfl, (HN.out.1.store (by omega) _ _ _).mono (by omega), below_store3 (HB0.out.1.trans (HN.out.2.mono (by omega))) (Nat.le_refl _) _ _ _⟩

theorem x33 (a : Nat) (ha : a < 18446744073709551616) (w : World) :
    Calls Tryz.prog 9 #[.float .f64 a] w fun r w' => ∃ A, r = .returned A ∧ NC w' w.heap.size A (neg a) (Ie.mant a) (Ie.lp a) ∧ Below w.heap.size w w' := by
  have hX : bits .and .u64 ((a : Int) / 4503599627370496) 2047 = ((mag a / 4503599627370496 : Nat) : Int) := by
    have e : (a : Int) / 4503599627370496 = ((a / 4503599627370496 : Nat) : Int) := by omega
    rw [e, and_2047 _ (by omega)]
    congr 1
    unfold mag
    omega
  have hand : bits .and .u64 (a : Int) 4503599627370495 = ((mag a % 4503599627370496 : Nat) : Int) := by
    rw [Ie.and_mant a ha]
    congr 1
    unfold mag
    omega
  have hng : ((a : Int) / 9223372036854775808 == 1) = neg a := by
    unfold neg
    rw [Bool.beq_eq_decide_eq]
    congr 1
    apply propext
    omega
  have hml : mag a < 9223372036854775808 := by unfold mag; omega
  by_cases h0 : mag a < 4503599627370496
  · have e1 : mag a / 4503599627370496 = 0 := by omega
    have e2 : mag a % 4503599627370496 = mag a := by omega
    rw [e1] at hX
    rw [e2] at hand
    have e3 : Ie.mant a = mag a := by unfold Ie.mant; rw [if_pos h0]
    have e4 : Ie.lp a = -1074 := by unfold Ie.lp; rw [e1]; omega
    rw [e3, e4]
    exact x33_0 a (mag a) w (neg a) hX hand hng (by omega)
  · have e3 : Ie.mant a = 4503599627370496 + mag a % 4503599627370496 := by unfold Ie.mant; rw [if_neg h0]
    have e4 : Ie.lp a = ((mag a / 4503599627370496 : Nat) : Int) - 1075 := by unfold Ie.lp; omega
    rw [e3, e4]
    exact x33_1 a _ _ _ w (neg a) hX (by rw [Bool.beq_eq_decide_eq]; simp; omega) (by omega) (by omega) hand (Ie.or_mant _ (by omega)) hng (by omega)
/-- the number that a float is -/
def tF (a : Nat) : Bool × Nat × Int := cn (neg a) (Ie.mant a) (Ie.lp a)
/-- a number of the document, in memory -/
def DN (w : World) (A : Value) (t : Bool × Nat × Int) : Prop := ∃ ao cap, A = .agg #[.bool t.1, .slice ao (dlen t.2.1) cap, .int .i64 t.2.2] ∧ Arg w ao (dlen t.2.1) cap t.2.1
theorem DN.later {w w' : World} {A : Value} {t : Bool × Nat × Int} (h : DN w A t) (hb : Below w.heap.size w w') : DN w' A t := by
  obtain ⟨ao, cap, h1, h2⟩ := h
  exact ⟨ao, cap, h1, h2.later hb⟩
theorem DN.shape {w : World} {A : Value} {t : Bool × Nat × Int} (h : DN w A t) : ∃ s ao n cap e, A = .agg #[.bool s, .slice ao n cap, .int .i64 e] := by
  obtain ⟨ao, cap, h1, -⟩ := h
  exact ⟨_, _, _, _, _, h1⟩
theorem NC.dn {w : World} {base : Nat} {a : Value} {neg : Bool} {x : Nat} {e : Int} (h : NC w base a neg x e) : DN w a (cn neg x e) := by
  obtain ⟨ao, cap, h1, h2, -⟩ := h
  exact ⟨ao, cap, h1, h2⟩
theorem float_dn (a : Nat) (ha : a < 18446744073709551616) (w : World) :
    Calls Tryz.prog 9 #[.float .f64 a] w fun r w' => ∃ A, r = .returned A ∧ DN w' A (tF a) ∧ Below w.heap.size w w' :=
  (x33 a ha w).mono fun r w' ⟨A, e, h, hb⟩ => ⟨A, e, h.dn, hb⟩
end Go.Proofs.YtdfkpjagnndfdaaGreatDoor
/- The document's Add; Add, Sub, Mul refused. -/
namespace Go.Proofs.YtdfkpjagnndfdaaGreatDoor
set_option linter.unusedVariables false
set_option linter.unusedSimpArgs false
open Go.RowKit

theorem at_box {w : World} {ao : Option Addr} {n z g : Nat} {p q r : Value} (h : At w ao n z) (hz : dlen z = n) (hg : w.heap[g]? = some (.cells #[p, q, r] 33 (0, 0))) (hp : ∀ k, p ≠ .int .u32 k) (hq : ∀ k, q ≠ .int .u32 k) (hr : ∀ k, r ≠ .int .u32 k) (a b c : Value) : At (((w.setCell ⟨g, 0, none⟩ a).setCell ⟨g, 1, none⟩ b).setCell ⟨g, 2, none⟩ c) ao n z := by
  obtain ⟨bb, o, h1, h2⟩ := h
  refine ⟨bb, o, h1, fun i hi => ?_⟩
  by_cases hb : bb = g
  · subst hb
    have := h2 i hi
    simp only [World.cell?, hg] at this
    exfalso
    have hlt : o + i < 3 := by
      rcases Nat.lt_or_ge (o + i) 3 with h | h
      · exact h
      · rw [Array.getElem?_eq_none (by simpa using h)] at this; simp at this
    rcases (show o + i = 0 ∨ o + i = 1 ∨ o + i = 2 by omega) with h | h | h
    · rw [h] at this; simp at this; exact hp _ this
    · rw [h] at this; simp at this; exact hq _ this
    · rw [h] at this; simp at this; exact hr _ this
  · rw [World.cell?_setCell_other _ _ _ _ (by intro e; simp at e <;> omega), World.cell?_setCell_other _ _ _ _ (by intro e; simp at e <;> omega), World.cell?_setCell_other _ _ _ _ (by intro e; simp at e <;> omega)]
    exact h2 i hi
end Go.Proofs.YtdfkpjagnndfdaaGreatDoor
/- The document's Sub; far numbers; all of Add, Sub, Mul, Shift. -/
namespace Go.Proofs.YtdfkpjagnndfdaaGreatDoor
set_option linter.unusedVariables false
set_option linter.unusedSimpArgs false
open Go.RowKit

end Go.Proofs.YtdfkpjagnndfdaaGreatDoor
/- normal over a slice of any capacity. -/
namespace Go.Proofs.YtdfkpjagnndfdaaGreatDoor
set_option linter.unusedVariables false
set_option linter.unusedSimpArgs false
open Go.RowKit

end Go.Proofs.YtdfkpjagnndfdaaGreatDoor
/- Make. -/
namespace Go.Proofs.YtdfkpjagnndfdaaGreatDoor
set_option linter.unusedVariables false
set_option linter.unusedSimpArgs false
open Go.RowKit

end Go.Proofs.YtdfkpjagnndfdaaGreatDoor
/- DyadOf: the law's walk, and what it answers. -/
namespace Go.Proofs.YtdfkpjagnndfdaaGreatDoor
set_option linter.unusedVariables false
set_option linter.unusedSimpArgs false
open Go.RowKit Go.Fl64

end Go.Proofs.YtdfkpjagnndfdaaGreatDoor
/- DyadMakes: the law's walk, where there are digits. -/
namespace Go.Proofs.YtdfkpjagnndfdaaGreatDoor
set_option linter.unusedVariables false
set_option linter.unusedSimpArgs false
open Go.RowKit Go.Fl64

end Go.Proofs.YtdfkpjagnndfdaaGreatDoor
/- DyadOf answers true, whatever the float and the whole number are. -/
namespace Go.Proofs.YtdfkpjagnndfdaaGreatDoor
set_option linter.unusedVariables false
set_option linter.unusedSimpArgs false
open Go.RowKit Go.Fl64

theorem short {m : Nat} (h : m < 18446744073709551616) : dlen (m / 2 ^ tz m) ≤ 35184372088832 := by
  have h1 : dlen m ≤ 2 := (dlen_le 2 m).2 (by unfold B; omega)
  have h2 : dlen (m / 2 ^ tz m) ≤ dlen m := dlen_mono (Nat.div_le_self ..)
  omega

/-- the float's odd digits and exponent are those of the document's number -/
theorem of_parts (a m : Nat) (ha : a < 18446744073709551616) (hf : mag a < 9218868437227405312) (hm : Ie.sM a = (m : Int)) :
    (m = 0 ∧ Ie.mant a = 0) ∨ (m ≠ 0 ∧ Ie.mant a ≠ 0 ∧ neg a = neg a ∧ m / 2 ^ tz m = Ie.mant a / 2 ^ tz (Ie.mant a) ∧ Ie.sE a + (tz m : Int) = Ie.lp a + (tz (Ie.mant a) : Int)) := by
  unfold Ie.sM at hm
  unfold Ie.sE
  rw [if_neg (by omega)] at hm ⊢
  by_cases h0 : mag a = 0
  · rw [if_pos h0] at hm
    exact .inl ⟨by omega, by unfold Ie.mant; rw [if_pos (by omega)]; exact h0⟩
  · rw [if_neg h0] at hm ⊢
    have hb := Ie.mant_bound a
    have hne := Ie.mant_ne h0
    have hct : Lib.ctz 64 (Ie.mant a) = tz (Ie.mant a) := tz_ctz hne (by omega)
    rw [hct] at hm ⊢
    have e1 : m = Ie.mant a / 2 ^ tz (Ie.mant a) := by
      have : ((Ie.mant a / 2 ^ tz (Ie.mant a) : Nat) : Int) = (m : Int) := by rw [← hm]; simp
      omega
    obtain ⟨h1, h2⟩ := tz_spec _ (Ie.mant a) (Nat.le_refl _) hne
    rw [← e1] at h2
    have e2 : tz m = 0 := tz_odd h2
    refine .inr ⟨by intro e; rw [e] at h2; simp at h2, hne, rfl, ?_, ?_⟩
    · rw [e2, ← e1]; simp
    · rw [e2]; simp

end Go.Proofs.YtdfkpjagnndfdaaGreatDoor
/- DyadMakes answers true: digits, and none. -/
namespace Go.Proofs.YtdfkpjagnndfdaaGreatDoor
set_option linter.unusedVariables false
set_option linter.unusedSimpArgs false
open Go.RowKit Go.Fl64

end Go.Proofs.YtdfkpjagnndfdaaGreatDoor
/- The document's Add, Sub, Mul, Shift of numbers that may be, and of others. -/
namespace Go.Proofs.YtdfkpjagnndfdaaGreatDoor
set_option linter.unusedVariables false
set_option linter.unusedSimpArgs false
open Go.RowKit

end Go.Proofs.YtdfkpjagnndfdaaGreatDoor
/- Abs, Neg: of numbers that may be, and refused. -/
namespace Go.Proofs.YtdfkpjagnndfdaaGreatDoor
set_option linter.unusedVariables false
set_option linter.unusedSimpArgs false
open Go.RowKit

end Go.Proofs.YtdfkpjagnndfdaaGreatDoor
/- Sub, Mul refused; Shift. -/
namespace Go.Proofs.YtdfkpjagnndfdaaGreatDoor
set_option linter.unusedVariables false
set_option linter.unusedSimpArgs false
open Go.RowKit

end Go.Proofs.YtdfkpjagnndfdaaGreatDoor
/- The document's and the program's Add, Sub, Mul, Shift, of all numbers. -/
namespace Go.Proofs.YtdfkpjagnndfdaaGreatDoor
set_option linter.unusedVariables false
set_option linter.unusedSimpArgs false
open Go.RowKit

end Go.Proofs.YtdfkpjagnndfdaaGreatDoor
/- The document's Sgn, Sign, Bits, Top, Neg, Abs. -/
namespace Go.Proofs.YtdfkpjagnndfdaaGreatDoor
set_option linter.unusedVariables false
set_option linter.unusedSimpArgs false
open Go.RowKit

set_option maxHeartbeats 4000000 in
set_option maxRecDepth 200000 in
theorem rsgn {na : Bool} {ua : Option Addr} {un uc : Nat} {ea : Int} {w : World} (hn : un ≤ 35184372088832) :
    Calls Tryz.prog 14 #[.agg #[.bool na, .slice ua un uc, .int .i64 ea]] w fun r w' => r = .returned (.int .i64 (if un = 0 then 0 else if na then -1 else 1)) ∧ Below w.heap.size w w' := by
  obtain ⟨W, hW⟩ : ∃ W, W = w.alloc (.cells #[.bool na, .slice ua un uc, .int .i64 ea] 33) := ⟨_, rfl⟩
  have HB : Hid (Below w.heap.size w W) := (by rw [hW]; exact (Below.refl _ _).alloc (Nat.le_refl _) _ : Below w.heap.size w W)
  by_cases h0 : un = 0
  · subst h0
    rw [if_pos rfl]
    go_enter Tryz.func14, Tryz.ntmps14
    go_wp2
    go_ret
    exact ⟨rfl, hW ▸ HB.out⟩
  · have hn0 : ((un : Int) == 0) = false := by simp; omega
    rw [if_neg h0]
    clear h0
    cases na
    · go_enter Tryz.func14, Tryz.ntmps14
      go_wp2
      go_ret
      exact ⟨rfl, hW ▸ HB.out⟩
    · go_enter Tryz.func14, Tryz.ntmps14
      go_wp2
      go_ret
      exact ⟨rfl, hW ▸ HB.out⟩
end Go.Proofs.YtdfkpjagnndfdaaGreatDoor
/- The document's Add and Sub of floats: the walks. -/
namespace Go.Proofs.YtdfkpjagnndfdaaGreatDoor
set_option linter.unusedVariables false
set_option linter.unusedSimpArgs false
open Go.RowKit Go.Fl64

end Go.Proofs.YtdfkpjagnndfdaaGreatDoor
/- DyadRing: the law's walk. -/
namespace Go.Proofs.YtdfkpjagnndfdaaGreatDoor
set_option linter.unusedVariables false
set_option linter.unusedSimpArgs false
open Go.RowKit Go.Fl64

/-- a number's box, and the number in it -/
def Bn (w : World) (g : Nat) (s : Bool) (ao : Option Addr) (n cap : Nat) (e : Int) (t : Bool × Nat × Int) : Prop :=
  w.heap[g]? = some (.cells #[.bool s, .slice ao n cap, .int .i64 e] 43 (0, 0)) ∧ PN w (.agg #[.bool s, .slice ao n cap, .int .i64 e]) t
theorem Bn.later {w w' : World} {g : Nat} {s : Bool} {ao : Option Addr} {n cap : Nat} {e : Int} {t : Bool × Nat × Int} (h : Bn w g s ao n cap e t) (hb : Below w.heap.size w w') : Bn w' g s ao n cap e t :=
  ⟨box_later h.1 hb (Array.getElem?_eq_some_iff.1 h.1).1, h.2.later hb⟩
theorem Bn.new {w : World} {s : Bool} {ao : Option Addr} {n cap : Nat} {e : Int} {t : Bool × Nat × Int} (h : PN w (.agg #[.bool s, .slice ao n cap, .int .i64 e]) t) : Bn (w.alloc (.cells #[.bool s, .slice ao n cap, .int .i64 e] 43)) w.heap.size s ao n cap e t :=
  ⟨heap_alloc_new _ _, h.later ((Below.refl _ _).alloc (Nat.le_refl _) _)⟩
end Go.Proofs.YtdfkpjagnndfdaaGreatDoor
/- Several numbers given at once, without their signs: x, y := Abs(give(a)), Abs(give(b)). -/
namespace Go.Proofs.YtdfkpjagnndfdaaGreatDoor
set_option linter.unusedVariables false
set_option linter.unusedSimpArgs false
open Go.RowKit

end Go.Proofs.YtdfkpjagnndfdaaGreatDoor
/- Root, of numbers that may be and are not below nought. -/
namespace Go.Proofs.YtdfkpjagnndfdaaGreatDoor
set_option linter.unusedVariables false
set_option linter.unusedSimpArgs false
open Go.RowKit

end Go.Proofs.YtdfkpjagnndfdaaGreatDoor
/- DyadLeast: the law's walk. -/
namespace Go.Proofs.YtdfkpjagnndfdaaGreatDoor
set_option linter.unusedVariables false
set_option linter.unusedSimpArgs false
open Go.RowKit Go.Fl64

end Go.Proofs.YtdfkpjagnndfdaaGreatDoor
/- DyadSums: the law's walk. -/
namespace Go.Proofs.YtdfkpjagnndfdaaGreatDoor
set_option linter.unusedVariables false
set_option linter.unusedSimpArgs false
open Go.RowKit

/-- a box, and what it holds -/
def BB (ty : TypeId) (P : World → Value → Prop) (w : World) (g : Nat) (s : Bool) (ao : Option Addr) (n cap : Nat) (e : Int) : Prop :=
  w.heap[g]? = some (.cells #[.bool s, .slice ao n cap, .int .i64 e] ty (0, 0)) ∧ P w (.agg #[.bool s, .slice ao n cap, .int .i64 e])
def Lasts (P : World → Value → Prop) : Prop := ∀ W W' A, Below W.heap.size W W' → P W A → P W' A
theorem BB.later {ty : TypeId} {P : World → Value → Prop} (hP : Lasts P) {w w' : World} {g : Nat} {s : Bool} {ao : Option Addr} {n cap : Nat} {e : Int} (h : BB ty P w g s ao n cap e) (hb : Below w.heap.size w w') : BB ty P w' g s ao n cap e :=
  ⟨box_later h.1 hb (Array.getElem?_eq_some_iff.1 h.1).1, hP _ _ _ hb h.2⟩
theorem BB.new {ty : TypeId} {P : World → Value → Prop} (hP : Lasts P) {w : World} {s : Bool} {ao : Option Addr} {n cap : Nat} {e : Int} (h : P w (.agg #[.bool s, .slice ao n cap, .int .i64 e])) : BB ty P (w.alloc (.cells #[.bool s, .slice ao n cap, .int .i64 e] ty)) w.heap.size s ao n cap e :=
  ⟨heap_alloc_new _ _, hP _ _ _ ((Below.refl _ _).alloc (Nat.le_refl _) _) h⟩
end Go.Proofs.YtdfkpjagnndfdaaGreatDoor
/- The document's down, and whether nothing was lost. -/
namespace Go.Proofs.YtdfkpjagnndfdaaGreatDoor
set_option linter.unusedVariables false
set_option linter.unusedSimpArgs false
open Go.RowKit

end Go.Proofs.YtdfkpjagnndfdaaGreatDoor
/- The document's long division: how its guesses come to the right digit. -/
namespace Go.Proofs.YtdfkpjagnndfdaaGreatDoor
set_option linter.unusedVariables false
set_option linter.unusedSimpArgs false

/-- a guess too high -/
theorem kn_low {R V v1 v2 t r3 d r n : Nat} (hn : 2 ≤ n) (hV : (v1 * B + v2) * B ^ (n - 2) ≤ V) (hR : R < (t * B + r3 + 1) * B ^ (n - 2)) (ht : d * v1 + r = t) (h : r * B + r3 < d * v2) : R < d * V := by
  have h1 : (t * B + r3 + 1) ≤ d * (v1 * B + v2) := by
    have e1 : d * (v1 * B + v2) = (d * v1) * B + d * v2 := by grind
    have e2 : t * B = d * v1 * B + r * B := by rw [← ht, Nat.add_mul]
    omega
  calc R < (t * B + r3 + 1) * B ^ (n - 2) := hR
    _ ≤ d * (v1 * B + v2) * B ^ (n - 2) := Nat.mul_le_mul_right _ h1
    _ = d * ((v1 * B + v2) * B ^ (n - 2)) := Nat.mul_assoc _ _ _
    _ ≤ d * V := Nat.mul_le_mul_left _ hV
/-- a guess that passed is at most one too high -/
theorem kn_high {R V v1 v2 t r3 d r n : Nat} (hn : 2 ≤ n) (hV : V < (v1 * B + v2 + 1) * B ^ (n - 2)) (hR : (t * B + r3) * B ^ (n - 2) ≤ R) (ht : d * v1 + r = t) (hd : d ≤ B) (hv : 1 ≤ v1) (h : d * v2 ≤ r * B + r3) : (d - 1) * V ≤ R := by
  rcases Nat.eq_zero_or_pos d with h0 | h0
  · subst h0; simp
  obtain ⟨c, rfl⟩ : ∃ c, d = c + 1 := ⟨d - 1, by omega⟩
  rw [Nat.add_sub_cancel]
  have hb : c ≤ v1 * B + v2 := by
    have : B ≤ v1 * B := Nat.le_mul_of_pos_left _ hv
    omega
  have h1 : c * (v1 * B + v2 + 1) ≤ t * B + r3 := by
    have e1 : (c + 1) * (v1 * B + v2) = ((c + 1) * v1) * B + (c + 1) * v2 := by grind
    have e2 : t * B = (c + 1) * v1 * B + r * B := by rw [← ht, Nat.add_mul]
    have e3 : (c + 1) * (v1 * B + v2) = c * (v1 * B + v2) + (v1 * B + v2) := by grind
    have e4 : c * (v1 * B + v2 + 1) = c * (v1 * B + v2) + c := by grind
    omega
  calc c * V ≤ c * ((v1 * B + v2 + 1) * B ^ (n - 2)) := Nat.mul_le_mul_left _ (Nat.le_of_lt hV)
    _ = c * (v1 * B + v2 + 1) * B ^ (n - 2) := (Nat.mul_assoc _ _ _).symm
    _ ≤ (t * B + r3) * B ^ (n - 2) := Nat.mul_le_mul_right _ h1
    _ ≤ R := hR
/-- the state of the guess: not below the digit, and the first one no more than two above the base -/
structure Kn (R V v1 t d r : Nat) : Prop where
  sum : d * v1 + r = t
  ge : R < (d + 1) * V
  le : d ≤ B + 1
/-- the first guess -/
theorem kn_start {R V v1 v2 t n : Nat} (hn : 1 ≤ n) (hv : 1 ≤ v1) (hh : B ≤ 2 * v1) (hv2 : v2 < B) (hV1 : v1 * B ^ (n - 1) ≤ V) (hR : R < (t + 1) * B ^ (n - 1)) (ht : t ≤ v1 * B + v2) : Kn R V v1 t (t / v1) (t % v1) := by
  have h0 := Nat.div_add_mod t v1
  have h1 := Nat.mod_lt t (show 0 < v1 by omega)
  refine ⟨by rw [Nat.mul_comm]; exact h0, ?_, ?_⟩
  · have h2 : t + 1 ≤ (t / v1 + 1) * v1 := by rw [Nat.add_mul, Nat.one_mul, Nat.mul_comm]; omega
    calc R < (t + 1) * B ^ (n - 1) := hR
      _ ≤ (t / v1 + 1) * v1 * B ^ (n - 1) := Nat.mul_le_mul_right _ h2
      _ = (t / v1 + 1) * (v1 * B ^ (n - 1)) := Nat.mul_assoc _ _ _
      _ ≤ (t / v1 + 1) * V := Nat.mul_le_mul_left _ hV1
  · refine Nat.le_of_lt_succ ((Nat.div_lt_iff_lt_mul (by omega)).2 ?_)
    have : (B + 1).succ * v1 = v1 * B + 2 * v1 := by rw [Nat.succ_eq_add_one]; grind
    rw [this]; omega
/-- one less -/
theorem Kn.less {R V v1 v2 t d r r3 n : Nat} (h : Kn R V v1 t d r) (hn : 2 ≤ n) (hV : (v1 * B + v2) * B ^ (n - 2) ≤ V) (hR : R < (t * B + r3 + 1) * B ^ (n - 2)) (hq : R < V * B) (hc : B ≤ d ∨ r * B + r3 < d * v2) : Kn R V v1 t (d - 1) (r + v1) ∧ 1 ≤ d := by
  have hd : 1 ≤ d := by
    rcases hc with h | h
    · have := B_pos; omega
    · rcases Nat.eq_zero_or_pos d with h0 | h0
      · rw [h0] at h; omega
      · exact h0
  refine ⟨⟨?_, ?_, ?_⟩, hd⟩
  · have := h.sum
    have e : d * v1 = (d - 1) * v1 + v1 := by
      obtain ⟨c, rfl⟩ : ∃ c, d = c + 1 := ⟨d - 1, by omega⟩
      rw [Nat.add_sub_cancel, Nat.add_mul, Nat.one_mul]
    omega
  · rw [show d - 1 + 1 = d by omega]
    rcases hc with h1 | h1
    · exact Nat.lt_of_lt_of_le hq (by rw [Nat.mul_comm]; exact Nat.mul_le_mul_right _ h1)
    · exact kn_low hn hV hR h.sum h1
  · have := h.le; omega
/-- the guess is done: the digit, or one more -/
theorem Kn.done {R V v1 v2 t d r r3 n : Nat} (h : Kn R V v1 t d r) (hn : 2 ≤ n) (hv : 1 ≤ v1) (hv2 : v2 < B) (hV0 : 0 < V) (hV : V < (v1 * B + v2 + 1) * B ^ (n - 2)) (hR : (t * B + r3) * B ^ (n - 2) ≤ R) (hd : d < B) (hc : d * v2 ≤ r * B + r3 ∨ B ≤ r) : R / V ≤ d ∧ d ≤ R / V + 1 := by
  have hc' : d * v2 ≤ r * B + r3 := by
    rcases hc with h | h
    · exact h
    · have h1 : d * v2 ≤ B * B := Nat.mul_le_mul (Nat.le_of_lt hd) (Nat.le_of_lt hv2)
      have h2 : B * B ≤ r * B := Nat.mul_le_mul_right _ h
      omega
  constructor
  · exact Nat.le_of_lt_succ ((Nat.div_lt_iff_lt_mul hV0).2 h.ge)
  · have h1 := kn_high hn hV hR h.sum (Nat.le_of_lt hd) hv hc'
    have := (Nat.le_div_iff_mul_le hV0).2 h1
    omega
end Go.Proofs.YtdfkpjagnndfdaaGreatDoor
/- The document's division by one digit. -/
namespace Go.Proofs.YtdfkpjagnndfdaaGreatDoor
set_option linter.unusedVariables false
set_option linter.unusedSimpArgs false
open Go.RowKit

end Go.Proofs.YtdfkpjagnndfdaaGreatDoor
/- The document's long division: two rows that are written, and the window. -/
namespace Go.Proofs.YtdfkpjagnndfdaaGreatDoor
set_option linter.unusedVariables false
set_option linter.unusedSimpArgs false
open Go.RowKit

/-- of w to wr only blocks g and h have been written: rows of L and M digits -/
structure Two (g h : Nat) (w wr : World) (L M : Nat) (f q : Nat → Nat) : Prop where
  os : wr.os = w.os
  tape : wr.tape = w.tape
  output : wr.output = w.output
  size : wr.heap.size = w.heap.size
  block : ∀ k, k ≠ g → k ≠ h → wr.heap[k]? = w.heap[k]?
  ru : RowGe wr g L (fun i => .int .u32 (f i : Nat))
  rq : RowGe wr h M (fun i => .int .u32 (q i : Nat))
theorem Two.congr {g h : Nat} {w wr : World} {L M : Nat} {f q f' q' : Nat → Nat} (t : Two g h w wr L M f q) (e : ∀ i, i < L → f i = f' i) (e' : ∀ i, i < M → q i = q' i) : Two g h w wr L M f' q' :=
  ⟨t.os, t.tape, t.output, t.size, t.block, t.ru.congr (fun i hi => by rw [e i hi]), t.rq.congr (fun i hi => by rw [e' i hi])⟩
theorem Two.drewN {g h : Nat} {w wr : World} {L M : Nat} {f q : Nat → Nat} (t : Two g h w wr L M f q) (n : Nat) : Two g h w (wr.drewN n) L M f q :=
  ⟨t.os, t.tape, t.output, t.size, t.block, t.ru, t.rq⟩
theorem Two.old {g h : Nat} {w wr : World} {L M : Nat} {f q : Nat → Nat} (t : Two g h w wr L M f q) {p : Addr} {u : Value} (h1 : p.block ≠ g) (h2 : p.block ≠ h) (hc : w.cell? p = some u) : wr.cell? p = some u := (World.cell?_of_block (w := w) (t.block p.block h1 h2)).trans hc
theorem Two.below {g h b : Nat} {w wr : World} {L M : Nat} {f q : Nat → Nat} (t : Two g h w wr L M f q) (h1 : b ≤ g) (h2 : b ≤ h) : Below b w wr := ⟨t.os, t.tape, t.output, by rw [t.size]; exact Nat.le_refl _, fun k hk => t.block k (by omega) (by omega)⟩
/-- what the guess has to know -/
structure Gs (R V v1 v2 t r3 n : Nat) : Prop where
  n2 : 2 ≤ n
  v1p : 1 ≤ v1
  v1h : B ≤ 2 * v1
  v1B : v1 < B
  v2B : v2 < B
  r3B : r3 < B
  V0 : 0 < V
  Vlo : (v1 * B + v2) * B ^ (n - 2) ≤ V
  Vhi : V < (v1 * B + v2 + 1) * B ^ (n - 2)
  Rlo : (t * B + r3) * B ^ (n - 2) ≤ R
  Rhi : R < (t * B + r3 + 1) * B ^ (n - 2)
  V1 : v1 * B ^ (n - 1) ≤ V
  R1 : R < (t + 1) * B ^ (n - 1)
  tle : t ≤ v1 * B + v2
  RV : R < V * B
  tB : t < B * B
theorem Gs.start {R V v1 v2 t r3 n : Nat} (h : Gs R V v1 v2 t r3 n) : Kn R V v1 t (t / v1) (t % v1) := kn_start (by have := h.n2; omega) h.v1p h.v1h h.v2B h.V1 h.R1 h.tle
theorem Gs.less {R V v1 v2 t r3 n d r : Nat} (h : Gs R V v1 v2 t r3 n) (k : Kn R V v1 t d r) (hc : B ≤ d ∨ r * B + r3 < d * v2) : Kn R V v1 t (d - 1) (r + v1) ∧ 1 ≤ d := k.less h.n2 h.Vlo h.Rhi h.RV hc
theorem Gs.done {R V v1 v2 t r3 n d r : Nat} (h : Gs R V v1 v2 t r3 n) (k : Kn R V v1 t d r) (hd : d < B) (hc : d * v2 ≤ r * B + r3 ∨ B ≤ r) : R / V ≤ d ∧ d ≤ R / V + 1 := k.done h.n2 h.v1p h.v2B h.V0 h.Vhi h.Rlo hd hc
end Go.Proofs.YtdfkpjagnndfdaaGreatDoor
/- The document's long division: the words of its loops, and what the rows come to. -/
namespace Go.Proofs.YtdfkpjagnndfdaaGreatDoor
set_option linter.unusedVariables false
set_option linter.unusedSimpArgs false
open Go.RowKit

end Go.Proofs.YtdfkpjagnndfdaaGreatDoor
/- The document's long division: the way to the loop. -/
namespace Go.Proofs.YtdfkpjagnndfdaaGreatDoor
set_option linter.unusedVariables false
set_option linter.unusedSimpArgs false
open Go.RowKit

end Go.Proofs.YtdfkpjagnndfdaaGreatDoor
/- The document's long division: how far the numbers are shifted. -/
namespace Go.Proofs.YtdfkpjagnndfdaaGreatDoor
set_option linter.unusedVariables false
set_option linter.unusedSimpArgs false

end Go.Proofs.YtdfkpjagnndfdaaGreatDoor
/- The document's division: the short ways, and all of it. -/
namespace Go.Proofs.YtdfkpjagnndfdaaGreatDoor
set_option linter.unusedVariables false
set_option linter.unusedSimpArgs false
open Go.RowKit

end Go.Proofs.YtdfkpjagnndfdaaGreatDoor
/- The document's square root of a whole number. -/
namespace Go.Proofs.YtdfkpjagnndfdaaGreatDoor
set_option linter.unusedVariables false
set_option linter.unusedSimpArgs false
open Go.RowKit

theorem cmp_eq {x y : Nat} : (cmpI (x : Int) (y : Int) == 0) = decide (x = y) := by
  unfold cmpI
  by_cases h : x = y
  · subst h; simp
  · rw [decide_eq_false h]
    by_cases h2 : (x : Int) < (y : Int)
    · rw [if_pos h2]; rfl
    · rw [if_neg h2, if_pos (by omega)]; rfl
end Go.Proofs.YtdfkpjagnndfdaaGreatDoor
/- The document's one and Less. -/
namespace Go.Proofs.YtdfkpjagnndfdaaGreatDoor
set_option linter.unusedVariables false
set_option linter.unusedSimpArgs false
open Go.RowKit

set_option maxHeartbeats 4000000 in
set_option maxRecDepth 200000 in
theorem rlessN_1 (na nb : Bool) (ua va : Option Addr) (un uc vn vc : Nat) (ea eb : Int) (nc : Bool) (xa : Option Addr) (xn xc : Nat) (ec : Int) (s : Bool) (z : Nat) (e : Int) (w : World) (kM : ∀ W, Calls Tryz.prog 41 #[.agg #[.bool nb, .slice va vn vc, .int .i64 eb]] W fun r w' => r = .returned (.agg #[.bool nc, .slice xa xn xc, .int .i64 ec]) ∧ Below W.heap.size W w')
    (kA : ∀ W, Below w.heap.size w W → Calls Tryz.prog 8 #[.agg #[.bool na, .slice ua un uc, .int .i64 ea], .agg #[.bool nc, .slice xa xn xc, .int .i64 ec]] W fun r w' => ∃ a, r = .returned a ∧ NC w' W.heap.size a s z e ∧ Below W.heap.size W w') :
    Calls Tryz.prog 13 #[.agg #[.bool na, .slice ua un uc, .int .i64 ea], .agg #[.bool nb, .slice va vn vc, .int .i64 eb]] w fun r w' => ∃ a, r = .returned a ∧ NC w' w.heap.size a s z e ∧ Below w.heap.size w w' := by
  have HKM : Hid (∀ W, Calls Tryz.prog 41 #[.agg #[.bool nb, .slice va vn vc, .int .i64 eb]] W fun r w' => r = .returned (.agg #[.bool nc, .slice xa xn xc, .int .i64 ec]) ∧ Below W.heap.size W w') := kM
  have HKA : Hid (∀ W, Below w.heap.size w W → Calls Tryz.prog 8 #[.agg #[.bool na, .slice ua un uc, .int .i64 ea], .agg #[.bool nc, .slice xa xn xc, .int .i64 ec]] W fun r w' => ∃ a, r = .returned a ∧ NC w' W.heap.size a s z e ∧ Below W.heap.size W w') := kA
  clear kM kA
  obtain ⟨W, hW⟩ : ∃ W, W = ((w.alloc (.cells #[.bool na, .slice ua un uc, .int .i64 ea] 33)).alloc (.cells #[.bool nb, .slice va vn vc, .int .i64 eb] 33)).alloc (.cells #[.bool false, .slice none 0 0, .int .i64 0] 33) := ⟨_, rfl⟩
  obtain ⟨hA, hBb, hC, hsz, hBW⟩ := boxes3 _ _ _ hW
  have HH : Hid ((W.heap[w.heap.size]? = some (.cells #[.bool na, .slice ua un uc, .int .i64 ea] 33 (0, 0)) ∧ W.heap[w.heap.size + 1]? = some (.cells #[.bool nb, .slice va vn vc, .int .i64 eb] 33 (0, 0)) ∧ W.heap[w.heap.size + 1 + 1]? = some (.cells #[.bool false, .slice none 0 0, .int .i64 0] 33 (0, 0))) ∧ W.heap.size = w.heap.size + 1 + 1 + 1 ∧ Below w.heap.size w W) := ⟨⟨hA, hBb, hC⟩, hsz, hBW⟩
  obtain ⟨⟨a0, a1, a2⟩, -⟩ := box_cells29 hA
  obtain ⟨⟨b0, b1, b2⟩, -⟩ := box_cells29 hBb
  clear hA hBb hC hsz hBW
  have kM : ∀ w4, Below W.heap.size W w4 → Calls Tryz.prog 41 #[.agg #[.bool nb, .slice va vn vc, .int .i64 eb]] w4 fun r w' => r = .returned (.agg #[.bool nc, .slice xa xn xc, .int .i64 ec]) ∧ Below W.heap.size W w' := fun w4 hb => (HKM.out w4).mono fun r w' ⟨e1, o2⟩ => ⟨e1, hb.trans (o2.mono hb.size)⟩
  have kA : ∀ w5, Below W.heap.size W w5 → Calls Tryz.prog 8 #[.agg #[.bool na, .slice ua un uc, .int .i64 ea], .agg #[.bool nc, .slice xa xn xc, .int .i64 ec]] w5 fun r w' => ∃ s' ao n cap ex, r = .returned (.agg #[.bool s', .slice ao n cap, .int .i64 ex]) ∧ Hid (NC w' W.heap.size (.agg #[.bool s', .slice ao n cap, .int .i64 ex]) s z e) ∧ Below W.heap.size W w' ∧ Hid (w'.heap[w.heap.size + 1 + 1]? = some (.cells #[.bool false, .slice none 0 0, .int .i64 0] 33 (0, 0))) ∧
      (w'.cell? ⟨w.heap.size + 1 + 1, 0, none⟩ = some (.bool false) ∧ w'.cell? ⟨w.heap.size + 1 + 1, 1, none⟩ = some (.slice none 0 0) ∧ w'.cell? ⟨w.heap.size + 1 + 1, 2, none⟩ = some (.int .i64 0)) ∧ (w'.frozen? ⟨w.heap.size + 1 + 1, 0, none⟩ = false ∧ w'.frozen? ⟨w.heap.size + 1 + 1, 1, none⟩ = false ∧ w'.frozen? ⟨w.heap.size + 1 + 1, 2, none⟩ = false) := by
    intro w5 hb
    refine (HKA.out w5 (HH.out.2.2.trans (hb.mono HH.out.2.2.size))).mono ?_
    rintro r w6 ⟨A, rfl, hN, hb6⟩
    obtain ⟨s', ao, n, cap, ex, rfl⟩ := hN.shape
    have hb16 : Below W.heap.size W w6 := hb.trans (hb6.mono hb.size)
    have hblk := box_later HH.out.1.2.2 hb16 (by have := HH.out.2.1; omega)
    obtain ⟨f1, f2⟩ := box_cells29 hblk
    exact ⟨s', ao, n, cap, ex, rfl, hN.mono hb.size, hb16, hblk, f1, f2⟩
  have HK : Hid (∀ w', Below W.heap.size W w' → ((w'.cell? ⟨w.heap.size, 0, none⟩ = some (.bool na) ∧ w'.cell? ⟨w.heap.size, 1, none⟩ = some (.slice ua un uc) ∧ w'.cell? ⟨w.heap.size, 2, none⟩ = some (.int .i64 ea)) ∧ (w'.cell? ⟨w.heap.size + 1, 0, none⟩ = some (.bool nb) ∧ w'.cell? ⟨w.heap.size + 1, 1, none⟩ = some (.slice va vn vc) ∧ w'.cell? ⟨w.heap.size + 1, 2, none⟩ = some (.int .i64 eb)))) := fun w' hb => ⟨(box_cells29 (box_later HH.out.1.1 hb (by have := HH.out.2.1; omega))).1, (box_cells29 (box_later HH.out.1.2.1 hb (by have := HH.out.2.1; omega))).1⟩
  have HK2 : Hid (∀ w', Below (w.heap.size + 1 + 1) W w' → ((w'.cell? ⟨w.heap.size, 0, none⟩ = some (.bool na) ∧ w'.cell? ⟨w.heap.size, 1, none⟩ = some (.slice ua un uc) ∧ w'.cell? ⟨w.heap.size, 2, none⟩ = some (.int .i64 ea)) ∧ (w'.cell? ⟨w.heap.size + 1, 0, none⟩ = some (.bool nb) ∧ w'.cell? ⟨w.heap.size + 1, 1, none⟩ = some (.slice va vn vc) ∧ w'.cell? ⟨w.heap.size + 1, 2, none⟩ = some (.int .i64 eb)))) := fun w' hb => ⟨(box_cells29 (box_later HH.out.1.1 hb (by omega))).1, (box_cells29 (box_later HH.out.1.2.1 hb (by omega))).1⟩
  have HS2 : Hid (w.heap.size + 1 + 1 ≤ W.heap.size) := (by have := HH.out.2.1; omega : w.heap.size + 1 + 1 ≤ W.heap.size)
  have hBR : Below W.heap.size W W.drew := (Below.refl _ _).drew
  go_enter Tryz.func13, Tryz.ntmps13
  go_upto_region 1 with fail
  rw [← hW]
  clear hW
  go_region_held3 (fun w' => ((w'.cell? ⟨w.heap.size, 0, none⟩ = some (.bool na) ∧ w'.cell? ⟨w.heap.size, 1, none⟩ = some (.slice ua un uc) ∧ w'.cell? ⟨w.heap.size, 2, none⟩ = some (.int .i64 ea)) ∧ (w'.cell? ⟨w.heap.size + 1, 0, none⟩ = some (.bool nb) ∧ w'.cell? ⟨w.heap.size + 1, 1, none⟩ = some (.slice va vn vc) ∧ w'.cell? ⟨w.heap.size + 1, 2, none⟩ = some (.int .i64 eb)))) (first | (with_reducible assumption) | exact ⟨⟨a0, a1, a2⟩, b0, b1, b2⟩ | (refine HK.out _ ?_; with_reducible assumption) | (refine HK2.out _ (below_store3 (Below.mono hb6 HS2.out) (Nat.le_refl _) _ _ _)) | go_keep)
    (first | (go_at_call 41; refine (kM _ (by first | (with_reducible assumption) | exact hBR)).mono ?_; rintro r w5 ⟨rfl, hb5⟩) | (go_at_call 8; refine (kA _ (by first | (with_reducible assumption) | exact hBR)).mono ?_; rintro r w6 ⟨s6, ao6, n6, cap6, ex6, rfl, hN6, hb6, hblk6, ⟨x1, x2, x3⟩, x4, x5, x6⟩))
  all_goals (have HF : Hid (Below W.heap.size W w6) := hb6; clear hb5 hb6 kM kA x1 x2 x3 x4 x5 x6 a0 a1 a2 b0 b1 b2 HK HK2 hBR; go_wp2; refine bodyPost_ret (results_cell_row rfl _ _ (w.heap.size + 1 + 1) 33 #[.bool s6, .slice ao6 n6 cap6, .int .i64 ex6] (0, 0) _ rfl (store3_29 _ _ _ hblk6.out) Tryz.underlying33 rfl Tryz.info33) rfl ?_; exact ⟨_, rfl, (hN6.out.store (by have := HH.out.2.1; omega) _ _ _).mono HH.out.2.2.size, below_store3 (HH.out.2.2.trans (HF.out.mono HH.out.2.2.size)) (by omega) _ _ _⟩)
end Go.Proofs.YtdfkpjagnndfdaaGreatDoor
/- The document's Over: the quotient, cut to a place. -/
namespace Go.Proofs.YtdfkpjagnndfdaaGreatDoor
set_option linter.unusedVariables false
set_option linter.unusedSimpArgs false
open Go.RowKit

end Go.Proofs.YtdfkpjagnndfdaaGreatDoor
/- The document's Over, joined. -/
namespace Go.Proofs.YtdfkpjagnndfdaaGreatDoor
set_option linter.unusedVariables false
set_option linter.unusedSimpArgs false
open Go.RowKit

end Go.Proofs.YtdfkpjagnndfdaaGreatDoor
/- The document's RootOf: the root, cut to a place. -/
namespace Go.Proofs.YtdfkpjagnndfdaaGreatDoor
set_option linter.unusedVariables false
set_option linter.unusedSimpArgs false
open Go.RowKit

/-- nought can be handed on -/
theorem NC.nought (w : World) (base : Nat) (s : Bool) (e : Int) : NC w base (.agg #[.bool false, .slice none 0 0, .int .i64 0]) s 0 e := by
  refine ⟨none, 0, ?_, ?_, fun ad e => by cases e⟩
  · unfold cn; rw [if_pos rfl, dlen_zero]
  · unfold cn; rw [if_pos rfl]
    exact ⟨fun _ => .inr ⟨rfl, rfl⟩, ⟨0, 0, fun h => by rw [dlen_zero] at h; omega, fun i hi => by rw [dlen_zero] at hi; omega⟩, by rw [dlen_zero]; exact Nat.le_refl _, by rw [dlen_zero]; omega⟩
end Go.Proofs.YtdfkpjagnndfdaaGreatDoor
/- The document's Cut: a number, cut to a place. -/
namespace Go.Proofs.YtdfkpjagnndfdaaGreatDoor
set_option linter.unusedVariables false
set_option linter.unusedSimpArgs false
open Go.RowKit

end Go.Proofs.YtdfkpjagnndfdaaGreatDoor
/- The document's Quo. -/
namespace Go.Proofs.YtdfkpjagnndfdaaGreatDoor
set_option linter.unusedVariables false
set_option linter.unusedSimpArgs false
open Go.RowKit

end Go.Proofs.YtdfkpjagnndfdaaGreatDoor
/- The document's Quo, joined. -/
namespace Go.Proofs.YtdfkpjagnndfdaaGreatDoor
set_option linter.unusedVariables false
set_option linter.unusedSimpArgs false
open Go.RowKit

end Go.Proofs.YtdfkpjagnndfdaaGreatDoor
/- The document's Floor. -/
namespace Go.Proofs.YtdfkpjagnndfdaaGreatDoor
set_option linter.unusedVariables false
set_option linter.unusedSimpArgs false
open Go.RowKit

end Go.Proofs.YtdfkpjagnndfdaaGreatDoor
/- The document's Floor, joined. -/
namespace Go.Proofs.YtdfkpjagnndfdaaGreatDoor
set_option linter.unusedVariables false
set_option linter.unusedSimpArgs false
open Go.RowKit

end Go.Proofs.YtdfkpjagnndfdaaGreatDoor
/- The program's Floor. -/
namespace Go.Proofs.YtdfkpjagnndfdaaGreatDoor
set_option linter.unusedVariables false
set_option linter.unusedSimpArgs false
open Go.RowKit

end Go.Proofs.YtdfkpjagnndfdaaGreatDoor
/- The document's Root. -/
namespace Go.Proofs.YtdfkpjagnndfdaaGreatDoor
set_option linter.unusedVariables false
set_option linter.unusedSimpArgs false
open Go.RowKit

end Go.Proofs.YtdfkpjagnndfdaaGreatDoor
/- The document's Root, joined. -/
namespace Go.Proofs.YtdfkpjagnndfdaaGreatDoor
set_option linter.unusedVariables false
set_option linter.unusedSimpArgs false
open Go.RowKit

end Go.Proofs.YtdfkpjagnndfdaaGreatDoor
/- The program's Floor, Quo, Root, refused. -/
namespace Go.Proofs.YtdfkpjagnndfdaaGreatDoor
set_option linter.unusedVariables false
set_option linter.unusedSimpArgs false
open Go.RowKit

end Go.Proofs.YtdfkpjagnndfdaaGreatDoor
/- DyadCuts: the law's walk. -/
namespace Go.Proofs.YtdfkpjagnndfdaaGreatDoor
set_option linter.unusedVariables false
set_option linter.unusedSimpArgs false
open Go.RowKit

end Go.Proofs.YtdfkpjagnndfdaaGreatDoor
