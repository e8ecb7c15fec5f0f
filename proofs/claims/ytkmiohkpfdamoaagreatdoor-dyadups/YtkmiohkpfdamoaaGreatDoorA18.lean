/- Own work: contracts of the program's functions, part 18: UB6 UB7 UB8 UB9 UC1 UC2 VU4 UF1 UF2 VU5 VU6 VU7 VU8. -/
import Derived.Test.YtkmiohkpfdamoaaGreatDoorA17
import Derived.Deep.CutRange
import Derived.Test.YtkmiohkpfdamoaaGreatDoorA16
import Derived.Test.YtkmiohkpfdamoaaGreatDoorA12

set_option maxHeartbeats 16000000
namespace Go.Proofs.YtkmiohkpfdamoaaGreatDoor
set_option linter.unusedVariables false
set_option linter.unusedSimpArgs false
open Go.RowKit Go.Fl64
def two (a b : Nat) : Nat → Nat := fun i => if i = 0 then a else b
def l4 (i : Nat) : Nat := if i = 0 then 4607182418800017408 else if i = 1 then 6103021453049119613 else if i = 2 then 4607182418800017408 else 15326393489903895421
theorem dn_storeU {w : World} {A : Value} {t : Bool × Nat × Int} {g : Nat} {s : Bool} {ao : Option Addr} {n cap : Nat} {e : Int} (h : DN w A t) (hg : w.heap[g]? = some (.cells #[.bool s, .slice ao n cap, .int .i64 e] 24 (0, 0))) (a b c : Value) : DN (((w.setCell ⟨g, 0, none⟩ a).setCell ⟨g, 1, none⟩ b).setCell ⟨g, 2, none⟩ c) A t := by
  obtain ⟨oo, cc, h1, h2⟩ := h
  exact ⟨oo, cc, h1, h2.nil, at_box h2.at_ rfl hg (by simp) (by simp) (by simp) a b c, h2.le, h2.small⟩
def agR (td tg : Bool × Nat × Int) (o : Int) : Int := if td.1 then 1 else if tg.1 then 1 else o
theorem boxes4 {w W : World} (a b c d : Obj) (hW : W = (((w.alloc a).alloc b).alloc c).alloc d) : W.heap[w.heap.size]? = some a ∧ W.heap[w.heap.size + 1]? = some b ∧ W.heap[w.heap.size + 1 + 1]? = some c ∧ W.heap[w.heap.size + 1 + 1 + 1]? = some d ∧ W.heap.size = w.heap.size + 1 + 1 + 1 + 1 ∧ Below w.heap.size w W := by
  obtain ⟨h1, h2, h3, h4, h5⟩ := boxes3 a b c rfl (w := w)
  have hb : Below (((w.alloc a).alloc b).alloc c).heap.size (((w.alloc a).alloc b).alloc c) W := by rw [hW]; exact (Below.refl _ _).alloc (Nat.le_refl _) _
  refine ⟨(hb.block _ (by omega)).trans h1, (hb.block _ (by omega)).trans h2, (hb.block _ (by omega)).trans h3, ?_, ?_, h5.trans (hb.mono h5.size)⟩
  · rw [hW, ← h4]; exact heap_alloc_new _ _
  · rw [hW]; simp [h4]
def Bd3 (w3 wc : World) (g : Nat) (s : Bool) (ao : Option Addr) (n cap : Nat) (ex : Int) (t : Bool × Nat × Int) : Prop :=
  wc.heap[g]? = some (.cells #[.bool s, .slice ao n cap, .int .i64 ex] 24 (0, 0)) ∧ w3.heap.size ≤ g ∧ Below w3.heap.size w3 wc ∧ DN wc (.agg #[.bool s, .slice ao n cap, .int .i64 ex]) t
theorem Bd3.new {w3 w7 : World} {s : Bool} {ao : Option Addr} {n cap : Nat} {ex : Int} {t : Bool × Nat × Int} (hn : DN w7 (.agg #[.bool s, .slice ao n cap, .int .i64 ex]) t) (hb : Below w3.heap.size w3 w7) :
    Bd3 w3 (w7.alloc (.cells #[.bool s, .slice ao n cap, .int .i64 ex] 24)) w7.heap.size s ao n cap ex t :=
  ⟨heap_alloc_new _ _, hb.size, hb.alloc hb.size _, hn.later ((Below.refl _ _).alloc (Nat.le_refl _) _)⟩
theorem Bd3.put {w3 w7 : World} {g : Nat} {s : Bool} {ao : Option Addr} {n cap : Nat} {ex : Int} {t : Bool × Nat × Int} {s' : Bool} {ao' : Option Addr} {n' cap' : Nat} {e' : Int} (hn : DN w7 (.agg #[.bool s, .slice ao n cap, .int .i64 ex]) t) (hb : Below w3.heap.size w3 w7) (hg : w3.heap.size ≤ g) (hbx : w7.heap[g]? = some (.cells #[.bool s', .slice ao' n' cap', .int .i64 e'] 24 (0, 0))) :
    Bd3 w3 (((w7.setCell ⟨g, 0, none⟩ (.bool s)).setCell ⟨g, 1, none⟩ (.slice ao n cap)).setCell ⟨g, 2, none⟩ (.int .i64 ex)) g s ao n cap ex t :=
  ⟨store3_29 _ _ _ hbx, hg, below_store3 hb hg _ _ _, dn_storeU hn hbx _ _ _⟩
set_option maxRecDepth 200000 in
theorem against_1 (nc : Bool) (uc : Option Addr) (lc kc : Nat) (ec : Int) (np : Bool) (up : Option Addr) (lp kp : Nat) (ep : Int) (nq : Bool) (uq : Option Addr) (lq kq : Nat) (eq : Int) (nx : Bool) (ux : Option Addr) (lx kx : Nat) (ex : Int) (tc tp tq tx td tt ts tg tm tk tn : Bool × Nat × Int) (o : Int) (w : World) (hc : DN w (.agg #[.bool nc, .slice uc lc kc, .int .i64 ec]) tc) (hp : DN w (.agg #[.bool np, .slice up lp kp, .int .i64 ep]) tp) (hq : DN w (.agg #[.bool nq, .slice uq lq kq, .int .i64 eq]) tq) (hx : DN w (.agg #[.bool nx, .slice ux lx kx, .int .i64 ex]) tx)
    (kL : ∀ W X Y, Below w.heap.size w W → DN W X tx → DN W Y tc → Calls Tryz.prog 106 #[X, Y] W fun r w' => ∃ A, r = .returned A ∧ DN w' A td ∧ Below W.heap.size W w')
    (kT : ∀ W X Y, Below w.heap.size w W → DN W X td → DN W Y td → Calls Tryz.prog 107 #[X, Y] W fun r w' => ∃ A, r = .returned A ∧ DN w' A tt ∧ Below W.heap.size W w')
    (kP : ∀ W X Y, Below w.heap.size w W → DN W X tp → DN W Y tq → Calls Tryz.prog 59 #[X, Y] W fun r w' => ∃ A, r = .returned A ∧ DN w' A ts ∧ Below W.heap.size W w')
    (kG : ∀ W X Y, Below w.heap.size w W → DN W X tt → DN W Y ts → Calls Tryz.prog 106 #[X, Y] W fun r w' => ∃ A, r = .returned A ∧ DN w' A tg ∧ Below W.heap.size W w')
    (kM : ∀ W X Y, Below w.heap.size w W → DN W X tp → DN W Y tq → Calls Tryz.prog 107 #[X, Y] W fun r w' => ∃ A, r = .returned A ∧ DN w' A tm ∧ Below W.heap.size W w')
    (kS : ∀ W X, Below w.heap.size w W → DN W X tm → Calls Tryz.prog 109 #[X, .int .i64 2] W fun r w' => ∃ A, r = .returned A ∧ DN w' A tk ∧ Below W.heap.size W w')
    (kN : ∀ W X Y, Below w.heap.size w W → DN W X tg → DN W Y tg → Calls Tryz.prog 107 #[X, Y] W fun r w' => ∃ A, r = .returned A ∧ DN w' A tn ∧ Below W.heap.size W w')
    (kO : ∀ W X Y, Below w.heap.size w W → DN W X tk → DN W Y tn → Calls Tryz.prog 108 #[X, Y] W fun r w' => r = .returned (.int .i64 o) ∧ Below W.heap.size W w') :
    Calls Tryz.prog 61 #[.agg #[.bool nc, .slice uc lc kc, .int .i64 ec], .agg #[.bool np, .slice up lp kp, .int .i64 ep], .agg #[.bool nq, .slice uq lq kq, .int .i64 eq], .agg #[.bool nx, .slice ux lx kx, .int .i64 ex]] w fun r w' => r = .returned (.int .i64 (agR td tg o)) ∧ Below w.heap.size w w' := by
  obtain ⟨W, hW⟩ : ∃ W, W = (((w.alloc (.cells #[.bool nc, .slice uc lc kc, .int .i64 ec] 24)).alloc (.cells #[.bool np, .slice up lp kp, .int .i64 ep] 24)).alloc (.cells #[.bool nq, .slice uq lq kq, .int .i64 eq] 24)).alloc (.cells #[.bool nx, .slice ux lx kx, .int .i64 ex] 24) := ⟨_, rfl⟩
  obtain ⟨hA, hBb, hC, hD, hsz, hBW⟩ := boxes4 _ _ _ _ hW
  have HH : Hid (Below w.heap.size w W ∧ W.heap.size = w.heap.size + 1 + 1 + 1 + 1 ∧ W.heap[w.heap.size]? = some (.cells #[.bool nc, .slice uc lc kc, .int .i64 ec] 24 (0, 0)) ∧ W.heap[w.heap.size + 1]? = some (.cells #[.bool np, .slice up lp kp, .int .i64 ep] 24 (0, 0)) ∧ W.heap[w.heap.size + 1 + 1]? = some (.cells #[.bool nq, .slice uq lq kq, .int .i64 eq] 24 (0, 0)) ∧ W.heap[w.heap.size + 1 + 1 + 1]? = some (.cells #[.bool nx, .slice ux lx kx, .int .i64 ex] 24 (0, 0))) := ⟨hBW, hsz, hA, hBb, hC, hD⟩
  have HD : Hid (DN W (.agg #[.bool nc, .slice uc lc kc, .int .i64 ec]) tc ∧ DN W (.agg #[.bool np, .slice up lp kp, .int .i64 ep]) tp ∧ DN W (.agg #[.bool nq, .slice uq lq kq, .int .i64 eq]) tq ∧ DN W (.agg #[.bool nx, .slice ux lx kx, .int .i64 ex]) tx) := ⟨hc.later hBW, hp.later hBW, hq.later hBW, hx.later hBW⟩
  have HT : Hid _ := kT
  have HP : Hid _ := kP
  have HG : Hid _ := kG
  have HM : Hid _ := kM
  have HS : Hid _ := kS
  have HN : Hid _ := kN
  have HO : Hid _ := kO
  have kk := kL W _ _ hBW HD.out.2.2.2 HD.out.1
  obtain ⟨⟨a0, a1, a2⟩, -⟩ := box_cells29 hA
  obtain ⟨⟨d0, d1, d2⟩, -⟩ := box_cells29 hD
  clear hA hBb hC hD hsz hBW hc hp hq hx kL kT kP kG kM kS kN kO
  go_enter Tryz.func61, Tryz.ntmps61
  go_wp2_with fail
  rw [← hW]
  clear hW
  go_wp2_with fail
  refine kk.mono ?_
  rintro r w1 ⟨A1, rfl, hd1, hb1⟩
  obtain ⟨sd, aod, ld, kd, ed, rfl⟩ := hd1.shape
  clear a0 a1 a2 d0 d1 d2 kk
  have hsd : sd = td.1 := by
    obtain ⟨_, _, e, -⟩ := hd1
    simp only [Value.agg.injEq, Array.mk.injEq, List.cons.injEq, Value.bool.injEq] at e
    exact e.1
  have HB1 : Hid (Below W.heap.size W w1) := hb1
  have HD1 : Hid (DN w1 (.agg #[.bool sd, .slice aod ld kd, .int .i64 ed]) td) := hd1
  clear hb1 hd1
  cases hs : td.1
  · rw [hs] at hsd
    subst hsd
    obtain ⟨w2, hw2⟩ : ∃ w2, w2 = w1.alloc (.cells #[.bool false, .slice aod ld kd, .int .i64 ed] 24) := ⟨_, rfl⟩
    have HB2 : Hid (Below w.heap.size w w2 ∧ Below W.heap.size W w2 ∧ DN w2 (.agg #[.bool false, .slice aod ld kd, .int .i64 ed]) td ∧ w2.heap[w1.heap.size]? = some (.cells #[.bool false, .slice aod ld kd, .int .i64 ed] 24 (0, 0))) := by
      have h1 : Below w1.heap.size w1 w2 := by rw [hw2]; exact (Below.refl _ _).alloc (Nat.le_refl _) _
      have h2 : Below W.heap.size W w2 := HB1.out.trans (h1.mono HB1.out.size)
      exact ⟨HH.out.1.trans (h2.mono HH.out.1.size), h2, HD1.out.later h1, by rw [hw2]; exact heap_alloc_new _ _⟩
    have HDQ : Hid (DN w2 (.agg #[.bool np, .slice up lp kp, .int .i64 ep]) tp ∧ DN w2 (.agg #[.bool nq, .slice uq lq kq, .int .i64 eq]) tq) := ⟨HD.out.2.1.later HB2.out.2.1, HD.out.2.2.1.later HB2.out.2.1⟩
    have HK : Hid (∀ w', Below w2.heap.size w2 w' → ((w'.cell? ⟨w1.heap.size, 0, none⟩ = some (.bool false) ∧ w'.cell? ⟨w1.heap.size, 1, none⟩ = some (.slice aod ld kd) ∧ w'.cell? ⟨w1.heap.size, 2, none⟩ = some (.int .i64 ed)) ∧ (w'.cell? ⟨w.heap.size + 1, 0, none⟩ = some (.bool np) ∧ w'.cell? ⟨w.heap.size + 1, 1, none⟩ = some (.slice up lp kp) ∧ w'.cell? ⟨w.heap.size + 1, 2, none⟩ = some (.int .i64 ep)) ∧ (w'.cell? ⟨w.heap.size + 1 + 1, 0, none⟩ = some (.bool nq) ∧ w'.cell? ⟨w.heap.size + 1 + 1, 1, none⟩ = some (.slice uq lq kq) ∧ w'.cell? ⟨w.heap.size + 1 + 1, 2, none⟩ = some (.int .i64 eq))) ∧ Below w2.heap.size w2 w') := fun w' hb => by
      have hbW := HB2.out.2.1.trans (hb.mono HB2.out.2.1.size)
      have hz := HH.out.2.1
      exact ⟨⟨(box_cells29 (box_later HB2.out.2.2.2 hb (lt_of_box HB2.out.2.2.2))).1, (box_cells29 (box_later HH.out.2.2.2.1 hbW (by omega))).1, (box_cells29 (box_later HH.out.2.2.2.2.1 hbW (by omega))).1⟩, hb⟩
    have kT' : ∀ w4, Below w2.heap.size w2 w4 → Calls Tryz.prog 107 #[.agg #[.bool false, .slice aod ld kd, .int .i64 ed], .agg #[.bool false, .slice aod ld kd, .int .i64 ed]] w4 fun r w' => ∃ A, r = .returned A ∧ DN w' A tt ∧ Below w2.heap.size w2 w' ∧ Hid (∀ g o, w4.heap[g]? = some o → w'.heap[g]? = some o) := fun w4 hb => (HT.out w4 _ _ (HB2.out.1.trans (hb.mono HB2.out.1.size)) (HB2.out.2.2.1.later hb) (HB2.out.2.2.1.later hb)).mono fun r w' ⟨A, e1, o1, o2⟩ => ⟨A, e1, o1, hb.trans (o2.mono hb.size), fun g o hg => box_later hg o2 (lt_of_box hg)⟩
    have kP' : ∀ w4, Below w2.heap.size w2 w4 → Calls Tryz.prog 59 #[.agg #[.bool np, .slice up lp kp, .int .i64 ep], .agg #[.bool nq, .slice uq lq kq, .int .i64 eq]] w4 fun r w' => ∃ A, r = .returned A ∧ DN w' A ts ∧ Below w2.heap.size w2 w' ∧ Below w4.heap.size w4 w' ∧ Hid (∀ g o, w4.heap[g]? = some o → w'.heap[g]? = some o) := fun w4 hb => (HP.out w4 _ _ (HB2.out.1.trans (hb.mono HB2.out.1.size)) (HDQ.out.1.later hb) (HDQ.out.2.later hb)).mono fun r w' ⟨A, e1, o1, o2⟩ => ⟨A, e1, o1, hb.trans (o2.mono hb.size), o2, fun g o hg => box_later hg o2 (lt_of_box hg)⟩
    have kG' : ∀ X Y w4, DN w4 X tt → DN w4 Y ts → Below w2.heap.size w2 w4 → Calls Tryz.prog 106 #[X, Y] w4 fun r w' => ∃ s ao n cap ex, r = .returned (.agg #[.bool s, .slice ao n cap, .int .i64 ex]) ∧ DN w' (.agg #[.bool s, .slice ao n cap, .int .i64 ex]) tg ∧ Below w2.heap.size w2 w' ∧ Hid (∀ g o, w4.heap[g]? = some o → w'.heap[g]? = some o) := fun X Y w4 h1 h2 hb => (HG.out w4 _ _ (HB2.out.1.trans (hb.mono HB2.out.1.size)) h1 h2).mono fun r w' ⟨A, e1, o1, o2⟩ => by
      obtain ⟨s, ao, n, cap, ex, rfl⟩ := o1.shape
      exact ⟨s, ao, n, cap, ex, e1, o1, hb.trans (o2.mono hb.size), fun g o hg => box_later hg o2 (lt_of_box hg)⟩
    obtain ⟨⟨⟨a0, a1, a2⟩, ⟨b0, b1, b2⟩, ⟨c0, c1, c2⟩⟩, -⟩ := HK.out w2 (Below.refl _ _)
    have hBR : Below w2.heap.size w2 w2.drew := (Below.refl _ _).drew
    go_wp2_with fail
    rw [← hw2]
    clear hw2
    generalize w1.heap.size = gd at *
    go_cut [10] from 16 to 22 (fun p wx => ∃ g s ao n cap ex, p = .pointer (some ⟨g, 0, none⟩) ∧ Hid (Bd3 w2 wx g s ao n cap ex tg))
    case first =>
      go_region_held3 (fun w' => ((w'.cell? ⟨gd, 0, none⟩ = some (.bool false) ∧ w'.cell? ⟨gd, 1, none⟩ = some (.slice aod ld kd) ∧ w'.cell? ⟨gd, 2, none⟩ = some (.int .i64 ed)) ∧ (w'.cell? ⟨w.heap.size + 1, 0, none⟩ = some (.bool np) ∧ w'.cell? ⟨w.heap.size + 1, 1, none⟩ = some (.slice up lp kp) ∧ w'.cell? ⟨w.heap.size + 1, 2, none⟩ = some (.int .i64 ep)) ∧ (w'.cell? ⟨w.heap.size + 1 + 1, 0, none⟩ = some (.bool nq) ∧ w'.cell? ⟨w.heap.size + 1 + 1, 1, none⟩ = some (.slice uq lq kq) ∧ w'.cell? ⟨w.heap.size + 1 + 1, 2, none⟩ = some (.int .i64 eq))) ∧ Below w2.heap.size w2 w') (first | (with_reducible assumption) | exact ⟨⟨⟨a0, a1, a2⟩, ⟨b0, b1, b2⟩, ⟨c0, c1, c2⟩⟩, hBR⟩ | (refine HK.out _ ?_; with_reducible assumption) | (refine HK.out _ ?_; refine Below.alloc (by with_reducible assumption) (Below.size (by with_reducible assumption)) _) | (refine HK.out _ (below_store3 (by first | (with_reducible assumption) | exact hb7.alloc hb7.size _) (by first | exact Nat.le_refl _ | exact hb5.size | exact hb6.size | exact hb7.size) _ _ _)) | go_keep)
        (first | (go_at_call 107; refine (kT' _ (by first | (with_reducible assumption) | exact hBR.alloc hBR.size _)).mono ?_; rintro r w5 ⟨A5, rfl, hd5, hb5, hk5⟩; first | (have HBX : Hid (w5.heap[w2.heap.size]? = some (.cells #[.bool false, .slice none 0 0, .int .i64 0] 24 (0, 0))) := hk5.out _ _ (heap_alloc_new w2.drew _)) | (have HBX : Hid True := trivial))
               | (go_at_call 59; refine (kP' _ (by first | (with_reducible assumption) | exact hb5.alloc hb5.size _)).mono ?_; rintro r w6 ⟨A6, rfl, hd6, hb6, hq6, hk6⟩; have hd5 := (show DN w6 A5 tt from by first | exact hd5.later hq6 | exact (hd5.later ((Below.refl _ _).alloc (Nat.le_refl _) _)).later hq6); first | (have HBY := hidOf (hk6.out _ _ HBX.out)) | (have HBY : Hid (w6.heap[w5.heap.size]? = some (.cells #[.bool false, .slice none 0 0, .int .i64 0] 24 (0, 0))) := hk6.out _ _ (heap_alloc_new w5 _)) | (have HBY : Hid True := trivial))
               | (go_at_call 106; refine (kG' _ _ _ (by first | (with_reducible assumption) | exact hd5.later ((Below.refl _ _).alloc (Nat.le_refl _) _)) (by first | (with_reducible assumption) | exact hd6.later ((Below.refl _ _).alloc (Nat.le_refl _) _)) (by first | (with_reducible assumption) | exact hb6.alloc hb6.size _)).mono ?_; rintro r w7 ⟨s7, ao7, n7, cap7, ex7, rfl, hn7, hb7, hk7⟩; first | (have HBZ := hidOf (hk7.out _ _ HBY.out); obtain ⟨⟨x1, x2, x3⟩, x4, x5, x6⟩ := box_cells29 HBZ.out) | (have HBZ : Hid (w7.heap[w6.heap.size]? = some (.cells #[.bool false, .slice none 0 0, .int .i64 0] 24 (0, 0))) := hk7.out _ _ (heap_alloc_new w6 _); obtain ⟨⟨x1, x2, x3⟩, x4, x5, x6⟩ := box_cells29 HBZ.out) | (have HBZ : Hid True := trivial)))
      all_goals go_wp2_with fail
      all_goals go_meet
      all_goals first
        | exact ⟨_, _, _, _, _, _, rfl, Bd3.new hn7 hb7⟩
        | exact ⟨_, _, _, _, _, _, rfl, Bd3.put hn7 hb7 hb6.size HBZ.out⟩
        | exact ⟨_, _, _, _, _, _, rfl, Bd3.put hn7 hb7 hb5.size HBZ.out⟩
        | exact ⟨_, _, _, _, _, _, rfl, Bd3.put hn7 hb7 (Nat.le_refl _) HBZ.out⟩
    case rest =>
      obtain ⟨w8, rfl⟩ : ∃ w8 : World, w8 = wc := ⟨_, rfl⟩
      obtain ⟨gg, sg, aog, ng, kg, exg, rfl, H8⟩ := hcut
      have hsg : sg = tg.1 := by
        obtain ⟨_, _, e, -⟩ := H8.out.2.2.2
        simp only [Value.agg.injEq, Array.mk.injEq, List.cons.injEq, Value.bool.injEq] at e
        exact e.1
      have HW8 : Hid (Below w.heap.size w w8) := HB2.out.1.trans (H8.out.2.2.1.mono HB2.out.1.size)
      clear kT' kP' kG' hBR a0 a1 a2 b0 b1 b2 c0 c1 c2
      obtain ⟨⟨a0, a1, a2⟩, -⟩ := box_cells29 H8.out.1
      cases hg : tg.1
      · rw [hg] at hsg
        subst hsg
        have HK7 : Hid (∀ w', Below w8.heap.size w8 w' → ((w'.cell? ⟨gg, 0, none⟩ = some (.bool false) ∧ w'.cell? ⟨gg, 1, none⟩ = some (.slice aog ng kg) ∧ w'.cell? ⟨gg, 2, none⟩ = some (.int .i64 exg)) ∧ (w'.cell? ⟨w.heap.size + 1, 0, none⟩ = some (.bool np) ∧ w'.cell? ⟨w.heap.size + 1, 1, none⟩ = some (.slice up lp kp) ∧ w'.cell? ⟨w.heap.size + 1, 2, none⟩ = some (.int .i64 ep)) ∧ (w'.cell? ⟨w.heap.size + 1 + 1, 0, none⟩ = some (.bool nq) ∧ w'.cell? ⟨w.heap.size + 1 + 1, 1, none⟩ = some (.slice uq lq kq) ∧ w'.cell? ⟨w.heap.size + 1 + 1, 2, none⟩ = some (.int .i64 eq))) ∧ Below w8.heap.size w8 w') := fun w' hb => ⟨⟨(box_cells29 (box_later H8.out.1 hb (lt_of_box H8.out.1))).1, (HK.out w' (H8.out.2.2.1.trans (hb.mono H8.out.2.2.1.size))).1.2⟩, hb⟩
        have kM' : ∀ w4, Below w8.heap.size w8 w4 → Calls Tryz.prog 107 #[.agg #[.bool np, .slice up lp kp, .int .i64 ep], .agg #[.bool nq, .slice uq lq kq, .int .i64 eq]] w4 fun r w' => ∃ A, r = .returned A ∧ DN w' A tm ∧ Below w8.heap.size w8 w' := fun w4 hb => (HM.out w4 _ _ (HW8.out.trans (hb.mono HW8.out.size)) (HDQ.out.1.later (H8.out.2.2.1.trans (hb.mono H8.out.2.2.1.size))) (HDQ.out.2.later (H8.out.2.2.1.trans (hb.mono H8.out.2.2.1.size)))).mono fun r w' ⟨A, e1, o1, o2⟩ => ⟨A, e1, o1, hb.trans (o2.mono hb.size)⟩
        have kS' : ∀ X w4, DN w4 X tm → Below w8.heap.size w8 w4 → Calls Tryz.prog 109 #[X, .int .i64 2] w4 fun r w' => ∃ A, r = .returned A ∧ DN w' A tk ∧ Below w8.heap.size w8 w' := fun X w4 h hb => (HS.out w4 _ (HW8.out.trans (hb.mono HW8.out.size)) h).mono fun r w' ⟨A, e1, o1, o2⟩ => ⟨A, e1, o1, hb.trans (o2.mono hb.size)⟩
        have kN' : ∀ X w4, DN w4 X tk → Below w8.heap.size w8 w4 → Calls Tryz.prog 107 #[.agg #[.bool false, .slice aog ng kg, .int .i64 exg], .agg #[.bool false, .slice aog ng kg, .int .i64 exg]] w4 fun r w' => ∃ A, r = .returned A ∧ DN w' A tn ∧ DN w' X tk ∧ Below w8.heap.size w8 w' := fun X w4 h hb => (HN.out w4 _ _ (HW8.out.trans (hb.mono HW8.out.size)) (H8.out.2.2.2.later hb) (H8.out.2.2.2.later hb)).mono fun r w' ⟨A, e1, o1, o2⟩ => ⟨A, e1, o1, h.later o2, hb.trans (o2.mono hb.size)⟩
        have kO' : ∀ X Y w4, DN w4 X tk → DN w4 Y tn → Below w8.heap.size w8 w4 → Calls Tryz.prog 108 #[X, Y] w4 fun r w' => r = .returned (.int .i64 o) ∧ Below w8.heap.size w8 w' := fun X Y w4 h1 h2 hb => (HO.out w4 _ _ (HW8.out.trans (hb.mono HW8.out.size)) h1 h2).mono fun r w' ⟨e1, o2⟩ => ⟨e1, hb.trans (o2.mono hb.size)⟩
        have hBR : Below w8.heap.size w8 w8.drew := (Below.refl _ _).drew
        obtain ⟨⟨-, ⟨b0, b1, b2⟩, ⟨c0, c1, c2⟩⟩, -⟩ := HK7.out w8 (Below.refl _ _)
        go_upto_region 7 with fail
        go_region_held3 (fun w' => ((w'.cell? ⟨gg, 0, none⟩ = some (.bool false) ∧ w'.cell? ⟨gg, 1, none⟩ = some (.slice aog ng kg) ∧ w'.cell? ⟨gg, 2, none⟩ = some (.int .i64 exg)) ∧ (w'.cell? ⟨w.heap.size + 1, 0, none⟩ = some (.bool np) ∧ w'.cell? ⟨w.heap.size + 1, 1, none⟩ = some (.slice up lp kp) ∧ w'.cell? ⟨w.heap.size + 1, 2, none⟩ = some (.int .i64 ep)) ∧ (w'.cell? ⟨w.heap.size + 1 + 1, 0, none⟩ = some (.bool nq) ∧ w'.cell? ⟨w.heap.size + 1 + 1, 1, none⟩ = some (.slice uq lq kq) ∧ w'.cell? ⟨w.heap.size + 1 + 1, 2, none⟩ = some (.int .i64 eq))) ∧ Below w8.heap.size w8 w') (first | (with_reducible assumption) | exact ⟨⟨⟨a0, a1, a2⟩, ⟨b0, b1, b2⟩, ⟨c0, c1, c2⟩⟩, hBR⟩ | (refine HK7.out _ ?_; with_reducible assumption) | go_keep)
          (first | (go_at_call 107; first | (with_reducible refine (kM' _ (by first | (with_reducible assumption) | exact hBR)).mono ?_; rintro r w10 ⟨A10, rfl, hd10, hb10⟩) | (refine (kN' _ _ hd11 hb11).mono ?_; rintro r w12 ⟨A12, rfl, hd12, hd11, hb12⟩))
                 | (go_at_call 109; refine (kS' _ _ hd10 hb10).mono ?_; rintro r w11 ⟨A11, rfl, hd11, hb11⟩)
                 | (go_at_call 108; refine (kO' _ _ _ hd11 hd12 hb12).mono ?_; rintro r w13 ⟨rfl, hb13⟩))
        go_wp2_with fail
        go_ret
        exact ⟨by unfold agR; simp [hs, hg], HW8.out.trans (hb13.mono HW8.out.size)⟩
      · rw [hg] at hsg
        subst hsg
        go_wp2_with fail
        go_ret
        exact ⟨by unfold agR; simp [hs, hg], HW8.out⟩
  · rw [hs] at hsd
    subst hsd
    have HW1 : Hid (Below w.heap.size w (w1.alloc (.cells #[.bool true, .slice aod ld kd, .int .i64 ed] 24))) := (HH.out.1.trans (HB1.out.mono HH.out.1.size)).alloc (Nat.le_trans HH.out.1.size HB1.out.size) _
    go_wp2_with fail
    go_ret
    exact ⟨by unfold agR; simp [hs], HW1.out⟩
theorem Rounds.near {N u b : Nat} (hu : 0 < u) (h : Rounds (N * u) u b 1) (m : Nat) : ((N : Int) - bv b).natAbs ≤ ((N : Int) - bv m).natAbs := by
  obtain ⟨b0, ⟨l, g⟩, -, -, w1⟩ := h.fl
  have w := w1 rfl
  have l' : bv b0 ≤ N := Nat.le_of_mul_le_mul_right l hu
  have g' : N < bv (b0 + 1) := Nat.lt_of_mul_lt_mul_right g
  have i1 : 2 * (N * u) < (bv b0 + bv (b0 + 1)) * u ↔ 2 * N < bv b0 + bv (b0 + 1) := by
    rw [← Nat.mul_assoc]; exact Nat.mul_lt_mul_right hu
  have i2 : 2 * (N * u) = (bv b0 + bv (b0 + 1)) * u ↔ 2 * N = bv b0 + bv (b0 + 1) := by
    rw [← Nat.mul_assoc]; exact Nat.mul_left_inj (by omega)
  simp only [i1, i2] at w
  have hb : (b = b0 ∧ 2 * N ≤ bv b0 + bv (b0 + 1)) ∨ (b = b0 + 1 ∧ bv b0 + bv (b0 + 1) ≤ 2 * N) := by
    split at w
    · exact .inl ⟨w, by omega⟩
    · split at w
      · rcases (show b0 % 2 = 0 ∨ b0 % 2 = 1 by omega) with p | p
        · exact .inl ⟨by omega, by omega⟩
        · exact .inr ⟨by omega, by omega⟩
      · exact .inr ⟨w, by omega⟩
  have hm : bv m ≤ bv b0 ∨ bv (b0 + 1) ≤ bv m := by
    rcases (show m ≤ b0 ∨ b0 + 1 ≤ m by omega) with p | p
    · exact .inl (bv_le p)
    · exact .inr (bv_le p)
  rcases hb with ⟨rfl, p⟩ | ⟨rfl, p⟩ <;> rcases hm with q | q <;> omega
theorem vz_num5 {a : Nat} (ha : a < 18446744073709551616) (hf : mag a < 9218868437227405312) : vz 70000 (tF a).1 (tF a).2.1 (tF a).2.2 = sv (neg a) (bv (mag a)) * (UU 70000 : Nat) := by
  obtain ⟨m, hm, -⟩ := sM_lt a ha
  have e : nM a = m := by unfold nM; rw [hm]; rfl
  have hE : -1074 ≤ Ie.sE a := by
    by_cases h0 : mag a = 0
    · rw [(num_zero h0).2]; omega
    · exact (num_parts hf h0).2.2.1
  rw [← sv_scale, ← cn_parts a m ha hf hm, vz_cn (by omega), ← vz_num (K := 70000) (by omega) hf, e]
  unfold nN
  by_cases h0 : mag a = 0
  · have : nM a = 0 := (num_zero h0).1
    rw [← e, this]
    unfold vz
    rw [sv_zero, sv_zero]
  · rw [if_neg h0]
def flN (n : Int) : Nat := if n < 0 then 9223372036854775808 + n.natAbs else n.toNat
def fvN (n : Int) : Int := if n < 0 then -(bv n.natAbs : Int) else (bv n.toNat : Int)
theorem flN_stp {n : Int} (h1 : -9223372036854775808 < n) (h2 : n < 9223372036854775808) : stp (flN n) = n ∧ flN n < 18446744073709551616 := by
  unfold flN stp sgn neg mag
  by_cases h : n < 0
  · rw [if_pos h, decide_eq_true (by omega), if_pos rfl]; omega
  · rw [if_neg h, decide_eq_false (by omega), if_neg (by decide)]; omega
theorem stp_mag (f : Nat) : (stp f).natAbs = mag f := by
  unfold stp sgn; split <;> omega
theorem stp_val (f : Nat) : sv (neg f) (bv (mag f)) = fvN (stp f) := by
  unfold sv fvN stp sgn
  cases hn : neg f
  · simp only [Bool.false_eq_true, if_false]
    rw [if_neg (by omega), Int.toNat_natCast]
  · simp only [if_true]
    by_cases h0 : mag f = 0
    · rw [h0]; simp [bv_zero]
    · rw [if_pos (by omega), show (-(mag f : Int)).natAbs = mag f by omega]
theorem stp_fl {f : Nat} (hf : f < 18446744073709551616) (h0 : stp f ≠ 0) : flN (stp f) = f := by
  unfold flN stp sgn neg mag at *
  by_cases h : 9223372036854775808 ≤ f
  · rw [decide_eq_true h] at h0 ⊢
    simp only [if_true] at h0 ⊢
    rw [if_pos (by omega)]; omega
  · rw [decide_eq_false h] at h0 ⊢
    simp only [Bool.false_eq_true, if_false] at h0 ⊢
    rw [if_neg (by omega)]; omega
theorem fvN_lt {n m : Int} (h : n < m) : fvN n < fvN m := by
  unfold fvN
  by_cases h1 : n < 0
  · rw [if_pos h1]
    by_cases h2 : m < 0
    · rw [if_pos h2]
      have := bv_lt (show m.natAbs < n.natAbs by omega)
      omega
    · rw [if_neg h2]
      have := bv_lt (show 0 < n.natAbs by omega)
      omega
  · rw [if_neg h1, if_neg (by omega)]
    have := bv_lt (show n.toNat < m.toNat by omega)
    omega
theorem fvN_le {n m : Int} (h : n ≤ m) : fvN n ≤ fvN m := by
  rcases (show n = m ∨ n < m by omega) with rfl | h
  · omega
  · exact Int.le_of_lt (fvN_lt h)
theorem fvN_succ (n : Int) : fvN n + 1 ≤ fvN (n + 1) := by have := fvN_lt (show n < n + 1 by omega); omega
theorem fvN_zero : fvN 0 = 0 := rfl
def agN (c p q : Bool × Nat × Int) (n : Int) : Int := agI (vz 70000 c.1 c.2.1 c.2.2) (vz (70000 + 70000) p.1 p.2.1 p.2.2) (vz (70000 + 70000) q.1 q.2.1 q.2.2) (fvN n * ((UU 70000 : Nat) : Int))
theorem agN_T {c p q : Bool × Nat × Int} {f : Nat} (hf : f < 18446744073709551616) (hm : mag f < 9218868437227405312) : agT c p q (tF f) = agN c p q (stp f) := by
  unfold agT agN
  rw [vz_num5 hf hm, stp_val]
theorem agN_0 {c p q : Bool × Nat × Int} : agT c p q (false, 0, 0) = agN c p q 0 := by
  unfold agT agN
  rw [vz_zero, fvN_zero, Int.zero_mul]
theorem agN_mono {c p q : Bool × Nat × Int} {n m : Int} (h : n ≤ m) (hp : 0 < agN c p q m) : 0 < agN c p q n :=
  agI_mono (Int.mul_le_mul_of_nonneg_right (fvN_le h) (by have := UU_pos 70000; omega)) hp
structure Lst (c p q : Bool × Nat × Int) (n : Int) : Prop where
  lo : -9218868437227405311 ≤ n
  hi : n ≤ 9218868437227405312
  here : n = 9218868437227405312 ∨ agN c p q n ≤ 0
  below : n = -9218868437227405311 ∨ 0 < agN c p q (n - 1)
theorem Lst.one {c p q : Bool × Nat × Int} {n m : Int} (h1 : Lst c p q n) (h2 : Lst c p q m) : n = m := by
  rcases (show n < m ∨ n = m ∨ m < n by omega) with h | h | h
  · exfalso
    have a := h1.here
    have b := h2.below
    have := h1.lo
    have := h2.hi
    have a' : agN c p q n ≤ 0 := by omega
    have b' : 0 < agN c p q (m - 1) := by omega
    have := agN_mono (show n ≤ m - 1 by omega) b'
    omega
  · exact h
  · exfalso
    have a := h2.here
    have b := h1.below
    have := h2.lo
    have := h1.hi
    have a' : agN c p q m ≤ 0 := by omega
    have b' : 0 < agN c p q (n - 1) := by omega
    have := agN_mono (show m ≤ n - 1 by omega) b'
    omega
theorem lst_from (c p q : Bool × Nat × Int) : ∀ k : Nat, ∀ n : Int, n + k = 9218868437227405312 → -9218868437227405311 ≤ n → (n = -9218868437227405311 ∨ 0 < agN c p q (n - 1)) → ∃ m, Lst c p q m
  | 0, n, h, h1, h2 => ⟨n, h1, by omega, .inl (by omega), h2⟩
  | k + 1, n, h, h1, h2 => by
    by_cases h3 : agN c p q n ≤ 0
    · exact ⟨n, h1, by omega, .inr h3, h2⟩
    · exact lst_from c p q k (n + 1) (by omega) (by omega) (.inr (by rw [Int.add_sub_cancel]; omega))
theorem lst_ex (c p q : Bool × Nat × Int) : ∃ n, Lst c p q n := lst_from c p q (9218868437227405312 + 9218868437227405311) (-9218868437227405311) (by omega) (by omega) (.inl rfl)
def upA (c p q : Bool × Nat × Int) (n : Int) : Nat := if n = 0 then (if agN c p q 0 < 0 then 9223372036854775808 else 0) else flN n
end Go.Proofs.YtkmiohkpfdamoaaGreatDoor
namespace Go.Proofs.YtkmiohkpfdamoaaGreatDoor
set_option linter.unusedVariables false
set_option linter.unusedSimpArgs false
open Go Go.RowKit Go.Fl64
theorem against_ok {c p q x : Bool × Nat × Int} {A B C D : Value} {w : World} (oc : Ok c) (op : Ok p) (oq : Ok q) (hx : Bg x (-65536) 131072) (h1 : DN w A c) (h2 : DN w B p) (h3 : DN w C q) (h4 : DN w D x) :
    Calls Tryz.prog 61 #[A, B, C, D] w fun r w' => r = .returned (.int .i64 (agT c p q x)) ∧ Below w.heap.size w w' := by
  obtain ⟨s1, a1, n1, c1, e1, rfl⟩ := h1.shape
  obtain ⟨s2, a2, n2, c2, e2, rfl⟩ := h2.shape
  obtain ⟨s3, a3, n3, c3, e3, rfl⟩ := h3.shape
  obtain ⟨s4, a4, n4, c4, e4, rfl⟩ := h4.shape
  have lc := oc.bg.lg (by omega) (by omega) (by omega) (by omega)
  have lp := op.bg.lg (by omega) (by omega) (by omega) (by omega)
  have lq := oq.bg.lg (by omega) (by omega) (by omega) (by omega)
  have lx := hx.lg (by omega) (by omega) (by omega) (by omega)
  have ld := (d_bg oc hx).lg (by omega) (by omega) (by omega) (by omega)
  have ldd := (dd_bg oc hx).lg (by omega) (by omega) (by omega) (by omega)
  have ls := (pq_bg op oq).lg (by omega) (by omega) (by omega) (by omega)
  have lg := (g_bg oc op oq hx).lg (by omega) (by omega) (by omega) (by omega)
  have lm := (p4_bg op oq).lg (by omega) (by omega) (by omega) (by omega)
  have bk : Bg (tK ((2 : Nat) : Int) (tM p q)) (-262144) 524294 := (tK_bg (p4_bg op oq)).mono (by omega) (by omega)
  have lk' := bk.lg (by omega) (by omega) (by omega) (by omega)
  have ln := (gg_bg oc op oq hx).lg (by omega) (by omega) (by omega) (by omega)
  have hv : vz (70000 + 70000 + (70000 + 70000)) (tK ((2 : Nat) : Int) (tM p q)).1 (tK ((2 : Nat) : Int) (tM p q)).2.1 (tK ((2 : Nat) : Int) (tM p q)).2.2 = 4 * (vz (70000 + 70000) p.1 p.2.1 p.2.2 * vz (70000 + 70000) q.1 q.2.1 q.2.2) := by
    have b := (p4_bg op oq).bounds (by omega) (by omega)
    rw [tK_val (by omega), op.bg.vmul (K := 70000 + 70000) (L := 70000 + 70000) oq.bg (by omega) (by omega) (by omega) (by omega) (by omega) (by omega)]
    rfl
  have e := agT_eq oc op oq hx bk hv
  rw [e]
  exact against_1 s1 a1 n1 c1 e1 s2 a2 n2 c2 e2 s3 a3 n3 c3 e3 s4 a4 n4 c4 e4 c p q x (tD x c) (tM (tD x c) (tD x c)) (tS p q) (gT c p q x) (tM p q) (tK ((2 : Nat) : Int) (tM p q)) (tM (gT c p q x) (gT c p q x)) _ w h1 h2 h3 h4
    (fun W X Y _ a b => less_lg lx lc a b) (fun W X Y _ a b => times_lg ld ld a b) (fun W X Y _ a b => plus_lg lp lq a b) (fun W X Y _ a b => less_lg ldd ls a b) (fun W X Y _ a b => times_lg lp lq a b)
    (fun W X _ a => scaled_lg lm a (by omega)) (fun W X Y _ a b => times_lg lg lg a b) (fun W X Y _ a b => order_lg lk' ln a b)
theorem tF_bg (f : Nat) : Bg (tF f) (-65536) 131072 := (tF_ok f).bg
theorem against_f {c p q : Bool × Nat × Int} {A B C D : Value} {w : World} {f : Nat} (oc : Ok c) (op : Ok p) (oq : Ok q) (hf : f < 18446744073709551616) (hm : mag f < 9218868437227405312) (h1 : DN w A c) (h2 : DN w B p) (h3 : DN w C q) (h4 : DN w D (tF f)) :
    Calls Tryz.prog 61 #[A, B, C, D] w fun r w' => r = .returned (.int .i64 (agN c p q (stp f))) ∧ Below w.heap.size w w' := by
  rw [← agN_T hf hm]
  exact against_ok oc op oq (tF_bg f) h1 h2 h3 h4
theorem run_negf (a : Nat) (w : World) : (Op.unary .neg (.float .f64 a)).run Tryz.prog w = .ok (.float .f64 (Op.negFloat .f64 a)) w := rfl
theorem neg_lt0 {f : Nat} (hf : f < 18446744073709551616) (hn : mag f ≤ 9218868437227405312) : (FloatKind.f64.format.order f 0 == some Ordering.lt) = decide (stp f < 0) := by
  rw [ord_lt f 0 hf (by decide)]
  unfold lt
  rw [show isNaN f = false from decide_eq_false (by omega)]
  have : stp 0 = 0 := rfl
  rw [this]
  simp [isNaN, mag]
theorem step_1 (f : Nat) (d M b : Int) (w : World) (ha : bits .andNot .u64 (f : Int) 9223372036854775808 = M) (h0 : 0 ≤ M) (h1 : M < 9218868437227405312) (hl : (FloatKind.f64.format.order f 0 == some Ordering.lt) = false) (hb : M + d = b) (hd1 : -1 ≤ d) (hd2 : d ≤ 1) (hs : ¬ b < 0) :
    Calls Tryz.prog 63 #[.float .f64 f, .int .i64 d] w fun r w' => r = .returned (.float .f64 b.toNat) ∧ w' = w := by
  have kb := Ie.run_bits f
  have kf := Ie.run_frombits
  have kn := run_negf
  subst hb
  go_enter Tryz.func63, Tryz.ntmps63
  go_wp2
  go_ret
  exact ⟨rfl, rfl⟩
theorem step_2 (f : Nat) (d M b : Int) (w : World) (ha : bits .andNot .u64 (f : Int) 9223372036854775808 = M) (h0 : 0 ≤ M) (h1 : M < 9218868437227405312) (hl : (FloatKind.f64.format.order f 0 == some Ordering.lt) = false) (hb : M + d = b) (hd1 : -1 ≤ d) (hd2 : d ≤ 1) (hs : b < 0) :
    Calls Tryz.prog 63 #[.float .f64 f, .int .i64 d] w fun r w' => r = .returned (.float .f64 (Op.negFloat .f64 (-b).toNat)) ∧ w' = w := by
  have kb := Ie.run_bits f
  have kf := Ie.run_frombits
  have kn := run_negf
  subst hb
  go_enter Tryz.func63, Tryz.ntmps63
  go_wp2
  go_ret
  exact ⟨rfl, rfl⟩
theorem step_3 (f : Nat) (d M b : Int) (w : World) (ha : bits .andNot .u64 (f : Int) 9223372036854775808 = M) (h0 : 0 ≤ M) (h1 : M < 9218868437227405312) (hl : (FloatKind.f64.format.order f 0 == some Ordering.lt) = true) (hb : -M + d = b) (hd1 : -1 ≤ d) (hd2 : d ≤ 1) (hs : ¬ b < 0) :
    Calls Tryz.prog 63 #[.float .f64 f, .int .i64 d] w fun r w' => r = .returned (.float .f64 b.toNat) ∧ w' = w := by
  have kb := Ie.run_bits f
  have kf := Ie.run_frombits
  have kn := run_negf
  subst hb
  go_enter Tryz.func63, Tryz.ntmps63
  go_wp2
  go_ret
  exact ⟨rfl, rfl⟩
theorem step_4 (f : Nat) (d M b : Int) (w : World) (ha : bits .andNot .u64 (f : Int) 9223372036854775808 = M) (h0 : 0 ≤ M) (h1 : M < 9218868437227405312) (hl : (FloatKind.f64.format.order f 0 == some Ordering.lt) = true) (hb : -M + d = b) (hd1 : -1 ≤ d) (hd2 : d ≤ 1) (hs : b < 0) :
    Calls Tryz.prog 63 #[.float .f64 f, .int .i64 d] w fun r w' => r = .returned (.float .f64 (Op.negFloat .f64 (-b).toNat)) ∧ w' = w := by
  have kb := Ie.run_bits f
  have kf := Ie.run_frombits
  have kn := run_negf
  subst hb
  go_enter Tryz.func63, Tryz.ntmps63
  go_wp2
  go_ret
  exact ⟨rfl, rfl⟩
theorem step_ok (f : Nat) (d : Int) (hf : f < 18446744073709551616) (hn : mag f < 9218868437227405312) (hd : d = 1 ∨ d = -1) (w : World) :
    Calls Tryz.prog 63 #[.float .f64 f, .int .i64 d] w fun r w' => r = .returned (.float .f64 (flN (stp f + d))) ∧ w' = w := by
  have ha := andNot_sign f hf
  have hl := neg_lt0 hf (by omega)
  have hng : ∀ b : Int, b < 0 → -9223372036854775808 < b → Op.negFloat .f64 (-b).toNat = flN b := fun b h1 h2 => by
    rw [negF _ (by omega)]
    unfold ngt neg flN
    rw [decide_eq_false (by omega), if_neg (by decide), if_pos h1]; omega
  have hps : ∀ b : Int, ¬ b < 0 → b.toNat = flN b := fun b h1 => by unfold flN; rw [if_neg h1]
  by_cases h0 : stp f < 0
  · rw [decide_eq_true h0] at hl
    have e : stp f = -(mag f : Int) := by have := stp_mag f; omega
    by_cases h1 : -(mag f : Int) + d < 0
    · rw [e, ← hng _ h1 (by omega)]
      exact step_4 f d _ _ w ha (by omega) (by omega) hl rfl (by omega) (by omega) h1
    · rw [e, ← hps _ h1]
      exact step_3 f d _ _ w ha (by omega) (by omega) hl rfl (by omega) (by omega) h1
  · rw [decide_eq_false h0] at hl
    have e : stp f = (mag f : Int) := by have := stp_mag f; omega
    by_cases h1 : (mag f : Int) + d < 0
    · rw [e, ← hng _ h1 (by omega)]
      exact step_2 f d _ _ w ha (by omega) (by omega) hl rfl (by omega) (by omega) h1
    · rw [e, ← hps _ h1]
      exact step_1 f d _ _ w ha (by omega) (by omega) hl rfl (by omega) (by omega) h1
def nextA (a : Nat) : Nat := if mag a = 0 then 1 else if neg a then a - 1 else a + 1
theorem next_3 (a : Nat) (w : World) (hn : (FloatKind.f64.format.order a a != some Ordering.eq) = false) (h2 : ((a : Int) == 9218868437227405312) = false) (h3 : (FloatKind.f64.format.order a 0 == some Ordering.eq) = true) :
    Calls Tryz.prog 57 #[.float .f64 a] w fun r w' => r = .returned (.float .f64 1) ∧ w' = w := by
  have kb := Ie.run_bits
  have kf := Ie.run_frombits
  go_enter Tryz.func57, Tryz.ntmps57
  go_wp2
  go_ret
  exact ⟨rfl, rfl⟩
theorem next_4 (a : Nat) (r : Int) (w : World) (hn : (FloatKind.f64.format.order a a != some Ordering.eq) = false) (h2 : ((a : Int) == 9218868437227405312) = false) (h3 : (FloatKind.f64.format.order a 0 == some Ordering.eq) = false) (h4 : (bits .and .u64 (a : Int) 9223372036854775808 != 0) = true) (h5 : IntKind.u64.wrap ((a : Int) - 1) = r) :
    Calls Tryz.prog 57 #[.float .f64 a] w fun e w' => e = .returned (.float .f64 r.toNat) ∧ w' = w := by
  have kb := Ie.run_bits
  have kf := Ie.run_frombits
  go_enter Tryz.func57, Tryz.ntmps57
  go_wp2
  go_ret
  exact ⟨rfl, rfl⟩
theorem next_5 (a : Nat) (r : Int) (w : World) (hn : (FloatKind.f64.format.order a a != some Ordering.eq) = false) (h2 : ((a : Int) == 9218868437227405312) = false) (h3 : (FloatKind.f64.format.order a 0 == some Ordering.eq) = false) (h4 : (bits .and .u64 (a : Int) 9223372036854775808 != 0) = false) (h5 : IntKind.u64.wrap ((a : Int) + 1) = r) :
    Calls Tryz.prog 57 #[.float .f64 a] w fun e w' => e = .returned (.float .f64 r.toNat) ∧ w' = w := by
  have kb := Ie.run_bits
  have kf := Ie.run_frombits
  go_enter Tryz.func57, Tryz.ntmps57
  go_wp2
  go_ret
  exact ⟨rfl, rfl⟩
theorem next_ok (a : Nat) (ha : a < 18446744073709551616) (hn : mag a < 9218868437227405312) (w : World) :
    Calls Tryz.prog 57 #[.float .f64 a] w fun r w' => r = .returned (.float .f64 (nextA a)) ∧ w' = w := by
  have n1 : isNaN a = false := decide_eq_false (by omega)
  have q1 := self_ne a ha
  rw [n1] at q1
  have q2 : ((a : Int) == 9218868437227405312) = false := by
    rw [beq_eq_false_iff_ne]
    intro h
    have : a = 9218868437227405312 := by omega
    rw [this] at hn
    revert hn; decide
  have q3 := unought ha
  have q3' : (FloatKind.f64.format.order a 0 == some Ordering.eq) = decide (mag a = 0) := by
    have : (FloatKind.f64.format.order a 0 != some Ordering.eq) = !(FloatKind.f64.format.order a 0 == some Ordering.eq) := rfl
    rw [this] at q3
    revert q3
    cases (FloatKind.f64.format.order a 0 == some Ordering.eq) <;> cases decide (mag a = 0) <;> simp
  have q4 : (bits .and .u64 (a : Int) 9223372036854775808 != 0) = neg a := by
    rw [and_sign a ha]
    cases neg a <;> decide
  unfold nextA
  by_cases h0 : mag a = 0
  · rw [if_pos h0]
    rw [decide_eq_true h0] at q3'
    exact next_3 a w q1 q2 q3'
  · rw [if_neg h0]
    rw [decide_eq_false h0] at q3'
    cases hs : neg a
    · rw [hs] at q4
      have h9 : a < 9223372036854775808 := by unfold neg at hs; simpa using hs
      rw [if_neg (by decide)]
      exact next_5 a ((a + 1 : Nat) : Int) w q1 q2 q3' q4 (by rw [IntKind.wrap_u64]; omega)
    · rw [hs] at q4
      have h9 : 9223372036854775808 ≤ a := by unfold neg at hs; simpa using hs
      rw [if_pos rfl]
      exact next_4 a ((a - 1 : Nat) : Int) w q1 q2 q3' q4 (by rw [IntKind.wrap_u64]; omega)
theorem nextA_stp {a : Nat} (ha : a < 18446744073709551616) (hn : mag a < 9218868437227405312) : stp (nextA a) = stp a + 1 ∧ nextA a < 18446744073709551616 ∧ (stp a = -1 → nextA a = 9223372036854775808) := by
  unfold nextA stp sgn neg mag at *
  by_cases h0 : a % 9223372036854775808 = 0
  · rw [if_pos h0, h0]
    refine ⟨?_, by omega, ?_⟩
    · by_cases h1 : 9223372036854775808 ≤ a
      · rw [decide_eq_true h1]; rfl
      · rw [decide_eq_false h1]; rfl
    · by_cases h1 : 9223372036854775808 ≤ a
      · rw [decide_eq_true h1]; intro h; exact absurd h (by decide)
      · rw [decide_eq_false h1]; intro h; exact absurd h (by decide)
  · rw [if_neg h0]
    by_cases h1 : 9223372036854775808 ≤ a
    · rw [decide_eq_true h1, if_pos rfl, if_pos rfl]
      refine ⟨?_, by omega, fun h => by omega⟩
      by_cases h2 : 9223372036854775808 ≤ a - 1
      · rw [decide_eq_true h2, if_pos rfl]; omega
      · omega
    · rw [decide_eq_false h1]
      simp only [Bool.false_eq_true, if_false]
      refine ⟨?_, by omega, fun h => by omega⟩
      rw [decide_eq_false (by omega)]
      simp only [Bool.false_eq_true, if_false]
      omega
end Go.Proofs.YtkmiohkpfdamoaaGreatDoor
namespace Go.Proofs.YtkmiohkpfdamoaaGreatDoor
set_option linter.unusedVariables false
set_option linter.unusedSimpArgs false
open Go.RowKit Go.Fl64
theorem rhigh_0 (neg : Bool) (ao : Option Addr) (cap : Nat) (e : Int) (w : World) :
    Calls Tryz.prog 97 #[.agg #[.bool neg, .slice ao 0 cap, .int .i64 e]] w fun r w' => r = .returned (.int .i64 0) ∧ Below w.heap.size w w' := by
  have hb : Below w.heap.size w (w.alloc (.cells #[.bool neg, .slice ao 0 cap, .int .i64 e] 24)) := (Below.refl _ _).alloc (Nat.le_refl _) _
  have HB : Hid (Below w.heap.size w (w.alloc (.cells #[.bool neg, .slice ao 0 cap, .int .i64 e] 24))) := hb
  clear hb
  go_enter Tryz.func97, Tryz.ntmps97
  go_wp2
  go_ret
  exact ⟨rfl, HB.out⟩
theorem rtQ_lt {x b : Nat} {ea place : Int} (hx : x < 2 ^ b) {n : Nat} (h : (b : Int) + (ea + 2 * place) ≤ n) : rtQ x ea place < 2 ^ n := by
  unfold rtQ
  by_cases h0 : 0 ≤ ea + 2 * place
  · rw [if_pos h0]
    have h1 : x * 2 ^ (ea + 2 * place).toNat < 2 ^ b * 2 ^ (ea + 2 * place).toNat := Nat.mul_lt_mul_of_pos_right hx (Nat.two_pow_pos _)
    rw [← Nat.pow_add] at h1
    exact Nat.lt_of_lt_of_le h1 (Nat.pow_le_pow_right (by omega) (by omega))
  · rw [if_neg h0]
    obtain ⟨k, hk⟩ : ∃ k, k = (-(ea + 2 * place)).toNat := ⟨_, rfl⟩
    rw [← hk]
    apply Nat.div_lt_of_lt_mul
    rw [← Nat.pow_add]
    exact Nat.lt_of_lt_of_le hx (Nat.pow_le_pow_right (by omega) (by omega))
set_option maxRecDepth 200000 in
theorem rough_1 (na : Bool) (ua : Option Addr) (un uc : Nat) (ea H h2 pl : Int) (x : Bool) (P : Bool × Nat × Int → Prop) (w : World)
    (hq : H.tdiv 2 = h2) (hb1 : -100000 ≤ h2) (hb2 : h2 ≤ 100000) (hp : 80 - h2 = pl) (hH1 : -200000 ≤ H) (hH2 : H ≤ 200000)
    (kH : ∀ W, Below w.heap.size w W → Calls Tryz.prog 97 #[.agg #[.bool na, .slice ua un uc, .int .i64 ea]] W fun r w' => r = .returned (.int .i64 H) ∧ Below W.heap.size W w')
    (kR : ∀ W, Below w.heap.size w W → Calls Tryz.prog 105 #[.agg #[.bool na, .slice ua un uc, .int .i64 ea], .int .i64 pl] W fun r w' => ∃ A y, r = .returned (.tuple #[A, .bool y]) ∧ (∃ t, P t ∧ DN w' A t) ∧ Below W.heap.size W w') :
    Calls Tryz.prog 60 #[.agg #[.bool na, .slice ua un uc, .int .i64 ea]] w fun r w' => ∃ A, r = .returned A ∧ (∃ t, P t ∧ DN w' A t) ∧ Below w.heap.size w w' := by
  obtain ⟨W, hW⟩ : ∃ W, W = (w.alloc (.cells #[.bool na, .slice ua un uc, .int .i64 ea] 24)).alloc (.cells #[.bool false, .slice none 0 0, .int .i64 0] 24) := ⟨_, rfl⟩
  obtain ⟨hA, hB, hsz, hBW⟩ := two29 _ _ hW
  have HH : Hid (Below w.heap.size w W ∧ W.heap.size = w.heap.size + 1 + 1 ∧ W.heap[w.heap.size]? = some (.cells #[.bool na, .slice ua un uc, .int .i64 ea] 24 (0, 0)) ∧ W.heap[w.heap.size + 1]? = some (.cells #[.bool false, .slice none 0 0, .int .i64 0] 24 (0, 0))) := ⟨hBW, hsz, hA, hB⟩
  have HK : Hid (∀ w', Below W.heap.size W w' → (w'.cell? ⟨w.heap.size, 0, none⟩ = some (.bool na) ∧ w'.cell? ⟨w.heap.size, 1, none⟩ = some (.slice ua un uc) ∧ w'.cell? ⟨w.heap.size, 2, none⟩ = some (.int .i64 ea)) ∧ Below W.heap.size W w') := fun w' hb => ⟨(box_cells29 (box_later hA hb (by omega))).1, hb⟩
  have kH' : ∀ w4, Below W.heap.size W w4 → Calls Tryz.prog 97 #[.agg #[.bool na, .slice ua un uc, .int .i64 ea]] w4 fun r w' => r = .returned (.int .i64 H) ∧ Below W.heap.size W w' ∧ Hid (∀ g o, w4.heap[g]? = some o → w'.heap[g]? = some o) := fun w4 hb => (kH w4 (hBW.trans (hb.mono hBW.size))).mono fun r w' ⟨e1, o2⟩ => ⟨e1, hb.trans (o2.mono hb.size), fun g o hg => box_later hg o2 (lt_of_box hg)⟩
  have kR' : ∀ w4, Below W.heap.size W w4 → Calls Tryz.prog 105 #[.agg #[.bool na, .slice ua un uc, .int .i64 ea], .int .i64 pl] w4 fun r w' => ∃ s ao n cap ex y t, r = .returned (.tuple #[.agg #[.bool s, .slice ao n cap, .int .i64 ex], .bool y]) ∧ P t ∧ DN w' (.agg #[.bool s, .slice ao n cap, .int .i64 ex]) t ∧ Below W.heap.size W w' ∧ Hid (∀ g o, w4.heap[g]? = some o → w'.heap[g]? = some o) := fun w4 hb => (kR w4 (hBW.trans (hb.mono hBW.size))).mono fun r w' ⟨A, y, e1, ⟨t, o0, o1⟩, o2⟩ => by
    obtain ⟨s, ao, n, cap, ex, rfl⟩ := o1.shape
    exact ⟨s, ao, n, cap, ex, y, t, e1, o0, o1, hb.trans (o2.mono hb.size), fun g o hg => box_later hg o2 (lt_of_box hg)⟩
  obtain ⟨⟨a0, a1, a2⟩, -⟩ := box_cells29 hA
  have hBR : Below W.heap.size W W.drew := (Below.refl _ _).drew
  have w1 : IntKind.i64.wrap h2 = h2 := by rw [IntKind.wrap_i64]; omega
  have w2 : IntKind.i64.wrap (80 - h2) = pl := by rw [IntKind.wrap_i64]; omega
  have w3 : wrap64 (80 - h2) = pl := by unfold wrap64; omega
  have w4 : IntKind.i64.wrap pl = pl := by rw [IntKind.wrap_i64]; omega
  clear hA hB hsz hBW kH kR
  go_enter Tryz.func60, Tryz.ntmps60
  go_upto_region 1 with fail
  rw [← hW]
  clear hW
  go_cut [3] from 6 to 13 (fun p wx => ∃ g s ao n cap ex, p = .pointer (some ⟨g, 0, none⟩) ∧ Hid (∃ t, P t ∧ Bd3 W wx g s ao n cap ex t))
  case first =>
    go_region_held3 (fun w' => (w'.cell? ⟨w.heap.size, 0, none⟩ = some (.bool na) ∧ w'.cell? ⟨w.heap.size, 1, none⟩ = some (.slice ua un uc) ∧ w'.cell? ⟨w.heap.size, 2, none⟩ = some (.int .i64 ea)) ∧ Below W.heap.size W w') (first | (with_reducible assumption) | exact ⟨⟨a0, a1, a2⟩, hBR⟩ | (refine HK.out _ ?_; with_reducible assumption) | (refine HK.out _ ?_; refine Below.alloc (by with_reducible assumption) (Below.size (by with_reducible assumption)) _) | (refine HK.out _ (below_store3 (by first | (with_reducible assumption) | exact hb7.alloc hb7.size _) (by first | exact Nat.le_refl _ | exact hb6.size | exact hb7.size) _ _ _)) | go_keep)
      (first | (go_at_call 97; refine (kH' _ (by first | (with_reducible assumption) | exact hBR.alloc hBR.size _)).mono ?_; rintro r w6 ⟨rfl, hb6, hk6⟩; first | (have HBY : Hid (w6.heap[W.heap.size]? = some (.cells #[.bool false, .slice none 0 0, .int .i64 0] 24 (0, 0))) := hk6.out _ _ (heap_alloc_new W.drew _)) | (have HBY : Hid True := trivial))
             | (go_at_call 105; refine (kR' _ (by first | (with_reducible assumption) | exact hb6.alloc hb6.size _)).mono ?_; rintro r w7 ⟨s7, ao7, n7, cap7, ex7, y7, t7, rfl, hp7, hn7, hb7, hk7⟩; first | (have HBZ := hidOf (hk7.out _ _ HBY.out); obtain ⟨⟨x1, x2, x3⟩, x4, x5, x6⟩ := box_cells29 HBZ.out) | (have HBZ : Hid (w7.heap[w6.heap.size]? = some (.cells #[.bool false, .slice none 0 0, .int .i64 0] 24 (0, 0))) := hk7.out _ _ (heap_alloc_new w6 _); obtain ⟨⟨x1, x2, x3⟩, x4, x5, x6⟩ := box_cells29 HBZ.out) | (have HBZ : Hid True := trivial)))
    all_goals go_wp2_with fail
    all_goals go_meet
    all_goals first
      | exact ⟨_, _, _, _, _, _, rfl, _, hp7, Bd3.new hn7 hb7⟩
      | exact ⟨_, _, _, _, _, _, rfl, _, hp7, Bd3.put hn7 hb7 hb6.size HBZ.out⟩
      | exact ⟨_, _, _, _, _, _, rfl, _, hp7, Bd3.put hn7 hb7 (Nat.le_refl _) HBZ.out⟩
  case rest =>
    obtain ⟨w8, rfl⟩ : ∃ w8 : World, w8 = wc := ⟨_, rfl⟩
    obtain ⟨g, s8, ao8, n8, cap8, ex8, rfl, H8⟩ := hcut
    obtain ⟨t8, hp8, hB8⟩ := H8.out
    obtain ⟨⟨x1, x2, x3⟩, -⟩ := box_cells29 hB8.1
    have hz := box_later HH.out.2.2.2 hB8.2.2.1 (by have := HH.out.2.1; omega)
    obtain ⟨⟨z1, z2, z3⟩, z4, z5, z6⟩ := box_cells29 hz
    have HR : Hid (P t8 ∧ DN w8 (.agg #[.bool s8, .slice ao8 n8 cap8, .int .i64 ex8]) t8 ∧ Below w.heap.size w w8 ∧ w8.heap[w.heap.size + 1]? = some (.cells #[.bool false, .slice none 0 0, .int .i64 0] 24 (0, 0))) := ⟨hp8, hB8.2.2.2, HH.out.1.trans (hB8.2.2.1.mono HH.out.1.size), hz⟩
    clear hp8 hB8 hz H8 kH' kR' hBR a0 a1 a2
    go_wp2_with fail
    refine bodyPost_ret (results_cell_row rfl _ _ (w.heap.size + 1) 24 #[.bool s8, .slice ao8 n8 cap8, .int .i64 ex8] (0, 0) _ rfl (store3_29 _ _ _ HR.out.2.2.2) Tryz.underlying24 rfl Tryz.info24) rfl ?_
    exact ⟨_, rfl, ⟨t8, HR.out.1, dn_storeU HR.out.2.1 HR.out.2.2.2 _ _ _⟩, below_store3 HR.out.2.2.1 (by omega) _ _ _⟩
theorem rough_ok {t : Bool × Nat × Int} {A : Value} {w : World} (o : Ok t) (h : DN w A t) :
    Calls Tryz.prog 60 #[A] w fun r w' => ∃ X, r = .returned X ∧ (∃ u, Bg u (-65536) 131072 ∧ DN w' X u) ∧ Below w.heap.size w w' := by
  obtain ⟨ao, cap, rfl, a1⟩ := h
  obtain ⟨f1, f2, f3, -, -⟩ := o.facts
  have main : ∀ H : Int, -65536 ≤ H → H ≤ 131072 → (∀ W, Below w.heap.size w W → Calls Tryz.prog 97 #[.agg #[.bool t.1, .slice ao (dlen t.2.1) cap, .int .i64 t.2.2]] W fun r w' => r = .returned (.int .i64 H) ∧ Below W.heap.size W w') → rtQ t.2.1 t.2.2 (80 - H.tdiv 2) < 2 ^ 200 →
      Calls Tryz.prog 60 #[.agg #[.bool t.1, .slice ao (dlen t.2.1) cap, .int .i64 t.2.2]] w fun r w' => ∃ X, r = .returned X ∧ (∃ u, Bg u (-65536) 131072 ∧ DN w' X u) ∧ Below w.heap.size w w' := by
    intro H h1 h2 kH hQ
    have hd : -32768 ≤ H.tdiv 2 ∧ H.tdiv 2 ≤ 65536 := by
      rcases Int.le_total 0 H with h | h
      · rw [Int.tdiv_eq_ediv_of_nonneg h]; omega
      · have : H.tdiv 2 = -((-H).tdiv 2) := by rw [Int.neg_tdiv, Int.neg_neg]
        rw [this, Int.tdiv_eq_ediv_of_nonneg (by omega)]; omega
    refine rough_1 t.1 ao (dlen t.2.1) cap t.2.2 H (H.tdiv 2) (80 - H.tdiv 2) false (fun u => Bg u (-65536) 131072) w rfl (by omega) (by omega) rfl (by omega) (by omega) kH ?_
    intro W hW
    refine (rrootof (na := t.1) (a1.later hW).at_ a1.le (by omega) (by omega) (by omega)).mono ?_
    rintro r w' ⟨X, s, rfl, hN, hs, -, hb⟩
    refine ⟨X, _, rfl, ⟨_, ⟨cn_idem _ _ _, Fits.cn ?_⟩, hN.dn⟩, hb⟩
    refine .inr ⟨by omega, by omega, ?_⟩
    have h3 : s ≤ s * s := by
      rcases Nat.eq_zero_or_pos s with h | h
      · omega
      · exact Nat.le_mul_of_pos_right s h
    refine Nat.lt_of_le_of_lt (Nat.le_trans h3 hs) (Nat.lt_of_lt_of_le hQ (Nat.pow_le_pow_right (by omega) (by omega)))
  by_cases h0 : t.2.1 = 0
  · refine main 0 (by omega) (by omega) (fun W hW => ?_) ?_
    · rw [h0, dlen_zero]
      exact rhigh_0 _ _ _ _ W
    · have hq : rtQ t.2.1 t.2.2 (80 - Int.tdiv 0 2) = 0 := by rw [h0]; unfold rtQ; split <;> simp
      rw [hq]; exact Nat.two_pow_pos _
  · have hbl : (bl t.2.1 : Int) ≤ 65536 := by
      have := bl_le_dlen t.2.1
      omega
    have hx : t.2.1 < 2 ^ bl t.2.1 := lt_bl _
    have hH : -65536 ≤ (bl t.2.1 : Int) + t.2.2 := by omega
    refine main (bl t.2.1 + t.2.2) hH (by omega) (fun W hW => rhigh (a1.later hW).at_ h0 (by omega) (by omega)) (rtQ_lt hx ?_)
    have hd : -1 ≤ (bl t.2.1 + t.2.2 : Int) - 2 * (bl t.2.1 + t.2.2 : Int).tdiv 2 ∧ (bl t.2.1 + t.2.2 : Int) - 2 * (bl t.2.1 + t.2.2 : Int).tdiv 2 ≤ 1 := by
      generalize (bl t.2.1 + t.2.2 : Int) = H
      rcases Int.le_total 0 H with h | h
      · rw [Int.tdiv_eq_ediv_of_nonneg h]; omega
      · have : H.tdiv 2 = -((-H).tdiv 2) := by rw [Int.neg_tdiv, Int.neg_neg]
        rw [this, Int.tdiv_eq_ediv_of_nonneg (by omega)]; omega
    omega
end Go.Proofs.YtkmiohkpfdamoaaGreatDoor
namespace Go.Proofs.YtkmiohkpfdamoaaGreatDoor
set_option linter.unusedVariables false
set_option linter.unusedSimpArgs false
open Go Go.RowKit Go.Fl64
structure Gf (f : Nat) : Prop where
  lt : f < 18446744073709551616
  lo : -9218868437227405311 ≤ stp f
  hi : stp f ≤ 9218868437227405312
theorem Gf.nn {f : Nat} (h : Gf f) : mag f ≤ 9218868437227405312 := by have := stp_mag f; have := h.lo; have := h.hi; omega
theorem Gf.fin {f : Nat} (h : Gf f) (h1 : stp f < 9218868437227405312) : mag f < 9218868437227405312 := by have := stp_mag f; have := h.lo; omega
theorem gf_fl {n : Int} (h1 : -9218868437227405311 ≤ n) (h2 : n ≤ 9218868437227405312) : Gf (flN n) := by
  obtain ⟨e1, e2⟩ := flN_stp (n := n) (by omega) (by omega)
  exact ⟨e2, by omega, by omega⟩
def ResU (AG : Int → Int) (F : Nat) : Prop := ∃ n : Int, (-9218868437227405311 ≤ n ∧ n ≤ 9218868437227405312) ∧ (n = 9218868437227405312 ∨ AG n ≤ 0) ∧ (n = -9218868437227405311 ∨ 0 < AG (n - 1)) ∧ F = if n = 0 then (if AG 0 < 0 then 9223372036854775808 else 0) else flN n
theorem resU_of {AG : Int → Int} {f : Nat} (hg : Gf f) (h1 : stp f = 9218868437227405312 ∨ AG (stp f) ≤ 0) (h2 : stp f = -9218868437227405311 ∨ 0 < AG (stp f - 1)) :
    (stp f = 0 → AG 0 < 0 → ResU AG 9223372036854775808) ∧ (stp f = 0 → ¬ AG 0 < 0 → ResU AG 0) ∧ (stp f ≠ 0 → ResU AG f) := by
  refine ⟨fun h0 hn => ⟨stp f, ⟨hg.lo, hg.hi⟩, h1, h2, ?_⟩, fun h0 hn => ⟨stp f, ⟨hg.lo, hg.hi⟩, h1, h2, ?_⟩, fun h0 => ⟨stp f, ⟨hg.lo, hg.hi⟩, h1, h2, ?_⟩⟩
  · rw [if_pos h0, if_pos hn]
  · rw [if_pos h0, if_neg hn]
  · rw [if_neg h0, stp_fl hg.lt h0]
def fltOf : Value → Nat
  | .float _ n => n
  | _ => 0
theorem nan_of {f : Nat} (h : mag f ≤ 9218868437227405312) : isNaN f = false := decide_eq_false (by omega)
theorem lt_inf {f : Nat} (hf : f < 18446744073709551616) (hn : mag f ≤ 9218868437227405312) : (FloatKind.f64.format.order f 9218868437227405312 == some Ordering.lt) = decide (stp f < 9218868437227405312) := by
  rw [ord_lt f _ hf (by decide)]
  unfold lt
  rw [nan_of hn, show isNaN 9218868437227405312 = false by decide, show stp 9218868437227405312 = 9218868437227405312 by decide]
  simp
theorem gt_max {f : Nat} (hf : f < 18446744073709551616) (hn : mag f ≤ 9218868437227405312) : (FloatKind.f64.format.order f 18442240474082181119 == some Ordering.gt) = decide (-9218868437227405311 < stp f) := by
  rw [ord_gt f _ hf (by decide)]
  unfold lt
  rw [nan_of hn, show isNaN 18442240474082181119 = false by decide, show stp 18442240474082181119 = -9218868437227405311 by decide]
  simp
theorem eq0 {f : Nat} (hf : f < 18446744073709551616) (hn : mag f ≤ 9218868437227405312) : (FloatKind.f64.format.order f 0 == some Ordering.eq) = decide (stp f = 0) := by
  rw [ord_eq f 0 hf (by decide)]
  unfold Fl64.eq
  rw [nan_of hn, show isNaN 0 = false by decide, show stp 0 = 0 by decide]
  simp
theorem ccopy (w : World) : Calls Tryz.prog 64 #[.float .f64 0, .float .f64 13830554455654793216] w fun e w' => e = .returned (.float .f64 9223372036854775808) ∧ w' = w := pcopysign 0 13830554455654793216 (by decide) (by decide) w
set_option maxRecDepth 200000 in
theorem upTo_1 (nc : Bool) (uc : Option Addr) (lc kc : Nat) (ec : Int) (np : Bool) (up : Option Addr) (lp kp : Nat) (ep : Int) (nq : Bool) (uq : Option Addr) (lq kq : Nat) (eq : Int) (AG : Int → Int) (PB PC PD : World → Value → Prop) (hPB : ∀ W W' A, PB W A → Below W.heap.size W W' → PB W' A) (w : World)
    (kP1 : ∀ W, Below w.heap.size w W → Calls Tryz.prog 60 #[.agg #[.bool np, .slice up lp kp, .int .i64 ep]] W fun r w' => ∃ A, r = .returned A ∧ PB w' A ∧ Below W.heap.size W w')
    (kP2 : ∀ W, Below w.heap.size w W → Calls Tryz.prog 60 #[.agg #[.bool nq, .slice uq lq kq, .int .i64 eq]] W fun r w' => ∃ A, r = .returned A ∧ PB w' A ∧ Below W.heap.size W w')
    (kP3 : ∀ W X Y, Below w.heap.size w W → PB W X → PB W Y → Calls Tryz.prog 59 #[X, Y] W fun r w' => ∃ A, r = .returned A ∧ PC w' A ∧ Below W.heap.size W w')
    (kP4 : ∀ W Y, Below w.heap.size w W → PC W Y → Calls Tryz.prog 59 #[.agg #[.bool nc, .slice uc lc kc, .int .i64 ec], Y] W fun r w' => ∃ A, r = .returned A ∧ PD w' A ∧ Below W.heap.size W w')
    (kP5 : ∀ W Y, Below w.heap.size w W → PD W Y → Calls Tryz.prog 58 #[Y, .int .i64 3] W fun r w' => ∃ f, r = .returned (.float .f64 f) ∧ Gf f ∧ Below W.heap.size W w')
    (kX : ∀ W f D, Below w.heap.size w W → f < 18446744073709551616 → mag f < 9218868437227405312 → DN W D (tF f) → Calls Tryz.prog 61 #[.agg #[.bool nc, .slice uc lc kc, .int .i64 ec], .agg #[.bool np, .slice up lp kp, .int .i64 ep], .agg #[.bool nq, .slice uq lq kq, .int .i64 eq], D] W fun r w' => r = .returned (.int .i64 (AG (stp f))) ∧ Below W.heap.size W w')
    (kZ : ∀ W, Below w.heap.size w W → Calls Tryz.prog 61 #[.agg #[.bool nc, .slice uc lc kc, .int .i64 ec], .agg #[.bool np, .slice up lp kp, .int .i64 ep], .agg #[.bool nq, .slice uq lq kq, .int .i64 eq], .agg #[.bool false, .slice none 0 0, .int .i64 0]] W fun r w' => r = .returned (.int .i64 (AG 0)) ∧ Below W.heap.size W w') :
    Calls Tryz.prog 24 #[.agg #[.bool nc, .slice uc lc kc, .int .i64 ec], .agg #[.bool np, .slice up lp kp, .int .i64 ep], .agg #[.bool nq, .slice uq lq kq, .int .i64 eq]] w fun r w' => ∃ F, r = .returned (.float .f64 F) ∧ ResU AG F ∧ Below w.heap.size w w' := by
  obtain ⟨W, hW⟩ : ∃ W, W = ((w.alloc (.cells #[.bool nc, .slice uc lc kc, .int .i64 ec] 24)).alloc (.cells #[.bool np, .slice up lp kp, .int .i64 ep] 24)).alloc (.cells #[.bool nq, .slice uq lq kq, .int .i64 eq] 24) := ⟨_, rfl⟩
  obtain ⟨hA, hBb, hC, hsz, hBW⟩ := boxes3 _ _ _ hW
  have HH : Hid (Below w.heap.size w W ∧ W.heap.size = w.heap.size + 1 + 1 + 1) := ⟨hBW, hsz⟩
  have HK : Hid (∀ w', Below W.heap.size W w' → ((w'.cell? ⟨w.heap.size, 0, none⟩ = some (.bool nc) ∧ w'.cell? ⟨w.heap.size, 1, none⟩ = some (.slice uc lc kc) ∧ w'.cell? ⟨w.heap.size, 2, none⟩ = some (.int .i64 ec)) ∧ (w'.cell? ⟨w.heap.size + 1, 0, none⟩ = some (.bool np) ∧ w'.cell? ⟨w.heap.size + 1, 1, none⟩ = some (.slice up lp kp) ∧ w'.cell? ⟨w.heap.size + 1, 2, none⟩ = some (.int .i64 ep)) ∧ (w'.cell? ⟨w.heap.size + 1 + 1, 0, none⟩ = some (.bool nq) ∧ w'.cell? ⟨w.heap.size + 1 + 1, 1, none⟩ = some (.slice uq lq kq) ∧ w'.cell? ⟨w.heap.size + 1 + 1, 2, none⟩ = some (.int .i64 eq))) ∧ Below W.heap.size W w') := fun w' hb => ⟨⟨(box_cells29 (box_later hA hb (by omega))).1, (box_cells29 (box_later hBb hb (by omega))).1, (box_cells29 (box_later hC hb (by omega))).1⟩, hb⟩
  have HX : Hid _ := kX
  have HZ : Hid _ := kZ
  have k1 : ∀ w4, Below W.heap.size W w4 → Calls Tryz.prog 60 #[.agg #[.bool np, .slice up lp kp, .int .i64 ep]] w4 fun r w' => ∃ A, r = .returned A ∧ PB w' A ∧ Below W.heap.size W w' := fun w4 hb => (kP1 w4 (hBW.trans (hb.mono hBW.size))).mono fun r w' ⟨A, e, o, o2⟩ => ⟨A, e, o, hb.trans (o2.mono hb.size)⟩
  have k2 : ∀ X w4, PB w4 X → Below W.heap.size W w4 → Calls Tryz.prog 60 #[.agg #[.bool nq, .slice uq lq kq, .int .i64 eq]] w4 fun r w' => ∃ A, r = .returned A ∧ PB w' A ∧ PB w' X ∧ Below W.heap.size W w' := fun X w4 h hb => (kP2 w4 (hBW.trans (hb.mono hBW.size))).mono fun r w' ⟨A, e, o, o2⟩ => ⟨A, e, o, hPB _ _ _ h o2, hb.trans (o2.mono hb.size)⟩
  have k3 : ∀ X Y w4, PB w4 X → PB w4 Y → Below W.heap.size W w4 → Calls Tryz.prog 59 #[X, Y] w4 fun r w' => ∃ A, r = .returned A ∧ PC w' A ∧ Below W.heap.size W w' := fun X Y w4 h h' hb => (kP3 w4 X Y (hBW.trans (hb.mono hBW.size)) h h').mono fun r w' ⟨A, e, o, o2⟩ => ⟨A, e, o, hb.trans (o2.mono hb.size)⟩
  have k4 : ∀ Y w4, PC w4 Y → Below W.heap.size W w4 → Calls Tryz.prog 59 #[.agg #[.bool nc, .slice uc lc kc, .int .i64 ec], Y] w4 fun r w' => ∃ A, r = .returned A ∧ PD w' A ∧ Below W.heap.size W w' := fun Y w4 h hb => (kP4 w4 Y (hBW.trans (hb.mono hBW.size)) h).mono fun r w' ⟨A, e, o, o2⟩ => ⟨A, e, o, hb.trans (o2.mono hb.size)⟩
  have k5 : ∀ Y w4, PD w4 Y → Below W.heap.size W w4 → Calls Tryz.prog 58 #[Y, .int .i64 3] w4 fun r w' => ∃ f, r = .returned (.float .f64 f) ∧ Gf f ∧ Below W.heap.size W w' := fun Y w4 h hb => (kP5 w4 Y (hBW.trans (hb.mono hBW.size)) h).mono fun r w' ⟨f, e, o, o2⟩ => ⟨f, e, o, hb.trans (o2.mono hb.size)⟩
  obtain ⟨⟨⟨a0, a1, a2⟩, ⟨b0, b1, b2⟩, ⟨c0, c1, c2⟩⟩, -⟩ := HK.out W (Below.refl _ _)
  have hBR : Below W.heap.size W W.drew := (Below.refl _ _).drew
  clear hA hBb hC hsz hBW kP1 kP2 kP3 kP4 kP5 kX kZ hPB
  go_enter Tryz.func24, Tryz.ntmps24
  go_upto_region 1 with fail
  rw [← hW]
  clear hW
  go_cut [7] from 9 to 16 (fun v wx => ∃ f, v = .float .f64 f ∧ Hid (Gf f ∧ Below W.heap.size W wx))
  case first =>
    go_region_held3 (fun w' => ((w'.cell? ⟨w.heap.size, 0, none⟩ = some (.bool nc) ∧ w'.cell? ⟨w.heap.size, 1, none⟩ = some (.slice uc lc kc) ∧ w'.cell? ⟨w.heap.size, 2, none⟩ = some (.int .i64 ec)) ∧ (w'.cell? ⟨w.heap.size + 1, 0, none⟩ = some (.bool np) ∧ w'.cell? ⟨w.heap.size + 1, 1, none⟩ = some (.slice up lp kp) ∧ w'.cell? ⟨w.heap.size + 1, 2, none⟩ = some (.int .i64 ep)) ∧ (w'.cell? ⟨w.heap.size + 1 + 1, 0, none⟩ = some (.bool nq) ∧ w'.cell? ⟨w.heap.size + 1 + 1, 1, none⟩ = some (.slice uq lq kq) ∧ w'.cell? ⟨w.heap.size + 1 + 1, 2, none⟩ = some (.int .i64 eq))) ∧ Below W.heap.size W w') (first | (with_reducible assumption) | exact ⟨⟨⟨a0, a1, a2⟩, ⟨b0, b1, b2⟩, ⟨c0, c1, c2⟩⟩, hBR⟩ | (refine HK.out _ ?_; with_reducible assumption) | go_keep)
      (first | (go_at_call 60; first | (with_reducible refine (k1 _ (by first | (with_reducible assumption) | exact hBR)).mono ?_; rintro r w4 ⟨A4, rfl, h4, hb4⟩) | (refine (k2 _ _ h4 hb4).mono ?_; rintro r w5 ⟨A5, rfl, h5, h4, hb5⟩))
             | (go_at_call 59; first | (with_reducible refine (k3 _ _ _ h4 h5 hb5).mono ?_; rintro r w6 ⟨A6, rfl, h6, hb6⟩) | (refine (k4 _ _ h6 hb6).mono ?_; rintro r w7 ⟨A7, rfl, h7, hb7⟩))
             | (go_at_call 58; refine (k5 _ _ h7 hb7).mono ?_; rintro r w8 ⟨f8, rfl, h8, hb8⟩))
    all_goals go_wp2_with fail
    all_goals go_meet
    all_goals exact ⟨_, rfl, h8, hb8⟩
  case rest =>
    obtain ⟨w3, rfl⟩ : ∃ w3 : World, w3 = wc := ⟨_, rfl⟩
    obtain ⟨f0, rfl, H0⟩ := hcut
    clear k1 k2 k3 k4 k5 hBR a0 a1 a2 b0 b1 b2 c0 c1 c2
    go_upto_block 0 with fail
    go_cut [7] from 17 to 30 (fun v wx => ∃ f, v = .float .f64 f ∧ Hid (Gf f ∧ Below W.heap.size W wx) ∧ Hid (stp f = 9218868437227405312 ∨ AG (stp f) ≤ 0))
    case first =>
      go_wp2_with fail
      go_loopw [7] (fun v wr => ∃ f, v = .float .f64 f ∧ Hid (Gf f ∧ Below W.heap.size W wr)) (fun v _ => (9218868437227405312 - stp (fltOf v)).toNat)
      case atStart => exact ⟨f0, rfl, H0⟩
      case round =>
        obtain ⟨f, rfl, HG⟩ := hrel
        clear H0
        have hli := lt_inf HG.out.1.lt HG.out.1.nn
        by_cases hi : stp f < 9218868437227405312
        · rw [decide_eq_true hi] at hli
          have HC : Hid (f < 18446744073709551616 ∧ mag f < 9218868437227405312) := ⟨HG.out.1.lt, HG.out.1.fin hi⟩
          have HKr : Hid (∀ w', Below wr.heap.size wr w' → ((w'.cell? ⟨w.heap.size, 0, none⟩ = some (.bool nc) ∧ w'.cell? ⟨w.heap.size, 1, none⟩ = some (.slice uc lc kc) ∧ w'.cell? ⟨w.heap.size, 2, none⟩ = some (.int .i64 ec)) ∧ (w'.cell? ⟨w.heap.size + 1, 0, none⟩ = some (.bool np) ∧ w'.cell? ⟨w.heap.size + 1, 1, none⟩ = some (.slice up lp kp) ∧ w'.cell? ⟨w.heap.size + 1, 2, none⟩ = some (.int .i64 ep)) ∧ (w'.cell? ⟨w.heap.size + 1 + 1, 0, none⟩ = some (.bool nq) ∧ w'.cell? ⟨w.heap.size + 1 + 1, 1, none⟩ = some (.slice uq lq kq) ∧ w'.cell? ⟨w.heap.size + 1 + 1, 2, none⟩ = some (.int .i64 eq))) ∧ Below wr.heap.size wr w') := fun w' hb => ⟨(HK.out w' (HG.out.2.trans (hb.mono HG.out.2.size))).1, hb⟩
          have HWr : Hid (Below w.heap.size w wr) := HH.out.1.trans (HG.out.2.mono HH.out.1.size)
          have kF : ∀ w4, Below wr.heap.size wr w4 → Calls Tryz.prog 62 #[.float .f64 f] w4 fun r w' => ∃ A, r = .returned A ∧ DN w' A (tF f) ∧ Below wr.heap.size wr w' := fun w4 hb => (float_dn f HC.out.1 w4).mono fun r w' ⟨A, e1, e2, e3⟩ => ⟨A, e1, e2, hb.trans (e3.mono hb.size)⟩
          have kA : ∀ D w4, DN w4 D (tF f) → Below wr.heap.size wr w4 → Calls Tryz.prog 61 #[.agg #[.bool nc, .slice uc lc kc, .int .i64 ec], .agg #[.bool np, .slice up lp kp, .int .i64 ep], .agg #[.bool nq, .slice uq lq kq, .int .i64 eq], D] w4 fun r w' => r = .returned (.int .i64 (AG (stp f))) ∧ Below wr.heap.size wr w' := fun D w4 h hb => (HX.out w4 f D (HWr.out.trans (hb.mono HWr.out.size)) HC.out.1 HC.out.2 h).mono fun r w' ⟨e1, e3⟩ => ⟨e1, hb.trans (e3.mono hb.size)⟩
          obtain ⟨⟨⟨a0, a1, a2⟩, ⟨b0, b1, b2⟩, ⟨c0, c1, c2⟩⟩, -⟩ := HKr.out wr (Below.refl _ _)
          have hBR : Below wr.heap.size wr wr.drew := (Below.refl _ _).drew
          have HI : Hid (stp f < 9218868437227405312) := hi
          clear hi
          obtain ⟨a, hae⟩ : ∃ a, a = AG (stp f) := ⟨_, rfl⟩
          rw [← hae] at kA
          have ks := step_ok f 1 HC.out.1 HC.out.2 (.inl rfl)
          go_upto_region 2 with fail
          go_region_held3 (fun w' => ((w'.cell? ⟨w.heap.size, 0, none⟩ = some (.bool nc) ∧ w'.cell? ⟨w.heap.size, 1, none⟩ = some (.slice uc lc kc) ∧ w'.cell? ⟨w.heap.size, 2, none⟩ = some (.int .i64 ec)) ∧ (w'.cell? ⟨w.heap.size + 1, 0, none⟩ = some (.bool np) ∧ w'.cell? ⟨w.heap.size + 1, 1, none⟩ = some (.slice up lp kp) ∧ w'.cell? ⟨w.heap.size + 1, 2, none⟩ = some (.int .i64 ep)) ∧ (w'.cell? ⟨w.heap.size + 1 + 1, 0, none⟩ = some (.bool nq) ∧ w'.cell? ⟨w.heap.size + 1 + 1, 1, none⟩ = some (.slice uq lq kq) ∧ w'.cell? ⟨w.heap.size + 1 + 1, 2, none⟩ = some (.int .i64 eq))) ∧ Below wr.heap.size wr w') (first | (with_reducible assumption) | exact ⟨⟨⟨a0, a1, a2⟩, ⟨b0, b1, b2⟩, ⟨c0, c1, c2⟩⟩, hBR⟩ | (refine HKr.out _ ?_; with_reducible assumption) | go_keep)
            (first | (go_at_call 30; refine (c61 _).mono ?_; rintro e w' ⟨rfl, hw'⟩; replace hw' := hw'.symm; subst hw') | (go_at_call 62; refine (kF _ (by first | (with_reducible assumption) | exact hBR)).mono ?_; rintro r w5 ⟨A5, rfl, hd5, hb5⟩) | (go_at_call 61; refine (kA _ _ hd5 hb5).mono ?_; rintro r w6 ⟨rfl, hb6⟩))
          have HB6 : Hid (Below W.heap.size W w6) := HG.out.2.trans (hb6.mono HG.out.2.size)
          clear hb6 hb5 hd5 kF kA hBR a0 a1 a2 b0 b1 b2 c0 c1 c2
          by_cases ha : 0 < a
          · have hda : decide (a > 0) = true := decide_eq_true ha
            go_wp2_with (first | (go_at_call 63; refine (ks _).mono ?_; rintro e w' ⟨rfl, hw'⟩; replace hw' := hw'.symm; subst hw'))
            go_roundw
            case rel => exact ⟨_, rfl, gf_fl (by have := HG.out.1.lo; omega) (by have := HI.out; omega), HB6.out⟩
            case measure =>
              have h1 := HI.out
              have h2 := HG.out.1.lo
              have h3 := (flN_stp (n := stp f + 1) (by omega) (by omega)).1
              show (9218868437227405312 - stp (flN (stp f + 1))).toNat < (9218868437227405312 - stp f).toNat
              omega
          · have hda : decide (a > 0) = false := decide_eq_false ha
            have HA0 : Hid (AG (stp f) ≤ 0) := by rw [← hae]; exact (by omega : a ≤ 0)
            go_wp2_with fail
            go_meet
            exact ⟨f, rfl, ⟨HG.out.1, HB6.out⟩, .inr HA0.out⟩
        · rw [decide_eq_false hi] at hli
          have HI : Hid (stp f = 9218868437227405312) := by have := HG.out.1.hi; exact (by omega : stp f = 9218868437227405312)
          clear hi
          go_upto_region 2 with fail
          go_quiet (first | (go_at_call 30; refine Calls.quiet_of_same (c61 _)))
          have HB6 : Hid (Below W.heap.size W (wr.drewN nq)) := ⟨HG.out.2.os, HG.out.2.tape, HG.out.2.output, HG.out.2.size, HG.out.2.block⟩
          go_wp2_with fail
          go_meet
          exact ⟨f, rfl, ⟨HG.out.1, HB6.out⟩, .inl HI.out⟩
    case rest =>
      obtain ⟨w5, rfl⟩ : ∃ w5 : World, w5 = wc := ⟨_, rfl⟩
      obtain ⟨f1, rfl, H1, H1a⟩ := hcut
      clear H0
      go_upto_block 2 with fail
      go_cut [7] from 31 to 45 (fun v wx => ∃ f, v = .float .f64 f ∧ Hid (Gf f ∧ Below W.heap.size W wx) ∧ Hid (stp f = 9218868437227405312 ∨ AG (stp f) ≤ 0) ∧ Hid (stp f = -9218868437227405311 ∨ 0 < AG (stp f - 1)))
      case first =>
        go_wp2_with fail
        go_loopw [7] (fun v wr => ∃ f, v = .float .f64 f ∧ Hid (Gf f ∧ Below W.heap.size W wr) ∧ Hid (stp f = 9218868437227405312 ∨ AG (stp f) ≤ 0)) (fun v _ => (stp (fltOf v) + 9218868437227405311).toNat)
        case atStart => exact ⟨f1, rfl, H1, H1a⟩
        case round =>
          obtain ⟨f, rfl, HG, HGa⟩ := hrel
          clear H1 H1a
          have hgt := gt_max HG.out.1.lt HG.out.1.nn
          have hli := lt_inf HG.out.1.lt HG.out.1.nn
          by_cases hlo : -9218868437227405311 < stp f
          · rw [decide_eq_true hlo] at hgt
            have HI : Hid (-9218868437227405311 < stp f) := hlo
            clear hlo
            by_cases hi : stp f < 9218868437227405312
            · rw [decide_eq_true hi] at hli
              have HGG : Hid (Gf (flN (stp f - 1)) ∧ stp (flN (stp f - 1)) = stp f - 1) := ⟨gf_fl (by have := HI.out; omega) (by omega), (flN_stp (by have := HI.out; omega) (by omega)).1⟩
              have HC : Hid (flN (stp f - 1) < 18446744073709551616 ∧ mag (flN (stp f - 1)) < 9218868437227405312) := ⟨HGG.out.1.lt, HGG.out.1.fin (by have := HGG.out.2; omega)⟩
              have ks := step_ok f (-1) HG.out.1.lt (HG.out.1.fin hi) (.inr rfl)
              rw [show stp f + -1 = stp f - 1 by omega] at ks
              obtain ⟨a, hae⟩ : ∃ a, a = AG (stp (flN (stp f - 1))) := ⟨_, rfl⟩
              have hae' : a = AG (stp f - 1) := by rw [hae, HGG.out.2]
              have HKr : Hid (∀ w', Below wr.heap.size wr w' → ((w'.cell? ⟨w.heap.size, 0, none⟩ = some (.bool nc) ∧ w'.cell? ⟨w.heap.size, 1, none⟩ = some (.slice uc lc kc) ∧ w'.cell? ⟨w.heap.size, 2, none⟩ = some (.int .i64 ec)) ∧ (w'.cell? ⟨w.heap.size + 1, 0, none⟩ = some (.bool np) ∧ w'.cell? ⟨w.heap.size + 1, 1, none⟩ = some (.slice up lp kp) ∧ w'.cell? ⟨w.heap.size + 1, 2, none⟩ = some (.int .i64 ep)) ∧ (w'.cell? ⟨w.heap.size + 1 + 1, 0, none⟩ = some (.bool nq) ∧ w'.cell? ⟨w.heap.size + 1 + 1, 1, none⟩ = some (.slice uq lq kq) ∧ w'.cell? ⟨w.heap.size + 1 + 1, 2, none⟩ = some (.int .i64 eq))) ∧ Below wr.heap.size wr w') := fun w' hb => ⟨(HK.out w' (HG.out.2.trans (hb.mono HG.out.2.size))).1, hb⟩
              have HWr : Hid (Below w.heap.size w wr) := HH.out.1.trans (HG.out.2.mono HH.out.1.size)
              have kF : ∀ w4, Below wr.heap.size wr w4 → Calls Tryz.prog 62 #[.float .f64 (flN (stp f - 1))] w4 fun r w' => ∃ A, r = .returned A ∧ DN w' A (tF (flN (stp f - 1))) ∧ Below wr.heap.size wr w' := fun w4 hb => (float_dn (flN (stp f - 1)) HC.out.1 w4).mono fun r w' ⟨A, e1, e2, e3⟩ => ⟨A, e1, e2, hb.trans (e3.mono hb.size)⟩
              have kA : ∀ D w4, DN w4 D (tF (flN (stp f - 1))) → Below wr.heap.size wr w4 → Calls Tryz.prog 61 #[.agg #[.bool nc, .slice uc lc kc, .int .i64 ec], .agg #[.bool np, .slice up lp kp, .int .i64 ep], .agg #[.bool nq, .slice uq lq kq, .int .i64 eq], D] w4 fun r w' => r = .returned (.int .i64 (AG (stp (flN (stp f - 1))))) ∧ Below wr.heap.size wr w' := fun D w4 h hb => (HX.out w4 (flN (stp f - 1)) D (HWr.out.trans (hb.mono HWr.out.size)) HC.out.1 HC.out.2 h).mono fun r w' ⟨e1, e3⟩ => ⟨e1, hb.trans (e3.mono hb.size)⟩
              obtain ⟨⟨⟨a0, a1, a2⟩, ⟨b0, b1, b2⟩, ⟨c0, c1, c2⟩⟩, -⟩ := HKr.out wr (Below.refl _ _)
              have hBR : Below wr.heap.size wr wr.drew := (Below.refl _ _).drew
              rw [← hae] at kA
              clear hi hae
              generalize hge : flN (stp f - 1) = g at *
              go_upto_region 8 with (first | (go_at_call 30; refine (c61 _).mono ?_; rintro e w' ⟨rfl, hw'⟩; replace hw' := hw'.symm; subst hw') | (go_at_call 63; refine (ks _).mono ?_; rintro e w' ⟨rfl, hw'⟩; replace hw' := hw'.symm; subst hw'))
              go_region_held3 (fun w' => ((w'.cell? ⟨w.heap.size, 0, none⟩ = some (.bool nc) ∧ w'.cell? ⟨w.heap.size, 1, none⟩ = some (.slice uc lc kc) ∧ w'.cell? ⟨w.heap.size, 2, none⟩ = some (.int .i64 ec)) ∧ (w'.cell? ⟨w.heap.size + 1, 0, none⟩ = some (.bool np) ∧ w'.cell? ⟨w.heap.size + 1, 1, none⟩ = some (.slice up lp kp) ∧ w'.cell? ⟨w.heap.size + 1, 2, none⟩ = some (.int .i64 ep)) ∧ (w'.cell? ⟨w.heap.size + 1 + 1, 0, none⟩ = some (.bool nq) ∧ w'.cell? ⟨w.heap.size + 1 + 1, 1, none⟩ = some (.slice uq lq kq) ∧ w'.cell? ⟨w.heap.size + 1 + 1, 2, none⟩ = some (.int .i64 eq))) ∧ Below wr.heap.size wr w') (first | (with_reducible assumption) | exact ⟨⟨⟨a0, a1, a2⟩, ⟨b0, b1, b2⟩, ⟨c0, c1, c2⟩⟩, hBR⟩ | (refine HKr.out _ ?_; with_reducible assumption) | go_keep)
                (first | (go_at_call 62; refine (kF _ (by first | (with_reducible assumption) | exact hBR)).mono ?_; rintro r w5 ⟨A5, rfl, hd5, hb5⟩) | (go_at_call 61; refine (kA _ _ hd5 hb5).mono ?_; rintro r w6 ⟨rfl, hb6⟩))
              have HB6 : Hid (Below W.heap.size W w6) := HG.out.2.trans (hb6.mono HG.out.2.size)
              clear hb6 hb5 hd5 kF kA hBR a0 a1 a2 b0 b1 b2 c0 c1 c2
              by_cases ha : 0 < a
              · have hda : decide (a > 0) = true := decide_eq_true ha
                have HA0 : Hid (0 < AG (stp f - 1)) := by rw [← hae']; exact ha
                go_wp2_with fail
                go_meet
                exact ⟨f, rfl, ⟨HG.out.1, HB6.out⟩, HGa.out, .inr HA0.out⟩
              · have hda : decide (a > 0) = false := decide_eq_false ha
                have HA0 : Hid (AG (stp f - 1) ≤ 0) := by rw [← hae']; exact (by omega : a ≤ 0)
                go_wp2_with fail
                go_roundw
                case rel => exact ⟨_, rfl, ⟨HGG.out.1, HB6.out⟩, .inr (by rw [HGG.out.2]; exact HA0.out)⟩
                case measure =>
                  have h1 := HGG.out.2
                  have h2 := HI.out
                  show (stp g + 9218868437227405311).toNat < (stp f + 9218868437227405311).toNat
                  omega
            · rw [decide_eq_false hi] at hli
              have hfi : stp f = 9218868437227405312 := by have := HG.out.1.hi; omega
              have HGG : Hid (Gf 9218868437227405311 ∧ stp 9218868437227405311 = stp f - 1) := ⟨⟨by decide, by decide, by decide⟩, by rw [hfi]; decide⟩
              have HC : Hid (9218868437227405311 < 18446744073709551616 ∧ mag 9218868437227405311 < 9218868437227405312) := ⟨by decide, by decide⟩
              obtain ⟨a, hae⟩ : ∃ a, a = AG (stp 9218868437227405311) := ⟨_, rfl⟩
              have hae' : a = AG (stp f - 1) := by rw [hae, HGG.out.2]
              have HKr : Hid (∀ w', Below wr.heap.size wr w' → ((w'.cell? ⟨w.heap.size, 0, none⟩ = some (.bool nc) ∧ w'.cell? ⟨w.heap.size, 1, none⟩ = some (.slice uc lc kc) ∧ w'.cell? ⟨w.heap.size, 2, none⟩ = some (.int .i64 ec)) ∧ (w'.cell? ⟨w.heap.size + 1, 0, none⟩ = some (.bool np) ∧ w'.cell? ⟨w.heap.size + 1, 1, none⟩ = some (.slice up lp kp) ∧ w'.cell? ⟨w.heap.size + 1, 2, none⟩ = some (.int .i64 ep)) ∧ (w'.cell? ⟨w.heap.size + 1 + 1, 0, none⟩ = some (.bool nq) ∧ w'.cell? ⟨w.heap.size + 1 + 1, 1, none⟩ = some (.slice uq lq kq) ∧ w'.cell? ⟨w.heap.size + 1 + 1, 2, none⟩ = some (.int .i64 eq))) ∧ Below wr.heap.size wr w') := fun w' hb => ⟨(HK.out w' (HG.out.2.trans (hb.mono HG.out.2.size))).1, hb⟩
              have HWr : Hid (Below w.heap.size w wr) := HH.out.1.trans (HG.out.2.mono HH.out.1.size)
              have kF : ∀ w4, Below wr.heap.size wr w4 → Calls Tryz.prog 62 #[.float .f64 9218868437227405311] w4 fun r w' => ∃ A, r = .returned A ∧ DN w' A (tF 9218868437227405311) ∧ Below wr.heap.size wr w' := fun w4 hb => (float_dn 9218868437227405311 HC.out.1 w4).mono fun r w' ⟨A, e1, e2, e3⟩ => ⟨A, e1, e2, hb.trans (e3.mono hb.size)⟩
              have kA : ∀ D w4, DN w4 D (tF 9218868437227405311) → Below wr.heap.size wr w4 → Calls Tryz.prog 61 #[.agg #[.bool nc, .slice uc lc kc, .int .i64 ec], .agg #[.bool np, .slice up lp kp, .int .i64 ep], .agg #[.bool nq, .slice uq lq kq, .int .i64 eq], D] w4 fun r w' => r = .returned (.int .i64 (AG (stp 9218868437227405311))) ∧ Below wr.heap.size wr w' := fun D w4 h hb => (HX.out w4 9218868437227405311 D (HWr.out.trans (hb.mono HWr.out.size)) HC.out.1 HC.out.2 h).mono fun r w' ⟨e1, e3⟩ => ⟨e1, hb.trans (e3.mono hb.size)⟩
              obtain ⟨⟨⟨a0, a1, a2⟩, ⟨b0, b1, b2⟩, ⟨c0, c1, c2⟩⟩, -⟩ := HKr.out wr (Below.refl _ _)
              have hBR : Below wr.heap.size wr wr.drew := (Below.refl _ _).drew
              rw [← hae] at kA
              clear hi hfi hae
              go_upto_region 8 with (first | (go_at_call 30; refine (c61 _).mono ?_; rintro e w' ⟨rfl, hw'⟩; replace hw' := hw'.symm; subst hw'))
              go_region_held3 (fun w' => ((w'.cell? ⟨w.heap.size, 0, none⟩ = some (.bool nc) ∧ w'.cell? ⟨w.heap.size, 1, none⟩ = some (.slice uc lc kc) ∧ w'.cell? ⟨w.heap.size, 2, none⟩ = some (.int .i64 ec)) ∧ (w'.cell? ⟨w.heap.size + 1, 0, none⟩ = some (.bool np) ∧ w'.cell? ⟨w.heap.size + 1, 1, none⟩ = some (.slice up lp kp) ∧ w'.cell? ⟨w.heap.size + 1, 2, none⟩ = some (.int .i64 ep)) ∧ (w'.cell? ⟨w.heap.size + 1 + 1, 0, none⟩ = some (.bool nq) ∧ w'.cell? ⟨w.heap.size + 1 + 1, 1, none⟩ = some (.slice uq lq kq) ∧ w'.cell? ⟨w.heap.size + 1 + 1, 2, none⟩ = some (.int .i64 eq))) ∧ Below wr.heap.size wr w') (first | (with_reducible assumption) | exact ⟨⟨⟨a0, a1, a2⟩, ⟨b0, b1, b2⟩, ⟨c0, c1, c2⟩⟩, hBR⟩ | (refine HKr.out _ ?_; with_reducible assumption) | go_keep)
                (first | (go_at_call 62; refine (kF _ (by first | (with_reducible assumption) | exact hBR)).mono ?_; rintro r w5 ⟨A5, rfl, hd5, hb5⟩) | (go_at_call 61; refine (kA _ _ hd5 hb5).mono ?_; rintro r w6 ⟨rfl, hb6⟩))
              have HB6 : Hid (Below W.heap.size W w6) := HG.out.2.trans (hb6.mono HG.out.2.size)
              clear hb6 hb5 hd5 kF kA hBR a0 a1 a2 b0 b1 b2 c0 c1 c2
              by_cases ha : 0 < a
              · have hda : decide (a > 0) = true := decide_eq_true ha
                have HA0 : Hid (0 < AG (stp f - 1)) := by rw [← hae']; exact ha
                go_wp2_with fail
                go_meet
                exact ⟨f, rfl, ⟨HG.out.1, HB6.out⟩, HGa.out, .inr HA0.out⟩
              · have hda : decide (a > 0) = false := decide_eq_false ha
                have HA0 : Hid (AG (stp f - 1) ≤ 0) := by rw [← hae']; exact (by omega : a ≤ 0)
                go_wp2_with fail
                go_roundw
                case rel => exact ⟨_, rfl, ⟨HGG.out.1, HB6.out⟩, .inr (by rw [HGG.out.2]; exact HA0.out)⟩
                case measure =>
                  have h1 := HGG.out.2
                  have h2 := HI.out
                  show (stp 9218868437227405311 + 9218868437227405311).toNat < (stp f + 9218868437227405311).toNat
                  omega
          · rw [decide_eq_false hlo] at hgt
            have HI : Hid (stp f = -9218868437227405311) := by have := HG.out.1.lo; exact (by omega : stp f = -9218868437227405311)
            clear hlo hli
            go_wp2_with fail
            go_meet
            exact ⟨f, rfl, HG, HGa.out, .inl HI.out⟩
      case rest =>
        obtain ⟨wr, rfl⟩ : ∃ wr : World, wr = wc := ⟨_, rfl⟩
        obtain ⟨f, rfl, HG, HGa, HGb⟩ := hcut
        have HRS : Hid ((stp f = 0 → AG 0 < 0 → ResU AG 9223372036854775808) ∧ (stp f = 0 → ¬ AG 0 < 0 → ResU AG 0) ∧ (stp f ≠ 0 → ResU AG f)) := resU_of HG.out.1 HGa.out HGb.out
        clear H1 H1a HGa HGb HX
        have hz := eq0 (f := f) HG.out.1.lt HG.out.1.nn
        by_cases h0 : stp f = 0
        · rw [decide_eq_true h0] at hz
          have kk := HZ.out wr (HH.out.1.trans (HG.out.2.mono HH.out.1.size))
          obtain ⟨⟨⟨a0, a1, a2⟩, ⟨b0, b1, b2⟩, ⟨c0, c1, c2⟩⟩, -⟩ := HK.out wr HG.out.2
          have HB9 : Hid (Below w.heap.size w wr) := HH.out.1.trans (HG.out.2.mono HH.out.1.size)
          go_wp2_with fail
          refine kk.mono ?_
          rintro r w9 ⟨rfl, hb9⟩
          have HB10 : Hid (Below w.heap.size w w9) := HB9.out.trans (hb9.mono HB9.out.size)
          clear kk hb9 a0 a1 a2 b0 b1 b2 c0 c1 c2
          by_cases hn : AG 0 < 0
          · have hnd : decide (AG 0 < 0) = true := decide_eq_true hn
            have kc := ccopy w9
            have HRT : Hid (ResU AG 9223372036854775808) := HRS.out.1 h0 hn
            clear HRS
            generalize AG 0 = a00 at *
            go_wp2_with (first | (go_at_call 64; refine kc.mono ?_; rintro e w' ⟨rfl, hw'⟩; replace hw' := hw'.symm; subst hw'))
            go_ret
            exact ⟨_, rfl, HRT.out, HB10.out⟩
          · have hnd : decide (AG 0 < 0) = false := decide_eq_false hn
            have HRT : Hid (ResU AG 0) := HRS.out.2.1 h0 (by omega)
            clear HRS
            generalize AG 0 = a00 at *
            go_wp2_with fail
            go_ret
            exact ⟨_, rfl, HRT.out, HB10.out⟩
        · rw [decide_eq_false h0] at hz
          have HRT : Hid (ResU AG f) := HRS.out.2.2 h0
          clear HRS
          have HB9 : Hid (Below w.heap.size w wr) := HH.out.1.trans (HG.out.2.mono HH.out.1.size)
          go_wp2_with fail
          go_ret
          exact ⟨_, rfl, HRT.out, HB9.out⟩
end Go.Proofs.YtkmiohkpfdamoaaGreatDoor
