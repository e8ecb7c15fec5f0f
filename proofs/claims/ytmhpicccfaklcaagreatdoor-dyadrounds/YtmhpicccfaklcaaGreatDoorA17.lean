/- Own work: contracts of the program's functions, part 17: RY2 RY3 RY4 FM6 FM7 FM8 RY5 RY6. -/
import Derived.Test.YtmhpicccfaklcaaGreatDoorA16
import Derived.Test.YtmhpicccfaklcaaGreatDoorA12
import Derived.Test.YtmhpicccfaklcaaGreatDoorA11

/- The document's Between. -/
namespace Go.Proofs.YtmhpicccfaklcaaGreatDoor
set_option linter.unusedVariables false
set_option linter.unusedSimpArgs false
open Go.RowKit

set_option maxHeartbeats 4000000 in
set_option maxRecDepth 200000 in
theorem rbet_e (s : Bool) (ao : Option Addr) (n cap F : Nat) (e place m : Int) (w : World) (kT : ∀ W, Below w.heap.size w W → Calls Tryz.prog 89 #[.agg #[.bool s, .slice ao n cap, .int .i64 e], .int .i64 m] W fun r w' => r = .returned (.float .f64 F) ∧ Below W.heap.size W w') :
    Calls Tryz.prog 142 #[.agg #[.bool s, .slice ao n cap, .int .i64 e], .bool true, .int .i64 place, .int .i64 m] w fun r w' => r = .returned (.float .f64 F) ∧ Below w.heap.size w w' := by
  obtain ⟨W, hW⟩ : ∃ W, W = w.alloc (.cells #[.bool s, .slice ao n cap, .int .i64 e] 24) := ⟨_, rfl⟩
  have hBW : Below w.heap.size w W := by rw [hW]; exact (Below.refl _ _).alloc (Nat.le_refl _) _
  have HX : Hid (Below w.heap.size w W) := hBW
  have k := kT W hBW
  clear kT hBW
  go_enter Tryz.func142, Tryz.ntmps142
  go_wp2_with fail
  rw [← hW]
  clear hW
  refine k.mono ?_
  rintro r w1 ⟨rfl, hb1⟩
  have HB1 : Hid (Below W.heap.size W w1) := hb1
  clear k hb1
  go_wp2
  go_ret
  exact ⟨rfl, HX.out.trans (HB1.out.mono HX.out.size)⟩
set_option maxHeartbeats 4000000 in
set_option maxRecDepth 200000 in
theorem rbet_r (s : Bool) (ao : Option Addr) (n cap F : Nat) (e place m : Int) (s' : Bool) (z' : Nat) (e' : Int) (w : World) (hp1 : -1000000 ≤ place) (hp2 : place ≤ 1000000)
    (kP : ∀ g W, Below w.heap.size w W → At W (some ⟨g, 0, none⟩) 1 1 → Calls Tryz.prog 149 #[.agg #[.bool s, .slice ao n cap, .int .i64 e], .agg #[.bool false, .slice (some ⟨g, 0, none⟩) 1 1, .int .i64 (-(place + 1))]] W fun r w' => ∃ a, r = .returned a ∧ NC w' W.heap.size a s' z' e' ∧ Below W.heap.size W w')
    (kT : ∀ W A, Below w.heap.size w W → NC W w.heap.size A s' z' e' → Calls Tryz.prog 89 #[A, .int .i64 m] W fun r w' => r = .returned (.float .f64 F) ∧ Below W.heap.size W w') :
    Calls Tryz.prog 142 #[.agg #[.bool s, .slice ao n cap, .int .i64 e], .bool false, .int .i64 place, .int .i64 m] w fun r w' => r = .returned (.float .f64 F) ∧ Below w.heap.size w w' := by
  obtain ⟨W, hW⟩ : ∃ W, W = w.alloc (.cells #[.bool s, .slice ao n cap, .int .i64 e] 24) := ⟨_, rfl⟩
  have hBW : Below w.heap.size w W := by rw [hW]; exact (Below.refl _ _).alloc (Nat.le_refl _) _
  have hA : W.heap[w.heap.size]? = some (.cells #[.bool s, .slice ao n cap, .int .i64 e] 24 (0, 0)) := by rw [hW]; exact heap_alloc_new _ _
  have hsz : W.heap.size = w.heap.size + 1 := by rw [hW]; simp
  have HX : Hid (Below w.heap.size w W ∧ W.heap.size = w.heap.size + 1 ∧ W.heap[w.heap.size]? = some (.cells #[.bool s, .slice ao n cap, .int .i64 e] 24 (0, 0))) := ⟨hBW, hsz, hA⟩
  have HKT : Hid (∀ W A, Below w.heap.size w W → NC W w.heap.size A s' z' e' → Calls Tryz.prog 89 #[A, .int .i64 m] W fun r w' => r = .returned (.float .f64 F) ∧ Below W.heap.size W w') := kT
  have HK : Hid (∀ w', Below W.heap.size W w' → (w'.cell? ⟨w.heap.size, 0, none⟩ = some (.bool s) ∧ w'.cell? ⟨w.heap.size, 1, none⟩ = some (.slice ao n cap) ∧ w'.cell? ⟨w.heap.size, 2, none⟩ = some (.int .i64 e))) := fun w' hb => (box_cells29 (box_later HX.out.2.2 hb (by have := HX.out.2.1; omega))).1
  have kO : ∀ w8, Below W.heap.size W w8 → Calls Tryz.prog 134 #[.int .i64 (place + 1)] w8 fun r w' => ∃ g, r = .returned (.agg #[.bool false, .slice (some ⟨g, 0, none⟩) 1 1, .int .i64 (-(place + 1))]) ∧ Hid (At w' (some ⟨g, 0, none⟩) 1 1) ∧ Below W.heap.size W w' ∧ (w'.cell? ⟨w.heap.size, 0, none⟩ = some (.bool s) ∧ w'.cell? ⟨w.heap.size, 1, none⟩ = some (.slice ao n cap) ∧ w'.cell? ⟨w.heap.size, 2, none⟩ = some (.int .i64 e)) := fun w8 hb => (rone (place + 1) w8 (by omega) (by omega)).mono fun r w' ⟨g, e1, e2, e3, e4⟩ => ⟨g, e1, e3, hb.trans (e4.mono hb.size), HK.out w' (hb.trans (e4.mono hb.size))⟩
  have kL : ∀ g w9, Hid (At w9 (some ⟨g, 0, none⟩) 1 1) → Below W.heap.size W w9 → Calls Tryz.prog 149 #[.agg #[.bool s, .slice ao n cap, .int .i64 e], .agg #[.bool false, .slice (some ⟨g, 0, none⟩) 1 1, .int .i64 (-(place + 1))]] w9 fun r w' => ∃ s9 ao9 n9 cap9 ex9, r = .returned (.agg #[.bool s9, .slice ao9 n9 cap9, .int .i64 ex9]) ∧ Hid (NC w' W.heap.size (.agg #[.bool s9, .slice ao9 n9 cap9, .int .i64 ex9]) s' z' e') ∧ Below W.heap.size W w' ∧ Hid (w'.heap[w.heap.size]? = some (.cells #[.bool s, .slice ao n cap, .int .i64 e] 24 (0, 0))) ∧ (w'.cell? ⟨w.heap.size, 0, none⟩ = some (.bool s) ∧ w'.cell? ⟨w.heap.size, 1, none⟩ = some (.slice ao n cap) ∧ w'.cell? ⟨w.heap.size, 2, none⟩ = some (.int .i64 e)) ∧ (w'.frozen? ⟨w.heap.size, 0, none⟩ = false ∧ w'.frozen? ⟨w.heap.size, 1, none⟩ = false ∧ w'.frozen? ⟨w.heap.size, 2, none⟩ = false) := by
    intro g w9 hA hb
    refine (kP g w9 (HX.out.1.trans (hb.mono HX.out.1.size)) hA.out).mono ?_
    rintro r w10 ⟨A, rfl, hN, hb10⟩
    obtain ⟨s9, ao9, n9, cap9, ex9, rfl⟩ := hN.shape
    have hbb := hb.trans (hb10.mono hb.size)
    have hblk := box_later HX.out.2.2 hbb (by have := HX.out.2.1; omega)
    obtain ⟨f1, f2⟩ := box_cells29 hblk
    exact ⟨s9, ao9, n9, cap9, ex9, rfl, hN.mono hb.size, hbb, hblk, f1, f2⟩
  obtain ⟨d0, d1, d2⟩ := HK.out W (Below.refl _ _)
  have hBR : Below W.heap.size W W.drew := (Below.refl _ _).drew
  have hpw : IntKind.i64.wrap (place + 1) = place + 1 := by rw [IntKind.wrap_i64]; omega
  clear kT hA hsz hBW
  go_enter Tryz.func142, Tryz.ntmps142
  go_upto_region 2 with fail
  rw [← hW]
  clear hW
  go_cut [15] from 11 to 15 (fun v wx => ∃ s9 ao9 n9 cap9 ex9, v = .agg #[.bool s9, .slice ao9 n9 cap9, .int .i64 ex9] ∧ Hid (NC wx W.heap.size (.agg #[.bool s9, .slice ao9 n9 cap9, .int .i64 ex9]) s' z' e') ∧ Hid (wx.heap[w.heap.size]? = some (.cells #[.bool s9, .slice ao9 n9 cap9, .int .i64 ex9] 24 (0, 0))) ∧ Hid (Below w.heap.size W wx))
  case first =>
    go_region_with (first | (go_at_call 134; refine (kO _ (by first | (with_reducible assumption) | exact hBR | exact Below.refl _ _)).mono ?_; rintro r w8 ⟨g8, rfl, hA8, hb8, ⟨y1, y2, y3⟩⟩) | (go_at_call 149; refine (kL _ _ hA8 (by with_reducible assumption)).mono ?_; rintro r w9 ⟨s9, ao9, n9, cap9, ex9, rfl, hN9, hb9, hblk9, ⟨x1, x2, x3⟩, x4, x5, x6⟩))
    all_goals go_wp2_with fail
    all_goals go_meet
    all_goals exact ⟨s9, ao9, n9, cap9, ex9, rfl, hN9.out.store (by have := HX.out.2.1; omega) _ _ _, store3_29 _ _ _ hblk9.out, below_store3 (hb9.mono HX.out.1.size) (Nat.le_refl _) _ _ _⟩
  case rest =>
    obtain ⟨s9, ao9, n9, cap9, ex9, rfl, hN9, hB9, hL9⟩ := hcut
    obtain ⟨wx, rfl⟩ : ∃ wx : World, wx = wc := ⟨_, rfl⟩
    have HBx : Hid (Below w.heap.size w wx) := HX.out.1.trans hL9.out
    clear d0 d1 d2
    obtain ⟨⟨d0, d1, d2⟩, -⟩ := box_cells29 hB9.out
    have kt := HKT.out wx _ HBx.out (hN9.out.mono HX.out.1.size)
    clear kO kL hBR
    go_wp2_with fail
    refine kt.mono ?_
    rintro r w11 ⟨rfl, hb11⟩
    have HB11 : Hid (Below w.heap.size w w11) := HBx.out.trans (hb11.mono HBx.out.size)
    clear kt hb11
    go_wp2
    go_ret
    exact ⟨rfl, HB11.out⟩
end Go.Proofs.YtmhpicccfaklcaaGreatDoor

/- The document's SqrtTo. -/
namespace Go.Proofs.YtmhpicccfaklcaaGreatDoor
set_option linter.unusedVariables false
set_option linter.unusedSimpArgs false
open Go.RowKit

set_option maxHeartbeats 4000000 in
set_option maxRecDepth 200000 in
theorem rsqrtto_0 (na : Bool) (ua : Option Addr) (uc : Nat) (ea m : Int) (w : World) : Calls Tryz.prog 94 #[.agg #[.bool na, .slice ua 0 uc, .int .i64 ea], .int .i64 m] w fun r w' => r = .returned (.float .f64 0) ∧ Below w.heap.size w w' := by
  obtain ⟨W, hW⟩ : ∃ W, W = w.alloc (.cells #[.bool na, .slice ua 0 uc, .int .i64 ea] 24) := ⟨_, rfl⟩
  have HB : Hid (Below w.heap.size w W) := (by rw [hW]; exact (Below.refl _ _).alloc (Nat.le_refl _) _ : Below w.heap.size w W)
  go_enter Tryz.func94, Tryz.ntmps94
  go_wp2
  go_ret
  exact ⟨rfl, hW ▸ HB.out⟩
set_option maxHeartbeats 4000000 in
set_option maxRecDepth 200000 in
theorem rsqrtto_b (na : Bool) (ua : Option Addr) (un uc F : Nat) (ea m t : Int) (w : World) (hn0 : ((un : Int) == 0) = false) (ht : 2200 < t) (kH : ∀ W, Below w.heap.size w W → Calls Tryz.prog 56 #[.agg #[.bool na, .slice ua un uc, .int .i64 ea]] W fun r w' => r = .returned (.int .i64 t) ∧ Below W.heap.size W w')
    (kT : ∀ g W, Below w.heap.size w W → At W (some ⟨g, 0, none⟩) 1 1 → Calls Tryz.prog 89 #[.agg #[.bool false, .slice (some ⟨g, 0, none⟩) 1 1, .int .i64 1100], .int .i64 m] W fun r w' => r = .returned (.float .f64 F) ∧ Below W.heap.size W w') :
    Calls Tryz.prog 94 #[.agg #[.bool na, .slice ua un uc, .int .i64 ea], .int .i64 m] w fun r w' => r = .returned (.float .f64 F) ∧ Below w.heap.size w w' := by
  obtain ⟨W, hW⟩ : ∃ W, W = w.alloc (.cells #[.bool na, .slice ua un uc, .int .i64 ea] 24) := ⟨_, rfl⟩
  have hBW : Below w.heap.size w W := by rw [hW]; exact (Below.refl _ _).alloc (Nat.le_refl _) _
  have hA : W.heap[w.heap.size]? = some (.cells #[.bool na, .slice ua un uc, .int .i64 ea] 24 (0, 0)) := by rw [hW]; exact heap_alloc_new _ _
  have hsz : W.heap.size = w.heap.size + 1 := by rw [hW]; simp
  have HX : Hid (Below w.heap.size w W ∧ W.heap.size = w.heap.size + 1 ∧ W.heap[w.heap.size]? = some (.cells #[.bool na, .slice ua un uc, .int .i64 ea] 24 (0, 0))) := ⟨hBW, hsz, hA⟩
  have k := kH W hBW
  have HKT : Hid (∀ g W, Below w.heap.size w W → At W (some ⟨g, 0, none⟩) 1 1 → Calls Tryz.prog 89 #[.agg #[.bool false, .slice (some ⟨g, 0, none⟩) 1 1, .int .i64 1100], .int .i64 m] W fun r w' => r = .returned (.float .f64 F) ∧ Below W.heap.size W w') := kT
  clear kT kH
  clear hA hsz hBW
  go_enter Tryz.func94, Tryz.ntmps94
  go_wp2_with fail
  rw [← hW]
  clear hW
  refine k.mono ?_
  rintro r w1 ⟨rfl, hb1⟩
  have HB1 : Hid (Below W.heap.size W w1) := hb1
  have HW1 : Hid (Below w.heap.size w w1) := HX.out.1.trans (HB1.out.mono HX.out.1.size)
  obtain ⟨⟨a0, a1, a2⟩, -⟩ := box_cells29 (box_later HX.out.2.2 HB1.out (by have := HX.out.2.1; omega))
  clear k hb1
  obtain ⟨w2, hw2⟩ : ∃ w2, w2 = w1.alloc (.cells #[.int .u32 1] 65) := ⟨_, rfl⟩
  have hB12 : Below w1.heap.size w1 w2 := by rw [hw2]; exact (Below.refl _ _).alloc (Nat.le_refl _) _
  have HB2 : Hid (Below w.heap.size w w2) := HW1.out.trans (hB12.mono HW1.out.size)
  have hA1 : At w2 (some ⟨w1.heap.size, 0, none⟩) 1 1 := ⟨w1.heap.size, 0, fun _ => rfl, fun i hi => by
    obtain rfl : i = 0 := by omega
    rw [hw2, dg_zero, show 1 % B = 1 by rfl]
    exact cell_new1 w1 _⟩
  have kt := HKT.out w1.heap.size w2 HB2.out hA1
  clear hB12 hA1
  go_wp2_with fail
  rw [← hw2]
  clear hw2
  refine kt.mono ?_
  rintro r w3 ⟨rfl, hb3⟩
  have HB3 : Hid (Below w.heap.size w w3) := HB2.out.trans (hb3.mono HB2.out.size)
  clear kt hb3
  go_wp2
  go_ret
  exact ⟨rfl, HB3.out⟩
set_option maxHeartbeats 4000000 in
set_option maxRecDepth 200000 in
theorem rsqrtto_t (na : Bool) (ua : Option Addr) (un uc F : Nat) (ea m t : Int) (w : World) (hn0 : ((un : Int) == 0) = false) (ht : t < -2400) (kH : ∀ W, Below w.heap.size w W → Calls Tryz.prog 56 #[.agg #[.bool na, .slice ua un uc, .int .i64 ea]] W fun r w' => r = .returned (.int .i64 t) ∧ Below W.heap.size W w')
    (kT : ∀ g W, Below w.heap.size w W → At W (some ⟨g, 0, none⟩) 1 1 → Calls Tryz.prog 89 #[.agg #[.bool false, .slice (some ⟨g, 0, none⟩) 1 1, .int .i64 (-1200)], .int .i64 m] W fun r w' => r = .returned (.float .f64 F) ∧ Below W.heap.size W w') :
    Calls Tryz.prog 94 #[.agg #[.bool na, .slice ua un uc, .int .i64 ea], .int .i64 m] w fun r w' => r = .returned (.float .f64 F) ∧ Below w.heap.size w w' := by
  have htn : ¬ 2200 < t := by omega
  obtain ⟨W, hW⟩ : ∃ W, W = w.alloc (.cells #[.bool na, .slice ua un uc, .int .i64 ea] 24) := ⟨_, rfl⟩
  have hBW : Below w.heap.size w W := by rw [hW]; exact (Below.refl _ _).alloc (Nat.le_refl _) _
  have hA : W.heap[w.heap.size]? = some (.cells #[.bool na, .slice ua un uc, .int .i64 ea] 24 (0, 0)) := by rw [hW]; exact heap_alloc_new _ _
  have hsz : W.heap.size = w.heap.size + 1 := by rw [hW]; simp
  have HX : Hid (Below w.heap.size w W ∧ W.heap.size = w.heap.size + 1 ∧ W.heap[w.heap.size]? = some (.cells #[.bool na, .slice ua un uc, .int .i64 ea] 24 (0, 0))) := ⟨hBW, hsz, hA⟩
  have k := kH W hBW
  have HKT : Hid (∀ g W, Below w.heap.size w W → At W (some ⟨g, 0, none⟩) 1 1 → Calls Tryz.prog 89 #[.agg #[.bool false, .slice (some ⟨g, 0, none⟩) 1 1, .int .i64 (-1200)], .int .i64 m] W fun r w' => r = .returned (.float .f64 F) ∧ Below W.heap.size W w') := kT
  clear kT kH
  clear hA hsz hBW
  go_enter Tryz.func94, Tryz.ntmps94
  go_wp2_with fail
  rw [← hW]
  clear hW
  refine k.mono ?_
  rintro r w1 ⟨rfl, hb1⟩
  have HB1 : Hid (Below W.heap.size W w1) := hb1
  have HW1 : Hid (Below w.heap.size w w1) := HX.out.1.trans (HB1.out.mono HX.out.1.size)
  obtain ⟨⟨a0, a1, a2⟩, -⟩ := box_cells29 (box_later HX.out.2.2 HB1.out (by have := HX.out.2.1; omega))
  clear k hb1
  obtain ⟨w2, hw2⟩ : ∃ w2, w2 = w1.alloc (.cells #[.int .u32 1] 65) := ⟨_, rfl⟩
  have hB12 : Below w1.heap.size w1 w2 := by rw [hw2]; exact (Below.refl _ _).alloc (Nat.le_refl _) _
  have HB2 : Hid (Below w.heap.size w w2) := HW1.out.trans (hB12.mono HW1.out.size)
  have hA1 : At w2 (some ⟨w1.heap.size, 0, none⟩) 1 1 := ⟨w1.heap.size, 0, fun _ => rfl, fun i hi => by
    obtain rfl : i = 0 := by omega
    rw [hw2, dg_zero, show 1 % B = 1 by rfl]
    exact cell_new1 w1 _⟩
  have kt := HKT.out w1.heap.size w2 HB2.out hA1
  clear hB12 hA1
  go_wp2_with fail
  rw [← hw2]
  clear hw2
  refine kt.mono ?_
  rintro r w3 ⟨rfl, hb3⟩
  have HB3 : Hid (Below w.heap.size w w3) := HB2.out.trans (hb3.mono HB2.out.size)
  clear kt hb3
  go_wp2
  go_ret
  exact ⟨rfl, HB3.out⟩
set_option maxHeartbeats 4000000 in
set_option maxRecDepth 200000 in
theorem rsqrtto_p (na : Bool) (ua : Option Addr) (un uc F : Nat) (ea m t : Int) (f : Nat → Bool) (P : Nat → Prop) (w : World) (hn0 : ((un : Int) == 0) = false) (ht1 : t ≤ 2200) (ht2 : -2400 ≤ t) (ht3 : 0 < t) (kH : ∀ W, Below w.heap.size w W → Calls Tryz.prog 56 #[.agg #[.bool na, .slice ua un uc, .int .i64 ea]] W fun r w' => r = .returned (.int .i64 t) ∧ Below W.heap.size W w')
    (kR : ∀ W, Below w.heap.size w W → Calls Tryz.prog 87 #[.agg #[.bool na, .slice ua un uc, .int .i64 ea], .int .i64 120] W fun r w' => ∃ A s, r = .returned (.tuple #[A, .bool (f s)]) ∧ NC w' W.heap.size A false s (-120) ∧ P s ∧ Below W.heap.size W w')
    (kB : ∀ W A s, Below w.heap.size w W → NC W w.heap.size A false s (-120) → P s → Calls Tryz.prog 142 #[A, .bool (f s), .int .i64 120, .int .i64 m] W fun r w' => r = .returned (.float .f64 F) ∧ Below W.heap.size W w') :
    Calls Tryz.prog 94 #[.agg #[.bool na, .slice ua un uc, .int .i64 ea], .int .i64 m] w fun r w' => r = .returned (.float .f64 F) ∧ Below w.heap.size w w' := by
  have hta : ¬ 2200 < t := by omega
  have htb : ¬ t < -2400 := by omega
  obtain ⟨W, hW⟩ : ∃ W, W = w.alloc (.cells #[.bool na, .slice ua un uc, .int .i64 ea] 24) := ⟨_, rfl⟩
  have hBW : Below w.heap.size w W := by rw [hW]; exact (Below.refl _ _).alloc (Nat.le_refl _) _
  have hA : W.heap[w.heap.size]? = some (.cells #[.bool na, .slice ua un uc, .int .i64 ea] 24 (0, 0)) := by rw [hW]; exact heap_alloc_new _ _
  have hsz : W.heap.size = w.heap.size + 1 := by rw [hW]; simp
  have HX : Hid (Below w.heap.size w W ∧ W.heap.size = w.heap.size + 1 ∧ W.heap[w.heap.size]? = some (.cells #[.bool na, .slice ua un uc, .int .i64 ea] 24 (0, 0))) := ⟨hBW, hsz, hA⟩
  have k := kH W hBW
  have HKR : Hid (∀ W, Below w.heap.size w W → Calls Tryz.prog 87 #[.agg #[.bool na, .slice ua un uc, .int .i64 ea], .int .i64 120] W fun r w' => ∃ A s, r = .returned (.tuple #[A, .bool (f s)]) ∧ NC w' W.heap.size A false s (-120) ∧ P s ∧ Below W.heap.size W w') := kR
  have HKB : Hid (∀ W A s, Below w.heap.size w W → NC W w.heap.size A false s (-120) → P s → Calls Tryz.prog 142 #[A, .bool (f s), .int .i64 120, .int .i64 m] W fun r w' => r = .returned (.float .f64 F) ∧ Below W.heap.size W w') := kB
  have HKH : Hid (∀ W, Below w.heap.size w W → Calls Tryz.prog 56 #[.agg #[.bool na, .slice ua un uc, .int .i64 ea]] W fun r w' => r = .returned (.int .i64 t) ∧ Below W.heap.size W w') := kH
  clear kR kB kH
  clear hA hsz hBW
  go_enter Tryz.func94, Tryz.ntmps94
  go_wp2_with fail
  rw [← hW]
  clear hW
  refine k.mono ?_
  rintro r w1 ⟨rfl, hb1⟩
  have HB1 : Hid (Below W.heap.size W w1) := hb1
  have HW1 : Hid (Below w.heap.size w w1) := HX.out.1.trans (HB1.out.mono HX.out.1.size)
  obtain ⟨⟨a0, a1, a2⟩, -⟩ := box_cells29 (box_later HX.out.2.2 HB1.out (by have := HX.out.2.1; omega))
  clear k hb1
  have kh := HKH.out w1 HW1.out
  go_wp2_with fail
  refine kh.mono ?_
  rintro r w2 ⟨rfl, hb2⟩
  have HB2 : Hid (Below W.heap.size W w2) := HB1.out.trans (hb2.mono HB1.out.size)
  have HW2 : Hid (Below w.heap.size w w2) := HX.out.1.trans (HB2.out.mono HX.out.1.size)
  clear kh hb2 a0 a1 a2
  obtain ⟨⟨a0, a1, a2⟩, -⟩ := box_cells29 (box_later HX.out.2.2 HB2.out (by have := HX.out.2.1; omega))
  have kr := HKR.out w2 HW2.out
  go_wp2_with fail
  refine kr.mono ?_
  rintro r w3 ⟨A, s, rfl, hN, hPs, hb3⟩
  have HB3 : Hid (Below w.heap.size w w3) := HW2.out.trans (hb3.mono HW2.out.size)
  obtain ⟨s3, ao3, n3, cap3, e3, rfl⟩ := hN.shape
  obtain ⟨w4, hw4⟩ : ∃ w4, w4 = w3.alloc (.cells #[.bool s3, .slice ao3 n3 cap3, .int .i64 e3] 24) := ⟨_, rfl⟩
  have hB34 : Below w3.heap.size w3 w4 := by rw [hw4]; exact (Below.refl _ _).alloc (Nat.le_refl _) _
  have HB4 : Hid (Below w.heap.size w w4) := HB3.out.trans (hB34.mono HB3.out.size)
  have kb := HKB.out w4 _ s HB4.out ((hN.later hB34).mono HW2.out.size) hPs
  clear kr hN hPs hb3 hB34 a0 a1 a2
  generalize f s = bx at *
  go_wp2_with fail
  rw [← hw4]
  clear hw4
  refine kb.mono ?_
  rintro r w5 ⟨rfl, hb5⟩
  have HB5 : Hid (Below w.heap.size w w5) := HB4.out.trans (hb5.mono HB4.out.size)
  clear kb hb5
  go_wp2
  go_ret
  exact ⟨rfl, HB5.out⟩
set_option maxHeartbeats 4000000 in
set_option maxRecDepth 200000 in
theorem rsqrtto_n (na : Bool) (ua : Option Addr) (un uc F : Nat) (ea m t : Int) (f : Nat → Bool) (P : Nat → Prop) (w : World) (hn0 : ((un : Int) == 0) = false) (ht1 : t ≤ 2200) (ht2 : -2400 ≤ t) (ht3 : t ≤ 0) (kH : ∀ W, Below w.heap.size w W → Calls Tryz.prog 56 #[.agg #[.bool na, .slice ua un uc, .int .i64 ea]] W fun r w' => r = .returned (.int .i64 t) ∧ Below W.heap.size W w')
    (kR : ∀ W, Below w.heap.size w W → Calls Tryz.prog 87 #[.agg #[.bool na, .slice ua un uc, .int .i64 ea], .int .i64 1200] W fun r w' => ∃ A s, r = .returned (.tuple #[A, .bool (f s)]) ∧ NC w' W.heap.size A false s (-1200) ∧ P s ∧ Below W.heap.size W w')
    (kB : ∀ W A s, Below w.heap.size w W → NC W w.heap.size A false s (-1200) → P s → Calls Tryz.prog 142 #[A, .bool (f s), .int .i64 1200, .int .i64 m] W fun r w' => r = .returned (.float .f64 F) ∧ Below W.heap.size W w') :
    Calls Tryz.prog 94 #[.agg #[.bool na, .slice ua un uc, .int .i64 ea], .int .i64 m] w fun r w' => r = .returned (.float .f64 F) ∧ Below w.heap.size w w' := by
  have hta : ¬ 2200 < t := by omega
  have htb : ¬ t < -2400 := by omega
  have htc : ¬ 0 < t := by omega
  obtain ⟨W, hW⟩ : ∃ W, W = w.alloc (.cells #[.bool na, .slice ua un uc, .int .i64 ea] 24) := ⟨_, rfl⟩
  have hBW : Below w.heap.size w W := by rw [hW]; exact (Below.refl _ _).alloc (Nat.le_refl _) _
  have hA : W.heap[w.heap.size]? = some (.cells #[.bool na, .slice ua un uc, .int .i64 ea] 24 (0, 0)) := by rw [hW]; exact heap_alloc_new _ _
  have hsz : W.heap.size = w.heap.size + 1 := by rw [hW]; simp
  have HX : Hid (Below w.heap.size w W ∧ W.heap.size = w.heap.size + 1 ∧ W.heap[w.heap.size]? = some (.cells #[.bool na, .slice ua un uc, .int .i64 ea] 24 (0, 0))) := ⟨hBW, hsz, hA⟩
  have k := kH W hBW
  have HKR : Hid (∀ W, Below w.heap.size w W → Calls Tryz.prog 87 #[.agg #[.bool na, .slice ua un uc, .int .i64 ea], .int .i64 1200] W fun r w' => ∃ A s, r = .returned (.tuple #[A, .bool (f s)]) ∧ NC w' W.heap.size A false s (-1200) ∧ P s ∧ Below W.heap.size W w') := kR
  have HKB : Hid (∀ W A s, Below w.heap.size w W → NC W w.heap.size A false s (-1200) → P s → Calls Tryz.prog 142 #[A, .bool (f s), .int .i64 1200, .int .i64 m] W fun r w' => r = .returned (.float .f64 F) ∧ Below W.heap.size W w') := kB
  have HKH : Hid (∀ W, Below w.heap.size w W → Calls Tryz.prog 56 #[.agg #[.bool na, .slice ua un uc, .int .i64 ea]] W fun r w' => r = .returned (.int .i64 t) ∧ Below W.heap.size W w') := kH
  clear kR kB kH
  clear hA hsz hBW
  go_enter Tryz.func94, Tryz.ntmps94
  go_wp2_with fail
  rw [← hW]
  clear hW
  refine k.mono ?_
  rintro r w1 ⟨rfl, hb1⟩
  have HB1 : Hid (Below W.heap.size W w1) := hb1
  have HW1 : Hid (Below w.heap.size w w1) := HX.out.1.trans (HB1.out.mono HX.out.1.size)
  obtain ⟨⟨a0, a1, a2⟩, -⟩ := box_cells29 (box_later HX.out.2.2 HB1.out (by have := HX.out.2.1; omega))
  clear k hb1
  have kh := HKH.out w1 HW1.out
  go_wp2_with fail
  refine kh.mono ?_
  rintro r w2 ⟨rfl, hb2⟩
  have HB2 : Hid (Below W.heap.size W w2) := HB1.out.trans (hb2.mono HB1.out.size)
  have HW2 : Hid (Below w.heap.size w w2) := HX.out.1.trans (HB2.out.mono HX.out.1.size)
  clear kh hb2 a0 a1 a2
  obtain ⟨⟨a0, a1, a2⟩, -⟩ := box_cells29 (box_later HX.out.2.2 HB2.out (by have := HX.out.2.1; omega))
  have kr := HKR.out w2 HW2.out
  go_wp2_with fail
  refine kr.mono ?_
  rintro r w3 ⟨A, s, rfl, hN, hPs, hb3⟩
  have HB3 : Hid (Below w.heap.size w w3) := HW2.out.trans (hb3.mono HW2.out.size)
  obtain ⟨s3, ao3, n3, cap3, e3, rfl⟩ := hN.shape
  obtain ⟨w4, hw4⟩ : ∃ w4, w4 = w3.alloc (.cells #[.bool s3, .slice ao3 n3 cap3, .int .i64 e3] 24) := ⟨_, rfl⟩
  have hB34 : Below w3.heap.size w3 w4 := by rw [hw4]; exact (Below.refl _ _).alloc (Nat.le_refl _) _
  have HB4 : Hid (Below w.heap.size w w4) := HB3.out.trans (hB34.mono HB3.out.size)
  have kb := HKB.out w4 _ s HB4.out ((hN.later hB34).mono HW2.out.size) hPs
  clear kr hN hPs hb3 hB34 a0 a1 a2
  generalize f s = bx at *
  go_wp2_with fail
  rw [← hw4]
  clear hw4
  refine kb.mono ?_
  rintro r w5 ⟨rfl, hb5⟩
  have HB5 : Hid (Below w.heap.size w w5) := HB4.out.trans (hb5.mono HB4.out.size)
  clear kb hb5
  go_wp2
  go_ret
  exact ⟨rfl, HB5.out⟩
end Go.Proofs.YtmhpicccfaklcaaGreatDoor

/- The document's RatioTo. -/
namespace Go.Proofs.YtmhpicccfaklcaaGreatDoor
set_option linter.unusedVariables false
set_option linter.unusedSimpArgs false
open Go.RowKit

set_option maxHeartbeats 4000000 in
set_option maxRecDepth 200000 in
theorem rratioto_b (na nb : Bool) (ua va : Option Addr) (un uc vn vc F : Nat) (ea eb m ta tb pl : Int) (sg : Bool) (w : World) (hsg : (!(na == nb)) = sg) (hn0 : ((un : Int) == 0) = false) (hta1 : -200000 ≤ ta) (hta2 : ta ≤ 200000) (htb1 : -200000 ≤ tb) (htb2 : tb ≤ 200000) (hpl : min (max (60 - ta + tb) (-1100)) 1100 = pl) (hpl1 : -1100 ≤ pl) (hpl2 : pl ≤ 1100) (ht : 1100 < ta - tb) (kHa : ∀ W, Below w.heap.size w W → Calls Tryz.prog 56 #[.agg #[.bool na, .slice ua un uc, .int .i64 ea]] W fun r w' => r = .returned (.int .i64 ta) ∧ Below W.heap.size W w') (kHb : ∀ W, Below w.heap.size w W → Calls Tryz.prog 56 #[.agg #[.bool nb, .slice va vn vc, .int .i64 eb]] W fun r w' => r = .returned (.int .i64 tb) ∧ Below W.heap.size W w')
    (kT : ∀ g W, Below w.heap.size w W → At W (some ⟨g, 0, none⟩) 1 1 → Calls Tryz.prog 89 #[.agg #[.bool sg, .slice (some ⟨g, 0, none⟩) 1 1, .int .i64 1100], .int .i64 m] W fun r w' => r = .returned (.float .f64 F) ∧ Below W.heap.size W w') :
    Calls Tryz.prog 92 #[.agg #[.bool na, .slice ua un uc, .int .i64 ea], .agg #[.bool nb, .slice va vn vc, .int .i64 eb], .int .i64 m] w fun r w' => r = .returned (.float .f64 F) ∧ Below w.heap.size w w' := by
  obtain ⟨W, hW⟩ : ∃ W, W = (w.alloc (.cells #[.bool na, .slice ua un uc, .int .i64 ea] 24)).alloc (.cells #[.bool nb, .slice va vn vc, .int .i64 eb] 24) := ⟨_, rfl⟩
  obtain ⟨hA, hBb, hsz, hBW⟩ := two29 _ _ hW
  have HX : Hid (Below w.heap.size w W ∧ W.heap.size = w.heap.size + 1 + 1 ∧ W.heap[w.heap.size]? = some (.cells #[.bool na, .slice ua un uc, .int .i64 ea] 24 (0, 0)) ∧ W.heap[w.heap.size + 1]? = some (.cells #[.bool nb, .slice va vn vc, .int .i64 eb] 24 (0, 0))) := ⟨hBW, hsz, hA, hBb⟩
  have HKW : Hid (∀ w', Below W.heap.size W w' → ((w'.cell? ⟨w.heap.size, 0, none⟩ = some (.bool na) ∧ w'.cell? ⟨w.heap.size, 1, none⟩ = some (.slice ua un uc) ∧ w'.cell? ⟨w.heap.size, 2, none⟩ = some (.int .i64 ea)) ∧ (w'.cell? ⟨w.heap.size + 1, 0, none⟩ = some (.bool nb) ∧ w'.cell? ⟨w.heap.size + 1, 1, none⟩ = some (.slice va vn vc) ∧ w'.cell? ⟨w.heap.size + 1, 2, none⟩ = some (.int .i64 eb)))) := fun w' hb => ⟨(box_cells29 (box_later HX.out.2.2.1 hb (by have := HX.out.2.1; omega))).1, (box_cells29 (box_later HX.out.2.2.2 hb (by have := HX.out.2.1; omega))).1⟩
  have HKA : Hid (∀ W, Below w.heap.size w W → Calls Tryz.prog 56 #[.agg #[.bool na, .slice ua un uc, .int .i64 ea]] W fun r w' => r = .returned (.int .i64 ta) ∧ Below W.heap.size W w') := kHa
  have HKB : Hid (∀ W, Below w.heap.size w W → Calls Tryz.prog 56 #[.agg #[.bool nb, .slice va vn vc, .int .i64 eb]] W fun r w' => r = .returned (.int .i64 tb) ∧ Below W.heap.size W w') := kHb
  have HBW0 : Hid (Below W.heap.size W W) := Below.refl _ _
  have hw1 : IntKind.i64.wrap (60 - ta) = 60 - ta := by rw [IntKind.wrap_i64]; omega
  have hw2 : IntKind.i64.wrap (60 - ta + tb) = 60 - ta + tb := by rw [IntKind.wrap_i64]; omega
  have hw3 : IntKind.i64.wrap (ta - tb) = ta - tb := by rw [IntKind.wrap_i64]; omega
  have HKT : Hid (∀ g W, Below w.heap.size w W → At W (some ⟨g, 0, none⟩) 1 1 → Calls Tryz.prog 89 #[.agg #[.bool sg, .slice (some ⟨g, 0, none⟩) 1 1, .int .i64 1100], .int .i64 m] W fun r w' => r = .returned (.float .f64 F) ∧ Below W.heap.size W w') := kT
  clear kT
  clear hA hBb hsz hBW kHa kHb
  go_enter Tryz.func92, Tryz.ntmps92
  have HK0 : Hid (∀ w', Below W.heap.size W w' → ((w'.cell? ⟨w.heap.size, 0, none⟩ = some (.bool na) ∧ w'.cell? ⟨w.heap.size, 1, none⟩ = some (.slice ua un uc) ∧ w'.cell? ⟨w.heap.size, 2, none⟩ = some (.int .i64 ea)) ∧ (w'.cell? ⟨w.heap.size + 1, 0, none⟩ = some (.bool nb) ∧ w'.cell? ⟨w.heap.size + 1, 1, none⟩ = some (.slice va vn vc) ∧ w'.cell? ⟨w.heap.size + 1, 2, none⟩ = some (.int .i64 eb)))) := fun w' hb => HKW.out w' (HBW0.out.trans (hb.mono HBW0.out.size))
  obtain ⟨⟨a0, a1, a2⟩, b0, b1, b2⟩ := HK0.out W (Below.refl _ _)
  have hBR : Below W.heap.size W W.drew := (Below.refl _ _).drew
  have kA' : ∀ w4, Below W.heap.size W w4 → Calls Tryz.prog 56 #[.agg #[.bool na, .slice ua un uc, .int .i64 ea]] w4 fun r w' => r = .returned (.int .i64 ta) ∧ Below W.heap.size W w' := fun w4 hb => (HKA.out w4 (HX.out.1.trans ((HBW0.out.trans (hb.mono HBW0.out.size)).mono HX.out.1.size))).mono fun r w' ⟨e1, o2⟩ => ⟨e1, hb.trans (o2.mono hb.size)⟩
  have kB' : ∀ w4, Below W.heap.size W w4 → Calls Tryz.prog 56 #[.agg #[.bool nb, .slice va vn vc, .int .i64 eb]] w4 fun r w' => r = .returned (.int .i64 tb) ∧ Below W.heap.size W w' := fun w4 hb => (HKB.out w4 (HX.out.1.trans ((HBW0.out.trans (hb.mono HBW0.out.size)).mono HX.out.1.size))).mono fun r w' ⟨e1, o2⟩ => ⟨e1, hb.trans (o2.mono hb.size)⟩
  go_upto_region 3 with fail
  rw [← hW]
  clear hW
  go_cut [7] from 15 to 22 (fun v wx => v = .int .i64 pl ∧ Hid (Below W.heap.size W wx))
  case first =>
    go_region_held3 (fun w' => ((w'.cell? ⟨w.heap.size, 0, none⟩ = some (.bool na) ∧ w'.cell? ⟨w.heap.size, 1, none⟩ = some (.slice ua un uc) ∧ w'.cell? ⟨w.heap.size, 2, none⟩ = some (.int .i64 ea)) ∧ (w'.cell? ⟨w.heap.size + 1, 0, none⟩ = some (.bool nb) ∧ w'.cell? ⟨w.heap.size + 1, 1, none⟩ = some (.slice va vn vc) ∧ w'.cell? ⟨w.heap.size + 1, 2, none⟩ = some (.int .i64 eb)))) (first | (with_reducible assumption) | exact ⟨⟨a0, a1, a2⟩, b0, b1, b2⟩ | (refine HK0.out _ ?_; with_reducible assumption) | go_keep)
      (first | (go_at_call 56; first | (with_reducible refine (kA' _ (by first | (with_reducible assumption) | exact hBR)).mono ?_; rintro r w5 ⟨rfl, hb5⟩) | (with_reducible refine (kB' _ (by first | (with_reducible assumption) | exact hBR)).mono ?_; rintro r w6 ⟨rfl, hb6⟩)))
    all_goals go_wp2_with fail
    all_goals go_meet
    all_goals first | exact ⟨rfl, hb6⟩ | exact ⟨rfl, hb5⟩
  case rest =>
  obtain ⟨rfl, hcx⟩ := hcut
  obtain ⟨w2, rfl⟩ : ∃ w2 : World, w2 = wc := ⟨_, rfl⟩
  have HBW1 : Hid (Below W.heap.size W w2) := HBW0.out.trans (hcx.out.mono HBW0.out.size)
  clear hcx a0 a1 a2 b0 b1 b2 kA' kB' hBR HK0
  have HK1 : Hid (∀ w', Below w2.heap.size w2 w' → ((w'.cell? ⟨w.heap.size, 0, none⟩ = some (.bool na) ∧ w'.cell? ⟨w.heap.size, 1, none⟩ = some (.slice ua un uc) ∧ w'.cell? ⟨w.heap.size, 2, none⟩ = some (.int .i64 ea)) ∧ (w'.cell? ⟨w.heap.size + 1, 0, none⟩ = some (.bool nb) ∧ w'.cell? ⟨w.heap.size + 1, 1, none⟩ = some (.slice va vn vc) ∧ w'.cell? ⟨w.heap.size + 1, 2, none⟩ = some (.int .i64 eb)))) := fun w' hb => HKW.out w' (HBW1.out.trans (hb.mono HBW1.out.size))
  obtain ⟨⟨a0, a1, a2⟩, b0, b1, b2⟩ := HK1.out w2 (Below.refl _ _)
  have hBR : Below w2.heap.size w2 w2.drew := (Below.refl _ _).drew
  have kA' : ∀ w4, Below w2.heap.size w2 w4 → Calls Tryz.prog 56 #[.agg #[.bool na, .slice ua un uc, .int .i64 ea]] w4 fun r w' => r = .returned (.int .i64 ta) ∧ Below w2.heap.size w2 w' := fun w4 hb => (HKA.out w4 (HX.out.1.trans ((HBW1.out.trans (hb.mono HBW1.out.size)).mono HX.out.1.size))).mono fun r w' ⟨e1, o2⟩ => ⟨e1, hb.trans (o2.mono hb.size)⟩
  have kB' : ∀ w4, Below w2.heap.size w2 w4 → Calls Tryz.prog 56 #[.agg #[.bool nb, .slice va vn vc, .int .i64 eb]] w4 fun r w' => r = .returned (.int .i64 tb) ∧ Below w2.heap.size w2 w' := fun w4 hb => (HKB.out w4 (HX.out.1.trans ((HBW1.out.trans (hb.mono HBW1.out.size)).mono HX.out.1.size))).mono fun r w' ⟨e1, o2⟩ => ⟨e1, hb.trans (o2.mono hb.size)⟩
  go_upto_region 4 with fail
  go_cut [8] from 23 to 27 (fun v wx => v = .int .i64 (ta - tb) ∧ Hid (Below w2.heap.size w2 wx))
  case first =>
    go_region_held3 (fun w' => ((w'.cell? ⟨w.heap.size, 0, none⟩ = some (.bool na) ∧ w'.cell? ⟨w.heap.size, 1, none⟩ = some (.slice ua un uc) ∧ w'.cell? ⟨w.heap.size, 2, none⟩ = some (.int .i64 ea)) ∧ (w'.cell? ⟨w.heap.size + 1, 0, none⟩ = some (.bool nb) ∧ w'.cell? ⟨w.heap.size + 1, 1, none⟩ = some (.slice va vn vc) ∧ w'.cell? ⟨w.heap.size + 1, 2, none⟩ = some (.int .i64 eb)))) (first | (with_reducible assumption) | exact ⟨⟨a0, a1, a2⟩, b0, b1, b2⟩ | (refine HK1.out _ ?_; with_reducible assumption) | go_keep)
      (first | (go_at_call 56; first | (with_reducible refine (kA' _ (by first | (with_reducible assumption) | exact hBR)).mono ?_; rintro r w5 ⟨rfl, hb5⟩) | (with_reducible refine (kB' _ (by first | (with_reducible assumption) | exact hBR)).mono ?_; rintro r w6 ⟨rfl, hb6⟩)))
    all_goals go_wp2_with fail
    all_goals go_meet
    all_goals first | exact ⟨rfl, hb6⟩ | exact ⟨rfl, hb5⟩
  case rest =>
  obtain ⟨rfl, hcx⟩ := hcut
  obtain ⟨w3, rfl⟩ : ∃ w3 : World, w3 = wc := ⟨_, rfl⟩
  have HBW2 : Hid (Below W.heap.size W w3) := HBW1.out.trans (hcx.out.mono HBW1.out.size)
  clear hcx a0 a1 a2 b0 b1 b2 kA' kB' hBR HK1
  obtain ⟨⟨a0, a1, a2⟩, b0, b1, b2⟩ := HKW.out w3 HBW2.out
  obtain ⟨w4, hw4⟩ : ∃ w4, w4 = w3.alloc (.cells #[.int .u32 1] 65) := ⟨_, rfl⟩
  have hB34 : Below w3.heap.size w3 w4 := by rw [hw4]; exact (Below.refl _ _).alloc (Nat.le_refl _) _
  have HW3 : Hid (Below w.heap.size w w3) := HX.out.1.trans (HBW2.out.mono HX.out.1.size)
  have HB4 : Hid (Below w.heap.size w w4) := HW3.out.trans (hB34.mono HW3.out.size)
  have hA1 : At w4 (some ⟨w3.heap.size, 0, none⟩) 1 1 := ⟨w3.heap.size, 0, fun _ => rfl, fun i hi => by
    obtain rfl : i = 0 := by omega
    rw [hw4, dg_zero, show 1 % B = 1 by rfl]
    exact cell_new1 w3 _⟩
  have kt := HKT.out w3.heap.size w4 HB4.out hA1
  clear hB34 hA1
  go_wp2_with fail
  rw [← hw4]
  clear hw4
  refine kt.mono ?_
  rintro r w5 ⟨rfl, hb5⟩
  have HB5 : Hid (Below w.heap.size w w5) := HB4.out.trans (hb5.mono HB4.out.size)
  clear kt hb5
  go_wp2
  go_ret
  exact ⟨rfl, HB5.out⟩
set_option maxHeartbeats 4000000 in
set_option maxRecDepth 200000 in
theorem rratioto_t (na nb : Bool) (ua va : Option Addr) (un uc vn vc F : Nat) (ea eb m ta tb pl : Int) (sg : Bool) (w : World) (hsg : (!(na == nb)) = sg) (hn0 : ((un : Int) == 0) = false) (hta1 : -200000 ≤ ta) (hta2 : ta ≤ 200000) (htb1 : -200000 ≤ tb) (htb2 : tb ≤ 200000) (hpl : min (max (60 - ta + tb) (-1100)) 1100 = pl) (hpl1 : -1100 ≤ pl) (hpl2 : pl ≤ 1100) (ht : ta - tb < -1200) (kHa : ∀ W, Below w.heap.size w W → Calls Tryz.prog 56 #[.agg #[.bool na, .slice ua un uc, .int .i64 ea]] W fun r w' => r = .returned (.int .i64 ta) ∧ Below W.heap.size W w') (kHb : ∀ W, Below w.heap.size w W → Calls Tryz.prog 56 #[.agg #[.bool nb, .slice va vn vc, .int .i64 eb]] W fun r w' => r = .returned (.int .i64 tb) ∧ Below W.heap.size W w')
    (kT : ∀ g W, Below w.heap.size w W → At W (some ⟨g, 0, none⟩) 1 1 → Calls Tryz.prog 89 #[.agg #[.bool sg, .slice (some ⟨g, 0, none⟩) 1 1, .int .i64 (-1200)], .int .i64 m] W fun r w' => r = .returned (.float .f64 F) ∧ Below W.heap.size W w') :
    Calls Tryz.prog 92 #[.agg #[.bool na, .slice ua un uc, .int .i64 ea], .agg #[.bool nb, .slice va vn vc, .int .i64 eb], .int .i64 m] w fun r w' => r = .returned (.float .f64 F) ∧ Below w.heap.size w w' := by
  have htn : ¬ 1100 < ta - tb := by omega
  obtain ⟨W, hW⟩ : ∃ W, W = (w.alloc (.cells #[.bool na, .slice ua un uc, .int .i64 ea] 24)).alloc (.cells #[.bool nb, .slice va vn vc, .int .i64 eb] 24) := ⟨_, rfl⟩
  obtain ⟨hA, hBb, hsz, hBW⟩ := two29 _ _ hW
  have HX : Hid (Below w.heap.size w W ∧ W.heap.size = w.heap.size + 1 + 1 ∧ W.heap[w.heap.size]? = some (.cells #[.bool na, .slice ua un uc, .int .i64 ea] 24 (0, 0)) ∧ W.heap[w.heap.size + 1]? = some (.cells #[.bool nb, .slice va vn vc, .int .i64 eb] 24 (0, 0))) := ⟨hBW, hsz, hA, hBb⟩
  have HKW : Hid (∀ w', Below W.heap.size W w' → ((w'.cell? ⟨w.heap.size, 0, none⟩ = some (.bool na) ∧ w'.cell? ⟨w.heap.size, 1, none⟩ = some (.slice ua un uc) ∧ w'.cell? ⟨w.heap.size, 2, none⟩ = some (.int .i64 ea)) ∧ (w'.cell? ⟨w.heap.size + 1, 0, none⟩ = some (.bool nb) ∧ w'.cell? ⟨w.heap.size + 1, 1, none⟩ = some (.slice va vn vc) ∧ w'.cell? ⟨w.heap.size + 1, 2, none⟩ = some (.int .i64 eb)))) := fun w' hb => ⟨(box_cells29 (box_later HX.out.2.2.1 hb (by have := HX.out.2.1; omega))).1, (box_cells29 (box_later HX.out.2.2.2 hb (by have := HX.out.2.1; omega))).1⟩
  have HKA : Hid (∀ W, Below w.heap.size w W → Calls Tryz.prog 56 #[.agg #[.bool na, .slice ua un uc, .int .i64 ea]] W fun r w' => r = .returned (.int .i64 ta) ∧ Below W.heap.size W w') := kHa
  have HKB : Hid (∀ W, Below w.heap.size w W → Calls Tryz.prog 56 #[.agg #[.bool nb, .slice va vn vc, .int .i64 eb]] W fun r w' => r = .returned (.int .i64 tb) ∧ Below W.heap.size W w') := kHb
  have HBW0 : Hid (Below W.heap.size W W) := Below.refl _ _
  have hw1 : IntKind.i64.wrap (60 - ta) = 60 - ta := by rw [IntKind.wrap_i64]; omega
  have hw2 : IntKind.i64.wrap (60 - ta + tb) = 60 - ta + tb := by rw [IntKind.wrap_i64]; omega
  have hw3 : IntKind.i64.wrap (ta - tb) = ta - tb := by rw [IntKind.wrap_i64]; omega
  have HKT : Hid (∀ g W, Below w.heap.size w W → At W (some ⟨g, 0, none⟩) 1 1 → Calls Tryz.prog 89 #[.agg #[.bool sg, .slice (some ⟨g, 0, none⟩) 1 1, .int .i64 (-1200)], .int .i64 m] W fun r w' => r = .returned (.float .f64 F) ∧ Below W.heap.size W w') := kT
  clear kT
  clear hA hBb hsz hBW kHa kHb
  go_enter Tryz.func92, Tryz.ntmps92
  have HK0 : Hid (∀ w', Below W.heap.size W w' → ((w'.cell? ⟨w.heap.size, 0, none⟩ = some (.bool na) ∧ w'.cell? ⟨w.heap.size, 1, none⟩ = some (.slice ua un uc) ∧ w'.cell? ⟨w.heap.size, 2, none⟩ = some (.int .i64 ea)) ∧ (w'.cell? ⟨w.heap.size + 1, 0, none⟩ = some (.bool nb) ∧ w'.cell? ⟨w.heap.size + 1, 1, none⟩ = some (.slice va vn vc) ∧ w'.cell? ⟨w.heap.size + 1, 2, none⟩ = some (.int .i64 eb)))) := fun w' hb => HKW.out w' (HBW0.out.trans (hb.mono HBW0.out.size))
  obtain ⟨⟨a0, a1, a2⟩, b0, b1, b2⟩ := HK0.out W (Below.refl _ _)
  have hBR : Below W.heap.size W W.drew := (Below.refl _ _).drew
  have kA' : ∀ w4, Below W.heap.size W w4 → Calls Tryz.prog 56 #[.agg #[.bool na, .slice ua un uc, .int .i64 ea]] w4 fun r w' => r = .returned (.int .i64 ta) ∧ Below W.heap.size W w' := fun w4 hb => (HKA.out w4 (HX.out.1.trans ((HBW0.out.trans (hb.mono HBW0.out.size)).mono HX.out.1.size))).mono fun r w' ⟨e1, o2⟩ => ⟨e1, hb.trans (o2.mono hb.size)⟩
  have kB' : ∀ w4, Below W.heap.size W w4 → Calls Tryz.prog 56 #[.agg #[.bool nb, .slice va vn vc, .int .i64 eb]] w4 fun r w' => r = .returned (.int .i64 tb) ∧ Below W.heap.size W w' := fun w4 hb => (HKB.out w4 (HX.out.1.trans ((HBW0.out.trans (hb.mono HBW0.out.size)).mono HX.out.1.size))).mono fun r w' ⟨e1, o2⟩ => ⟨e1, hb.trans (o2.mono hb.size)⟩
  go_upto_region 3 with fail
  rw [← hW]
  clear hW
  go_cut [7] from 15 to 22 (fun v wx => v = .int .i64 pl ∧ Hid (Below W.heap.size W wx))
  case first =>
    go_region_held3 (fun w' => ((w'.cell? ⟨w.heap.size, 0, none⟩ = some (.bool na) ∧ w'.cell? ⟨w.heap.size, 1, none⟩ = some (.slice ua un uc) ∧ w'.cell? ⟨w.heap.size, 2, none⟩ = some (.int .i64 ea)) ∧ (w'.cell? ⟨w.heap.size + 1, 0, none⟩ = some (.bool nb) ∧ w'.cell? ⟨w.heap.size + 1, 1, none⟩ = some (.slice va vn vc) ∧ w'.cell? ⟨w.heap.size + 1, 2, none⟩ = some (.int .i64 eb)))) (first | (with_reducible assumption) | exact ⟨⟨a0, a1, a2⟩, b0, b1, b2⟩ | (refine HK0.out _ ?_; with_reducible assumption) | go_keep)
      (first | (go_at_call 56; first | (with_reducible refine (kA' _ (by first | (with_reducible assumption) | exact hBR)).mono ?_; rintro r w5 ⟨rfl, hb5⟩) | (with_reducible refine (kB' _ (by first | (with_reducible assumption) | exact hBR)).mono ?_; rintro r w6 ⟨rfl, hb6⟩)))
    all_goals go_wp2_with fail
    all_goals go_meet
    all_goals first | exact ⟨rfl, hb6⟩ | exact ⟨rfl, hb5⟩
  case rest =>
  obtain ⟨rfl, hcx⟩ := hcut
  obtain ⟨w2, rfl⟩ : ∃ w2 : World, w2 = wc := ⟨_, rfl⟩
  have HBW1 : Hid (Below W.heap.size W w2) := HBW0.out.trans (hcx.out.mono HBW0.out.size)
  clear hcx a0 a1 a2 b0 b1 b2 kA' kB' hBR HK0
  have HK1 : Hid (∀ w', Below w2.heap.size w2 w' → ((w'.cell? ⟨w.heap.size, 0, none⟩ = some (.bool na) ∧ w'.cell? ⟨w.heap.size, 1, none⟩ = some (.slice ua un uc) ∧ w'.cell? ⟨w.heap.size, 2, none⟩ = some (.int .i64 ea)) ∧ (w'.cell? ⟨w.heap.size + 1, 0, none⟩ = some (.bool nb) ∧ w'.cell? ⟨w.heap.size + 1, 1, none⟩ = some (.slice va vn vc) ∧ w'.cell? ⟨w.heap.size + 1, 2, none⟩ = some (.int .i64 eb)))) := fun w' hb => HKW.out w' (HBW1.out.trans (hb.mono HBW1.out.size))
  obtain ⟨⟨a0, a1, a2⟩, b0, b1, b2⟩ := HK1.out w2 (Below.refl _ _)
  have hBR : Below w2.heap.size w2 w2.drew := (Below.refl _ _).drew
  have kA' : ∀ w4, Below w2.heap.size w2 w4 → Calls Tryz.prog 56 #[.agg #[.bool na, .slice ua un uc, .int .i64 ea]] w4 fun r w' => r = .returned (.int .i64 ta) ∧ Below w2.heap.size w2 w' := fun w4 hb => (HKA.out w4 (HX.out.1.trans ((HBW1.out.trans (hb.mono HBW1.out.size)).mono HX.out.1.size))).mono fun r w' ⟨e1, o2⟩ => ⟨e1, hb.trans (o2.mono hb.size)⟩
  have kB' : ∀ w4, Below w2.heap.size w2 w4 → Calls Tryz.prog 56 #[.agg #[.bool nb, .slice va vn vc, .int .i64 eb]] w4 fun r w' => r = .returned (.int .i64 tb) ∧ Below w2.heap.size w2 w' := fun w4 hb => (HKB.out w4 (HX.out.1.trans ((HBW1.out.trans (hb.mono HBW1.out.size)).mono HX.out.1.size))).mono fun r w' ⟨e1, o2⟩ => ⟨e1, hb.trans (o2.mono hb.size)⟩
  go_upto_region 4 with fail
  go_cut [8] from 23 to 27 (fun v wx => v = .int .i64 (ta - tb) ∧ Hid (Below w2.heap.size w2 wx))
  case first =>
    go_region_held3 (fun w' => ((w'.cell? ⟨w.heap.size, 0, none⟩ = some (.bool na) ∧ w'.cell? ⟨w.heap.size, 1, none⟩ = some (.slice ua un uc) ∧ w'.cell? ⟨w.heap.size, 2, none⟩ = some (.int .i64 ea)) ∧ (w'.cell? ⟨w.heap.size + 1, 0, none⟩ = some (.bool nb) ∧ w'.cell? ⟨w.heap.size + 1, 1, none⟩ = some (.slice va vn vc) ∧ w'.cell? ⟨w.heap.size + 1, 2, none⟩ = some (.int .i64 eb)))) (first | (with_reducible assumption) | exact ⟨⟨a0, a1, a2⟩, b0, b1, b2⟩ | (refine HK1.out _ ?_; with_reducible assumption) | go_keep)
      (first | (go_at_call 56; first | (with_reducible refine (kA' _ (by first | (with_reducible assumption) | exact hBR)).mono ?_; rintro r w5 ⟨rfl, hb5⟩) | (with_reducible refine (kB' _ (by first | (with_reducible assumption) | exact hBR)).mono ?_; rintro r w6 ⟨rfl, hb6⟩)))
    all_goals go_wp2_with fail
    all_goals go_meet
    all_goals first | exact ⟨rfl, hb6⟩ | exact ⟨rfl, hb5⟩
  case rest =>
  obtain ⟨rfl, hcx⟩ := hcut
  obtain ⟨w3, rfl⟩ : ∃ w3 : World, w3 = wc := ⟨_, rfl⟩
  have HBW2 : Hid (Below W.heap.size W w3) := HBW1.out.trans (hcx.out.mono HBW1.out.size)
  clear hcx a0 a1 a2 b0 b1 b2 kA' kB' hBR HK1
  obtain ⟨⟨a0, a1, a2⟩, b0, b1, b2⟩ := HKW.out w3 HBW2.out
  obtain ⟨w4, hw4⟩ : ∃ w4, w4 = w3.alloc (.cells #[.int .u32 1] 65) := ⟨_, rfl⟩
  have hB34 : Below w3.heap.size w3 w4 := by rw [hw4]; exact (Below.refl _ _).alloc (Nat.le_refl _) _
  have HW3 : Hid (Below w.heap.size w w3) := HX.out.1.trans (HBW2.out.mono HX.out.1.size)
  have HB4 : Hid (Below w.heap.size w w4) := HW3.out.trans (hB34.mono HW3.out.size)
  have hA1 : At w4 (some ⟨w3.heap.size, 0, none⟩) 1 1 := ⟨w3.heap.size, 0, fun _ => rfl, fun i hi => by
    obtain rfl : i = 0 := by omega
    rw [hw4, dg_zero, show 1 % B = 1 by rfl]
    exact cell_new1 w3 _⟩
  have kt := HKT.out w3.heap.size w4 HB4.out hA1
  clear hB34 hA1
  go_wp2_with fail
  rw [← hw4]
  clear hw4
  refine kt.mono ?_
  rintro r w5 ⟨rfl, hb5⟩
  have HB5 : Hid (Below w.heap.size w w5) := HB4.out.trans (hb5.mono HB4.out.size)
  clear kt hb5
  go_wp2
  go_ret
  exact ⟨rfl, HB5.out⟩
set_option maxHeartbeats 4000000 in
set_option maxRecDepth 200000 in
theorem rratioto_m (na nb : Bool) (ua va : Option Addr) (un uc vn vc F : Nat) (ea eb m ta tb pl : Int) (s : Bool) (z : Nat) (bx : Bool) (w : World) (hn0 : ((un : Int) == 0) = false) (hta1 : -200000 ≤ ta) (hta2 : ta ≤ 200000) (htb1 : -200000 ≤ tb) (htb2 : tb ≤ 200000) (hpl : min (max (60 - ta + tb) (-1100)) 1100 = pl) (hpl1 : -1100 ≤ pl) (hpl2 : pl ≤ 1100) (ht1 : ta - tb ≤ 1100) (ht2 : -1200 ≤ ta - tb) (kHa : ∀ W, Below w.heap.size w W → Calls Tryz.prog 56 #[.agg #[.bool na, .slice ua un uc, .int .i64 ea]] W fun r w' => r = .returned (.int .i64 ta) ∧ Below W.heap.size W w') (kHb : ∀ W, Below w.heap.size w W → Calls Tryz.prog 56 #[.agg #[.bool nb, .slice va vn vc, .int .i64 eb]] W fun r w' => r = .returned (.int .i64 tb) ∧ Below W.heap.size W w')
    (kO : ∀ W, Below w.heap.size w W → Calls Tryz.prog 84 #[.agg #[.bool na, .slice ua un uc, .int .i64 ea], .agg #[.bool nb, .slice va vn vc, .int .i64 eb], .int .i64 (pl + 60)] W fun r w' => ∃ A, r = .returned (.tuple #[A, .bool bx]) ∧ NC w' W.heap.size A s z (-(pl + 60)) ∧ Below W.heap.size W w')
    (kB : ∀ W A, Below w.heap.size w W → NC W w.heap.size A s z (-(pl + 60)) → Calls Tryz.prog 142 #[A, .bool bx, .int .i64 (pl + 60), .int .i64 m] W fun r w' => r = .returned (.float .f64 F) ∧ Below W.heap.size W w') :
    Calls Tryz.prog 92 #[.agg #[.bool na, .slice ua un uc, .int .i64 ea], .agg #[.bool nb, .slice va vn vc, .int .i64 eb], .int .i64 m] w fun r w' => r = .returned (.float .f64 F) ∧ Below w.heap.size w w' := by
  have htn : ¬ 1100 < ta - tb := by omega
  have htm : ¬ ta - tb < -1200 := by omega
  obtain ⟨W, hW⟩ : ∃ W, W = (w.alloc (.cells #[.bool na, .slice ua un uc, .int .i64 ea] 24)).alloc (.cells #[.bool nb, .slice va vn vc, .int .i64 eb] 24) := ⟨_, rfl⟩
  obtain ⟨hA, hBb, hsz, hBW⟩ := two29 _ _ hW
  have HX : Hid (Below w.heap.size w W ∧ W.heap.size = w.heap.size + 1 + 1 ∧ W.heap[w.heap.size]? = some (.cells #[.bool na, .slice ua un uc, .int .i64 ea] 24 (0, 0)) ∧ W.heap[w.heap.size + 1]? = some (.cells #[.bool nb, .slice va vn vc, .int .i64 eb] 24 (0, 0))) := ⟨hBW, hsz, hA, hBb⟩
  have HKW : Hid (∀ w', Below W.heap.size W w' → ((w'.cell? ⟨w.heap.size, 0, none⟩ = some (.bool na) ∧ w'.cell? ⟨w.heap.size, 1, none⟩ = some (.slice ua un uc) ∧ w'.cell? ⟨w.heap.size, 2, none⟩ = some (.int .i64 ea)) ∧ (w'.cell? ⟨w.heap.size + 1, 0, none⟩ = some (.bool nb) ∧ w'.cell? ⟨w.heap.size + 1, 1, none⟩ = some (.slice va vn vc) ∧ w'.cell? ⟨w.heap.size + 1, 2, none⟩ = some (.int .i64 eb)))) := fun w' hb => ⟨(box_cells29 (box_later HX.out.2.2.1 hb (by have := HX.out.2.1; omega))).1, (box_cells29 (box_later HX.out.2.2.2 hb (by have := HX.out.2.1; omega))).1⟩
  have HKA : Hid (∀ W, Below w.heap.size w W → Calls Tryz.prog 56 #[.agg #[.bool na, .slice ua un uc, .int .i64 ea]] W fun r w' => r = .returned (.int .i64 ta) ∧ Below W.heap.size W w') := kHa
  have HKB : Hid (∀ W, Below w.heap.size w W → Calls Tryz.prog 56 #[.agg #[.bool nb, .slice va vn vc, .int .i64 eb]] W fun r w' => r = .returned (.int .i64 tb) ∧ Below W.heap.size W w') := kHb
  have HBW0 : Hid (Below W.heap.size W W) := Below.refl _ _
  have hw1 : IntKind.i64.wrap (60 - ta) = 60 - ta := by rw [IntKind.wrap_i64]; omega
  have hw2 : IntKind.i64.wrap (60 - ta + tb) = 60 - ta + tb := by rw [IntKind.wrap_i64]; omega
  have hw3 : IntKind.i64.wrap (ta - tb) = ta - tb := by rw [IntKind.wrap_i64]; omega
  have HKO : Hid (∀ W, Below w.heap.size w W → Calls Tryz.prog 84 #[.agg #[.bool na, .slice ua un uc, .int .i64 ea], .agg #[.bool nb, .slice va vn vc, .int .i64 eb], .int .i64 (pl + 60)] W fun r w' => ∃ A, r = .returned (.tuple #[A, .bool bx]) ∧ NC w' W.heap.size A s z (-(pl + 60)) ∧ Below W.heap.size W w') := kO
  have HKBt : Hid (∀ W A, Below w.heap.size w W → NC W w.heap.size A s z (-(pl + 60)) → Calls Tryz.prog 142 #[A, .bool bx, .int .i64 (pl + 60), .int .i64 m] W fun r w' => r = .returned (.float .f64 F) ∧ Below W.heap.size W w') := kB
  clear kO kB
  clear hA hBb hsz hBW kHa kHb
  go_enter Tryz.func92, Tryz.ntmps92
  have HK0 : Hid (∀ w', Below W.heap.size W w' → ((w'.cell? ⟨w.heap.size, 0, none⟩ = some (.bool na) ∧ w'.cell? ⟨w.heap.size, 1, none⟩ = some (.slice ua un uc) ∧ w'.cell? ⟨w.heap.size, 2, none⟩ = some (.int .i64 ea)) ∧ (w'.cell? ⟨w.heap.size + 1, 0, none⟩ = some (.bool nb) ∧ w'.cell? ⟨w.heap.size + 1, 1, none⟩ = some (.slice va vn vc) ∧ w'.cell? ⟨w.heap.size + 1, 2, none⟩ = some (.int .i64 eb)))) := fun w' hb => HKW.out w' (HBW0.out.trans (hb.mono HBW0.out.size))
  obtain ⟨⟨a0, a1, a2⟩, b0, b1, b2⟩ := HK0.out W (Below.refl _ _)
  have hBR : Below W.heap.size W W.drew := (Below.refl _ _).drew
  have kA' : ∀ w4, Below W.heap.size W w4 → Calls Tryz.prog 56 #[.agg #[.bool na, .slice ua un uc, .int .i64 ea]] w4 fun r w' => r = .returned (.int .i64 ta) ∧ Below W.heap.size W w' := fun w4 hb => (HKA.out w4 (HX.out.1.trans ((HBW0.out.trans (hb.mono HBW0.out.size)).mono HX.out.1.size))).mono fun r w' ⟨e1, o2⟩ => ⟨e1, hb.trans (o2.mono hb.size)⟩
  have kB' : ∀ w4, Below W.heap.size W w4 → Calls Tryz.prog 56 #[.agg #[.bool nb, .slice va vn vc, .int .i64 eb]] w4 fun r w' => r = .returned (.int .i64 tb) ∧ Below W.heap.size W w' := fun w4 hb => (HKB.out w4 (HX.out.1.trans ((HBW0.out.trans (hb.mono HBW0.out.size)).mono HX.out.1.size))).mono fun r w' ⟨e1, o2⟩ => ⟨e1, hb.trans (o2.mono hb.size)⟩
  go_upto_region 3 with fail
  rw [← hW]
  clear hW
  go_cut [7] from 15 to 22 (fun v wx => v = .int .i64 pl ∧ Hid (Below W.heap.size W wx))
  case first =>
    go_region_held3 (fun w' => ((w'.cell? ⟨w.heap.size, 0, none⟩ = some (.bool na) ∧ w'.cell? ⟨w.heap.size, 1, none⟩ = some (.slice ua un uc) ∧ w'.cell? ⟨w.heap.size, 2, none⟩ = some (.int .i64 ea)) ∧ (w'.cell? ⟨w.heap.size + 1, 0, none⟩ = some (.bool nb) ∧ w'.cell? ⟨w.heap.size + 1, 1, none⟩ = some (.slice va vn vc) ∧ w'.cell? ⟨w.heap.size + 1, 2, none⟩ = some (.int .i64 eb)))) (first | (with_reducible assumption) | exact ⟨⟨a0, a1, a2⟩, b0, b1, b2⟩ | (refine HK0.out _ ?_; with_reducible assumption) | go_keep)
      (first | (go_at_call 56; first | (with_reducible refine (kA' _ (by first | (with_reducible assumption) | exact hBR)).mono ?_; rintro r w5 ⟨rfl, hb5⟩) | (with_reducible refine (kB' _ (by first | (with_reducible assumption) | exact hBR)).mono ?_; rintro r w6 ⟨rfl, hb6⟩)))
    all_goals go_wp2_with fail
    all_goals go_meet
    all_goals first | exact ⟨rfl, hb6⟩ | exact ⟨rfl, hb5⟩
  case rest =>
  obtain ⟨rfl, hcx⟩ := hcut
  obtain ⟨w2, rfl⟩ : ∃ w2 : World, w2 = wc := ⟨_, rfl⟩
  have HBW1 : Hid (Below W.heap.size W w2) := HBW0.out.trans (hcx.out.mono HBW0.out.size)
  clear hcx a0 a1 a2 b0 b1 b2 kA' kB' hBR HK0
  have HK1 : Hid (∀ w', Below w2.heap.size w2 w' → ((w'.cell? ⟨w.heap.size, 0, none⟩ = some (.bool na) ∧ w'.cell? ⟨w.heap.size, 1, none⟩ = some (.slice ua un uc) ∧ w'.cell? ⟨w.heap.size, 2, none⟩ = some (.int .i64 ea)) ∧ (w'.cell? ⟨w.heap.size + 1, 0, none⟩ = some (.bool nb) ∧ w'.cell? ⟨w.heap.size + 1, 1, none⟩ = some (.slice va vn vc) ∧ w'.cell? ⟨w.heap.size + 1, 2, none⟩ = some (.int .i64 eb)))) := fun w' hb => HKW.out w' (HBW1.out.trans (hb.mono HBW1.out.size))
  obtain ⟨⟨a0, a1, a2⟩, b0, b1, b2⟩ := HK1.out w2 (Below.refl _ _)
  have hBR : Below w2.heap.size w2 w2.drew := (Below.refl _ _).drew
  have kA' : ∀ w4, Below w2.heap.size w2 w4 → Calls Tryz.prog 56 #[.agg #[.bool na, .slice ua un uc, .int .i64 ea]] w4 fun r w' => r = .returned (.int .i64 ta) ∧ Below w2.heap.size w2 w' := fun w4 hb => (HKA.out w4 (HX.out.1.trans ((HBW1.out.trans (hb.mono HBW1.out.size)).mono HX.out.1.size))).mono fun r w' ⟨e1, o2⟩ => ⟨e1, hb.trans (o2.mono hb.size)⟩
  have kB' : ∀ w4, Below w2.heap.size w2 w4 → Calls Tryz.prog 56 #[.agg #[.bool nb, .slice va vn vc, .int .i64 eb]] w4 fun r w' => r = .returned (.int .i64 tb) ∧ Below w2.heap.size w2 w' := fun w4 hb => (HKB.out w4 (HX.out.1.trans ((HBW1.out.trans (hb.mono HBW1.out.size)).mono HX.out.1.size))).mono fun r w' ⟨e1, o2⟩ => ⟨e1, hb.trans (o2.mono hb.size)⟩
  go_upto_region 4 with fail
  go_cut [8] from 23 to 27 (fun v wx => v = .int .i64 (ta - tb) ∧ Hid (Below w2.heap.size w2 wx))
  case first =>
    go_region_held3 (fun w' => ((w'.cell? ⟨w.heap.size, 0, none⟩ = some (.bool na) ∧ w'.cell? ⟨w.heap.size, 1, none⟩ = some (.slice ua un uc) ∧ w'.cell? ⟨w.heap.size, 2, none⟩ = some (.int .i64 ea)) ∧ (w'.cell? ⟨w.heap.size + 1, 0, none⟩ = some (.bool nb) ∧ w'.cell? ⟨w.heap.size + 1, 1, none⟩ = some (.slice va vn vc) ∧ w'.cell? ⟨w.heap.size + 1, 2, none⟩ = some (.int .i64 eb)))) (first | (with_reducible assumption) | exact ⟨⟨a0, a1, a2⟩, b0, b1, b2⟩ | (refine HK1.out _ ?_; with_reducible assumption) | go_keep)
      (first | (go_at_call 56; first | (with_reducible refine (kA' _ (by first | (with_reducible assumption) | exact hBR)).mono ?_; rintro r w5 ⟨rfl, hb5⟩) | (with_reducible refine (kB' _ (by first | (with_reducible assumption) | exact hBR)).mono ?_; rintro r w6 ⟨rfl, hb6⟩)))
    all_goals go_wp2_with fail
    all_goals go_meet
    all_goals first | exact ⟨rfl, hb6⟩ | exact ⟨rfl, hb5⟩
  case rest =>
  obtain ⟨rfl, hcx⟩ := hcut
  obtain ⟨w3, rfl⟩ : ∃ w3 : World, w3 = wc := ⟨_, rfl⟩
  have HBW2 : Hid (Below W.heap.size W w3) := HBW1.out.trans (hcx.out.mono HBW1.out.size)
  clear hcx a0 a1 a2 b0 b1 b2 kA' kB' hBR HK1
  obtain ⟨⟨a0, a1, a2⟩, b0, b1, b2⟩ := HKW.out w3 HBW2.out
  have HW3 : Hid (Below w.heap.size w w3) := HX.out.1.trans (HBW2.out.mono HX.out.1.size)
  have ko := HKO.out w3 HW3.out
  go_wp2_with fail
  refine ko.mono ?_
  rintro r w4 ⟨A, rfl, hN, hb4⟩
  have HB4 : Hid (Below w.heap.size w w4) := HW3.out.trans (hb4.mono HW3.out.size)
  obtain ⟨s3, ao3, n3, cap3, e3, rfl⟩ := hN.shape
  obtain ⟨w5, hw5⟩ : ∃ w5, w5 = w4.alloc (.cells #[.bool s3, .slice ao3 n3 cap3, .int .i64 e3] 24) := ⟨_, rfl⟩
  have hB45 : Below w4.heap.size w4 w5 := by rw [hw5]; exact (Below.refl _ _).alloc (Nat.le_refl _) _
  have HB5 : Hid (Below w.heap.size w w5) := HB4.out.trans (hB45.mono HB4.out.size)
  have kb := HKBt.out w5 _ HB5.out ((hN.later hB45).mono HW3.out.size)
  clear ko hN hb4 hB45 a0 a1 a2 b0 b1 b2
  go_wp2_with fail
  rw [← hw5]
  clear hw5
  refine kb.mono ?_
  rintro r w6 ⟨rfl, hb6⟩
  have HB6 : Hid (Below w.heap.size w w6) := HB5.out.trans (hb6.mono HB5.out.size)
  clear kb hb6
  go_wp2
  go_ret
  exact ⟨rfl, HB6.out⟩
end Go.Proofs.YtmhpicccfaklcaaGreatDoor

/- What is cut off finely enough rounds the same way: the digits below the highest 64 tell only whether there are any. -/
namespace Go.Proofs.YtmhpicccfaklcaaGreatDoor
set_option linter.unusedVariables false
set_option linter.unusedSimpArgs false
open Go.RowKit Go.Fl64
open Ie

theorem bl_ge {x n : Nat} : n + 1 ≤ bl x ↔ 2 ^ n ≤ x := by
  have := bl_le x n
  omega
theorem bl_div {x n : Nat} (h : n < bl x) : bl (x / 2 ^ n) = bl x - n := by
  have hx0 : x ≠ 0 := fun e => by rw [e] at h; simp [bl] at h
  have h1 := lt_bl x
  have h2 := le_bl hx0
  have a : bl (x / 2 ^ n) ≤ bl x - n := (bl_le _ _).2 ((Nat.div_lt_iff_lt_mul (Nat.two_pow_pos n)).2 (by rw [← Nat.pow_add, show bl x - n + n = bl x by omega]; exact h1))
  have b : bl x - n - 1 + 1 ≤ bl (x / 2 ^ n) := bl_ge.2 ((Nat.le_div_iff_mul_le (Nat.two_pow_pos n)).2 (by rw [← Nat.pow_add, show bl x - n - 1 + n = bl x - 1 by omega]; exact h2))
  omega
theorem bl_two {x : Nat} (h : x ≠ 0) : bl (2 * x + 1) = bl x + 1 := by
  have h1 := lt_bl x
  have h2 := le_bl h
  have hb := bl_ne h
  have a : bl (2 * x + 1) ≤ bl x + 1 := (bl_le _ _).2 (by rw [Nat.pow_succ]; omega)
  have b : bl x + 1 ≤ bl (2 * x + 1) := bl_ge.2 (by
    have : 2 ^ bl x = 2 * 2 ^ (bl x - 1) := by rw [← Nat.pow_succ']; congr 1; omega
    omega)
  omega
theorem two_div {x t : Nat} (h : 1 ≤ t) : (2 * x + 1) / 2 ^ t = x / 2 ^ (t - 1) := by
  obtain ⟨n, rfl⟩ : ∃ n, t = n + 1 := ⟨t - 1, by omega⟩
  rw [Nat.add_sub_cancel, Nat.pow_succ', ← Nat.div_div_eq_div_mul, show (2 * x + 1) / 2 = x by omega]
/-- one digit more, that is set, says the same as 'not exact' -/
theorem tf_sticky {s : Bool} {x : Nat} {e m : Int} (h : 64 ≤ bl x) : tfF s false x e m = tfF s true (2 * x + 1) (e - 1) m := by
  have hx0 : x ≠ 0 := fun e => by rw [e] at h; simp [bl] at h
  have hb := bl_two hx0
  have hd : tfD (2 * x + 1) = tfD x + 1 := by unfold tfD; omega
  unfold tfF
  have hM : tfM true (2 * x + 1) = tfM false x := by
    unfold tfM
    rw [hd, two_div (by omega), Nat.add_sub_cancel, tz_odd (show (2 * x + 1) % 2 = 1 by omega), decide_eq_true (show 0 < tfD x + 1 by omega)]
    simp
  rw [hM, hd, show e - 1 + ((tfD x + 1 : Nat) : Int) = e + (tfD x : Int) by omega]
/-- what is cut off of more digits than 64: as if it was told alone that something is -/
theorem tf_cut {s : Bool} {Z n : Nat} {E m : Int} (h : 64 ≤ bl (Z / 2 ^ n)) (hr : Z % 2 ^ n ≠ 0) : tfF s true Z E m = tfF s false (Z / 2 ^ n) (E + n) m := by
  have hn : 0 < n := by
    rcases Nat.eq_zero_or_pos n with h0 | h0
    · rw [h0, Nat.pow_zero, Nat.mod_one] at hr; omega
    · exact h0
  have hlt : n < bl Z := Nat.lt_of_not_le fun hle => by
    have : Z / 2 ^ n = 0 := Nat.div_eq_of_lt ((bl_le _ _).1 hle)
    rw [this] at h; simp [bl] at h
  have hb := bl_div hlt
  have hZ0 : Z ≠ 0 := fun e => by rw [e] at hlt; simp [bl] at hlt
  have hd : tfD Z = tfD (Z / 2 ^ n) + n := by unfold tfD; omega
  have hst : tz Z < tfD Z := by
    refine (tz_iff hZ0).2 fun e => hr ?_
    have h1 : 2 ^ n ∣ 2 ^ tfD Z := Nat.pow_dvd_pow 2 (by omega)
    exact Nat.mod_eq_zero_of_dvd (Nat.dvd_trans h1 (Nat.dvd_of_mod_eq_zero e))
  unfold tfF
  have hM : tfM true Z = tfM false (Z / 2 ^ n) := by
    unfold tfM
    rw [decide_eq_true hst, hd, Nat.div_div_eq_div_mul, ← Nat.pow_add, Nat.add_comm n]
    simp
  rw [hM, hd, show E + ((tfD (Z / 2 ^ n) + n : Nat) : Int) = E + (n : Int) + (tfD (Z / 2 ^ n) : Int) by omega]
/-- the same value, written otherwise -/
theorem bdy_shl {x n : Nat} {e : Int} {way : Nat} (hw : way = 0 ∨ way = 1 ∨ way = 2) : bdy (x * 2 ^ n) e way = bdy x (e + n) way := by
  by_cases h0 : x = 0
  · subst h0; rw [Nat.zero_mul]; unfold bdy; rw [if_pos rfl, if_pos rfl]
  have h1 : x * 2 ^ n ≠ 0 := Nat.mul_ne_zero h0 (by have := Nat.two_pow_pos n; omega)
  obtain ⟨K, hK⟩ : ∃ K : Nat, K = 1200 + (64 - e).toNat + n := ⟨_, rfl⟩
  have a := rwb_rounds (e := e) h1 (K := K) (by omega) (by omega) (way := way)
  have b := rwb_rounds (e := e + n) h0 (K := K) (by omega) (by omega) (way := way)
  have hv : x * 2 ^ n * 2 ^ (e + (K : Int)).toNat = x * 2 ^ (e + (n : Int) + (K : Int)).toNat := by
    rw [Nat.mul_assoc, ← Nat.pow_add, show n + (e + (K : Int)).toNat = (e + (n : Int) + (K : Int)).toNat by omega]
  have h2 := Rounds.mono hw a b (Nat.le_of_eq hv)
  have h3 := Rounds.mono hw b a (Nat.le_of_eq hv.symm)
  have h4 : rwb (x * 2 ^ n) e way = rwb x (e + n) way := Nat.le_antisymm h2 h3
  unfold bdy
  rw [if_neg h0, if_neg h1, h4]
theorem tf_shl {s : Bool} {x n : Nat} {e m : Int} (hm : 1 ≤ m ∧ m ≤ 3) : tfF s true (x * 2 ^ n) e m = tfF s true x (e + n) m := by
  rw [tf_bdy hm, tf_bdy hm, bdy_shl (wyN_ways s m)]
/-- a value cut finely, and the same cut less finely -/
theorem tf_coarse {s xf xc : Bool} {Qf Qc D : Nat} {E m : Int} (hm : 1 ≤ m ∧ m ≤ 3) (hq : Qc = Qf / 2 ^ D) (hx : xc = (xf && decide (Qf % 2 ^ D = 0))) (h : 64 ≤ bl Qc) : tfF s xf Qf E m = tfF s xc Qc (E + D) m := by
  subst hq
  cases xf
  · rw [Bool.false_and] at hx
    subst hx
    have hle : bl (Qf / 2 ^ D) ≤ bl Qf := by
      have := (bl_le (Qf / 2 ^ D) (bl Qf)).2 (Nat.lt_of_le_of_lt (Nat.div_le_self _ _) (lt_bl Qf))
      exact this
    rw [tf_sticky (by omega)]
    have e1 : (2 * Qf + 1) / 2 ^ (D + 1) = Qf / 2 ^ D := by rw [two_div (by omega), Nat.add_sub_cancel]
    have := tf_cut (s := s) (Z := 2 * Qf + 1) (n := D + 1) (E := E - 1) (m := m) (by rw [e1]; exact h) (fun h0 => by
      have h1 : 2 ∣ 2 ^ (D + 1) := ⟨2 ^ D, by rw [Nat.pow_succ, Nat.mul_comm]⟩
      have := Nat.dvd_trans h1 (Nat.dvd_of_mod_eq_zero h0)
      omega)
    rw [this, e1, show E - 1 + ((D + 1 : Nat) : Int) = E + D by omega]
  · rw [Bool.true_and] at hx
    subst hx
    by_cases h0 : Qf % 2 ^ D = 0
    · rw [decide_eq_true h0]
      have e1 : Qf = Qf / 2 ^ D * 2 ^ D := by
        have := Nat.div_add_mod Qf (2 ^ D)
        rw [h0, Nat.add_zero, Nat.mul_comm] at this
        exact this.symm
      conv => lhs; rw [e1]
      exact tf_shl hm
    · rw [decide_eq_false h0]
      exact tf_cut h h0
/-- a fraction cut, finely and less finely -/
theorem frac_fine {N y D : Nat} (hy : y ≠ 0) : N / y = N * 2 ^ D / y / 2 ^ D ∧ decide (N % y = 0) = (decide (N * 2 ^ D % y = 0) && decide (N * 2 ^ D / y % 2 ^ D = 0)) := by
  have hp : 0 < 2 ^ D := Nat.two_pow_pos D
  refine ⟨by rw [Nat.div_div_eq_div_mul, Nat.mul_div_mul_right _ _ hp], ?_⟩
  by_cases h : N % y = 0
  · obtain ⟨c, hc⟩ := Nat.dvd_of_mod_eq_zero h
    have e1 : N * 2 ^ D = y * (c * 2 ^ D) := by rw [hc, Nat.mul_assoc]
    rw [decide_eq_true h, e1, Nat.mul_mod_right, Nat.mul_div_cancel_left _ (Nat.pos_of_ne_zero hy), Nat.mul_mod_left]
    rfl
  · rw [decide_eq_false h]
    by_cases h1 : N * 2 ^ D % y = 0
    · by_cases h2 : N * 2 ^ D / y % 2 ^ D = 0
      · exfalso
        obtain ⟨c, hc⟩ := Nat.dvd_of_mod_eq_zero h1
        rw [hc, Nat.mul_div_cancel_left _ (Nat.pos_of_ne_zero hy)] at h2
        obtain ⟨d, hd⟩ := Nat.dvd_of_mod_eq_zero h2
        have e1 : N * 2 ^ D = y * d * 2 ^ D := by rw [hc, hd, Nat.mul_assoc, Nat.mul_comm d]
        have e2 : N = y * d := Nat.eq_of_mul_eq_mul_right hp e1
        exact h (by rw [e2, Nat.mul_mod_right])
      · rw [decide_eq_false h2, Bool.and_false]
    · rw [decide_eq_false h1, Bool.false_and]
end Go.Proofs.YtmhpicccfaklcaaGreatDoor

/- A quotient rounded: the program's digits and the document's come to the same float. -/
namespace Go.Proofs.YtmhpicccfaklcaaGreatDoor
set_option linter.unusedVariables false
set_option linter.unusedSimpArgs false
open Go.RowKit Go.Fl64
open Ie

theorem frac_mul {x y k j : Nat} (hy : y ≠ 0) : x * 2 ^ (k + j) / (y * 2 ^ j) = x * 2 ^ k / y ∧ decide (x * 2 ^ (k + j) % (y * 2 ^ j) = 0) = decide (x * 2 ^ k % y = 0) := by
  have hp : 0 < 2 ^ j := Nat.two_pow_pos j
  rw [Nat.pow_add, ← Nat.mul_assoc]
  refine ⟨Nat.mul_div_mul_right _ _ hp, ?_⟩
  rw [Nat.mul_mod_mul_right]
  refine decide_eq_decide.2 ?_
  constructor
  · intro h
    rcases Nat.mul_eq_zero.1 h with h | h
    · exact h
    · omega
  · intro h; rw [h, Nat.zero_mul]
theorem ratio_eq {s : Bool} {x y k : Nat} {ea eb P m : Int} (hm : 1 ≤ m ∧ m ≤ 3) (hy : y ≠ 0) (h1 : 64 ≤ bl (x * 2 ^ k / y)) (h2 : 64 ≤ bl (ovX x ea eb P / ovY y ea eb P)) :
    tfF s (decide (x * 2 ^ k % y = 0)) (x * 2 ^ k / y) (ea - eb - k) m = tfF s (decide (ovX x ea eb P % ovY y ea eb P = 0)) (ovX x ea eb P / ovY y ea eb P) (-P) m := by
  by_cases hc : (k : Int) ≤ ea - eb + P
  · obtain ⟨D, hD⟩ : ∃ D : Nat, ea - eb + P = (k : Int) + D := ⟨(ea - eb + P - k).toNat, by omega⟩
    have hX : ovX x ea eb P = x * 2 ^ k * 2 ^ D := by unfold ovX; rw [Nat.mul_assoc, ← Nat.pow_add, show (ea + P - min (ea + P) eb).toNat = k + D by omega]
    have hY : ovY y ea eb P = y := by unfold ovY; rw [show (eb - min (ea + P) eb).toNat = 0 by omega, Nat.pow_zero, Nat.mul_one]
    rw [hX, hY]
    have hf := frac_fine (N := x * 2 ^ k) (y := y) (D := D) hy
    have := tf_coarse (s := s) (E := -P) hm hf.1 hf.2 h1
    rw [this, show -P + (D : Int) = ea - eb - k by omega]
  · by_cases hn : 0 ≤ ea - eb + P
    · obtain ⟨n0, hn0⟩ : ∃ n0 : Nat, ea - eb + P = (n0 : Int) := ⟨(ea - eb + P).toNat, by omega⟩
      obtain ⟨D, hD⟩ : ∃ D : Nat, k = n0 + D := ⟨k - n0, by omega⟩
      have hX : ovX x ea eb P = x * 2 ^ n0 := by unfold ovX; rw [show (ea + P - min (ea + P) eb).toNat = n0 by omega]
      have hY : ovY y ea eb P = y := by unfold ovY; rw [show (eb - min (ea + P) eb).toNat = 0 by omega, Nat.pow_zero, Nat.mul_one]
      rw [hX, hY] at h2 ⊢
      have hN : x * 2 ^ k = x * 2 ^ n0 * 2 ^ D := by rw [hD, Nat.pow_add, Nat.mul_assoc]
      rw [hN] at h1 ⊢
      have hf := frac_fine (N := x * 2 ^ n0) (y := y) (D := D) hy
      have := tf_coarse (s := s) (E := ea - eb - k) hm hf.1 hf.2 h2
      rw [this, show ea - eb - (k : Int) + (D : Int) = -P by omega]
    · obtain ⟨j, hj⟩ : ∃ j : Nat, ea - eb + P = -(j : Int) := ⟨(-(ea - eb + P)).toNat, by omega⟩
      have hX : ovX x ea eb P = x := by unfold ovX; rw [show (ea + P - min (ea + P) eb).toNat = 0 by omega, Nat.pow_zero, Nat.mul_one]
      have hY : ovY y ea eb P = y * 2 ^ j := by unfold ovY; rw [show (eb - min (ea + P) eb).toNat = j by omega]
      rw [hX, hY] at h2 ⊢
      have hyj : y * 2 ^ j ≠ 0 := Nat.mul_ne_zero hy (by have := Nat.two_pow_pos j; omega)
      have hf := frac_fine (N := x) (y := y * 2 ^ j) (D := k + j) hyj
      have hg := frac_mul (x := x) (y := y) (k := k) (j := j) hy
      rw [hg.1, hg.2] at hf
      have := tf_coarse (s := s) (E := ea - eb - k) hm hf.1 hf.2 h2
      rw [this, show ea - eb - (k : Int) + ((k + j : Nat) : Int) = -P by omega]
/-- beyond all floats: what it is does not matter -/
theorem tf_big {s xe : Bool} {x y : Nat} {e f m : Int} (hm : 1 ≤ m ∧ m ≤ 3) (hx : 64 ≤ bl x ∨ (xe = true ∧ x ≠ 0)) (hy : y ≠ 0) (h1 : 1024 < (bl x : Int) + e) (h2 : 1024 < (bl y : Int) + f) : tfF s xe x e m = tfF s true y f m := by
  have key : ∀ z (g : Int), z ≠ 0 → 1024 < (bl z : Int) + g → tfF s true z g m = sig s (if wyN s m = 0 then 9218868437227405311 else 9218868437227405312) := fun z g hz hg => by rw [tf_bdy hm, bdy_big hz hg (wyN_ways s m)]
  rw [key y f hy h2]
  cases xe
  · have hb : 64 ≤ bl x := hx.resolve_right (fun h => by cases h.1)
    have hx0 : x ≠ 0 := fun e => by rw [e] at hb; simp [bl] at hb
    rw [tf_sticky hb]
    exact key _ _ (by omega) (by rw [bl_two hx0]; omega)
  · rcases hx with hb | ⟨-, hx0⟩
    · exact key x e (fun e => by rw [e] at hb; simp [bl] at hb) h1
    · exact key x e hx0 h1
/-- far below the least float -/
theorem tf_tiny {s xe : Bool} {x y : Nat} {e f m : Int} (hm : 1 ≤ m ∧ m ≤ 3) (hx : 64 ≤ bl x ∨ (xe = true ∧ x ≠ 0)) (hy : y ≠ 0) (h1 : (bl x : Int) + e < -1075) (h2 : (bl y : Int) + f < -1075) : tfF s xe x e m = tfF s true y f m := by
  have key : ∀ z (g : Int), z ≠ 0 → (bl z : Int) + g < -1075 → tfF s true z g m = sig s (if wyN s m = 2 then 1 else 0) := fun z g hz hg => by rw [tf_bdy hm, bdy_tiny hz hg (wyN_ways s m)]
  rw [key y f hy h2]
  cases xe
  · have hb : 64 ≤ bl x := hx.resolve_right (fun h => by cases h.1)
    have hx0 : x ≠ 0 := fun e => by rw [e] at hb; simp [bl] at hb
    rw [tf_sticky hb]
    exact key _ _ (by omega) (by rw [bl_two hx0]; omega)
  · rcases hx with hb | ⟨-, hx0⟩
    · exact key x e (fun e => by rw [e] at hb; simp [bl] at hb) h1
    · exact key x e hx0 h1
end Go.Proofs.YtmhpicccfaklcaaGreatDoor

/- A root rounded: the program's digits and the document's come to the same float. -/
namespace Go.Proofs.YtmhpicccfaklcaaGreatDoor
set_option linter.unusedVariables false
set_option linter.unusedSimpArgs false
open Go.RowKit Go.Fl64
open Ie

theorem four_two (D : Nat) : 2 ^ (2 * D) = 2 ^ D * 2 ^ D := by rw [← Nat.pow_add]; congr 1; omega
theorem root_coarse {N r D : Nat} (h1 : r * r ≤ N) (h2 : N < (r + 1) * (r + 1)) :
    (r / 2 ^ D * (r / 2 ^ D) ≤ N / 2 ^ (2 * D) ∧ N / 2 ^ (2 * D) < (r / 2 ^ D + 1) * (r / 2 ^ D + 1)) ∧ (decide (r / 2 ^ D * (r / 2 ^ D) = N / 2 ^ (2 * D)) && decide (N % 2 ^ (2 * D) = 0)) = (decide (r * r = N) && decide (r % 2 ^ D = 0)) := by
  have hp : 0 < 2 ^ D := Nat.two_pow_pos D
  have hM : 2 ^ (2 * D) = 2 ^ D * 2 ^ D := four_two D
  have hMp : 0 < 2 ^ (2 * D) := Nat.two_pow_pos _
  have hr := Nat.div_add_mod r (2 ^ D)
  have ht := Nat.mod_lt r hp
  obtain ⟨c, hc⟩ : ∃ c, c = r / 2 ^ D := ⟨_, rfl⟩
  obtain ⟨t, htt⟩ : ∃ t, t = r % 2 ^ D := ⟨_, rfl⟩
  obtain ⟨P, hP⟩ : ∃ P, P = 2 ^ D := ⟨_, rfl⟩
  rw [← hc, ← htt, ← hP] at hr
  rw [← htt, ← hP] at ht
  rw [← hc, ← htt, hM, ← hP]
  rw [← hP] at hp
  have e1 : c * c * (P * P) = (P * c) * (P * c) := by grind
  have hlo : c * c * (P * P) ≤ N := by
    rw [e1]
    exact Nat.le_trans (Nat.mul_le_mul (by omega) (by omega)) h1
  have hhi : N < (c + 1) * (c + 1) * (P * P) := by
    have e2 : (c + 1) * (c + 1) * (P * P) = (P * c + P) * (P * c + P) := by grind
    rw [e2]
    exact Nat.lt_of_lt_of_le h2 (Nat.mul_le_mul (by omega) (by omega))
  have hPP : 0 < P * P := Nat.mul_pos hp hp
  refine ⟨⟨(Nat.le_div_iff_mul_le hPP).2 hlo, (Nat.div_lt_iff_lt_mul hPP).2 hhi⟩, ?_⟩
  have hN := Nat.div_add_mod N (P * P)
  rw [Bool.eq_iff_iff]
  simp only [Bool.and_eq_true, decide_eq_true_eq]
  constructor
  · rintro ⟨a, b⟩
    rw [b, Nat.add_zero, ← a] at hN
    have hN2 : (P * c) * (P * c) = N := by rw [← e1, Nat.mul_comm]; exact hN
    have hrr : r = P * c := root_one h1 h2 (Nat.le_of_eq hN2) (by rw [← hN2]; exact Nat.mul_lt_mul'' (Nat.lt_succ_self _) (Nat.lt_succ_self _))
    exact ⟨by rw [hrr]; exact hN2, by omega⟩
  · rintro ⟨a, b⟩
    rw [b, Nat.add_zero] at hr
    have hN2 : N = c * c * (P * P) := by rw [e1, hr]; exact a.symm
    exact ⟨by rw [hN2, Nat.mul_div_cancel _ hPP], by rw [hN2, Nat.mul_mod_left]⟩
theorem sqrt_eq {x k q s : Nat} {ea P h2 m : Int} (hm : 1 ≤ m ∧ m ≤ 3) (hk : ea - k = 2 * h2) (a1 : q * q ≤ x * 2 ^ k) (a2 : x * 2 ^ k < (q + 1) * (q + 1)) (b1 : s * s ≤ rtQ x ea P) (b2 : rtQ x ea P < (s + 1) * (s + 1)) (hq : 64 ≤ bl q) (hs : 64 ≤ bl s) :
    tfF false (decide (q * q = x * 2 ^ k)) q h2 m = tfF false (decide (s * s = rtQ x ea P) && rtW x ea P) s (-P) m := by
  by_cases hc : 0 ≤ h2 + P
  · -- the document's is finer
    obtain ⟨D, hD⟩ : ∃ D : Nat, h2 + P = (D : Int) := ⟨(h2 + P).toNat, by omega⟩
    have hn : 0 ≤ ea + 2 * P := by omega
    have hQ : rtQ x ea P = x * 2 ^ k * 2 ^ (2 * D) := by
      unfold rtQ; rw [if_pos hn, Nat.mul_assoc, ← Nat.pow_add, show (ea + 2 * P).toNat = k + 2 * D by omega]
    have hW : rtW x ea P = true := by unfold rtW; rw [decide_eq_true hn]; rfl
    have rc := root_coarse (D := D) b1 b2
    have hp : 0 < 2 ^ (2 * D) := Nat.two_pow_pos _
    rw [hQ, Nat.mul_div_cancel _ hp, Nat.mul_mod_left] at rc
    have hqs : q = s / 2 ^ D := root_one a1 a2 rc.1.1 rc.1.2
    rw [hW, Bool.and_true, hQ]
    have hx : decide (q * q = x * 2 ^ k) = (decide (s * s = x * 2 ^ k * 2 ^ (2 * D)) && decide (s % 2 ^ D = 0)) := by
      rw [← rc.2, ← hqs]; simp
    have := tf_coarse (s := false) (E := -P) (D := D) hm hqs hx hq
    rw [this, show -P + (D : Int) = h2 by omega]
  · obtain ⟨D, hD⟩ : ∃ D : Nat, h2 + P = -(D : Int) := ⟨(-(h2 + P)).toNat, by omega⟩
    have rc := root_coarse (D := D) a1 a2
    have key : x * 2 ^ k / 2 ^ (2 * D) = rtQ x ea P ∧ decide (x * 2 ^ k % 2 ^ (2 * D) = 0) = rtW x ea P := by
      by_cases hn : 0 ≤ ea + 2 * P
      · obtain ⟨n, hn'⟩ : ∃ n : Nat, ea + 2 * P = (n : Int) := ⟨(ea + 2 * P).toNat, by omega⟩
        have e1 : x * 2 ^ k = x * 2 ^ n * 2 ^ (2 * D) := by rw [Nat.mul_assoc, ← Nat.pow_add, show n + 2 * D = k by omega]
        have hp : 0 < 2 ^ (2 * D) := Nat.two_pow_pos _
        constructor
        · rw [e1, Nat.mul_div_cancel _ hp]; unfold rtQ; rw [if_pos hn, hn', Int.toNat_natCast]
        · rw [e1, Nat.mul_mod_left]; unfold rtW; rw [decide_eq_true hn]; rfl
      · obtain ⟨j, hj⟩ : ∃ j : Nat, ea + 2 * P = -(j : Int) := ⟨(-(ea + 2 * P)).toNat, by omega⟩
        have hj2 : (-(ea + 2 * P)).toNat = j := by omega
        have e1 : 2 ^ (2 * D) = 2 ^ j * 2 ^ k := by rw [← Nat.pow_add, show j + k = 2 * D by omega]
        have hp : 0 < 2 ^ k := Nat.two_pow_pos _
        constructor
        · rw [e1, Nat.mul_div_mul_right _ _ hp]; unfold rtQ; rw [if_neg hn, hj2]
        · rw [e1, Nat.mul_mod_mul_right]; unfold rtW; rw [decide_eq_false hn, hj2, Bool.false_or]
          refine decide_eq_decide.2 ⟨fun h => ?_, fun h => by rw [h, Nat.zero_mul]⟩
          rcases Nat.mul_eq_zero.1 h with h | h
          · exact h
          · omega
    rw [key.1, key.2] at rc
    have hsq : s = q / 2 ^ D := root_one b1 b2 rc.1.1 rc.1.2
    have hx : (decide (s * s = rtQ x ea P) && rtW x ea P) = (decide (q * q = x * 2 ^ k) && decide (q % 2 ^ D = 0)) := by
      rw [← rc.2, ← hsq]
    have := tf_coarse (s := false) (E := h2) (D := D) hm hsq hx hs
    rw [this, show h2 + (D : Int) = -P by omega]
end Go.Proofs.YtmhpicccfaklcaaGreatDoor

/- The document's numbers between two cuts, rounded. -/
namespace Go.Proofs.YtmhpicccfaklcaaGreatDoor
set_option linter.unusedVariables false
set_option linter.unusedSimpArgs false
open Go.RowKit Go.Fl64
open Ie

/-- the document's rounding of a number in its canonical form -/
theorem rto_nc {W : World} {base : Nat} {A : Value} {s : Bool} {z : Nat} {e m : Int} (h : NC W base A s z e) (hz : z ≠ 0) (hl : dlen z ≤ 30000) (he1 : -2000000 ≤ e) (he2 : e ≤ 2000000) (hm : 1 ≤ m ∧ m ≤ 3) :
    Calls Tryz.prog 89 #[A, .int .i64 m] W fun r w' => r = .returned (.float .f64 (tfF s true z e m)) ∧ Below W.heap.size W w' := by
  obtain ⟨ao, cap, rfl, hA, -⟩ := h
  have hc : cn s z e = (s, z / 2 ^ tz z, e + tz z) := by unfold cn; rw [if_neg hz]
  rw [hc] at hA ⊢
  simp only at hA ⊢
  have hs := tz_spec z z (Nat.le_refl _) hz
  have htz : tz z < bl z := by
    have h3 : 2 ^ tz z ≤ z := by
      have h4 : 0 < z / 2 ^ tz z := Nat.pos_of_ne_zero fun e => by have := hs.2; rw [e] at this; omega
      exact Nat.le_trans (Nat.le_mul_of_pos_right _ h4) (Nat.le_of_eq hs.1)
    exact (Nat.pow_lt_pow_iff_right (by omega)).1 (Nat.lt_of_le_of_lt h3 (lt_bl z))
  have hbl := bl_le_dlen z
  have hdl : dlen (z / 2 ^ tz z) ≤ dlen z := dlen_mono (Nat.div_le_self _ _)
  have := rto (neg := s) (ea := e + tz z) (m := m) hA.at_ hA.le hs.2 (by omega) (by omega) (by omega) hm
  rw [← tf_bdy hm] at this
  have e1 : tfF s true (z / 2 ^ tz z) (e + tz z) m = tfF s true z e m := by
    rw [← tf_shl (x := z / 2 ^ tz z) (n := tz z) (e := e) hm, Nat.mul_comm, hs.1]
  rw [e1] at this
  exact this
theorem half_sum {s : Bool} {z : Nat} {P : Int} (hz : s = true → z ≠ 0) : sumN (cn s z (-P)).1 (cn s z (-P)).2.1 (cn s z (-P)).2.2 false 1 (-(P + 1)) = (if z = 0 then false else s, if s then 2 * z - 1 else 2 * z + 1, -(P + 1)) := by
  by_cases h0 : z = 0
  · have hs : s = false := by cases s with
      | false => rfl
      | true => exact absurd h0 (hz rfl)
    subst hs; subst h0
    unfold cn; rw [if_pos rfl]; unfold sumN; rw [if_pos rfl]; simp
  · have h2 := tz_spec z z (Nat.le_refl _) h0
    have e1 : cn s z (-P) = (s, z / 2 ^ tz z, -P + tz z) := by unfold cn; rw [if_neg h0]
    have h3 : z / 2 ^ tz z ≠ 0 := fun e => by have := h2.2; rw [e] at this; omega
    have hz2 : z / 2 ^ tz z * 2 ^ (tz z + 1) = 2 * z := by rw [Nat.pow_succ, ← Nat.mul_assoc, Nat.mul_comm (z / 2 ^ tz z), h2.1, Nat.mul_comm]
    rw [e1]
    unfold sumN
    simp only
    rw [if_neg h3, if_neg (by omega), show min (-P + (tz z : Int)) (-(P + 1)) = -(P + 1) by omega, show (-P + (tz z : Int) - -(P + 1)).toNat = tz z + 1 by omega, show (-(P + 1) - -(P + 1)).toNat = 0 by omega, Nat.pow_zero, Nat.mul_one, hz2, if_neg h0]
    cases s
    · rw [if_pos rfl, if_neg (by decide)]
    · rw [if_neg (by decide), if_neg (by omega), if_pos rfl]
/-- Between: the number cut, or what lies half a unit above it -/
theorem rbetween {W : World} {base : Nat} {A : Value} {s : Bool} {q : Nat} {P m : Int} {bx : Bool} (h : NC W base A s (if s && !bx then q + 1 else q) (-P)) (hq : bx = true → q ≠ 0) (hl : dlen q ≤ 20000) (hP1 : -100000 ≤ P) (hP2 : P ≤ 100000) (hm : 1 ≤ m ∧ m ≤ 3) :
    Calls Tryz.prog 142 #[A, .bool bx, .int .i64 P, .int .i64 m] W fun r w' => r = .returned (.float .f64 (if bx then tfF s true q (-P) m else tfF s true (2 * q + 1) (-(P + 1)) m)) ∧ Below W.heap.size W w' := by
  obtain ⟨s0, ao0, n0, cap0, e0, rfl⟩ := h.shape
  cases bx
  · rw [Bool.not_false, Bool.and_true] at h
    rw [if_neg (by decide)]
    have hzl : dlen (if s then q + 1 else q) ≤ 20001 := by
      split
      · exact Nat.le_trans (dlen_succ_le _) (by omega)
      · omega
    refine rbet_r s0 ao0 n0 cap0 _ e0 P m s (2 * q + 1) (-(P + 1)) W (by omega) (by omega) (fun g W' hW' hA1 => ?_) (fun W' A' hW' hN => ?_)
    · obtain ⟨ao, cap, e1, hA, -⟩ := h.later hW'
      rw [e1]
      obtain ⟨z, hz⟩ : ∃ z, z = if s then q + 1 else q := ⟨_, rfl⟩
      rw [← hz] at hA hzl ⊢
      have hcn : cn (cn s z (-P)).1 (cn s z (-P)).2.1 (cn s z (-P)).2.2 = (cn s z (-P)) := by
        by_cases h0 : z = 0
        · unfold cn; rw [if_pos h0, if_pos rfl]
        · have h2 := (tz_spec z z (Nat.le_refl _) h0).2
          have : cn s z (-P) = (s, z / 2 ^ tz z, -P + tz z) := by unfold cn; rw [if_neg h0]
          rw [this]
          exact cn_odd h2
      have hbnd : -2000000 ≤ (cn s z (-P)).2.2 ∧ (cn s z (-P)).2.2 ≤ 2000000 := by
        by_cases h0 : z = 0
        · unfold cn; rw [if_pos h0]; exact ⟨by decide, by decide⟩
        · have hs := tz_spec z z (Nat.le_refl _) h0
          have htz : tz z < bl z := by
            have h3 : 2 ^ tz z ≤ z := Nat.le_trans (Nat.le_mul_of_pos_right _ (Nat.pos_of_ne_zero fun e => by have := hs.2; rw [e] at this; omega)) (Nat.le_of_eq hs.1)
            exact (Nat.pow_lt_pow_iff_right (by omega)).1 (Nat.lt_of_le_of_lt h3 (lt_bl z))
          have hbl := bl_le_dlen z
          unfold cn; rw [if_neg h0]; exact ⟨by simp only; omega, by simp only; omega⟩
      have hone : Arg W' (some ⟨g, 0, none⟩) (dlen 1) 1 1 := ⟨fun h => by rw [dlen_one] at h; omega, by rw [dlen_one]; exact hA1, by rw [dlen_one]; exact Nat.le_refl _, by rw [dlen_one]; omega⟩
      have := rplusG (na := (cn s z (-P)).1) (nb := false) (ea := (cn s z (-P)).2.2) (eb := -(P + 1)) hA hone hcn (cn_odd rfl) hbnd.1 hbnd.2 (by omega) (by omega) (Nat.le_trans cn_dlen (by omega)) (by rw [dlen_one]; omega)
      have hzs : s = true → z ≠ 0 := fun e => by rw [hz, e, if_pos rfl]; omega
      rw [half_sum hzs, dlen_one] at this
      refine this.mono ?_
      rintro r w' ⟨a, rfl, hN, hb⟩
      refine ⟨a, rfl, ?_, hb⟩
      have e2 : (if s then 2 * z - 1 else 2 * z + 1) = 2 * q + 1 := by
        rw [hz]; cases s
        · rw [if_neg (by decide), if_neg (by decide)]
        · rw [if_pos rfl, if_pos rfl]; omega
      rw [e2] at hN
      by_cases h0 : z = 0
      · rw [if_pos h0] at hN
        have hs : s = false := by cases s with
          | false => rfl
          | true => exact absurd h0 (hzs rfl)
        rw [hs]; exact hN
      · rw [if_neg h0] at hN; exact hN
    · refine rto_nc hN (by omega) ?_ (by omega) (by omega) hm
      have h1 := dlen_add_le q q
      have h2 := dlen_succ_le (q + q)
      rw [show 2 * q + 1 = q + q + 1 by omega]
      omega
  · rw [Bool.not_true, Bool.and_false, if_neg (by decide)] at h
    rw [if_pos rfl]
    exact rbet_e s0 ao0 n0 cap0 _ e0 P m W (fun W' hW' => rto_nc (h.later hW') (hq rfl) (by omega) (by omega) (by omega) hm)
end Go.Proofs.YtmhpicccfaklcaaGreatDoor

/- The document's quotient, rounded: the program's float. -/
namespace Go.Proofs.YtmhpicccfaklcaaGreatDoor
set_option linter.unusedVariables false
set_option linter.unusedSimpArgs false
open Go.RowKit Go.Fl64
open Ie

theorem bl_shl' {x k : Nat} (h : x ≠ 0) : bl (x * 2 ^ k) = bl x + k := by
  have h1 := lt_bl x
  have h2 := le_bl h
  have hb := bl_ne h
  have a : bl (x * 2 ^ k) ≤ bl x + k := (bl_le _ _).2 (by rw [Nat.pow_add]; exact Nat.mul_lt_mul_of_pos_right h1 (Nat.two_pow_pos k))
  have b : bl x + k - 1 + 1 ≤ bl (x * 2 ^ k) := bl_ge.2 (by rw [show bl x + k - 1 = bl x - 1 + k by omega, Nat.pow_add]; exact Nat.mul_le_mul_right _ h2)
  omega
theorem bl_quo_lo {N y : Nat} (hy : y ≠ 0) : bl N ≤ bl (N / y) + bl y := by
  refine (bl_le _ _).2 ?_
  have h1 : N < y * (N / y + 1) := Nat.lt_mul_div_succ N (Nat.pos_of_ne_zero hy)
  have h2 := lt_bl (N / y)
  have h3 := lt_bl y
  rw [Nat.pow_add, Nat.mul_comm (2 ^ bl (N / y))]
  exact Nat.lt_of_lt_of_le h1 (Nat.mul_le_mul (Nat.le_of_lt h3) h2)
theorem bl_quo_hi {N y : Nat} (hy : y ≠ 0) (hq : N / y ≠ 0) : bl (N / y) + bl y ≤ bl N + 1 := by
  have h1 := le_bl hq
  have h2 := le_bl hy
  have b1 := bl_ne hq
  have b2 := bl_ne hy
  have h3 : 2 ^ (bl (N / y) - 1 + (bl y - 1)) ≤ N := by
    rw [Nat.pow_add]
    exact Nat.le_trans (Nat.mul_le_mul h1 h2) (Nat.div_mul_le_self N y)
  have h4 := Nat.lt_of_le_of_lt h3 (lt_bl N)
  have h5 := (Nat.pow_lt_pow_iff_right (by omega : 1 < 2)).1 h4
  omega
theorem bl_one : bl 1 = 1 := by rfl
theorem rto_one {W : World} {g : Nat} {s : Bool} {e m : Int} (h : At W (some ⟨g, 0, none⟩) 1 1) (he1 : -4000000 ≤ e) (he2 : e ≤ 4000000) (hm : 1 ≤ m ∧ m ≤ 3) :
    Calls Tryz.prog 89 #[.agg #[.bool s, .slice (some ⟨g, 0, none⟩) 1 1, .int .i64 e], .int .i64 m] W fun r w' => r = .returned (.float .f64 (tfF s true 1 e m)) ∧ Below W.heap.size W w' := by
  have := rto (neg := s) (uc := 1) (x := 1) (ea := e) (m := m) (by rw [dlen_one]; exact h) (by rw [dlen_one]; exact Nat.le_refl _) rfl (by rw [dlen_one]; omega) he1 he2 hm
  rw [← tf_bdy hm, dlen_one] at this
  exact this
theorem rratioto {na nb : Bool} {ua va : Option Addr} {uc vc x y k : Nat} {ea eb m : Int} {w : World} (h1 : Arg w ua (dlen x) uc x) (h2 : Arg w va (dlen y) vc y) (hx : dlen x ≤ 2048) (hy : dlen y ≤ 2048) (ha : -65536 ≤ ea ∧ ea ≤ 65536) (hb : -65536 ≤ eb ∧ eb ≤ 65536) (hx0 : x ≠ 0) (hy0 : y ≠ 0) (hm : 1 ≤ m ∧ m ≤ 3) (hk : max 0 (64 + (bl y : Int) - (bl x : Int)) = (k : Int)) :
    Calls Tryz.prog 92 #[.agg #[.bool na, .slice ua (dlen x) uc, .int .i64 ea], .agg #[.bool nb, .slice va (dlen y) vc, .int .i64 eb], .int .i64 m] w fun r w' => r = .returned (.float .f64 (tfF (na != nb) (decide (x * 2 ^ k % y = 0)) (x * 2 ^ k / y) (ea - eb - k) m)) ∧ Below w.heap.size w w' := by
  have bx := bl_le_dlen x
  have by' := bl_le_dlen y
  have bx1 := bl_ne hx0
  have by1 := bl_ne hy0
  have hN : bl (x * 2 ^ k) = bl x + k := bl_shl' hx0
  have q1 := bl_quo_lo (N := x * 2 ^ k) hy0
  have h64 : 64 ≤ bl (x * 2 ^ k / y) := by omega
  have hq0 : x * 2 ^ k / y ≠ 0 := fun e => by rw [e] at h64; simp [bl] at h64
  have q2 := bl_quo_hi hy0 hq0
  have hn0 : ((dlen x : Int) == 0) = false := len_ne (n := 0) hx0
  have kHa := fun W (hW : Below w.heap.size w W) => rhigh (neg := na) (cap := uc) (e := ea) (h1.later hW).at_ hx0 (by omega) ⟨by omega, by omega⟩
  have kHb := fun W (hW : Below w.heap.size w W) => rhigh (neg := nb) (cap := vc) (e := eb) (h2.later hW).at_ hy0 (by omega) ⟨by omega, by omega⟩
  obtain ⟨pl, hpl⟩ : ∃ pl : Int, min (max (60 - ((bl x : Int) + ea) + ((bl y : Int) + eb)) (-1100)) 1100 = pl := ⟨_, rfl⟩
  by_cases hb1 : 1100 < (bl x : Int) + ea - ((bl y : Int) + eb)
  · rw [tf_big (s := na != nb) (y := 1) (f := 1100) hm (.inl h64) (by omega) (by omega) (by rw [bl_one]; omega)]
    exact rratioto_b na nb ua va _ uc _ vc _ ea eb m _ _ pl (na != nb) w rfl hn0 (by omega) (by omega) (by omega) (by omega) hpl (by omega) (by omega) hb1 kHa kHb (fun g W hW hA => rto_one hA (by omega) (by omega) hm)
  · by_cases hb2 : (bl x : Int) + ea - ((bl y : Int) + eb) < -1200
    · rw [tf_tiny (s := na != nb) (y := 1) (f := -1200) hm (.inl h64) (by omega) (by omega) (by rw [bl_one]; omega)]
      exact rratioto_t na nb ua va _ uc _ vc _ ea eb m _ _ pl (na != nb) w rfl hn0 (by omega) (by omega) (by omega) (by omega) hpl (by omega) (by omega) hb2 kHa kHb (fun g W hW hA => rto_one hA (by omega) (by omega) hm)
    · have hP : -1100 ≤ pl ∧ pl ≤ 1100 := by omega
      obtain ⟨X, hX⟩ : ∃ X, ovX x ea eb (pl + 60) = X := ⟨_, rfl⟩
      obtain ⟨Y, hY⟩ : ∃ Y, ovY y ea eb (pl + 60) = Y := ⟨_, rfl⟩
      have bX : (bl X : Int) = bl x + (ea + (pl + 60) - min (ea + (pl + 60)) eb) := by rw [← hX]; unfold ovX; rw [bl_shl' hx0]; omega
      have bY : (bl Y : Int) = bl y + (eb - min (ea + (pl + 60)) eb) := by rw [← hY]; unfold ovY; rw [bl_shl' hy0]; omega
      have hX0 : X ≠ 0 := by rw [← hX]; unfold ovX; exact Nat.mul_ne_zero hx0 (Nat.pos_iff_ne_zero.1 (Nat.two_pow_pos _))
      have hY0 : Y ≠ 0 := by rw [← hY]; unfold ovY; exact Nat.mul_ne_zero hy0 (Nat.pos_iff_ne_zero.1 (Nat.two_pow_pos _))
      have r1 := bl_quo_lo (N := X) hY0
      have hzl : dlen (X / Y) ≤ 20000 := by
        refine Nat.le_trans (dlen_mono (Nat.div_le_self X Y)) ?_
        rw [← hX]; unfold ovX
        have := shl_len (x := x) (k := (ea + (pl + 60) - min (ea + (pl + 60)) eb).toNat) rfl
        omega
      have kO := fun W (hW : Below w.heap.size w W) => rover (na := na) (nb := nb) (ea := ea) (eb := eb) (place := pl + 60) (h1.later hW).at_ h1.le (h2.later hW).at_ h2.le hy0 (by omega) (by omega) ⟨by omega, by omega⟩ ⟨by omega, by omega⟩ ⟨by omega, by omega⟩ hX hY
      have hbq : decide (X % Y = 0) = true → X / Y ≠ 0 := fun h e => by
        have h' := of_decide_eq_true h
        have := Nat.div_add_mod X Y
        rw [e, h', Nat.mul_zero] at this
        exact hX0 this.symm
      have key : tfF (na != nb) (decide (x * 2 ^ k % y = 0)) (x * 2 ^ k / y) (ea - eb - k) m = if decide (X % Y = 0) then tfF (na != nb) true (X / Y) (-(pl + 60)) m else tfF (na != nb) true (2 * (X / Y) + 1) (-(pl + 60 + 1)) m := by
        by_cases hs : 64 ≤ bl (X / Y)
        · have re := ratio_eq (s := na != nb) (x := x) (y := y) (k := k) (ea := ea) (eb := eb) (P := pl + 60) hm hy0 h64 (by rw [hX, hY]; exact hs)
          rw [hX, hY] at re
          rw [re]
          cases decide (X % Y = 0)
          · rw [if_neg (by decide), tf_sticky hs, show -(pl + 60) - 1 = -(pl + 60 + 1) by omega]
          · rw [if_pos rfl]
        · have hd : (bl x : Int) + ea - ((bl y : Int) + eb) < -1096 := by omega
          cases hdc : decide (X % Y = 0)
          · rw [if_neg (by decide)]
            refine tf_tiny hm (.inl h64) (by omega) (by omega) ?_
            by_cases hz : X / Y = 0
            · rw [hz, Nat.mul_zero, Nat.zero_add, bl_one]; omega
            · have r2 := bl_quo_hi hY0 hz
              rw [bl_two hz]; omega
          · rw [if_pos rfl]
            have hz := hbq hdc
            have r2 := bl_quo_hi hY0 hz
            exact tf_tiny hm (.inl h64) hz (by omega) (by omega)
      rw [key]
      refine rratioto_m na nb ua va _ uc _ vc _ ea eb m _ _ pl (na != nb) _ (decide (X % Y = 0)) w hn0 (by omega) (by omega) (by omega) (by omega) hpl hP.1 hP.2 (by omega) (by omega) kHa kHb kO (fun W A hW hN => ?_)
      exact rbetween hN hbq hzl (by omega) (by omega) hm
end Go.Proofs.YtmhpicccfaklcaaGreatDoor
