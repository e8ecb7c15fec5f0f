/- Own work: contracts of the program's functions, part 12: RT5. -/
import Derived.Test.YtnalhfcpcpondaaGreatDoorA10
import Derived.Test.YtnalhfcpcpondaaGreatDoorA9
import Derived.Test.YtnalhfcpcpondaaGreatDoorA8

/- The document's rounding, walked. -/
namespace Go.Proofs.YtnalhfcpcpondaaGreatDoor
set_option linter.unusedVariables false
set_option linter.unusedSimpArgs false
open Go.RowKit Go.Fl64
open Ie

set_option maxHeartbeats 4000000 in
set_option maxRecDepth 200000 in
theorem rto_gen_2t_Zlxx0 (ua : Option Addr) (un uc F X : Nat) (ex : Bool) (ea e2 t : Int) (w : World) (hn0 : ((un : Int) == 0) = false) (ht : t ≤ 1024) (ht3 : -4000000 ≤ t) (he1 : -4000000 ≤ ea) (he2 : ea ≤ 4000000) (hmx : max (t - 53) (-1074) = e2) (h21 : -1074 ≤ e2) (h22 : e2 ≤ 971) (hge : ¬ e2 ≤ ea) (ht2 : -1075 ≤ t) (hX : X < 9007199254740992) (hne : ((X : Int) == 9007199254740992) = false) (kH : ∀ W, Below w.heap.size w W → Calls Tryz.prog 110 #[.agg #[.bool true, .slice ua un uc, .int .i64 ea]] W fun r w' => r = .returned (.int .i64 t) ∧ Below W.heap.size W w') (kD1 : ∀ W, Below w.heap.size w W → Calls Tryz.prog 121 #[.slice ua un uc, .int .i64 (e2 - ea)] W fun r w' => ∃ v bb, r = .returned (.tuple #[v, .bool bb]) ∧ Ir w' v X ∧ Below W.heap.size W w') (kD2 : ∀ W, Below w.heap.size w W → Calls Tryz.prog 121 #[.slice ua un uc, .int .i64 (e2 - ea - 1)] W fun r w' => ∃ ao cap', r = .returned (.tuple #[.slice ao 0 cap', .bool ex]) ∧ Below W.heap.size W w') (kB : ∀ W, Calls Tryz.prog 118 #[.bool true, .int .u64 X, .int .i64 e2] W fun r w' => r = .returned (.float .f64 F) ∧ w' = W) :
    Calls Tryz.prog 73 #[.agg #[.bool true, .slice ua un uc, .int .i64 ea], .int .i64 2] w fun r w' => r = .returned (.float .f64 F) ∧ Below w.heap.size w w' := by
  have htn : ¬ 1024 < t := by omega
  have ht2n : ¬ t < -1075 := by omega
  obtain ⟨W, hW⟩ : ∃ W, W = w.alloc (.cells #[.bool true, .slice ua un uc, .int .i64 ea] 57) := ⟨_, rfl⟩
  have hBW : Below w.heap.size w W := by rw [hW]; exact (Below.refl _ _).alloc (Nat.le_refl _) _
  have hA : W.heap[w.heap.size]? = some (.cells #[.bool true, .slice ua un uc, .int .i64 ea] 57 (0, 0)) := by rw [hW]; exact heap_alloc_new _ _
  have hsz : W.heap.size = w.heap.size + 1 := by rw [hW]; simp
  have HX : Hid (Below w.heap.size w W) := hBW
  have HK : Hid (∀ w', Below W.heap.size W w' → w'.cell? ⟨w.heap.size, 0, none⟩ = some (.bool true) ∧ w'.cell? ⟨w.heap.size, 1, none⟩ = some (.slice ua un uc) ∧ w'.cell? ⟨w.heap.size, 2, none⟩ = some (.int .i64 ea)) := fun w' hb => (box_cells29 (box_later hA hb (by omega))).1
  have k := kH W hBW
  have HKD1 : Hid (∀ w4, Below W.heap.size W w4 → Calls Tryz.prog 121 #[.slice ua un uc, .int .i64 (e2 - ea)] w4 fun r w' => ∃ v bb, r = .returned (.tuple #[v, .bool bb]) ∧ Ir w' v X ∧ Below w4.heap.size w4 w') := (fun w4 h4 => kD1 w4 (hBW.trans (h4.mono hBW.size)) : ∀ w4, Below W.heap.size W w4 → Calls Tryz.prog 121 #[.slice ua un uc, .int .i64 (e2 - ea)] w4 fun r w' => ∃ v bb, r = .returned (.tuple #[v, .bool bb]) ∧ Ir w' v X ∧ Below w4.heap.size w4 w')
  have HKD2 : Hid (∀ w4, Below W.heap.size W w4 → Calls Tryz.prog 121 #[.slice ua un uc, .int .i64 (e2 - ea - 1)] w4 fun r w' => ∃ ao cap', r = .returned (.tuple #[.slice ao 0 cap', .bool ex]) ∧ Below w4.heap.size w4 w') := (fun w4 h4 => kD2 w4 (hBW.trans (h4.mono hBW.size)) : ∀ w4, Below W.heap.size W w4 → Calls Tryz.prog 121 #[.slice ua un uc, .int .i64 (e2 - ea - 1)] w4 fun r w' => ∃ ao cap', r = .returned (.tuple #[.slice ao 0 cap', .bool ex]) ∧ Below w4.heap.size w4 w')
  clear kD1 kD2
  clear kH hA hsz hBW
  go_enter Tryz.func73, Tryz.ntmps73
  go_wp2_with fail
  rw [← hW]
  clear hW
  refine k.mono ?_
  rintro r w1 ⟨rfl, hb1⟩
  have HB1 : Hid (Below W.heap.size W w1) := hb1
  obtain ⟨a0, a1, a2⟩ := HK.out w1 hb1
  clear k hb1
  have kD1 := HKD1.out w1 HB1.out
  go_wp2_with fail
  refine kD1.mono ?_
  rintro r w2 ⟨v1, bb, rfl, hv, hb2⟩
  have HB2 : Hid (Below W.heap.size W w2) := HB1.out.trans (hb2.mono HB1.out.size)
  obtain ⟨a0, a1, a2⟩ := HK.out w2 HB2.out
  have kS := rsmall hv hX
  have kD2 := HKD2.out w2 HB2.out
  clear kD1 hv hb2 HKD1 HKD2
  go_wp2_with fail
  refine kS.mono ?_
  rintro r w3 ⟨rfl, rfl⟩
  clear kS
  go_wp2_with fail
  refine kD2.mono ?_
  rintro r w4 ⟨ao2, cap2, rfl, hb4⟩
  have HB4 : Hid (Below W.heap.size W w4) := HB2.out.trans (hb4.mono HB2.out.size)
  obtain ⟨a0, a1, a2⟩ := HK.out w4 HB4.out
  clear kD2 hb4
  go_wp2_with (first | (go_at_call 118; refine (kB _).mono ?_; rintro r w5 ⟨rfl, rfl⟩))
  go_ret
  exact ⟨rfl, HX.out.trans (HB4.out.mono HX.out.size)⟩
set_option maxHeartbeats 4000000 in
set_option maxRecDepth 200000 in
theorem rto_gen_2t_Plxx0 (ua : Option Addr) (un uc F X dd : Nat) (ex : Bool) (ea e2 t : Int) (w : World) (hn0 : ((un : Int) == 0) = false) (ht : t ≤ 1024) (ht3 : -4000000 ≤ t) (he1 : -4000000 ≤ ea) (he2 : ea ≤ 4000000) (hmx : max (t - 53) (-1074) = e2) (h21 : -1074 ≤ e2) (h22 : e2 ≤ 971) (hge : ¬ e2 ≤ ea) (ht2 : -1075 ≤ t) (hX : X < 9007199254740992) (hf : (bits BinOp.and IntKind.u32 (dd : Int) 1 == 1) = false) (hne : ((X : Int) == 9007199254740992) = false) (kH : ∀ W, Below w.heap.size w W → Calls Tryz.prog 110 #[.agg #[.bool true, .slice ua un uc, .int .i64 ea]] W fun r w' => r = .returned (.int .i64 t) ∧ Below W.heap.size W w') (kD1 : ∀ W, Below w.heap.size w W → Calls Tryz.prog 121 #[.slice ua un uc, .int .i64 (e2 - ea)] W fun r w' => ∃ v bb, r = .returned (.tuple #[v, .bool bb]) ∧ Ir w' v X ∧ Below W.heap.size W w') (kD2 : ∀ W, Below w.heap.size w W → Calls Tryz.prog 121 #[.slice ua un uc, .int .i64 (e2 - ea - 1)] W fun r w' => ∃ b o n2 cap', r = .returned (.tuple #[.slice (some ⟨b, o, none⟩) (n2 : Nat) cap', .bool ex]) ∧ (0 : Int) < (n2 : Int) ∧ n2 ≤ 1000000000 ∧ w'.cell? ⟨b, o, none⟩ = some (.int .u32 (dd : Nat)) ∧ Below W.heap.size W w') (kB : ∀ W, Calls Tryz.prog 118 #[.bool true, .int .u64 X, .int .i64 e2] W fun r w' => r = .returned (.float .f64 F) ∧ w' = W) :
    Calls Tryz.prog 73 #[.agg #[.bool true, .slice ua un uc, .int .i64 ea], .int .i64 2] w fun r w' => r = .returned (.float .f64 F) ∧ Below w.heap.size w w' := by
  have htn : ¬ 1024 < t := by omega
  have ht2n : ¬ t < -1075 := by omega
  obtain ⟨W, hW⟩ : ∃ W, W = w.alloc (.cells #[.bool true, .slice ua un uc, .int .i64 ea] 57) := ⟨_, rfl⟩
  have hBW : Below w.heap.size w W := by rw [hW]; exact (Below.refl _ _).alloc (Nat.le_refl _) _
  have hA : W.heap[w.heap.size]? = some (.cells #[.bool true, .slice ua un uc, .int .i64 ea] 57 (0, 0)) := by rw [hW]; exact heap_alloc_new _ _
  have hsz : W.heap.size = w.heap.size + 1 := by rw [hW]; simp
  have HX : Hid (Below w.heap.size w W) := hBW
  have HK : Hid (∀ w', Below W.heap.size W w' → w'.cell? ⟨w.heap.size, 0, none⟩ = some (.bool true) ∧ w'.cell? ⟨w.heap.size, 1, none⟩ = some (.slice ua un uc) ∧ w'.cell? ⟨w.heap.size, 2, none⟩ = some (.int .i64 ea)) := fun w' hb => (box_cells29 (box_later hA hb (by omega))).1
  have k := kH W hBW
  have HKD1 : Hid (∀ w4, Below W.heap.size W w4 → Calls Tryz.prog 121 #[.slice ua un uc, .int .i64 (e2 - ea)] w4 fun r w' => ∃ v bb, r = .returned (.tuple #[v, .bool bb]) ∧ Ir w' v X ∧ Below w4.heap.size w4 w') := (fun w4 h4 => kD1 w4 (hBW.trans (h4.mono hBW.size)) : ∀ w4, Below W.heap.size W w4 → Calls Tryz.prog 121 #[.slice ua un uc, .int .i64 (e2 - ea)] w4 fun r w' => ∃ v bb, r = .returned (.tuple #[v, .bool bb]) ∧ Ir w' v X ∧ Below w4.heap.size w4 w')
  have HKD2 : Hid (∀ w4, Below W.heap.size W w4 → Calls Tryz.prog 121 #[.slice ua un uc, .int .i64 (e2 - ea - 1)] w4 fun r w' => ∃ b o n2 cap', r = .returned (.tuple #[.slice (some ⟨b, o, none⟩) (n2 : Nat) cap', .bool ex]) ∧ (0 : Int) < (n2 : Int) ∧ n2 ≤ 1000000000 ∧ w'.cell? ⟨b, o, none⟩ = some (.int .u32 (dd : Nat)) ∧ Below w4.heap.size w4 w') := (fun w4 h4 => kD2 w4 (hBW.trans (h4.mono hBW.size)) : ∀ w4, Below W.heap.size W w4 → Calls Tryz.prog 121 #[.slice ua un uc, .int .i64 (e2 - ea - 1)] w4 fun r w' => ∃ b o n2 cap', r = .returned (.tuple #[.slice (some ⟨b, o, none⟩) (n2 : Nat) cap', .bool ex]) ∧ (0 : Int) < (n2 : Int) ∧ n2 ≤ 1000000000 ∧ w'.cell? ⟨b, o, none⟩ = some (.int .u32 (dd : Nat)) ∧ Below w4.heap.size w4 w')
  clear kD1 kD2
  clear kH hA hsz hBW
  go_enter Tryz.func73, Tryz.ntmps73
  go_wp2_with fail
  rw [← hW]
  clear hW
  refine k.mono ?_
  rintro r w1 ⟨rfl, hb1⟩
  have HB1 : Hid (Below W.heap.size W w1) := hb1
  obtain ⟨a0, a1, a2⟩ := HK.out w1 hb1
  clear k hb1
  have kD1 := HKD1.out w1 HB1.out
  go_wp2_with fail
  refine kD1.mono ?_
  rintro r w2 ⟨v1, bb, rfl, hv, hb2⟩
  have HB2 : Hid (Below W.heap.size W w2) := HB1.out.trans (hb2.mono HB1.out.size)
  obtain ⟨a0, a1, a2⟩ := HK.out w2 HB2.out
  have kS := rsmall hv hX
  have kD2 := HKD2.out w2 HB2.out
  clear kD1 hv hb2 HKD1 HKD2
  go_wp2_with fail
  refine kS.mono ?_
  rintro r w3 ⟨rfl, rfl⟩
  clear kS
  go_wp2_with fail
  refine kD2.mono ?_
  rintro r w4 ⟨b2, o2, n2, cap2, rfl, hn2, hn3, c0, hb4⟩
  have HB4 : Hid (Below W.heap.size W w4) := HB2.out.trans (hb4.mono HB2.out.size)
  obtain ⟨a0, a1, a2⟩ := HK.out w4 HB4.out
  clear kD2 hb4
  go_wp2_with (first | (go_at_call 118; refine (kB _).mono ?_; rintro r w5 ⟨rfl, rfl⟩))
  go_ret
  exact ⟨rfl, HX.out.trans (HB4.out.mono HX.out.size)⟩
set_option maxHeartbeats 4000000 in
set_option maxRecDepth 200000 in
theorem rto_gen_2t_Phnx1 (ua : Option Addr) (un uc F X dd : Nat) (ea e2 t : Int) (w : World) (hn0 : ((un : Int) == 0) = false) (ht : t ≤ 1024) (ht3 : -4000000 ≤ t) (he1 : -4000000 ≤ ea) (he2 : ea ≤ 4000000) (hmx : max (t - 53) (-1074) = e2) (h21 : -1074 ≤ e2) (h22 : e2 ≤ 971) (hge : ¬ e2 ≤ ea) (ht2 : -1075 ≤ t) (hX : X < 9007199254740992) (hf : (bits BinOp.and IntKind.u32 (dd : Int) 1 == 1) = true) (hne : ((X : Int) + 1 == 9007199254740992) = false) (kH : ∀ W, Below w.heap.size w W → Calls Tryz.prog 110 #[.agg #[.bool true, .slice ua un uc, .int .i64 ea]] W fun r w' => r = .returned (.int .i64 t) ∧ Below W.heap.size W w') (kD1 : ∀ W, Below w.heap.size w W → Calls Tryz.prog 121 #[.slice ua un uc, .int .i64 (e2 - ea)] W fun r w' => ∃ v bb, r = .returned (.tuple #[v, .bool bb]) ∧ Ir w' v X ∧ Below W.heap.size W w') (kD2 : ∀ W, Below w.heap.size w W → Calls Tryz.prog 121 #[.slice ua un uc, .int .i64 (e2 - ea - 1)] W fun r w' => ∃ b o n2 cap', r = .returned (.tuple #[.slice (some ⟨b, o, none⟩) (n2 : Nat) cap', .bool false]) ∧ (0 : Int) < (n2 : Int) ∧ n2 ≤ 1000000000 ∧ w'.cell? ⟨b, o, none⟩ = some (.int .u32 (dd : Nat)) ∧ Below W.heap.size W w') (kB : ∀ W, Calls Tryz.prog 118 #[.bool true, .int .u64 ((X : Int) + 1), .int .i64 e2] W fun r w' => r = .returned (.float .f64 F) ∧ w' = W) :
    Calls Tryz.prog 73 #[.agg #[.bool true, .slice ua un uc, .int .i64 ea], .int .i64 2] w fun r w' => r = .returned (.float .f64 F) ∧ Below w.heap.size w w' := by
  have htn : ¬ 1024 < t := by omega
  have ht2n : ¬ t < -1075 := by omega
  obtain ⟨W, hW⟩ : ∃ W, W = w.alloc (.cells #[.bool true, .slice ua un uc, .int .i64 ea] 57) := ⟨_, rfl⟩
  have hBW : Below w.heap.size w W := by rw [hW]; exact (Below.refl _ _).alloc (Nat.le_refl _) _
  have hA : W.heap[w.heap.size]? = some (.cells #[.bool true, .slice ua un uc, .int .i64 ea] 57 (0, 0)) := by rw [hW]; exact heap_alloc_new _ _
  have hsz : W.heap.size = w.heap.size + 1 := by rw [hW]; simp
  have HX : Hid (Below w.heap.size w W) := hBW
  have HK : Hid (∀ w', Below W.heap.size W w' → w'.cell? ⟨w.heap.size, 0, none⟩ = some (.bool true) ∧ w'.cell? ⟨w.heap.size, 1, none⟩ = some (.slice ua un uc) ∧ w'.cell? ⟨w.heap.size, 2, none⟩ = some (.int .i64 ea)) := fun w' hb => (box_cells29 (box_later hA hb (by omega))).1
  have k := kH W hBW
  have HKD1 : Hid (∀ w4, Below W.heap.size W w4 → Calls Tryz.prog 121 #[.slice ua un uc, .int .i64 (e2 - ea)] w4 fun r w' => ∃ v bb, r = .returned (.tuple #[v, .bool bb]) ∧ Ir w' v X ∧ Below w4.heap.size w4 w') := (fun w4 h4 => kD1 w4 (hBW.trans (h4.mono hBW.size)) : ∀ w4, Below W.heap.size W w4 → Calls Tryz.prog 121 #[.slice ua un uc, .int .i64 (e2 - ea)] w4 fun r w' => ∃ v bb, r = .returned (.tuple #[v, .bool bb]) ∧ Ir w' v X ∧ Below w4.heap.size w4 w')
  have HKD2 : Hid (∀ w4, Below W.heap.size W w4 → Calls Tryz.prog 121 #[.slice ua un uc, .int .i64 (e2 - ea - 1)] w4 fun r w' => ∃ b o n2 cap', r = .returned (.tuple #[.slice (some ⟨b, o, none⟩) (n2 : Nat) cap', .bool false]) ∧ (0 : Int) < (n2 : Int) ∧ n2 ≤ 1000000000 ∧ w'.cell? ⟨b, o, none⟩ = some (.int .u32 (dd : Nat)) ∧ Below w4.heap.size w4 w') := (fun w4 h4 => kD2 w4 (hBW.trans (h4.mono hBW.size)) : ∀ w4, Below W.heap.size W w4 → Calls Tryz.prog 121 #[.slice ua un uc, .int .i64 (e2 - ea - 1)] w4 fun r w' => ∃ b o n2 cap', r = .returned (.tuple #[.slice (some ⟨b, o, none⟩) (n2 : Nat) cap', .bool false]) ∧ (0 : Int) < (n2 : Int) ∧ n2 ≤ 1000000000 ∧ w'.cell? ⟨b, o, none⟩ = some (.int .u32 (dd : Nat)) ∧ Below w4.heap.size w4 w')
  clear kD1 kD2
  clear kH hA hsz hBW
  go_enter Tryz.func73, Tryz.ntmps73
  go_wp2_with fail
  rw [← hW]
  clear hW
  refine k.mono ?_
  rintro r w1 ⟨rfl, hb1⟩
  have HB1 : Hid (Below W.heap.size W w1) := hb1
  obtain ⟨a0, a1, a2⟩ := HK.out w1 hb1
  clear k hb1
  have kD1 := HKD1.out w1 HB1.out
  go_wp2_with fail
  refine kD1.mono ?_
  rintro r w2 ⟨v1, bb, rfl, hv, hb2⟩
  have HB2 : Hid (Below W.heap.size W w2) := HB1.out.trans (hb2.mono HB1.out.size)
  obtain ⟨a0, a1, a2⟩ := HK.out w2 HB2.out
  have kS := rsmall hv hX
  have kD2 := HKD2.out w2 HB2.out
  clear kD1 hv hb2 HKD1 HKD2
  go_wp2_with fail
  refine kS.mono ?_
  rintro r w3 ⟨rfl, rfl⟩
  clear kS
  go_wp2_with fail
  refine kD2.mono ?_
  rintro r w4 ⟨b2, o2, n2, cap2, rfl, hn2, hn3, c0, hb4⟩
  have HB4 : Hid (Below W.heap.size W w4) := HB2.out.trans (hb4.mono HB2.out.size)
  obtain ⟨a0, a1, a2⟩ := HK.out w4 HB4.out
  clear kD2 hb4
  go_wp2_with (first | (go_at_call 118; refine (kB _).mono ?_; rintro r w5 ⟨rfl, rfl⟩))
  go_ret
  exact ⟨rfl, HX.out.trans (HB4.out.mono HX.out.size)⟩
set_option maxHeartbeats 4000000 in
set_option maxRecDepth 200000 in
theorem rto_gen_2t_Phnx2 (ua : Option Addr) (un uc F dd : Nat) (ea e2 t : Int) (w : World) (hn0 : ((un : Int) == 0) = false) (ht : t ≤ 1024) (ht3 : -4000000 ≤ t) (he1 : -4000000 ≤ ea) (he2 : ea ≤ 4000000) (hmx : max (t - 53) (-1074) = e2) (h21 : -1074 ≤ e2) (h22 : e2 ≤ 971) (hge : ¬ e2 ≤ ea) (ht2 : -1075 ≤ t) (hf : (bits BinOp.and IntKind.u32 (dd : Int) 1 == 1) = true) (hnx : e2 + 1 ≤ 971) (kH : ∀ W, Below w.heap.size w W → Calls Tryz.prog 110 #[.agg #[.bool true, .slice ua un uc, .int .i64 ea]] W fun r w' => r = .returned (.int .i64 t) ∧ Below W.heap.size W w') (kD1 : ∀ W, Below w.heap.size w W → Calls Tryz.prog 121 #[.slice ua un uc, .int .i64 (e2 - ea)] W fun r w' => ∃ v bb, r = .returned (.tuple #[v, .bool bb]) ∧ Ir w' v 9007199254740991 ∧ Below W.heap.size W w') (kD2 : ∀ W, Below w.heap.size w W → Calls Tryz.prog 121 #[.slice ua un uc, .int .i64 (e2 - ea - 1)] W fun r w' => ∃ b o n2 cap', r = .returned (.tuple #[.slice (some ⟨b, o, none⟩) (n2 : Nat) cap', .bool false]) ∧ (0 : Int) < (n2 : Int) ∧ n2 ≤ 1000000000 ∧ w'.cell? ⟨b, o, none⟩ = some (.int .u32 (dd : Nat)) ∧ Below W.heap.size W w') (kB : ∀ W, Calls Tryz.prog 118 #[.bool true, .int .u64 4503599627370496, .int .i64 (e2 + 1)] W fun r w' => r = .returned (.float .f64 F) ∧ w' = W) :
    Calls Tryz.prog 73 #[.agg #[.bool true, .slice ua un uc, .int .i64 ea], .int .i64 2] w fun r w' => r = .returned (.float .f64 F) ∧ Below w.heap.size w w' := by
  have htn : ¬ 1024 < t := by omega
  have ht2n : ¬ t < -1075 := by omega
  obtain ⟨W, hW⟩ : ∃ W, W = w.alloc (.cells #[.bool true, .slice ua un uc, .int .i64 ea] 57) := ⟨_, rfl⟩
  have hBW : Below w.heap.size w W := by rw [hW]; exact (Below.refl _ _).alloc (Nat.le_refl _) _
  have hA : W.heap[w.heap.size]? = some (.cells #[.bool true, .slice ua un uc, .int .i64 ea] 57 (0, 0)) := by rw [hW]; exact heap_alloc_new _ _
  have hsz : W.heap.size = w.heap.size + 1 := by rw [hW]; simp
  have HX : Hid (Below w.heap.size w W) := hBW
  have HK : Hid (∀ w', Below W.heap.size W w' → w'.cell? ⟨w.heap.size, 0, none⟩ = some (.bool true) ∧ w'.cell? ⟨w.heap.size, 1, none⟩ = some (.slice ua un uc) ∧ w'.cell? ⟨w.heap.size, 2, none⟩ = some (.int .i64 ea)) := fun w' hb => (box_cells29 (box_later hA hb (by omega))).1
  have k := kH W hBW
  have HKD1 : Hid (∀ w4, Below W.heap.size W w4 → Calls Tryz.prog 121 #[.slice ua un uc, .int .i64 (e2 - ea)] w4 fun r w' => ∃ v bb, r = .returned (.tuple #[v, .bool bb]) ∧ Ir w' v 9007199254740991 ∧ Below w4.heap.size w4 w') := (fun w4 h4 => kD1 w4 (hBW.trans (h4.mono hBW.size)) : ∀ w4, Below W.heap.size W w4 → Calls Tryz.prog 121 #[.slice ua un uc, .int .i64 (e2 - ea)] w4 fun r w' => ∃ v bb, r = .returned (.tuple #[v, .bool bb]) ∧ Ir w' v 9007199254740991 ∧ Below w4.heap.size w4 w')
  have HKD2 : Hid (∀ w4, Below W.heap.size W w4 → Calls Tryz.prog 121 #[.slice ua un uc, .int .i64 (e2 - ea - 1)] w4 fun r w' => ∃ b o n2 cap', r = .returned (.tuple #[.slice (some ⟨b, o, none⟩) (n2 : Nat) cap', .bool false]) ∧ (0 : Int) < (n2 : Int) ∧ n2 ≤ 1000000000 ∧ w'.cell? ⟨b, o, none⟩ = some (.int .u32 (dd : Nat)) ∧ Below w4.heap.size w4 w') := (fun w4 h4 => kD2 w4 (hBW.trans (h4.mono hBW.size)) : ∀ w4, Below W.heap.size W w4 → Calls Tryz.prog 121 #[.slice ua un uc, .int .i64 (e2 - ea - 1)] w4 fun r w' => ∃ b o n2 cap', r = .returned (.tuple #[.slice (some ⟨b, o, none⟩) (n2 : Nat) cap', .bool false]) ∧ (0 : Int) < (n2 : Int) ∧ n2 ≤ 1000000000 ∧ w'.cell? ⟨b, o, none⟩ = some (.int .u32 (dd : Nat)) ∧ Below w4.heap.size w4 w')
  clear kD1 kD2
  clear kH hA hsz hBW
  go_enter Tryz.func73, Tryz.ntmps73
  go_wp2_with fail
  rw [← hW]
  clear hW
  refine k.mono ?_
  rintro r w1 ⟨rfl, hb1⟩
  have HB1 : Hid (Below W.heap.size W w1) := hb1
  obtain ⟨a0, a1, a2⟩ := HK.out w1 hb1
  clear k hb1
  have kD1 := HKD1.out w1 HB1.out
  go_wp2_with fail
  refine kD1.mono ?_
  rintro r w2 ⟨v1, bb, rfl, hv, hb2⟩
  have HB2 : Hid (Below W.heap.size W w2) := HB1.out.trans (hb2.mono HB1.out.size)
  obtain ⟨a0, a1, a2⟩ := HK.out w2 HB2.out
  have kS := rsmall hv (by omega)
  have kD2 := HKD2.out w2 HB2.out
  clear kD1 hv hb2 HKD1 HKD2
  go_wp2_with fail
  refine kS.mono ?_
  rintro r w3 ⟨rfl, rfl⟩
  clear kS
  go_wp2_with fail
  refine kD2.mono ?_
  rintro r w4 ⟨b2, o2, n2, cap2, rfl, hn2, hn3, c0, hb4⟩
  have HB4 : Hid (Below W.heap.size W w4) := HB2.out.trans (hb4.mono HB2.out.size)
  obtain ⟨a0, a1, a2⟩ := HK.out w4 HB4.out
  clear kD2 hb4
  go_wp2_with (first | (go_at_call 118; refine (kB _).mono ?_; rintro r w5 ⟨rfl, rfl⟩))
  go_ret
  exact ⟨rfl, HX.out.trans (HB4.out.mono HX.out.size)⟩
set_option maxHeartbeats 4000000 in
set_option maxRecDepth 200000 in
theorem rto_gen_2t_Phnx3 (ua : Option Addr) (un uc dd : Nat) (ea e2 t : Int) (w : World) (hn0 : ((un : Int) == 0) = false) (ht : t ≤ 1024) (ht3 : -4000000 ≤ t) (he1 : -4000000 ≤ ea) (he2 : ea ≤ 4000000) (hmx : max (t - 53) (-1074) = e2) (h21 : -1074 ≤ e2) (h22 : e2 ≤ 971) (hge : ¬ e2 ≤ ea) (ht2 : -1075 ≤ t) (hf : (bits BinOp.and IntKind.u32 (dd : Int) 1 == 1) = true) (hnx : e2 = 971) (kH : ∀ W, Below w.heap.size w W → Calls Tryz.prog 110 #[.agg #[.bool true, .slice ua un uc, .int .i64 ea]] W fun r w' => r = .returned (.int .i64 t) ∧ Below W.heap.size W w') (kD1 : ∀ W, Below w.heap.size w W → Calls Tryz.prog 121 #[.slice ua un uc, .int .i64 (e2 - ea)] W fun r w' => ∃ v bb, r = .returned (.tuple #[v, .bool bb]) ∧ Ir w' v 9007199254740991 ∧ Below W.heap.size W w') (kD2 : ∀ W, Below w.heap.size w W → Calls Tryz.prog 121 #[.slice ua un uc, .int .i64 (e2 - ea - 1)] W fun r w' => ∃ b o n2 cap', r = .returned (.tuple #[.slice (some ⟨b, o, none⟩) (n2 : Nat) cap', .bool false]) ∧ (0 : Int) < (n2 : Int) ∧ n2 ≤ 1000000000 ∧ w'.cell? ⟨b, o, none⟩ = some (.int .u32 (dd : Nat)) ∧ Below W.heap.size W w') :
    Calls Tryz.prog 73 #[.agg #[.bool true, .slice ua un uc, .int .i64 ea], .int .i64 2] w fun r w' => r = .returned (.float .f64 18442240474082181120) ∧ Below w.heap.size w w' := by
  subst hnx
  have htn : ¬ 1024 < t := by omega
  have ht2n : ¬ t < -1075 := by omega
  obtain ⟨W, hW⟩ : ∃ W, W = w.alloc (.cells #[.bool true, .slice ua un uc, .int .i64 ea] 57) := ⟨_, rfl⟩
  have hBW : Below w.heap.size w W := by rw [hW]; exact (Below.refl _ _).alloc (Nat.le_refl _) _
  have hA : W.heap[w.heap.size]? = some (.cells #[.bool true, .slice ua un uc, .int .i64 ea] 57 (0, 0)) := by rw [hW]; exact heap_alloc_new _ _
  have hsz : W.heap.size = w.heap.size + 1 := by rw [hW]; simp
  have HX : Hid (Below w.heap.size w W) := hBW
  have HK : Hid (∀ w', Below W.heap.size W w' → w'.cell? ⟨w.heap.size, 0, none⟩ = some (.bool true) ∧ w'.cell? ⟨w.heap.size, 1, none⟩ = some (.slice ua un uc) ∧ w'.cell? ⟨w.heap.size, 2, none⟩ = some (.int .i64 ea)) := fun w' hb => (box_cells29 (box_later hA hb (by omega))).1
  have k := kH W hBW
  have HKD1 : Hid (∀ w4, Below W.heap.size W w4 → Calls Tryz.prog 121 #[.slice ua un uc, .int .i64 (971 - ea)] w4 fun r w' => ∃ v bb, r = .returned (.tuple #[v, .bool bb]) ∧ Ir w' v 9007199254740991 ∧ Below w4.heap.size w4 w') := (fun w4 h4 => kD1 w4 (hBW.trans (h4.mono hBW.size)) : ∀ w4, Below W.heap.size W w4 → Calls Tryz.prog 121 #[.slice ua un uc, .int .i64 (971 - ea)] w4 fun r w' => ∃ v bb, r = .returned (.tuple #[v, .bool bb]) ∧ Ir w' v 9007199254740991 ∧ Below w4.heap.size w4 w')
  have HKD2 : Hid (∀ w4, Below W.heap.size W w4 → Calls Tryz.prog 121 #[.slice ua un uc, .int .i64 (971 - ea - 1)] w4 fun r w' => ∃ b o n2 cap', r = .returned (.tuple #[.slice (some ⟨b, o, none⟩) (n2 : Nat) cap', .bool false]) ∧ (0 : Int) < (n2 : Int) ∧ n2 ≤ 1000000000 ∧ w'.cell? ⟨b, o, none⟩ = some (.int .u32 (dd : Nat)) ∧ Below w4.heap.size w4 w') := (fun w4 h4 => kD2 w4 (hBW.trans (h4.mono hBW.size)) : ∀ w4, Below W.heap.size W w4 → Calls Tryz.prog 121 #[.slice ua un uc, .int .i64 (971 - ea - 1)] w4 fun r w' => ∃ b o n2 cap', r = .returned (.tuple #[.slice (some ⟨b, o, none⟩) (n2 : Nat) cap', .bool false]) ∧ (0 : Int) < (n2 : Int) ∧ n2 ≤ 1000000000 ∧ w'.cell? ⟨b, o, none⟩ = some (.int .u32 (dd : Nat)) ∧ Below w4.heap.size w4 w')
  clear kD1 kD2
  clear kH hA hsz hBW
  go_enter Tryz.func73, Tryz.ntmps73
  go_wp2_with fail
  rw [← hW]
  clear hW
  refine k.mono ?_
  rintro r w1 ⟨rfl, hb1⟩
  have HB1 : Hid (Below W.heap.size W w1) := hb1
  obtain ⟨a0, a1, a2⟩ := HK.out w1 hb1
  clear k hb1
  have kD1 := HKD1.out w1 HB1.out
  go_wp2_with fail
  refine kD1.mono ?_
  rintro r w2 ⟨v1, bb, rfl, hv, hb2⟩
  have HB2 : Hid (Below W.heap.size W w2) := HB1.out.trans (hb2.mono HB1.out.size)
  obtain ⟨a0, a1, a2⟩ := HK.out w2 HB2.out
  have kS := rsmall hv (by omega)
  have kD2 := HKD2.out w2 HB2.out
  clear kD1 hv hb2 HKD1 HKD2
  go_wp2_with fail
  refine kS.mono ?_
  rintro r w3 ⟨rfl, rfl⟩
  clear kS
  go_wp2_with fail
  refine kD2.mono ?_
  rintro r w4 ⟨b2, o2, n2, cap2, rfl, hn2, hn3, c0, hb4⟩
  have HB4 : Hid (Below W.heap.size W w4) := HB2.out.trans (hb4.mono HB2.out.size)
  obtain ⟨a0, a1, a2⟩ := HK.out w4 HB4.out
  clear kD2 hb4
  have kS : ∀ W, Calls Tryz.prog 117 #[.bool true] W fun r w' => r = .returned (.int .i64 1) ∧ w' = W := fun W => rsignb true W
  have kI := cinf_m
  go_wp2_with (first | (go_at_call 117; refine (kS _).mono ?_; rintro r w5 ⟨rfl, rfl⟩) | (go_at_call 46; refine (kI _).mono ?_; rintro r w5 ⟨rfl, rfl⟩))
  go_ret
  exact ⟨rfl, HX.out.trans (HB4.out.mono HX.out.size)⟩
set_option maxHeartbeats 4000000 in
set_option maxRecDepth 200000 in
theorem rto_gen_2t_Pheo1 (ua : Option Addr) (un uc F X dd : Nat) (ea e2 t : Int) (w : World) (hn0 : ((un : Int) == 0) = false) (ht : t ≤ 1024) (ht3 : -4000000 ≤ t) (he1 : -4000000 ≤ ea) (he2 : ea ≤ 4000000) (hmx : max (t - 53) (-1074) = e2) (h21 : -1074 ≤ e2) (h22 : e2 ≤ 971) (hge : ¬ e2 ≤ ea) (ht2 : -1075 ≤ t) (hX : X < 9007199254740992) (hf : (bits BinOp.and IntKind.u32 (dd : Int) 1 == 1) = true) (hod : (bits BinOp.and IntKind.u64 (X : Int) 1 == 1) = true) (hne : ((X : Int) + 1 == 9007199254740992) = false) (kH : ∀ W, Below w.heap.size w W → Calls Tryz.prog 110 #[.agg #[.bool true, .slice ua un uc, .int .i64 ea]] W fun r w' => r = .returned (.int .i64 t) ∧ Below W.heap.size W w') (kD1 : ∀ W, Below w.heap.size w W → Calls Tryz.prog 121 #[.slice ua un uc, .int .i64 (e2 - ea)] W fun r w' => ∃ v bb, r = .returned (.tuple #[v, .bool bb]) ∧ Ir w' v X ∧ Below W.heap.size W w') (kD2 : ∀ W, Below w.heap.size w W → Calls Tryz.prog 121 #[.slice ua un uc, .int .i64 (e2 - ea - 1)] W fun r w' => ∃ b o n2 cap', r = .returned (.tuple #[.slice (some ⟨b, o, none⟩) (n2 : Nat) cap', .bool true]) ∧ (0 : Int) < (n2 : Int) ∧ n2 ≤ 1000000000 ∧ w'.cell? ⟨b, o, none⟩ = some (.int .u32 (dd : Nat)) ∧ Below W.heap.size W w') (kB : ∀ W, Calls Tryz.prog 118 #[.bool true, .int .u64 ((X : Int) + 1), .int .i64 e2] W fun r w' => r = .returned (.float .f64 F) ∧ w' = W) :
    Calls Tryz.prog 73 #[.agg #[.bool true, .slice ua un uc, .int .i64 ea], .int .i64 2] w fun r w' => r = .returned (.float .f64 F) ∧ Below w.heap.size w w' := by
  have htn : ¬ 1024 < t := by omega
  have ht2n : ¬ t < -1075 := by omega
  obtain ⟨W, hW⟩ : ∃ W, W = w.alloc (.cells #[.bool true, .slice ua un uc, .int .i64 ea] 57) := ⟨_, rfl⟩
  have hBW : Below w.heap.size w W := by rw [hW]; exact (Below.refl _ _).alloc (Nat.le_refl _) _
  have hA : W.heap[w.heap.size]? = some (.cells #[.bool true, .slice ua un uc, .int .i64 ea] 57 (0, 0)) := by rw [hW]; exact heap_alloc_new _ _
  have hsz : W.heap.size = w.heap.size + 1 := by rw [hW]; simp
  have HX : Hid (Below w.heap.size w W) := hBW
  have HK : Hid (∀ w', Below W.heap.size W w' → w'.cell? ⟨w.heap.size, 0, none⟩ = some (.bool true) ∧ w'.cell? ⟨w.heap.size, 1, none⟩ = some (.slice ua un uc) ∧ w'.cell? ⟨w.heap.size, 2, none⟩ = some (.int .i64 ea)) := fun w' hb => (box_cells29 (box_later hA hb (by omega))).1
  have k := kH W hBW
  have HKD1 : Hid (∀ w4, Below W.heap.size W w4 → Calls Tryz.prog 121 #[.slice ua un uc, .int .i64 (e2 - ea)] w4 fun r w' => ∃ v bb, r = .returned (.tuple #[v, .bool bb]) ∧ Ir w' v X ∧ Below w4.heap.size w4 w') := (fun w4 h4 => kD1 w4 (hBW.trans (h4.mono hBW.size)) : ∀ w4, Below W.heap.size W w4 → Calls Tryz.prog 121 #[.slice ua un uc, .int .i64 (e2 - ea)] w4 fun r w' => ∃ v bb, r = .returned (.tuple #[v, .bool bb]) ∧ Ir w' v X ∧ Below w4.heap.size w4 w')
  have HKD2 : Hid (∀ w4, Below W.heap.size W w4 → Calls Tryz.prog 121 #[.slice ua un uc, .int .i64 (e2 - ea - 1)] w4 fun r w' => ∃ b o n2 cap', r = .returned (.tuple #[.slice (some ⟨b, o, none⟩) (n2 : Nat) cap', .bool true]) ∧ (0 : Int) < (n2 : Int) ∧ n2 ≤ 1000000000 ∧ w'.cell? ⟨b, o, none⟩ = some (.int .u32 (dd : Nat)) ∧ Below w4.heap.size w4 w') := (fun w4 h4 => kD2 w4 (hBW.trans (h4.mono hBW.size)) : ∀ w4, Below W.heap.size W w4 → Calls Tryz.prog 121 #[.slice ua un uc, .int .i64 (e2 - ea - 1)] w4 fun r w' => ∃ b o n2 cap', r = .returned (.tuple #[.slice (some ⟨b, o, none⟩) (n2 : Nat) cap', .bool true]) ∧ (0 : Int) < (n2 : Int) ∧ n2 ≤ 1000000000 ∧ w'.cell? ⟨b, o, none⟩ = some (.int .u32 (dd : Nat)) ∧ Below w4.heap.size w4 w')
  clear kD1 kD2
  clear kH hA hsz hBW
  go_enter Tryz.func73, Tryz.ntmps73
  go_wp2_with fail
  rw [← hW]
  clear hW
  refine k.mono ?_
  rintro r w1 ⟨rfl, hb1⟩
  have HB1 : Hid (Below W.heap.size W w1) := hb1
  obtain ⟨a0, a1, a2⟩ := HK.out w1 hb1
  clear k hb1
  have kD1 := HKD1.out w1 HB1.out
  go_wp2_with fail
  refine kD1.mono ?_
  rintro r w2 ⟨v1, bb, rfl, hv, hb2⟩
  have HB2 : Hid (Below W.heap.size W w2) := HB1.out.trans (hb2.mono HB1.out.size)
  obtain ⟨a0, a1, a2⟩ := HK.out w2 HB2.out
  have kS := rsmall hv hX
  have kD2 := HKD2.out w2 HB2.out
  clear kD1 hv hb2 HKD1 HKD2
  go_wp2_with fail
  refine kS.mono ?_
  rintro r w3 ⟨rfl, rfl⟩
  clear kS
  go_wp2_with fail
  refine kD2.mono ?_
  rintro r w4 ⟨b2, o2, n2, cap2, rfl, hn2, hn3, c0, hb4⟩
  have HB4 : Hid (Below W.heap.size W w4) := HB2.out.trans (hb4.mono HB2.out.size)
  obtain ⟨a0, a1, a2⟩ := HK.out w4 HB4.out
  clear kD2 hb4
  go_wp2_with (first | (go_at_call 118; refine (kB _).mono ?_; rintro r w5 ⟨rfl, rfl⟩))
  go_ret
  exact ⟨rfl, HX.out.trans (HB4.out.mono HX.out.size)⟩
set_option maxHeartbeats 4000000 in
set_option maxRecDepth 200000 in
theorem rto_gen_2t_Pheo2 (ua : Option Addr) (un uc F dd : Nat) (ea e2 t : Int) (w : World) (hn0 : ((un : Int) == 0) = false) (ht : t ≤ 1024) (ht3 : -4000000 ≤ t) (he1 : -4000000 ≤ ea) (he2 : ea ≤ 4000000) (hmx : max (t - 53) (-1074) = e2) (h21 : -1074 ≤ e2) (h22 : e2 ≤ 971) (hge : ¬ e2 ≤ ea) (ht2 : -1075 ≤ t) (hf : (bits BinOp.and IntKind.u32 (dd : Int) 1 == 1) = true) (hnx : e2 + 1 ≤ 971) (kH : ∀ W, Below w.heap.size w W → Calls Tryz.prog 110 #[.agg #[.bool true, .slice ua un uc, .int .i64 ea]] W fun r w' => r = .returned (.int .i64 t) ∧ Below W.heap.size W w') (kD1 : ∀ W, Below w.heap.size w W → Calls Tryz.prog 121 #[.slice ua un uc, .int .i64 (e2 - ea)] W fun r w' => ∃ v bb, r = .returned (.tuple #[v, .bool bb]) ∧ Ir w' v 9007199254740991 ∧ Below W.heap.size W w') (kD2 : ∀ W, Below w.heap.size w W → Calls Tryz.prog 121 #[.slice ua un uc, .int .i64 (e2 - ea - 1)] W fun r w' => ∃ b o n2 cap', r = .returned (.tuple #[.slice (some ⟨b, o, none⟩) (n2 : Nat) cap', .bool true]) ∧ (0 : Int) < (n2 : Int) ∧ n2 ≤ 1000000000 ∧ w'.cell? ⟨b, o, none⟩ = some (.int .u32 (dd : Nat)) ∧ Below W.heap.size W w') (kB : ∀ W, Calls Tryz.prog 118 #[.bool true, .int .u64 4503599627370496, .int .i64 (e2 + 1)] W fun r w' => r = .returned (.float .f64 F) ∧ w' = W) :
    Calls Tryz.prog 73 #[.agg #[.bool true, .slice ua un uc, .int .i64 ea], .int .i64 2] w fun r w' => r = .returned (.float .f64 F) ∧ Below w.heap.size w w' := by
  have htn : ¬ 1024 < t := by omega
  have ht2n : ¬ t < -1075 := by omega
  obtain ⟨W, hW⟩ : ∃ W, W = w.alloc (.cells #[.bool true, .slice ua un uc, .int .i64 ea] 57) := ⟨_, rfl⟩
  have hBW : Below w.heap.size w W := by rw [hW]; exact (Below.refl _ _).alloc (Nat.le_refl _) _
  have hA : W.heap[w.heap.size]? = some (.cells #[.bool true, .slice ua un uc, .int .i64 ea] 57 (0, 0)) := by rw [hW]; exact heap_alloc_new _ _
  have hsz : W.heap.size = w.heap.size + 1 := by rw [hW]; simp
  have HX : Hid (Below w.heap.size w W) := hBW
  have HK : Hid (∀ w', Below W.heap.size W w' → w'.cell? ⟨w.heap.size, 0, none⟩ = some (.bool true) ∧ w'.cell? ⟨w.heap.size, 1, none⟩ = some (.slice ua un uc) ∧ w'.cell? ⟨w.heap.size, 2, none⟩ = some (.int .i64 ea)) := fun w' hb => (box_cells29 (box_later hA hb (by omega))).1
  have k := kH W hBW
  have HKD1 : Hid (∀ w4, Below W.heap.size W w4 → Calls Tryz.prog 121 #[.slice ua un uc, .int .i64 (e2 - ea)] w4 fun r w' => ∃ v bb, r = .returned (.tuple #[v, .bool bb]) ∧ Ir w' v 9007199254740991 ∧ Below w4.heap.size w4 w') := (fun w4 h4 => kD1 w4 (hBW.trans (h4.mono hBW.size)) : ∀ w4, Below W.heap.size W w4 → Calls Tryz.prog 121 #[.slice ua un uc, .int .i64 (e2 - ea)] w4 fun r w' => ∃ v bb, r = .returned (.tuple #[v, .bool bb]) ∧ Ir w' v 9007199254740991 ∧ Below w4.heap.size w4 w')
  have HKD2 : Hid (∀ w4, Below W.heap.size W w4 → Calls Tryz.prog 121 #[.slice ua un uc, .int .i64 (e2 - ea - 1)] w4 fun r w' => ∃ b o n2 cap', r = .returned (.tuple #[.slice (some ⟨b, o, none⟩) (n2 : Nat) cap', .bool true]) ∧ (0 : Int) < (n2 : Int) ∧ n2 ≤ 1000000000 ∧ w'.cell? ⟨b, o, none⟩ = some (.int .u32 (dd : Nat)) ∧ Below w4.heap.size w4 w') := (fun w4 h4 => kD2 w4 (hBW.trans (h4.mono hBW.size)) : ∀ w4, Below W.heap.size W w4 → Calls Tryz.prog 121 #[.slice ua un uc, .int .i64 (e2 - ea - 1)] w4 fun r w' => ∃ b o n2 cap', r = .returned (.tuple #[.slice (some ⟨b, o, none⟩) (n2 : Nat) cap', .bool true]) ∧ (0 : Int) < (n2 : Int) ∧ n2 ≤ 1000000000 ∧ w'.cell? ⟨b, o, none⟩ = some (.int .u32 (dd : Nat)) ∧ Below w4.heap.size w4 w')
  clear kD1 kD2
  clear kH hA hsz hBW
  go_enter Tryz.func73, Tryz.ntmps73
  go_wp2_with fail
  rw [← hW]
  clear hW
  refine k.mono ?_
  rintro r w1 ⟨rfl, hb1⟩
  have HB1 : Hid (Below W.heap.size W w1) := hb1
  obtain ⟨a0, a1, a2⟩ := HK.out w1 hb1
  clear k hb1
  have kD1 := HKD1.out w1 HB1.out
  go_wp2_with fail
  refine kD1.mono ?_
  rintro r w2 ⟨v1, bb, rfl, hv, hb2⟩
  have HB2 : Hid (Below W.heap.size W w2) := HB1.out.trans (hb2.mono HB1.out.size)
  obtain ⟨a0, a1, a2⟩ := HK.out w2 HB2.out
  have kS := rsmall hv (by omega)
  have kD2 := HKD2.out w2 HB2.out
  clear kD1 hv hb2 HKD1 HKD2
  go_wp2_with fail
  refine kS.mono ?_
  rintro r w3 ⟨rfl, rfl⟩
  clear kS
  go_wp2_with fail
  refine kD2.mono ?_
  rintro r w4 ⟨b2, o2, n2, cap2, rfl, hn2, hn3, c0, hb4⟩
  have HB4 : Hid (Below W.heap.size W w4) := HB2.out.trans (hb4.mono HB2.out.size)
  obtain ⟨a0, a1, a2⟩ := HK.out w4 HB4.out
  clear kD2 hb4
  go_wp2_with (first | (go_at_call 118; refine (kB _).mono ?_; rintro r w5 ⟨rfl, rfl⟩))
  go_ret
  exact ⟨rfl, HX.out.trans (HB4.out.mono HX.out.size)⟩
set_option maxHeartbeats 4000000 in
set_option maxRecDepth 200000 in
theorem rto_gen_2t_Pheo3 (ua : Option Addr) (un uc dd : Nat) (ea e2 t : Int) (w : World) (hn0 : ((un : Int) == 0) = false) (ht : t ≤ 1024) (ht3 : -4000000 ≤ t) (he1 : -4000000 ≤ ea) (he2 : ea ≤ 4000000) (hmx : max (t - 53) (-1074) = e2) (h21 : -1074 ≤ e2) (h22 : e2 ≤ 971) (hge : ¬ e2 ≤ ea) (ht2 : -1075 ≤ t) (hf : (bits BinOp.and IntKind.u32 (dd : Int) 1 == 1) = true) (hnx : e2 = 971) (kH : ∀ W, Below w.heap.size w W → Calls Tryz.prog 110 #[.agg #[.bool true, .slice ua un uc, .int .i64 ea]] W fun r w' => r = .returned (.int .i64 t) ∧ Below W.heap.size W w') (kD1 : ∀ W, Below w.heap.size w W → Calls Tryz.prog 121 #[.slice ua un uc, .int .i64 (e2 - ea)] W fun r w' => ∃ v bb, r = .returned (.tuple #[v, .bool bb]) ∧ Ir w' v 9007199254740991 ∧ Below W.heap.size W w') (kD2 : ∀ W, Below w.heap.size w W → Calls Tryz.prog 121 #[.slice ua un uc, .int .i64 (e2 - ea - 1)] W fun r w' => ∃ b o n2 cap', r = .returned (.tuple #[.slice (some ⟨b, o, none⟩) (n2 : Nat) cap', .bool true]) ∧ (0 : Int) < (n2 : Int) ∧ n2 ≤ 1000000000 ∧ w'.cell? ⟨b, o, none⟩ = some (.int .u32 (dd : Nat)) ∧ Below W.heap.size W w') :
    Calls Tryz.prog 73 #[.agg #[.bool true, .slice ua un uc, .int .i64 ea], .int .i64 2] w fun r w' => r = .returned (.float .f64 18442240474082181120) ∧ Below w.heap.size w w' := by
  subst hnx
  have htn : ¬ 1024 < t := by omega
  have ht2n : ¬ t < -1075 := by omega
  obtain ⟨W, hW⟩ : ∃ W, W = w.alloc (.cells #[.bool true, .slice ua un uc, .int .i64 ea] 57) := ⟨_, rfl⟩
  have hBW : Below w.heap.size w W := by rw [hW]; exact (Below.refl _ _).alloc (Nat.le_refl _) _
  have hA : W.heap[w.heap.size]? = some (.cells #[.bool true, .slice ua un uc, .int .i64 ea] 57 (0, 0)) := by rw [hW]; exact heap_alloc_new _ _
  have hsz : W.heap.size = w.heap.size + 1 := by rw [hW]; simp
  have HX : Hid (Below w.heap.size w W) := hBW
  have HK : Hid (∀ w', Below W.heap.size W w' → w'.cell? ⟨w.heap.size, 0, none⟩ = some (.bool true) ∧ w'.cell? ⟨w.heap.size, 1, none⟩ = some (.slice ua un uc) ∧ w'.cell? ⟨w.heap.size, 2, none⟩ = some (.int .i64 ea)) := fun w' hb => (box_cells29 (box_later hA hb (by omega))).1
  have k := kH W hBW
  have HKD1 : Hid (∀ w4, Below W.heap.size W w4 → Calls Tryz.prog 121 #[.slice ua un uc, .int .i64 (971 - ea)] w4 fun r w' => ∃ v bb, r = .returned (.tuple #[v, .bool bb]) ∧ Ir w' v 9007199254740991 ∧ Below w4.heap.size w4 w') := (fun w4 h4 => kD1 w4 (hBW.trans (h4.mono hBW.size)) : ∀ w4, Below W.heap.size W w4 → Calls Tryz.prog 121 #[.slice ua un uc, .int .i64 (971 - ea)] w4 fun r w' => ∃ v bb, r = .returned (.tuple #[v, .bool bb]) ∧ Ir w' v 9007199254740991 ∧ Below w4.heap.size w4 w')
  have HKD2 : Hid (∀ w4, Below W.heap.size W w4 → Calls Tryz.prog 121 #[.slice ua un uc, .int .i64 (971 - ea - 1)] w4 fun r w' => ∃ b o n2 cap', r = .returned (.tuple #[.slice (some ⟨b, o, none⟩) (n2 : Nat) cap', .bool true]) ∧ (0 : Int) < (n2 : Int) ∧ n2 ≤ 1000000000 ∧ w'.cell? ⟨b, o, none⟩ = some (.int .u32 (dd : Nat)) ∧ Below w4.heap.size w4 w') := (fun w4 h4 => kD2 w4 (hBW.trans (h4.mono hBW.size)) : ∀ w4, Below W.heap.size W w4 → Calls Tryz.prog 121 #[.slice ua un uc, .int .i64 (971 - ea - 1)] w4 fun r w' => ∃ b o n2 cap', r = .returned (.tuple #[.slice (some ⟨b, o, none⟩) (n2 : Nat) cap', .bool true]) ∧ (0 : Int) < (n2 : Int) ∧ n2 ≤ 1000000000 ∧ w'.cell? ⟨b, o, none⟩ = some (.int .u32 (dd : Nat)) ∧ Below w4.heap.size w4 w')
  clear kD1 kD2
  clear kH hA hsz hBW
  go_enter Tryz.func73, Tryz.ntmps73
  go_wp2_with fail
  rw [← hW]
  clear hW
  refine k.mono ?_
  rintro r w1 ⟨rfl, hb1⟩
  have HB1 : Hid (Below W.heap.size W w1) := hb1
  obtain ⟨a0, a1, a2⟩ := HK.out w1 hb1
  clear k hb1
  have kD1 := HKD1.out w1 HB1.out
  go_wp2_with fail
  refine kD1.mono ?_
  rintro r w2 ⟨v1, bb, rfl, hv, hb2⟩
  have HB2 : Hid (Below W.heap.size W w2) := HB1.out.trans (hb2.mono HB1.out.size)
  obtain ⟨a0, a1, a2⟩ := HK.out w2 HB2.out
  have kS := rsmall hv (by omega)
  have kD2 := HKD2.out w2 HB2.out
  clear kD1 hv hb2 HKD1 HKD2
  go_wp2_with fail
  refine kS.mono ?_
  rintro r w3 ⟨rfl, rfl⟩
  clear kS
  go_wp2_with fail
  refine kD2.mono ?_
  rintro r w4 ⟨b2, o2, n2, cap2, rfl, hn2, hn3, c0, hb4⟩
  have HB4 : Hid (Below W.heap.size W w4) := HB2.out.trans (hb4.mono HB2.out.size)
  obtain ⟨a0, a1, a2⟩ := HK.out w4 HB4.out
  clear kD2 hb4
  have kS : ∀ W, Calls Tryz.prog 117 #[.bool true] W fun r w' => r = .returned (.int .i64 1) ∧ w' = W := fun W => rsignb true W
  have kI := cinf_m
  go_wp2_with (first | (go_at_call 117; refine (kS _).mono ?_; rintro r w5 ⟨rfl, rfl⟩) | (go_at_call 46; refine (kI _).mono ?_; rintro r w5 ⟨rfl, rfl⟩))
  go_ret
  exact ⟨rfl, HX.out.trans (HB4.out.mono HX.out.size)⟩
set_option maxHeartbeats 4000000 in
set_option maxRecDepth 200000 in
theorem rto_gen_2t_Phev0 (ua : Option Addr) (un uc F X dd : Nat) (ea e2 t : Int) (w : World) (hn0 : ((un : Int) == 0) = false) (ht : t ≤ 1024) (ht3 : -4000000 ≤ t) (he1 : -4000000 ≤ ea) (he2 : ea ≤ 4000000) (hmx : max (t - 53) (-1074) = e2) (h21 : -1074 ≤ e2) (h22 : e2 ≤ 971) (hge : ¬ e2 ≤ ea) (ht2 : -1075 ≤ t) (hX : X < 9007199254740992) (hf : (bits BinOp.and IntKind.u32 (dd : Int) 1 == 1) = true) (hod : (bits BinOp.and IntKind.u64 (X : Int) 1 == 1) = false) (hne : ((X : Int) == 9007199254740992) = false) (kH : ∀ W, Below w.heap.size w W → Calls Tryz.prog 110 #[.agg #[.bool true, .slice ua un uc, .int .i64 ea]] W fun r w' => r = .returned (.int .i64 t) ∧ Below W.heap.size W w') (kD1 : ∀ W, Below w.heap.size w W → Calls Tryz.prog 121 #[.slice ua un uc, .int .i64 (e2 - ea)] W fun r w' => ∃ v bb, r = .returned (.tuple #[v, .bool bb]) ∧ Ir w' v X ∧ Below W.heap.size W w') (kD2 : ∀ W, Below w.heap.size w W → Calls Tryz.prog 121 #[.slice ua un uc, .int .i64 (e2 - ea - 1)] W fun r w' => ∃ b o n2 cap', r = .returned (.tuple #[.slice (some ⟨b, o, none⟩) (n2 : Nat) cap', .bool true]) ∧ (0 : Int) < (n2 : Int) ∧ n2 ≤ 1000000000 ∧ w'.cell? ⟨b, o, none⟩ = some (.int .u32 (dd : Nat)) ∧ Below W.heap.size W w') (kB : ∀ W, Calls Tryz.prog 118 #[.bool true, .int .u64 X, .int .i64 e2] W fun r w' => r = .returned (.float .f64 F) ∧ w' = W) :
    Calls Tryz.prog 73 #[.agg #[.bool true, .slice ua un uc, .int .i64 ea], .int .i64 2] w fun r w' => r = .returned (.float .f64 F) ∧ Below w.heap.size w w' := by
  have htn : ¬ 1024 < t := by omega
  have ht2n : ¬ t < -1075 := by omega
  obtain ⟨W, hW⟩ : ∃ W, W = w.alloc (.cells #[.bool true, .slice ua un uc, .int .i64 ea] 57) := ⟨_, rfl⟩
  have hBW : Below w.heap.size w W := by rw [hW]; exact (Below.refl _ _).alloc (Nat.le_refl _) _
  have hA : W.heap[w.heap.size]? = some (.cells #[.bool true, .slice ua un uc, .int .i64 ea] 57 (0, 0)) := by rw [hW]; exact heap_alloc_new _ _
  have hsz : W.heap.size = w.heap.size + 1 := by rw [hW]; simp
  have HX : Hid (Below w.heap.size w W) := hBW
  have HK : Hid (∀ w', Below W.heap.size W w' → w'.cell? ⟨w.heap.size, 0, none⟩ = some (.bool true) ∧ w'.cell? ⟨w.heap.size, 1, none⟩ = some (.slice ua un uc) ∧ w'.cell? ⟨w.heap.size, 2, none⟩ = some (.int .i64 ea)) := fun w' hb => (box_cells29 (box_later hA hb (by omega))).1
  have k := kH W hBW
  have HKD1 : Hid (∀ w4, Below W.heap.size W w4 → Calls Tryz.prog 121 #[.slice ua un uc, .int .i64 (e2 - ea)] w4 fun r w' => ∃ v bb, r = .returned (.tuple #[v, .bool bb]) ∧ Ir w' v X ∧ Below w4.heap.size w4 w') := (fun w4 h4 => kD1 w4 (hBW.trans (h4.mono hBW.size)) : ∀ w4, Below W.heap.size W w4 → Calls Tryz.prog 121 #[.slice ua un uc, .int .i64 (e2 - ea)] w4 fun r w' => ∃ v bb, r = .returned (.tuple #[v, .bool bb]) ∧ Ir w' v X ∧ Below w4.heap.size w4 w')
  have HKD2 : Hid (∀ w4, Below W.heap.size W w4 → Calls Tryz.prog 121 #[.slice ua un uc, .int .i64 (e2 - ea - 1)] w4 fun r w' => ∃ b o n2 cap', r = .returned (.tuple #[.slice (some ⟨b, o, none⟩) (n2 : Nat) cap', .bool true]) ∧ (0 : Int) < (n2 : Int) ∧ n2 ≤ 1000000000 ∧ w'.cell? ⟨b, o, none⟩ = some (.int .u32 (dd : Nat)) ∧ Below w4.heap.size w4 w') := (fun w4 h4 => kD2 w4 (hBW.trans (h4.mono hBW.size)) : ∀ w4, Below W.heap.size W w4 → Calls Tryz.prog 121 #[.slice ua un uc, .int .i64 (e2 - ea - 1)] w4 fun r w' => ∃ b o n2 cap', r = .returned (.tuple #[.slice (some ⟨b, o, none⟩) (n2 : Nat) cap', .bool true]) ∧ (0 : Int) < (n2 : Int) ∧ n2 ≤ 1000000000 ∧ w'.cell? ⟨b, o, none⟩ = some (.int .u32 (dd : Nat)) ∧ Below w4.heap.size w4 w')
  clear kD1 kD2
  clear kH hA hsz hBW
  go_enter Tryz.func73, Tryz.ntmps73
  go_wp2_with fail
  rw [← hW]
  clear hW
  refine k.mono ?_
  rintro r w1 ⟨rfl, hb1⟩
  have HB1 : Hid (Below W.heap.size W w1) := hb1
  obtain ⟨a0, a1, a2⟩ := HK.out w1 hb1
  clear k hb1
  have kD1 := HKD1.out w1 HB1.out
  go_wp2_with fail
  refine kD1.mono ?_
  rintro r w2 ⟨v1, bb, rfl, hv, hb2⟩
  have HB2 : Hid (Below W.heap.size W w2) := HB1.out.trans (hb2.mono HB1.out.size)
  obtain ⟨a0, a1, a2⟩ := HK.out w2 HB2.out
  have kS := rsmall hv hX
  have kD2 := HKD2.out w2 HB2.out
  clear kD1 hv hb2 HKD1 HKD2
  go_wp2_with fail
  refine kS.mono ?_
  rintro r w3 ⟨rfl, rfl⟩
  clear kS
  go_wp2_with fail
  refine kD2.mono ?_
  rintro r w4 ⟨b2, o2, n2, cap2, rfl, hn2, hn3, c0, hb4⟩
  have HB4 : Hid (Below W.heap.size W w4) := HB2.out.trans (hb4.mono HB2.out.size)
  obtain ⟨a0, a1, a2⟩ := HK.out w4 HB4.out
  clear kD2 hb4
  go_wp2_with (first | (go_at_call 118; refine (kB _).mono ?_; rintro r w5 ⟨rfl, rfl⟩))
  go_ret
  exact ⟨rfl, HX.out.trans (HB4.out.mono HX.out.size)⟩
end Go.Proofs.YtnalhfcpcpondaaGreatDoor
