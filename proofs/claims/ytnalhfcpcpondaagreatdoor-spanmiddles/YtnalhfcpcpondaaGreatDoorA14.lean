/- Own work: contracts of the program's functions, part 14: RT7 RY1 RY2 RY3 RY4 FM6 FM7 FM8 RY5 SA7 SA8 SA9 UA1 UA2 UA3 UA4 UA5 UA6 UA7 SB1 SB2 SB3. -/
import Derived.Test.YtnalhfcpcpondaaGreatDoorA11
import Derived.Test.YtnalhfcpcpondaaGreatDoorA12
import Derived.Test.YtnalhfcpcpondaaGreatDoorA13
import Derived.Test.YtnalhfcpcpondaaGreatDoorA9
import Derived.Test.YtnalhfcpcpondaaGreatDoorA10
import Derived.Test.YtnalhfcpcpondaaGreatDoorA7
import Derived.Test.YtnalhfcpcpondaaGreatDoorA8
import Derived.RangeFuncNested
import Derived.RangeFuncBound
import Derived.RangeFuncCalls
import Derived.RangeFuncLeaves
import Derived.Test.YtnalhfcpcpondaaGreatDoorA2
import Derived.Shelf.Abstract
import Derived.Shelf.RegionOpen
import Derived.WalkKit
import Derived.OwnWalkIn
import Derived.TacticsInMore
import Derived.LoopNIn
import Derived.LoopIn
import Derived.Test.YtnalhfcpcpondaaGreatDoorA4

/- The document's rounding, joined. -/
namespace Go.Proofs.YtnalhfcpcpondaaGreatDoor
set_option linter.unusedVariables false
set_option linter.unusedSimpArgs false
open Go.RowKit Go.Fl64
open Ie

theorem and1_32 {d X : Nat} (h : d = X % B) : (bits BinOp.and IntKind.u32 (d : Int) 1 == 1) = (X % 2 == 1) := by
  have hB : B = 4294967296 := rfl
  have h2 := u32_and_nat d 1 (by rw [h, hB]; omega) (by decide)
  rw [show ((1 : Nat) : Int) = 1 from rfl] at h2
  rw [h2, Nat.and_one_is_mod, h, show X % B % 2 = X % 2 by rw [hB]; omega]
  rcases Nat.mod_two_eq_zero_or_one X with h | h <;> rw [h] <;> rfl
theorem and1_64 {X : Nat} (h : X < 9007199254740992) : (bits BinOp.and IntKind.u64 (X : Int) 1 == 1) = (X % 2 == 1) := by
  have h2 := u64_and_nat X 1 (by omega) (by decide)
  rw [show ((1 : Nat) : Int) = 1 from rfl] at h2
  rw [h2, Nat.and_one_is_mod]
  rcases Nat.mod_two_eq_zero_or_one X with h | h <;> rw [h] <;> rfl
theorem neq53 {n : Nat} (h : n ≠ 9007199254740992) : ((n : Int) == 9007199254740992) = false := by
  have : ((n : Nat) : Int) ≠ 9007199254740992 := by omega
  simpa using this
theorem tE_max (x : Nat) (E : Int) : max ((bl x : Int) + E - 53) (-1074) = tE x E := by unfold tE; split <;> omega
/-- down's answer as it is asked for here -/
theorem kd1 {w : World} {ua : Option Addr} {uc x : Nat} (h : At w ua (dlen x) x) (hc : dlen x ≤ uc) (hl : dlen x ≤ 100000) {i : Int} {k : Nat} (hi : i = (k : Int)) (hk : k ≤ 10000000) :
    ∀ W, Below w.heap.size w W → Calls Tryz.prog 121 #[.slice ua (dlen x) uc, .int .i64 i] W fun r w' => ∃ v bb, r = .returned (.tuple #[v, .bool bb]) ∧ Ir w' v (x / 2 ^ k) ∧ Below W.heap.size W w' := by
  intro W hW
  subst hi
  refine (rdown (v := .slice ua (dlen x) uc) (⟨ua, uc, rfl, hc, h.later hW⟩ : Ir W _ x) k (by omega) (by omega)).mono ?_
  rintro r w' ⟨ao, cap', rfl, hA, hc', hB⟩
  exact ⟨_, _, rfl, ⟨ao, cap', rfl, hc', hA⟩, hB⟩
theorem kd2Z {w : World} {ua : Option Addr} {uc x : Nat} (h : At w ua (dlen x) x) (hc : dlen x ≤ uc) (hl : dlen x ≤ 100000) {i : Int} {k : Nat} (hi : i = (k : Int)) (hk : k ≤ 10000000) (hz : x / 2 ^ k = 0) :
    ∀ W, Below w.heap.size w W → Calls Tryz.prog 121 #[.slice ua (dlen x) uc, .int .i64 i] W fun r w' => ∃ ao cap', r = .returned (.tuple #[.slice ao 0 cap', .bool (decide (x % 2 ^ k = 0))]) ∧ Below W.heap.size W w' := by
  intro W hW
  subst hi
  refine (rdown (v := .slice ua (dlen x) uc) (⟨ua, uc, rfl, hc, h.later hW⟩ : Ir W _ x) k (by omega) (by omega)).mono ?_
  rintro r w' ⟨ao, cap', rfl, hA, hc', hB⟩
  rw [hz, dlen_zero]
  exact ⟨_, _, rfl, hB⟩
theorem kd2P {w : World} {ua : Option Addr} {uc x : Nat} (h : At w ua (dlen x) x) (hc : dlen x ≤ uc) (hl : dlen x ≤ 100000) {i : Int} {k : Nat} (hi : i = (k : Int)) (hk : k ≤ 10000000) (hz : x / 2 ^ k ≠ 0) {ex : Bool} (hex : decide (x % 2 ^ k = 0) = ex) :
    ∀ W, Below w.heap.size w W → Calls Tryz.prog 121 #[.slice ua (dlen x) uc, .int .i64 i] W fun r w' => ∃ b o n2 cap', r = .returned (.tuple #[.slice (some ⟨b, o, none⟩) (n2 : Nat) cap', .bool ex]) ∧ (0 : Int) < (n2 : Int) ∧ n2 ≤ 1000000000 ∧ w'.cell? ⟨b, o, none⟩ = some (.int .u32 (dg (x / 2 ^ k) 0 : Nat)) ∧ Below W.heap.size W w' := by
  intro W hW
  subst hi
  subst hex
  refine (rdown (v := .slice ua (dlen x) uc) (⟨ua, uc, rfl, hc, h.later hW⟩ : Ir W _ x) k (by omega) (by omega)).mono ?_
  rintro r w' ⟨ao, cap', rfl, ⟨b, o, hb, hcell⟩, hc', hB⟩
  have hp : 0 < dlen (x / 2 ^ k) := Nat.pos_of_ne_zero fun e => hz (dlen_eq_zero.1 e)
  obtain rfl := hb hp
  have hle : dlen (x / 2 ^ k) ≤ dlen x := dlen_mono (Nat.div_le_self _ _)
  have c0 := hcell 0 hp
  rw [Nat.add_zero] at c0
  exact ⟨b, o, _, cap', rfl, by omega, by omega, c0, hB⟩
set_option maxHeartbeats 1000000 in
theorem rto_1f {ua : Option Addr} {uc x : Nat} {ea : Int} {w : World} (h : At w ua (dlen x) x) (hc : dlen x ≤ uc) (hodd : x % 2 = 1) (hl : dlen x ≤ 100000) (he1 : -4000000 ≤ ea) (he2 : ea ≤ 4000000) :
    Calls Tryz.prog 73 #[.agg #[.bool false, .slice ua (dlen x) uc, .int .i64 ea], .int .i64 1] w fun r w' => r = .returned (.float .f64 (sig false (bdy x ea 0))) ∧ Below w.heap.size w w' := by
  have h0 : x ≠ 0 := by omega
  have hw : (0 : Nat) = 0 ∨ (0 : Nat) = 1 ∨ (0 : Nat) = 2 := by omega
  have hn0 : ((dlen x : Int) == 0) = false := len_ne (n := 0) h0
  have hbl : bl x ≤ 32 * dlen x := bl_le_dlen x
  have hb1 := bl_ne h0
  have kH : ∀ W, Below w.heap.size w W → Calls Tryz.prog 110 #[.agg #[.bool false, .slice ua (dlen x) uc, .int .i64 ea]] W fun r w' => r = .returned (.int .i64 ((bl x : Int) + ea)) ∧ Below W.heap.size W w' := fun W hW => rhigh (h.later hW) h0 (by omega) ⟨he1, he2⟩
  by_cases ht : 1024 < (bl x : Int) + ea
  · rw [bdy_big h0 ht hw]
    exact rto_big_1f _ _ _ _ _ _ _ hn0 ht kH (fun W => rbuild (M := 9007199254740991) (e := 971) (by omega) (by omega) (by omega) (.inr (by omega)))
  · have ht' : (bl x : Int) + ea ≤ 1024 := by omega
    have hmx := tE_max x ea
    obtain ⟨h21, h22⟩ := tE_bounds ht'
    by_cases hge : tE x ea ≤ ea
    · obtain ⟨hb, hlt, hg⟩ := bdy_up h0 ht' hge hw
      rw [hb]
      obtain ⟨k, hk⟩ : ∃ k : Nat, k = (ea - tE x ea).toNat := ⟨_, rfl⟩
      have hi : ea - tE x ea = (k : Int) := by omega
      rw [← hk] at hlt hg ⊢
      refine rto_up_1f (ua := ua) (un := dlen x) (uc := uc) (ea := ea) (e2 := tE x ea) (t := (bl x : Int) + ea) (w := w) (F := _) (hn0 := hn0) (ht := ht') (ht3 := by omega) (he1 := he1) (he2 := he2) (hmx := hmx) (h21 := h21) (h22 := h22) (hge := hge) (X := x * 2 ^ k) (hX := hlt) (kH := kH) (kU := fun W hW => ?_) (kB := fun W => rbuild hlt h21 h22 hg)
      rw [hi]
      exact rup ⟨ua, uc, rfl, hc, h.later hW⟩ k (by omega) (by omega)
    · have hlt : ea < tE x ea := by omega
      by_cases ht2 : (bl x : Int) + ea < -1075
      · rw [bdy_tiny h0 ht2 hw, if_neg (by decide)]
        exact rto_tiny_1f (ua := ua) (un := dlen x) (uc := uc) (ea := ea) (e2 := tE x ea) (t := (bl x : Int) + ea) (w := w) (F := _) (hn0 := hn0) (ht := ht') (ht3 := by omega) (he1 := he1) (he2 := he2) (hmx := hmx) (h21 := h21) (h22 := h22) (hge := hge) (ht2 := ht2) (kH := kH) (kB := fun W => rbuild_0 false 0 (-1074) W (by omega))
      · obtain ⟨k, hk⟩ : ∃ k : Nat, k = (tE x ea - ea).toNat := ⟨_, rfl⟩
        have hk1 : 1 ≤ k := by omega
        have hi : tE x ea - ea = (k : Int) := by omega
        have hi2 : tE x ea - ea - 1 = ((k - 1 : Nat) : Int) := by omega
        have hkb : k ≤ 10000000 := by unfold tE at hk; split at hk <;> omega
        obtain ⟨n, hn⟩ : ∃ n, n = if dnU x (tE x ea - ea).toNat 0 then x / 2 ^ (tE x ea - ea).toNat + 1 else x / 2 ^ (tE x ea - ea).toNat := ⟨_, rfl⟩
        obtain ⟨hn1, hn2, hb, hX⟩ := bdy_dn hodd ht' hlt hw hn
        rw [← hk] at hn hX
        rw [hb]
        have k1 := kd1 h hc hl hi hkb
        have hdd := and1_32 (d := dg (x / 2 ^ (k - 1)) 0) (X := x / 2 ^ (k - 1)) (dg_zero _)
        have hod := and1_64 hX
        have ht2' : -1075 ≤ (bl x : Int) + ea := by omega
        have hv : n = x / 2 ^ k := by rw [hn]; simp [dnU]
        by_cases hz : x / 2 ^ (k - 1) = 0
        · rw [hv] at hn1 hn2 ⊢
          exact rto_gen_1f_Zxxx0 (ua := ua) (un := dlen x) (uc := uc) (ea := ea) (e2 := tE x ea) (t := (bl x : Int) + ea) (w := w) (hn0 := hn0) (ht := ht') (ht3 := by omega) (he1 := he1) (he2 := he2) (hmx := hmx) (h21 := h21) (h22 := h22) (hge := hge) (ht2 := ht2') (kH := kH) (X := x / 2 ^ k) (F := _) (hX := hX) (hne := neq53 (by omega)) (kD1 := k1) (kD2 := kd2Z h hc hl hi2 (by omega) hz) (ex := decide (x % 2 ^ (k - 1) = 0)) (kB := fun W => rbuild hX h21 h22 hn2)
        · rw [hv] at hn1 hn2 ⊢
          exact rto_gen_1f_Pxxx0 (ua := ua) (un := dlen x) (uc := uc) (ea := ea) (e2 := tE x ea) (t := (bl x : Int) + ea) (w := w) (hn0 := hn0) (ht := ht') (ht3 := by omega) (he1 := he1) (he2 := he2) (hmx := hmx) (h21 := h21) (h22 := h22) (hge := hge) (ht2 := ht2') (kH := kH) (X := x / 2 ^ k) (F := _) (hX := hX) (hne := neq53 (by omega)) (kD1 := k1) (kD2 := kd2P h hc hl hi2 (by omega) hz rfl) (dd := dg (x / 2 ^ (k - 1)) 0) (ex := decide (x % 2 ^ (k - 1) = 0)) (kB := fun W => rbuild hX h21 h22 hn2)
set_option maxHeartbeats 1000000 in
theorem rto_1t {ua : Option Addr} {uc x : Nat} {ea : Int} {w : World} (h : At w ua (dlen x) x) (hc : dlen x ≤ uc) (hodd : x % 2 = 1) (hl : dlen x ≤ 100000) (he1 : -4000000 ≤ ea) (he2 : ea ≤ 4000000) :
    Calls Tryz.prog 73 #[.agg #[.bool true, .slice ua (dlen x) uc, .int .i64 ea], .int .i64 1] w fun r w' => r = .returned (.float .f64 (sig true (bdy x ea 2))) ∧ Below w.heap.size w w' := by
  have h0 : x ≠ 0 := by omega
  have hw : (2 : Nat) = 0 ∨ (2 : Nat) = 1 ∨ (2 : Nat) = 2 := by omega
  have hn0 : ((dlen x : Int) == 0) = false := len_ne (n := 0) h0
  have hbl : bl x ≤ 32 * dlen x := bl_le_dlen x
  have hb1 := bl_ne h0
  have kH : ∀ W, Below w.heap.size w W → Calls Tryz.prog 110 #[.agg #[.bool true, .slice ua (dlen x) uc, .int .i64 ea]] W fun r w' => r = .returned (.int .i64 ((bl x : Int) + ea)) ∧ Below W.heap.size W w' := fun W hW => rhigh (h.later hW) h0 (by omega) ⟨he1, he2⟩
  by_cases ht : 1024 < (bl x : Int) + ea
  · rw [bdy_big h0 ht hw]
    exact rto_big_1t _ _ _ _ _ _ hn0 ht kH
  · have ht' : (bl x : Int) + ea ≤ 1024 := by omega
    have hmx := tE_max x ea
    obtain ⟨h21, h22⟩ := tE_bounds ht'
    by_cases hge : tE x ea ≤ ea
    · obtain ⟨hb, hlt, hg⟩ := bdy_up h0 ht' hge hw
      rw [hb]
      obtain ⟨k, hk⟩ : ∃ k : Nat, k = (ea - tE x ea).toNat := ⟨_, rfl⟩
      have hi : ea - tE x ea = (k : Int) := by omega
      rw [← hk] at hlt hg ⊢
      refine rto_up_1t (ua := ua) (un := dlen x) (uc := uc) (ea := ea) (e2 := tE x ea) (t := (bl x : Int) + ea) (w := w) (F := _) (hn0 := hn0) (ht := ht') (ht3 := by omega) (he1 := he1) (he2 := he2) (hmx := hmx) (h21 := h21) (h22 := h22) (hge := hge) (X := x * 2 ^ k) (hX := hlt) (kH := kH) (kU := fun W hW => ?_) (kB := fun W => rbuild hlt h21 h22 hg)
      rw [hi]
      exact rup ⟨ua, uc, rfl, hc, h.later hW⟩ k (by omega) (by omega)
    · have hlt : ea < tE x ea := by omega
      by_cases ht2 : (bl x : Int) + ea < -1075
      · rw [bdy_tiny h0 ht2 hw, if_pos rfl]
        exact rto_tiny_1t (ua := ua) (un := dlen x) (uc := uc) (ea := ea) (e2 := tE x ea) (t := (bl x : Int) + ea) (w := w) (F := _) (hn0 := hn0) (ht := ht') (ht3 := by omega) (he1 := he1) (he2 := he2) (hmx := hmx) (h21 := h21) (h22 := h22) (hge := hge) (ht2 := ht2) (kH := kH) (kB := fun W => rbuild_0 true 1 (-1074) W (by omega))
      · obtain ⟨k, hk⟩ : ∃ k : Nat, k = (tE x ea - ea).toNat := ⟨_, rfl⟩
        have hk1 : 1 ≤ k := by omega
        have hi : tE x ea - ea = (k : Int) := by omega
        have hi2 : tE x ea - ea - 1 = ((k - 1 : Nat) : Int) := by omega
        have hkb : k ≤ 10000000 := by unfold tE at hk; split at hk <;> omega
        obtain ⟨n, hn⟩ : ∃ n, n = if dnU x (tE x ea - ea).toNat 2 then x / 2 ^ (tE x ea - ea).toNat + 1 else x / 2 ^ (tE x ea - ea).toNat := ⟨_, rfl⟩
        obtain ⟨hn1, hn2, hb, hX⟩ := bdy_dn hodd ht' hlt hw hn
        rw [← hk] at hn hX
        rw [hb]
        have k1 := kd1 h hc hl hi hkb
        have hdd := and1_32 (d := dg (x / 2 ^ (k - 1)) 0) (X := x / 2 ^ (k - 1)) (dg_zero _)
        have hod := and1_64 hX
        have ht2' : -1075 ≤ (bl x : Int) + ea := by omega
        have hv : n = x / 2 ^ k + 1 := by rw [hn]; simp [dnU]
        by_cases hz : x / 2 ^ (k - 1) = 0
        · rw [hv] at hn1 hn2 ⊢
          by_cases h53 : x / 2 ^ k + 1 = 9007199254740992
          · have hXv : x / 2 ^ k = 9007199254740991 := by omega
            rw [hXv] at k1
            by_cases h9 : tE x ea = 971
            · rw [h53, show ((tE x ea + 1074).toNat * 4503599627370496 + 9007199254740992) = 9218868437227405312 by omega]
              exact rto_gen_1t_Zxxx3 (ua := ua) (un := dlen x) (uc := uc) (ea := ea) (e2 := tE x ea) (t := (bl x : Int) + ea) (w := w) (hn0 := hn0) (ht := ht') (ht3 := by omega) (he1 := he1) (he2 := he2) (hmx := hmx) (h21 := h21) (h22 := h22) (hge := hge) (ht2 := ht2') (kH := kH) (hnx := h9) (kD1 := k1) (kD2 := kd2Z h hc hl hi2 (by omega) hz) (ex := decide (x % 2 ^ (k - 1) = 0))
            · rw [h53, show ((tE x ea + 1074).toNat * 4503599627370496 + 9007199254740992) = (tE x ea + 1 + 1074).toNat * 4503599627370496 + 4503599627370496 by omega]
              exact rto_gen_1t_Zxxx2 (ua := ua) (un := dlen x) (uc := uc) (ea := ea) (e2 := tE x ea) (t := (bl x : Int) + ea) (w := w) (hn0 := hn0) (ht := ht') (ht3 := by omega) (he1 := he1) (he2 := he2) (hmx := hmx) (h21 := h21) (h22 := h22) (hge := hge) (ht2 := ht2') (kH := kH) (hnx := by omega) (kD1 := k1) (kD2 := kd2Z h hc hl hi2 (by omega) hz) (ex := decide (x % 2 ^ (k - 1) = 0)) (kB := fun W => rbuild (M := 4503599627370496) (e := tE x ea + 1) (by omega) (by omega) (by omega) (.inr (by omega))) (F := _)
          · have kB : ∀ W, Calls Tryz.prog 118 #[.bool true, .int .u64 (((x / 2 ^ k : Nat) : Int) + 1), .int .i64 (tE x ea)] W fun r w' => r = .returned (.float .f64 (sig true ((tE x ea + 1074).toNat * 4503599627370496 + (x / 2 ^ k + 1)))) ∧ w' = W := fun W => by
              rw [show (((x / 2 ^ k : Nat) : Int) + 1) = ((x / 2 ^ k + 1 : Nat) : Int) by omega]
              exact rbuild (by omega) h21 h22 hn2
            have hne : (((x / 2 ^ k : Nat) : Int) + 1 == 9007199254740992) = false := by
              rw [show (((x / 2 ^ k : Nat) : Int) + 1) = ((x / 2 ^ k + 1 : Nat) : Int) by omega]
              exact neq53 h53
            exact rto_gen_1t_Zxxx1 (ua := ua) (un := dlen x) (uc := uc) (ea := ea) (e2 := tE x ea) (t := (bl x : Int) + ea) (w := w) (hn0 := hn0) (ht := ht') (ht3 := by omega) (he1 := he1) (he2 := he2) (hmx := hmx) (h21 := h21) (h22 := h22) (hge := hge) (ht2 := ht2') (kH := kH) (X := x / 2 ^ k) (F := _) (hX := hX) (hne := hne) (kD1 := k1) (kD2 := kd2Z h hc hl hi2 (by omega) hz) (ex := decide (x % 2 ^ (k - 1) = 0)) (kB := kB)
        · rw [hv] at hn1 hn2 ⊢
          by_cases h53 : x / 2 ^ k + 1 = 9007199254740992
          · have hXv : x / 2 ^ k = 9007199254740991 := by omega
            rw [hXv] at k1
            by_cases h9 : tE x ea = 971
            · rw [h53, show ((tE x ea + 1074).toNat * 4503599627370496 + 9007199254740992) = 9218868437227405312 by omega]
              exact rto_gen_1t_Pxxx3 (ua := ua) (un := dlen x) (uc := uc) (ea := ea) (e2 := tE x ea) (t := (bl x : Int) + ea) (w := w) (hn0 := hn0) (ht := ht') (ht3 := by omega) (he1 := he1) (he2 := he2) (hmx := hmx) (h21 := h21) (h22 := h22) (hge := hge) (ht2 := ht2') (kH := kH) (hnx := h9) (kD1 := k1) (kD2 := kd2P h hc hl hi2 (by omega) hz rfl) (dd := dg (x / 2 ^ (k - 1)) 0) (ex := decide (x % 2 ^ (k - 1) = 0))
            · rw [h53, show ((tE x ea + 1074).toNat * 4503599627370496 + 9007199254740992) = (tE x ea + 1 + 1074).toNat * 4503599627370496 + 4503599627370496 by omega]
              exact rto_gen_1t_Pxxx2 (ua := ua) (un := dlen x) (uc := uc) (ea := ea) (e2 := tE x ea) (t := (bl x : Int) + ea) (w := w) (hn0 := hn0) (ht := ht') (ht3 := by omega) (he1 := he1) (he2 := he2) (hmx := hmx) (h21 := h21) (h22 := h22) (hge := hge) (ht2 := ht2') (kH := kH) (hnx := by omega) (kD1 := k1) (kD2 := kd2P h hc hl hi2 (by omega) hz rfl) (dd := dg (x / 2 ^ (k - 1)) 0) (ex := decide (x % 2 ^ (k - 1) = 0)) (kB := fun W => rbuild (M := 4503599627370496) (e := tE x ea + 1) (by omega) (by omega) (by omega) (.inr (by omega))) (F := _)
          · have kB : ∀ W, Calls Tryz.prog 118 #[.bool true, .int .u64 (((x / 2 ^ k : Nat) : Int) + 1), .int .i64 (tE x ea)] W fun r w' => r = .returned (.float .f64 (sig true ((tE x ea + 1074).toNat * 4503599627370496 + (x / 2 ^ k + 1)))) ∧ w' = W := fun W => by
              rw [show (((x / 2 ^ k : Nat) : Int) + 1) = ((x / 2 ^ k + 1 : Nat) : Int) by omega]
              exact rbuild (by omega) h21 h22 hn2
            have hne : (((x / 2 ^ k : Nat) : Int) + 1 == 9007199254740992) = false := by
              rw [show (((x / 2 ^ k : Nat) : Int) + 1) = ((x / 2 ^ k + 1 : Nat) : Int) by omega]
              exact neq53 h53
            exact rto_gen_1t_Pxxx1 (ua := ua) (un := dlen x) (uc := uc) (ea := ea) (e2 := tE x ea) (t := (bl x : Int) + ea) (w := w) (hn0 := hn0) (ht := ht') (ht3 := by omega) (he1 := he1) (he2 := he2) (hmx := hmx) (h21 := h21) (h22 := h22) (hge := hge) (ht2 := ht2') (kH := kH) (X := x / 2 ^ k) (F := _) (hX := hX) (hne := hne) (kD1 := k1) (kD2 := kd2P h hc hl hi2 (by omega) hz rfl) (dd := dg (x / 2 ^ (k - 1)) 0) (ex := decide (x % 2 ^ (k - 1) = 0)) (kB := kB)
set_option maxHeartbeats 1000000 in
theorem rto_2f {ua : Option Addr} {uc x : Nat} {ea : Int} {w : World} (h : At w ua (dlen x) x) (hc : dlen x ≤ uc) (hodd : x % 2 = 1) (hl : dlen x ≤ 100000) (he1 : -4000000 ≤ ea) (he2 : ea ≤ 4000000) :
    Calls Tryz.prog 73 #[.agg #[.bool false, .slice ua (dlen x) uc, .int .i64 ea], .int .i64 2] w fun r w' => r = .returned (.float .f64 (sig false (bdy x ea 1))) ∧ Below w.heap.size w w' := by
  have h0 : x ≠ 0 := by omega
  have hw : (1 : Nat) = 0 ∨ (1 : Nat) = 1 ∨ (1 : Nat) = 2 := by omega
  have hn0 : ((dlen x : Int) == 0) = false := len_ne (n := 0) h0
  have hbl : bl x ≤ 32 * dlen x := bl_le_dlen x
  have hb1 := bl_ne h0
  have kH : ∀ W, Below w.heap.size w W → Calls Tryz.prog 110 #[.agg #[.bool false, .slice ua (dlen x) uc, .int .i64 ea]] W fun r w' => r = .returned (.int .i64 ((bl x : Int) + ea)) ∧ Below W.heap.size W w' := fun W hW => rhigh (h.later hW) h0 (by omega) ⟨he1, he2⟩
  by_cases ht : 1024 < (bl x : Int) + ea
  · rw [bdy_big h0 ht hw]
    exact rto_big_2f _ _ _ _ _ _ hn0 ht kH
  · have ht' : (bl x : Int) + ea ≤ 1024 := by omega
    have hmx := tE_max x ea
    obtain ⟨h21, h22⟩ := tE_bounds ht'
    by_cases hge : tE x ea ≤ ea
    · obtain ⟨hb, hlt, hg⟩ := bdy_up h0 ht' hge hw
      rw [hb]
      obtain ⟨k, hk⟩ : ∃ k : Nat, k = (ea - tE x ea).toNat := ⟨_, rfl⟩
      have hi : ea - tE x ea = (k : Int) := by omega
      rw [← hk] at hlt hg ⊢
      refine rto_up_2f (ua := ua) (un := dlen x) (uc := uc) (ea := ea) (e2 := tE x ea) (t := (bl x : Int) + ea) (w := w) (F := _) (hn0 := hn0) (ht := ht') (ht3 := by omega) (he1 := he1) (he2 := he2) (hmx := hmx) (h21 := h21) (h22 := h22) (hge := hge) (X := x * 2 ^ k) (hX := hlt) (kH := kH) (kU := fun W hW => ?_) (kB := fun W => rbuild hlt h21 h22 hg)
      rw [hi]
      exact rup ⟨ua, uc, rfl, hc, h.later hW⟩ k (by omega) (by omega)
    · have hlt : ea < tE x ea := by omega
      by_cases ht2 : (bl x : Int) + ea < -1075
      · rw [bdy_tiny h0 ht2 hw, if_neg (by decide)]
        exact rto_tiny_2f (ua := ua) (un := dlen x) (uc := uc) (ea := ea) (e2 := tE x ea) (t := (bl x : Int) + ea) (w := w) (F := _) (hn0 := hn0) (ht := ht') (ht3 := by omega) (he1 := he1) (he2 := he2) (hmx := hmx) (h21 := h21) (h22 := h22) (hge := hge) (ht2 := ht2) (kH := kH) (kB := fun W => rbuild_0 false 0 (-1074) W (by omega))
      · obtain ⟨k, hk⟩ : ∃ k : Nat, k = (tE x ea - ea).toNat := ⟨_, rfl⟩
        have hk1 : 1 ≤ k := by omega
        have hi : tE x ea - ea = (k : Int) := by omega
        have hi2 : tE x ea - ea - 1 = ((k - 1 : Nat) : Int) := by omega
        have hkb : k ≤ 10000000 := by unfold tE at hk; split at hk <;> omega
        obtain ⟨n, hn⟩ : ∃ n, n = if dnU x (tE x ea - ea).toNat 1 then x / 2 ^ (tE x ea - ea).toNat + 1 else x / 2 ^ (tE x ea - ea).toNat := ⟨_, rfl⟩
        obtain ⟨hn1, hn2, hb, hX⟩ := bdy_dn hodd ht' hlt hw hn
        rw [← hk] at hn hX
        rw [hb]
        have k1 := kd1 h hc hl hi hkb
        have hdd := and1_32 (d := dg (x / 2 ^ (k - 1)) 0) (X := x / 2 ^ (k - 1)) (dg_zero _)
        have hod := and1_64 hX
        have ht2' : -1075 ≤ (bl x : Int) + ea := by omega
        by_cases hz : x / 2 ^ (k - 1) = 0
        · have hv : n = x / 2 ^ k := by rw [hn]; simp [dnU, hz]
          rw [hv] at hn1 hn2 ⊢
          exact rto_gen_2f_Zlxx0 (ua := ua) (un := dlen x) (uc := uc) (ea := ea) (e2 := tE x ea) (t := (bl x : Int) + ea) (w := w) (hn0 := hn0) (ht := ht') (ht3 := by omega) (he1 := he1) (he2 := he2) (hmx := hmx) (h21 := h21) (h22 := h22) (hge := hge) (ht2 := ht2') (kH := kH) (X := x / 2 ^ k) (F := _) (hX := hX) (hne := neq53 (by omega)) (kD1 := k1) (kD2 := kd2Z h hc hl hi2 (by omega) hz) (ex := decide (x % 2 ^ (k - 1) = 0)) (kB := fun W => rbuild hX h21 h22 hn2)
        · by_cases hh : x / 2 ^ (k - 1) % 2 = 1
          · rw [hh] at hdd
            by_cases hx : x % 2 ^ (k - 1) = 0
            · by_cases ho : x / 2 ^ k % 2 = 1
              · rw [ho] at hod
                have hv : n = x / 2 ^ k + 1 := by rw [hn]; simp [dnU, hh, hx, ho]
                rw [hv] at hn1 hn2 ⊢
                by_cases h53 : x / 2 ^ k + 1 = 9007199254740992
                · have hXv : x / 2 ^ k = 9007199254740991 := by omega
                  rw [hXv] at k1
                  by_cases h9 : tE x ea = 971
                  · rw [h53, show ((tE x ea + 1074).toNat * 4503599627370496 + 9007199254740992) = 9218868437227405312 by omega]
                    exact rto_gen_2f_Pheo3 (ua := ua) (un := dlen x) (uc := uc) (ea := ea) (e2 := tE x ea) (t := (bl x : Int) + ea) (w := w) (hn0 := hn0) (ht := ht') (ht3 := by omega) (he1 := he1) (he2 := he2) (hmx := hmx) (h21 := h21) (h22 := h22) (hge := hge) (ht2 := ht2') (kH := kH) (hnx := h9) (kD1 := k1) (kD2 := kd2P h hc hl hi2 (by omega) hz (decide_eq_true hx)) (hf := hdd) (dd := dg (x / 2 ^ (k - 1)) 0)
                  · rw [h53, show ((tE x ea + 1074).toNat * 4503599627370496 + 9007199254740992) = (tE x ea + 1 + 1074).toNat * 4503599627370496 + 4503599627370496 by omega]
                    exact rto_gen_2f_Pheo2 (ua := ua) (un := dlen x) (uc := uc) (ea := ea) (e2 := tE x ea) (t := (bl x : Int) + ea) (w := w) (hn0 := hn0) (ht := ht') (ht3 := by omega) (he1 := he1) (he2 := he2) (hmx := hmx) (h21 := h21) (h22 := h22) (hge := hge) (ht2 := ht2') (kH := kH) (hnx := by omega) (kD1 := k1) (kD2 := kd2P h hc hl hi2 (by omega) hz (decide_eq_true hx)) (hf := hdd) (dd := dg (x / 2 ^ (k - 1)) 0) (kB := fun W => rbuild (M := 4503599627370496) (e := tE x ea + 1) (by omega) (by omega) (by omega) (.inr (by omega))) (F := _)
                · have kB : ∀ W, Calls Tryz.prog 118 #[.bool false, .int .u64 (((x / 2 ^ k : Nat) : Int) + 1), .int .i64 (tE x ea)] W fun r w' => r = .returned (.float .f64 (sig false ((tE x ea + 1074).toNat * 4503599627370496 + (x / 2 ^ k + 1)))) ∧ w' = W := fun W => by
                    rw [show (((x / 2 ^ k : Nat) : Int) + 1) = ((x / 2 ^ k + 1 : Nat) : Int) by omega]
                    exact rbuild (by omega) h21 h22 hn2
                  have hne : (((x / 2 ^ k : Nat) : Int) + 1 == 9007199254740992) = false := by
                    rw [show (((x / 2 ^ k : Nat) : Int) + 1) = ((x / 2 ^ k + 1 : Nat) : Int) by omega]
                    exact neq53 h53
                  exact rto_gen_2f_Pheo1 (ua := ua) (un := dlen x) (uc := uc) (ea := ea) (e2 := tE x ea) (t := (bl x : Int) + ea) (w := w) (hn0 := hn0) (ht := ht') (ht3 := by omega) (he1 := he1) (he2 := he2) (hmx := hmx) (h21 := h21) (h22 := h22) (hge := hge) (ht2 := ht2') (kH := kH) (X := x / 2 ^ k) (F := _) (hX := hX) (hne := hne) (kD1 := k1) (kD2 := kd2P h hc hl hi2 (by omega) hz (decide_eq_true hx)) (hf := hdd) (hod := hod) (dd := dg (x / 2 ^ (k - 1)) 0) (kB := kB)
              · have ho2 : x / 2 ^ k % 2 = 0 := by omega
                rw [ho2] at hod
                have hv : n = x / 2 ^ k := by rw [hn]; simp [dnU, hh, hx, ho2]
                rw [hv] at hn1 hn2 ⊢
                exact rto_gen_2f_Phev0 (ua := ua) (un := dlen x) (uc := uc) (ea := ea) (e2 := tE x ea) (t := (bl x : Int) + ea) (w := w) (hn0 := hn0) (ht := ht') (ht3 := by omega) (he1 := he1) (he2 := he2) (hmx := hmx) (h21 := h21) (h22 := h22) (hge := hge) (ht2 := ht2') (kH := kH) (X := x / 2 ^ k) (F := _) (hX := hX) (hne := neq53 (by omega)) (kD1 := k1) (kD2 := kd2P h hc hl hi2 (by omega) hz (decide_eq_true hx)) (hf := hdd) (hod := hod) (dd := dg (x / 2 ^ (k - 1)) 0) (kB := fun W => rbuild hX h21 h22 hn2)
            · have hv : n = x / 2 ^ k + 1 := by rw [hn]; simp [dnU, hh, hx]
              rw [hv] at hn1 hn2 ⊢
              by_cases h53 : x / 2 ^ k + 1 = 9007199254740992
              · have hXv : x / 2 ^ k = 9007199254740991 := by omega
                rw [hXv] at k1
                by_cases h9 : tE x ea = 971
                · rw [h53, show ((tE x ea + 1074).toNat * 4503599627370496 + 9007199254740992) = 9218868437227405312 by omega]
                  exact rto_gen_2f_Phnx3 (ua := ua) (un := dlen x) (uc := uc) (ea := ea) (e2 := tE x ea) (t := (bl x : Int) + ea) (w := w) (hn0 := hn0) (ht := ht') (ht3 := by omega) (he1 := he1) (he2 := he2) (hmx := hmx) (h21 := h21) (h22 := h22) (hge := hge) (ht2 := ht2') (kH := kH) (hnx := h9) (kD1 := k1) (kD2 := kd2P h hc hl hi2 (by omega) hz (decide_eq_false hx)) (hf := hdd) (dd := dg (x / 2 ^ (k - 1)) 0)
                · rw [h53, show ((tE x ea + 1074).toNat * 4503599627370496 + 9007199254740992) = (tE x ea + 1 + 1074).toNat * 4503599627370496 + 4503599627370496 by omega]
                  exact rto_gen_2f_Phnx2 (ua := ua) (un := dlen x) (uc := uc) (ea := ea) (e2 := tE x ea) (t := (bl x : Int) + ea) (w := w) (hn0 := hn0) (ht := ht') (ht3 := by omega) (he1 := he1) (he2 := he2) (hmx := hmx) (h21 := h21) (h22 := h22) (hge := hge) (ht2 := ht2') (kH := kH) (hnx := by omega) (kD1 := k1) (kD2 := kd2P h hc hl hi2 (by omega) hz (decide_eq_false hx)) (hf := hdd) (dd := dg (x / 2 ^ (k - 1)) 0) (kB := fun W => rbuild (M := 4503599627370496) (e := tE x ea + 1) (by omega) (by omega) (by omega) (.inr (by omega))) (F := _)
              · have kB : ∀ W, Calls Tryz.prog 118 #[.bool false, .int .u64 (((x / 2 ^ k : Nat) : Int) + 1), .int .i64 (tE x ea)] W fun r w' => r = .returned (.float .f64 (sig false ((tE x ea + 1074).toNat * 4503599627370496 + (x / 2 ^ k + 1)))) ∧ w' = W := fun W => by
                  rw [show (((x / 2 ^ k : Nat) : Int) + 1) = ((x / 2 ^ k + 1 : Nat) : Int) by omega]
                  exact rbuild (by omega) h21 h22 hn2
                have hne : (((x / 2 ^ k : Nat) : Int) + 1 == 9007199254740992) = false := by
                  rw [show (((x / 2 ^ k : Nat) : Int) + 1) = ((x / 2 ^ k + 1 : Nat) : Int) by omega]
                  exact neq53 h53
                exact rto_gen_2f_Phnx1 (ua := ua) (un := dlen x) (uc := uc) (ea := ea) (e2 := tE x ea) (t := (bl x : Int) + ea) (w := w) (hn0 := hn0) (ht := ht') (ht3 := by omega) (he1 := he1) (he2 := he2) (hmx := hmx) (h21 := h21) (h22 := h22) (hge := hge) (ht2 := ht2') (kH := kH) (X := x / 2 ^ k) (F := _) (hX := hX) (hne := hne) (kD1 := k1) (kD2 := kd2P h hc hl hi2 (by omega) hz (decide_eq_false hx)) (hf := hdd) (dd := dg (x / 2 ^ (k - 1)) 0) (kB := kB)
          · have hh2 : x / 2 ^ (k - 1) % 2 = 0 := by omega
            rw [hh2] at hdd
            have hv : n = x / 2 ^ k := by rw [hn]; simp [dnU, hh2]
            rw [hv] at hn1 hn2 ⊢
            exact rto_gen_2f_Plxx0 (ua := ua) (un := dlen x) (uc := uc) (ea := ea) (e2 := tE x ea) (t := (bl x : Int) + ea) (w := w) (hn0 := hn0) (ht := ht') (ht3 := by omega) (he1 := he1) (he2 := he2) (hmx := hmx) (h21 := h21) (h22 := h22) (hge := hge) (ht2 := ht2') (kH := kH) (X := x / 2 ^ k) (F := _) (hX := hX) (hne := neq53 (by omega)) (kD1 := k1) (kD2 := kd2P h hc hl hi2 (by omega) hz rfl) (hf := hdd) (dd := dg (x / 2 ^ (k - 1)) 0) (ex := decide (x % 2 ^ (k - 1) = 0)) (kB := fun W => rbuild hX h21 h22 hn2)
set_option maxHeartbeats 1000000 in
theorem rto_2t {ua : Option Addr} {uc x : Nat} {ea : Int} {w : World} (h : At w ua (dlen x) x) (hc : dlen x ≤ uc) (hodd : x % 2 = 1) (hl : dlen x ≤ 100000) (he1 : -4000000 ≤ ea) (he2 : ea ≤ 4000000) :
    Calls Tryz.prog 73 #[.agg #[.bool true, .slice ua (dlen x) uc, .int .i64 ea], .int .i64 2] w fun r w' => r = .returned (.float .f64 (sig true (bdy x ea 1))) ∧ Below w.heap.size w w' := by
  have h0 : x ≠ 0 := by omega
  have hw : (1 : Nat) = 0 ∨ (1 : Nat) = 1 ∨ (1 : Nat) = 2 := by omega
  have hn0 : ((dlen x : Int) == 0) = false := len_ne (n := 0) h0
  have hbl : bl x ≤ 32 * dlen x := bl_le_dlen x
  have hb1 := bl_ne h0
  have kH : ∀ W, Below w.heap.size w W → Calls Tryz.prog 110 #[.agg #[.bool true, .slice ua (dlen x) uc, .int .i64 ea]] W fun r w' => r = .returned (.int .i64 ((bl x : Int) + ea)) ∧ Below W.heap.size W w' := fun W hW => rhigh (h.later hW) h0 (by omega) ⟨he1, he2⟩
  by_cases ht : 1024 < (bl x : Int) + ea
  · rw [bdy_big h0 ht hw]
    exact rto_big_2t _ _ _ _ _ _ hn0 ht kH
  · have ht' : (bl x : Int) + ea ≤ 1024 := by omega
    have hmx := tE_max x ea
    obtain ⟨h21, h22⟩ := tE_bounds ht'
    by_cases hge : tE x ea ≤ ea
    · obtain ⟨hb, hlt, hg⟩ := bdy_up h0 ht' hge hw
      rw [hb]
      obtain ⟨k, hk⟩ : ∃ k : Nat, k = (ea - tE x ea).toNat := ⟨_, rfl⟩
      have hi : ea - tE x ea = (k : Int) := by omega
      rw [← hk] at hlt hg ⊢
      refine rto_up_2t (ua := ua) (un := dlen x) (uc := uc) (ea := ea) (e2 := tE x ea) (t := (bl x : Int) + ea) (w := w) (F := _) (hn0 := hn0) (ht := ht') (ht3 := by omega) (he1 := he1) (he2 := he2) (hmx := hmx) (h21 := h21) (h22 := h22) (hge := hge) (X := x * 2 ^ k) (hX := hlt) (kH := kH) (kU := fun W hW => ?_) (kB := fun W => rbuild hlt h21 h22 hg)
      rw [hi]
      exact rup ⟨ua, uc, rfl, hc, h.later hW⟩ k (by omega) (by omega)
    · have hlt : ea < tE x ea := by omega
      by_cases ht2 : (bl x : Int) + ea < -1075
      · rw [bdy_tiny h0 ht2 hw, if_neg (by decide)]
        exact rto_tiny_2t (ua := ua) (un := dlen x) (uc := uc) (ea := ea) (e2 := tE x ea) (t := (bl x : Int) + ea) (w := w) (F := _) (hn0 := hn0) (ht := ht') (ht3 := by omega) (he1 := he1) (he2 := he2) (hmx := hmx) (h21 := h21) (h22 := h22) (hge := hge) (ht2 := ht2) (kH := kH) (kB := fun W => rbuild_0 true 0 (-1074) W (by omega))
      · obtain ⟨k, hk⟩ : ∃ k : Nat, k = (tE x ea - ea).toNat := ⟨_, rfl⟩
        have hk1 : 1 ≤ k := by omega
        have hi : tE x ea - ea = (k : Int) := by omega
        have hi2 : tE x ea - ea - 1 = ((k - 1 : Nat) : Int) := by omega
        have hkb : k ≤ 10000000 := by unfold tE at hk; split at hk <;> omega
        obtain ⟨n, hn⟩ : ∃ n, n = if dnU x (tE x ea - ea).toNat 1 then x / 2 ^ (tE x ea - ea).toNat + 1 else x / 2 ^ (tE x ea - ea).toNat := ⟨_, rfl⟩
        obtain ⟨hn1, hn2, hb, hX⟩ := bdy_dn hodd ht' hlt hw hn
        rw [← hk] at hn hX
        rw [hb]
        have k1 := kd1 h hc hl hi hkb
        have hdd := and1_32 (d := dg (x / 2 ^ (k - 1)) 0) (X := x / 2 ^ (k - 1)) (dg_zero _)
        have hod := and1_64 hX
        have ht2' : -1075 ≤ (bl x : Int) + ea := by omega
        by_cases hz : x / 2 ^ (k - 1) = 0
        · have hv : n = x / 2 ^ k := by rw [hn]; simp [dnU, hz]
          rw [hv] at hn1 hn2 ⊢
          exact rto_gen_2t_Zlxx0 (ua := ua) (un := dlen x) (uc := uc) (ea := ea) (e2 := tE x ea) (t := (bl x : Int) + ea) (w := w) (hn0 := hn0) (ht := ht') (ht3 := by omega) (he1 := he1) (he2 := he2) (hmx := hmx) (h21 := h21) (h22 := h22) (hge := hge) (ht2 := ht2') (kH := kH) (X := x / 2 ^ k) (F := _) (hX := hX) (hne := neq53 (by omega)) (kD1 := k1) (kD2 := kd2Z h hc hl hi2 (by omega) hz) (ex := decide (x % 2 ^ (k - 1) = 0)) (kB := fun W => rbuild hX h21 h22 hn2)
        · by_cases hh : x / 2 ^ (k - 1) % 2 = 1
          · rw [hh] at hdd
            by_cases hx : x % 2 ^ (k - 1) = 0
            · by_cases ho : x / 2 ^ k % 2 = 1
              · rw [ho] at hod
                have hv : n = x / 2 ^ k + 1 := by rw [hn]; simp [dnU, hh, hx, ho]
                rw [hv] at hn1 hn2 ⊢
                by_cases h53 : x / 2 ^ k + 1 = 9007199254740992
                · have hXv : x / 2 ^ k = 9007199254740991 := by omega
                  rw [hXv] at k1
                  by_cases h9 : tE x ea = 971
                  · rw [h53, show ((tE x ea + 1074).toNat * 4503599627370496 + 9007199254740992) = 9218868437227405312 by omega]
                    exact rto_gen_2t_Pheo3 (ua := ua) (un := dlen x) (uc := uc) (ea := ea) (e2 := tE x ea) (t := (bl x : Int) + ea) (w := w) (hn0 := hn0) (ht := ht') (ht3 := by omega) (he1 := he1) (he2 := he2) (hmx := hmx) (h21 := h21) (h22 := h22) (hge := hge) (ht2 := ht2') (kH := kH) (hnx := h9) (kD1 := k1) (kD2 := kd2P h hc hl hi2 (by omega) hz (decide_eq_true hx)) (hf := hdd) (dd := dg (x / 2 ^ (k - 1)) 0)
                  · rw [h53, show ((tE x ea + 1074).toNat * 4503599627370496 + 9007199254740992) = (tE x ea + 1 + 1074).toNat * 4503599627370496 + 4503599627370496 by omega]
                    exact rto_gen_2t_Pheo2 (ua := ua) (un := dlen x) (uc := uc) (ea := ea) (e2 := tE x ea) (t := (bl x : Int) + ea) (w := w) (hn0 := hn0) (ht := ht') (ht3 := by omega) (he1 := he1) (he2 := he2) (hmx := hmx) (h21 := h21) (h22 := h22) (hge := hge) (ht2 := ht2') (kH := kH) (hnx := by omega) (kD1 := k1) (kD2 := kd2P h hc hl hi2 (by omega) hz (decide_eq_true hx)) (hf := hdd) (dd := dg (x / 2 ^ (k - 1)) 0) (kB := fun W => rbuild (M := 4503599627370496) (e := tE x ea + 1) (by omega) (by omega) (by omega) (.inr (by omega))) (F := _)
                · have kB : ∀ W, Calls Tryz.prog 118 #[.bool true, .int .u64 (((x / 2 ^ k : Nat) : Int) + 1), .int .i64 (tE x ea)] W fun r w' => r = .returned (.float .f64 (sig true ((tE x ea + 1074).toNat * 4503599627370496 + (x / 2 ^ k + 1)))) ∧ w' = W := fun W => by
                    rw [show (((x / 2 ^ k : Nat) : Int) + 1) = ((x / 2 ^ k + 1 : Nat) : Int) by omega]
                    exact rbuild (by omega) h21 h22 hn2
                  have hne : (((x / 2 ^ k : Nat) : Int) + 1 == 9007199254740992) = false := by
                    rw [show (((x / 2 ^ k : Nat) : Int) + 1) = ((x / 2 ^ k + 1 : Nat) : Int) by omega]
                    exact neq53 h53
                  exact rto_gen_2t_Pheo1 (ua := ua) (un := dlen x) (uc := uc) (ea := ea) (e2 := tE x ea) (t := (bl x : Int) + ea) (w := w) (hn0 := hn0) (ht := ht') (ht3 := by omega) (he1 := he1) (he2 := he2) (hmx := hmx) (h21 := h21) (h22 := h22) (hge := hge) (ht2 := ht2') (kH := kH) (X := x / 2 ^ k) (F := _) (hX := hX) (hne := hne) (kD1 := k1) (kD2 := kd2P h hc hl hi2 (by omega) hz (decide_eq_true hx)) (hf := hdd) (hod := hod) (dd := dg (x / 2 ^ (k - 1)) 0) (kB := kB)
              · have ho2 : x / 2 ^ k % 2 = 0 := by omega
                rw [ho2] at hod
                have hv : n = x / 2 ^ k := by rw [hn]; simp [dnU, hh, hx, ho2]
                rw [hv] at hn1 hn2 ⊢
                exact rto_gen_2t_Phev0 (ua := ua) (un := dlen x) (uc := uc) (ea := ea) (e2 := tE x ea) (t := (bl x : Int) + ea) (w := w) (hn0 := hn0) (ht := ht') (ht3 := by omega) (he1 := he1) (he2 := he2) (hmx := hmx) (h21 := h21) (h22 := h22) (hge := hge) (ht2 := ht2') (kH := kH) (X := x / 2 ^ k) (F := _) (hX := hX) (hne := neq53 (by omega)) (kD1 := k1) (kD2 := kd2P h hc hl hi2 (by omega) hz (decide_eq_true hx)) (hf := hdd) (hod := hod) (dd := dg (x / 2 ^ (k - 1)) 0) (kB := fun W => rbuild hX h21 h22 hn2)
            · have hv : n = x / 2 ^ k + 1 := by rw [hn]; simp [dnU, hh, hx]
              rw [hv] at hn1 hn2 ⊢
              by_cases h53 : x / 2 ^ k + 1 = 9007199254740992
              · have hXv : x / 2 ^ k = 9007199254740991 := by omega
                rw [hXv] at k1
                by_cases h9 : tE x ea = 971
                · rw [h53, show ((tE x ea + 1074).toNat * 4503599627370496 + 9007199254740992) = 9218868437227405312 by omega]
                  exact rto_gen_2t_Phnx3 (ua := ua) (un := dlen x) (uc := uc) (ea := ea) (e2 := tE x ea) (t := (bl x : Int) + ea) (w := w) (hn0 := hn0) (ht := ht') (ht3 := by omega) (he1 := he1) (he2 := he2) (hmx := hmx) (h21 := h21) (h22 := h22) (hge := hge) (ht2 := ht2') (kH := kH) (hnx := h9) (kD1 := k1) (kD2 := kd2P h hc hl hi2 (by omega) hz (decide_eq_false hx)) (hf := hdd) (dd := dg (x / 2 ^ (k - 1)) 0)
                · rw [h53, show ((tE x ea + 1074).toNat * 4503599627370496 + 9007199254740992) = (tE x ea + 1 + 1074).toNat * 4503599627370496 + 4503599627370496 by omega]
                  exact rto_gen_2t_Phnx2 (ua := ua) (un := dlen x) (uc := uc) (ea := ea) (e2 := tE x ea) (t := (bl x : Int) + ea) (w := w) (hn0 := hn0) (ht := ht') (ht3 := by omega) (he1 := he1) (he2 := he2) (hmx := hmx) (h21 := h21) (h22 := h22) (hge := hge) (ht2 := ht2') (kH := kH) (hnx := by omega) (kD1 := k1) (kD2 := kd2P h hc hl hi2 (by omega) hz (decide_eq_false hx)) (hf := hdd) (dd := dg (x / 2 ^ (k - 1)) 0) (kB := fun W => rbuild (M := 4503599627370496) (e := tE x ea + 1) (by omega) (by omega) (by omega) (.inr (by omega))) (F := _)
              · have kB : ∀ W, Calls Tryz.prog 118 #[.bool true, .int .u64 (((x / 2 ^ k : Nat) : Int) + 1), .int .i64 (tE x ea)] W fun r w' => r = .returned (.float .f64 (sig true ((tE x ea + 1074).toNat * 4503599627370496 + (x / 2 ^ k + 1)))) ∧ w' = W := fun W => by
                  rw [show (((x / 2 ^ k : Nat) : Int) + 1) = ((x / 2 ^ k + 1 : Nat) : Int) by omega]
                  exact rbuild (by omega) h21 h22 hn2
                have hne : (((x / 2 ^ k : Nat) : Int) + 1 == 9007199254740992) = false := by
                  rw [show (((x / 2 ^ k : Nat) : Int) + 1) = ((x / 2 ^ k + 1 : Nat) : Int) by omega]
                  exact neq53 h53
                exact rto_gen_2t_Phnx1 (ua := ua) (un := dlen x) (uc := uc) (ea := ea) (e2 := tE x ea) (t := (bl x : Int) + ea) (w := w) (hn0 := hn0) (ht := ht') (ht3 := by omega) (he1 := he1) (he2 := he2) (hmx := hmx) (h21 := h21) (h22 := h22) (hge := hge) (ht2 := ht2') (kH := kH) (X := x / 2 ^ k) (F := _) (hX := hX) (hne := hne) (kD1 := k1) (kD2 := kd2P h hc hl hi2 (by omega) hz (decide_eq_false hx)) (hf := hdd) (dd := dg (x / 2 ^ (k - 1)) 0) (kB := kB)
          · have hh2 : x / 2 ^ (k - 1) % 2 = 0 := by omega
            rw [hh2] at hdd
            have hv : n = x / 2 ^ k := by rw [hn]; simp [dnU, hh2]
            rw [hv] at hn1 hn2 ⊢
            exact rto_gen_2t_Plxx0 (ua := ua) (un := dlen x) (uc := uc) (ea := ea) (e2 := tE x ea) (t := (bl x : Int) + ea) (w := w) (hn0 := hn0) (ht := ht') (ht3 := by omega) (he1 := he1) (he2 := he2) (hmx := hmx) (h21 := h21) (h22 := h22) (hge := hge) (ht2 := ht2') (kH := kH) (X := x / 2 ^ k) (F := _) (hX := hX) (hne := neq53 (by omega)) (kD1 := k1) (kD2 := kd2P h hc hl hi2 (by omega) hz rfl) (hf := hdd) (dd := dg (x / 2 ^ (k - 1)) 0) (ex := decide (x % 2 ^ (k - 1) = 0)) (kB := fun W => rbuild hX h21 h22 hn2)
set_option maxHeartbeats 1000000 in
theorem rto_3f {ua : Option Addr} {uc x : Nat} {ea : Int} {w : World} (h : At w ua (dlen x) x) (hc : dlen x ≤ uc) (hodd : x % 2 = 1) (hl : dlen x ≤ 100000) (he1 : -4000000 ≤ ea) (he2 : ea ≤ 4000000) :
    Calls Tryz.prog 73 #[.agg #[.bool false, .slice ua (dlen x) uc, .int .i64 ea], .int .i64 3] w fun r w' => r = .returned (.float .f64 (sig false (bdy x ea 2))) ∧ Below w.heap.size w w' := by
  have h0 : x ≠ 0 := by omega
  have hw : (2 : Nat) = 0 ∨ (2 : Nat) = 1 ∨ (2 : Nat) = 2 := by omega
  have hn0 : ((dlen x : Int) == 0) = false := len_ne (n := 0) h0
  have hbl : bl x ≤ 32 * dlen x := bl_le_dlen x
  have hb1 := bl_ne h0
  have kH : ∀ W, Below w.heap.size w W → Calls Tryz.prog 110 #[.agg #[.bool false, .slice ua (dlen x) uc, .int .i64 ea]] W fun r w' => r = .returned (.int .i64 ((bl x : Int) + ea)) ∧ Below W.heap.size W w' := fun W hW => rhigh (h.later hW) h0 (by omega) ⟨he1, he2⟩
  by_cases ht : 1024 < (bl x : Int) + ea
  · rw [bdy_big h0 ht hw]
    exact rto_big_3f _ _ _ _ _ _ hn0 ht kH
  · have ht' : (bl x : Int) + ea ≤ 1024 := by omega
    have hmx := tE_max x ea
    obtain ⟨h21, h22⟩ := tE_bounds ht'
    by_cases hge : tE x ea ≤ ea
    · obtain ⟨hb, hlt, hg⟩ := bdy_up h0 ht' hge hw
      rw [hb]
      obtain ⟨k, hk⟩ : ∃ k : Nat, k = (ea - tE x ea).toNat := ⟨_, rfl⟩
      have hi : ea - tE x ea = (k : Int) := by omega
      rw [← hk] at hlt hg ⊢
      refine rto_up_3f (ua := ua) (un := dlen x) (uc := uc) (ea := ea) (e2 := tE x ea) (t := (bl x : Int) + ea) (w := w) (F := _) (hn0 := hn0) (ht := ht') (ht3 := by omega) (he1 := he1) (he2 := he2) (hmx := hmx) (h21 := h21) (h22 := h22) (hge := hge) (X := x * 2 ^ k) (hX := hlt) (kH := kH) (kU := fun W hW => ?_) (kB := fun W => rbuild hlt h21 h22 hg)
      rw [hi]
      exact rup ⟨ua, uc, rfl, hc, h.later hW⟩ k (by omega) (by omega)
    · have hlt : ea < tE x ea := by omega
      by_cases ht2 : (bl x : Int) + ea < -1075
      · rw [bdy_tiny h0 ht2 hw, if_pos rfl]
        exact rto_tiny_3f (ua := ua) (un := dlen x) (uc := uc) (ea := ea) (e2 := tE x ea) (t := (bl x : Int) + ea) (w := w) (F := _) (hn0 := hn0) (ht := ht') (ht3 := by omega) (he1 := he1) (he2 := he2) (hmx := hmx) (h21 := h21) (h22 := h22) (hge := hge) (ht2 := ht2) (kH := kH) (kB := fun W => rbuild_0 false 1 (-1074) W (by omega))
      · obtain ⟨k, hk⟩ : ∃ k : Nat, k = (tE x ea - ea).toNat := ⟨_, rfl⟩
        have hk1 : 1 ≤ k := by omega
        have hi : tE x ea - ea = (k : Int) := by omega
        have hi2 : tE x ea - ea - 1 = ((k - 1 : Nat) : Int) := by omega
        have hkb : k ≤ 10000000 := by unfold tE at hk; split at hk <;> omega
        obtain ⟨n, hn⟩ : ∃ n, n = if dnU x (tE x ea - ea).toNat 2 then x / 2 ^ (tE x ea - ea).toNat + 1 else x / 2 ^ (tE x ea - ea).toNat := ⟨_, rfl⟩
        obtain ⟨hn1, hn2, hb, hX⟩ := bdy_dn hodd ht' hlt hw hn
        rw [← hk] at hn hX
        rw [hb]
        have k1 := kd1 h hc hl hi hkb
        have hdd := and1_32 (d := dg (x / 2 ^ (k - 1)) 0) (X := x / 2 ^ (k - 1)) (dg_zero _)
        have hod := and1_64 hX
        have ht2' : -1075 ≤ (bl x : Int) + ea := by omega
        have hv : n = x / 2 ^ k + 1 := by rw [hn]; simp [dnU]
        by_cases hz : x / 2 ^ (k - 1) = 0
        · rw [hv] at hn1 hn2 ⊢
          by_cases h53 : x / 2 ^ k + 1 = 9007199254740992
          · have hXv : x / 2 ^ k = 9007199254740991 := by omega
            rw [hXv] at k1
            by_cases h9 : tE x ea = 971
            · rw [h53, show ((tE x ea + 1074).toNat * 4503599627370496 + 9007199254740992) = 9218868437227405312 by omega]
              exact rto_gen_3f_Zxxx3 (ua := ua) (un := dlen x) (uc := uc) (ea := ea) (e2 := tE x ea) (t := (bl x : Int) + ea) (w := w) (hn0 := hn0) (ht := ht') (ht3 := by omega) (he1 := he1) (he2 := he2) (hmx := hmx) (h21 := h21) (h22 := h22) (hge := hge) (ht2 := ht2') (kH := kH) (hnx := h9) (kD1 := k1) (kD2 := kd2Z h hc hl hi2 (by omega) hz) (ex := decide (x % 2 ^ (k - 1) = 0))
            · rw [h53, show ((tE x ea + 1074).toNat * 4503599627370496 + 9007199254740992) = (tE x ea + 1 + 1074).toNat * 4503599627370496 + 4503599627370496 by omega]
              exact rto_gen_3f_Zxxx2 (ua := ua) (un := dlen x) (uc := uc) (ea := ea) (e2 := tE x ea) (t := (bl x : Int) + ea) (w := w) (hn0 := hn0) (ht := ht') (ht3 := by omega) (he1 := he1) (he2 := he2) (hmx := hmx) (h21 := h21) (h22 := h22) (hge := hge) (ht2 := ht2') (kH := kH) (hnx := by omega) (kD1 := k1) (kD2 := kd2Z h hc hl hi2 (by omega) hz) (ex := decide (x % 2 ^ (k - 1) = 0)) (kB := fun W => rbuild (M := 4503599627370496) (e := tE x ea + 1) (by omega) (by omega) (by omega) (.inr (by omega))) (F := _)
          · have kB : ∀ W, Calls Tryz.prog 118 #[.bool false, .int .u64 (((x / 2 ^ k : Nat) : Int) + 1), .int .i64 (tE x ea)] W fun r w' => r = .returned (.float .f64 (sig false ((tE x ea + 1074).toNat * 4503599627370496 + (x / 2 ^ k + 1)))) ∧ w' = W := fun W => by
              rw [show (((x / 2 ^ k : Nat) : Int) + 1) = ((x / 2 ^ k + 1 : Nat) : Int) by omega]
              exact rbuild (by omega) h21 h22 hn2
            have hne : (((x / 2 ^ k : Nat) : Int) + 1 == 9007199254740992) = false := by
              rw [show (((x / 2 ^ k : Nat) : Int) + 1) = ((x / 2 ^ k + 1 : Nat) : Int) by omega]
              exact neq53 h53
            exact rto_gen_3f_Zxxx1 (ua := ua) (un := dlen x) (uc := uc) (ea := ea) (e2 := tE x ea) (t := (bl x : Int) + ea) (w := w) (hn0 := hn0) (ht := ht') (ht3 := by omega) (he1 := he1) (he2 := he2) (hmx := hmx) (h21 := h21) (h22 := h22) (hge := hge) (ht2 := ht2') (kH := kH) (X := x / 2 ^ k) (F := _) (hX := hX) (hne := hne) (kD1 := k1) (kD2 := kd2Z h hc hl hi2 (by omega) hz) (ex := decide (x % 2 ^ (k - 1) = 0)) (kB := kB)
        · rw [hv] at hn1 hn2 ⊢
          by_cases h53 : x / 2 ^ k + 1 = 9007199254740992
          · have hXv : x / 2 ^ k = 9007199254740991 := by omega
            rw [hXv] at k1
            by_cases h9 : tE x ea = 971
            · rw [h53, show ((tE x ea + 1074).toNat * 4503599627370496 + 9007199254740992) = 9218868437227405312 by omega]
              exact rto_gen_3f_Pxxx3 (ua := ua) (un := dlen x) (uc := uc) (ea := ea) (e2 := tE x ea) (t := (bl x : Int) + ea) (w := w) (hn0 := hn0) (ht := ht') (ht3 := by omega) (he1 := he1) (he2 := he2) (hmx := hmx) (h21 := h21) (h22 := h22) (hge := hge) (ht2 := ht2') (kH := kH) (hnx := h9) (kD1 := k1) (kD2 := kd2P h hc hl hi2 (by omega) hz rfl) (dd := dg (x / 2 ^ (k - 1)) 0) (ex := decide (x % 2 ^ (k - 1) = 0))
            · rw [h53, show ((tE x ea + 1074).toNat * 4503599627370496 + 9007199254740992) = (tE x ea + 1 + 1074).toNat * 4503599627370496 + 4503599627370496 by omega]
              exact rto_gen_3f_Pxxx2 (ua := ua) (un := dlen x) (uc := uc) (ea := ea) (e2 := tE x ea) (t := (bl x : Int) + ea) (w := w) (hn0 := hn0) (ht := ht') (ht3 := by omega) (he1 := he1) (he2 := he2) (hmx := hmx) (h21 := h21) (h22 := h22) (hge := hge) (ht2 := ht2') (kH := kH) (hnx := by omega) (kD1 := k1) (kD2 := kd2P h hc hl hi2 (by omega) hz rfl) (dd := dg (x / 2 ^ (k - 1)) 0) (ex := decide (x % 2 ^ (k - 1) = 0)) (kB := fun W => rbuild (M := 4503599627370496) (e := tE x ea + 1) (by omega) (by omega) (by omega) (.inr (by omega))) (F := _)
          · have kB : ∀ W, Calls Tryz.prog 118 #[.bool false, .int .u64 (((x / 2 ^ k : Nat) : Int) + 1), .int .i64 (tE x ea)] W fun r w' => r = .returned (.float .f64 (sig false ((tE x ea + 1074).toNat * 4503599627370496 + (x / 2 ^ k + 1)))) ∧ w' = W := fun W => by
              rw [show (((x / 2 ^ k : Nat) : Int) + 1) = ((x / 2 ^ k + 1 : Nat) : Int) by omega]
              exact rbuild (by omega) h21 h22 hn2
            have hne : (((x / 2 ^ k : Nat) : Int) + 1 == 9007199254740992) = false := by
              rw [show (((x / 2 ^ k : Nat) : Int) + 1) = ((x / 2 ^ k + 1 : Nat) : Int) by omega]
              exact neq53 h53
            exact rto_gen_3f_Pxxx1 (ua := ua) (un := dlen x) (uc := uc) (ea := ea) (e2 := tE x ea) (t := (bl x : Int) + ea) (w := w) (hn0 := hn0) (ht := ht') (ht3 := by omega) (he1 := he1) (he2 := he2) (hmx := hmx) (h21 := h21) (h22 := h22) (hge := hge) (ht2 := ht2') (kH := kH) (X := x / 2 ^ k) (F := _) (hX := hX) (hne := hne) (kD1 := k1) (kD2 := kd2P h hc hl hi2 (by omega) hz rfl) (dd := dg (x / 2 ^ (k - 1)) 0) (ex := decide (x % 2 ^ (k - 1) = 0)) (kB := kB)
set_option maxHeartbeats 1000000 in
theorem rto_3t {ua : Option Addr} {uc x : Nat} {ea : Int} {w : World} (h : At w ua (dlen x) x) (hc : dlen x ≤ uc) (hodd : x % 2 = 1) (hl : dlen x ≤ 100000) (he1 : -4000000 ≤ ea) (he2 : ea ≤ 4000000) :
    Calls Tryz.prog 73 #[.agg #[.bool true, .slice ua (dlen x) uc, .int .i64 ea], .int .i64 3] w fun r w' => r = .returned (.float .f64 (sig true (bdy x ea 0))) ∧ Below w.heap.size w w' := by
  have h0 : x ≠ 0 := by omega
  have hw : (0 : Nat) = 0 ∨ (0 : Nat) = 1 ∨ (0 : Nat) = 2 := by omega
  have hn0 : ((dlen x : Int) == 0) = false := len_ne (n := 0) h0
  have hbl : bl x ≤ 32 * dlen x := bl_le_dlen x
  have hb1 := bl_ne h0
  have kH : ∀ W, Below w.heap.size w W → Calls Tryz.prog 110 #[.agg #[.bool true, .slice ua (dlen x) uc, .int .i64 ea]] W fun r w' => r = .returned (.int .i64 ((bl x : Int) + ea)) ∧ Below W.heap.size W w' := fun W hW => rhigh (h.later hW) h0 (by omega) ⟨he1, he2⟩
  by_cases ht : 1024 < (bl x : Int) + ea
  · rw [bdy_big h0 ht hw]
    exact rto_big_3t _ _ _ _ _ _ _ hn0 ht kH (fun W => rbuild (M := 9007199254740991) (e := 971) (by omega) (by omega) (by omega) (.inr (by omega)))
  · have ht' : (bl x : Int) + ea ≤ 1024 := by omega
    have hmx := tE_max x ea
    obtain ⟨h21, h22⟩ := tE_bounds ht'
    by_cases hge : tE x ea ≤ ea
    · obtain ⟨hb, hlt, hg⟩ := bdy_up h0 ht' hge hw
      rw [hb]
      obtain ⟨k, hk⟩ : ∃ k : Nat, k = (ea - tE x ea).toNat := ⟨_, rfl⟩
      have hi : ea - tE x ea = (k : Int) := by omega
      rw [← hk] at hlt hg ⊢
      refine rto_up_3t (ua := ua) (un := dlen x) (uc := uc) (ea := ea) (e2 := tE x ea) (t := (bl x : Int) + ea) (w := w) (F := _) (hn0 := hn0) (ht := ht') (ht3 := by omega) (he1 := he1) (he2 := he2) (hmx := hmx) (h21 := h21) (h22 := h22) (hge := hge) (X := x * 2 ^ k) (hX := hlt) (kH := kH) (kU := fun W hW => ?_) (kB := fun W => rbuild hlt h21 h22 hg)
      rw [hi]
      exact rup ⟨ua, uc, rfl, hc, h.later hW⟩ k (by omega) (by omega)
    · have hlt : ea < tE x ea := by omega
      by_cases ht2 : (bl x : Int) + ea < -1075
      · rw [bdy_tiny h0 ht2 hw, if_neg (by decide)]
        exact rto_tiny_3t (ua := ua) (un := dlen x) (uc := uc) (ea := ea) (e2 := tE x ea) (t := (bl x : Int) + ea) (w := w) (F := _) (hn0 := hn0) (ht := ht') (ht3 := by omega) (he1 := he1) (he2 := he2) (hmx := hmx) (h21 := h21) (h22 := h22) (hge := hge) (ht2 := ht2) (kH := kH) (kB := fun W => rbuild_0 true 0 (-1074) W (by omega))
      · obtain ⟨k, hk⟩ : ∃ k : Nat, k = (tE x ea - ea).toNat := ⟨_, rfl⟩
        have hk1 : 1 ≤ k := by omega
        have hi : tE x ea - ea = (k : Int) := by omega
        have hi2 : tE x ea - ea - 1 = ((k - 1 : Nat) : Int) := by omega
        have hkb : k ≤ 10000000 := by unfold tE at hk; split at hk <;> omega
        obtain ⟨n, hn⟩ : ∃ n, n = if dnU x (tE x ea - ea).toNat 0 then x / 2 ^ (tE x ea - ea).toNat + 1 else x / 2 ^ (tE x ea - ea).toNat := ⟨_, rfl⟩
        obtain ⟨hn1, hn2, hb, hX⟩ := bdy_dn hodd ht' hlt hw hn
        rw [← hk] at hn hX
        rw [hb]
        have k1 := kd1 h hc hl hi hkb
        have hdd := and1_32 (d := dg (x / 2 ^ (k - 1)) 0) (X := x / 2 ^ (k - 1)) (dg_zero _)
        have hod := and1_64 hX
        have ht2' : -1075 ≤ (bl x : Int) + ea := by omega
        have hv : n = x / 2 ^ k := by rw [hn]; simp [dnU]
        by_cases hz : x / 2 ^ (k - 1) = 0
        · rw [hv] at hn1 hn2 ⊢
          exact rto_gen_3t_Zxxx0 (ua := ua) (un := dlen x) (uc := uc) (ea := ea) (e2 := tE x ea) (t := (bl x : Int) + ea) (w := w) (hn0 := hn0) (ht := ht') (ht3 := by omega) (he1 := he1) (he2 := he2) (hmx := hmx) (h21 := h21) (h22 := h22) (hge := hge) (ht2 := ht2') (kH := kH) (X := x / 2 ^ k) (F := _) (hX := hX) (hne := neq53 (by omega)) (kD1 := k1) (kD2 := kd2Z h hc hl hi2 (by omega) hz) (ex := decide (x % 2 ^ (k - 1) = 0)) (kB := fun W => rbuild hX h21 h22 hn2)
        · rw [hv] at hn1 hn2 ⊢
          exact rto_gen_3t_Pxxx0 (ua := ua) (un := dlen x) (uc := uc) (ea := ea) (e2 := tE x ea) (t := (bl x : Int) + ea) (w := w) (hn0 := hn0) (ht := ht') (ht3 := by omega) (he1 := he1) (he2 := he2) (hmx := hmx) (h21 := h21) (h22 := h22) (hge := hge) (ht2 := ht2') (kH := kH) (X := x / 2 ^ k) (F := _) (hX := hX) (hne := neq53 (by omega)) (kD1 := k1) (kD2 := kd2P h hc hl hi2 (by omega) hz rfl) (dd := dg (x / 2 ^ (k - 1)) 0) (ex := decide (x % 2 ^ (k - 1) = 0)) (kB := fun W => rbuild hX h21 h22 hn2)
/-- the document's rounding: the body that the program's comes to -/
theorem rto {neg : Bool} {ua : Option Addr} {uc x : Nat} {ea m : Int} {w : World} (h : At w ua (dlen x) x) (hc : dlen x ≤ uc) (hodd : x % 2 = 1) (hl : dlen x ≤ 100000) (he1 : -4000000 ≤ ea) (he2 : ea ≤ 4000000) (hm : 1 ≤ m ∧ m ≤ 3) :
    Calls Tryz.prog 73 #[.agg #[.bool neg, .slice ua (dlen x) uc, .int .i64 ea], .int .i64 m] w fun r w' => r = .returned (.float .f64 (sig neg (bdy x ea (wyN neg m)))) ∧ Below w.heap.size w w' := by
  rcases (show m = 1 ∨ m = 2 ∨ m = 3 by omega) with rfl | rfl | rfl <;> cases neg
  · exact rto_1f h hc hodd hl he1 he2
  · exact rto_1t h hc hodd hl he1 he2
  · exact rto_2f h hc hodd hl he1 he2
  · exact rto_2t h hc hodd hl he1 he2
  · exact rto_3f h hc hodd hl he1 he2
  · exact rto_3t h hc hodd hl he1 he2
end Go.Proofs.YtnalhfcpcpondaaGreatDoor
/- The document's mode, Round, Between. -/
namespace Go.Proofs.YtnalhfcpcpondaaGreatDoor
set_option linter.unusedVariables false
set_option linter.unusedSimpArgs false
open Go.RowKit Go.Fl64
open Ie

theorem rto_0 (na : Bool) (ua : Option Addr) (uc : Nat) (ea m : Int) (w : World) : Calls Tryz.prog 73 #[.agg #[.bool na, .slice ua 0 uc, .int .i64 ea], .int .i64 m] w fun r w' => r = .returned (.float .f64 0) ∧ Below w.heap.size w w' := by
  obtain ⟨W, hW⟩ : ∃ W, W = w.alloc (.cells #[.bool na, .slice ua 0 uc, .int .i64 ea] 57) := ⟨_, rfl⟩
  have HB : Hid (Below w.heap.size w W) := (by rw [hW]; exact (Below.refl _ _).alloc (Nat.le_refl _) _ : Below w.heap.size w W)
  go_enter Tryz.func73, Tryz.ntmps73
  go_wp2
  go_ret
  exact ⟨rfl, hW ▸ HB.out⟩
end Go.Proofs.YtnalhfcpcpondaaGreatDoor
/- The document's Between. -/
namespace Go.Proofs.YtnalhfcpcpondaaGreatDoor
set_option linter.unusedVariables false
set_option linter.unusedSimpArgs false
open Go.RowKit

end Go.Proofs.YtnalhfcpcpondaaGreatDoor
/- The document's SqrtTo. -/
namespace Go.Proofs.YtnalhfcpcpondaaGreatDoor
set_option linter.unusedVariables false
set_option linter.unusedSimpArgs false
open Go.RowKit

end Go.Proofs.YtnalhfcpcpondaaGreatDoor
/- The document's RatioTo. -/
namespace Go.Proofs.YtnalhfcpcpondaaGreatDoor
set_option linter.unusedVariables false
set_option linter.unusedSimpArgs false
open Go.RowKit

end Go.Proofs.YtnalhfcpcpondaaGreatDoor
/- What is cut off finely enough rounds the same way: the digits below the highest 64 tell only whether there are any. -/
namespace Go.Proofs.YtnalhfcpcpondaaGreatDoor
set_option linter.unusedVariables false
set_option linter.unusedSimpArgs false
open Go.RowKit Go.Fl64
open Ie

/-- the same value, written otherwise -/
theorem bdy_shl {x n : Nat} {e : Int} {way : Nat} (hw : way = 0 ∨ way = 1 ∨ way = 2) : bdy (x * 2 ^ n) e way = bdy x (e + n) way := by
  by_cases h0 : x = 0
  · subst h0; rw [Nat.zero_mul]; unfold bdy; rw [if_pos rfl, if_pos rfl]
  have h1 : x * 2 ^ n ≠ 0 := Nat.mul_ne_zero h0 (by have := Nat.two_pow_pos n; omega)
  obtain ⟨K, hK⟩ : ∃ K : Nat, K = 1200 + (64 - e).toNat + n := ⟨_, rfl⟩
  have a := rwb_rounds (e := e) h1 (K := K) (by omega) (by omega) (way := way)
  have b := rwb_rounds (e := e + n) h0 (K := K) (by omega) (by omega) (way := way)
  have hv : x * 2 ^ n * 2 ^ (e + (K : Int)).toNat = x * 2 ^ (e + (n : Int) + (K : Int)).toNat := by
    rw [Nat.mul_assoc, ← Nat.pow_add, show n + (e + (K : Int)).toNat = (e + (n : Int) + (K : Int)).toNat by omega]
  have h2 := Rounds.mono hw a b (Nat.le_of_eq hv)
  have h3 := Rounds.mono hw b a (Nat.le_of_eq hv.symm)
  have h4 : rwb (x * 2 ^ n) e way = rwb x (e + n) way := Nat.le_antisymm h2 h3
  unfold bdy
  rw [if_neg h0, if_neg h1, h4]
theorem tf_shl {s : Bool} {x n : Nat} {e m : Int} (hm : 1 ≤ m ∧ m ≤ 3) : tfF s true (x * 2 ^ n) e m = tfF s true x (e + n) m := by
  rw [tf_bdy hm, tf_bdy hm, bdy_shl (wyN_ways s m)]
end Go.Proofs.YtnalhfcpcpondaaGreatDoor
/- A quotient rounded: the program's digits and the document's come to the same float. -/
namespace Go.Proofs.YtnalhfcpcpondaaGreatDoor
set_option linter.unusedVariables false
set_option linter.unusedSimpArgs false
open Go.RowKit Go.Fl64
open Ie

end Go.Proofs.YtnalhfcpcpondaaGreatDoor
/- A root rounded: the program's digits and the document's come to the same float. -/
namespace Go.Proofs.YtnalhfcpcpondaaGreatDoor
set_option linter.unusedVariables false
set_option linter.unusedSimpArgs false
open Go.RowKit Go.Fl64
open Ie

end Go.Proofs.YtnalhfcpcpondaaGreatDoor
/- The document's numbers between two cuts, rounded. -/
namespace Go.Proofs.YtnalhfcpcpondaaGreatDoor
set_option linter.unusedVariables false
set_option linter.unusedSimpArgs false
open Go.RowKit Go.Fl64
open Ie

end Go.Proofs.YtnalhfcpcpondaaGreatDoor
/- The document's Add and Sub of finite floats. -/
namespace Go.Proofs.YtnalhfcpcpondaaGreatDoor
set_option linter.unusedVariables false
set_option linter.unusedSimpArgs false
open Go.RowKit Go.Fl64

end Go.Proofs.YtnalhfcpcpondaaGreatDoor
/- Add and Sub of floats: the program and the document answer alike. -/
namespace Go.Proofs.YtnalhfcpcpondaaGreatDoor
set_option linter.unusedVariables false
set_option linter.unusedSimpArgs false
open Go.RowKit Go.Fl64

theorem tF_fits (a : Nat) : Fits (-1074) 1025 (tF a).2.1 (tF a).2.2 := by
  refine Fits.cn (.inr ⟨(Ie.lp_bound a).1, by have := (Ie.lp_bound a).2; omega, ?_⟩)
  have h := Ie.mant_bound a
  have h2 := (Ie.lp_bound a).2
  have : 2 ^ 53 ≤ 2 ^ (1025 - Ie.lp a).toNat := Nat.pow_le_pow_right (by decide) (by omega)
  omega
theorem tF_ok (a : Nat) : Ok (tF a) := by
  refine ok_cn (Fits.ok (lo := -1074) (hi := 1025) (.inr ⟨(Ie.lp_bound a).1, by have := (Ie.lp_bound a).2; omega, ?_⟩) (by omega) (by omega) (by omega))
  have h := Ie.mant_bound a
  have h2 := (Ie.lp_bound a).2
  have : 2 ^ 53 ≤ 2 ^ (1025 - Ie.lp a).toNat := Nat.pow_le_pow_right (by decide) (by omega)
  omega
theorem cn_parts (a m : Nat) (ha : a < 18446744073709551616) (hf : mag a < 9218868437227405312) (hm : Ie.sM a = (m : Int)) : cn (neg a) m (Ie.sE a) = tF a := by
  unfold tF cn
  rcases of_parts a m ha hf hm with ⟨h1, h2⟩ | ⟨h1, h2, -, h3, h4⟩
  · rw [if_pos h1, if_pos h2]
  · rw [if_neg h1, if_neg h2, h3, h4]
theorem exact_ok (a : Nat) (ha : a < 18446744073709551616) (hf : mag a < 9218868437227405312) (w : World) (hT : Tab32 w) (hI : Ie.Tab w) : Calls Tryz.prog 98 #[.float .f64 a] w fun r w' => OutA w (tF a) r w' := by
  obtain ⟨m, hm, hml⟩ := sM_lt a ha
  refine exact_1 a (tF a) w fun W hW => (of_fin a m ha W (hT.later hW) (Tab.later hI hW) hf hm).mono ?_
  rintro r w' ⟨A, rfl, hN, hb⟩
  have hp := hN.pn
  rw [cn_parts a m ha hf hm] at hp
  obtain ⟨s, ao, n, cap, e, rfl⟩ := hp.shape
  exact ⟨s, ao, n, cap, e, rfl, hp, hb⟩

/-- the sum of two numbers, in its one form -/
def tS (t1 t2 : Bool × Nat × Int) : Bool × Nat × Int := cn (sumN t1.1 t1.2.1 t1.2.2 t2.1 t2.2.1 t2.2.2).1 (sumN t1.1 t1.2.1 t1.2.2 t2.1 t2.2.1 t2.2.2).2.1 (sumN t1.1 t1.2.1 t1.2.2 t2.1 t2.2.1 t2.2.2).2.2
theorem tS_fits {lo hi : Int} {t1 t2 : Bool × Nat × Int} (h1 : Fits lo hi t1.2.1 t1.2.2) (h2 : Fits lo hi t2.2.1 t2.2.2) : Fits lo (hi + 1) (tS t1 t2).2.1 (tS t1 t2).2.2 := Fits.cn (Fits.sum h1 h2)
theorem tS_okR {lo hi : Int} {t1 t2 : Bool × Nat × Int} (h1 : Fits lo hi t1.2.1 t1.2.2) (h2 : Fits lo hi t2.2.1 t2.2.2) (hb : hi + 1 - lo ≤ 65536) (hlo : -65536 ≤ lo) (hhi : hi + 1 ≤ 65536) : okR (sumN t1.1 t1.2.1 t1.2.2 t2.1 t2.2.1 t2.2.2).1 (sumN t1.1 t1.2.1 t1.2.2 t2.1 t2.2.1 t2.2.2).2.1 (sumN t1.1 t1.2.1 t1.2.2 t2.1 t2.2.1 t2.2.2).2.2 = true := (Fits.sum h1 h2).ok hb hlo hhi
theorem plus_dn {t1 t2 : Bool × Nat × Int} {X Y : Value} {w : World} (o1 : Ok t1) (o2 : Ok t2) (h1 : DN w X t1) (h2 : DN w Y t2) : Calls Tryz.prog 75 #[X, Y] w fun r w' => ∃ A, r = .returned A ∧ DN w' A (tS t1 t2) ∧ Below w.heap.size w w' := by
  obtain ⟨ao, cap, rfl, a1⟩ := h1
  obtain ⟨ao', cap', rfl, a2⟩ := h2
  obtain ⟨f1, f2, f3, -, -⟩ := o1.facts
  obtain ⟨g1, g2, g3, -, -⟩ := o2.facts
  exact (rplusG a1 a2 (cn_ok o1) (cn_ok o2) (by omega) (by omega) (by omega) (by omega) (by omega) (by omega)).mono fun r w' ⟨A, e, h, hb⟩ => ⟨A, e, h.dn, hb⟩
theorem psign {t : Bool × Nat × Int} {A : Value} {w : World} (ok : Ok t) (h : PN w A t) : Calls Tryz.prog 132 #[A] w fun r w' => r = .returned (.int .i64 (sgI t.1 (dlen t.2.1))) ∧ Below w.heap.size w w' := by
  obtain ⟨ao, cap, rfl, h1⟩ := h
  obtain ⟨f1, -, -, -, -⟩ := ok.facts
  exact sign_ok h1 (by omega) ok
theorem sgI_nought {s : Bool} {x : Nat} : (sgI s (dlen x) == 0) = decide (x = 0) := by
  unfold sgI
  by_cases h : x = 0
  · rw [if_pos (dlen_eq_zero.2 h), decide_eq_true h]; rfl
  · rw [if_neg (fun e => h (dlen_eq_zero.1 e)), decide_eq_false h]; cases s <;> rfl
theorem sig_lt {s : Bool} {n : Nat} (h : n ≤ 9218868437227405312) : sig s n < 18446744073709551616 := by
  unfold sig; cases s <;> simp <;> omega
theorem tfF_lt {s : Bool} {x : Nat} {e m : Int} (hm : 1 ≤ m ∧ m ≤ 3) : tfF s true x e m < 18446744073709551616 := by
  rw [tf_bdy hm]; exact sig_lt (bdy_le _ _ _)
theorem fin_false {a : Nat} : fin a = false ↔ ¬ mag a < 9218868437227405312 := by unfold fin; simp
theorem addX_lt {a b : Nat} (ha : a < 18446744073709551616) (hb : b < 18446744073709551616) : addX a b < 18446744073709551616 := by
  unfold addX
  repeat' split
  all_goals first | exact ha | exact hb | decide

/-- what a call of floats answers, alike X -/
def OutF2 (W : World) (X : Nat) (r : Ending) (w' : World) : Prop := ∃ n, r = .returned (.float .f64 n) ∧ lk n X ∧ Below W.heap.size W w'
end Go.Proofs.YtnalhfcpcpondaaGreatDoor
/- Sub of floats, and the walk of RoundSums. -/
namespace Go.Proofs.YtnalhfcpcpondaaGreatDoor
set_option linter.unusedVariables false
set_option linter.unusedSimpArgs false
open Go.RowKit Go.Fl64

theorem psub_1 (a b X : Nat) (m : Int) (w : World) (hb : b < 18446744073709551616) (k : Calls Tryz.prog 91 #[.float .f64 a, .float .f64 (ngt b), .int .i64 m] w fun r w' => OutF2 w X r w') :
    Calls Tryz.prog 76 #[.float .f64 a, .float .f64 b, .int .i64 m] w fun r w' => OutF2 w X r w' := by
  have hn : ∀ w, (Op.unary UnOp.neg (.float .f64 b)).run Tryz.prog w = .ok (.float .f64 (ngt b)) w := fun w => by rw [← negF b hb]; rfl
  go_enter Tryz.func76, Tryz.ntmps76
  go_wp2_with fail
  refine k.mono ?_
  rintro r w1 ⟨n, rfl, h1, h2⟩
  have HB : Hid (lk n X ∧ Below w.heap.size w w1) := ⟨h1, h2⟩
  clear k h1 h2
  go_wp2_with fail
  go_ret
  exact ⟨_, rfl, HB.out.1, HB.out.2⟩
end Go.Proofs.YtnalhfcpcpondaaGreatDoor
/- A range over a function whose rounds are told of the memory that they are handed. -/
namespace Go.Proofs.YtnalhfcpcpondaaGreatDoor
set_option linter.unusedVariables false
set_option linter.unusedSimpArgs false
open Go Go.RowKit

end Go.Proofs.YtnalhfcpcpondaaGreatDoor
/- The small functions of sums: exact, rounded. -/
namespace Go.Proofs.YtnalhfcpcpondaaGreatDoor
set_option linter.unusedVariables false
set_option linter.unusedSimpArgs false
open Go.RowKit Go.Fl64

end Go.Proofs.YtnalhfcpcpondaaGreatDoor
/- The iterator over a list's floats, as exact numbers. -/
namespace Go.Proofs.YtnalhfcpcpondaaGreatDoor
set_option linter.unusedVariables false
set_option linter.unusedSimpArgs false
open Go Go.RowKit Go.Fl64 Go.Shelf
attribute [local go_sem] Oper.semAt_some

/-- a list of floats in memory -/
def FAt (w : World) (ao : Option Addr) (len : Nat) (xs : Nat → Nat) : Prop := ∃ b off, (0 < len → ao = some ⟨b, off, none⟩) ∧ ∀ j, j < len → w.cell? ⟨b, off + j, none⟩ = some (.float .f64 (xs j))
theorem FAt.later {w w' : World} {ao : Option Addr} {len : Nat} {xs : Nat → Nat} (h : FAt w ao len xs) (hb : Below w.heap.size w w') : FAt w' ao len xs := by
  obtain ⟨b, off, h1, h2⟩ := h
  refine ⟨b, off, h1, fun j hj => ?_⟩
  have := h2 j hj
  have hlt : b < w.heap.size := by
    unfold World.cell? at this
    rcases Nat.lt_or_ge b w.heap.size with h | h
    · exact h
    · rw [Array.getElem?_eq_none h] at this
      simp at this
  exact (hb.cell (p := ⟨b, off + j, none⟩) hlt).trans this

end Go.Proofs.YtnalhfcpcpondaaGreatDoor
/- The exact sum of a list's floats. -/
namespace Go.Proofs.YtnalhfcpcpondaaGreatDoor
set_option linter.unusedVariables false
set_option linter.unusedSimpArgs false
open Go Go.RowKit Go.Fl64 Go.Shelf
attribute [local go_sem] Oper.semAt_some

/-- the sum of the first floats of a list, in its one form -/
def tSum (xs : Nat → Nat) : Nat → Bool × Nat × Int
  | 0 => (false, 0, 0)
  | k + 1 => tS (tSum xs k) (tF (xs k))

theorem cell_put {W : World} {l : Nat} {o o' : Obj} {p : Addr} {v : Value} (h : W.cell? p = some v) (hl : W.heap[l]? = some o) (ho : o.isCells = false) : (W.putObj l o').cell? p = some v := by
  unfold World.cell? at *
  by_cases e : p.block = l
  · rw [e, hl] at h
    cases o <;> simp_all [Obj.isCells]
  · rw [World.putObj_heap_other e]; exact h
theorem pn_put {W : World} {l : Nat} {o o' : Obj} {A : Value} {t : Bool × Nat × Int} (h : PN W A t) (hl : W.heap[l]? = some o) (ho : o.isCells = false) : PN (W.putObj l o') A t := by
  obtain ⟨ao, cap, h1, ao', cap', h2, h3, h4, b, off, h5, h6⟩ := h
  exact ⟨ao, cap, h1, ao', cap', h2, h3, h4, b, off, h5, fun i hi => cell_put (h6 i hi) hl ho⟩
theorem box_put {W : World} {l g : Nat} {o o' : Obj} {c : Array Value} {ty : TypeId} {z : Nat × Nat} (h : W.heap[g]? = some (.cells c ty z)) (hl : W.heap[l]? = some o) (ho : o.isCells = false) : (W.putObj l o').heap[g]? = some (.cells c ty z) := by
  have e : g ≠ l := by
    intro e
    rw [e, hl] at h
    cases h
    cases ho
  rw [World.putObj_heap_other e]; exact h
/-- what holds between two rounds: the result's box is empty, the sum's box holds the sum so far -/
def TotI (w : World) (B g3 : Nat) (xs : Nat → Nat) (k : Nat) (W : World) : Prop :=
  Below w.heap.size w W ∧ B ≤ W.heap.size ∧ W.heap[w.heap.size]? = some (.cells #[.bool false, .slice none 0 0, .int .i64 0] 95 (0, 0)) ∧ ∃ s ao n cap e, W.heap[g3]? = some (.cells #[.bool s, .slice ao n cap, .int .i64 e] 95 (0, 0)) ∧ PN W (.agg #[.bool s, .slice ao n cap, .int .i64 e]) (tSum xs k)
theorem TotI.later {w : World} {B g3 : Nat} {xs : Nat → Nat} {k : Nat} {A C : World} (h : TotI w B g3 xs k A) (hb : Below A.heap.size A C) : TotI w B g3 xs k C := by
  obtain ⟨h1, h2, h3, s, ao, n, cap, e, h4, h5⟩ := h
  exact ⟨h1.trans (hb.mono h1.size), Nat.le_trans h2 hb.size, box_later h3 hb (lt_of_box h3), s, ao, n, cap, e, box_later h4 hb (lt_of_box h4), h5.later hb⟩
theorem TotI.put {w : World} {B g3 : Nat} {xs : Nat → Nat} {k l : Nat} {A : World} {o o' : Obj} (h : TotI w B g3 xs k A) (hB : w.heap.size ≤ B) (hl : B ≤ l) (ho : A.heap[l]? = some o) (hc : o.isCells = false) : TotI w B g3 xs k (A.putObj l o') := by
  obtain ⟨h1, h2, h3, s, ao, n, cap, e, h4, h5⟩ := h
  have hb : Below w.heap.size A (A.putObj l o') := (Below.refl w.heap.size A).grown (grownBy_putObj' A l o') (by have := (Array.getElem?_eq_some_iff.1 ho).1; omega) (fun k e => by cases e; omega)
  exact ⟨h1.trans hb, Nat.le_trans h2 hb.size, box_put h3 ho hc, s, ao, n, cap, e, box_put h4 ho hc, pn_put h5 ho hc⟩
theorem KeepsFrom.below {B : Nat} {W W' : World} (h : Below W.heap.size W W') : KeepsFrom B W W' := ⟨h.size, fun k o _ hk _ => box_later hk h (Array.getElem?_eq_some_iff.1 hk).1⟩

end Go.Proofs.YtnalhfcpcpondaaGreatDoor
/- sums.taken, sums.finite, sums.near. -/
namespace Go.Proofs.YtnalhfcpcpondaaGreatDoor
set_option linter.unusedVariables false
set_option linter.unusedSimpArgs false
open Go.RowKit Go.Fl64

/-- a number of the program in its box, made since a world -/
def UxP (w3 wc : World) (g : Nat) (s : Bool) (ao : Option Addr) (n cap : Nat) (ex : Int) (t : Bool × Nat × Int) : Prop := wc.heap[g]? = some (.cells #[.bool s, .slice ao n cap, .int .i64 ex] 95 (0, 0)) ∧ w3.heap.size ≤ g ∧ Below w3.heap.size w3 wc ∧ PN wc (.agg #[.bool s, .slice ao n cap, .int .i64 ex]) t
theorem UxP.new {w3 w7 : World} {s : Bool} {ao : Option Addr} {n cap : Nat} {ex : Int} {t : Bool × Nat × Int} (hn : PN w7 (.agg #[.bool s, .slice ao n cap, .int .i64 ex]) t) (hb : Below w3.heap.size w3 w7) : UxP w3 (w7.alloc (.cells #[.bool s, .slice ao n cap, .int .i64 ex] 95)) w7.heap.size s ao n cap ex t :=
  ⟨heap_alloc_new _ _, hb.size, hb.alloc hb.size _, hn.later ((Below.refl _ _).alloc (Nat.le_refl _) _)⟩
theorem UxP.put {w3 w7 : World} {g : Nat} {s : Bool} {ao : Option Addr} {n cap : Nat} {ex : Int} {t : Bool × Nat × Int} (hn : PN w7 (.agg #[.bool s, .slice ao n cap, .int .i64 ex]) t) (hb : Below w3.heap.size w3 w7) (hg : w3.heap.size ≤ g) (hbx : w7.heap[g]? = some (.cells #[.bool false, .slice none 0 0, .int .i64 0] 95 (0, 0))) :
    UxP w3 (((w7.setCell ⟨g, 0, none⟩ (.bool s)).setCell ⟨g, 1, none⟩ (.slice ao n cap)).setCell ⟨g, 2, none⟩ (.int .i64 ex)) g s ao n cap ex t :=
  ⟨store3 _ _ _ hbx, hg, below_store3 hb hg _ _ _, pn_store hn hbx _ _ _⟩

end Go.Proofs.YtnalhfcpcpondaaGreatDoor
/- sums.finite, sums.near, sums.floats, sums.Two. -/
namespace Go.Proofs.YtnalhfcpcpondaaGreatDoor
set_option linter.unusedVariables false
set_option linter.unusedSimpArgs false
open Go.RowKit Go.Fl64

end Go.Proofs.YtnalhfcpcpondaaGreatDoor
/- The sum of two floats to the nearest, as a function; sums.near and the document's add. -/
namespace Go.Proofs.YtnalhfcpcpondaaGreatDoor
set_option linter.unusedVariables false
set_option linter.unusedSimpArgs false
open Go.RowKit Go.Fl64

theorem lk_or {n X : Nat} (h : lk n X) : n = X ∨ (isNaN n = true ∧ isNaN X = true) := by
  cases hn : isNaN X
  · exact .inl (h.eq hn)
  · cases h2 : isNaN n
    · have := h.2
      unfold same at this
      rw [hn, h2] at this
      have e : n = X := by simp at this; omega
      rw [e, hn] at h2
      cases h2
    · exact .inr ⟨rfl, rfl⟩
end Go.Proofs.YtnalhfcpcpondaaGreatDoor
/- The program's Div of floats where something is to be rounded. -/
namespace Go.Proofs.YtnalhfcpcpondaaGreatDoor
set_option linter.unusedVariables false
set_option linter.unusedSimpArgs false
open Go.RowKit Go.Fl64

/-- how many digits are laid behind the dividend -/
def rtK (t1 t2 : Bool × Nat × Int) : Nat := (max 0 (64 + (bl t2.2.1 : Int) - (bl t1.2.1 : Int))).toNat
/-- the quotient, rounded -/
def rtF (t1 t2 : Bool × Nat × Int) (m : Int) : Nat := tfF (t1.1 != t2.1) (decide (t1.2.1 * 2 ^ rtK t1 t2 % t2.2.1 = 0)) (t1.2.1 * 2 ^ rtK t1 t2 / t2.2.1) (t1.2.2 - t2.2.2 - rtK t1 t2) m
theorem pratio {t1 t2 : Bool × Nat × Int} {X Y : Value} {m : Int} {w : World} (hT : Tab32 w) (o1 : Ok t1) (o2 : Ok t2) (h1 : PN w X t1) (h2 : PN w Y t2) (x0 : t1.2.1 ≠ 0) (y0 : t2.2.1 ≠ 0) (hm : 1 ≤ m ∧ m ≤ 3) :
    Calls Tryz.prog 100 #[X, Y, .int .i64 m] w fun r w' => r = .returned (.tuple #[.float .f64 (rtF t1 t2 m), .int .i64 0]) ∧ Below w.heap.size w w' := by
  obtain ⟨pa, pc, rfl, i1⟩ := h1
  obtain ⟨qa, qc, rfl, i2⟩ := h2
  have f1 := o1.facts
  have f2 := o2.facts
  have bx := bl_le_dlen t1.2.1
  have by' := bl_le_dlen t2.2.1
  have hn0 : ((dlen t1.2.1 : Int) == 0) = false := by
    have : dlen t1.2.1 ≠ 0 := fun e => x0 (dlen_eq_zero.1 e)
    simp; omega
  have hn1 : ((dlen t2.2.1 : Int) == 0) = false := by
    have : dlen t2.2.1 ≠ 0 := fun e => y0 (dlen_eq_zero.1 e)
    simp; omega
  have hk : max 0 (64 + (bl t2.2.1 : Int) - (bl t1.2.1 : Int)) = (rtK t1 t2 : Int) := by unfold rtK; omega
  refine pratio_1 t1.1 t2.1 pa qa _ pc _ qc _ _ (rtK t1 t2) (bl t1.2.1) (bl t2.2.1) t1.2.2 t2.2.2 m (t1.1 != t2.1) w (rfl : (!(t1.1 == t2.1)) = (t1.1 != t2.1)) hT i1 i2 (by omega) (by omega) y0 (by omega) (by omega) (by omega) (by omega) (by omega) rfl rfl (by omega) (by omega) hk (by omega) hn0 hn1 (fun W' g hW' hg => ?_)
  have := maybe2 hg (i1.later hW') (i2.later hW') (by omega) (by omega)
  rw [show okN t1.1 (dlen t1.2.1) t1.2.1 t1.2.2 = true from o1, show okN t2.1 (dlen t2.2.1) t2.2.1 t2.2.2 = true from o2] at this
  exact this

theorem ne_nought {a : Nat} (ha : a < 18446744073709551616) (hf : mag a < 9218868437227405312) : (FloatKind.f64.format.order a 0 != some Ordering.eq) = decide (mag a ≠ 0) := by
  rw [bne, ord_eq a 0 ha (by decide)]
  have na : isNaN a = false := by unfold isNaN; simp; omega
  have nb : isNaN 0 = false := by decide
  unfold Fl64.eq
  rw [na, nb]
  have e0 : stp 0 = 0 := by decide
  rw [e0]
  by_cases h : mag a = 0
  · have : stp a = 0 := by unfold stp sgn; rw [h]; simp
    simp [this, h]
  · have : stp a ≠ 0 := by unfold stp sgn; split <;> omega
    simp [this, h]
theorem pplain_y (a : Nat) (ha : a < 18446744073709551616) (hf : mag a < 9218868437227405312) (h0 : mag a ≠ 0) (w : World) : Calls Tryz.prog 95 #[.float .f64 a] w fun r w' => r = .returned (.bool true) ∧ w' = w := by
  have k := pfin_y a ha hf
  have he := ne_nought ha hf
  rw [decide_eq_true h0] at he
  clear ha hf h0
  go_enter Tryz.func95, Tryz.ntmps95
  go_wp2_with (go_at_call 130; refine (k _).mono ?_; rintro e w' ⟨rfl, rfl⟩)
  go_ret
  exact ⟨rfl, rfl⟩
theorem pplain_z (a : Nat) (ha : a < 18446744073709551616) (h0 : mag a = 0) (w : World) : Calls Tryz.prog 95 #[.float .f64 a] w fun r w' => r = .returned (.bool false) ∧ w' = w := by
  have k := pfin_y a ha (by omega)
  have he := ne_nought ha (by omega)
  rw [decide_eq_false (by omega)] at he
  clear ha h0
  go_enter Tryz.func95, Tryz.ntmps95
  go_wp2_with (go_at_call 130; refine (k _).mono ?_; rintro e w' ⟨rfl, rfl⟩)
  go_ret
  exact ⟨rfl, rfl⟩
theorem pplain_n (a : Nat) (ha : a < 18446744073709551616) (hf : ¬ mag a < 9218868437227405312) (w : World) : Calls Tryz.prog 95 #[.float .f64 a] w fun r w' => r = .returned (.bool false) ∧ w' = w.drew := by
  have k := pfin_n a ha hf w
  clear ha hf
  go_enter Tryz.func95, Tryz.ntmps95
  go_wp2_with fail
  refine k.mono ?_
  rintro e w' ⟨rfl, hw⟩
  rw [hw]
  clear hw k w'
  go_wp2
  go_ret
  exact ⟨rfl, rfl⟩

set_option maxHeartbeats 4000000 in
set_option maxRecDepth 200000 in
theorem pdiv_r (a b F : Nat) (m : Int) (ta tb : Bool × Nat × Int) (w : World) (hm : isM m = true)
    (hfa : ∀ W, Calls Tryz.prog 95 #[.float .f64 a] W fun r w' => r = .returned (.bool true) ∧ w' = W)
    (hfb : ∀ W, Calls Tryz.prog 95 #[.float .f64 b] W fun r w' => r = .returned (.bool true) ∧ w' = W)
    (kA : Calls Tryz.prog 98 #[.float .f64 a] w fun r w' => OutA w ta r w')
    (kB : ∀ W, Below w.heap.size w W → Calls Tryz.prog 98 #[.float .f64 b] W fun r w' => OutA W tb r w')
    (kC : ∀ W X Y, Below w.heap.size w W → PN W X ta → PN W Y tb → Calls Tryz.prog 100 #[X, Y, .int .i64 m] W fun r w' => r = .returned (.tuple #[.float .f64 F, .int .i64 0]) ∧ Below W.heap.size W w') :
    Calls Tryz.prog 63 #[.float .f64 a, .float .f64 b, .int .i64 m] w fun r w' => r = .returned (.float .f64 F) ∧ Below w.heap.size w w' := by
  have kV := pvalid m w
  rw [hm] at kV
  have HKB : Hid (∀ W, Below w.heap.size w W → Calls Tryz.prog 98 #[.float .f64 b] W fun r w' => OutA W tb r w') := kB
  have HKC : Hid (∀ W X Y, Below w.heap.size w W → PN W X ta → PN W Y tb → Calls Tryz.prog 100 #[X, Y, .int .i64 m] W fun r w' => r = .returned (.tuple #[.float .f64 F, .int .i64 0]) ∧ Below W.heap.size W w') := kC
  clear kB kC
  go_enter Tryz.func63, Tryz.ntmps63
  go_wp2_with fail
  refine kV.mono ?_
  rintro r w' ⟨rfl, hw⟩
  rw [hw]
  clear hw kV
  have kN := hfa w
  go_wp2_with fail
  refine kN.mono ?_
  rintro r w' ⟨rfl, hw⟩
  rw [hw]
  clear hw kN hfa
  have kN := hfb w
  go_wp2_with fail
  refine kN.mono ?_
  rintro r w' ⟨rfl, hw⟩
  rw [hw]
  clear hw kN hfb
  go_wp2_with fail
  refine kA.mono ?_
  rintro r w1 ⟨s1, ao1, n1, cap1, ex1, rfl, hP1, hb1⟩
  have k2 := HKB.out w1 hb1
  clear kA
  go_wp2_with fail
  refine k2.mono ?_
  rintro r w2 ⟨s2, ao2, n2, cap2, ex2, rfl, hP2, hb2⟩
  have HB2 : Hid (Below w.heap.size w w2) := hb1.trans (hb2.mono hb1.size)
  have k3 := HKC.out w2 _ _ HB2.out (hP1.later hb2) hP2
  clear k2 hP1 hP2 hb1 hb2
  go_wp2_with fail
  refine k3.mono ?_
  rintro r w3 ⟨rfl, hb3⟩
  have HB3 : Hid (Below w.heap.size w w3) := HB2.out.trans (hb3.mono HB2.out.size)
  clear k3 hb3
  go_wp2_with fail
  go_ret
  exact ⟨rfl, HB3.out⟩

/-- Div of two floats that are finite and not nought -/
theorem pdiv_ok (a b : Nat) (m : Int) (w : World) (hm : isM m = true) (hT : Tab32 w) (hI : Ie.Tab w) (ha : a < 18446744073709551616) (hb : b < 18446744073709551616) (hfa : mag a < 9218868437227405312) (hfb : mag b < 9218868437227405312) (ha0 : mag a ≠ 0) (hb0 : mag b ≠ 0) (xa : (tF a).2.1 ≠ 0) (xb : (tF b).2.1 ≠ 0) :
    Calls Tryz.prog 63 #[.float .f64 a, .float .f64 b, .int .i64 m] w fun r w' => r = .returned (.float .f64 (rtF (tF a) (tF b) m)) ∧ Below w.heap.size w w' :=
  pdiv_r a b _ m (tF a) (tF b) w hm (pplain_y a ha hfa ha0) (pplain_y b hb hfb hb0) (exact_ok a ha hfa w hT hI) (fun W h => exact_ok b hb hfb W (hT.later h) (Tab.later hI h)) (fun W X Y h h1 h2 => pratio (hT.later h) (tF_ok a) (tF_ok b) h1 h2 xa xb (isM_iff.1 hm))
theorem tF_ne {a : Nat} (h : mag a ≠ 0) : (tF a).2.1 ≠ 0 := by
  have h1 := Ie.mant_ne h
  unfold tF cn
  rw [if_neg h1]
  intro e
  have := (tz_spec _ _ (Nat.le_refl _) h1).2
  simp only at e
  rw [e] at this
  simp at this
end Go.Proofs.YtnalhfcpcpondaaGreatDoor
/- The program's Hypot of finite floats. -/
namespace Go.Proofs.YtnalhfcpcpondaaGreatDoor
set_option linter.unusedVariables false
set_option linter.unusedSimpArgs false
open Go.RowKit Go.Fl64

end Go.Proofs.YtnalhfcpcpondaaGreatDoor
/- Hypot of 3 and 4, and a float made whole: what the law's own test asks. -/
namespace Go.Proofs.YtnalhfcpcpondaaGreatDoor
set_option linter.unusedVariables false
set_option linter.unusedSimpArgs false
open Go.RowKit Go.Fl64

/-- the product of two numbers, in its one form -/
def tM (t1 t2 : Bool × Nat × Int) : Bool × Nat × Int := cn (!(t1.1 == t2.1)) (t1.2.1 * t2.2.1) (t1.2.2 + t2.2.2)
theorem tM_ok {t1 t2 : Bool × Nat × Int} (h : okR (!(t1.1 == t2.1)) (t1.2.1 * t2.2.1) (t1.2.2 + t2.2.2) = true) : Ok (tM t1 t2) := ok_cn h
end Go.Proofs.YtnalhfcpcpondaaGreatDoor
