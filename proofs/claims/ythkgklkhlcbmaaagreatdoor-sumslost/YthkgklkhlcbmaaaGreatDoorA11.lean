/- Own work: contracts of the program's functions, part 11: RT7 RY1 RY2 RY3 RY4 FM6 FM7 FM8 RY5 SA7 SA8 SA9 UA1 UA2 UA3. -/
import Derived.Test.YthkgklkhlcbmaaaGreatDoorA8
import Derived.Test.YthkgklkhlcbmaaaGreatDoorA9
import Derived.Test.YthkgklkhlcbmaaaGreatDoorA10
import Derived.Test.YthkgklkhlcbmaaaGreatDoorA7
import Derived.Test.YthkgklkhlcbmaaaGreatDoorA6
import Derived.Test.YthkgklkhlcbmaaaGreatDoorA5
import Derived.RangeFuncNested
import Derived.RangeFuncBound
import Derived.RangeFuncCalls
import Derived.RangeFuncLeaves
import Derived.Test.YthkgklkhlcbmaaaGreatDoorA2
import Derived.Shelf.Abstract
import Derived.Shelf.RegionOpen
import Derived.WalkKit
import Derived.OwnWalkIn
import Derived.TacticsInMore
import Derived.LoopNIn
import Derived.LoopIn

set_option maxHeartbeats 16000000
namespace Go.Proofs.YthkgklkhlcbmaaaGreatDoor
set_option linter.unusedVariables false
set_option linter.unusedSimpArgs false
open Go.RowKit Go.Fl64
open Ie
theorem and1_32 {d X : Nat} (h : d = X % B) : (bits BinOp.and IntKind.u32 (d : Int) 1 == 1) = (X % 2 == 1) := by
  have hB : B = 4294967296 := rfl
  have h2 := u32_and_nat d 1 (by rw [h, hB]; omega) (by decide)
  rw [show ((1 : Nat) : Int) = 1 from rfl] at h2
  rw [h2, Nat.and_one_is_mod, h, show X % B % 2 = X % 2 by rw [hB]; omega]
  rcases Nat.mod_two_eq_zero_or_one X with h | h <;> rw [h] <;> rfl
theorem and1_64 {X : Nat} (h : X < 9007199254740992) : (bits BinOp.and IntKind.u64 (X : Int) 1 == 1) = (X % 2 == 1) := by
  have h2 := u64_and_nat X 1 (by omega) (by decide)
  rw [show ((1 : Nat) : Int) = 1 from rfl] at h2
  rw [h2, Nat.and_one_is_mod]
  rcases Nat.mod_two_eq_zero_or_one X with h | h <;> rw [h] <;> rfl
theorem neq53 {n : Nat} (h : n ≠ 9007199254740992) : ((n : Int) == 9007199254740992) = false := by
  have : ((n : Nat) : Int) ≠ 9007199254740992 := by omega
  simpa using this
theorem tE_max (x : Nat) (E : Int) : max ((bl x : Int) + E - 53) (-1074) = tE x E := by unfold tE; split <;> omega
theorem kd1 {w : World} {ua : Option Addr} {uc x : Nat} (h : At w ua (dlen x) x) (hc : dlen x ≤ uc) (hl : dlen x ≤ 100000) {i : Int} {k : Nat} (hi : i = (k : Int)) (hk : k ≤ 10000000) :
    ∀ W, Below w.heap.size w W → Calls Tryz.prog 103 #[.slice ua (dlen x) uc, .int .i64 i] W fun r w' => ∃ v bb, r = .returned (.tuple #[v, .bool bb]) ∧ Ir w' v (x / 2 ^ k) ∧ Below W.heap.size W w' := by
  intro W hW
  subst hi
  refine (rdown (v := .slice ua (dlen x) uc) (⟨ua, uc, rfl, hc, h.later hW⟩ : Ir W _ x) k (by omega) (by omega)).mono ?_
  rintro r w' ⟨ao, cap', rfl, hA, hc', hB⟩
  exact ⟨_, _, rfl, ⟨ao, cap', rfl, hc', hA⟩, hB⟩
theorem kd2Z {w : World} {ua : Option Addr} {uc x : Nat} (h : At w ua (dlen x) x) (hc : dlen x ≤ uc) (hl : dlen x ≤ 100000) {i : Int} {k : Nat} (hi : i = (k : Int)) (hk : k ≤ 10000000) (hz : x / 2 ^ k = 0) :
    ∀ W, Below w.heap.size w W → Calls Tryz.prog 103 #[.slice ua (dlen x) uc, .int .i64 i] W fun r w' => ∃ ao cap', r = .returned (.tuple #[.slice ao 0 cap', .bool (decide (x % 2 ^ k = 0))]) ∧ Below W.heap.size W w' := by
  intro W hW
  subst hi
  refine (rdown (v := .slice ua (dlen x) uc) (⟨ua, uc, rfl, hc, h.later hW⟩ : Ir W _ x) k (by omega) (by omega)).mono ?_
  rintro r w' ⟨ao, cap', rfl, hA, hc', hB⟩
  rw [hz, dlen_zero]
  exact ⟨_, _, rfl, hB⟩
theorem kd2P {w : World} {ua : Option Addr} {uc x : Nat} (h : At w ua (dlen x) x) (hc : dlen x ≤ uc) (hl : dlen x ≤ 100000) {i : Int} {k : Nat} (hi : i = (k : Int)) (hk : k ≤ 10000000) (hz : x / 2 ^ k ≠ 0) {ex : Bool} (hex : decide (x % 2 ^ k = 0) = ex) :
    ∀ W, Below w.heap.size w W → Calls Tryz.prog 103 #[.slice ua (dlen x) uc, .int .i64 i] W fun r w' => ∃ b o n2 cap', r = .returned (.tuple #[.slice (some ⟨b, o, none⟩) (n2 : Nat) cap', .bool ex]) ∧ (0 : Int) < (n2 : Int) ∧ n2 ≤ 1000000000 ∧ w'.cell? ⟨b, o, none⟩ = some (.int .u32 (dg (x / 2 ^ k) 0 : Nat)) ∧ Below W.heap.size W w' := by
  intro W hW
  subst hi
  subst hex
  refine (rdown (v := .slice ua (dlen x) uc) (⟨ua, uc, rfl, hc, h.later hW⟩ : Ir W _ x) k (by omega) (by omega)).mono ?_
  rintro r w' ⟨ao, cap', rfl, ⟨b, o, hb, hcell⟩, hc', hB⟩
  have hp : 0 < dlen (x / 2 ^ k) := Nat.pos_of_ne_zero fun e => hz (dlen_eq_zero.1 e)
  obtain rfl := hb hp
  have hle : dlen (x / 2 ^ k) ≤ dlen x := dlen_mono (Nat.div_le_self _ _)
  have c0 := hcell 0 hp
  rw [Nat.add_zero] at c0
  exact ⟨b, o, _, cap', rfl, by omega, by omega, c0, hB⟩
theorem rto_1f {ua : Option Addr} {uc x : Nat} {ea : Int} {w : World} (h : At w ua (dlen x) x) (hc : dlen x ≤ uc) (hodd : x % 2 = 1) (hl : dlen x ≤ 100000) (he1 : -4000000 ≤ ea) (he2 : ea ≤ 4000000) :
    Calls Tryz.prog 60 #[.agg #[.bool false, .slice ua (dlen x) uc, .int .i64 ea], .int .i64 1] w fun r w' => r = .returned (.float .f64 (sig false (bdy x ea 0))) ∧ Below w.heap.size w w' := by
  have h0 : x ≠ 0 := by omega
  have hw : (0 : Nat) = 0 ∨ (0 : Nat) = 1 ∨ (0 : Nat) = 2 := by omega
  have hn0 : ((dlen x : Int) == 0) = false := len_ne (n := 0) h0
  have hbl : bl x ≤ 32 * dlen x := bl_le_dlen x
  have hb1 := bl_ne h0
  have kH : ∀ W, Below w.heap.size w W → Calls Tryz.prog 98 #[.agg #[.bool false, .slice ua (dlen x) uc, .int .i64 ea]] W fun r w' => r = .returned (.int .i64 ((bl x : Int) + ea)) ∧ Below W.heap.size W w' := fun W hW => rhigh (h.later hW) h0 (by omega) ⟨he1, he2⟩
  by_cases ht : 1024 < (bl x : Int) + ea
  · rw [bdy_big h0 ht hw]
    exact rto_big_1f _ _ _ _ _ _ _ hn0 ht kH (fun W => rbuild (M := 9007199254740991) (e := 971) (by omega) (by omega) (by omega) (.inr (by omega)))
  · have ht' : (bl x : Int) + ea ≤ 1024 := by omega
    have hmx := tE_max x ea
    obtain ⟨h21, h22⟩ := tE_bounds ht'
    by_cases hge : tE x ea ≤ ea
    · obtain ⟨hb, hlt, hg⟩ := bdy_up h0 ht' hge hw
      rw [hb]
      obtain ⟨k, hk⟩ : ∃ k : Nat, k = (ea - tE x ea).toNat := ⟨_, rfl⟩
      have hi : ea - tE x ea = (k : Int) := by omega
      rw [← hk] at hlt hg ⊢
      refine rto_up_1f (ua := ua) (un := dlen x) (uc := uc) (ea := ea) (e2 := tE x ea) (t := (bl x : Int) + ea) (w := w) (F := _) (hn0 := hn0) (ht := ht') (ht3 := by omega) (he1 := he1) (he2 := he2) (hmx := hmx) (h21 := h21) (h22 := h22) (hge := hge) (X := x * 2 ^ k) (hX := hlt) (kH := kH) (kU := fun W hW => ?_) (kB := fun W => rbuild hlt h21 h22 hg)
      rw [hi]
      exact rup ⟨ua, uc, rfl, hc, h.later hW⟩ k (by omega) (by omega)
    · have hlt : ea < tE x ea := by omega
      by_cases ht2 : (bl x : Int) + ea < -1075
      · rw [bdy_tiny h0 ht2 hw, if_neg (by decide)]
        exact rto_tiny_1f (ua := ua) (un := dlen x) (uc := uc) (ea := ea) (e2 := tE x ea) (t := (bl x : Int) + ea) (w := w) (F := _) (hn0 := hn0) (ht := ht') (ht3 := by omega) (he1 := he1) (he2 := he2) (hmx := hmx) (h21 := h21) (h22 := h22) (hge := hge) (ht2 := ht2) (kH := kH) (kB := fun W => rbuild_0 false 0 (-1074) W (by omega))
      · obtain ⟨k, hk⟩ : ∃ k : Nat, k = (tE x ea - ea).toNat := ⟨_, rfl⟩
        have hk1 : 1 ≤ k := by omega
        have hi : tE x ea - ea = (k : Int) := by omega
        have hi2 : tE x ea - ea - 1 = ((k - 1 : Nat) : Int) := by omega
        have hkb : k ≤ 10000000 := by unfold tE at hk; split at hk <;> omega
        obtain ⟨n, hn⟩ : ∃ n, n = if dnU x (tE x ea - ea).toNat 0 then x / 2 ^ (tE x ea - ea).toNat + 1 else x / 2 ^ (tE x ea - ea).toNat := ⟨_, rfl⟩
        obtain ⟨hn1, hn2, hb, hX⟩ := bdy_dn hodd ht' hlt hw hn
        rw [← hk] at hn hX
        rw [hb]
        have k1 := kd1 h hc hl hi hkb
        have hdd := and1_32 (d := dg (x / 2 ^ (k - 1)) 0) (X := x / 2 ^ (k - 1)) (dg_zero _)
        have hod := and1_64 hX
        have ht2' : -1075 ≤ (bl x : Int) + ea := by omega
        have hv : n = x / 2 ^ k := by rw [hn]; simp [dnU]
        by_cases hz : x / 2 ^ (k - 1) = 0
        · rw [hv] at hn1 hn2 ⊢
          exact rto_gen_1f_Zxxx0 (ua := ua) (un := dlen x) (uc := uc) (ea := ea) (e2 := tE x ea) (t := (bl x : Int) + ea) (w := w) (hn0 := hn0) (ht := ht') (ht3 := by omega) (he1 := he1) (he2 := he2) (hmx := hmx) (h21 := h21) (h22 := h22) (hge := hge) (ht2 := ht2') (kH := kH) (X := x / 2 ^ k) (F := _) (hX := hX) (hne := neq53 (by omega)) (kD1 := k1) (kD2 := kd2Z h hc hl hi2 (by omega) hz) (ex := decide (x % 2 ^ (k - 1) = 0)) (kB := fun W => rbuild hX h21 h22 hn2)
        · rw [hv] at hn1 hn2 ⊢
          exact rto_gen_1f_Pxxx0 (ua := ua) (un := dlen x) (uc := uc) (ea := ea) (e2 := tE x ea) (t := (bl x : Int) + ea) (w := w) (hn0 := hn0) (ht := ht') (ht3 := by omega) (he1 := he1) (he2 := he2) (hmx := hmx) (h21 := h21) (h22 := h22) (hge := hge) (ht2 := ht2') (kH := kH) (X := x / 2 ^ k) (F := _) (hX := hX) (hne := neq53 (by omega)) (kD1 := k1) (kD2 := kd2P h hc hl hi2 (by omega) hz rfl) (dd := dg (x / 2 ^ (k - 1)) 0) (ex := decide (x % 2 ^ (k - 1) = 0)) (kB := fun W => rbuild hX h21 h22 hn2)
theorem rto_1t {ua : Option Addr} {uc x : Nat} {ea : Int} {w : World} (h : At w ua (dlen x) x) (hc : dlen x ≤ uc) (hodd : x % 2 = 1) (hl : dlen x ≤ 100000) (he1 : -4000000 ≤ ea) (he2 : ea ≤ 4000000) :
    Calls Tryz.prog 60 #[.agg #[.bool true, .slice ua (dlen x) uc, .int .i64 ea], .int .i64 1] w fun r w' => r = .returned (.float .f64 (sig true (bdy x ea 2))) ∧ Below w.heap.size w w' := by
  have h0 : x ≠ 0 := by omega
  have hw : (2 : Nat) = 0 ∨ (2 : Nat) = 1 ∨ (2 : Nat) = 2 := by omega
  have hn0 : ((dlen x : Int) == 0) = false := len_ne (n := 0) h0
  have hbl : bl x ≤ 32 * dlen x := bl_le_dlen x
  have hb1 := bl_ne h0
  have kH : ∀ W, Below w.heap.size w W → Calls Tryz.prog 98 #[.agg #[.bool true, .slice ua (dlen x) uc, .int .i64 ea]] W fun r w' => r = .returned (.int .i64 ((bl x : Int) + ea)) ∧ Below W.heap.size W w' := fun W hW => rhigh (h.later hW) h0 (by omega) ⟨he1, he2⟩
  by_cases ht : 1024 < (bl x : Int) + ea
  · rw [bdy_big h0 ht hw]
    exact rto_big_1t _ _ _ _ _ _ hn0 ht kH
  · have ht' : (bl x : Int) + ea ≤ 1024 := by omega
    have hmx := tE_max x ea
    obtain ⟨h21, h22⟩ := tE_bounds ht'
    by_cases hge : tE x ea ≤ ea
    · obtain ⟨hb, hlt, hg⟩ := bdy_up h0 ht' hge hw
      rw [hb]
      obtain ⟨k, hk⟩ : ∃ k : Nat, k = (ea - tE x ea).toNat := ⟨_, rfl⟩
      have hi : ea - tE x ea = (k : Int) := by omega
      rw [← hk] at hlt hg ⊢
      refine rto_up_1t (ua := ua) (un := dlen x) (uc := uc) (ea := ea) (e2 := tE x ea) (t := (bl x : Int) + ea) (w := w) (F := _) (hn0 := hn0) (ht := ht') (ht3 := by omega) (he1 := he1) (he2 := he2) (hmx := hmx) (h21 := h21) (h22 := h22) (hge := hge) (X := x * 2 ^ k) (hX := hlt) (kH := kH) (kU := fun W hW => ?_) (kB := fun W => rbuild hlt h21 h22 hg)
      rw [hi]
      exact rup ⟨ua, uc, rfl, hc, h.later hW⟩ k (by omega) (by omega)
    · have hlt : ea < tE x ea := by omega
      by_cases ht2 : (bl x : Int) + ea < -1075
      · rw [bdy_tiny h0 ht2 hw, if_pos rfl]
        exact rto_tiny_1t (ua := ua) (un := dlen x) (uc := uc) (ea := ea) (e2 := tE x ea) (t := (bl x : Int) + ea) (w := w) (F := _) (hn0 := hn0) (ht := ht') (ht3 := by omega) (he1 := he1) (he2 := he2) (hmx := hmx) (h21 := h21) (h22 := h22) (hge := hge) (ht2 := ht2) (kH := kH) (kB := fun W => rbuild_0 true 1 (-1074) W (by omega))
      · obtain ⟨k, hk⟩ : ∃ k : Nat, k = (tE x ea - ea).toNat := ⟨_, rfl⟩
        have hk1 : 1 ≤ k := by omega
        have hi : tE x ea - ea = (k : Int) := by omega
        have hi2 : tE x ea - ea - 1 = ((k - 1 : Nat) : Int) := by omega
        have hkb : k ≤ 10000000 := by unfold tE at hk; split at hk <;> omega
        obtain ⟨n, hn⟩ : ∃ n, n = if dnU x (tE x ea - ea).toNat 2 then x / 2 ^ (tE x ea - ea).toNat + 1 else x / 2 ^ (tE x ea - ea).toNat := ⟨_, rfl⟩
        obtain ⟨hn1, hn2, hb, hX⟩ := bdy_dn hodd ht' hlt hw hn
        rw [← hk] at hn hX
        rw [hb]
        have k1 := kd1 h hc hl hi hkb
        have hdd := and1_32 (d := dg (x / 2 ^ (k - 1)) 0) (X := x / 2 ^ (k - 1)) (dg_zero _)
        have hod := and1_64 hX
        have ht2' : -1075 ≤ (bl x : Int) + ea := by omega
        have hv : n = x / 2 ^ k + 1 := by rw [hn]; simp [dnU]
        by_cases hz : x / 2 ^ (k - 1) = 0
        · rw [hv] at hn1 hn2 ⊢
          by_cases h53 : x / 2 ^ k + 1 = 9007199254740992
          · have hXv : x / 2 ^ k = 9007199254740991 := by omega
            rw [hXv] at k1
            by_cases h9 : tE x ea = 971
            · rw [h53, show ((tE x ea + 1074).toNat * 4503599627370496 + 9007199254740992) = 9218868437227405312 by omega]
              exact rto_gen_1t_Zxxx3 (ua := ua) (un := dlen x) (uc := uc) (ea := ea) (e2 := tE x ea) (t := (bl x : Int) + ea) (w := w) (hn0 := hn0) (ht := ht') (ht3 := by omega) (he1 := he1) (he2 := he2) (hmx := hmx) (h21 := h21) (h22 := h22) (hge := hge) (ht2 := ht2') (kH := kH) (hnx := h9) (kD1 := k1) (kD2 := kd2Z h hc hl hi2 (by omega) hz) (ex := decide (x % 2 ^ (k - 1) = 0))
            · rw [h53, show ((tE x ea + 1074).toNat * 4503599627370496 + 9007199254740992) = (tE x ea + 1 + 1074).toNat * 4503599627370496 + 4503599627370496 by omega]
              exact rto_gen_1t_Zxxx2 (ua := ua) (un := dlen x) (uc := uc) (ea := ea) (e2 := tE x ea) (t := (bl x : Int) + ea) (w := w) (hn0 := hn0) (ht := ht') (ht3 := by omega) (he1 := he1) (he2 := he2) (hmx := hmx) (h21 := h21) (h22 := h22) (hge := hge) (ht2 := ht2') (kH := kH) (hnx := by omega) (kD1 := k1) (kD2 := kd2Z h hc hl hi2 (by omega) hz) (ex := decide (x % 2 ^ (k - 1) = 0)) (kB := fun W => rbuild (M := 4503599627370496) (e := tE x ea + 1) (by omega) (by omega) (by omega) (.inr (by omega))) (F := _)
          · have kB : ∀ W, Calls Tryz.prog 101 #[.bool true, .int .u64 (((x / 2 ^ k : Nat) : Int) + 1), .int .i64 (tE x ea)] W fun r w' => r = .returned (.float .f64 (sig true ((tE x ea + 1074).toNat * 4503599627370496 + (x / 2 ^ k + 1)))) ∧ w' = W := fun W => by
              rw [show (((x / 2 ^ k : Nat) : Int) + 1) = ((x / 2 ^ k + 1 : Nat) : Int) by omega]
              exact rbuild (by omega) h21 h22 hn2
            have hne : (((x / 2 ^ k : Nat) : Int) + 1 == 9007199254740992) = false := by
              rw [show (((x / 2 ^ k : Nat) : Int) + 1) = ((x / 2 ^ k + 1 : Nat) : Int) by omega]
              exact neq53 h53
            exact rto_gen_1t_Zxxx1 (ua := ua) (un := dlen x) (uc := uc) (ea := ea) (e2 := tE x ea) (t := (bl x : Int) + ea) (w := w) (hn0 := hn0) (ht := ht') (ht3 := by omega) (he1 := he1) (he2 := he2) (hmx := hmx) (h21 := h21) (h22 := h22) (hge := hge) (ht2 := ht2') (kH := kH) (X := x / 2 ^ k) (F := _) (hX := hX) (hne := hne) (kD1 := k1) (kD2 := kd2Z h hc hl hi2 (by omega) hz) (ex := decide (x % 2 ^ (k - 1) = 0)) (kB := kB)
        · rw [hv] at hn1 hn2 ⊢
          by_cases h53 : x / 2 ^ k + 1 = 9007199254740992
          · have hXv : x / 2 ^ k = 9007199254740991 := by omega
            rw [hXv] at k1
            by_cases h9 : tE x ea = 971
            · rw [h53, show ((tE x ea + 1074).toNat * 4503599627370496 + 9007199254740992) = 9218868437227405312 by omega]
              exact rto_gen_1t_Pxxx3 (ua := ua) (un := dlen x) (uc := uc) (ea := ea) (e2 := tE x ea) (t := (bl x : Int) + ea) (w := w) (hn0 := hn0) (ht := ht') (ht3 := by omega) (he1 := he1) (he2 := he2) (hmx := hmx) (h21 := h21) (h22 := h22) (hge := hge) (ht2 := ht2') (kH := kH) (hnx := h9) (kD1 := k1) (kD2 := kd2P h hc hl hi2 (by omega) hz rfl) (dd := dg (x / 2 ^ (k - 1)) 0) (ex := decide (x % 2 ^ (k - 1) = 0))
            · rw [h53, show ((tE x ea + 1074).toNat * 4503599627370496 + 9007199254740992) = (tE x ea + 1 + 1074).toNat * 4503599627370496 + 4503599627370496 by omega]
              exact rto_gen_1t_Pxxx2 (ua := ua) (un := dlen x) (uc := uc) (ea := ea) (e2 := tE x ea) (t := (bl x : Int) + ea) (w := w) (hn0 := hn0) (ht := ht') (ht3 := by omega) (he1 := he1) (he2 := he2) (hmx := hmx) (h21 := h21) (h22 := h22) (hge := hge) (ht2 := ht2') (kH := kH) (hnx := by omega) (kD1 := k1) (kD2 := kd2P h hc hl hi2 (by omega) hz rfl) (dd := dg (x / 2 ^ (k - 1)) 0) (ex := decide (x % 2 ^ (k - 1) = 0)) (kB := fun W => rbuild (M := 4503599627370496) (e := tE x ea + 1) (by omega) (by omega) (by omega) (.inr (by omega))) (F := _)
          · have kB : ∀ W, Calls Tryz.prog 101 #[.bool true, .int .u64 (((x / 2 ^ k : Nat) : Int) + 1), .int .i64 (tE x ea)] W fun r w' => r = .returned (.float .f64 (sig true ((tE x ea + 1074).toNat * 4503599627370496 + (x / 2 ^ k + 1)))) ∧ w' = W := fun W => by
              rw [show (((x / 2 ^ k : Nat) : Int) + 1) = ((x / 2 ^ k + 1 : Nat) : Int) by omega]
              exact rbuild (by omega) h21 h22 hn2
            have hne : (((x / 2 ^ k : Nat) : Int) + 1 == 9007199254740992) = false := by
              rw [show (((x / 2 ^ k : Nat) : Int) + 1) = ((x / 2 ^ k + 1 : Nat) : Int) by omega]
              exact neq53 h53
            exact rto_gen_1t_Pxxx1 (ua := ua) (un := dlen x) (uc := uc) (ea := ea) (e2 := tE x ea) (t := (bl x : Int) + ea) (w := w) (hn0 := hn0) (ht := ht') (ht3 := by omega) (he1 := he1) (he2 := he2) (hmx := hmx) (h21 := h21) (h22 := h22) (hge := hge) (ht2 := ht2') (kH := kH) (X := x / 2 ^ k) (F := _) (hX := hX) (hne := hne) (kD1 := k1) (kD2 := kd2P h hc hl hi2 (by omega) hz rfl) (dd := dg (x / 2 ^ (k - 1)) 0) (ex := decide (x % 2 ^ (k - 1) = 0)) (kB := kB)
theorem rto_2f {ua : Option Addr} {uc x : Nat} {ea : Int} {w : World} (h : At w ua (dlen x) x) (hc : dlen x ≤ uc) (hodd : x % 2 = 1) (hl : dlen x ≤ 100000) (he1 : -4000000 ≤ ea) (he2 : ea ≤ 4000000) :
    Calls Tryz.prog 60 #[.agg #[.bool false, .slice ua (dlen x) uc, .int .i64 ea], .int .i64 2] w fun r w' => r = .returned (.float .f64 (sig false (bdy x ea 1))) ∧ Below w.heap.size w w' := by
  have h0 : x ≠ 0 := by omega
  have hw : (1 : Nat) = 0 ∨ (1 : Nat) = 1 ∨ (1 : Nat) = 2 := by omega
  have hn0 : ((dlen x : Int) == 0) = false := len_ne (n := 0) h0
  have hbl : bl x ≤ 32 * dlen x := bl_le_dlen x
  have hb1 := bl_ne h0
  have kH : ∀ W, Below w.heap.size w W → Calls Tryz.prog 98 #[.agg #[.bool false, .slice ua (dlen x) uc, .int .i64 ea]] W fun r w' => r = .returned (.int .i64 ((bl x : Int) + ea)) ∧ Below W.heap.size W w' := fun W hW => rhigh (h.later hW) h0 (by omega) ⟨he1, he2⟩
  by_cases ht : 1024 < (bl x : Int) + ea
  · rw [bdy_big h0 ht hw]
    exact rto_big_2f _ _ _ _ _ _ hn0 ht kH
  · have ht' : (bl x : Int) + ea ≤ 1024 := by omega
    have hmx := tE_max x ea
    obtain ⟨h21, h22⟩ := tE_bounds ht'
    by_cases hge : tE x ea ≤ ea
    · obtain ⟨hb, hlt, hg⟩ := bdy_up h0 ht' hge hw
      rw [hb]
      obtain ⟨k, hk⟩ : ∃ k : Nat, k = (ea - tE x ea).toNat := ⟨_, rfl⟩
      have hi : ea - tE x ea = (k : Int) := by omega
      rw [← hk] at hlt hg ⊢
      refine rto_up_2f (ua := ua) (un := dlen x) (uc := uc) (ea := ea) (e2 := tE x ea) (t := (bl x : Int) + ea) (w := w) (F := _) (hn0 := hn0) (ht := ht') (ht3 := by omega) (he1 := he1) (he2 := he2) (hmx := hmx) (h21 := h21) (h22 := h22) (hge := hge) (X := x * 2 ^ k) (hX := hlt) (kH := kH) (kU := fun W hW => ?_) (kB := fun W => rbuild hlt h21 h22 hg)
      rw [hi]
      exact rup ⟨ua, uc, rfl, hc, h.later hW⟩ k (by omega) (by omega)
    · have hlt : ea < tE x ea := by omega
      by_cases ht2 : (bl x : Int) + ea < -1075
      · rw [bdy_tiny h0 ht2 hw, if_neg (by decide)]
        exact rto_tiny_2f (ua := ua) (un := dlen x) (uc := uc) (ea := ea) (e2 := tE x ea) (t := (bl x : Int) + ea) (w := w) (F := _) (hn0 := hn0) (ht := ht') (ht3 := by omega) (he1 := he1) (he2 := he2) (hmx := hmx) (h21 := h21) (h22 := h22) (hge := hge) (ht2 := ht2) (kH := kH) (kB := fun W => rbuild_0 false 0 (-1074) W (by omega))
      · obtain ⟨k, hk⟩ : ∃ k : Nat, k = (tE x ea - ea).toNat := ⟨_, rfl⟩
        have hk1 : 1 ≤ k := by omega
        have hi : tE x ea - ea = (k : Int) := by omega
        have hi2 : tE x ea - ea - 1 = ((k - 1 : Nat) : Int) := by omega
        have hkb : k ≤ 10000000 := by unfold tE at hk; split at hk <;> omega
        obtain ⟨n, hn⟩ : ∃ n, n = if dnU x (tE x ea - ea).toNat 1 then x / 2 ^ (tE x ea - ea).toNat + 1 else x / 2 ^ (tE x ea - ea).toNat := ⟨_, rfl⟩
        obtain ⟨hn1, hn2, hb, hX⟩ := bdy_dn hodd ht' hlt hw hn
        rw [← hk] at hn hX
        rw [hb]
        have k1 := kd1 h hc hl hi hkb
        have hdd := and1_32 (d := dg (x / 2 ^ (k - 1)) 0) (X := x / 2 ^ (k - 1)) (dg_zero _)
        have hod := and1_64 hX
        have ht2' : -1075 ≤ (bl x : Int) + ea := by omega
        by_cases hz : x / 2 ^ (k - 1) = 0
        · have hv : n = x / 2 ^ k := by rw [hn]; simp [dnU, hz]
          rw [hv] at hn1 hn2 ⊢
          exact rto_gen_2f_Zlxx0 (ua := ua) (un := dlen x) (uc := uc) (ea := ea) (e2 := tE x ea) (t := (bl x : Int) + ea) (w := w) (hn0 := hn0) (ht := ht') (ht3 := by omega) (he1 := he1) (he2 := he2) (hmx := hmx) (h21 := h21) (h22 := h22) (hge := hge) (ht2 := ht2') (kH := kH) (X := x / 2 ^ k) (F := _) (hX := hX) (hne := neq53 (by omega)) (kD1 := k1) (kD2 := kd2Z h hc hl hi2 (by omega) hz) (ex := decide (x % 2 ^ (k - 1) = 0)) (kB := fun W => rbuild hX h21 h22 hn2)
        · by_cases hh : x / 2 ^ (k - 1) % 2 = 1
          · rw [hh] at hdd
            by_cases hx : x % 2 ^ (k - 1) = 0
            · by_cases ho : x / 2 ^ k % 2 = 1
              · rw [ho] at hod
                have hv : n = x / 2 ^ k + 1 := by rw [hn]; simp [dnU, hh, hx, ho]
                rw [hv] at hn1 hn2 ⊢
                by_cases h53 : x / 2 ^ k + 1 = 9007199254740992
                · have hXv : x / 2 ^ k = 9007199254740991 := by omega
                  rw [hXv] at k1
                  by_cases h9 : tE x ea = 971
                  · rw [h53, show ((tE x ea + 1074).toNat * 4503599627370496 + 9007199254740992) = 9218868437227405312 by omega]
                    exact rto_gen_2f_Pheo3 (ua := ua) (un := dlen x) (uc := uc) (ea := ea) (e2 := tE x ea) (t := (bl x : Int) + ea) (w := w) (hn0 := hn0) (ht := ht') (ht3 := by omega) (he1 := he1) (he2 := he2) (hmx := hmx) (h21 := h21) (h22 := h22) (hge := hge) (ht2 := ht2') (kH := kH) (hnx := h9) (kD1 := k1) (kD2 := kd2P h hc hl hi2 (by omega) hz (decide_eq_true hx)) (hf := hdd) (dd := dg (x / 2 ^ (k - 1)) 0)
                  · rw [h53, show ((tE x ea + 1074).toNat * 4503599627370496 + 9007199254740992) = (tE x ea + 1 + 1074).toNat * 4503599627370496 + 4503599627370496 by omega]
                    exact rto_gen_2f_Pheo2 (ua := ua) (un := dlen x) (uc := uc) (ea := ea) (e2 := tE x ea) (t := (bl x : Int) + ea) (w := w) (hn0 := hn0) (ht := ht') (ht3 := by omega) (he1 := he1) (he2 := he2) (hmx := hmx) (h21 := h21) (h22 := h22) (hge := hge) (ht2 := ht2') (kH := kH) (hnx := by omega) (kD1 := k1) (kD2 := kd2P h hc hl hi2 (by omega) hz (decide_eq_true hx)) (hf := hdd) (dd := dg (x / 2 ^ (k - 1)) 0) (kB := fun W => rbuild (M := 4503599627370496) (e := tE x ea + 1) (by omega) (by omega) (by omega) (.inr (by omega))) (F := _)
                · have kB : ∀ W, Calls Tryz.prog 101 #[.bool false, .int .u64 (((x / 2 ^ k : Nat) : Int) + 1), .int .i64 (tE x ea)] W fun r w' => r = .returned (.float .f64 (sig false ((tE x ea + 1074).toNat * 4503599627370496 + (x / 2 ^ k + 1)))) ∧ w' = W := fun W => by
                    rw [show (((x / 2 ^ k : Nat) : Int) + 1) = ((x / 2 ^ k + 1 : Nat) : Int) by omega]
                    exact rbuild (by omega) h21 h22 hn2
                  have hne : (((x / 2 ^ k : Nat) : Int) + 1 == 9007199254740992) = false := by
                    rw [show (((x / 2 ^ k : Nat) : Int) + 1) = ((x / 2 ^ k + 1 : Nat) : Int) by omega]
                    exact neq53 h53
                  exact rto_gen_2f_Pheo1 (ua := ua) (un := dlen x) (uc := uc) (ea := ea) (e2 := tE x ea) (t := (bl x : Int) + ea) (w := w) (hn0 := hn0) (ht := ht') (ht3 := by omega) (he1 := he1) (he2 := he2) (hmx := hmx) (h21 := h21) (h22 := h22) (hge := hge) (ht2 := ht2') (kH := kH) (X := x / 2 ^ k) (F := _) (hX := hX) (hne := hne) (kD1 := k1) (kD2 := kd2P h hc hl hi2 (by omega) hz (decide_eq_true hx)) (hf := hdd) (hod := hod) (dd := dg (x / 2 ^ (k - 1)) 0) (kB := kB)
              · have ho2 : x / 2 ^ k % 2 = 0 := by omega
                rw [ho2] at hod
                have hv : n = x / 2 ^ k := by rw [hn]; simp [dnU, hh, hx, ho2]
                rw [hv] at hn1 hn2 ⊢
                exact rto_gen_2f_Phev0 (ua := ua) (un := dlen x) (uc := uc) (ea := ea) (e2 := tE x ea) (t := (bl x : Int) + ea) (w := w) (hn0 := hn0) (ht := ht') (ht3 := by omega) (he1 := he1) (he2 := he2) (hmx := hmx) (h21 := h21) (h22 := h22) (hge := hge) (ht2 := ht2') (kH := kH) (X := x / 2 ^ k) (F := _) (hX := hX) (hne := neq53 (by omega)) (kD1 := k1) (kD2 := kd2P h hc hl hi2 (by omega) hz (decide_eq_true hx)) (hf := hdd) (hod := hod) (dd := dg (x / 2 ^ (k - 1)) 0) (kB := fun W => rbuild hX h21 h22 hn2)
            · have hv : n = x / 2 ^ k + 1 := by rw [hn]; simp [dnU, hh, hx]
              rw [hv] at hn1 hn2 ⊢
              by_cases h53 : x / 2 ^ k + 1 = 9007199254740992
              · have hXv : x / 2 ^ k = 9007199254740991 := by omega
                rw [hXv] at k1
                by_cases h9 : tE x ea = 971
                · rw [h53, show ((tE x ea + 1074).toNat * 4503599627370496 + 9007199254740992) = 9218868437227405312 by omega]
                  exact rto_gen_2f_Phnx3 (ua := ua) (un := dlen x) (uc := uc) (ea := ea) (e2 := tE x ea) (t := (bl x : Int) + ea) (w := w) (hn0 := hn0) (ht := ht') (ht3 := by omega) (he1 := he1) (he2 := he2) (hmx := hmx) (h21 := h21) (h22 := h22) (hge := hge) (ht2 := ht2') (kH := kH) (hnx := h9) (kD1 := k1) (kD2 := kd2P h hc hl hi2 (by omega) hz (decide_eq_false hx)) (hf := hdd) (dd := dg (x / 2 ^ (k - 1)) 0)
                · rw [h53, show ((tE x ea + 1074).toNat * 4503599627370496 + 9007199254740992) = (tE x ea + 1 + 1074).toNat * 4503599627370496 + 4503599627370496 by omega]
                  exact rto_gen_2f_Phnx2 (ua := ua) (un := dlen x) (uc := uc) (ea := ea) (e2 := tE x ea) (t := (bl x : Int) + ea) (w := w) (hn0 := hn0) (ht := ht') (ht3 := by omega) (he1 := he1) (he2 := he2) (hmx := hmx) (h21 := h21) (h22 := h22) (hge := hge) (ht2 := ht2') (kH := kH) (hnx := by omega) (kD1 := k1) (kD2 := kd2P h hc hl hi2 (by omega) hz (decide_eq_false hx)) (hf := hdd) (dd := dg (x / 2 ^ (k - 1)) 0) (kB := fun W => rbuild (M := 4503599627370496) (e := tE x ea + 1) (by omega) (by omega) (by omega) (.inr (by omega))) (F := _)
              · have kB : ∀ W, Calls Tryz.prog 101 #[.bool false, .int .u64 (((x / 2 ^ k : Nat) : Int) + 1), .int .i64 (tE x ea)] W fun r w' => r = .returned (.float .f64 (sig false ((tE x ea + 1074).toNat * 4503599627370496 + (x / 2 ^ k + 1)))) ∧ w' = W := fun W => by
                  rw [show (((x / 2 ^ k : Nat) : Int) + 1) = ((x / 2 ^ k + 1 : Nat) : Int) by omega]
                  exact rbuild (by omega) h21 h22 hn2
                have hne : (((x / 2 ^ k : Nat) : Int) + 1 == 9007199254740992) = false := by
                  rw [show (((x / 2 ^ k : Nat) : Int) + 1) = ((x / 2 ^ k + 1 : Nat) : Int) by omega]
                  exact neq53 h53
                exact rto_gen_2f_Phnx1 (ua := ua) (un := dlen x) (uc := uc) (ea := ea) (e2 := tE x ea) (t := (bl x : Int) + ea) (w := w) (hn0 := hn0) (ht := ht') (ht3 := by omega) (he1 := he1) (he2 := he2) (hmx := hmx) (h21 := h21) (h22 := h22) (hge := hge) (ht2 := ht2') (kH := kH) (X := x / 2 ^ k) (F := _) (hX := hX) (hne := hne) (kD1 := k1) (kD2 := kd2P h hc hl hi2 (by omega) hz (decide_eq_false hx)) (hf := hdd) (dd := dg (x / 2 ^ (k - 1)) 0) (kB := kB)
          · have hh2 : x / 2 ^ (k - 1) % 2 = 0 := by omega
            rw [hh2] at hdd
            have hv : n = x / 2 ^ k := by rw [hn]; simp [dnU, hh2]
            rw [hv] at hn1 hn2 ⊢
            exact rto_gen_2f_Plxx0 (ua := ua) (un := dlen x) (uc := uc) (ea := ea) (e2 := tE x ea) (t := (bl x : Int) + ea) (w := w) (hn0 := hn0) (ht := ht') (ht3 := by omega) (he1 := he1) (he2 := he2) (hmx := hmx) (h21 := h21) (h22 := h22) (hge := hge) (ht2 := ht2') (kH := kH) (X := x / 2 ^ k) (F := _) (hX := hX) (hne := neq53 (by omega)) (kD1 := k1) (kD2 := kd2P h hc hl hi2 (by omega) hz rfl) (hf := hdd) (dd := dg (x / 2 ^ (k - 1)) 0) (ex := decide (x % 2 ^ (k - 1) = 0)) (kB := fun W => rbuild hX h21 h22 hn2)
theorem rto_2t {ua : Option Addr} {uc x : Nat} {ea : Int} {w : World} (h : At w ua (dlen x) x) (hc : dlen x ≤ uc) (hodd : x % 2 = 1) (hl : dlen x ≤ 100000) (he1 : -4000000 ≤ ea) (he2 : ea ≤ 4000000) :
    Calls Tryz.prog 60 #[.agg #[.bool true, .slice ua (dlen x) uc, .int .i64 ea], .int .i64 2] w fun r w' => r = .returned (.float .f64 (sig true (bdy x ea 1))) ∧ Below w.heap.size w w' := by
  have h0 : x ≠ 0 := by omega
  have hw : (1 : Nat) = 0 ∨ (1 : Nat) = 1 ∨ (1 : Nat) = 2 := by omega
  have hn0 : ((dlen x : Int) == 0) = false := len_ne (n := 0) h0
  have hbl : bl x ≤ 32 * dlen x := bl_le_dlen x
  have hb1 := bl_ne h0
  have kH : ∀ W, Below w.heap.size w W → Calls Tryz.prog 98 #[.agg #[.bool true, .slice ua (dlen x) uc, .int .i64 ea]] W fun r w' => r = .returned (.int .i64 ((bl x : Int) + ea)) ∧ Below W.heap.size W w' := fun W hW => rhigh (h.later hW) h0 (by omega) ⟨he1, he2⟩
  by_cases ht : 1024 < (bl x : Int) + ea
  · rw [bdy_big h0 ht hw]
    exact rto_big_2t _ _ _ _ _ _ hn0 ht kH
  · have ht' : (bl x : Int) + ea ≤ 1024 := by omega
    have hmx := tE_max x ea
    obtain ⟨h21, h22⟩ := tE_bounds ht'
    by_cases hge : tE x ea ≤ ea
    · obtain ⟨hb, hlt, hg⟩ := bdy_up h0 ht' hge hw
      rw [hb]
      obtain ⟨k, hk⟩ : ∃ k : Nat, k = (ea - tE x ea).toNat := ⟨_, rfl⟩
      have hi : ea - tE x ea = (k : Int) := by omega
      rw [← hk] at hlt hg ⊢
      refine rto_up_2t (ua := ua) (un := dlen x) (uc := uc) (ea := ea) (e2 := tE x ea) (t := (bl x : Int) + ea) (w := w) (F := _) (hn0 := hn0) (ht := ht') (ht3 := by omega) (he1 := he1) (he2 := he2) (hmx := hmx) (h21 := h21) (h22 := h22) (hge := hge) (X := x * 2 ^ k) (hX := hlt) (kH := kH) (kU := fun W hW => ?_) (kB := fun W => rbuild hlt h21 h22 hg)
      rw [hi]
      exact rup ⟨ua, uc, rfl, hc, h.later hW⟩ k (by omega) (by omega)
    · have hlt : ea < tE x ea := by omega
      by_cases ht2 : (bl x : Int) + ea < -1075
      · rw [bdy_tiny h0 ht2 hw, if_neg (by decide)]
        exact rto_tiny_2t (ua := ua) (un := dlen x) (uc := uc) (ea := ea) (e2 := tE x ea) (t := (bl x : Int) + ea) (w := w) (F := _) (hn0 := hn0) (ht := ht') (ht3 := by omega) (he1 := he1) (he2 := he2) (hmx := hmx) (h21 := h21) (h22 := h22) (hge := hge) (ht2 := ht2) (kH := kH) (kB := fun W => rbuild_0 true 0 (-1074) W (by omega))
      · obtain ⟨k, hk⟩ : ∃ k : Nat, k = (tE x ea - ea).toNat := ⟨_, rfl⟩
        have hk1 : 1 ≤ k := by omega
        have hi : tE x ea - ea = (k : Int) := by omega
        have hi2 : tE x ea - ea - 1 = ((k - 1 : Nat) : Int) := by omega
        have hkb : k ≤ 10000000 := by unfold tE at hk; split at hk <;> omega
        obtain ⟨n, hn⟩ : ∃ n, n = if dnU x (tE x ea - ea).toNat 1 then x / 2 ^ (tE x ea - ea).toNat + 1 else x / 2 ^ (tE x ea - ea).toNat := ⟨_, rfl⟩
        obtain ⟨hn1, hn2, hb, hX⟩ := bdy_dn hodd ht' hlt hw hn
        rw [← hk] at hn hX
        rw [hb]
        have k1 := kd1 h hc hl hi hkb
        have hdd := and1_32 (d := dg (x / 2 ^ (k - 1)) 0) (X := x / 2 ^ (k - 1)) (dg_zero _)
        have hod := and1_64 hX
        have ht2' : -1075 ≤ (bl x : Int) + ea := by omega
        by_cases hz : x / 2 ^ (k - 1) = 0
        · have hv : n = x / 2 ^ k := by rw [hn]; simp [dnU, hz]
          rw [hv] at hn1 hn2 ⊢
          exact rto_gen_2t_Zlxx0 (ua := ua) (un := dlen x) (uc := uc) (ea := ea) (e2 := tE x ea) (t := (bl x : Int) + ea) (w := w) (hn0 := hn0) (ht := ht') (ht3 := by omega) (he1 := he1) (he2 := he2) (hmx := hmx) (h21 := h21) (h22 := h22) (hge := hge) (ht2 := ht2') (kH := kH) (X := x / 2 ^ k) (F := _) (hX := hX) (hne := neq53 (by omega)) (kD1 := k1) (kD2 := kd2Z h hc hl hi2 (by omega) hz) (ex := decide (x % 2 ^ (k - 1) = 0)) (kB := fun W => rbuild hX h21 h22 hn2)
        · by_cases hh : x / 2 ^ (k - 1) % 2 = 1
          · rw [hh] at hdd
            by_cases hx : x % 2 ^ (k - 1) = 0
            · by_cases ho : x / 2 ^ k % 2 = 1
              · rw [ho] at hod
                have hv : n = x / 2 ^ k + 1 := by rw [hn]; simp [dnU, hh, hx, ho]
                rw [hv] at hn1 hn2 ⊢
                by_cases h53 : x / 2 ^ k + 1 = 9007199254740992
                · have hXv : x / 2 ^ k = 9007199254740991 := by omega
                  rw [hXv] at k1
                  by_cases h9 : tE x ea = 971
                  · rw [h53, show ((tE x ea + 1074).toNat * 4503599627370496 + 9007199254740992) = 9218868437227405312 by omega]
                    exact rto_gen_2t_Pheo3 (ua := ua) (un := dlen x) (uc := uc) (ea := ea) (e2 := tE x ea) (t := (bl x : Int) + ea) (w := w) (hn0 := hn0) (ht := ht') (ht3 := by omega) (he1 := he1) (he2 := he2) (hmx := hmx) (h21 := h21) (h22 := h22) (hge := hge) (ht2 := ht2') (kH := kH) (hnx := h9) (kD1 := k1) (kD2 := kd2P h hc hl hi2 (by omega) hz (decide_eq_true hx)) (hf := hdd) (dd := dg (x / 2 ^ (k - 1)) 0)
                  · rw [h53, show ((tE x ea + 1074).toNat * 4503599627370496 + 9007199254740992) = (tE x ea + 1 + 1074).toNat * 4503599627370496 + 4503599627370496 by omega]
                    exact rto_gen_2t_Pheo2 (ua := ua) (un := dlen x) (uc := uc) (ea := ea) (e2 := tE x ea) (t := (bl x : Int) + ea) (w := w) (hn0 := hn0) (ht := ht') (ht3 := by omega) (he1 := he1) (he2 := he2) (hmx := hmx) (h21 := h21) (h22 := h22) (hge := hge) (ht2 := ht2') (kH := kH) (hnx := by omega) (kD1 := k1) (kD2 := kd2P h hc hl hi2 (by omega) hz (decide_eq_true hx)) (hf := hdd) (dd := dg (x / 2 ^ (k - 1)) 0) (kB := fun W => rbuild (M := 4503599627370496) (e := tE x ea + 1) (by omega) (by omega) (by omega) (.inr (by omega))) (F := _)
                · have kB : ∀ W, Calls Tryz.prog 101 #[.bool true, .int .u64 (((x / 2 ^ k : Nat) : Int) + 1), .int .i64 (tE x ea)] W fun r w' => r = .returned (.float .f64 (sig true ((tE x ea + 1074).toNat * 4503599627370496 + (x / 2 ^ k + 1)))) ∧ w' = W := fun W => by
                    rw [show (((x / 2 ^ k : Nat) : Int) + 1) = ((x / 2 ^ k + 1 : Nat) : Int) by omega]
                    exact rbuild (by omega) h21 h22 hn2
                  have hne : (((x / 2 ^ k : Nat) : Int) + 1 == 9007199254740992) = false := by
                    rw [show (((x / 2 ^ k : Nat) : Int) + 1) = ((x / 2 ^ k + 1 : Nat) : Int) by omega]
                    exact neq53 h53
                  exact rto_gen_2t_Pheo1 (ua := ua) (un := dlen x) (uc := uc) (ea := ea) (e2 := tE x ea) (t := (bl x : Int) + ea) (w := w) (hn0 := hn0) (ht := ht') (ht3 := by omega) (he1 := he1) (he2 := he2) (hmx := hmx) (h21 := h21) (h22 := h22) (hge := hge) (ht2 := ht2') (kH := kH) (X := x / 2 ^ k) (F := _) (hX := hX) (hne := hne) (kD1 := k1) (kD2 := kd2P h hc hl hi2 (by omega) hz (decide_eq_true hx)) (hf := hdd) (hod := hod) (dd := dg (x / 2 ^ (k - 1)) 0) (kB := kB)
              · have ho2 : x / 2 ^ k % 2 = 0 := by omega
                rw [ho2] at hod
                have hv : n = x / 2 ^ k := by rw [hn]; simp [dnU, hh, hx, ho2]
                rw [hv] at hn1 hn2 ⊢
                exact rto_gen_2t_Phev0 (ua := ua) (un := dlen x) (uc := uc) (ea := ea) (e2 := tE x ea) (t := (bl x : Int) + ea) (w := w) (hn0 := hn0) (ht := ht') (ht3 := by omega) (he1 := he1) (he2 := he2) (hmx := hmx) (h21 := h21) (h22 := h22) (hge := hge) (ht2 := ht2') (kH := kH) (X := x / 2 ^ k) (F := _) (hX := hX) (hne := neq53 (by omega)) (kD1 := k1) (kD2 := kd2P h hc hl hi2 (by omega) hz (decide_eq_true hx)) (hf := hdd) (hod := hod) (dd := dg (x / 2 ^ (k - 1)) 0) (kB := fun W => rbuild hX h21 h22 hn2)
            · have hv : n = x / 2 ^ k + 1 := by rw [hn]; simp [dnU, hh, hx]
              rw [hv] at hn1 hn2 ⊢
              by_cases h53 : x / 2 ^ k + 1 = 9007199254740992
              · have hXv : x / 2 ^ k = 9007199254740991 := by omega
                rw [hXv] at k1
                by_cases h9 : tE x ea = 971
                · rw [h53, show ((tE x ea + 1074).toNat * 4503599627370496 + 9007199254740992) = 9218868437227405312 by omega]
                  exact rto_gen_2t_Phnx3 (ua := ua) (un := dlen x) (uc := uc) (ea := ea) (e2 := tE x ea) (t := (bl x : Int) + ea) (w := w) (hn0 := hn0) (ht := ht') (ht3 := by omega) (he1 := he1) (he2 := he2) (hmx := hmx) (h21 := h21) (h22 := h22) (hge := hge) (ht2 := ht2') (kH := kH) (hnx := h9) (kD1 := k1) (kD2 := kd2P h hc hl hi2 (by omega) hz (decide_eq_false hx)) (hf := hdd) (dd := dg (x / 2 ^ (k - 1)) 0)
                · rw [h53, show ((tE x ea + 1074).toNat * 4503599627370496 + 9007199254740992) = (tE x ea + 1 + 1074).toNat * 4503599627370496 + 4503599627370496 by omega]
                  exact rto_gen_2t_Phnx2 (ua := ua) (un := dlen x) (uc := uc) (ea := ea) (e2 := tE x ea) (t := (bl x : Int) + ea) (w := w) (hn0 := hn0) (ht := ht') (ht3 := by omega) (he1 := he1) (he2 := he2) (hmx := hmx) (h21 := h21) (h22 := h22) (hge := hge) (ht2 := ht2') (kH := kH) (hnx := by omega) (kD1 := k1) (kD2 := kd2P h hc hl hi2 (by omega) hz (decide_eq_false hx)) (hf := hdd) (dd := dg (x / 2 ^ (k - 1)) 0) (kB := fun W => rbuild (M := 4503599627370496) (e := tE x ea + 1) (by omega) (by omega) (by omega) (.inr (by omega))) (F := _)
              · have kB : ∀ W, Calls Tryz.prog 101 #[.bool true, .int .u64 (((x / 2 ^ k : Nat) : Int) + 1), .int .i64 (tE x ea)] W fun r w' => r = .returned (.float .f64 (sig true ((tE x ea + 1074).toNat * 4503599627370496 + (x / 2 ^ k + 1)))) ∧ w' = W := fun W => by
                  rw [show (((x / 2 ^ k : Nat) : Int) + 1) = ((x / 2 ^ k + 1 : Nat) : Int) by omega]
                  exact rbuild (by omega) h21 h22 hn2
                have hne : (((x / 2 ^ k : Nat) : Int) + 1 == 9007199254740992) = false := by
                  rw [show (((x / 2 ^ k : Nat) : Int) + 1) = ((x / 2 ^ k + 1 : Nat) : Int) by omega]
                  exact neq53 h53
                exact rto_gen_2t_Phnx1 (ua := ua) (un := dlen x) (uc := uc) (ea := ea) (e2 := tE x ea) (t := (bl x : Int) + ea) (w := w) (hn0 := hn0) (ht := ht') (ht3 := by omega) (he1 := he1) (he2 := he2) (hmx := hmx) (h21 := h21) (h22 := h22) (hge := hge) (ht2 := ht2') (kH := kH) (X := x / 2 ^ k) (F := _) (hX := hX) (hne := hne) (kD1 := k1) (kD2 := kd2P h hc hl hi2 (by omega) hz (decide_eq_false hx)) (hf := hdd) (dd := dg (x / 2 ^ (k - 1)) 0) (kB := kB)
          · have hh2 : x / 2 ^ (k - 1) % 2 = 0 := by omega
            rw [hh2] at hdd
            have hv : n = x / 2 ^ k := by rw [hn]; simp [dnU, hh2]
            rw [hv] at hn1 hn2 ⊢
            exact rto_gen_2t_Plxx0 (ua := ua) (un := dlen x) (uc := uc) (ea := ea) (e2 := tE x ea) (t := (bl x : Int) + ea) (w := w) (hn0 := hn0) (ht := ht') (ht3 := by omega) (he1 := he1) (he2 := he2) (hmx := hmx) (h21 := h21) (h22 := h22) (hge := hge) (ht2 := ht2') (kH := kH) (X := x / 2 ^ k) (F := _) (hX := hX) (hne := neq53 (by omega)) (kD1 := k1) (kD2 := kd2P h hc hl hi2 (by omega) hz rfl) (hf := hdd) (dd := dg (x / 2 ^ (k - 1)) 0) (ex := decide (x % 2 ^ (k - 1) = 0)) (kB := fun W => rbuild hX h21 h22 hn2)
theorem rto_3f {ua : Option Addr} {uc x : Nat} {ea : Int} {w : World} (h : At w ua (dlen x) x) (hc : dlen x ≤ uc) (hodd : x % 2 = 1) (hl : dlen x ≤ 100000) (he1 : -4000000 ≤ ea) (he2 : ea ≤ 4000000) :
    Calls Tryz.prog 60 #[.agg #[.bool false, .slice ua (dlen x) uc, .int .i64 ea], .int .i64 3] w fun r w' => r = .returned (.float .f64 (sig false (bdy x ea 2))) ∧ Below w.heap.size w w' := by
  have h0 : x ≠ 0 := by omega
  have hw : (2 : Nat) = 0 ∨ (2 : Nat) = 1 ∨ (2 : Nat) = 2 := by omega
  have hn0 : ((dlen x : Int) == 0) = false := len_ne (n := 0) h0
  have hbl : bl x ≤ 32 * dlen x := bl_le_dlen x
  have hb1 := bl_ne h0
  have kH : ∀ W, Below w.heap.size w W → Calls Tryz.prog 98 #[.agg #[.bool false, .slice ua (dlen x) uc, .int .i64 ea]] W fun r w' => r = .returned (.int .i64 ((bl x : Int) + ea)) ∧ Below W.heap.size W w' := fun W hW => rhigh (h.later hW) h0 (by omega) ⟨he1, he2⟩
  by_cases ht : 1024 < (bl x : Int) + ea
  · rw [bdy_big h0 ht hw]
    exact rto_big_3f _ _ _ _ _ _ hn0 ht kH
  · have ht' : (bl x : Int) + ea ≤ 1024 := by omega
    have hmx := tE_max x ea
    obtain ⟨h21, h22⟩ := tE_bounds ht'
    by_cases hge : tE x ea ≤ ea
    · obtain ⟨hb, hlt, hg⟩ := bdy_up h0 ht' hge hw
      rw [hb]
      obtain ⟨k, hk⟩ : ∃ k : Nat, k = (ea - tE x ea).toNat := ⟨_, rfl⟩
      have hi : ea - tE x ea = (k : Int) := by omega
      rw [← hk] at hlt hg ⊢
      refine rto_up_3f (ua := ua) (un := dlen x) (uc := uc) (ea := ea) (e2 := tE x ea) (t := (bl x : Int) + ea) (w := w) (F := _) (hn0 := hn0) (ht := ht') (ht3 := by omega) (he1 := he1) (he2 := he2) (hmx := hmx) (h21 := h21) (h22 := h22) (hge := hge) (X := x * 2 ^ k) (hX := hlt) (kH := kH) (kU := fun W hW => ?_) (kB := fun W => rbuild hlt h21 h22 hg)
      rw [hi]
      exact rup ⟨ua, uc, rfl, hc, h.later hW⟩ k (by omega) (by omega)
    · have hlt : ea < tE x ea := by omega
      by_cases ht2 : (bl x : Int) + ea < -1075
      · rw [bdy_tiny h0 ht2 hw, if_pos rfl]
        exact rto_tiny_3f (ua := ua) (un := dlen x) (uc := uc) (ea := ea) (e2 := tE x ea) (t := (bl x : Int) + ea) (w := w) (F := _) (hn0 := hn0) (ht := ht') (ht3 := by omega) (he1 := he1) (he2 := he2) (hmx := hmx) (h21 := h21) (h22 := h22) (hge := hge) (ht2 := ht2) (kH := kH) (kB := fun W => rbuild_0 false 1 (-1074) W (by omega))
      · obtain ⟨k, hk⟩ : ∃ k : Nat, k = (tE x ea - ea).toNat := ⟨_, rfl⟩
        have hk1 : 1 ≤ k := by omega
        have hi : tE x ea - ea = (k : Int) := by omega
        have hi2 : tE x ea - ea - 1 = ((k - 1 : Nat) : Int) := by omega
        have hkb : k ≤ 10000000 := by unfold tE at hk; split at hk <;> omega
        obtain ⟨n, hn⟩ : ∃ n, n = if dnU x (tE x ea - ea).toNat 2 then x / 2 ^ (tE x ea - ea).toNat + 1 else x / 2 ^ (tE x ea - ea).toNat := ⟨_, rfl⟩
        obtain ⟨hn1, hn2, hb, hX⟩ := bdy_dn hodd ht' hlt hw hn
        rw [← hk] at hn hX
        rw [hb]
        have k1 := kd1 h hc hl hi hkb
        have hdd := and1_32 (d := dg (x / 2 ^ (k - 1)) 0) (X := x / 2 ^ (k - 1)) (dg_zero _)
        have hod := and1_64 hX
        have ht2' : -1075 ≤ (bl x : Int) + ea := by omega
        have hv : n = x / 2 ^ k + 1 := by rw [hn]; simp [dnU]
        by_cases hz : x / 2 ^ (k - 1) = 0
        · rw [hv] at hn1 hn2 ⊢
          by_cases h53 : x / 2 ^ k + 1 = 9007199254740992
          · have hXv : x / 2 ^ k = 9007199254740991 := by omega
            rw [hXv] at k1
            by_cases h9 : tE x ea = 971
            · rw [h53, show ((tE x ea + 1074).toNat * 4503599627370496 + 9007199254740992) = 9218868437227405312 by omega]
              exact rto_gen_3f_Zxxx3 (ua := ua) (un := dlen x) (uc := uc) (ea := ea) (e2 := tE x ea) (t := (bl x : Int) + ea) (w := w) (hn0 := hn0) (ht := ht') (ht3 := by omega) (he1 := he1) (he2 := he2) (hmx := hmx) (h21 := h21) (h22 := h22) (hge := hge) (ht2 := ht2') (kH := kH) (hnx := h9) (kD1 := k1) (kD2 := kd2Z h hc hl hi2 (by omega) hz) (ex := decide (x % 2 ^ (k - 1) = 0))
            · rw [h53, show ((tE x ea + 1074).toNat * 4503599627370496 + 9007199254740992) = (tE x ea + 1 + 1074).toNat * 4503599627370496 + 4503599627370496 by omega]
              exact rto_gen_3f_Zxxx2 (ua := ua) (un := dlen x) (uc := uc) (ea := ea) (e2 := tE x ea) (t := (bl x : Int) + ea) (w := w) (hn0 := hn0) (ht := ht') (ht3 := by omega) (he1 := he1) (he2 := he2) (hmx := hmx) (h21 := h21) (h22 := h22) (hge := hge) (ht2 := ht2') (kH := kH) (hnx := by omega) (kD1 := k1) (kD2 := kd2Z h hc hl hi2 (by omega) hz) (ex := decide (x % 2 ^ (k - 1) = 0)) (kB := fun W => rbuild (M := 4503599627370496) (e := tE x ea + 1) (by omega) (by omega) (by omega) (.inr (by omega))) (F := _)
          · have kB : ∀ W, Calls Tryz.prog 101 #[.bool false, .int .u64 (((x / 2 ^ k : Nat) : Int) + 1), .int .i64 (tE x ea)] W fun r w' => r = .returned (.float .f64 (sig false ((tE x ea + 1074).toNat * 4503599627370496 + (x / 2 ^ k + 1)))) ∧ w' = W := fun W => by
              rw [show (((x / 2 ^ k : Nat) : Int) + 1) = ((x / 2 ^ k + 1 : Nat) : Int) by omega]
              exact rbuild (by omega) h21 h22 hn2
            have hne : (((x / 2 ^ k : Nat) : Int) + 1 == 9007199254740992) = false := by
              rw [show (((x / 2 ^ k : Nat) : Int) + 1) = ((x / 2 ^ k + 1 : Nat) : Int) by omega]
              exact neq53 h53
            exact rto_gen_3f_Zxxx1 (ua := ua) (un := dlen x) (uc := uc) (ea := ea) (e2 := tE x ea) (t := (bl x : Int) + ea) (w := w) (hn0 := hn0) (ht := ht') (ht3 := by omega) (he1 := he1) (he2 := he2) (hmx := hmx) (h21 := h21) (h22 := h22) (hge := hge) (ht2 := ht2') (kH := kH) (X := x / 2 ^ k) (F := _) (hX := hX) (hne := hne) (kD1 := k1) (kD2 := kd2Z h hc hl hi2 (by omega) hz) (ex := decide (x % 2 ^ (k - 1) = 0)) (kB := kB)
        · rw [hv] at hn1 hn2 ⊢
          by_cases h53 : x / 2 ^ k + 1 = 9007199254740992
          · have hXv : x / 2 ^ k = 9007199254740991 := by omega
            rw [hXv] at k1
            by_cases h9 : tE x ea = 971
            · rw [h53, show ((tE x ea + 1074).toNat * 4503599627370496 + 9007199254740992) = 9218868437227405312 by omega]
              exact rto_gen_3f_Pxxx3 (ua := ua) (un := dlen x) (uc := uc) (ea := ea) (e2 := tE x ea) (t := (bl x : Int) + ea) (w := w) (hn0 := hn0) (ht := ht') (ht3 := by omega) (he1 := he1) (he2 := he2) (hmx := hmx) (h21 := h21) (h22 := h22) (hge := hge) (ht2 := ht2') (kH := kH) (hnx := h9) (kD1 := k1) (kD2 := kd2P h hc hl hi2 (by omega) hz rfl) (dd := dg (x / 2 ^ (k - 1)) 0) (ex := decide (x % 2 ^ (k - 1) = 0))
            · rw [h53, show ((tE x ea + 1074).toNat * 4503599627370496 + 9007199254740992) = (tE x ea + 1 + 1074).toNat * 4503599627370496 + 4503599627370496 by omega]
              exact rto_gen_3f_Pxxx2 (ua := ua) (un := dlen x) (uc := uc) (ea := ea) (e2 := tE x ea) (t := (bl x : Int) + ea) (w := w) (hn0 := hn0) (ht := ht') (ht3 := by omega) (he1 := he1) (he2 := he2) (hmx := hmx) (h21 := h21) (h22 := h22) (hge := hge) (ht2 := ht2') (kH := kH) (hnx := by omega) (kD1 := k1) (kD2 := kd2P h hc hl hi2 (by omega) hz rfl) (dd := dg (x / 2 ^ (k - 1)) 0) (ex := decide (x % 2 ^ (k - 1) = 0)) (kB := fun W => rbuild (M := 4503599627370496) (e := tE x ea + 1) (by omega) (by omega) (by omega) (.inr (by omega))) (F := _)
          · have kB : ∀ W, Calls Tryz.prog 101 #[.bool false, .int .u64 (((x / 2 ^ k : Nat) : Int) + 1), .int .i64 (tE x ea)] W fun r w' => r = .returned (.float .f64 (sig false ((tE x ea + 1074).toNat * 4503599627370496 + (x / 2 ^ k + 1)))) ∧ w' = W := fun W => by
              rw [show (((x / 2 ^ k : Nat) : Int) + 1) = ((x / 2 ^ k + 1 : Nat) : Int) by omega]
              exact rbuild (by omega) h21 h22 hn2
            have hne : (((x / 2 ^ k : Nat) : Int) + 1 == 9007199254740992) = false := by
              rw [show (((x / 2 ^ k : Nat) : Int) + 1) = ((x / 2 ^ k + 1 : Nat) : Int) by omega]
              exact neq53 h53
            exact rto_gen_3f_Pxxx1 (ua := ua) (un := dlen x) (uc := uc) (ea := ea) (e2 := tE x ea) (t := (bl x : Int) + ea) (w := w) (hn0 := hn0) (ht := ht') (ht3 := by omega) (he1 := he1) (he2 := he2) (hmx := hmx) (h21 := h21) (h22 := h22) (hge := hge) (ht2 := ht2') (kH := kH) (X := x / 2 ^ k) (F := _) (hX := hX) (hne := hne) (kD1 := k1) (kD2 := kd2P h hc hl hi2 (by omega) hz rfl) (dd := dg (x / 2 ^ (k - 1)) 0) (ex := decide (x % 2 ^ (k - 1) = 0)) (kB := kB)
theorem rto_3t {ua : Option Addr} {uc x : Nat} {ea : Int} {w : World} (h : At w ua (dlen x) x) (hc : dlen x ≤ uc) (hodd : x % 2 = 1) (hl : dlen x ≤ 100000) (he1 : -4000000 ≤ ea) (he2 : ea ≤ 4000000) :
    Calls Tryz.prog 60 #[.agg #[.bool true, .slice ua (dlen x) uc, .int .i64 ea], .int .i64 3] w fun r w' => r = .returned (.float .f64 (sig true (bdy x ea 0))) ∧ Below w.heap.size w w' := by
  have h0 : x ≠ 0 := by omega
  have hw : (0 : Nat) = 0 ∨ (0 : Nat) = 1 ∨ (0 : Nat) = 2 := by omega
  have hn0 : ((dlen x : Int) == 0) = false := len_ne (n := 0) h0
  have hbl : bl x ≤ 32 * dlen x := bl_le_dlen x
  have hb1 := bl_ne h0
  have kH : ∀ W, Below w.heap.size w W → Calls Tryz.prog 98 #[.agg #[.bool true, .slice ua (dlen x) uc, .int .i64 ea]] W fun r w' => r = .returned (.int .i64 ((bl x : Int) + ea)) ∧ Below W.heap.size W w' := fun W hW => rhigh (h.later hW) h0 (by omega) ⟨he1, he2⟩
  by_cases ht : 1024 < (bl x : Int) + ea
  · rw [bdy_big h0 ht hw]
    exact rto_big_3t _ _ _ _ _ _ _ hn0 ht kH (fun W => rbuild (M := 9007199254740991) (e := 971) (by omega) (by omega) (by omega) (.inr (by omega)))
  · have ht' : (bl x : Int) + ea ≤ 1024 := by omega
    have hmx := tE_max x ea
    obtain ⟨h21, h22⟩ := tE_bounds ht'
    by_cases hge : tE x ea ≤ ea
    · obtain ⟨hb, hlt, hg⟩ := bdy_up h0 ht' hge hw
      rw [hb]
      obtain ⟨k, hk⟩ : ∃ k : Nat, k = (ea - tE x ea).toNat := ⟨_, rfl⟩
      have hi : ea - tE x ea = (k : Int) := by omega
      rw [← hk] at hlt hg ⊢
      refine rto_up_3t (ua := ua) (un := dlen x) (uc := uc) (ea := ea) (e2 := tE x ea) (t := (bl x : Int) + ea) (w := w) (F := _) (hn0 := hn0) (ht := ht') (ht3 := by omega) (he1 := he1) (he2 := he2) (hmx := hmx) (h21 := h21) (h22 := h22) (hge := hge) (X := x * 2 ^ k) (hX := hlt) (kH := kH) (kU := fun W hW => ?_) (kB := fun W => rbuild hlt h21 h22 hg)
      rw [hi]
      exact rup ⟨ua, uc, rfl, hc, h.later hW⟩ k (by omega) (by omega)
    · have hlt : ea < tE x ea := by omega
      by_cases ht2 : (bl x : Int) + ea < -1075
      · rw [bdy_tiny h0 ht2 hw, if_neg (by decide)]
        exact rto_tiny_3t (ua := ua) (un := dlen x) (uc := uc) (ea := ea) (e2 := tE x ea) (t := (bl x : Int) + ea) (w := w) (F := _) (hn0 := hn0) (ht := ht') (ht3 := by omega) (he1 := he1) (he2 := he2) (hmx := hmx) (h21 := h21) (h22 := h22) (hge := hge) (ht2 := ht2) (kH := kH) (kB := fun W => rbuild_0 true 0 (-1074) W (by omega))
      · obtain ⟨k, hk⟩ : ∃ k : Nat, k = (tE x ea - ea).toNat := ⟨_, rfl⟩
        have hk1 : 1 ≤ k := by omega
        have hi : tE x ea - ea = (k : Int) := by omega
        have hi2 : tE x ea - ea - 1 = ((k - 1 : Nat) : Int) := by omega
        have hkb : k ≤ 10000000 := by unfold tE at hk; split at hk <;> omega
        obtain ⟨n, hn⟩ : ∃ n, n = if dnU x (tE x ea - ea).toNat 0 then x / 2 ^ (tE x ea - ea).toNat + 1 else x / 2 ^ (tE x ea - ea).toNat := ⟨_, rfl⟩
        obtain ⟨hn1, hn2, hb, hX⟩ := bdy_dn hodd ht' hlt hw hn
        rw [← hk] at hn hX
        rw [hb]
        have k1 := kd1 h hc hl hi hkb
        have hdd := and1_32 (d := dg (x / 2 ^ (k - 1)) 0) (X := x / 2 ^ (k - 1)) (dg_zero _)
        have hod := and1_64 hX
        have ht2' : -1075 ≤ (bl x : Int) + ea := by omega
        have hv : n = x / 2 ^ k := by rw [hn]; simp [dnU]
        by_cases hz : x / 2 ^ (k - 1) = 0
        · rw [hv] at hn1 hn2 ⊢
          exact rto_gen_3t_Zxxx0 (ua := ua) (un := dlen x) (uc := uc) (ea := ea) (e2 := tE x ea) (t := (bl x : Int) + ea) (w := w) (hn0 := hn0) (ht := ht') (ht3 := by omega) (he1 := he1) (he2 := he2) (hmx := hmx) (h21 := h21) (h22 := h22) (hge := hge) (ht2 := ht2') (kH := kH) (X := x / 2 ^ k) (F := _) (hX := hX) (hne := neq53 (by omega)) (kD1 := k1) (kD2 := kd2Z h hc hl hi2 (by omega) hz) (ex := decide (x % 2 ^ (k - 1) = 0)) (kB := fun W => rbuild hX h21 h22 hn2)
        · rw [hv] at hn1 hn2 ⊢
          exact rto_gen_3t_Pxxx0 (ua := ua) (un := dlen x) (uc := uc) (ea := ea) (e2 := tE x ea) (t := (bl x : Int) + ea) (w := w) (hn0 := hn0) (ht := ht') (ht3 := by omega) (he1 := he1) (he2 := he2) (hmx := hmx) (h21 := h21) (h22 := h22) (hge := hge) (ht2 := ht2') (kH := kH) (X := x / 2 ^ k) (F := _) (hX := hX) (hne := neq53 (by omega)) (kD1 := k1) (kD2 := kd2P h hc hl hi2 (by omega) hz rfl) (dd := dg (x / 2 ^ (k - 1)) 0) (ex := decide (x % 2 ^ (k - 1) = 0)) (kB := fun W => rbuild hX h21 h22 hn2)
theorem rto {neg : Bool} {ua : Option Addr} {uc x : Nat} {ea m : Int} {w : World} (h : At w ua (dlen x) x) (hc : dlen x ≤ uc) (hodd : x % 2 = 1) (hl : dlen x ≤ 100000) (he1 : -4000000 ≤ ea) (he2 : ea ≤ 4000000) (hm : 1 ≤ m ∧ m ≤ 3) :
    Calls Tryz.prog 60 #[.agg #[.bool neg, .slice ua (dlen x) uc, .int .i64 ea], .int .i64 m] w fun r w' => r = .returned (.float .f64 (sig neg (bdy x ea (wyN neg m)))) ∧ Below w.heap.size w w' := by
  rcases (show m = 1 ∨ m = 2 ∨ m = 3 by omega) with rfl | rfl | rfl <;> cases neg
  · exact rto_1f h hc hodd hl he1 he2
  · exact rto_1t h hc hodd hl he1 he2
  · exact rto_2f h hc hodd hl he1 he2
  · exact rto_2t h hc hodd hl he1 he2
  · exact rto_3f h hc hodd hl he1 he2
  · exact rto_3t h hc hodd hl he1 he2
end Go.Proofs.YthkgklkhlcbmaaaGreatDoor
namespace Go.Proofs.YthkgklkhlcbmaaaGreatDoor
set_option linter.unusedVariables false
set_option linter.unusedSimpArgs false
open Go.RowKit
end Go.Proofs.YthkgklkhlcbmaaaGreatDoor
namespace Go.Proofs.YthkgklkhlcbmaaaGreatDoor
set_option linter.unusedVariables false
set_option linter.unusedSimpArgs false
open Go.RowKit Go.Fl64
open Ie
end Go.Proofs.YthkgklkhlcbmaaaGreatDoor
namespace Go.Proofs.YthkgklkhlcbmaaaGreatDoor
set_option linter.unusedVariables false
set_option linter.unusedSimpArgs false
open Go.RowKit Go.Fl64
set_option maxRecDepth 200000 in
theorem dR_1 (s : Bool) (ao : Option Addr) (n cap : Nat) (e m sg : Int) (Z F : Nat) (w : World)
    (kS : ∀ W, Below w.heap.size w W → Calls Tryz.prog 35 #[.agg #[.bool s, .slice ao n cap, .int .i64 e]] W fun r w' => r = .returned (.int .i64 sg) ∧ Below W.heap.size W w')
    (kT : (sg == 0) = false → ∀ W, Below w.heap.size w W → Calls Tryz.prog 60 #[.agg #[.bool s, .slice ao n cap, .int .i64 e], .int .i64 m] W fun r w' => r = .returned (.float .f64 F) ∧ Below W.heap.size W w') :
    Calls Tryz.prog 46 #[.agg #[.bool s, .slice ao n cap, .int .i64 e], .int .i64 m, .float .f64 Z] w fun r w' => r = .returned (.float .f64 (if sg == 0 then Z else F)) ∧ Below w.heap.size w w' := by
  obtain ⟨W, hW⟩ : ∃ W, W = w.alloc (.cells #[.bool s, .slice ao n cap, .int .i64 e] 50) := ⟨_, rfl⟩
  have hA : W.heap[w.heap.size]? = some (.cells #[.bool s, .slice ao n cap, .int .i64 e] 50 (0, 0)) := by rw [hW]; exact heap_alloc_new _ _
  have HX : Hid (Below w.heap.size w W ∧ W.heap[w.heap.size]? = some (.cells #[.bool s, .slice ao n cap, .int .i64 e] 50 (0, 0))) := ⟨by rw [hW]; exact (Below.refl _ _).alloc (Nat.le_refl _) _, hA⟩
  obtain ⟨⟨a0, a1, a2⟩, -⟩ := box_cells29 hA
  have k1 := kS W HX.out.1
  have HT : Hid _ := kT
  clear kS kT hA
  rw [hW] at a0 a1 a2
  cases hs : (sg == 0)
  · have kt := HT.out hs
    have HT2 : Hid _ := kt
    clear HT kt
    go_enter Tryz.func46, Tryz.ntmps46
    go_wp2_with fail
    rw [← hW]
    clear hW a0 a1 a2
    refine k1.mono ?_
    rintro r w1 ⟨rfl, hb1⟩
    have HB1 : Hid (Below w.heap.size w w1) := HX.out.1.trans (hb1.mono HX.out.1.size)
    obtain ⟨⟨a0, a1, a2⟩, -⟩ := box_cells29 (box_later HX.out.2 hb1 (lt_of_box HX.out.2))
    have k2 := HT2.out w1 HB1.out
    clear k1 hb1
    go_wp2_with fail
    refine k2.mono ?_
    rintro r w2 ⟨rfl, hb2⟩
    have HB2 : Hid (Below w.heap.size w w2) := HB1.out.trans (hb2.mono HB1.out.size)
    clear k2 hb2 a0 a1 a2
    go_wp2_with fail
    go_ret
    exact ⟨rfl, HB2.out⟩
  · go_enter Tryz.func46, Tryz.ntmps46
    go_wp2_with fail
    rw [← hW]
    clear hW a0 a1 a2
    refine k1.mono ?_
    rintro r w1 ⟨rfl, hb1⟩
    have HB1 : Hid (Below w.heap.size w w1) := HX.out.1.trans (hb1.mono HX.out.1.size)
    clear k1 hb1
    go_wp2_with fail
    go_ret
    exact ⟨rfl, HB1.out⟩
theorem dR {t : Bool × Nat × Int} {A : Value} {m : Int} {Z : Nat} {w : World} (h : DN w A t) (ho : t.2.1 ≠ 0 → t.2.1 % 2 = 1) (hl : dlen t.2.1 ≤ 30000) (he1 : -2000000 ≤ t.2.2) (he2 : t.2.2 ≤ 2000000) (hm : 1 ≤ m ∧ m ≤ 3) :
    Calls Tryz.prog 46 #[A, .int .i64 m, .float .f64 Z] w fun r w' => r = .returned (.float .f64 (if t.2.1 = 0 then Z else tfF t.1 true t.2.1 t.2.2 m)) ∧ Below w.heap.size w w' := by
  obtain ⟨ao, cap, rfl, hA⟩ := h
  have k := dR_1 t.1 ao (dlen t.2.1) cap t.2.2 m (if dlen t.2.1 = 0 then 0 else if t.1 then -1 else 1) Z (tfF t.1 true t.2.1 t.2.2 m) w (fun W hW => rsgn (by omega)) (fun hs W hW => by
    have h0 : t.2.1 ≠ 0 := by
      intro e
      rw [if_pos (dlen_eq_zero.2 e)] at hs
      simp at hs
    rw [tf_bdy hm]
    exact rto ((hA.later hW).at_) hA.le (ho h0) (by omega) (by omega) (by omega) hm)
  refine k.mono ?_
  rintro r w' ⟨rfl, hb⟩
  refine ⟨?_, hb⟩
  by_cases h0 : t.2.1 = 0
  · rw [if_pos h0, if_pos (dlen_eq_zero.2 h0)]; rfl
  · rw [if_neg h0, if_neg (fun e => h0 (dlen_eq_zero.1 e))]
    cases t.1 <;> rfl
end Go.Proofs.YthkgklkhlcbmaaaGreatDoor
namespace Go.Proofs.YthkgklkhlcbmaaaGreatDoor
set_option linter.unusedVariables false
set_option linter.unusedSimpArgs false
open Go.RowKit Go.Fl64
theorem tF_fits (a : Nat) : Fits (-1074) 1025 (tF a).2.1 (tF a).2.2 := by
  refine Fits.cn (.inr ⟨(Ie.lp_bound a).1, by have := (Ie.lp_bound a).2; omega, ?_⟩)
  have h := Ie.mant_bound a
  have h2 := (Ie.lp_bound a).2
  have : 2 ^ 53 ≤ 2 ^ (1025 - Ie.lp a).toNat := Nat.pow_le_pow_right (by decide) (by omega)
  omega
theorem tF_ok (a : Nat) : Ok (tF a) := by
  refine ok_cn (Fits.ok (lo := -1074) (hi := 1025) (.inr ⟨(Ie.lp_bound a).1, by have := (Ie.lp_bound a).2; omega, ?_⟩) (by omega) (by omega) (by omega))
  have h := Ie.mant_bound a
  have h2 := (Ie.lp_bound a).2
  have : 2 ^ 53 ≤ 2 ^ (1025 - Ie.lp a).toNat := Nat.pow_le_pow_right (by decide) (by omega)
  omega
theorem cn_parts (a m : Nat) (ha : a < 18446744073709551616) (hf : mag a < 9218868437227405312) (hm : Ie.sM a = (m : Int)) : cn (neg a) m (Ie.sE a) = tF a := by
  unfold tF cn
  rcases of_parts a m ha hf hm with ⟨h1, h2⟩ | ⟨h1, h2, -, h3, h4⟩
  · rw [if_pos h1, if_pos h2]
  · rw [if_neg h1, if_neg h2, h3, h4]
theorem exact_ok (a : Nat) (ha : a < 18446744073709551616) (hf : mag a < 9218868437227405312) (w : World) (hT : Tab32 w) (hI : Ie.Tab w) : Calls Tryz.prog 108 #[.float .f64 a] w fun r w' => OutA w (tF a) r w' := by
  obtain ⟨m, hm, hml⟩ := sM_lt a ha
  refine exact_1 a (tF a) w fun W hW => (of_fin a m ha W (hT.later hW) (Tab.later hI hW) hf hm).mono ?_
  rintro r w' ⟨A, rfl, hN, hb⟩
  have hp := hN.pn
  rw [cn_parts a m ha hf hm] at hp
  obtain ⟨s, ao, n, cap, e, rfl⟩ := hp.shape
  exact ⟨s, ao, n, cap, e, rfl, hp, hb⟩
def tS (t1 t2 : Bool × Nat × Int) : Bool × Nat × Int := cn (sumN t1.1 t1.2.1 t1.2.2 t2.1 t2.2.1 t2.2.2).1 (sumN t1.1 t1.2.1 t1.2.2 t2.1 t2.2.1 t2.2.2).2.1 (sumN t1.1 t1.2.1 t1.2.2 t2.1 t2.2.1 t2.2.2).2.2
theorem tS_fits {lo hi : Int} {t1 t2 : Bool × Nat × Int} (h1 : Fits lo hi t1.2.1 t1.2.2) (h2 : Fits lo hi t2.2.1 t2.2.2) : Fits lo (hi + 1) (tS t1 t2).2.1 (tS t1 t2).2.2 := Fits.cn (Fits.sum h1 h2)
theorem tS_okR {lo hi : Int} {t1 t2 : Bool × Nat × Int} (h1 : Fits lo hi t1.2.1 t1.2.2) (h2 : Fits lo hi t2.2.1 t2.2.2) (hb : hi + 1 - lo ≤ 65536) (hlo : -65536 ≤ lo) (hhi : hi + 1 ≤ 65536) : okR (sumN t1.1 t1.2.1 t1.2.2 t2.1 t2.2.1 t2.2.2).1 (sumN t1.1 t1.2.1 t1.2.2 t2.1 t2.2.1 t2.2.2).2.1 (sumN t1.1 t1.2.1 t1.2.2 t2.1 t2.2.1 t2.2.2).2.2 = true := (Fits.sum h1 h2).ok hb hlo hhi
theorem plus_dn {t1 t2 : Bool × Nat × Int} {X Y : Value} {w : World} (o1 : Ok t1) (o2 : Ok t2) (h1 : DN w X t1) (h2 : DN w Y t2) : Calls Tryz.prog 29 #[X, Y] w fun r w' => ∃ A, r = .returned A ∧ DN w' A (tS t1 t2) ∧ Below w.heap.size w w' := by
  obtain ⟨ao, cap, rfl, a1⟩ := h1
  obtain ⟨ao', cap', rfl, a2⟩ := h2
  obtain ⟨f1, f2, f3, -, -⟩ := o1.facts
  obtain ⟨g1, g2, g3, -, -⟩ := o2.facts
  exact (rplusG a1 a2 (cn_ok o1) (cn_ok o2) (by omega) (by omega) (by omega) (by omega) (by omega) (by omega)).mono fun r w' ⟨A, e, h, hb⟩ => ⟨A, e, h.dn, hb⟩
theorem psign {t : Bool × Nat × Int} {A : Value} {w : World} (ok : Ok t) (h : PN w A t) : Calls Tryz.prog 97 #[A] w fun r w' => r = .returned (.int .i64 (sgI t.1 (dlen t.2.1))) ∧ Below w.heap.size w w' := by
  obtain ⟨ao, cap, rfl, h1⟩ := h
  obtain ⟨f1, -, -, -, -⟩ := ok.facts
  exact sign_ok h1 (by omega) ok
theorem sgI_nought {s : Bool} {x : Nat} : (sgI s (dlen x) == 0) = decide (x = 0) := by
  unfold sgI
  by_cases h : x = 0
  · rw [if_pos (dlen_eq_zero.2 h), decide_eq_true h]; rfl
  · rw [if_neg (fun e => h (dlen_eq_zero.1 e)), decide_eq_false h]; cases s <;> rfl
theorem sig_lt {s : Bool} {n : Nat} (h : n ≤ 9218868437227405312) : sig s n < 18446744073709551616 := by
  unfold sig; cases s <;> simp <;> omega
theorem tfF_lt {s : Bool} {x : Nat} {e m : Int} (hm : 1 ≤ m ∧ m ≤ 3) : tfF s true x e m < 18446744073709551616 := by
  rw [tf_bdy hm]; exact sig_lt (bdy_le _ _ _)
theorem fin_false {a : Nat} : fin a = false ↔ ¬ mag a < 9218868437227405312 := by unfold fin; simp
theorem addX_lt {a b : Nat} (ha : a < 18446744073709551616) (hb : b < 18446744073709551616) : addX a b < 18446744073709551616 := by
  unfold addX
  repeat' split
  all_goals first | exact ha | exact hb | decide
def OutF2 (W : World) (X : Nat) (r : Ending) (w' : World) : Prop := ∃ n, r = .returned (.float .f64 n) ∧ lk n X ∧ Below W.heap.size W w'
end Go.Proofs.YthkgklkhlcbmaaaGreatDoor
namespace Go.Proofs.YthkgklkhlcbmaaaGreatDoor
set_option linter.unusedVariables false
set_option linter.unusedSimpArgs false
open Go Go.RowKit
theorem range_pre {F : Fence} {n : Nat} {P : Program} {g : Operand} {ps : Array Tmp} {assign body : Code} {Q : Exit → Act → World → Prop} {a : Act} {w : World}
    (hro : F.round = none) (h1 : 1 ≤ n) {gf : Nat} {lb : Array Value} (hg : a.eval g = .func (.func gf) #[] lb) (hFg : F.fn gf) (eg : ∀ args w, (callFunc gf args).run P w = .ok (.enter gf args) w)
    (hps : ps.size = 1) {N n₀ : Nat} (hn₀ : n₀ ≤ w.heap.size) {Pre : Nat → Value → World → Prop}
    (hseq : ∀ (l : Nat) (J : Nat → World → Prop) (W : World), Below n₀ w W → (∀ k A B, J k A → Below A.heap.size A B → J k B) →
      (∀ k v W', J k W' → k < N → Pre k v W' → YieldAt F (n - 1 - 1) P l #[v] W' fun e W'' => e = .returned (.bool true) ∧ J (k + 1) W'' ∧ Below n₀ W' W'') → J 0 W →
      CallsIn F (n - 1) P gf (#[.func (.yield l) #[] #[]] ++ lb) W fun e W' => (∃ v, e = .returned v) ∧ J N W')
    (I : Nat → World → Prop) (hIb : ∀ k A B, I k A → Below A.heap.size A B → I k B)
    (hIp : ∀ k A l o o', I k A → w.heap.size ≤ l → A.heap[l]? = some o → o.isCells = false → I k (A.putObj l o')) (h0 : I 0 w)
    (Ax : Nat → Act → World → Prop) (hAp : ∀ k a' A l o o', Ax k a' A → w.heap.size ≤ l → A.heap[l]? = some o → o.isCells = false → Ax k a' (A.putObj l o'))
    (hassign : ∀ (l k : Nat) (v : Value) (W : World) (K : Act → World → Prop), I k W → k < N → Pre k v W → (∀ a' W', Below W.heap.size W W' → Ax k a' W' → K a' W') →
      assign.wpIn (F.inRound l) (n - 1 - 1) P (Exit.then K (fun _ _ _ => False)) { tmps := (ps.zip #[v]).foldl (fun t (p, v) => t.setIfInBounds p v) a.tmps, defers := [] } W)
    (hbody : ∀ (l k : Nat) (a' : Act) (W : World), I k W → k < N → Ax k a' W → body.wpIn (F.inRound l) (n - 1 - 1) P (fun e _ W' => e = .normal ∧ KeepsFrom w.heap.size W W' ∧ Below n₀ W W' ∧ I (k + 1) W') a' W)
    (hdone : ∀ (D : Nat) (W : World), w.heap.size ≤ D → I N W → W.heap[D]? = some (.deferred (some [])) → Q .normal { a with defers := { target := .collected D, args := #[] } :: a.defers } W) :
    (Code.rangeFunc g ps assign body).wpIn F n P Q a w := by
  refine wpIn_rangeFunc ?_
  intro fn hfn
  rw [hro]
  obtain ⟨rec, hrec⟩ : ∃ rec : LoopState → Option Code → Loop, rec = fun st pe => { state := st, pending := pe, fn, tmps := a.tmps, params := ps, assign, body, defers := w.heap.size } := ⟨_, rfl⟩
  obtain ⟨W1, hW1⟩ : ∃ W1, (w.alloc (.deferred (some []))).alloc (.loop (rec .ready none)) = W1 := ⟨_, rfl⟩
  have hL1 : W1.heap[w.heap.size + 1]? = some (.loop (rec .ready none)) := by
    rw [← hW1]; have := World.alloc_heap_new (w.alloc (.deferred (some []))) (.loop (rec .ready none)); rwa [World.size_alloc] at this
  have hK1 : W1.heap[w.heap.size]? = some (.deferred (some [])) := by
    rw [← hW1]; exact (Below.heap_alloc _ _ _ (by simp)).trans (World.alloc_heap_new w _)
  have hb1 : Below w.heap.size w W1 := by
    rw [← hW1]; exact (((Below.refl _ w).alloc (Nat.le_refl _) _).alloc (by simp) _)
  have hI1 : I 0 W1 := hIb 0 w W1 h0 hb1
  have put : ∀ (W : World) (o' : Obj) (o : Obj) (l : Nat), w.heap.size ≤ l → W.heap[l]? = some o → Below n₀ W (W.putObj l o') := fun W o' o l hl h =>
    (Below.refl n₀ W).grown (grownBy_putObj' W l o') (by have := (Array.getElem?_eq_some_iff.1 h).1; omega) (fun k e => by cases e; omega)
  refine ⟨w.heap.size + 1, [{ target := .collected w.heap.size, args := #[] }], W1, { target := .fn (.func gf) lb, args := #[.func (.yield (w.heap.size + 1)) #[] #[]] }, W1, gf,
    #[.func (.yield (w.heap.size + 1)) #[] #[]] ++ lb, W1, ?_, ?_, ?_, ?_, fun _ => h1, ?_⟩
  · rw [← hW1, hrec]; exact run_enterLoop_outer _ _ _ _ _
  · simp only [resolve, hg]
    simp [go_sem]
  · intro f' hf'; simp [Target.leads] at hf'; subst hf'; exact hFg
  · simp [invoke, go_sem, eg]
  · refine (hseq (w.heap.size + 1)
      (fun k W => I k W ∧ W.heap[w.heap.size + 1]? = some (.loop (rec .ready none)) ∧ W.heap[w.heap.size]? = some (.deferred (some [])))
      W1 (hb1.mono hn₀)
      (fun k A B hs hb => ⟨hIb k A B hs.1 hb, box_later hs.2.1 hb (Array.getElem?_eq_some_iff.1 hs.2.1).1, box_later hs.2.2 hb (Array.getElem?_eq_some_iff.1 hs.2.2).1⟩)
      ?_ ⟨hI1, hL1, hK1⟩).mono ?_
    · rintro k v W ⟨hi, hl, hk⟩ hlen hpre
      have hy := run_yield (P := P) (args := #[v]) hl (by rw [hrec]; show 1 = ps.size; omega)
      rw [hrec] at hy
      refine ⟨fn, _, assign, body, hy, roundIn_of_wpIn hfn (hassign _ k v W _ hi hlen hpre ?_)⟩
      clear hy
      intro a' Wa hba hax
      have hla := box_later hl hba (Array.getElem?_eq_some_iff.1 hl).1
      have hka := box_later hk hba (Array.getElem?_eq_some_iff.1 hk).1
      have hlt : w.heap.size + 1 < Wa.heap.size := (Array.getElem?_eq_some_iff.1 hla).1
      have hia := hIb k W Wa hi hba
      refine ⟨_, run_beginRound hla (by rw [hrec]), ?_⟩
      have hl2 : (Wa.putObj (w.heap.size + 1) (.loop { rec .ready none with state := .busy })).heap[w.heap.size + 1]? = some (.loop { rec .ready none with state := .busy }) := World.putObj_heap_same hlt
      have hk2 : (Wa.putObj (w.heap.size + 1) (.loop { rec .ready none with state := .busy })).heap[w.heap.size]? = some (.deferred (some [])) := (World.putObj_heap_other (by omega)).trans hka
      have hw2 := put Wa (.loop { rec .ready none with state := .busy }) _ (w.heap.size + 1) (by omega) hla
      refine wpIn_mono (hbody _ k a' _ (hIp k Wa _ _ _ hia (by omega) hla rfl) hlen (hAp k a' Wa _ _ _ hax (by omega) hla rfl)) ?_
      rintro e a3 W3 ⟨rfl, hk3, hb3, hi3⟩
      have hl3 := hk3.same _ _ (by omega) hl2 rfl
      have hd3 := hk3.same _ _ (Nat.le_refl _) hk2 rfl
      have hr := run_endRound (P := P) none hl3
      rw [hrec] at hr hl3
      have hl4 := World.putObj_heap_same (o := Obj.loop (rec .ready none)) (Array.getElem?_eq_some_iff.1 hl3).1
      have hb0 : Below n₀ W Wa := hba.mono (by have := (Array.getElem?_eq_some_iff.1 hl).1; omega)
      refine ⟨_, _, hr, rfl, ⟨hIp (k + 1) W3 _ _ _ hi3 (by omega) hl3 rfl, ?_, (World.putObj_heap_other (by omega)).trans hd3⟩, ((hb0.trans hw2).trans hb3).trans (put W3 _ _ _ (by omega) hl3)⟩
      rw [hrec] at hl4 ⊢
      exact hl4
    · rintro e W2 ⟨⟨v, rfl⟩, hi, hl, hk⟩
      exact ⟨none, _, by have := run_endLoop (P := P) hl (by rw [hrec]; simp); rw [hrec] at this; exact this, hdone _ _ (Nat.le_refl _) (hIp N W2 _ _ _ hi (by omega) hl rfl) ((World.putObj_heap_other (by omega)).trans hk)⟩
end Go.Proofs.YthkgklkhlcbmaaaGreatDoor
namespace Go.Proofs.YthkgklkhlcbmaaaGreatDoor
set_option linter.unusedVariables false
set_option linter.unusedSimpArgs false
open Go.RowKit Go.Fl64
set_option maxRecDepth 200000 in
theorem uexact_1 (a : Nat) (t : Bool × Nat × Int) (w : World)
    (k : ∀ W, Below w.heap.size w W → Calls Tryz.prog 120 #[.float .f64 a] W fun r w' => ∃ s ao n cap e, r = .returned (.tuple #[.agg #[.bool s, .slice ao n cap, .int .i64 e], .int .i64 0]) ∧ PN w' (.agg #[.bool s, .slice ao n cap, .int .i64 e]) t ∧ Below W.heap.size W w') :
    Calls Tryz.prog 82 #[.float .f64 a] w fun r w' => OutA w t r w' := by
  obtain ⟨W, hW⟩ : ∃ W, W = w.alloc (.cells #[.bool false, .slice none 0 0, .int .i64 0] 59) := ⟨_, rfl⟩
  have HX : Hid (Below w.heap.size w W ∧ W.heap[w.heap.size]? = some (.cells #[.bool false, .slice none 0 0, .int .i64 0] 59 (0, 0))) := ⟨by rw [hW]; exact (Below.refl _ _).alloc (Nat.le_refl _) _, by rw [hW]; exact heap_alloc_new _ _⟩
  have k1 := k W HX.out.1
  clear k
  go_enter Tryz.func82, Tryz.ntmps82
  go_wp2_with fail
  rw [← hW]
  clear hW
  refine k1.mono ?_
  rintro r w1 ⟨s1, ao1, n1, cap1, ex1, rfl, hA, hb1⟩
  obtain ⟨W1, hW1⟩ : ∃ W1, W1 = w1.alloc (.cells #[.bool s1, .slice ao1 n1 cap1, .int .i64 ex1] 59) := ⟨_, rfl⟩
  have hb2 : Below W.heap.size W W1 := by rw [hW1]; exact hb1.alloc hb1.size _
  have HY : Hid (PN W1 (.agg #[.bool s1, .slice ao1 n1 cap1, .int .i64 ex1]) t ∧ Below w.heap.size w W1 ∧ W1.heap[w1.heap.size]? = some (.cells #[.bool s1, .slice ao1 n1 cap1, .int .i64 ex1] 59 (0, 0)) ∧ W1.heap[w.heap.size]? = some (.cells #[.bool false, .slice none 0 0, .int .i64 0] 59 (0, 0))) :=
    ⟨by rw [hW1]; exact hA.later ((Below.refl _ _).alloc (Nat.le_refl _) _), HX.out.1.trans (hb2.mono HX.out.1.size), by rw [hW1]; exact heap_alloc_new _ _, box_later HX.out.2 hb2 (lt_of_box HX.out.2)⟩
  clear k1 hA hb1 hb2
  go_upto_region 2 with fail
  rw [← hW1]
  clear hW1
  generalize w1.heap.size = g1 at *
  obtain ⟨⟨a0, a1, a2⟩, -⟩ := box_cells HY.out.2.2.1
  obtain ⟨⟨x1, x2, x3⟩, x4, x5, x6⟩ := box_cells HY.out.2.2.2
  go_wp2
  refine bodyPost_ret (results_cell_row rfl _ _ w.heap.size 59 #[.bool s1, .slice ao1 n1 cap1, .int .i64 ex1] (0, 0) _ rfl (store3 _ _ _ HY.out.2.2.2) Tryz.underlying59 rfl Tryz.info59) rfl ?_
  exact ⟨_, _, _, _, _, rfl, pn_store HY.out.1 HY.out.2.2.2 _ _ _, below_store3 HY.out.2.1 (Nat.le_refl _) _ _ _⟩
set_option maxRecDepth 200000 in
theorem urounded_1 (na : Bool) (ua : Option Addr) (un uc F : Nat) (ea m : Int) (w : World)
    (k : ∀ W, Below w.heap.size w W → Calls Tryz.prog 80 #[.agg #[.bool na, .slice ua un uc, .int .i64 ea], .int .i64 m] W fun r w' => r = .returned (.tuple #[.float .f64 F, .int .i64 0]) ∧ Below W.heap.size W w') :
    Calls Tryz.prog 42 #[.agg #[.bool na, .slice ua un uc, .int .i64 ea], .int .i64 m] w fun r w' => r = .returned (.float .f64 F) ∧ Below w.heap.size w w' := by
  obtain ⟨W, hW⟩ : ∃ W, W = w.alloc (.cells #[.bool na, .slice ua un uc, .int .i64 ea] 59) := ⟨_, rfl⟩
  have HX : Hid (Below w.heap.size w W) := (by rw [hW]; exact (Below.refl _ _).alloc (Nat.le_refl _) _ : Below w.heap.size w W)
  have hA : W.heap[w.heap.size]? = some (.cells #[.bool na, .slice ua un uc, .int .i64 ea] 59 (0, 0)) := by rw [hW]; exact heap_alloc_new _ _
  obtain ⟨⟨a0, a1, a2⟩, -⟩ := box_cells hA
  have k1 := k W HX.out
  clear k hA
  rw [hW] at a0 a1 a2
  go_enter Tryz.func42, Tryz.ntmps42
  go_wp2_with fail
  rw [← hW]
  clear hW a0 a1 a2
  refine k1.mono ?_
  rintro r w1 ⟨rfl, hb1⟩
  have HY : Hid (Below w.heap.size w w1) := HX.out.trans (hb1.mono HX.out.size)
  clear k1 hb1
  go_wp2
  go_ret
  exact ⟨rfl, HY.out⟩
theorem urounded {t : Bool × Nat × Int} {A : Value} {m : Int} {w : World} (hT : Tab32 w) (ok : Ok t) (h : PN w A t) (hm : 1 ≤ m ∧ m ≤ 3) :
    Calls Tryz.prog 42 #[A, .int .i64 m] w fun r w' => r = .returned (.float .f64 (tfF t.1 true t.2.1 t.2.2 m)) ∧ Below w.heap.size w w' := by
  obtain ⟨s, ao, n, cap, e, rfl⟩ := h.shape
  exact urounded_1 s ao n cap _ e m w fun W hW => pround (hT.later hW) ok (h.later hW) hm
theorem uexact_ok (a : Nat) (ha : a < 18446744073709551616) (hf : mag a < 9218868437227405312) (w : World) (hT : Tab32 w) (hI : Ie.Tab w) : Calls Tryz.prog 82 #[.float .f64 a] w fun r w' => OutA w (tF a) r w' := by
  obtain ⟨m, hm, hml⟩ := sM_lt a ha
  refine uexact_1 a (tF a) w fun W hW => (of_fin a m ha W (hT.later hW) (Tab.later hI hW) hf hm).mono ?_
  rintro r w' ⟨A, rfl, hN, hb⟩
  have hp := hN.pn
  rw [cn_parts a m ha hf hm] at hp
  obtain ⟨s, ao, n, cap, e, rfl⟩ := hp.shape
  exact ⟨s, ao, n, cap, e, rfl, hp, hb⟩
end Go.Proofs.YthkgklkhlcbmaaaGreatDoor
namespace Go.Proofs.YthkgklkhlcbmaaaGreatDoor
set_option linter.unusedVariables false
set_option linter.unusedSimpArgs false
open Go Go.RowKit Go.Fl64 Go.Shelf
attribute [local go_sem] Oper.semAt_some
def FAt (w : World) (ao : Option Addr) (len : Nat) (xs : Nat → Nat) : Prop := ∃ b off, (0 < len → ao = some ⟨b, off, none⟩) ∧ ∀ j, j < len → w.cell? ⟨b, off + j, none⟩ = some (.float .f64 (xs j))
theorem FAt.later {w w' : World} {ao : Option Addr} {len : Nat} {xs : Nat → Nat} (h : FAt w ao len xs) (hb : Below w.heap.size w w') : FAt w' ao len xs := by
  obtain ⟨b, off, h1, h2⟩ := h
  refine ⟨b, off, h1, fun j hj => ?_⟩
  have := h2 j hj
  have hlt : b < w.heap.size := by
    unfold World.cell? at this
    rcases Nat.lt_or_ge b w.heap.size with h | h
    · exact h
    · rw [Array.getElem?_eq_none h] at this
      simp at this
  exact (hb.cell (p := ⟨b, off + j, none⟩) hlt).trans this
set_option maxRecDepth 200000 in
theorem floats1_in (n l Bs len cap : Nat) (ao : Option Addr) (xs : Nat → Nat) (w W : World) (J : Nat → World → Prop) (hreach : len * 8 ≤ 140737488351232)
    (hfin : ∀ i, i < len → xs i < 18446744073709551616 ∧ mag (xs i) < 9218868437227405312) (hT : Tab32 w) (hI : Ie.Tab w) (hl : FAt w ao len xs)
    (hJb : ∀ k A B, J k A → Below A.heap.size A B → J k B)
    (hY : ∀ k v W', J k W' → k < len → PN W' v (tF (xs k)) → YieldAt Fence.wide (n - 1) Tryz.prog l #[v] W' fun e W'' => e = .returned (.bool true) ∧ J (k + 1) W'' ∧ Below w.heap.size W' W'')
    (hbW : Below w.heap.size w W) (hBs : W.cell? ⟨Bs, 0, none⟩ = some (.slice ao len cap)) (h0 : J 0 W) :
    CallsIn Fence.wide n Tryz.prog 85 #[.func (.yield l) #[] #[], .pointer (some ⟨Bs, 0, none⟩)] W fun e W' => (∃ v, e = .returned v) ∧ J len W' := by
  obtain ⟨b, off, hao, hcell⟩ := hl
  refine callsIn_of_wp Tryz.func85 rfl trivial ?_ rfl
  simp only [Tryz.ntmps85, List.size_toArray, List.length_cons, List.length_nil, Nat.reduceAdd, Nat.reduceSub, Array.replicate_succ, Array.replicate_zero, List.push_toArray, List.append_toArray, List.nil_append, List.cons_append]
  gi_wp2
  gi_loopw [7] (fun i wr => ∃ k : Nat, k ≤ len ∧ i = .int .i64 k ∧ J k wr ∧ Below w.heap.size w wr)
    (fun i _ => len - (intOf i).toNat)
  case atStart => exact ⟨0, Nat.zero_le _, rfl, h0, hbW⟩
  case round =>
    obtain ⟨k, hk, rfl, hJs, hnx⟩ := hrel
    by_cases hlt : k < len
    · obtain rfl := hao (by omega)
      have hck := hcell k hlt
      have hblt : b < w.heap.size := by
        unfold World.cell? at hck
        rcases Nat.lt_or_ge b w.heap.size with h | h
        · exact h
        · rw [Array.getElem?_eq_none h] at hck
          simp at hck
      have hcx : wr.cell? ⟨b, off + k, none⟩ = some (.float .f64 (xs k)) := (hnx.cell (p := ⟨b, off + k, none⟩) hblt).trans hck
      have kx := uexact_ok (xs k) (hfin k hlt).1 (hfin k hlt).2 wr (hT.later hnx) (Tab.later hI hnx)
      have HY : Hid (∀ w3 v, Below wr.heap.size wr w3 → PN w3 v (tF (xs k)) → YieldAt Fence.wide (n - 1) Tryz.prog l #[v] w3 fun e W'' => e = .returned (.bool true) ∧ J (k + 1) W'' ∧ Below w.heap.size w W'') := fun w3 v hb h => by
        obtain ⟨fn, tmps, assign, body, hy, hR⟩ := hY k v w3 (hJb k wr w3 hJs hb) hlt h
        refine ⟨fn, tmps, assign, body, hy, hR.mono ?_⟩
        rintro e W3 ⟨rfl, hJ3, hk3⟩
        exact ⟨rfl, hJ3, (hnx.trans (hb.mono hnx.size)).trans hk3⟩
      clear hY hck hcell hao hfin hJb hT hI hJs hnx hbW h0 hBs
      gi_wp2
      refine ⟨trivial, fun h => (by cases h), ?_⟩
      refine (callsIn_wide.2 kx).mono ?_
      rintro r w3 ⟨s3, ao3, n3, cap3, ex3, rfl, hP3, hb3⟩
      obtain ⟨fn, tmps, assign, body, hy, hR⟩ := HY.out w3 _ hb3 hP3
      gi_wp2
      refine ⟨fun h => (by cases h), hR.mono ?_⟩
      rintro e W3 ⟨rfl, hJ3, hk3⟩
      clear HY kx hy hR hP3 hb3
      gi_wp2
      go_roundw
      case rel => exact ⟨k + 1, by omega, by simp, hJ3, hk3⟩
      case measure => simp [intOf]; omega
    · obtain rfl : k = len := by omega
      gi_wp2
      go_end0
      exact ⟨⟨_, rfl⟩, hJs⟩
end Go.Proofs.YthkgklkhlcbmaaaGreatDoor
