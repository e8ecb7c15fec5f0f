/- Own work: contracts of the program's functions, part 16: RT7 RY1 W53 L18. -/
import Derived.Test.YtmhpicccfaklcaaGreatDoorA13
import Derived.Test.YtmhpicccfaklcaaGreatDoorA14
import Derived.Test.YtmhpicccfaklcaaGreatDoorA15
import Derived.Test.YtmhpicccfaklcaaGreatDoorA12
import Derived.Test.YtmhpicccfaklcaaGreatDoorA8

/- The document's rounding, joined. -/
namespace Go.Proofs.YtmhpicccfaklcaaGreatDoor
set_option linter.unusedVariables false
set_option linter.unusedSimpArgs false
open Go.RowKit Go.Fl64
open Ie

theorem and1_32 {d X : Nat} (h : d = X % B) : (bits BinOp.and IntKind.u32 (d : Int) 1 == 1) = (X % 2 == 1) := by
  have hB : B = 4294967296 := rfl
  have h2 := u32_and_nat d 1 (by rw [h, hB]; omega) (by decide)
  rw [show ((1 : Nat) : Int) = 1 from rfl] at h2
  rw [h2, Nat.and_one_is_mod, h, show X % B % 2 = X % 2 by rw [hB]; omega]
  rcases Nat.mod_two_eq_zero_or_one X with h | h <;> rw [h] <;> rfl
theorem and1_64 {X : Nat} (h : X < 9007199254740992) : (bits BinOp.and IntKind.u64 (X : Int) 1 == 1) = (X % 2 == 1) := by
  have h2 := u64_and_nat X 1 (by omega) (by decide)
  rw [show ((1 : Nat) : Int) = 1 from rfl] at h2
  rw [h2, Nat.and_one_is_mod]
  rcases Nat.mod_two_eq_zero_or_one X with h | h <;> rw [h] <;> rfl
theorem neq53 {n : Nat} (h : n ≠ 9007199254740992) : ((n : Int) == 9007199254740992) = false := by
  have : ((n : Nat) : Int) ≠ 9007199254740992 := by omega
  simpa using this
theorem tE_max (x : Nat) (E : Int) : max ((bl x : Int) + E - 53) (-1074) = tE x E := by unfold tE; split <;> omega
/-- down's answer as it is asked for here -/
theorem kd1 {w : World} {ua : Option Addr} {uc x : Nat} (h : At w ua (dlen x) x) (hc : dlen x ≤ uc) (hl : dlen x ≤ 100000) {i : Int} {k : Nat} (hi : i = (k : Int)) (hk : k ≤ 10000000) :
    ∀ W, Below w.heap.size w W → Calls Tryz.prog 131 #[.slice ua (dlen x) uc, .int .i64 i] W fun r w' => ∃ v bb, r = .returned (.tuple #[v, .bool bb]) ∧ Ir w' v (x / 2 ^ k) ∧ Below W.heap.size W w' := by
  intro W hW
  subst hi
  refine (rdown (v := .slice ua (dlen x) uc) (⟨ua, uc, rfl, hc, h.later hW⟩ : Ir W _ x) k (by omega) (by omega)).mono ?_
  rintro r w' ⟨ao, cap', rfl, hA, hc', hB⟩
  exact ⟨_, _, rfl, ⟨ao, cap', rfl, hc', hA⟩, hB⟩
theorem kd2Z {w : World} {ua : Option Addr} {uc x : Nat} (h : At w ua (dlen x) x) (hc : dlen x ≤ uc) (hl : dlen x ≤ 100000) {i : Int} {k : Nat} (hi : i = (k : Int)) (hk : k ≤ 10000000) (hz : x / 2 ^ k = 0) :
    ∀ W, Below w.heap.size w W → Calls Tryz.prog 131 #[.slice ua (dlen x) uc, .int .i64 i] W fun r w' => ∃ ao cap', r = .returned (.tuple #[.slice ao 0 cap', .bool (decide (x % 2 ^ k = 0))]) ∧ Below W.heap.size W w' := by
  intro W hW
  subst hi
  refine (rdown (v := .slice ua (dlen x) uc) (⟨ua, uc, rfl, hc, h.later hW⟩ : Ir W _ x) k (by omega) (by omega)).mono ?_
  rintro r w' ⟨ao, cap', rfl, hA, hc', hB⟩
  rw [hz, dlen_zero]
  exact ⟨_, _, rfl, hB⟩
theorem kd2P {w : World} {ua : Option Addr} {uc x : Nat} (h : At w ua (dlen x) x) (hc : dlen x ≤ uc) (hl : dlen x ≤ 100000) {i : Int} {k : Nat} (hi : i = (k : Int)) (hk : k ≤ 10000000) (hz : x / 2 ^ k ≠ 0) {ex : Bool} (hex : decide (x % 2 ^ k = 0) = ex) :
    ∀ W, Below w.heap.size w W → Calls Tryz.prog 131 #[.slice ua (dlen x) uc, .int .i64 i] W fun r w' => ∃ b o n2 cap', r = .returned (.tuple #[.slice (some ⟨b, o, none⟩) (n2 : Nat) cap', .bool ex]) ∧ (0 : Int) < (n2 : Int) ∧ n2 ≤ 1000000000 ∧ w'.cell? ⟨b, o, none⟩ = some (.int .u32 (dg (x / 2 ^ k) 0 : Nat)) ∧ Below W.heap.size W w' := by
  intro W hW
  subst hi
  subst hex
  refine (rdown (v := .slice ua (dlen x) uc) (⟨ua, uc, rfl, hc, h.later hW⟩ : Ir W _ x) k (by omega) (by omega)).mono ?_
  rintro r w' ⟨ao, cap', rfl, ⟨b, o, hb, hcell⟩, hc', hB⟩
  have hp : 0 < dlen (x / 2 ^ k) := Nat.pos_of_ne_zero fun e => hz (dlen_eq_zero.1 e)
  obtain rfl := hb hp
  have hle : dlen (x / 2 ^ k) ≤ dlen x := dlen_mono (Nat.div_le_self _ _)
  have c0 := hcell 0 hp
  rw [Nat.add_zero] at c0
  exact ⟨b, o, _, cap', rfl, by omega, by omega, c0, hB⟩
set_option maxHeartbeats 1000000 in
theorem rto_1f {ua : Option Addr} {uc x : Nat} {ea : Int} {w : World} (h : At w ua (dlen x) x) (hc : dlen x ≤ uc) (hodd : x % 2 = 1) (hl : dlen x ≤ 100000) (he1 : -4000000 ≤ ea) (he2 : ea ≤ 4000000) :
    Calls Tryz.prog 89 #[.agg #[.bool false, .slice ua (dlen x) uc, .int .i64 ea], .int .i64 1] w fun r w' => r = .returned (.float .f64 (sig false (bdy x ea 0))) ∧ Below w.heap.size w w' := by
  have h0 : x ≠ 0 := by omega
  have hw : (0 : Nat) = 0 ∨ (0 : Nat) = 1 ∨ (0 : Nat) = 2 := by omega
  have hn0 : ((dlen x : Int) == 0) = false := len_ne (n := 0) h0
  have hbl : bl x ≤ 32 * dlen x := bl_le_dlen x
  have hb1 := bl_ne h0
  have kH : ∀ W, Below w.heap.size w W → Calls Tryz.prog 56 #[.agg #[.bool false, .slice ua (dlen x) uc, .int .i64 ea]] W fun r w' => r = .returned (.int .i64 ((bl x : Int) + ea)) ∧ Below W.heap.size W w' := fun W hW => rhigh (h.later hW) h0 (by omega) ⟨he1, he2⟩
  by_cases ht : 1024 < (bl x : Int) + ea
  · rw [bdy_big h0 ht hw]
    exact rto_big_1f _ _ _ _ _ _ _ hn0 ht kH (fun W => rbuild (M := 9007199254740991) (e := 971) (by omega) (by omega) (by omega) (.inr (by omega)))
  · have ht' : (bl x : Int) + ea ≤ 1024 := by omega
    have hmx := tE_max x ea
    obtain ⟨h21, h22⟩ := tE_bounds ht'
    by_cases hge : tE x ea ≤ ea
    · obtain ⟨hb, hlt, hg⟩ := bdy_up h0 ht' hge hw
      rw [hb]
      obtain ⟨k, hk⟩ : ∃ k : Nat, k = (ea - tE x ea).toNat := ⟨_, rfl⟩
      have hi : ea - tE x ea = (k : Int) := by omega
      rw [← hk] at hlt hg ⊢
      refine rto_up_1f (ua := ua) (un := dlen x) (uc := uc) (ea := ea) (e2 := tE x ea) (t := (bl x : Int) + ea) (w := w) (F := _) (hn0 := hn0) (ht := ht') (ht3 := by omega) (he1 := he1) (he2 := he2) (hmx := hmx) (h21 := h21) (h22 := h22) (hge := hge) (X := x * 2 ^ k) (hX := hlt) (kH := kH) (kU := fun W hW => ?_) (kB := fun W => rbuild hlt h21 h22 hg)
      rw [hi]
      exact rup ⟨ua, uc, rfl, hc, h.later hW⟩ k (by omega) (by omega)
    · have hlt : ea < tE x ea := by omega
      by_cases ht2 : (bl x : Int) + ea < -1075
      · rw [bdy_tiny h0 ht2 hw, if_neg (by decide)]
        exact rto_tiny_1f (ua := ua) (un := dlen x) (uc := uc) (ea := ea) (e2 := tE x ea) (t := (bl x : Int) + ea) (w := w) (F := _) (hn0 := hn0) (ht := ht') (ht3 := by omega) (he1 := he1) (he2 := he2) (hmx := hmx) (h21 := h21) (h22 := h22) (hge := hge) (ht2 := ht2) (kH := kH) (kB := fun W => rbuild_0 false 0 (-1074) W (by omega))
      · obtain ⟨k, hk⟩ : ∃ k : Nat, k = (tE x ea - ea).toNat := ⟨_, rfl⟩
        have hk1 : 1 ≤ k := by omega
        have hi : tE x ea - ea = (k : Int) := by omega
        have hi2 : tE x ea - ea - 1 = ((k - 1 : Nat) : Int) := by omega
        have hkb : k ≤ 10000000 := by unfold tE at hk; split at hk <;> omega
        obtain ⟨n, hn⟩ : ∃ n, n = if dnU x (tE x ea - ea).toNat 0 then x / 2 ^ (tE x ea - ea).toNat + 1 else x / 2 ^ (tE x ea - ea).toNat := ⟨_, rfl⟩
        obtain ⟨hn1, hn2, hb, hX⟩ := bdy_dn hodd ht' hlt hw hn
        rw [← hk] at hn hX
        rw [hb]
        have k1 := kd1 h hc hl hi hkb
        have hdd := and1_32 (d := dg (x / 2 ^ (k - 1)) 0) (X := x / 2 ^ (k - 1)) (dg_zero _)
        have hod := and1_64 hX
        have ht2' : -1075 ≤ (bl x : Int) + ea := by omega
        have hv : n = x / 2 ^ k := by rw [hn]; simp [dnU]
        by_cases hz : x / 2 ^ (k - 1) = 0
        · rw [hv] at hn1 hn2 ⊢
          exact rto_gen_1f_Zxxx0 (ua := ua) (un := dlen x) (uc := uc) (ea := ea) (e2 := tE x ea) (t := (bl x : Int) + ea) (w := w) (hn0 := hn0) (ht := ht') (ht3 := by omega) (he1 := he1) (he2 := he2) (hmx := hmx) (h21 := h21) (h22 := h22) (hge := hge) (ht2 := ht2') (kH := kH) (X := x / 2 ^ k) (F := _) (hX := hX) (hne := neq53 (by omega)) (kD1 := k1) (kD2 := kd2Z h hc hl hi2 (by omega) hz) (ex := decide (x % 2 ^ (k - 1) = 0)) (kB := fun W => rbuild hX h21 h22 hn2)
        · rw [hv] at hn1 hn2 ⊢
          exact rto_gen_1f_Pxxx0 (ua := ua) (un := dlen x) (uc := uc) (ea := ea) (e2 := tE x ea) (t := (bl x : Int) + ea) (w := w) (hn0 := hn0) (ht := ht') (ht3 := by omega) (he1 := he1) (he2 := he2) (hmx := hmx) (h21 := h21) (h22 := h22) (hge := hge) (ht2 := ht2') (kH := kH) (X := x / 2 ^ k) (F := _) (hX := hX) (hne := neq53 (by omega)) (kD1 := k1) (kD2 := kd2P h hc hl hi2 (by omega) hz rfl) (dd := dg (x / 2 ^ (k - 1)) 0) (ex := decide (x % 2 ^ (k - 1) = 0)) (kB := fun W => rbuild hX h21 h22 hn2)
set_option maxHeartbeats 1000000 in
theorem rto_1t {ua : Option Addr} {uc x : Nat} {ea : Int} {w : World} (h : At w ua (dlen x) x) (hc : dlen x ≤ uc) (hodd : x % 2 = 1) (hl : dlen x ≤ 100000) (he1 : -4000000 ≤ ea) (he2 : ea ≤ 4000000) :
    Calls Tryz.prog 89 #[.agg #[.bool true, .slice ua (dlen x) uc, .int .i64 ea], .int .i64 1] w fun r w' => r = .returned (.float .f64 (sig true (bdy x ea 2))) ∧ Below w.heap.size w w' := by
  have h0 : x ≠ 0 := by omega
  have hw : (2 : Nat) = 0 ∨ (2 : Nat) = 1 ∨ (2 : Nat) = 2 := by omega
  have hn0 : ((dlen x : Int) == 0) = false := len_ne (n := 0) h0
  have hbl : bl x ≤ 32 * dlen x := bl_le_dlen x
  have hb1 := bl_ne h0
  have kH : ∀ W, Below w.heap.size w W → Calls Tryz.prog 56 #[.agg #[.bool true, .slice ua (dlen x) uc, .int .i64 ea]] W fun r w' => r = .returned (.int .i64 ((bl x : Int) + ea)) ∧ Below W.heap.size W w' := fun W hW => rhigh (h.later hW) h0 (by omega) ⟨he1, he2⟩
  by_cases ht : 1024 < (bl x : Int) + ea
  · rw [bdy_big h0 ht hw]
    exact rto_big_1t _ _ _ _ _ _ hn0 ht kH
  · have ht' : (bl x : Int) + ea ≤ 1024 := by omega
    have hmx := tE_max x ea
    obtain ⟨h21, h22⟩ := tE_bounds ht'
    by_cases hge : tE x ea ≤ ea
    · obtain ⟨hb, hlt, hg⟩ := bdy_up h0 ht' hge hw
      rw [hb]
      obtain ⟨k, hk⟩ : ∃ k : Nat, k = (ea - tE x ea).toNat := ⟨_, rfl⟩
      have hi : ea - tE x ea = (k : Int) := by omega
      rw [← hk] at hlt hg ⊢
      refine rto_up_1t (ua := ua) (un := dlen x) (uc := uc) (ea := ea) (e2 := tE x ea) (t := (bl x : Int) + ea) (w := w) (F := _) (hn0 := hn0) (ht := ht') (ht3 := by omega) (he1 := he1) (he2 := he2) (hmx := hmx) (h21 := h21) (h22 := h22) (hge := hge) (X := x * 2 ^ k) (hX := hlt) (kH := kH) (kU := fun W hW => ?_) (kB := fun W => rbuild hlt h21 h22 hg)
      rw [hi]
      exact rup ⟨ua, uc, rfl, hc, h.later hW⟩ k (by omega) (by omega)
    · have hlt : ea < tE x ea := by omega
      by_cases ht2 : (bl x : Int) + ea < -1075
      · rw [bdy_tiny h0 ht2 hw, if_pos rfl]
        exact rto_tiny_1t (ua := ua) (un := dlen x) (uc := uc) (ea := ea) (e2 := tE x ea) (t := (bl x : Int) + ea) (w := w) (F := _) (hn0 := hn0) (ht := ht') (ht3 := by omega) (he1 := he1) (he2 := he2) (hmx := hmx) (h21 := h21) (h22 := h22) (hge := hge) (ht2 := ht2) (kH := kH) (kB := fun W => rbuild_0 true 1 (-1074) W (by omega))
      · obtain ⟨k, hk⟩ : ∃ k : Nat, k = (tE x ea - ea).toNat := ⟨_, rfl⟩
        have hk1 : 1 ≤ k := by omega
        have hi : tE x ea - ea = (k : Int) := by omega
        have hi2 : tE x ea - ea - 1 = ((k - 1 : Nat) : Int) := by omega
        have hkb : k ≤ 10000000 := by unfold tE at hk; split at hk <;> omega
        obtain ⟨n, hn⟩ : ∃ n, n = if dnU x (tE x ea - ea).toNat 2 then x / 2 ^ (tE x ea - ea).toNat + 1 else x / 2 ^ (tE x ea - ea).toNat := ⟨_, rfl⟩
        obtain ⟨hn1, hn2, hb, hX⟩ := bdy_dn hodd ht' hlt hw hn
        rw [← hk] at hn hX
        rw [hb]
        have k1 := kd1 h hc hl hi hkb
        have hdd := and1_32 (d := dg (x / 2 ^ (k - 1)) 0) (X := x / 2 ^ (k - 1)) (dg_zero _)
        have hod := and1_64 hX
        have ht2' : -1075 ≤ (bl x : Int) + ea := by omega
        have hv : n = x / 2 ^ k + 1 := by rw [hn]; simp [dnU]
        by_cases hz : x / 2 ^ (k - 1) = 0
        · rw [hv] at hn1 hn2 ⊢
          by_cases h53 : x / 2 ^ k + 1 = 9007199254740992
          · have hXv : x / 2 ^ k = 9007199254740991 := by omega
            rw [hXv] at k1
            by_cases h9 : tE x ea = 971
            · rw [h53, show ((tE x ea + 1074).toNat * 4503599627370496 + 9007199254740992) = 9218868437227405312 by omega]
              exact rto_gen_1t_Zxxx3 (ua := ua) (un := dlen x) (uc := uc) (ea := ea) (e2 := tE x ea) (t := (bl x : Int) + ea) (w := w) (hn0 := hn0) (ht := ht') (ht3 := by omega) (he1 := he1) (he2 := he2) (hmx := hmx) (h21 := h21) (h22 := h22) (hge := hge) (ht2 := ht2') (kH := kH) (hnx := h9) (kD1 := k1) (kD2 := kd2Z h hc hl hi2 (by omega) hz) (ex := decide (x % 2 ^ (k - 1) = 0))
            · rw [h53, show ((tE x ea + 1074).toNat * 4503599627370496 + 9007199254740992) = (tE x ea + 1 + 1074).toNat * 4503599627370496 + 4503599627370496 by omega]
              exact rto_gen_1t_Zxxx2 (ua := ua) (un := dlen x) (uc := uc) (ea := ea) (e2 := tE x ea) (t := (bl x : Int) + ea) (w := w) (hn0 := hn0) (ht := ht') (ht3 := by omega) (he1 := he1) (he2 := he2) (hmx := hmx) (h21 := h21) (h22 := h22) (hge := hge) (ht2 := ht2') (kH := kH) (hnx := by omega) (kD1 := k1) (kD2 := kd2Z h hc hl hi2 (by omega) hz) (ex := decide (x % 2 ^ (k - 1) = 0)) (kB := fun W => rbuild (M := 4503599627370496) (e := tE x ea + 1) (by omega) (by omega) (by omega) (.inr (by omega))) (F := _)
          · have kB : ∀ W, Calls Tryz.prog 139 #[.bool true, .int .u64 (((x / 2 ^ k : Nat) : Int) + 1), .int .i64 (tE x ea)] W fun r w' => r = .returned (.float .f64 (sig true ((tE x ea + 1074).toNat * 4503599627370496 + (x / 2 ^ k + 1)))) ∧ w' = W := fun W => by
              rw [show (((x / 2 ^ k : Nat) : Int) + 1) = ((x / 2 ^ k + 1 : Nat) : Int) by omega]
              exact rbuild (by omega) h21 h22 hn2
            have hne : (((x / 2 ^ k : Nat) : Int) + 1 == 9007199254740992) = false := by
              rw [show (((x / 2 ^ k : Nat) : Int) + 1) = ((x / 2 ^ k + 1 : Nat) : Int) by omega]
              exact neq53 h53
            exact rto_gen_1t_Zxxx1 (ua := ua) (un := dlen x) (uc := uc) (ea := ea) (e2 := tE x ea) (t := (bl x : Int) + ea) (w := w) (hn0 := hn0) (ht := ht') (ht3 := by omega) (he1 := he1) (he2 := he2) (hmx := hmx) (h21 := h21) (h22 := h22) (hge := hge) (ht2 := ht2') (kH := kH) (X := x / 2 ^ k) (F := _) (hX := hX) (hne := hne) (kD1 := k1) (kD2 := kd2Z h hc hl hi2 (by omega) hz) (ex := decide (x % 2 ^ (k - 1) = 0)) (kB := kB)
        · rw [hv] at hn1 hn2 ⊢
          by_cases h53 : x / 2 ^ k + 1 = 9007199254740992
          · have hXv : x / 2 ^ k = 9007199254740991 := by omega
            rw [hXv] at k1
            by_cases h9 : tE x ea = 971
            · rw [h53, show ((tE x ea + 1074).toNat * 4503599627370496 + 9007199254740992) = 9218868437227405312 by omega]
              exact rto_gen_1t_Pxxx3 (ua := ua) (un := dlen x) (uc := uc) (ea := ea) (e2 := tE x ea) (t := (bl x : Int) + ea) (w := w) (hn0 := hn0) (ht := ht') (ht3 := by omega) (he1 := he1) (he2 := he2) (hmx := hmx) (h21 := h21) (h22 := h22) (hge := hge) (ht2 := ht2') (kH := kH) (hnx := h9) (kD1 := k1) (kD2 := kd2P h hc hl hi2 (by omega) hz rfl) (dd := dg (x / 2 ^ (k - 1)) 0) (ex := decide (x % 2 ^ (k - 1) = 0))
            · rw [h53, show ((tE x ea + 1074).toNat * 4503599627370496 + 9007199254740992) = (tE x ea + 1 + 1074).toNat * 4503599627370496 + 4503599627370496 by omega]
              exact rto_gen_1t_Pxxx2 (ua := ua) (un := dlen x) (uc := uc) (ea := ea) (e2 := tE x ea) (t := (bl x : Int) + ea) (w := w) (hn0 := hn0) (ht := ht') (ht3 := by omega) (he1 := he1) (he2 := he2) (hmx := hmx) (h21 := h21) (h22 := h22) (hge := hge) (ht2 := ht2') (kH := kH) (hnx := by omega) (kD1 := k1) (kD2 := kd2P h hc hl hi2 (by omega) hz rfl) (dd := dg (x / 2 ^ (k - 1)) 0) (ex := decide (x % 2 ^ (k - 1) = 0)) (kB := fun W => rbuild (M := 4503599627370496) (e := tE x ea + 1) (by omega) (by omega) (by omega) (.inr (by omega))) (F := _)
          · have kB : ∀ W, Calls Tryz.prog 139 #[.bool true, .int .u64 (((x / 2 ^ k : Nat) : Int) + 1), .int .i64 (tE x ea)] W fun r w' => r = .returned (.float .f64 (sig true ((tE x ea + 1074).toNat * 4503599627370496 + (x / 2 ^ k + 1)))) ∧ w' = W := fun W => by
              rw [show (((x / 2 ^ k : Nat) : Int) + 1) = ((x / 2 ^ k + 1 : Nat) : Int) by omega]
              exact rbuild (by omega) h21 h22 hn2
            have hne : (((x / 2 ^ k : Nat) : Int) + 1 == 9007199254740992) = false := by
              rw [show (((x / 2 ^ k : Nat) : Int) + 1) = ((x / 2 ^ k + 1 : Nat) : Int) by omega]
              exact neq53 h53
            exact rto_gen_1t_Pxxx1 (ua := ua) (un := dlen x) (uc := uc) (ea := ea) (e2 := tE x ea) (t := (bl x : Int) + ea) (w := w) (hn0 := hn0) (ht := ht') (ht3 := by omega) (he1 := he1) (he2 := he2) (hmx := hmx) (h21 := h21) (h22 := h22) (hge := hge) (ht2 := ht2') (kH := kH) (X := x / 2 ^ k) (F := _) (hX := hX) (hne := hne) (kD1 := k1) (kD2 := kd2P h hc hl hi2 (by omega) hz rfl) (dd := dg (x / 2 ^ (k - 1)) 0) (ex := decide (x % 2 ^ (k - 1) = 0)) (kB := kB)
set_option maxHeartbeats 1000000 in
theorem rto_2f {ua : Option Addr} {uc x : Nat} {ea : Int} {w : World} (h : At w ua (dlen x) x) (hc : dlen x ≤ uc) (hodd : x % 2 = 1) (hl : dlen x ≤ 100000) (he1 : -4000000 ≤ ea) (he2 : ea ≤ 4000000) :
    Calls Tryz.prog 89 #[.agg #[.bool false, .slice ua (dlen x) uc, .int .i64 ea], .int .i64 2] w fun r w' => r = .returned (.float .f64 (sig false (bdy x ea 1))) ∧ Below w.heap.size w w' := by
  have h0 : x ≠ 0 := by omega
  have hw : (1 : Nat) = 0 ∨ (1 : Nat) = 1 ∨ (1 : Nat) = 2 := by omega
  have hn0 : ((dlen x : Int) == 0) = false := len_ne (n := 0) h0
  have hbl : bl x ≤ 32 * dlen x := bl_le_dlen x
  have hb1 := bl_ne h0
  have kH : ∀ W, Below w.heap.size w W → Calls Tryz.prog 56 #[.agg #[.bool false, .slice ua (dlen x) uc, .int .i64 ea]] W fun r w' => r = .returned (.int .i64 ((bl x : Int) + ea)) ∧ Below W.heap.size W w' := fun W hW => rhigh (h.later hW) h0 (by omega) ⟨he1, he2⟩
  by_cases ht : 1024 < (bl x : Int) + ea
  · rw [bdy_big h0 ht hw]
    exact rto_big_2f _ _ _ _ _ _ hn0 ht kH
  · have ht' : (bl x : Int) + ea ≤ 1024 := by omega
    have hmx := tE_max x ea
    obtain ⟨h21, h22⟩ := tE_bounds ht'
    by_cases hge : tE x ea ≤ ea
    · obtain ⟨hb, hlt, hg⟩ := bdy_up h0 ht' hge hw
      rw [hb]
      obtain ⟨k, hk⟩ : ∃ k : Nat, k = (ea - tE x ea).toNat := ⟨_, rfl⟩
      have hi : ea - tE x ea = (k : Int) := by omega
      rw [← hk] at hlt hg ⊢
      refine rto_up_2f (ua := ua) (un := dlen x) (uc := uc) (ea := ea) (e2 := tE x ea) (t := (bl x : Int) + ea) (w := w) (F := _) (hn0 := hn0) (ht := ht') (ht3 := by omega) (he1 := he1) (he2 := he2) (hmx := hmx) (h21 := h21) (h22 := h22) (hge := hge) (X := x * 2 ^ k) (hX := hlt) (kH := kH) (kU := fun W hW => ?_) (kB := fun W => rbuild hlt h21 h22 hg)
      rw [hi]
      exact rup ⟨ua, uc, rfl, hc, h.later hW⟩ k (by omega) (by omega)
    · have hlt : ea < tE x ea := by omega
      by_cases ht2 : (bl x : Int) + ea < -1075
      · rw [bdy_tiny h0 ht2 hw, if_neg (by decide)]
        exact rto_tiny_2f (ua := ua) (un := dlen x) (uc := uc) (ea := ea) (e2 := tE x ea) (t := (bl x : Int) + ea) (w := w) (F := _) (hn0 := hn0) (ht := ht') (ht3 := by omega) (he1 := he1) (he2 := he2) (hmx := hmx) (h21 := h21) (h22 := h22) (hge := hge) (ht2 := ht2) (kH := kH) (kB := fun W => rbuild_0 false 0 (-1074) W (by omega))
      · obtain ⟨k, hk⟩ : ∃ k : Nat, k = (tE x ea - ea).toNat := ⟨_, rfl⟩
        have hk1 : 1 ≤ k := by omega
        have hi : tE x ea - ea = (k : Int) := by omega
        have hi2 : tE x ea - ea - 1 = ((k - 1 : Nat) : Int) := by omega
        have hkb : k ≤ 10000000 := by unfold tE at hk; split at hk <;> omega
        obtain ⟨n, hn⟩ : ∃ n, n = if dnU x (tE x ea - ea).toNat 1 then x / 2 ^ (tE x ea - ea).toNat + 1 else x / 2 ^ (tE x ea - ea).toNat := ⟨_, rfl⟩
        obtain ⟨hn1, hn2, hb, hX⟩ := bdy_dn hodd ht' hlt hw hn
        rw [← hk] at hn hX
        rw [hb]
        have k1 := kd1 h hc hl hi hkb
        have hdd := and1_32 (d := dg (x / 2 ^ (k - 1)) 0) (X := x / 2 ^ (k - 1)) (dg_zero _)
        have hod := and1_64 hX
        have ht2' : -1075 ≤ (bl x : Int) + ea := by omega
        by_cases hz : x / 2 ^ (k - 1) = 0
        · have hv : n = x / 2 ^ k := by rw [hn]; simp [dnU, hz]
          rw [hv] at hn1 hn2 ⊢
          exact rto_gen_2f_Zlxx0 (ua := ua) (un := dlen x) (uc := uc) (ea := ea) (e2 := tE x ea) (t := (bl x : Int) + ea) (w := w) (hn0 := hn0) (ht := ht') (ht3 := by omega) (he1 := he1) (he2 := he2) (hmx := hmx) (h21 := h21) (h22 := h22) (hge := hge) (ht2 := ht2') (kH := kH) (X := x / 2 ^ k) (F := _) (hX := hX) (hne := neq53 (by omega)) (kD1 := k1) (kD2 := kd2Z h hc hl hi2 (by omega) hz) (ex := decide (x % 2 ^ (k - 1) = 0)) (kB := fun W => rbuild hX h21 h22 hn2)
        · by_cases hh : x / 2 ^ (k - 1) % 2 = 1
          · rw [hh] at hdd
            by_cases hx : x % 2 ^ (k - 1) = 0
            · by_cases ho : x / 2 ^ k % 2 = 1
              · rw [ho] at hod
                have hv : n = x / 2 ^ k + 1 := by rw [hn]; simp [dnU, hh, hx, ho]
                rw [hv] at hn1 hn2 ⊢
                by_cases h53 : x / 2 ^ k + 1 = 9007199254740992
                · have hXv : x / 2 ^ k = 9007199254740991 := by omega
                  rw [hXv] at k1
                  by_cases h9 : tE x ea = 971
                  · rw [h53, show ((tE x ea + 1074).toNat * 4503599627370496 + 9007199254740992) = 9218868437227405312 by omega]
                    exact rto_gen_2f_Pheo3 (ua := ua) (un := dlen x) (uc := uc) (ea := ea) (e2 := tE x ea) (t := (bl x : Int) + ea) (w := w) (hn0 := hn0) (ht := ht') (ht3 := by omega) (he1 := he1) (he2 := he2) (hmx := hmx) (h21 := h21) (h22 := h22) (hge := hge) (ht2 := ht2') (kH := kH) (hnx := h9) (kD1 := k1) (kD2 := kd2P h hc hl hi2 (by omega) hz (decide_eq_true hx)) (hf := hdd) (dd := dg (x / 2 ^ (k - 1)) 0)
                  · rw [h53, show ((tE x ea + 1074).toNat * 4503599627370496 + 9007199254740992) = (tE x ea + 1 + 1074).toNat * 4503599627370496 + 4503599627370496 by omega]
                    exact rto_gen_2f_Pheo2 (ua := ua) (un := dlen x) (uc := uc) (ea := ea) (e2 := tE x ea) (t := (bl x : Int) + ea) (w := w) (hn0 := hn0) (ht := ht') (ht3 := by omega) (he1 := he1) (he2 := he2) (hmx := hmx) (h21 := h21) (h22 := h22) (hge := hge) (ht2 := ht2') (kH := kH) (hnx := by omega) (kD1 := k1) (kD2 := kd2P h hc hl hi2 (by omega) hz (decide_eq_true hx)) (hf := hdd) (dd := dg (x / 2 ^ (k - 1)) 0) (kB := fun W => rbuild (M := 4503599627370496) (e := tE x ea + 1) (by omega) (by omega) (by omega) (.inr (by omega))) (F := _)
                · have kB : ∀ W, Calls Tryz.prog 139 #[.bool false, .int .u64 (((x / 2 ^ k : Nat) : Int) + 1), .int .i64 (tE x ea)] W fun r w' => r = .returned (.float .f64 (sig false ((tE x ea + 1074).toNat * 4503599627370496 + (x / 2 ^ k + 1)))) ∧ w' = W := fun W => by
                    rw [show (((x / 2 ^ k : Nat) : Int) + 1) = ((x / 2 ^ k + 1 : Nat) : Int) by omega]
                    exact rbuild (by omega) h21 h22 hn2
                  have hne : (((x / 2 ^ k : Nat) : Int) + 1 == 9007199254740992) = false := by
                    rw [show (((x / 2 ^ k : Nat) : Int) + 1) = ((x / 2 ^ k + 1 : Nat) : Int) by omega]
                    exact neq53 h53
                  exact rto_gen_2f_Pheo1 (ua := ua) (un := dlen x) (uc := uc) (ea := ea) (e2 := tE x ea) (t := (bl x : Int) + ea) (w := w) (hn0 := hn0) (ht := ht') (ht3 := by omega) (he1 := he1) (he2 := he2) (hmx := hmx) (h21 := h21) (h22 := h22) (hge := hge) (ht2 := ht2') (kH := kH) (X := x / 2 ^ k) (F := _) (hX := hX) (hne := hne) (kD1 := k1) (kD2 := kd2P h hc hl hi2 (by omega) hz (decide_eq_true hx)) (hf := hdd) (hod := hod) (dd := dg (x / 2 ^ (k - 1)) 0) (kB := kB)
              · have ho2 : x / 2 ^ k % 2 = 0 := by omega
                rw [ho2] at hod
                have hv : n = x / 2 ^ k := by rw [hn]; simp [dnU, hh, hx, ho2]
                rw [hv] at hn1 hn2 ⊢
                exact rto_gen_2f_Phev0 (ua := ua) (un := dlen x) (uc := uc) (ea := ea) (e2 := tE x ea) (t := (bl x : Int) + ea) (w := w) (hn0 := hn0) (ht := ht') (ht3 := by omega) (he1 := he1) (he2 := he2) (hmx := hmx) (h21 := h21) (h22 := h22) (hge := hge) (ht2 := ht2') (kH := kH) (X := x / 2 ^ k) (F := _) (hX := hX) (hne := neq53 (by omega)) (kD1 := k1) (kD2 := kd2P h hc hl hi2 (by omega) hz (decide_eq_true hx)) (hf := hdd) (hod := hod) (dd := dg (x / 2 ^ (k - 1)) 0) (kB := fun W => rbuild hX h21 h22 hn2)
            · have hv : n = x / 2 ^ k + 1 := by rw [hn]; simp [dnU, hh, hx]
              rw [hv] at hn1 hn2 ⊢
              by_cases h53 : x / 2 ^ k + 1 = 9007199254740992
              · have hXv : x / 2 ^ k = 9007199254740991 := by omega
                rw [hXv] at k1
                by_cases h9 : tE x ea = 971
                · rw [h53, show ((tE x ea + 1074).toNat * 4503599627370496 + 9007199254740992) = 9218868437227405312 by omega]
                  exact rto_gen_2f_Phnx3 (ua := ua) (un := dlen x) (uc := uc) (ea := ea) (e2 := tE x ea) (t := (bl x : Int) + ea) (w := w) (hn0 := hn0) (ht := ht') (ht3 := by omega) (he1 := he1) (he2 := he2) (hmx := hmx) (h21 := h21) (h22 := h22) (hge := hge) (ht2 := ht2') (kH := kH) (hnx := h9) (kD1 := k1) (kD2 := kd2P h hc hl hi2 (by omega) hz (decide_eq_false hx)) (hf := hdd) (dd := dg (x / 2 ^ (k - 1)) 0)
                · rw [h53, show ((tE x ea + 1074).toNat * 4503599627370496 + 9007199254740992) = (tE x ea + 1 + 1074).toNat * 4503599627370496 + 4503599627370496 by omega]
                  exact rto_gen_2f_Phnx2 (ua := ua) (un := dlen x) (uc := uc) (ea := ea) (e2 := tE x ea) (t := (bl x : Int) + ea) (w := w) (hn0 := hn0) (ht := ht') (ht3 := by omega) (he1 := he1) (he2 := he2) (hmx := hmx) (h21 := h21) (h22 := h22) (hge := hge) (ht2 := ht2') (kH := kH) (hnx := by omega) (kD1 := k1) (kD2 := kd2P h hc hl hi2 (by omega) hz (decide_eq_false hx)) (hf := hdd) (dd := dg (x / 2 ^ (k - 1)) 0) (kB := fun W => rbuild (M := 4503599627370496) (e := tE x ea + 1) (by omega) (by omega) (by omega) (.inr (by omega))) (F := _)
              · have kB : ∀ W, Calls Tryz.prog 139 #[.bool false, .int .u64 (((x / 2 ^ k : Nat) : Int) + 1), .int .i64 (tE x ea)] W fun r w' => r = .returned (.float .f64 (sig false ((tE x ea + 1074).toNat * 4503599627370496 + (x / 2 ^ k + 1)))) ∧ w' = W := fun W => by
                  rw [show (((x / 2 ^ k : Nat) : Int) + 1) = ((x / 2 ^ k + 1 : Nat) : Int) by omega]
                  exact rbuild (by omega) h21 h22 hn2
                have hne : (((x / 2 ^ k : Nat) : Int) + 1 == 9007199254740992) = false := by
                  rw [show (((x / 2 ^ k : Nat) : Int) + 1) = ((x / 2 ^ k + 1 : Nat) : Int) by omega]
                  exact neq53 h53
                exact rto_gen_2f_Phnx1 (ua := ua) (un := dlen x) (uc := uc) (ea := ea) (e2 := tE x ea) (t := (bl x : Int) + ea) (w := w) (hn0 := hn0) (ht := ht') (ht3 := by omega) (he1 := he1) (he2 := he2) (hmx := hmx) (h21 := h21) (h22 := h22) (hge := hge) (ht2 := ht2') (kH := kH) (X := x / 2 ^ k) (F := _) (hX := hX) (hne := hne) (kD1 := k1) (kD2 := kd2P h hc hl hi2 (by omega) hz (decide_eq_false hx)) (hf := hdd) (dd := dg (x / 2 ^ (k - 1)) 0) (kB := kB)
          · have hh2 : x / 2 ^ (k - 1) % 2 = 0 := by omega
            rw [hh2] at hdd
            have hv : n = x / 2 ^ k := by rw [hn]; simp [dnU, hh2]
            rw [hv] at hn1 hn2 ⊢
            exact rto_gen_2f_Plxx0 (ua := ua) (un := dlen x) (uc := uc) (ea := ea) (e2 := tE x ea) (t := (bl x : Int) + ea) (w := w) (hn0 := hn0) (ht := ht') (ht3 := by omega) (he1 := he1) (he2 := he2) (hmx := hmx) (h21 := h21) (h22 := h22) (hge := hge) (ht2 := ht2') (kH := kH) (X := x / 2 ^ k) (F := _) (hX := hX) (hne := neq53 (by omega)) (kD1 := k1) (kD2 := kd2P h hc hl hi2 (by omega) hz rfl) (hf := hdd) (dd := dg (x / 2 ^ (k - 1)) 0) (ex := decide (x % 2 ^ (k - 1) = 0)) (kB := fun W => rbuild hX h21 h22 hn2)
set_option maxHeartbeats 1000000 in
theorem rto_2t {ua : Option Addr} {uc x : Nat} {ea : Int} {w : World} (h : At w ua (dlen x) x) (hc : dlen x ≤ uc) (hodd : x % 2 = 1) (hl : dlen x ≤ 100000) (he1 : -4000000 ≤ ea) (he2 : ea ≤ 4000000) :
    Calls Tryz.prog 89 #[.agg #[.bool true, .slice ua (dlen x) uc, .int .i64 ea], .int .i64 2] w fun r w' => r = .returned (.float .f64 (sig true (bdy x ea 1))) ∧ Below w.heap.size w w' := by
  have h0 : x ≠ 0 := by omega
  have hw : (1 : Nat) = 0 ∨ (1 : Nat) = 1 ∨ (1 : Nat) = 2 := by omega
  have hn0 : ((dlen x : Int) == 0) = false := len_ne (n := 0) h0
  have hbl : bl x ≤ 32 * dlen x := bl_le_dlen x
  have hb1 := bl_ne h0
  have kH : ∀ W, Below w.heap.size w W → Calls Tryz.prog 56 #[.agg #[.bool true, .slice ua (dlen x) uc, .int .i64 ea]] W fun r w' => r = .returned (.int .i64 ((bl x : Int) + ea)) ∧ Below W.heap.size W w' := fun W hW => rhigh (h.later hW) h0 (by omega) ⟨he1, he2⟩
  by_cases ht : 1024 < (bl x : Int) + ea
  · rw [bdy_big h0 ht hw]
    exact rto_big_2t _ _ _ _ _ _ hn0 ht kH
  · have ht' : (bl x : Int) + ea ≤ 1024 := by omega
    have hmx := tE_max x ea
    obtain ⟨h21, h22⟩ := tE_bounds ht'
    by_cases hge : tE x ea ≤ ea
    · obtain ⟨hb, hlt, hg⟩ := bdy_up h0 ht' hge hw
      rw [hb]
      obtain ⟨k, hk⟩ : ∃ k : Nat, k = (ea - tE x ea).toNat := ⟨_, rfl⟩
      have hi : ea - tE x ea = (k : Int) := by omega
      rw [← hk] at hlt hg ⊢
      refine rto_up_2t (ua := ua) (un := dlen x) (uc := uc) (ea := ea) (e2 := tE x ea) (t := (bl x : Int) + ea) (w := w) (F := _) (hn0 := hn0) (ht := ht') (ht3 := by omega) (he1 := he1) (he2 := he2) (hmx := hmx) (h21 := h21) (h22 := h22) (hge := hge) (X := x * 2 ^ k) (hX := hlt) (kH := kH) (kU := fun W hW => ?_) (kB := fun W => rbuild hlt h21 h22 hg)
      rw [hi]
      exact rup ⟨ua, uc, rfl, hc, h.later hW⟩ k (by omega) (by omega)
    · have hlt : ea < tE x ea := by omega
      by_cases ht2 : (bl x : Int) + ea < -1075
      · rw [bdy_tiny h0 ht2 hw, if_neg (by decide)]
        exact rto_tiny_2t (ua := ua) (un := dlen x) (uc := uc) (ea := ea) (e2 := tE x ea) (t := (bl x : Int) + ea) (w := w) (F := _) (hn0 := hn0) (ht := ht') (ht3 := by omega) (he1 := he1) (he2 := he2) (hmx := hmx) (h21 := h21) (h22 := h22) (hge := hge) (ht2 := ht2) (kH := kH) (kB := fun W => rbuild_0 true 0 (-1074) W (by omega))
      · obtain ⟨k, hk⟩ : ∃ k : Nat, k = (tE x ea - ea).toNat := ⟨_, rfl⟩
        have hk1 : 1 ≤ k := by omega
        have hi : tE x ea - ea = (k : Int) := by omega
        have hi2 : tE x ea - ea - 1 = ((k - 1 : Nat) : Int) := by omega
        have hkb : k ≤ 10000000 := by unfold tE at hk; split at hk <;> omega
        obtain ⟨n, hn⟩ : ∃ n, n = if dnU x (tE x ea - ea).toNat 1 then x / 2 ^ (tE x ea - ea).toNat + 1 else x / 2 ^ (tE x ea - ea).toNat := ⟨_, rfl⟩
        obtain ⟨hn1, hn2, hb, hX⟩ := bdy_dn hodd ht' hlt hw hn
        rw [← hk] at hn hX
        rw [hb]
        have k1 := kd1 h hc hl hi hkb
        have hdd := and1_32 (d := dg (x / 2 ^ (k - 1)) 0) (X := x / 2 ^ (k - 1)) (dg_zero _)
        have hod := and1_64 hX
        have ht2' : -1075 ≤ (bl x : Int) + ea := by omega
        by_cases hz : x / 2 ^ (k - 1) = 0
        · have hv : n = x / 2 ^ k := by rw [hn]; simp [dnU, hz]
          rw [hv] at hn1 hn2 ⊢
          exact rto_gen_2t_Zlxx0 (ua := ua) (un := dlen x) (uc := uc) (ea := ea) (e2 := tE x ea) (t := (bl x : Int) + ea) (w := w) (hn0 := hn0) (ht := ht') (ht3 := by omega) (he1 := he1) (he2 := he2) (hmx := hmx) (h21 := h21) (h22 := h22) (hge := hge) (ht2 := ht2') (kH := kH) (X := x / 2 ^ k) (F := _) (hX := hX) (hne := neq53 (by omega)) (kD1 := k1) (kD2 := kd2Z h hc hl hi2 (by omega) hz) (ex := decide (x % 2 ^ (k - 1) = 0)) (kB := fun W => rbuild hX h21 h22 hn2)
        · by_cases hh : x / 2 ^ (k - 1) % 2 = 1
          · rw [hh] at hdd
            by_cases hx : x % 2 ^ (k - 1) = 0
            · by_cases ho : x / 2 ^ k % 2 = 1
              · rw [ho] at hod
                have hv : n = x / 2 ^ k + 1 := by rw [hn]; simp [dnU, hh, hx, ho]
                rw [hv] at hn1 hn2 ⊢
                by_cases h53 : x / 2 ^ k + 1 = 9007199254740992
                · have hXv : x / 2 ^ k = 9007199254740991 := by omega
                  rw [hXv] at k1
                  by_cases h9 : tE x ea = 971
                  · rw [h53, show ((tE x ea + 1074).toNat * 4503599627370496 + 9007199254740992) = 9218868437227405312 by omega]
                    exact rto_gen_2t_Pheo3 (ua := ua) (un := dlen x) (uc := uc) (ea := ea) (e2 := tE x ea) (t := (bl x : Int) + ea) (w := w) (hn0 := hn0) (ht := ht') (ht3 := by omega) (he1 := he1) (he2 := he2) (hmx := hmx) (h21 := h21) (h22 := h22) (hge := hge) (ht2 := ht2') (kH := kH) (hnx := h9) (kD1 := k1) (kD2 := kd2P h hc hl hi2 (by omega) hz (decide_eq_true hx)) (hf := hdd) (dd := dg (x / 2 ^ (k - 1)) 0)
                  · rw [h53, show ((tE x ea + 1074).toNat * 4503599627370496 + 9007199254740992) = (tE x ea + 1 + 1074).toNat * 4503599627370496 + 4503599627370496 by omega]
                    exact rto_gen_2t_Pheo2 (ua := ua) (un := dlen x) (uc := uc) (ea := ea) (e2 := tE x ea) (t := (bl x : Int) + ea) (w := w) (hn0 := hn0) (ht := ht') (ht3 := by omega) (he1 := he1) (he2 := he2) (hmx := hmx) (h21 := h21) (h22 := h22) (hge := hge) (ht2 := ht2') (kH := kH) (hnx := by omega) (kD1 := k1) (kD2 := kd2P h hc hl hi2 (by omega) hz (decide_eq_true hx)) (hf := hdd) (dd := dg (x / 2 ^ (k - 1)) 0) (kB := fun W => rbuild (M := 4503599627370496) (e := tE x ea + 1) (by omega) (by omega) (by omega) (.inr (by omega))) (F := _)
                · have kB : ∀ W, Calls Tryz.prog 139 #[.bool true, .int .u64 (((x / 2 ^ k : Nat) : Int) + 1), .int .i64 (tE x ea)] W fun r w' => r = .returned (.float .f64 (sig true ((tE x ea + 1074).toNat * 4503599627370496 + (x / 2 ^ k + 1)))) ∧ w' = W := fun W => by
                    rw [show (((x / 2 ^ k : Nat) : Int) + 1) = ((x / 2 ^ k + 1 : Nat) : Int) by omega]
                    exact rbuild (by omega) h21 h22 hn2
                  have hne : (((x / 2 ^ k : Nat) : Int) + 1 == 9007199254740992) = false := by
                    rw [show (((x / 2 ^ k : Nat) : Int) + 1) = ((x / 2 ^ k + 1 : Nat) : Int) by omega]
                    exact neq53 h53
                  exact rto_gen_2t_Pheo1 (ua := ua) (un := dlen x) (uc := uc) (ea := ea) (e2 := tE x ea) (t := (bl x : Int) + ea) (w := w) (hn0 := hn0) (ht := ht') (ht3 := by omega) (he1 := he1) (he2 := he2) (hmx := hmx) (h21 := h21) (h22 := h22) (hge := hge) (ht2 := ht2') (kH := kH) (X := x / 2 ^ k) (F := _) (hX := hX) (hne := hne) (kD1 := k1) (kD2 := kd2P h hc hl hi2 (by omega) hz (decide_eq_true hx)) (hf := hdd) (hod := hod) (dd := dg (x / 2 ^ (k - 1)) 0) (kB := kB)
              · have ho2 : x / 2 ^ k % 2 = 0 := by omega
                rw [ho2] at hod
                have hv : n = x / 2 ^ k := by rw [hn]; simp [dnU, hh, hx, ho2]
                rw [hv] at hn1 hn2 ⊢
                exact rto_gen_2t_Phev0 (ua := ua) (un := dlen x) (uc := uc) (ea := ea) (e2 := tE x ea) (t := (bl x : Int) + ea) (w := w) (hn0 := hn0) (ht := ht') (ht3 := by omega) (he1 := he1) (he2 := he2) (hmx := hmx) (h21 := h21) (h22 := h22) (hge := hge) (ht2 := ht2') (kH := kH) (X := x / 2 ^ k) (F := _) (hX := hX) (hne := neq53 (by omega)) (kD1 := k1) (kD2 := kd2P h hc hl hi2 (by omega) hz (decide_eq_true hx)) (hf := hdd) (hod := hod) (dd := dg (x / 2 ^ (k - 1)) 0) (kB := fun W => rbuild hX h21 h22 hn2)
            · have hv : n = x / 2 ^ k + 1 := by rw [hn]; simp [dnU, hh, hx]
              rw [hv] at hn1 hn2 ⊢
              by_cases h53 : x / 2 ^ k + 1 = 9007199254740992
              · have hXv : x / 2 ^ k = 9007199254740991 := by omega
                rw [hXv] at k1
                by_cases h9 : tE x ea = 971
                · rw [h53, show ((tE x ea + 1074).toNat * 4503599627370496 + 9007199254740992) = 9218868437227405312 by omega]
                  exact rto_gen_2t_Phnx3 (ua := ua) (un := dlen x) (uc := uc) (ea := ea) (e2 := tE x ea) (t := (bl x : Int) + ea) (w := w) (hn0 := hn0) (ht := ht') (ht3 := by omega) (he1 := he1) (he2 := he2) (hmx := hmx) (h21 := h21) (h22 := h22) (hge := hge) (ht2 := ht2') (kH := kH) (hnx := h9) (kD1 := k1) (kD2 := kd2P h hc hl hi2 (by omega) hz (decide_eq_false hx)) (hf := hdd) (dd := dg (x / 2 ^ (k - 1)) 0)
                · rw [h53, show ((tE x ea + 1074).toNat * 4503599627370496 + 9007199254740992) = (tE x ea + 1 + 1074).toNat * 4503599627370496 + 4503599627370496 by omega]
                  exact rto_gen_2t_Phnx2 (ua := ua) (un := dlen x) (uc := uc) (ea := ea) (e2 := tE x ea) (t := (bl x : Int) + ea) (w := w) (hn0 := hn0) (ht := ht') (ht3 := by omega) (he1 := he1) (he2 := he2) (hmx := hmx) (h21 := h21) (h22 := h22) (hge := hge) (ht2 := ht2') (kH := kH) (hnx := by omega) (kD1 := k1) (kD2 := kd2P h hc hl hi2 (by omega) hz (decide_eq_false hx)) (hf := hdd) (dd := dg (x / 2 ^ (k - 1)) 0) (kB := fun W => rbuild (M := 4503599627370496) (e := tE x ea + 1) (by omega) (by omega) (by omega) (.inr (by omega))) (F := _)
              · have kB : ∀ W, Calls Tryz.prog 139 #[.bool true, .int .u64 (((x / 2 ^ k : Nat) : Int) + 1), .int .i64 (tE x ea)] W fun r w' => r = .returned (.float .f64 (sig true ((tE x ea + 1074).toNat * 4503599627370496 + (x / 2 ^ k + 1)))) ∧ w' = W := fun W => by
                  rw [show (((x / 2 ^ k : Nat) : Int) + 1) = ((x / 2 ^ k + 1 : Nat) : Int) by omega]
                  exact rbuild (by omega) h21 h22 hn2
                have hne : (((x / 2 ^ k : Nat) : Int) + 1 == 9007199254740992) = false := by
                  rw [show (((x / 2 ^ k : Nat) : Int) + 1) = ((x / 2 ^ k + 1 : Nat) : Int) by omega]
                  exact neq53 h53
                exact rto_gen_2t_Phnx1 (ua := ua) (un := dlen x) (uc := uc) (ea := ea) (e2 := tE x ea) (t := (bl x : Int) + ea) (w := w) (hn0 := hn0) (ht := ht') (ht3 := by omega) (he1 := he1) (he2 := he2) (hmx := hmx) (h21 := h21) (h22 := h22) (hge := hge) (ht2 := ht2') (kH := kH) (X := x / 2 ^ k) (F := _) (hX := hX) (hne := hne) (kD1 := k1) (kD2 := kd2P h hc hl hi2 (by omega) hz (decide_eq_false hx)) (hf := hdd) (dd := dg (x / 2 ^ (k - 1)) 0) (kB := kB)
          · have hh2 : x / 2 ^ (k - 1) % 2 = 0 := by omega
            rw [hh2] at hdd
            have hv : n = x / 2 ^ k := by rw [hn]; simp [dnU, hh2]
            rw [hv] at hn1 hn2 ⊢
            exact rto_gen_2t_Plxx0 (ua := ua) (un := dlen x) (uc := uc) (ea := ea) (e2 := tE x ea) (t := (bl x : Int) + ea) (w := w) (hn0 := hn0) (ht := ht') (ht3 := by omega) (he1 := he1) (he2 := he2) (hmx := hmx) (h21 := h21) (h22 := h22) (hge := hge) (ht2 := ht2') (kH := kH) (X := x / 2 ^ k) (F := _) (hX := hX) (hne := neq53 (by omega)) (kD1 := k1) (kD2 := kd2P h hc hl hi2 (by omega) hz rfl) (hf := hdd) (dd := dg (x / 2 ^ (k - 1)) 0) (ex := decide (x % 2 ^ (k - 1) = 0)) (kB := fun W => rbuild hX h21 h22 hn2)
set_option maxHeartbeats 1000000 in
theorem rto_3f {ua : Option Addr} {uc x : Nat} {ea : Int} {w : World} (h : At w ua (dlen x) x) (hc : dlen x ≤ uc) (hodd : x % 2 = 1) (hl : dlen x ≤ 100000) (he1 : -4000000 ≤ ea) (he2 : ea ≤ 4000000) :
    Calls Tryz.prog 89 #[.agg #[.bool false, .slice ua (dlen x) uc, .int .i64 ea], .int .i64 3] w fun r w' => r = .returned (.float .f64 (sig false (bdy x ea 2))) ∧ Below w.heap.size w w' := by
  have h0 : x ≠ 0 := by omega
  have hw : (2 : Nat) = 0 ∨ (2 : Nat) = 1 ∨ (2 : Nat) = 2 := by omega
  have hn0 : ((dlen x : Int) == 0) = false := len_ne (n := 0) h0
  have hbl : bl x ≤ 32 * dlen x := bl_le_dlen x
  have hb1 := bl_ne h0
  have kH : ∀ W, Below w.heap.size w W → Calls Tryz.prog 56 #[.agg #[.bool false, .slice ua (dlen x) uc, .int .i64 ea]] W fun r w' => r = .returned (.int .i64 ((bl x : Int) + ea)) ∧ Below W.heap.size W w' := fun W hW => rhigh (h.later hW) h0 (by omega) ⟨he1, he2⟩
  by_cases ht : 1024 < (bl x : Int) + ea
  · rw [bdy_big h0 ht hw]
    exact rto_big_3f _ _ _ _ _ _ hn0 ht kH
  · have ht' : (bl x : Int) + ea ≤ 1024 := by omega
    have hmx := tE_max x ea
    obtain ⟨h21, h22⟩ := tE_bounds ht'
    by_cases hge : tE x ea ≤ ea
    · obtain ⟨hb, hlt, hg⟩ := bdy_up h0 ht' hge hw
      rw [hb]
      obtain ⟨k, hk⟩ : ∃ k : Nat, k = (ea - tE x ea).toNat := ⟨_, rfl⟩
      have hi : ea - tE x ea = (k : Int) := by omega
      rw [← hk] at hlt hg ⊢
      refine rto_up_3f (ua := ua) (un := dlen x) (uc := uc) (ea := ea) (e2 := tE x ea) (t := (bl x : Int) + ea) (w := w) (F := _) (hn0 := hn0) (ht := ht') (ht3 := by omega) (he1 := he1) (he2 := he2) (hmx := hmx) (h21 := h21) (h22 := h22) (hge := hge) (X := x * 2 ^ k) (hX := hlt) (kH := kH) (kU := fun W hW => ?_) (kB := fun W => rbuild hlt h21 h22 hg)
      rw [hi]
      exact rup ⟨ua, uc, rfl, hc, h.later hW⟩ k (by omega) (by omega)
    · have hlt : ea < tE x ea := by omega
      by_cases ht2 : (bl x : Int) + ea < -1075
      · rw [bdy_tiny h0 ht2 hw, if_pos rfl]
        exact rto_tiny_3f (ua := ua) (un := dlen x) (uc := uc) (ea := ea) (e2 := tE x ea) (t := (bl x : Int) + ea) (w := w) (F := _) (hn0 := hn0) (ht := ht') (ht3 := by omega) (he1 := he1) (he2 := he2) (hmx := hmx) (h21 := h21) (h22 := h22) (hge := hge) (ht2 := ht2) (kH := kH) (kB := fun W => rbuild_0 false 1 (-1074) W (by omega))
      · obtain ⟨k, hk⟩ : ∃ k : Nat, k = (tE x ea - ea).toNat := ⟨_, rfl⟩
        have hk1 : 1 ≤ k := by omega
        have hi : tE x ea - ea = (k : Int) := by omega
        have hi2 : tE x ea - ea - 1 = ((k - 1 : Nat) : Int) := by omega
        have hkb : k ≤ 10000000 := by unfold tE at hk; split at hk <;> omega
        obtain ⟨n, hn⟩ : ∃ n, n = if dnU x (tE x ea - ea).toNat 2 then x / 2 ^ (tE x ea - ea).toNat + 1 else x / 2 ^ (tE x ea - ea).toNat := ⟨_, rfl⟩
        obtain ⟨hn1, hn2, hb, hX⟩ := bdy_dn hodd ht' hlt hw hn
        rw [← hk] at hn hX
        rw [hb]
        have k1 := kd1 h hc hl hi hkb
        have hdd := and1_32 (d := dg (x / 2 ^ (k - 1)) 0) (X := x / 2 ^ (k - 1)) (dg_zero _)
        have hod := and1_64 hX
        have ht2' : -1075 ≤ (bl x : Int) + ea := by omega
        have hv : n = x / 2 ^ k + 1 := by rw [hn]; simp [dnU]
        by_cases hz : x / 2 ^ (k - 1) = 0
        · rw [hv] at hn1 hn2 ⊢
          by_cases h53 : x / 2 ^ k + 1 = 9007199254740992
          · have hXv : x / 2 ^ k = 9007199254740991 := by omega
            rw [hXv] at k1
            by_cases h9 : tE x ea = 971
            · rw [h53, show ((tE x ea + 1074).toNat * 4503599627370496 + 9007199254740992) = 9218868437227405312 by omega]
              exact rto_gen_3f_Zxxx3 (ua := ua) (un := dlen x) (uc := uc) (ea := ea) (e2 := tE x ea) (t := (bl x : Int) + ea) (w := w) (hn0 := hn0) (ht := ht') (ht3 := by omega) (he1 := he1) (he2 := he2) (hmx := hmx) (h21 := h21) (h22 := h22) (hge := hge) (ht2 := ht2') (kH := kH) (hnx := h9) (kD1 := k1) (kD2 := kd2Z h hc hl hi2 (by omega) hz) (ex := decide (x % 2 ^ (k - 1) = 0))
            · rw [h53, show ((tE x ea + 1074).toNat * 4503599627370496 + 9007199254740992) = (tE x ea + 1 + 1074).toNat * 4503599627370496 + 4503599627370496 by omega]
              exact rto_gen_3f_Zxxx2 (ua := ua) (un := dlen x) (uc := uc) (ea := ea) (e2 := tE x ea) (t := (bl x : Int) + ea) (w := w) (hn0 := hn0) (ht := ht') (ht3 := by omega) (he1 := he1) (he2 := he2) (hmx := hmx) (h21 := h21) (h22 := h22) (hge := hge) (ht2 := ht2') (kH := kH) (hnx := by omega) (kD1 := k1) (kD2 := kd2Z h hc hl hi2 (by omega) hz) (ex := decide (x % 2 ^ (k - 1) = 0)) (kB := fun W => rbuild (M := 4503599627370496) (e := tE x ea + 1) (by omega) (by omega) (by omega) (.inr (by omega))) (F := _)
          · have kB : ∀ W, Calls Tryz.prog 139 #[.bool false, .int .u64 (((x / 2 ^ k : Nat) : Int) + 1), .int .i64 (tE x ea)] W fun r w' => r = .returned (.float .f64 (sig false ((tE x ea + 1074).toNat * 4503599627370496 + (x / 2 ^ k + 1)))) ∧ w' = W := fun W => by
              rw [show (((x / 2 ^ k : Nat) : Int) + 1) = ((x / 2 ^ k + 1 : Nat) : Int) by omega]
              exact rbuild (by omega) h21 h22 hn2
            have hne : (((x / 2 ^ k : Nat) : Int) + 1 == 9007199254740992) = false := by
              rw [show (((x / 2 ^ k : Nat) : Int) + 1) = ((x / 2 ^ k + 1 : Nat) : Int) by omega]
              exact neq53 h53
            exact rto_gen_3f_Zxxx1 (ua := ua) (un := dlen x) (uc := uc) (ea := ea) (e2 := tE x ea) (t := (bl x : Int) + ea) (w := w) (hn0 := hn0) (ht := ht') (ht3 := by omega) (he1 := he1) (he2 := he2) (hmx := hmx) (h21 := h21) (h22 := h22) (hge := hge) (ht2 := ht2') (kH := kH) (X := x / 2 ^ k) (F := _) (hX := hX) (hne := hne) (kD1 := k1) (kD2 := kd2Z h hc hl hi2 (by omega) hz) (ex := decide (x % 2 ^ (k - 1) = 0)) (kB := kB)
        · rw [hv] at hn1 hn2 ⊢
          by_cases h53 : x / 2 ^ k + 1 = 9007199254740992
          · have hXv : x / 2 ^ k = 9007199254740991 := by omega
            rw [hXv] at k1
            by_cases h9 : tE x ea = 971
            · rw [h53, show ((tE x ea + 1074).toNat * 4503599627370496 + 9007199254740992) = 9218868437227405312 by omega]
              exact rto_gen_3f_Pxxx3 (ua := ua) (un := dlen x) (uc := uc) (ea := ea) (e2 := tE x ea) (t := (bl x : Int) + ea) (w := w) (hn0 := hn0) (ht := ht') (ht3 := by omega) (he1 := he1) (he2 := he2) (hmx := hmx) (h21 := h21) (h22 := h22) (hge := hge) (ht2 := ht2') (kH := kH) (hnx := h9) (kD1 := k1) (kD2 := kd2P h hc hl hi2 (by omega) hz rfl) (dd := dg (x / 2 ^ (k - 1)) 0) (ex := decide (x % 2 ^ (k - 1) = 0))
            · rw [h53, show ((tE x ea + 1074).toNat * 4503599627370496 + 9007199254740992) = (tE x ea + 1 + 1074).toNat * 4503599627370496 + 4503599627370496 by omega]
              exact rto_gen_3f_Pxxx2 (ua := ua) (un := dlen x) (uc := uc) (ea := ea) (e2 := tE x ea) (t := (bl x : Int) + ea) (w := w) (hn0 := hn0) (ht := ht') (ht3 := by omega) (he1 := he1) (he2 := he2) (hmx := hmx) (h21 := h21) (h22 := h22) (hge := hge) (ht2 := ht2') (kH := kH) (hnx := by omega) (kD1 := k1) (kD2 := kd2P h hc hl hi2 (by omega) hz rfl) (dd := dg (x / 2 ^ (k - 1)) 0) (ex := decide (x % 2 ^ (k - 1) = 0)) (kB := fun W => rbuild (M := 4503599627370496) (e := tE x ea + 1) (by omega) (by omega) (by omega) (.inr (by omega))) (F := _)
          · have kB : ∀ W, Calls Tryz.prog 139 #[.bool false, .int .u64 (((x / 2 ^ k : Nat) : Int) + 1), .int .i64 (tE x ea)] W fun r w' => r = .returned (.float .f64 (sig false ((tE x ea + 1074).toNat * 4503599627370496 + (x / 2 ^ k + 1)))) ∧ w' = W := fun W => by
              rw [show (((x / 2 ^ k : Nat) : Int) + 1) = ((x / 2 ^ k + 1 : Nat) : Int) by omega]
              exact rbuild (by omega) h21 h22 hn2
            have hne : (((x / 2 ^ k : Nat) : Int) + 1 == 9007199254740992) = false := by
              rw [show (((x / 2 ^ k : Nat) : Int) + 1) = ((x / 2 ^ k + 1 : Nat) : Int) by omega]
              exact neq53 h53
            exact rto_gen_3f_Pxxx1 (ua := ua) (un := dlen x) (uc := uc) (ea := ea) (e2 := tE x ea) (t := (bl x : Int) + ea) (w := w) (hn0 := hn0) (ht := ht') (ht3 := by omega) (he1 := he1) (he2 := he2) (hmx := hmx) (h21 := h21) (h22 := h22) (hge := hge) (ht2 := ht2') (kH := kH) (X := x / 2 ^ k) (F := _) (hX := hX) (hne := hne) (kD1 := k1) (kD2 := kd2P h hc hl hi2 (by omega) hz rfl) (dd := dg (x / 2 ^ (k - 1)) 0) (ex := decide (x % 2 ^ (k - 1) = 0)) (kB := kB)
set_option maxHeartbeats 1000000 in
theorem rto_3t {ua : Option Addr} {uc x : Nat} {ea : Int} {w : World} (h : At w ua (dlen x) x) (hc : dlen x ≤ uc) (hodd : x % 2 = 1) (hl : dlen x ≤ 100000) (he1 : -4000000 ≤ ea) (he2 : ea ≤ 4000000) :
    Calls Tryz.prog 89 #[.agg #[.bool true, .slice ua (dlen x) uc, .int .i64 ea], .int .i64 3] w fun r w' => r = .returned (.float .f64 (sig true (bdy x ea 0))) ∧ Below w.heap.size w w' := by
  have h0 : x ≠ 0 := by omega
  have hw : (0 : Nat) = 0 ∨ (0 : Nat) = 1 ∨ (0 : Nat) = 2 := by omega
  have hn0 : ((dlen x : Int) == 0) = false := len_ne (n := 0) h0
  have hbl : bl x ≤ 32 * dlen x := bl_le_dlen x
  have hb1 := bl_ne h0
  have kH : ∀ W, Below w.heap.size w W → Calls Tryz.prog 56 #[.agg #[.bool true, .slice ua (dlen x) uc, .int .i64 ea]] W fun r w' => r = .returned (.int .i64 ((bl x : Int) + ea)) ∧ Below W.heap.size W w' := fun W hW => rhigh (h.later hW) h0 (by omega) ⟨he1, he2⟩
  by_cases ht : 1024 < (bl x : Int) + ea
  · rw [bdy_big h0 ht hw]
    exact rto_big_3t _ _ _ _ _ _ _ hn0 ht kH (fun W => rbuild (M := 9007199254740991) (e := 971) (by omega) (by omega) (by omega) (.inr (by omega)))
  · have ht' : (bl x : Int) + ea ≤ 1024 := by omega
    have hmx := tE_max x ea
    obtain ⟨h21, h22⟩ := tE_bounds ht'
    by_cases hge : tE x ea ≤ ea
    · obtain ⟨hb, hlt, hg⟩ := bdy_up h0 ht' hge hw
      rw [hb]
      obtain ⟨k, hk⟩ : ∃ k : Nat, k = (ea - tE x ea).toNat := ⟨_, rfl⟩
      have hi : ea - tE x ea = (k : Int) := by omega
      rw [← hk] at hlt hg ⊢
      refine rto_up_3t (ua := ua) (un := dlen x) (uc := uc) (ea := ea) (e2 := tE x ea) (t := (bl x : Int) + ea) (w := w) (F := _) (hn0 := hn0) (ht := ht') (ht3 := by omega) (he1 := he1) (he2 := he2) (hmx := hmx) (h21 := h21) (h22 := h22) (hge := hge) (X := x * 2 ^ k) (hX := hlt) (kH := kH) (kU := fun W hW => ?_) (kB := fun W => rbuild hlt h21 h22 hg)
      rw [hi]
      exact rup ⟨ua, uc, rfl, hc, h.later hW⟩ k (by omega) (by omega)
    · have hlt : ea < tE x ea := by omega
      by_cases ht2 : (bl x : Int) + ea < -1075
      · rw [bdy_tiny h0 ht2 hw, if_neg (by decide)]
        exact rto_tiny_3t (ua := ua) (un := dlen x) (uc := uc) (ea := ea) (e2 := tE x ea) (t := (bl x : Int) + ea) (w := w) (F := _) (hn0 := hn0) (ht := ht') (ht3 := by omega) (he1 := he1) (he2 := he2) (hmx := hmx) (h21 := h21) (h22 := h22) (hge := hge) (ht2 := ht2) (kH := kH) (kB := fun W => rbuild_0 true 0 (-1074) W (by omega))
      · obtain ⟨k, hk⟩ : ∃ k : Nat, k = (tE x ea - ea).toNat := ⟨_, rfl⟩
        have hk1 : 1 ≤ k := by omega
        have hi : tE x ea - ea = (k : Int) := by omega
        have hi2 : tE x ea - ea - 1 = ((k - 1 : Nat) : Int) := by omega
        have hkb : k ≤ 10000000 := by unfold tE at hk; split at hk <;> omega
        obtain ⟨n, hn⟩ : ∃ n, n = if dnU x (tE x ea - ea).toNat 0 then x / 2 ^ (tE x ea - ea).toNat + 1 else x / 2 ^ (tE x ea - ea).toNat := ⟨_, rfl⟩
        obtain ⟨hn1, hn2, hb, hX⟩ := bdy_dn hodd ht' hlt hw hn
        rw [← hk] at hn hX
        rw [hb]
        have k1 := kd1 h hc hl hi hkb
        have hdd := and1_32 (d := dg (x / 2 ^ (k - 1)) 0) (X := x / 2 ^ (k - 1)) (dg_zero _)
        have hod := and1_64 hX
        have ht2' : -1075 ≤ (bl x : Int) + ea := by omega
        have hv : n = x / 2 ^ k := by rw [hn]; simp [dnU]
        by_cases hz : x / 2 ^ (k - 1) = 0
        · rw [hv] at hn1 hn2 ⊢
          exact rto_gen_3t_Zxxx0 (ua := ua) (un := dlen x) (uc := uc) (ea := ea) (e2 := tE x ea) (t := (bl x : Int) + ea) (w := w) (hn0 := hn0) (ht := ht') (ht3 := by omega) (he1 := he1) (he2 := he2) (hmx := hmx) (h21 := h21) (h22 := h22) (hge := hge) (ht2 := ht2') (kH := kH) (X := x / 2 ^ k) (F := _) (hX := hX) (hne := neq53 (by omega)) (kD1 := k1) (kD2 := kd2Z h hc hl hi2 (by omega) hz) (ex := decide (x % 2 ^ (k - 1) = 0)) (kB := fun W => rbuild hX h21 h22 hn2)
        · rw [hv] at hn1 hn2 ⊢
          exact rto_gen_3t_Pxxx0 (ua := ua) (un := dlen x) (uc := uc) (ea := ea) (e2 := tE x ea) (t := (bl x : Int) + ea) (w := w) (hn0 := hn0) (ht := ht') (ht3 := by omega) (he1 := he1) (he2 := he2) (hmx := hmx) (h21 := h21) (h22 := h22) (hge := hge) (ht2 := ht2') (kH := kH) (X := x / 2 ^ k) (F := _) (hX := hX) (hne := neq53 (by omega)) (kD1 := k1) (kD2 := kd2P h hc hl hi2 (by omega) hz rfl) (dd := dg (x / 2 ^ (k - 1)) 0) (ex := decide (x % 2 ^ (k - 1) = 0)) (kB := fun W => rbuild hX h21 h22 hn2)
/-- the document's rounding: the body that the program's comes to -/
theorem rto {neg : Bool} {ua : Option Addr} {uc x : Nat} {ea m : Int} {w : World} (h : At w ua (dlen x) x) (hc : dlen x ≤ uc) (hodd : x % 2 = 1) (hl : dlen x ≤ 100000) (he1 : -4000000 ≤ ea) (he2 : ea ≤ 4000000) (hm : 1 ≤ m ∧ m ≤ 3) :
    Calls Tryz.prog 89 #[.agg #[.bool neg, .slice ua (dlen x) uc, .int .i64 ea], .int .i64 m] w fun r w' => r = .returned (.float .f64 (sig neg (bdy x ea (wyN neg m)))) ∧ Below w.heap.size w w' := by
  rcases (show m = 1 ∨ m = 2 ∨ m = 3 by omega) with rfl | rfl | rfl <;> cases neg
  · exact rto_1f h hc hodd hl he1 he2
  · exact rto_1t h hc hodd hl he1 he2
  · exact rto_2f h hc hodd hl he1 he2
  · exact rto_2t h hc hodd hl he1 he2
  · exact rto_3f h hc hodd hl he1 he2
  · exact rto_3t h hc hodd hl he1 he2
end Go.Proofs.YtmhpicccfaklcaaGreatDoor

/- The document's mode, Round, Between. -/
namespace Go.Proofs.YtmhpicccfaklcaaGreatDoor
set_option linter.unusedVariables false
set_option linter.unusedSimpArgs false
open Go.RowKit Go.Fl64
open Ie

theorem rmode (m : Int) (w : World) : Calls Tryz.prog 88 #[.int .i64 m] w fun r w' => r = .returned (.bool ((m == 1) || (m == 2) || (m == 3))) ∧ w' = w := by
  by_cases h1 : m = 1
  · subst h1
    go_enter Tryz.func88, Tryz.ntmps88
    go_wp2
    go_ret
    exact ⟨rfl, rfl⟩
  · have e1 : (m == 1) = false := by simpa using h1
    by_cases h2 : m = 2
    · subst h2
      go_enter Tryz.func88, Tryz.ntmps88
      go_wp2
      go_ret
      exact ⟨rfl, rfl⟩
    · have e2 : (m == 2) = false := by simpa using h2
      go_enter Tryz.func88, Tryz.ntmps88
      go_wp2
      go_ret
      exact ⟨by first | rfl | (rw [e1, e2]; rfl), rfl⟩
theorem rto_0 (na : Bool) (ua : Option Addr) (uc : Nat) (ea m : Int) (w : World) : Calls Tryz.prog 89 #[.agg #[.bool na, .slice ua 0 uc, .int .i64 ea], .int .i64 m] w fun r w' => r = .returned (.float .f64 0) ∧ Below w.heap.size w w' := by
  obtain ⟨W, hW⟩ : ∃ W, W = w.alloc (.cells #[.bool na, .slice ua 0 uc, .int .i64 ea] 24) := ⟨_, rfl⟩
  have HB : Hid (Below w.heap.size w W) := (by rw [hW]; exact (Below.refl _ _).alloc (Nat.le_refl _) _ : Below w.heap.size w W)
  go_enter Tryz.func89, Tryz.ntmps89
  go_wp2
  go_ret
  exact ⟨rfl, hW ▸ HB.out⟩
set_option maxHeartbeats 4000000 in
set_option maxRecDepth 200000 in
theorem rround_1 (na : Bool) (ua : Option Addr) (un uc F : Nat) (ea m : Int) (w : World) (hm : ((m == 1) || (m == 2) || (m == 3)) = true) (kV : ∀ W, Below w.heap.size w W → Calls Tryz.prog 11 #[.agg #[.bool na, .slice ua un uc, .int .i64 ea]] W fun r w' => r = .returned (.bool true) ∧ Below W.heap.size W w')
    (kT : ∀ W, Below w.heap.size w W → Calls Tryz.prog 89 #[.agg #[.bool na, .slice ua un uc, .int .i64 ea], .int .i64 m] W fun r w' => r = .returned (.float .f64 F) ∧ Below W.heap.size W w') :
    Calls Tryz.prog 36 #[.agg #[.bool na, .slice ua un uc, .int .i64 ea], .int .i64 m] w fun r w' => r = .returned (.tuple #[.float .f64 F, .int .i64 0]) ∧ Below w.heap.size w w' := by
  obtain ⟨W, hW⟩ : ∃ W, W = w.alloc (.cells #[.bool na, .slice ua un uc, .int .i64 ea] 24) := ⟨_, rfl⟩
  have hBW : Below w.heap.size w W := by rw [hW]; exact (Below.refl _ _).alloc (Nat.le_refl _) _
  have hA : W.heap[w.heap.size]? = some (.cells #[.bool na, .slice ua un uc, .int .i64 ea] 24 (0, 0)) := by rw [hW]; exact heap_alloc_new _ _
  have hsz : W.heap.size = w.heap.size + 1 := by rw [hW]; simp
  have HX : Hid (Below w.heap.size w W ∧ W.heap.size = w.heap.size + 1 ∧ W.heap[w.heap.size]? = some (.cells #[.bool na, .slice ua un uc, .int .i64 ea] 24 (0, 0))) := ⟨hBW, hsz, hA⟩
  have HKT : Hid (∀ W, Below w.heap.size w W → Calls Tryz.prog 89 #[.agg #[.bool na, .slice ua un uc, .int .i64 ea], .int .i64 m] W fun r w' => r = .returned (.float .f64 F) ∧ Below W.heap.size W w') := kT
  have k := kV W hBW
  clear kV kT hA hsz hBW
  go_enter Tryz.func36, Tryz.ntmps36
  go_wp2_with fail
  rw [← hW]
  clear hW
  refine k.mono ?_
  rintro r w1 ⟨rfl, hb1⟩
  have HB1 : Hid (Below W.heap.size W w1) := hb1
  obtain ⟨⟨a0, a1, a2⟩, -⟩ := box_cells29 (box_later HX.out.2.2 HB1.out (by have := HX.out.2.1; omega))
  have kM : Calls Tryz.prog 88 #[.int .i64 m] w1 fun r w' => r = .returned (.bool true) ∧ w' = w1 := (rmode m w1).mono fun r w' ⟨e1, e2⟩ => ⟨by rw [e1, hm], e2⟩
  have kt := HKT.out w1 (HX.out.1.trans (HB1.out.mono HX.out.1.size))
  clear k hb1
  go_wp2_with fail
  refine kM.mono ?_
  rintro r w2 ⟨rfl, hw⟩
  replace hw := hw.symm
  subst hw
  clear kM
  go_wp2_with fail
  refine kt.mono ?_
  rintro r w3 ⟨rfl, hb3⟩
  have HB3 : Hid (Below W.heap.size W w3) := HB1.out.trans (hb3.mono HB1.out.size)
  clear kt hb3
  go_wp2
  refine bodyPost_ret (results_tmp2 rfl _ _ _) rfl ?_
  exact ⟨rfl, HX.out.1.trans (HB3.out.mono HX.out.1.size)⟩
set_option maxHeartbeats 4000000 in
set_option maxRecDepth 200000 in
theorem rround_no (na : Bool) (ua : Option Addr) (un uc : Nat) (ea m : Int) (V : Bool) (w : World) (hm : V = true → ((m == 1) || (m == 2) || (m == 3)) = false) (kV : ∀ W, Below w.heap.size w W → Calls Tryz.prog 11 #[.agg #[.bool na, .slice ua un uc, .int .i64 ea]] W fun r w' => r = .returned (.bool V) ∧ Below W.heap.size W w') :
    Calls Tryz.prog 36 #[.agg #[.bool na, .slice ua un uc, .int .i64 ea], .int .i64 m] w fun r w' => r = .returned (.tuple #[.float .f64 0, .int .i64 1]) ∧ Below w.heap.size w w' := by
  obtain ⟨W, hW⟩ : ∃ W, W = w.alloc (.cells #[.bool na, .slice ua un uc, .int .i64 ea] 24) := ⟨_, rfl⟩
  have hBW : Below w.heap.size w W := by rw [hW]; exact (Below.refl _ _).alloc (Nat.le_refl _) _
  have HX : Hid (Below w.heap.size w W) := hBW
  have k := kV W hBW
  clear kV hBW
  go_enter Tryz.func36, Tryz.ntmps36
  go_wp2_with fail
  rw [← hW]
  clear hW
  refine k.mono ?_
  rintro r w1 ⟨rfl, hb1⟩
  have HB1 : Hid (Below W.heap.size W w1) := hb1
  clear k hb1
  cases V
  · go_wp2
    refine bodyPost_ret (results_tmp2 rfl _ _ _) rfl ?_
    exact ⟨rfl, HX.out.trans (HB1.out.mono HX.out.size)⟩
  · have kM : Calls Tryz.prog 88 #[.int .i64 m] w1 fun r w' => r = .returned (.bool false) ∧ w' = w1 := (rmode m w1).mono fun r w' ⟨e1, e2⟩ => ⟨by rw [e1, hm rfl], e2⟩
    go_wp2_with fail
    refine kM.mono ?_
    rintro r w2 ⟨rfl, hw⟩
    replace hw := hw.symm
    subst hw
    clear kM
    go_wp2
    refine bodyPost_ret (results_tmp2 rfl _ _ _) rfl ?_
    exact ⟨rfl, HX.out.trans (HB1.out.mono HX.out.size)⟩
end Go.Proofs.YtmhpicccfaklcaaGreatDoor

/- The program's Round, Sqrt and Ratio, refused. -/
namespace Go.Proofs.YtmhpicccfaklcaaGreatDoor
set_option linter.unusedVariables false
set_option linter.unusedSimpArgs false
open Go.RowKit Go.Fl64

theorem pmode (m : Int) (w : World) : Calls Tryz.prog 70 #[.int .i64 m] w fun r w' => r = .returned (.bool ((m == 1) || (m == 2) || (m == 3))) ∧ w' = w := by
  by_cases h1 : m = 1
  · subst h1
    go_enter Tryz.func70, Tryz.ntmps70
    go_wp2
    go_ret
    exact ⟨rfl, rfl⟩
  · have e1 : (m == 1) = false := by simpa using h1
    by_cases h2 : m = 2
    · subst h2
      go_enter Tryz.func70, Tryz.ntmps70
      go_wp2
      go_ret
      exact ⟨rfl, rfl⟩
    · have e2 : (m == 2) = false := by simpa using h2
      go_enter Tryz.func70, Tryz.ntmps70
      go_wp2
      go_ret
      exact ⟨by first | rfl | (rw [e1, e2]; rfl), rfl⟩
set_option maxHeartbeats 4000000 in
set_option maxRecDepth 200000 in
theorem pround_no (na : Bool) (ua : Option Addr) (un uc : Nat) (ea m : Int) (V : Bool) (w : World) (hm : V = true → ((m == 1) || (m == 2) || (m == 3)) = false) (kV : ∀ W g, Below w.heap.size w W → W.heap[g]? = some (.cells #[.bool na, .slice ua un uc, .int .i64 ea] 25 (0, 0)) → Calls Tryz.prog 47 #[.slice (some ⟨g, 0, none⟩) 1 1] W fun r w' => r = .returned (.bool V) ∧ Below W.heap.size W w') :
    Calls Tryz.prog 28 #[.agg #[.bool na, .slice ua un uc, .int .i64 ea], .int .i64 m] w fun r w' => r = .returned (.tuple #[.float .f64 0, .int .i64 1]) ∧ Below w.heap.size w w' := by
  obtain ⟨W, hW⟩ : ∃ W, W = w.alloc (.cells #[.bool na, .slice ua un uc, .int .i64 ea] 25) := ⟨_, rfl⟩
  have hBW : Below w.heap.size w W := by rw [hW]; exact (Below.refl _ _).alloc (Nat.le_refl _) _
  have hA : W.heap[w.heap.size]? = some (.cells #[.bool na, .slice ua un uc, .int .i64 ea] 25 (0, 0)) := by rw [hW]; exact heap_alloc_new _ _
  have hsz : W.heap.size = w.heap.size + 1 := by rw [hW]; simp
  have HX : Hid (Below w.heap.size w W ∧ W.heap.size = w.heap.size + 1 ∧ W.heap[w.heap.size]? = some (.cells #[.bool na, .slice ua un uc, .int .i64 ea] 25 (0, 0))) := ⟨hBW, hsz, hA⟩
  have k := kV (W.alloc (.cells #[.bool na, .slice ua un uc, .int .i64 ea] 25)) (w.heap.size + 1) (hBW.alloc hBW.size _) (by rw [← hsz]; exact heap_alloc_new _ _)
  clear kV hA hsz hBW
  go_enter Tryz.func28, Tryz.ntmps28
  go_wp2_with fail
  rw [← hW]
  clear hW
  refine k.mono ?_
  rintro r w1 ⟨rfl, hb1⟩
  have HB1 : Hid (Below W.heap.size W w1) := ((Below.refl W.heap.size W).alloc (Nat.le_refl _) _).trans (hb1.mono (by simp))
  obtain ⟨⟨a0, a1, a2⟩, -⟩ := box_cells (box_later HX.out.2.2 HB1.out (by have := HX.out.2.1; omega))
  clear k hb1
  cases V
  · go_wp2
    refine bodyPost_ret (results_tmp2 rfl _ _ _) rfl ?_
    exact ⟨rfl, HX.out.1.trans (HB1.out.mono HX.out.1.size)⟩
  · have kM : Calls Tryz.prog 70 #[.int .i64 m] w1 fun r w' => r = .returned (.bool false) ∧ w' = w1 := (pmode m w1).mono fun r w' ⟨e1, e2⟩ => ⟨by rw [e1, hm rfl], e2⟩
    go_wp2_with fail
    refine kM.mono ?_
    rintro r w2 ⟨rfl, hw⟩
    replace hw := hw.symm
    subst hw
    clear kM
    go_wp2
    refine bodyPost_ret (results_tmp2 rfl _ _ _) rfl ?_
    exact ⟨rfl, HX.out.1.trans (HB1.out.mono HX.out.1.size)⟩
set_option maxHeartbeats 4000000 in
set_option maxRecDepth 200000 in
theorem psqrt_no (na : Bool) (ua : Option Addr) (un uc : Nat) (ea m : Int) (V : Bool) (w : World) (hm : V = true → ((m == 1) || (m == 2) || (m == 3)) = false) (kV : ∀ W g, Below w.heap.size w W → W.heap[g]? = some (.cells #[.bool na, .slice ua un uc, .int .i64 ea] 25 (0, 0)) → Calls Tryz.prog 47 #[.slice (some ⟨g, 0, none⟩) 1 1] W fun r w' => r = .returned (.bool V) ∧ Below W.heap.size W w') :
    Calls Tryz.prog 39 #[.agg #[.bool na, .slice ua un uc, .int .i64 ea], .int .i64 m] w fun r w' => r = .returned (.tuple #[.float .f64 0, .int .i64 1]) ∧ Below w.heap.size w w' := by
  obtain ⟨W, hW⟩ : ∃ W, W = w.alloc (.cells #[.bool na, .slice ua un uc, .int .i64 ea] 25) := ⟨_, rfl⟩
  have hBW : Below w.heap.size w W := by rw [hW]; exact (Below.refl _ _).alloc (Nat.le_refl _) _
  have hA : W.heap[w.heap.size]? = some (.cells #[.bool na, .slice ua un uc, .int .i64 ea] 25 (0, 0)) := by rw [hW]; exact heap_alloc_new _ _
  have hsz : W.heap.size = w.heap.size + 1 := by rw [hW]; simp
  have HX : Hid (Below w.heap.size w W ∧ W.heap.size = w.heap.size + 1 ∧ W.heap[w.heap.size]? = some (.cells #[.bool na, .slice ua un uc, .int .i64 ea] 25 (0, 0))) := ⟨hBW, hsz, hA⟩
  have k := kV (W.alloc (.cells #[.bool na, .slice ua un uc, .int .i64 ea] 25)) (w.heap.size + 1) (hBW.alloc hBW.size _) (by rw [← hsz]; exact heap_alloc_new _ _)
  clear kV hA hsz hBW
  go_enter Tryz.func39, Tryz.ntmps39
  go_wp2_with fail
  rw [← hW]
  clear hW
  refine k.mono ?_
  rintro r w1 ⟨rfl, hb1⟩
  have HB1 : Hid (Below W.heap.size W w1) := ((Below.refl W.heap.size W).alloc (Nat.le_refl _) _).trans (hb1.mono (by simp))
  obtain ⟨⟨a0, a1, a2⟩, -⟩ := box_cells (box_later HX.out.2.2 HB1.out (by have := HX.out.2.1; omega))
  clear k hb1
  cases V
  · go_wp2
    refine bodyPost_ret (results_tmp2 rfl _ _ _) rfl ?_
    exact ⟨rfl, HX.out.1.trans (HB1.out.mono HX.out.1.size)⟩
  · have kM : Calls Tryz.prog 70 #[.int .i64 m] w1 fun r w' => r = .returned (.bool false) ∧ w' = w1 := (pmode m w1).mono fun r w' ⟨e1, e2⟩ => ⟨by rw [e1, hm rfl], e2⟩
    go_wp2_with fail
    refine kM.mono ?_
    rintro r w2 ⟨rfl, hw⟩
    replace hw := hw.symm
    subst hw
    clear kM
    go_wp2
    refine bodyPost_ret (results_tmp2 rfl _ _ _) rfl ?_
    exact ⟨rfl, HX.out.1.trans (HB1.out.mono HX.out.1.size)⟩
set_option maxHeartbeats 4000000 in
set_option maxRecDepth 200000 in
theorem psqrt_dom (ua : Option Addr) (un uc : Nat) (ea m : Int) (w : World) (hm : ((m == 1) || (m == 2) || (m == 3)) = true) (kV : ∀ W g, Below w.heap.size w W → W.heap[g]? = some (.cells #[.bool true, .slice ua un uc, .int .i64 ea] 25 (0, 0)) → Calls Tryz.prog 47 #[.slice (some ⟨g, 0, none⟩) 1 1] W fun r w' => r = .returned (.bool true) ∧ Below W.heap.size W w') :
    Calls Tryz.prog 39 #[.agg #[.bool true, .slice ua un uc, .int .i64 ea], .int .i64 m] w fun r w' => r = .returned (.tuple #[.float .f64 0, .int .i64 7]) ∧ Below w.heap.size w w' := by
  obtain ⟨W, hW⟩ : ∃ W, W = w.alloc (.cells #[.bool true, .slice ua un uc, .int .i64 ea] 25) := ⟨_, rfl⟩
  have hBW : Below w.heap.size w W := by rw [hW]; exact (Below.refl _ _).alloc (Nat.le_refl _) _
  have hA : W.heap[w.heap.size]? = some (.cells #[.bool true, .slice ua un uc, .int .i64 ea] 25 (0, 0)) := by rw [hW]; exact heap_alloc_new _ _
  have hsz : W.heap.size = w.heap.size + 1 := by rw [hW]; simp
  have HX : Hid (Below w.heap.size w W ∧ W.heap.size = w.heap.size + 1 ∧ W.heap[w.heap.size]? = some (.cells #[.bool true, .slice ua un uc, .int .i64 ea] 25 (0, 0))) := ⟨hBW, hsz, hA⟩
  have k := kV (W.alloc (.cells #[.bool true, .slice ua un uc, .int .i64 ea] 25)) (w.heap.size + 1) (hBW.alloc hBW.size _) (by rw [← hsz]; exact heap_alloc_new _ _)
  clear kV hA hsz hBW
  go_enter Tryz.func39, Tryz.ntmps39
  go_wp2_with fail
  rw [← hW]
  clear hW
  refine k.mono ?_
  rintro r w1 ⟨rfl, hb1⟩
  have HB1 : Hid (Below W.heap.size W w1) := ((Below.refl W.heap.size W).alloc (Nat.le_refl _) _).trans (hb1.mono (by simp))
  obtain ⟨⟨a0, a1, a2⟩, -⟩ := box_cells (box_later HX.out.2.2 HB1.out (by have := HX.out.2.1; omega))
  clear k hb1
  have kM : Calls Tryz.prog 70 #[.int .i64 m] w1 fun r w' => r = .returned (.bool true) ∧ w' = w1 := (pmode m w1).mono fun r w' ⟨e1, e2⟩ => ⟨by rw [e1, hm], e2⟩
  go_wp2_with fail
  refine kM.mono ?_
  rintro r w2 ⟨rfl, hw⟩
  replace hw := hw.symm
  subst hw
  clear kM
  go_wp2
  refine bodyPost_ret (results_tmp2 rfl _ _ _) rfl ?_
  exact ⟨rfl, HX.out.1.trans (HB1.out.mono HX.out.1.size)⟩
set_option maxHeartbeats 4000000 in
set_option maxRecDepth 200000 in
theorem pratio_no (na nb : Bool) (ua va : Option Addr) (un uc vn vc : Nat) (ea eb m : Int) (V : Bool) (w : World) (hm : V = true → ((m == 1) || (m == 2) || (m == 3)) = false) (kV : ∀ W g, Below w.heap.size w W → W.heap[g]? = some (.cells #[.bool na, .slice ua un uc, .int .i64 ea, .bool nb, .slice va vn vc, .int .i64 eb] 25 (0, 0)) → Calls Tryz.prog 47 #[.slice (some ⟨g, 0, none⟩) 2 2] W fun r w' => r = .returned (.bool V) ∧ Below W.heap.size W w') :
    Calls Tryz.prog 37 #[.agg #[.bool na, .slice ua un uc, .int .i64 ea], .agg #[.bool nb, .slice va vn vc, .int .i64 eb], .int .i64 m] w fun r w' => r = .returned (.tuple #[.float .f64 0, .int .i64 1]) ∧ Below w.heap.size w w' := by
  obtain ⟨W, hW⟩ : ∃ W, W = (w.alloc (.cells #[.bool na, .slice ua un uc, .int .i64 ea] 25)).alloc (.cells #[.bool nb, .slice va vn vc, .int .i64 eb] 25) := ⟨_, rfl⟩
  obtain ⟨hA, hC, hsz, hBW⟩ := two29 _ _ hW
  have HX : Hid (Below w.heap.size w W ∧ W.heap.size = w.heap.size + 1 + 1 ∧ W.heap[w.heap.size]? = some (.cells #[.bool na, .slice ua un uc, .int .i64 ea] 25 (0, 0)) ∧ W.heap[w.heap.size + 1]? = some (.cells #[.bool nb, .slice va vn vc, .int .i64 eb] 25 (0, 0))) := ⟨hBW, hsz, hA, hC⟩
  have k := kV (W.alloc (.cells #[.bool na, .slice ua un uc, .int .i64 ea, .bool nb, .slice va vn vc, .int .i64 eb] 25)) (w.heap.size + 1 + 1) (hBW.alloc hBW.size _) (by rw [← hsz]; exact heap_alloc_new _ _)
  clear kV hA hC hsz hBW
  go_enter Tryz.func37, Tryz.ntmps37
  go_wp2_with fail
  rw [← hW]
  clear hW
  refine k.mono ?_
  rintro r w1 ⟨rfl, hb1⟩
  have HB1 : Hid (Below W.heap.size W w1) := ((Below.refl W.heap.size W).alloc (Nat.le_refl _) _).trans (hb1.mono (by simp))
  obtain ⟨⟨a0, a1, a2⟩, -⟩ := box_cells (box_later HX.out.2.2.1 HB1.out (by have := HX.out.2.1; omega))
  obtain ⟨⟨b0, b1, b2⟩, -⟩ := box_cells (box_later HX.out.2.2.2 HB1.out (by have := HX.out.2.1; omega))
  clear k hb1
  cases V
  · go_wp2
    refine bodyPost_ret (results_tmp2 rfl _ _ _) rfl ?_
    exact ⟨rfl, HX.out.1.trans (HB1.out.mono HX.out.1.size)⟩
  · have kM : Calls Tryz.prog 70 #[.int .i64 m] w1 fun r w' => r = .returned (.bool false) ∧ w' = w1 := (pmode m w1).mono fun r w' ⟨e1, e2⟩ => ⟨by rw [e1, hm rfl], e2⟩
    go_wp2_with fail
    refine kM.mono ?_
    rintro r w2 ⟨rfl, hw⟩
    replace hw := hw.symm
    subst hw
    clear kM
    go_wp2
    refine bodyPost_ret (results_tmp2 rfl _ _ _) rfl ?_
    exact ⟨rfl, HX.out.1.trans (HB1.out.mono HX.out.1.size)⟩
set_option maxHeartbeats 4000000 in
set_option maxRecDepth 200000 in
theorem pratio_z (na nb : Bool) (ua va : Option Addr) (un uc vc : Nat) (ea eb m : Int) (w : World) (hm : ((m == 1) || (m == 2) || (m == 3)) = true) (kV : ∀ W g, Below w.heap.size w W → W.heap[g]? = some (.cells #[.bool na, .slice ua un uc, .int .i64 ea, .bool nb, .slice va 0 vc, .int .i64 eb] 25 (0, 0)) → Calls Tryz.prog 47 #[.slice (some ⟨g, 0, none⟩) 2 2] W fun r w' => r = .returned (.bool true) ∧ Below W.heap.size W w') :
    Calls Tryz.prog 37 #[.agg #[.bool na, .slice ua un uc, .int .i64 ea], .agg #[.bool nb, .slice va 0 vc, .int .i64 eb], .int .i64 m] w fun r w' => r = .returned (.tuple #[.float .f64 0, .int .i64 6]) ∧ Below w.heap.size w w' := by
  obtain ⟨W, hW⟩ : ∃ W, W = (w.alloc (.cells #[.bool na, .slice ua un uc, .int .i64 ea] 25)).alloc (.cells #[.bool nb, .slice va 0 vc, .int .i64 eb] 25) := ⟨_, rfl⟩
  obtain ⟨hA, hC, hsz, hBW⟩ := two29 _ _ hW
  have HX : Hid (Below w.heap.size w W ∧ W.heap.size = w.heap.size + 1 + 1 ∧ W.heap[w.heap.size]? = some (.cells #[.bool na, .slice ua un uc, .int .i64 ea] 25 (0, 0)) ∧ W.heap[w.heap.size + 1]? = some (.cells #[.bool nb, .slice va 0 vc, .int .i64 eb] 25 (0, 0))) := ⟨hBW, hsz, hA, hC⟩
  have k := kV (W.alloc (.cells #[.bool na, .slice ua un uc, .int .i64 ea, .bool nb, .slice va 0 vc, .int .i64 eb] 25)) (w.heap.size + 1 + 1) (hBW.alloc hBW.size _) (by rw [← hsz]; exact heap_alloc_new _ _)
  clear kV hA hC hsz hBW
  go_enter Tryz.func37, Tryz.ntmps37
  go_wp2_with fail
  rw [← hW]
  clear hW
  refine k.mono ?_
  rintro r w1 ⟨rfl, hb1⟩
  have HB1 : Hid (Below W.heap.size W w1) := ((Below.refl W.heap.size W).alloc (Nat.le_refl _) _).trans (hb1.mono (by simp))
  obtain ⟨⟨a0, a1, a2⟩, -⟩ := box_cells (box_later HX.out.2.2.1 HB1.out (by have := HX.out.2.1; omega))
  obtain ⟨⟨b0, b1, b2⟩, -⟩ := box_cells (box_later HX.out.2.2.2 HB1.out (by have := HX.out.2.1; omega))
  clear k hb1
  have kM : Calls Tryz.prog 70 #[.int .i64 m] w1 fun r w' => r = .returned (.bool true) ∧ w' = w1 := (pmode m w1).mono fun r w' ⟨e1, e2⟩ => ⟨by rw [e1, hm], e2⟩
  go_wp2_with fail
  refine kM.mono ?_
  rintro r w2 ⟨rfl, hw⟩
  replace hw := hw.symm
  subst hw
  clear kM
  go_wp2
  refine bodyPost_ret (results_tmp2 rfl _ _ _) rfl ?_
  exact ⟨rfl, HX.out.1.trans (HB1.out.mono HX.out.1.size)⟩
set_option maxHeartbeats 4000000 in
set_option maxRecDepth 200000 in
theorem pratio_a0 (na nb : Bool) (ua va : Option Addr) (uc vn vc : Nat) (ea eb m : Int) (w : World) (hm : ((m == 1) || (m == 2) || (m == 3)) = true) (hn1 : ((vn : Int) == 0) = false) (kV : ∀ W g, Below w.heap.size w W → W.heap[g]? = some (.cells #[.bool na, .slice ua 0 uc, .int .i64 ea, .bool nb, .slice va vn vc, .int .i64 eb] 25 (0, 0)) → Calls Tryz.prog 47 #[.slice (some ⟨g, 0, none⟩) 2 2] W fun r w' => r = .returned (.bool true) ∧ Below W.heap.size W w') :
    Calls Tryz.prog 37 #[.agg #[.bool na, .slice ua 0 uc, .int .i64 ea], .agg #[.bool nb, .slice va vn vc, .int .i64 eb], .int .i64 m] w fun r w' => r = .returned (.tuple #[.float .f64 0, .int .i64 0]) ∧ Below w.heap.size w w' := by
  obtain ⟨W, hW⟩ : ∃ W, W = (w.alloc (.cells #[.bool na, .slice ua 0 uc, .int .i64 ea] 25)).alloc (.cells #[.bool nb, .slice va vn vc, .int .i64 eb] 25) := ⟨_, rfl⟩
  obtain ⟨hA, hC, hsz, hBW⟩ := two29 _ _ hW
  have HX : Hid (Below w.heap.size w W ∧ W.heap.size = w.heap.size + 1 + 1 ∧ W.heap[w.heap.size]? = some (.cells #[.bool na, .slice ua 0 uc, .int .i64 ea] 25 (0, 0)) ∧ W.heap[w.heap.size + 1]? = some (.cells #[.bool nb, .slice va vn vc, .int .i64 eb] 25 (0, 0))) := ⟨hBW, hsz, hA, hC⟩
  have k := kV (W.alloc (.cells #[.bool na, .slice ua 0 uc, .int .i64 ea, .bool nb, .slice va vn vc, .int .i64 eb] 25)) (w.heap.size + 1 + 1) (hBW.alloc hBW.size _) (by rw [← hsz]; exact heap_alloc_new _ _)
  clear kV hA hC hsz hBW
  go_enter Tryz.func37, Tryz.ntmps37
  go_wp2_with fail
  rw [← hW]
  clear hW
  refine k.mono ?_
  rintro r w1 ⟨rfl, hb1⟩
  have HB1 : Hid (Below W.heap.size W w1) := ((Below.refl W.heap.size W).alloc (Nat.le_refl _) _).trans (hb1.mono (by simp))
  obtain ⟨⟨a0, a1, a2⟩, -⟩ := box_cells (box_later HX.out.2.2.1 HB1.out (by have := HX.out.2.1; omega))
  obtain ⟨⟨b0, b1, b2⟩, -⟩ := box_cells (box_later HX.out.2.2.2 HB1.out (by have := HX.out.2.1; omega))
  clear k hb1
  have kM : Calls Tryz.prog 70 #[.int .i64 m] w1 fun r w' => r = .returned (.bool true) ∧ w' = w1 := (pmode m w1).mono fun r w' ⟨e1, e2⟩ => ⟨by rw [e1, hm], e2⟩
  go_wp2_with fail
  refine kM.mono ?_
  rintro r w2 ⟨rfl, hw⟩
  replace hw := hw.symm
  subst hw
  clear kM
  go_wp2
  refine bodyPost_ret (results_tmp2 rfl _ _ _) rfl ?_
  exact ⟨rfl, HX.out.1.trans (HB1.out.mono HX.out.1.size)⟩
end Go.Proofs.YtmhpicccfaklcaaGreatDoor

/- DyadRounds: the law's walk. -/
namespace Go.Proofs.YtmhpicccfaklcaaGreatDoor
set_option linter.unusedVariables false
set_option linter.unusedSimpArgs false
open Go.RowKit

/-- an answer: a float and an error -/
def Out2 (W : World) (F : Nat) (E : Int) (r : Ending) (w' : World) : Prop := r = .returned (.tuple #[.float .f64 F, .int .i64 E]) ∧ Below W.heap.size W w'

structure RoundsK (w : World) (A0 A1 : Value) (NG0 NG1 : Bool) (LN0 Z0 LN1 Z1 : Nat) (E0 E01 : Int) (k0 : Int) (PX PY : World → Value → Prop) (F1 F2 F3 : Nat) (E1 E2 E3 : Int) : Prop where
  lPX : Lasts PX
  lPY : Lasts PY
  k1 : ∀ W X, Below w.heap.size w W → PX W X → Calls Tryz.prog 28 #[X, .int .i64 k0] W fun r w' => Out2 W F1 E1 r w'
  q1 : ∀ W, Below w.heap.size w W → Calls Tryz.prog 36 #[A0, .int .i64 k0] W fun r w' => Out2 W F1 E1 r w'
  k2 : ∀ W X Y, Below w.heap.size w W → PX W X → PY W Y → Calls Tryz.prog 37 #[X, Y, .int .i64 k0] W fun r w' => Out2 W F2 E2 r w'
  q2 : ∀ W, Below w.heap.size w W → Calls Tryz.prog 38 #[A0, A1, .int .i64 k0] W fun r w' => Out2 W F2 E2 r w'
  k3 : ∀ W X, Below w.heap.size w W → PX W X → Calls Tryz.prog 39 #[X, .int .i64 k0] W fun r w' => Out2 W F3 E3 r w'
  q3 : ∀ W, Below w.heap.size w W → Calls Tryz.prog 40 #[A0, .int .i64 k0] W fun r w' => Out2 W F3 E3 r w'
  gx : ∀ W v, Below w.heap.size w W → (∃ b, Dn W b v (LN0) (Z0)) → PX W (.agg #[.bool NG0, v, .int .i64 E0])
  gy : ∀ W v, Below w.heap.size w W → (∃ b, Dn W b v (LN1) (Z1)) → PY W (.agg #[.bool NG1, v, .int .i64 E01])
  works : ∀ W, Below w.heap.size w W → Calls Tryz.prog 27 #[] W fun r w' => r = .returned (.bool true) ∧ Below W.heap.size W w'

theorem like_same (a : Nat) (w : World) : Calls Tryz.prog 41 #[.float .f64 a, .float .f64 a] w fun r w' => r = .returned (.bool true) ∧ w' = w :=
  (c54 a a w).mono fun r w' ⟨h1, h2⟩ => ⟨by rw [h1]; simp, h2⟩
set_option maxHeartbeats 8000000 in
set_option maxRecDepth 200000 in
theorem lawR_1 (ng : Nat → Bool) (ao : Nat → Option Addr) (ln cp z : Nat → Nat) (e : Nat → Int) (k0 : Int) (w : World) (hA : ∀ i, i < 2 → Arg w (ao i) (ln i) (cp i) (z i))
    {PX PY : World → Value → Prop} {F1 F2 F3 : Nat} {E1 E2 E3 : Int} (K : RoundsK w (.agg #[.bool (ng 0), .slice (ao 0) (ln 0) (cp 0), .int .i64 (e 0)]) (.agg #[.bool (ng 1), .slice (ao 1) (ln 1) (cp 1), .int .i64 (e 1)]) (ng 0) (ng 1) (ln 0) (z 0) (ln 1) (z 1) (e 0) (e 1) k0 PX PY F1 F2 F3 E1 E2 E3) :
    Calls Tryz.prog 6 #[.agg #[.bool (ng 0), .slice (ao 0) (ln 0) (cp 0), .int .i64 (e 0)], .agg #[.bool (ng 1), .slice (ao 1) (ln 1) (cp 1), .int .i64 (e 1)], .int .i64 k0] w fun r w' => r = .returned (.bool true) ∧ Below w.heap.size w w' := by
  obtain ⟨W, hW⟩ : ∃ W, W = (w.alloc (.cells #[.bool (ng 0), .slice (ao 0) (ln 0) (cp 0), .int .i64 (e 0)] 24)).alloc (.cells #[.bool (ng 1), .slice (ao 1) (ln 1) (cp 1), .int .i64 (e 1)] 24) := ⟨_, rfl⟩
  obtain ⟨hs0, hs1, hsz, hBW⟩ := two29 _ _ hW
  have HBW : Hid (Below w.heap.size w W) := hBW
  have HA3 : ∀ i, i < 2 → Arg W (ao i) (ln i) (cp i) (z i) := fun i hi => (hA i hi).later hBW
  clear hBW hA hsz
  go_enter Tryz.func6, Tryz.ntmps6
  go_upto_region 1 with fail
  rw [← hW]
  clear hW
  go_cut [7, 8] from 21 to 24 (fun p q wx => ∃ (g : Nat → Nat) (v : Nat → Value), p = .pointer (some ⟨g 0, 0, none⟩) ∧ q = .pointer (some ⟨g 1, 0, none⟩) ∧ Hid (Given W wx 2 ng ln z e g v))
  case first =>
    refine give_region 2 (fun k => 3 + k) (fun k => 21 + 2 * k) (fun k => 22 + 2 * k) (fun k => 7 + k) (fun k => w.heap.size + k) ng ao ln cp z e W _ rfl (ord_of (by kernel_rfl)) ?_ ?_ ?_ ?_ ?_ ?_ ?_ ?_ ?_ ?_ ?_ ?_
    · intro k hk
      rcases lt2 hk with rfl | rfl
      · exact ⟨rfl, hs0, HA3 0 hk⟩
      · exact ⟨rfl, hs1, HA3 1 hk⟩
    · intro k hk
      rcases lt2 hk with rfl | rfl <;> decide
    · intro k hk
      rcases lt2 hk with rfl | rfl <;> exact ⟨_, rfl, rfl, rfl, rfl⟩
    · intro k hk
      rcases lt2 hk with rfl | rfl <;> exact ⟨_, rfl, rfl, ⟨_, rfl⟩, rfl, ⟨_, .data⟩, by simp, rfl, rfl⟩
    · intro k hk
      rcases lt2 hk with rfl | rfl <;> exact ⟨_, rfl, rfl, rfl, rfl⟩
    · intro k hk
      rcases lt2 hk with rfl | rfl <;> exact ⟨_, rfl, rfl, rfl, rfl, ⟨⟨_, .data⟩, by simp, rfl, rfl⟩, ⟨_, .data⟩, by simp, rfl, rfl⟩
    · show ∀ j, j < 2 * 2 → gslot (fun k => 21 + 2 * k) (fun k => 22 + 2 * k) j < 94
      decide
    · show ∀ k, k < 2 → 7 + k < 94
      decide
    · decide
    · decide
    · decide
    · intro u v g wx hb hk
      simp only [putL, gslot, show List.range (2 * 2) = [0, 1, 2, 3] from rfl, show List.range 2 = [0, 1] from rfl, List.map_cons, List.map_nil, List.cons_append, List.nil_append, List.foldl_cons, List.foldl_nil, Nat.reduceMod, Nat.reduceDiv, Nat.reduceMul, Nat.reduceAdd, reduceIte, Nat.one_ne_zero, Act.put, List.setIfInBounds_toArray, List.set_cons_zero, List.set_cons_succ]
      go_wp2_with fail
      go_meet
      exact ⟨g, v, rfl, rfl, hb, hk⟩
  case rest =>
    obtain ⟨w8, hw8⟩ : ∃ w8 : World, w8 = wc := ⟨_, rfl⟩
    subst hw8
    obtain ⟨g, v, rfl, rfl, HG⟩ := hcut
    have hB8 : Below w.heap.size w w8 := HBW.out.trans (HG.out.1.mono HBW.out.size)
    have b0 : ∃ ak ck, BB 25 PX w8 (g 0) (ng 0) ak (ln 0) ck (e 0) := by
      obtain ⟨h1, h2, h3⟩ := HG.out.2 0 (by omega)
      have hp := K.gx w8 _ hB8 ⟨_, h1⟩
      obtain ⟨ak, ck, hv, -, -⟩ := h1.at
      rw [hv] at hp h3
      exact ⟨ak, ck, h3, hp⟩
    have b1 : ∃ ak ck, BB 25 PY w8 (g 1) (ng 1) ak (ln 1) ck (e 1) := by
      obtain ⟨h1, h2, h3⟩ := HG.out.2 1 (by omega)
      have hp := K.gy w8 _ hB8 ⟨_, h1⟩
      obtain ⟨ak, ck, hv, -, -⟩ := h1.at
      rw [hv] at hp h3
      exact ⟨ak, ck, h3, hp⟩
    obtain ⟨xa, xc, X0⟩ := b0
    obtain ⟨ya, yc, X1⟩ := b1
    replace X0 : Hid (BB 25 PX w8 (g 0) (ng 0) xa (ln 0) xc (e 0)) := X0
    replace X1 : Hid (BB 25 PY w8 (g 1) (ng 1) ya (ln 1) yc (e 1)) := X1
    have X2 : Hid (BB 24 Any w8 (w.heap.size) (ng 0) (ao 0) (ln 0) (cp 0) (e 0)) := ⟨box_later hs0 HG.out.1 (Array.getElem?_eq_some_iff.1 hs0).1, trivial⟩
    have X3 : Hid (BB 24 Any w8 (w.heap.size + 1) (ng 1) (ao 1) (ln 1) (cp 1) (e 1)) := ⟨box_later hs1 HG.out.1 (Array.getElem?_eq_some_iff.1 hs1).1, trivial⟩
    have HB8 : Hid (Below w.heap.size w w8) := hB8
    clear HG hs0 hs1 HA3 hB8
    obtain ⟨⟨p0, p1, p2⟩, -⟩ := box_cells X0.out.1
    have kc := K.k1 w8 _ HB8.out X0.out.2
    go_wp2_with fail
    refine kc.mono ?_
    rintro r w9 ⟨rfl, hb'⟩
    replace X0 : Hid (BB 25 PX w9 (g 0) (ng 0) xa (ln 0) xc (e 0)) := X0.out.later K.lPX hb'
    replace X1 : Hid (BB 25 PY w9 (g 1) (ng 1) ya (ln 1) yc (e 1)) := X1.out.later K.lPY hb'
    replace X2 : Hid (BB 24 Any w9 (w.heap.size) (ng 0) (ao 0) (ln 0) (cp 0) (e 0)) := X2.out.later Any.lasts hb'
    replace X3 : Hid (BB 24 Any w9 (w.heap.size + 1) (ng 1) (ao 1) (ln 1) (cp 1) (e 1)) := X3.out.later Any.lasts hb'
    have HB9 : Hid (Below w.heap.size w w9) := HB8.out.trans (hb'.mono HB8.out.size)
    clear kc hb' p0 p1 p2 HB8
    obtain ⟨⟨p0, p1, p2⟩, -⟩ := box_cells29 X2.out.1
    have kc := K.q1 w9 HB9.out
    go_wp2_with fail
    refine kc.mono ?_
    rintro r w10 ⟨rfl, hb'⟩
    replace X0 : Hid (BB 25 PX w10 (g 0) (ng 0) xa (ln 0) xc (e 0)) := X0.out.later K.lPX hb'
    replace X1 : Hid (BB 25 PY w10 (g 1) (ng 1) ya (ln 1) yc (e 1)) := X1.out.later K.lPY hb'
    replace X2 : Hid (BB 24 Any w10 (w.heap.size) (ng 0) (ao 0) (ln 0) (cp 0) (e 0)) := X2.out.later Any.lasts hb'
    replace X3 : Hid (BB 24 Any w10 (w.heap.size + 1) (ng 1) (ao 1) (ln 1) (cp 1) (e 1)) := X3.out.later Any.lasts hb'
    have HB10 : Hid (Below w.heap.size w w10) := HB9.out.trans (hb'.mono HB9.out.size)
    clear kc hb' p0 p1 p2 HB9
    obtain ⟨⟨p0, p1, p2⟩, -⟩ := box_cells X0.out.1
    obtain ⟨⟨q0, q1, q2⟩, -⟩ := box_cells X1.out.1
    have kc := K.k2 w10 _ _ HB10.out X0.out.2 X1.out.2
    go_wp2_with fail
    refine kc.mono ?_
    rintro r w11 ⟨rfl, hb'⟩
    replace X0 : Hid (BB 25 PX w11 (g 0) (ng 0) xa (ln 0) xc (e 0)) := X0.out.later K.lPX hb'
    replace X1 : Hid (BB 25 PY w11 (g 1) (ng 1) ya (ln 1) yc (e 1)) := X1.out.later K.lPY hb'
    replace X2 : Hid (BB 24 Any w11 (w.heap.size) (ng 0) (ao 0) (ln 0) (cp 0) (e 0)) := X2.out.later Any.lasts hb'
    replace X3 : Hid (BB 24 Any w11 (w.heap.size + 1) (ng 1) (ao 1) (ln 1) (cp 1) (e 1)) := X3.out.later Any.lasts hb'
    have HB11 : Hid (Below w.heap.size w w11) := HB10.out.trans (hb'.mono HB10.out.size)
    clear kc hb' p0 p1 p2 q0 q1 q2 HB10
    obtain ⟨⟨p0, p1, p2⟩, -⟩ := box_cells29 X2.out.1
    obtain ⟨⟨q0, q1, q2⟩, -⟩ := box_cells29 X3.out.1
    have kc := K.q2 w11 HB11.out
    go_wp2_with fail
    refine kc.mono ?_
    rintro r w12 ⟨rfl, hb'⟩
    replace X0 : Hid (BB 25 PX w12 (g 0) (ng 0) xa (ln 0) xc (e 0)) := X0.out.later K.lPX hb'
    replace X1 : Hid (BB 25 PY w12 (g 1) (ng 1) ya (ln 1) yc (e 1)) := X1.out.later K.lPY hb'
    replace X2 : Hid (BB 24 Any w12 (w.heap.size) (ng 0) (ao 0) (ln 0) (cp 0) (e 0)) := X2.out.later Any.lasts hb'
    replace X3 : Hid (BB 24 Any w12 (w.heap.size + 1) (ng 1) (ao 1) (ln 1) (cp 1) (e 1)) := X3.out.later Any.lasts hb'
    have HB12 : Hid (Below w.heap.size w w12) := HB11.out.trans (hb'.mono HB11.out.size)
    clear kc hb' p0 p1 p2 q0 q1 q2 HB11
    obtain ⟨⟨p0, p1, p2⟩, -⟩ := box_cells X0.out.1
    have kc := K.k3 w12 _ HB12.out X0.out.2
    go_wp2_with fail
    refine kc.mono ?_
    rintro r w13 ⟨rfl, hb'⟩
    replace X0 : Hid (BB 25 PX w13 (g 0) (ng 0) xa (ln 0) xc (e 0)) := X0.out.later K.lPX hb'
    replace X1 : Hid (BB 25 PY w13 (g 1) (ng 1) ya (ln 1) yc (e 1)) := X1.out.later K.lPY hb'
    replace X2 : Hid (BB 24 Any w13 (w.heap.size) (ng 0) (ao 0) (ln 0) (cp 0) (e 0)) := X2.out.later Any.lasts hb'
    replace X3 : Hid (BB 24 Any w13 (w.heap.size + 1) (ng 1) (ao 1) (ln 1) (cp 1) (e 1)) := X3.out.later Any.lasts hb'
    have HB13 : Hid (Below w.heap.size w w13) := HB12.out.trans (hb'.mono HB12.out.size)
    clear kc hb' p0 p1 p2 HB12
    obtain ⟨⟨p0, p1, p2⟩, -⟩ := box_cells29 X2.out.1
    have kc := K.q3 w13 HB13.out
    go_wp2_with fail
    refine kc.mono ?_
    rintro r w14 ⟨rfl, hb'⟩
    replace X0 : Hid (BB 25 PX w14 (g 0) (ng 0) xa (ln 0) xc (e 0)) := X0.out.later K.lPX hb'
    replace X1 : Hid (BB 25 PY w14 (g 1) (ng 1) ya (ln 1) yc (e 1)) := X1.out.later K.lPY hb'
    replace X2 : Hid (BB 24 Any w14 (w.heap.size) (ng 0) (ao 0) (ln 0) (cp 0) (e 0)) := X2.out.later Any.lasts hb'
    replace X3 : Hid (BB 24 Any w14 (w.heap.size + 1) (ng 1) (ao 1) (ln 1) (cp 1) (e 1)) := X3.out.later Any.lasts hb'
    have HB14 : Hid (Below w.heap.size w w14) := HB13.out.trans (hb'.mono HB13.out.size)
    clear kc hb' p0 p1 p2 HB13
    have kc := like_same F1 w14
    go_wp2_with fail
    refine kc.mono ?_
    rintro r wl ⟨rfl, hl⟩
    replace hl := hl.symm
    subst hl
    clear kc
    have kc := like_same F2 w14
    go_wp2_with fail
    refine kc.mono ?_
    rintro r wl ⟨rfl, hl⟩
    replace hl := hl.symm
    subst hl
    clear kc
    have kc := like_same F3 w14
    go_wp2_with fail
    refine kc.mono ?_
    rintro r wl ⟨rfl, hl⟩
    replace hl := hl.symm
    subst hl
    clear kc
    have kc := K.works w14 HB14.out
    go_wp2_with fail
    refine kc.mono ?_
    rintro r w20 ⟨rfl, hb'⟩
    have HB20 : Hid (Below w.heap.size w w20) := HB14.out.trans (hb'.mono HB14.out.size)
    clear kc hb'
    go_wp2_with fail
    go_ret
    exact ⟨rfl, HB20.out⟩
end Go.Proofs.YtmhpicccfaklcaaGreatDoor
