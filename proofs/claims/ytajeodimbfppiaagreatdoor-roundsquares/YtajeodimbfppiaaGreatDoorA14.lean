/- Own work: contracts of the program's functions, part 14: RT7 RY1 RY2 RY3 RY4 FM6 FM7 FM8 RY5 SA7 SA8 SB1. -/
import Derived.Test.YtajeodimbfppiaaGreatDoorA11
import Derived.Test.YtajeodimbfppiaaGreatDoorA12
import Derived.Test.YtajeodimbfppiaaGreatDoorA13
import Derived.Test.YtajeodimbfppiaaGreatDoorA10
import Derived.Test.YtajeodimbfppiaaGreatDoorA9
import Derived.Test.YtajeodimbfppiaaGreatDoorA8

/- The document's rounding, joined. -/
namespace Go.Proofs.YtajeodimbfppiaaGreatDoor
set_option linter.unusedVariables false
set_option linter.unusedSimpArgs false
open Go.RowKit Go.Fl64
open Ie

theorem and1_32 {d X : Nat} (h : d = X % B) : (bits BinOp.and IntKind.u32 (d : Int) 1 == 1) = (X % 2 == 1) := by
  have hB : B = 4294967296 := rfl
  have h2 := u32_and_nat d 1 (by rw [h, hB]; omega) (by decide)
  rw [show ((1 : Nat) : Int) = 1 from rfl] at h2
  rw [h2, Nat.and_one_is_mod, h, show X % B % 2 = X % 2 by rw [hB]; omega]
  rcases Nat.mod_two_eq_zero_or_one X with h | h <;> rw [h] <;> rfl
theorem and1_64 {X : Nat} (h : X < 9007199254740992) : (bits BinOp.and IntKind.u64 (X : Int) 1 == 1) = (X % 2 == 1) := by
  have h2 := u64_and_nat X 1 (by omega) (by decide)
  rw [show ((1 : Nat) : Int) = 1 from rfl] at h2
  rw [h2, Nat.and_one_is_mod]
  rcases Nat.mod_two_eq_zero_or_one X with h | h <;> rw [h] <;> rfl
theorem neq53 {n : Nat} (h : n ≠ 9007199254740992) : ((n : Int) == 9007199254740992) = false := by
  have : ((n : Nat) : Int) ≠ 9007199254740992 := by omega
  simpa using this
theorem tE_max (x : Nat) (E : Int) : max ((bl x : Int) + E - 53) (-1074) = tE x E := by unfold tE; split <;> omega
/-- down's answer as it is asked for here -/
theorem kd1 {w : World} {ua : Option Addr} {uc x : Nat} (h : At w ua (dlen x) x) (hc : dlen x ≤ uc) (hl : dlen x ≤ 100000) {i : Int} {k : Nat} (hi : i = (k : Int)) (hk : k ≤ 10000000) :
    ∀ W, Below w.heap.size w W → Calls Tryz.prog 103 #[.slice ua (dlen x) uc, .int .i64 i] W fun r w' => ∃ v bb, r = .returned (.tuple #[v, .bool bb]) ∧ Ir w' v (x / 2 ^ k) ∧ Below W.heap.size W w' := by
  intro W hW
  subst hi
  refine (rdown (v := .slice ua (dlen x) uc) (⟨ua, uc, rfl, hc, h.later hW⟩ : Ir W _ x) k (by omega) (by omega)).mono ?_
  rintro r w' ⟨ao, cap', rfl, hA, hc', hB⟩
  exact ⟨_, _, rfl, ⟨ao, cap', rfl, hc', hA⟩, hB⟩
theorem kd2Z {w : World} {ua : Option Addr} {uc x : Nat} (h : At w ua (dlen x) x) (hc : dlen x ≤ uc) (hl : dlen x ≤ 100000) {i : Int} {k : Nat} (hi : i = (k : Int)) (hk : k ≤ 10000000) (hz : x / 2 ^ k = 0) :
    ∀ W, Below w.heap.size w W → Calls Tryz.prog 103 #[.slice ua (dlen x) uc, .int .i64 i] W fun r w' => ∃ ao cap', r = .returned (.tuple #[.slice ao 0 cap', .bool (decide (x % 2 ^ k = 0))]) ∧ Below W.heap.size W w' := by
  intro W hW
  subst hi
  refine (rdown (v := .slice ua (dlen x) uc) (⟨ua, uc, rfl, hc, h.later hW⟩ : Ir W _ x) k (by omega) (by omega)).mono ?_
  rintro r w' ⟨ao, cap', rfl, hA, hc', hB⟩
  rw [hz, dlen_zero]
  exact ⟨_, _, rfl, hB⟩
theorem kd2P {w : World} {ua : Option Addr} {uc x : Nat} (h : At w ua (dlen x) x) (hc : dlen x ≤ uc) (hl : dlen x ≤ 100000) {i : Int} {k : Nat} (hi : i = (k : Int)) (hk : k ≤ 10000000) (hz : x / 2 ^ k ≠ 0) {ex : Bool} (hex : decide (x % 2 ^ k = 0) = ex) :
    ∀ W, Below w.heap.size w W → Calls Tryz.prog 103 #[.slice ua (dlen x) uc, .int .i64 i] W fun r w' => ∃ b o n2 cap', r = .returned (.tuple #[.slice (some ⟨b, o, none⟩) (n2 : Nat) cap', .bool ex]) ∧ (0 : Int) < (n2 : Int) ∧ n2 ≤ 1000000000 ∧ w'.cell? ⟨b, o, none⟩ = some (.int .u32 (dg (x / 2 ^ k) 0 : Nat)) ∧ Below W.heap.size W w' := by
  intro W hW
  subst hi
  subst hex
  refine (rdown (v := .slice ua (dlen x) uc) (⟨ua, uc, rfl, hc, h.later hW⟩ : Ir W _ x) k (by omega) (by omega)).mono ?_
  rintro r w' ⟨ao, cap', rfl, ⟨b, o, hb, hcell⟩, hc', hB⟩
  have hp : 0 < dlen (x / 2 ^ k) := Nat.pos_of_ne_zero fun e => hz (dlen_eq_zero.1 e)
  obtain rfl := hb hp
  have hle : dlen (x / 2 ^ k) ≤ dlen x := dlen_mono (Nat.div_le_self _ _)
  have c0 := hcell 0 hp
  rw [Nat.add_zero] at c0
  exact ⟨b, o, _, cap', rfl, by omega, by omega, c0, hB⟩
set_option maxHeartbeats 1000000 in
theorem rto_1f {ua : Option Addr} {uc x : Nat} {ea : Int} {w : World} (h : At w ua (dlen x) x) (hc : dlen x ≤ uc) (hodd : x % 2 = 1) (hl : dlen x ≤ 100000) (he1 : -4000000 ≤ ea) (he2 : ea ≤ 4000000) :
    Calls Tryz.prog 84 #[.agg #[.bool false, .slice ua (dlen x) uc, .int .i64 ea], .int .i64 1] w fun r w' => r = .returned (.float .f64 (sig false (bdy x ea 0))) ∧ Below w.heap.size w w' := by
  have h0 : x ≠ 0 := by omega
  have hw : (0 : Nat) = 0 ∨ (0 : Nat) = 1 ∨ (0 : Nat) = 2 := by omega
  have hn0 : ((dlen x : Int) == 0) = false := len_ne (n := 0) h0
  have hbl : bl x ≤ 32 * dlen x := bl_le_dlen x
  have hb1 := bl_ne h0
  have kH : ∀ W, Below w.heap.size w W → Calls Tryz.prog 96 #[.agg #[.bool false, .slice ua (dlen x) uc, .int .i64 ea]] W fun r w' => r = .returned (.int .i64 ((bl x : Int) + ea)) ∧ Below W.heap.size W w' := fun W hW => rhigh (h.later hW) h0 (by omega) ⟨he1, he2⟩
  by_cases ht : 1024 < (bl x : Int) + ea
  · rw [bdy_big h0 ht hw]
    exact rto_big_1f _ _ _ _ _ _ _ hn0 ht kH (fun W => rbuild (M := 9007199254740991) (e := 971) (by omega) (by omega) (by omega) (.inr (by omega)))
  · have ht' : (bl x : Int) + ea ≤ 1024 := by omega
    have hmx := tE_max x ea
    obtain ⟨h21, h22⟩ := tE_bounds ht'
    by_cases hge : tE x ea ≤ ea
    · obtain ⟨hb, hlt, hg⟩ := bdy_up h0 ht' hge hw
      rw [hb]
      obtain ⟨k, hk⟩ : ∃ k : Nat, k = (ea - tE x ea).toNat := ⟨_, rfl⟩
      have hi : ea - tE x ea = (k : Int) := by omega
      rw [← hk] at hlt hg ⊢
      refine rto_up_1f (ua := ua) (un := dlen x) (uc := uc) (ea := ea) (e2 := tE x ea) (t := (bl x : Int) + ea) (w := w) (F := _) (hn0 := hn0) (ht := ht') (ht3 := by omega) (he1 := he1) (he2 := he2) (hmx := hmx) (h21 := h21) (h22 := h22) (hge := hge) (X := x * 2 ^ k) (hX := hlt) (kH := kH) (kU := fun W hW => ?_) (kB := fun W => rbuild hlt h21 h22 hg)
      rw [hi]
      exact rup ⟨ua, uc, rfl, hc, h.later hW⟩ k (by omega) (by omega)
    · have hlt : ea < tE x ea := by omega
      by_cases ht2 : (bl x : Int) + ea < -1075
      · rw [bdy_tiny h0 ht2 hw, if_neg (by decide)]
        exact rto_tiny_1f (ua := ua) (un := dlen x) (uc := uc) (ea := ea) (e2 := tE x ea) (t := (bl x : Int) + ea) (w := w) (F := _) (hn0 := hn0) (ht := ht') (ht3 := by omega) (he1 := he1) (he2 := he2) (hmx := hmx) (h21 := h21) (h22 := h22) (hge := hge) (ht2 := ht2) (kH := kH) (kB := fun W => rbuild_0 false 0 (-1074) W (by omega))
      · obtain ⟨k, hk⟩ : ∃ k : Nat, k = (tE x ea - ea).toNat := ⟨_, rfl⟩
        have hk1 : 1 ≤ k := by omega
        have hi : tE x ea - ea = (k : Int) := by omega
        have hi2 : tE x ea - ea - 1 = ((k - 1 : Nat) : Int) := by omega
        have hkb : k ≤ 10000000 := by unfold tE at hk; split at hk <;> omega
        obtain ⟨n, hn⟩ : ∃ n, n = if dnU x (tE x ea - ea).toNat 0 then x / 2 ^ (tE x ea - ea).toNat + 1 else x / 2 ^ (tE x ea - ea).toNat := ⟨_, rfl⟩
        obtain ⟨hn1, hn2, hb, hX⟩ := bdy_dn hodd ht' hlt hw hn
        rw [← hk] at hn hX
        rw [hb]
        have k1 := kd1 h hc hl hi hkb
        have hdd := and1_32 (d := dg (x / 2 ^ (k - 1)) 0) (X := x / 2 ^ (k - 1)) (dg_zero _)
        have hod := and1_64 hX
        have ht2' : -1075 ≤ (bl x : Int) + ea := by omega
        have hv : n = x / 2 ^ k := by rw [hn]; simp [dnU]
        by_cases hz : x / 2 ^ (k - 1) = 0
        · rw [hv] at hn1 hn2 ⊢
          exact rto_gen_1f_Zxxx0 (ua := ua) (un := dlen x) (uc := uc) (ea := ea) (e2 := tE x ea) (t := (bl x : Int) + ea) (w := w) (hn0 := hn0) (ht := ht') (ht3 := by omega) (he1 := he1) (he2 := he2) (hmx := hmx) (h21 := h21) (h22 := h22) (hge := hge) (ht2 := ht2') (kH := kH) (X := x / 2 ^ k) (F := _) (hX := hX) (hne := neq53 (by omega)) (kD1 := k1) (kD2 := kd2Z h hc hl hi2 (by omega) hz) (ex := decide (x % 2 ^ (k - 1) = 0)) (kB := fun W => rbuild hX h21 h22 hn2)
        · rw [hv] at hn1 hn2 ⊢
          exact rto_gen_1f_Pxxx0 (ua := ua) (un := dlen x) (uc := uc) (ea := ea) (e2 := tE x ea) (t := (bl x : Int) + ea) (w := w) (hn0 := hn0) (ht := ht') (ht3 := by omega) (he1 := he1) (he2 := he2) (hmx := hmx) (h21 := h21) (h22 := h22) (hge := hge) (ht2 := ht2') (kH := kH) (X := x / 2 ^ k) (F := _) (hX := hX) (hne := neq53 (by omega)) (kD1 := k1) (kD2 := kd2P h hc hl hi2 (by omega) hz rfl) (dd := dg (x / 2 ^ (k - 1)) 0) (ex := decide (x % 2 ^ (k - 1) = 0)) (kB := fun W => rbuild hX h21 h22 hn2)
set_option maxHeartbeats 1000000 in
theorem rto_1t {ua : Option Addr} {uc x : Nat} {ea : Int} {w : World} (h : At w ua (dlen x) x) (hc : dlen x ≤ uc) (hodd : x % 2 = 1) (hl : dlen x ≤ 100000) (he1 : -4000000 ≤ ea) (he2 : ea ≤ 4000000) :
    Calls Tryz.prog 84 #[.agg #[.bool true, .slice ua (dlen x) uc, .int .i64 ea], .int .i64 1] w fun r w' => r = .returned (.float .f64 (sig true (bdy x ea 2))) ∧ Below w.heap.size w w' := by
  have h0 : x ≠ 0 := by omega
  have hw : (2 : Nat) = 0 ∨ (2 : Nat) = 1 ∨ (2 : Nat) = 2 := by omega
  have hn0 : ((dlen x : Int) == 0) = false := len_ne (n := 0) h0
  have hbl : bl x ≤ 32 * dlen x := bl_le_dlen x
  have hb1 := bl_ne h0
  have kH : ∀ W, Below w.heap.size w W → Calls Tryz.prog 96 #[.agg #[.bool true, .slice ua (dlen x) uc, .int .i64 ea]] W fun r w' => r = .returned (.int .i64 ((bl x : Int) + ea)) ∧ Below W.heap.size W w' := fun W hW => rhigh (h.later hW) h0 (by omega) ⟨he1, he2⟩
  by_cases ht : 1024 < (bl x : Int) + ea
  · rw [bdy_big h0 ht hw]
    exact rto_big_1t _ _ _ _ _ _ hn0 ht kH
  · have ht' : (bl x : Int) + ea ≤ 1024 := by omega
    have hmx := tE_max x ea
    obtain ⟨h21, h22⟩ := tE_bounds ht'
    by_cases hge : tE x ea ≤ ea
    · obtain ⟨hb, hlt, hg⟩ := bdy_up h0 ht' hge hw
      rw [hb]
      obtain ⟨k, hk⟩ : ∃ k : Nat, k = (ea - tE x ea).toNat := ⟨_, rfl⟩
      have hi : ea - tE x ea = (k : Int) := by omega
      rw [← hk] at hlt hg ⊢
      refine rto_up_1t (ua := ua) (un := dlen x) (uc := uc) (ea := ea) (e2 := tE x ea) (t := (bl x : Int) + ea) (w := w) (F := _) (hn0 := hn0) (ht := ht') (ht3 := by omega) (he1 := he1) (he2 := he2) (hmx := hmx) (h21 := h21) (h22 := h22) (hge := hge) (X := x * 2 ^ k) (hX := hlt) (kH := kH) (kU := fun W hW => ?_) (kB := fun W => rbuild hlt h21 h22 hg)
      rw [hi]
      exact rup ⟨ua, uc, rfl, hc, h.later hW⟩ k (by omega) (by omega)
    · have hlt : ea < tE x ea := by omega
      by_cases ht2 : (bl x : Int) + ea < -1075
      · rw [bdy_tiny h0 ht2 hw, if_pos rfl]
        exact rto_tiny_1t (ua := ua) (un := dlen x) (uc := uc) (ea := ea) (e2 := tE x ea) (t := (bl x : Int) + ea) (w := w) (F := _) (hn0 := hn0) (ht := ht') (ht3 := by omega) (he1 := he1) (he2 := he2) (hmx := hmx) (h21 := h21) (h22 := h22) (hge := hge) (ht2 := ht2) (kH := kH) (kB := fun W => rbuild_0 true 1 (-1074) W (by omega))
      · obtain ⟨k, hk⟩ : ∃ k : Nat, k = (tE x ea - ea).toNat := ⟨_, rfl⟩
        have hk1 : 1 ≤ k := by omega
        have hi : tE x ea - ea = (k : Int) := by omega
        have hi2 : tE x ea - ea - 1 = ((k - 1 : Nat) : Int) := by omega
        have hkb : k ≤ 10000000 := by unfold tE at hk; split at hk <;> omega
        obtain ⟨n, hn⟩ : ∃ n, n = if dnU x (tE x ea - ea).toNat 2 then x / 2 ^ (tE x ea - ea).toNat + 1 else x / 2 ^ (tE x ea - ea).toNat := ⟨_, rfl⟩
        obtain ⟨hn1, hn2, hb, hX⟩ := bdy_dn hodd ht' hlt hw hn
        rw [← hk] at hn hX
        rw [hb]
        have k1 := kd1 h hc hl hi hkb
        have hdd := and1_32 (d := dg (x / 2 ^ (k - 1)) 0) (X := x / 2 ^ (k - 1)) (dg_zero _)
        have hod := and1_64 hX
        have ht2' : -1075 ≤ (bl x : Int) + ea := by omega
        have hv : n = x / 2 ^ k + 1 := by rw [hn]; simp [dnU]
        by_cases hz : x / 2 ^ (k - 1) = 0
        · rw [hv] at hn1 hn2 ⊢
          by_cases h53 : x / 2 ^ k + 1 = 9007199254740992
          · have hXv : x / 2 ^ k = 9007199254740991 := by omega
            rw [hXv] at k1
            by_cases h9 : tE x ea = 971
            · rw [h53, show ((tE x ea + 1074).toNat * 4503599627370496 + 9007199254740992) = 9218868437227405312 by omega]
              exact rto_gen_1t_Zxxx3 (ua := ua) (un := dlen x) (uc := uc) (ea := ea) (e2 := tE x ea) (t := (bl x : Int) + ea) (w := w) (hn0 := hn0) (ht := ht') (ht3 := by omega) (he1 := he1) (he2 := he2) (hmx := hmx) (h21 := h21) (h22 := h22) (hge := hge) (ht2 := ht2') (kH := kH) (hnx := h9) (kD1 := k1) (kD2 := kd2Z h hc hl hi2 (by omega) hz) (ex := decide (x % 2 ^ (k - 1) = 0))
            · rw [h53, show ((tE x ea + 1074).toNat * 4503599627370496 + 9007199254740992) = (tE x ea + 1 + 1074).toNat * 4503599627370496 + 4503599627370496 by omega]
              exact rto_gen_1t_Zxxx2 (ua := ua) (un := dlen x) (uc := uc) (ea := ea) (e2 := tE x ea) (t := (bl x : Int) + ea) (w := w) (hn0 := hn0) (ht := ht') (ht3 := by omega) (he1 := he1) (he2 := he2) (hmx := hmx) (h21 := h21) (h22 := h22) (hge := hge) (ht2 := ht2') (kH := kH) (hnx := by omega) (kD1 := k1) (kD2 := kd2Z h hc hl hi2 (by omega) hz) (ex := decide (x % 2 ^ (k - 1) = 0)) (kB := fun W => rbuild (M := 4503599627370496) (e := tE x ea + 1) (by omega) (by omega) (by omega) (.inr (by omega))) (F := _)
          · have kB : ∀ W, Calls Tryz.prog 113 #[.bool true, .int .u64 (((x / 2 ^ k : Nat) : Int) + 1), .int .i64 (tE x ea)] W fun r w' => r = .returned (.float .f64 (sig true ((tE x ea + 1074).toNat * 4503599627370496 + (x / 2 ^ k + 1)))) ∧ w' = W := fun W => by
              rw [show (((x / 2 ^ k : Nat) : Int) + 1) = ((x / 2 ^ k + 1 : Nat) : Int) by omega]
              exact rbuild (by omega) h21 h22 hn2
            have hne : (((x / 2 ^ k : Nat) : Int) + 1 == 9007199254740992) = false := by
              rw [show (((x / 2 ^ k : Nat) : Int) + 1) = ((x / 2 ^ k + 1 : Nat) : Int) by omega]
              exact neq53 h53
            exact rto_gen_1t_Zxxx1 (ua := ua) (un := dlen x) (uc := uc) (ea := ea) (e2 := tE x ea) (t := (bl x : Int) + ea) (w := w) (hn0 := hn0) (ht := ht') (ht3 := by omega) (he1 := he1) (he2 := he2) (hmx := hmx) (h21 := h21) (h22 := h22) (hge := hge) (ht2 := ht2') (kH := kH) (X := x / 2 ^ k) (F := _) (hX := hX) (hne := hne) (kD1 := k1) (kD2 := kd2Z h hc hl hi2 (by omega) hz) (ex := decide (x % 2 ^ (k - 1) = 0)) (kB := kB)
        · rw [hv] at hn1 hn2 ⊢
          by_cases h53 : x / 2 ^ k + 1 = 9007199254740992
          · have hXv : x / 2 ^ k = 9007199254740991 := by omega
            rw [hXv] at k1
            by_cases h9 : tE x ea = 971
            · rw [h53, show ((tE x ea + 1074).toNat * 4503599627370496 + 9007199254740992) = 9218868437227405312 by omega]
              exact rto_gen_1t_Pxxx3 (ua := ua) (un := dlen x) (uc := uc) (ea := ea) (e2 := tE x ea) (t := (bl x : Int) + ea) (w := w) (hn0 := hn0) (ht := ht') (ht3 := by omega) (he1 := he1) (he2 := he2) (hmx := hmx) (h21 := h21) (h22 := h22) (hge := hge) (ht2 := ht2') (kH := kH) (hnx := h9) (kD1 := k1) (kD2 := kd2P h hc hl hi2 (by omega) hz rfl) (dd := dg (x / 2 ^ (k - 1)) 0) (ex := decide (x % 2 ^ (k - 1) = 0))
            · rw [h53, show ((tE x ea + 1074).toNat * 4503599627370496 + 9007199254740992) = (tE x ea + 1 + 1074).toNat * 4503599627370496 + 4503599627370496 by omega]
              exact rto_gen_1t_Pxxx2 (ua := ua) (un := dlen x) (uc := uc) (ea := ea) (e2 := tE x ea) (t := (bl x : Int) + ea) (w := w) (hn0 := hn0) (ht := ht') (ht3 := by omega) (he1 := he1) (he2 := he2) (hmx := hmx) (h21 := h21) (h22 := h22) (hge := hge) (ht2 := ht2') (kH := kH) (hnx := by omega) (kD1 := k1) (kD2 := kd2P h hc hl hi2 (by omega) hz rfl) (dd := dg (x / 2 ^ (k - 1)) 0) (ex := decide (x % 2 ^ (k - 1) = 0)) (kB := fun W => rbuild (M := 4503599627370496) (e := tE x ea + 1) (by omega) (by omega) (by omega) (.inr (by omega))) (F := _)
          · have kB : ∀ W, Calls Tryz.prog 113 #[.bool true, .int .u64 (((x / 2 ^ k : Nat) : Int) + 1), .int .i64 (tE x ea)] W fun r w' => r = .returned (.float .f64 (sig true ((tE x ea + 1074).toNat * 4503599627370496 + (x / 2 ^ k + 1)))) ∧ w' = W := fun W => by
              rw [show (((x / 2 ^ k : Nat) : Int) + 1) = ((x / 2 ^ k + 1 : Nat) : Int) by omega]
              exact rbuild (by omega) h21 h22 hn2
            have hne : (((x / 2 ^ k : Nat) : Int) + 1 == 9007199254740992) = false := by
              rw [show (((x / 2 ^ k : Nat) : Int) + 1) = ((x / 2 ^ k + 1 : Nat) : Int) by omega]
              exact neq53 h53
            exact rto_gen_1t_Pxxx1 (ua := ua) (un := dlen x) (uc := uc) (ea := ea) (e2 := tE x ea) (t := (bl x : Int) + ea) (w := w) (hn0 := hn0) (ht := ht') (ht3 := by omega) (he1 := he1) (he2 := he2) (hmx := hmx) (h21 := h21) (h22 := h22) (hge := hge) (ht2 := ht2') (kH := kH) (X := x / 2 ^ k) (F := _) (hX := hX) (hne := hne) (kD1 := k1) (kD2 := kd2P h hc hl hi2 (by omega) hz rfl) (dd := dg (x / 2 ^ (k - 1)) 0) (ex := decide (x % 2 ^ (k - 1) = 0)) (kB := kB)
set_option maxHeartbeats 1000000 in
theorem rto_2f {ua : Option Addr} {uc x : Nat} {ea : Int} {w : World} (h : At w ua (dlen x) x) (hc : dlen x ≤ uc) (hodd : x % 2 = 1) (hl : dlen x ≤ 100000) (he1 : -4000000 ≤ ea) (he2 : ea ≤ 4000000) :
    Calls Tryz.prog 84 #[.agg #[.bool false, .slice ua (dlen x) uc, .int .i64 ea], .int .i64 2] w fun r w' => r = .returned (.float .f64 (sig false (bdy x ea 1))) ∧ Below w.heap.size w w' := by
  have h0 : x ≠ 0 := by omega
  have hw : (1 : Nat) = 0 ∨ (1 : Nat) = 1 ∨ (1 : Nat) = 2 := by omega
  have hn0 : ((dlen x : Int) == 0) = false := len_ne (n := 0) h0
  have hbl : bl x ≤ 32 * dlen x := bl_le_dlen x
  have hb1 := bl_ne h0
  have kH : ∀ W, Below w.heap.size w W → Calls Tryz.prog 96 #[.agg #[.bool false, .slice ua (dlen x) uc, .int .i64 ea]] W fun r w' => r = .returned (.int .i64 ((bl x : Int) + ea)) ∧ Below W.heap.size W w' := fun W hW => rhigh (h.later hW) h0 (by omega) ⟨he1, he2⟩
  by_cases ht : 1024 < (bl x : Int) + ea
  · rw [bdy_big h0 ht hw]
    exact rto_big_2f _ _ _ _ _ _ hn0 ht kH
  · have ht' : (bl x : Int) + ea ≤ 1024 := by omega
    have hmx := tE_max x ea
    obtain ⟨h21, h22⟩ := tE_bounds ht'
    by_cases hge : tE x ea ≤ ea
    · obtain ⟨hb, hlt, hg⟩ := bdy_up h0 ht' hge hw
      rw [hb]
      obtain ⟨k, hk⟩ : ∃ k : Nat, k = (ea - tE x ea).toNat := ⟨_, rfl⟩
      have hi : ea - tE x ea = (k : Int) := by omega
      rw [← hk] at hlt hg ⊢
      refine rto_up_2f (ua := ua) (un := dlen x) (uc := uc) (ea := ea) (e2 := tE x ea) (t := (bl x : Int) + ea) (w := w) (F := _) (hn0 := hn0) (ht := ht') (ht3 := by omega) (he1 := he1) (he2 := he2) (hmx := hmx) (h21 := h21) (h22 := h22) (hge := hge) (X := x * 2 ^ k) (hX := hlt) (kH := kH) (kU := fun W hW => ?_) (kB := fun W => rbuild hlt h21 h22 hg)
      rw [hi]
      exact rup ⟨ua, uc, rfl, hc, h.later hW⟩ k (by omega) (by omega)
    · have hlt : ea < tE x ea := by omega
      by_cases ht2 : (bl x : Int) + ea < -1075
      · rw [bdy_tiny h0 ht2 hw, if_neg (by decide)]
        exact rto_tiny_2f (ua := ua) (un := dlen x) (uc := uc) (ea := ea) (e2 := tE x ea) (t := (bl x : Int) + ea) (w := w) (F := _) (hn0 := hn0) (ht := ht') (ht3 := by omega) (he1 := he1) (he2 := he2) (hmx := hmx) (h21 := h21) (h22 := h22) (hge := hge) (ht2 := ht2) (kH := kH) (kB := fun W => rbuild_0 false 0 (-1074) W (by omega))
      · obtain ⟨k, hk⟩ : ∃ k : Nat, k = (tE x ea - ea).toNat := ⟨_, rfl⟩
        have hk1 : 1 ≤ k := by omega
        have hi : tE x ea - ea = (k : Int) := by omega
        have hi2 : tE x ea - ea - 1 = ((k - 1 : Nat) : Int) := by omega
        have hkb : k ≤ 10000000 := by unfold tE at hk; split at hk <;> omega
        obtain ⟨n, hn⟩ : ∃ n, n = if dnU x (tE x ea - ea).toNat 1 then x / 2 ^ (tE x ea - ea).toNat + 1 else x / 2 ^ (tE x ea - ea).toNat := ⟨_, rfl⟩
        obtain ⟨hn1, hn2, hb, hX⟩ := bdy_dn hodd ht' hlt hw hn
        rw [← hk] at hn hX
        rw [hb]
        have k1 := kd1 h hc hl hi hkb
        have hdd := and1_32 (d := dg (x / 2 ^ (k - 1)) 0) (X := x / 2 ^ (k - 1)) (dg_zero _)
        have hod := and1_64 hX
        have ht2' : -1075 ≤ (bl x : Int) + ea := by omega
        by_cases hz : x / 2 ^ (k - 1) = 0
        · have hv : n = x / 2 ^ k := by rw [hn]; simp [dnU, hz]
          rw [hv] at hn1 hn2 ⊢
          exact rto_gen_2f_Zlxx0 (ua := ua) (un := dlen x) (uc := uc) (ea := ea) (e2 := tE x ea) (t := (bl x : Int) + ea) (w := w) (hn0 := hn0) (ht := ht') (ht3 := by omega) (he1 := he1) (he2 := he2) (hmx := hmx) (h21 := h21) (h22 := h22) (hge := hge) (ht2 := ht2') (kH := kH) (X := x / 2 ^ k) (F := _) (hX := hX) (hne := neq53 (by omega)) (kD1 := k1) (kD2 := kd2Z h hc hl hi2 (by omega) hz) (ex := decide (x % 2 ^ (k - 1) = 0)) (kB := fun W => rbuild hX h21 h22 hn2)
        · by_cases hh : x / 2 ^ (k - 1) % 2 = 1
          · rw [hh] at hdd
            by_cases hx : x % 2 ^ (k - 1) = 0
            · by_cases ho : x / 2 ^ k % 2 = 1
              · rw [ho] at hod
                have hv : n = x / 2 ^ k + 1 := by rw [hn]; simp [dnU, hh, hx, ho]
                rw [hv] at hn1 hn2 ⊢
                by_cases h53 : x / 2 ^ k + 1 = 9007199254740992
                · have hXv : x / 2 ^ k = 9007199254740991 := by omega
                  rw [hXv] at k1
                  by_cases h9 : tE x ea = 971
                  · rw [h53, show ((tE x ea + 1074).toNat * 4503599627370496 + 9007199254740992) = 9218868437227405312 by omega]
                    exact rto_gen_2f_Pheo3 (ua := ua) (un := dlen x) (uc := uc) (ea := ea) (e2 := tE x ea) (t := (bl x : Int) + ea) (w := w) (hn0 := hn0) (ht := ht') (ht3 := by omega) (he1 := he1) (he2 := he2) (hmx := hmx) (h21 := h21) (h22 := h22) (hge := hge) (ht2 := ht2') (kH := kH) (hnx := h9) (kD1 := k1) (kD2 := kd2P h hc hl hi2 (by omega) hz (decide_eq_true hx)) (hf := hdd) (dd := dg (x / 2 ^ (k - 1)) 0)
                  · rw [h53, show ((tE x ea + 1074).toNat * 4503599627370496 + 9007199254740992) = (tE x ea + 1 + 1074).toNat * 4503599627370496 + 4503599627370496 by omega]
                    exact rto_gen_2f_Pheo2 (ua := ua) (un := dlen x) (uc := uc) (ea := ea) (e2 := tE x ea) (t := (bl x : Int) + ea) (w := w) (hn0 := hn0) (ht := ht') (ht3 := by omega) (he1 := he1) (he2 := he2) (hmx := hmx) (h21 := h21) (h22 := h22) (hge := hge) (ht2 := ht2') (kH := kH) (hnx := by omega) (kD1 := k1) (kD2 := kd2P h hc hl hi2 (by omega) hz (decide_eq_true hx)) (hf := hdd) (dd := dg (x / 2 ^ (k - 1)) 0) (kB := fun W => rbuild (M := 4503599627370496) (e := tE x ea + 1) (by omega) (by omega) (by omega) (.inr (by omega))) (F := _)
                · have kB : ∀ W, Calls Tryz.prog 113 #[.bool false, .int .u64 (((x / 2 ^ k : Nat) : Int) + 1), .int .i64 (tE x ea)] W fun r w' => r = .returned (.float .f64 (sig false ((tE x ea + 1074).toNat * 4503599627370496 + (x / 2 ^ k + 1)))) ∧ w' = W := fun W => by
                    rw [show (((x / 2 ^ k : Nat) : Int) + 1) = ((x / 2 ^ k + 1 : Nat) : Int) by omega]
                    exact rbuild (by omega) h21 h22 hn2
                  have hne : (((x / 2 ^ k : Nat) : Int) + 1 == 9007199254740992) = false := by
                    rw [show (((x / 2 ^ k : Nat) : Int) + 1) = ((x / 2 ^ k + 1 : Nat) : Int) by omega]
                    exact neq53 h53
                  exact rto_gen_2f_Pheo1 (ua := ua) (un := dlen x) (uc := uc) (ea := ea) (e2 := tE x ea) (t := (bl x : Int) + ea) (w := w) (hn0 := hn0) (ht := ht') (ht3 := by omega) (he1 := he1) (he2 := he2) (hmx := hmx) (h21 := h21) (h22 := h22) (hge := hge) (ht2 := ht2') (kH := kH) (X := x / 2 ^ k) (F := _) (hX := hX) (hne := hne) (kD1 := k1) (kD2 := kd2P h hc hl hi2 (by omega) hz (decide_eq_true hx)) (hf := hdd) (hod := hod) (dd := dg (x / 2 ^ (k - 1)) 0) (kB := kB)
              · have ho2 : x / 2 ^ k % 2 = 0 := by omega
                rw [ho2] at hod
                have hv : n = x / 2 ^ k := by rw [hn]; simp [dnU, hh, hx, ho2]
                rw [hv] at hn1 hn2 ⊢
                exact rto_gen_2f_Phev0 (ua := ua) (un := dlen x) (uc := uc) (ea := ea) (e2 := tE x ea) (t := (bl x : Int) + ea) (w := w) (hn0 := hn0) (ht := ht') (ht3 := by omega) (he1 := he1) (he2 := he2) (hmx := hmx) (h21 := h21) (h22 := h22) (hge := hge) (ht2 := ht2') (kH := kH) (X := x / 2 ^ k) (F := _) (hX := hX) (hne := neq53 (by omega)) (kD1 := k1) (kD2 := kd2P h hc hl hi2 (by omega) hz (decide_eq_true hx)) (hf := hdd) (hod := hod) (dd := dg (x / 2 ^ (k - 1)) 0) (kB := fun W => rbuild hX h21 h22 hn2)
            · have hv : n = x / 2 ^ k + 1 := by rw [hn]; simp [dnU, hh, hx]
              rw [hv] at hn1 hn2 ⊢
              by_cases h53 : x / 2 ^ k + 1 = 9007199254740992
              · have hXv : x / 2 ^ k = 9007199254740991 := by omega
                rw [hXv] at k1
                by_cases h9 : tE x ea = 971
                · rw [h53, show ((tE x ea + 1074).toNat * 4503599627370496 + 9007199254740992) = 9218868437227405312 by omega]
                  exact rto_gen_2f_Phnx3 (ua := ua) (un := dlen x) (uc := uc) (ea := ea) (e2 := tE x ea) (t := (bl x : Int) + ea) (w := w) (hn0 := hn0) (ht := ht') (ht3 := by omega) (he1 := he1) (he2 := he2) (hmx := hmx) (h21 := h21) (h22 := h22) (hge := hge) (ht2 := ht2') (kH := kH) (hnx := h9) (kD1 := k1) (kD2 := kd2P h hc hl hi2 (by omega) hz (decide_eq_false hx)) (hf := hdd) (dd := dg (x / 2 ^ (k - 1)) 0)
                · rw [h53, show ((tE x ea + 1074).toNat * 4503599627370496 + 9007199254740992) = (tE x ea + 1 + 1074).toNat * 4503599627370496 + 4503599627370496 by omega]
                  exact rto_gen_2f_Phnx2 (ua := ua) (un := dlen x) (uc := uc) (ea := ea) (e2 := tE x ea) (t := (bl x : Int) + ea) (w := w) (hn0 := hn0) (ht := ht') (ht3 := by omega) (he1 := he1) (he2 := he2) (hmx := hmx) (h21 := h21) (h22 := h22) (hge := hge) (ht2 := ht2') (kH := kH) (hnx := by omega) (kD1 := k1) (kD2 := kd2P h hc hl hi2 (by omega) hz (decide_eq_false hx)) (hf := hdd) (dd := dg (x / 2 ^ (k - 1)) 0) (kB := fun W => rbuild (M := 4503599627370496) (e := tE x ea + 1) (by omega) (by omega) (by omega) (.inr (by omega))) (F := _)
              · have kB : ∀ W, Calls Tryz.prog 113 #[.bool false, .int .u64 (((x / 2 ^ k : Nat) : Int) + 1), .int .i64 (tE x ea)] W fun r w' => r = .returned (.float .f64 (sig false ((tE x ea + 1074).toNat * 4503599627370496 + (x / 2 ^ k + 1)))) ∧ w' = W := fun W => by
                  rw [show (((x / 2 ^ k : Nat) : Int) + 1) = ((x / 2 ^ k + 1 : Nat) : Int) by omega]
                  exact rbuild (by omega) h21 h22 hn2
                have hne : (((x / 2 ^ k : Nat) : Int) + 1 == 9007199254740992) = false := by
                  rw [show (((x / 2 ^ k : Nat) : Int) + 1) = ((x / 2 ^ k + 1 : Nat) : Int) by omega]
                  exact neq53 h53
                exact rto_gen_2f_Phnx1 (ua := ua) (un := dlen x) (uc := uc) (ea := ea) (e2 := tE x ea) (t := (bl x : Int) + ea) (w := w) (hn0 := hn0) (ht := ht') (ht3 := by omega) (he1 := he1) (he2 := he2) (hmx := hmx) (h21 := h21) (h22 := h22) (hge := hge) (ht2 := ht2') (kH := kH) (X := x / 2 ^ k) (F := _) (hX := hX) (hne := hne) (kD1 := k1) (kD2 := kd2P h hc hl hi2 (by omega) hz (decide_eq_false hx)) (hf := hdd) (dd := dg (x / 2 ^ (k - 1)) 0) (kB := kB)
          · have hh2 : x / 2 ^ (k - 1) % 2 = 0 := by omega
            rw [hh2] at hdd
            have hv : n = x / 2 ^ k := by rw [hn]; simp [dnU, hh2]
            rw [hv] at hn1 hn2 ⊢
            exact rto_gen_2f_Plxx0 (ua := ua) (un := dlen x) (uc := uc) (ea := ea) (e2 := tE x ea) (t := (bl x : Int) + ea) (w := w) (hn0 := hn0) (ht := ht') (ht3 := by omega) (he1 := he1) (he2 := he2) (hmx := hmx) (h21 := h21) (h22 := h22) (hge := hge) (ht2 := ht2') (kH := kH) (X := x / 2 ^ k) (F := _) (hX := hX) (hne := neq53 (by omega)) (kD1 := k1) (kD2 := kd2P h hc hl hi2 (by omega) hz rfl) (hf := hdd) (dd := dg (x / 2 ^ (k - 1)) 0) (ex := decide (x % 2 ^ (k - 1) = 0)) (kB := fun W => rbuild hX h21 h22 hn2)
set_option maxHeartbeats 1000000 in
theorem rto_2t {ua : Option Addr} {uc x : Nat} {ea : Int} {w : World} (h : At w ua (dlen x) x) (hc : dlen x ≤ uc) (hodd : x % 2 = 1) (hl : dlen x ≤ 100000) (he1 : -4000000 ≤ ea) (he2 : ea ≤ 4000000) :
    Calls Tryz.prog 84 #[.agg #[.bool true, .slice ua (dlen x) uc, .int .i64 ea], .int .i64 2] w fun r w' => r = .returned (.float .f64 (sig true (bdy x ea 1))) ∧ Below w.heap.size w w' := by
  have h0 : x ≠ 0 := by omega
  have hw : (1 : Nat) = 0 ∨ (1 : Nat) = 1 ∨ (1 : Nat) = 2 := by omega
  have hn0 : ((dlen x : Int) == 0) = false := len_ne (n := 0) h0
  have hbl : bl x ≤ 32 * dlen x := bl_le_dlen x
  have hb1 := bl_ne h0
  have kH : ∀ W, Below w.heap.size w W → Calls Tryz.prog 96 #[.agg #[.bool true, .slice ua (dlen x) uc, .int .i64 ea]] W fun r w' => r = .returned (.int .i64 ((bl x : Int) + ea)) ∧ Below W.heap.size W w' := fun W hW => rhigh (h.later hW) h0 (by omega) ⟨he1, he2⟩
  by_cases ht : 1024 < (bl x : Int) + ea
  · rw [bdy_big h0 ht hw]
    exact rto_big_2t _ _ _ _ _ _ hn0 ht kH
  · have ht' : (bl x : Int) + ea ≤ 1024 := by omega
    have hmx := tE_max x ea
    obtain ⟨h21, h22⟩ := tE_bounds ht'
    by_cases hge : tE x ea ≤ ea
    · obtain ⟨hb, hlt, hg⟩ := bdy_up h0 ht' hge hw
      rw [hb]
      obtain ⟨k, hk⟩ : ∃ k : Nat, k = (ea - tE x ea).toNat := ⟨_, rfl⟩
      have hi : ea - tE x ea = (k : Int) := by omega
      rw [← hk] at hlt hg ⊢
      refine rto_up_2t (ua := ua) (un := dlen x) (uc := uc) (ea := ea) (e2 := tE x ea) (t := (bl x : Int) + ea) (w := w) (F := _) (hn0 := hn0) (ht := ht') (ht3 := by omega) (he1 := he1) (he2 := he2) (hmx := hmx) (h21 := h21) (h22 := h22) (hge := hge) (X := x * 2 ^ k) (hX := hlt) (kH := kH) (kU := fun W hW => ?_) (kB := fun W => rbuild hlt h21 h22 hg)
      rw [hi]
      exact rup ⟨ua, uc, rfl, hc, h.later hW⟩ k (by omega) (by omega)
    · have hlt : ea < tE x ea := by omega
      by_cases ht2 : (bl x : Int) + ea < -1075
      · rw [bdy_tiny h0 ht2 hw, if_neg (by decide)]
        exact rto_tiny_2t (ua := ua) (un := dlen x) (uc := uc) (ea := ea) (e2 := tE x ea) (t := (bl x : Int) + ea) (w := w) (F := _) (hn0 := hn0) (ht := ht') (ht3 := by omega) (he1 := he1) (he2 := he2) (hmx := hmx) (h21 := h21) (h22 := h22) (hge := hge) (ht2 := ht2) (kH := kH) (kB := fun W => rbuild_0 true 0 (-1074) W (by omega))
      · obtain ⟨k, hk⟩ : ∃ k : Nat, k = (tE x ea - ea).toNat := ⟨_, rfl⟩
        have hk1 : 1 ≤ k := by omega
        have hi : tE x ea - ea = (k : Int) := by omega
        have hi2 : tE x ea - ea - 1 = ((k - 1 : Nat) : Int) := by omega
        have hkb : k ≤ 10000000 := by unfold tE at hk; split at hk <;> omega
        obtain ⟨n, hn⟩ : ∃ n, n = if dnU x (tE x ea - ea).toNat 1 then x / 2 ^ (tE x ea - ea).toNat + 1 else x / 2 ^ (tE x ea - ea).toNat := ⟨_, rfl⟩
        obtain ⟨hn1, hn2, hb, hX⟩ := bdy_dn hodd ht' hlt hw hn
        rw [← hk] at hn hX
        rw [hb]
        have k1 := kd1 h hc hl hi hkb
        have hdd := and1_32 (d := dg (x / 2 ^ (k - 1)) 0) (X := x / 2 ^ (k - 1)) (dg_zero _)
        have hod := and1_64 hX
        have ht2' : -1075 ≤ (bl x : Int) + ea := by omega
        by_cases hz : x / 2 ^ (k - 1) = 0
        · have hv : n = x / 2 ^ k := by rw [hn]; simp [dnU, hz]
          rw [hv] at hn1 hn2 ⊢
          exact rto_gen_2t_Zlxx0 (ua := ua) (un := dlen x) (uc := uc) (ea := ea) (e2 := tE x ea) (t := (bl x : Int) + ea) (w := w) (hn0 := hn0) (ht := ht') (ht3 := by omega) (he1 := he1) (he2 := he2) (hmx := hmx) (h21 := h21) (h22 := h22) (hge := hge) (ht2 := ht2') (kH := kH) (X := x / 2 ^ k) (F := _) (hX := hX) (hne := neq53 (by omega)) (kD1 := k1) (kD2 := kd2Z h hc hl hi2 (by omega) hz) (ex := decide (x % 2 ^ (k - 1) = 0)) (kB := fun W => rbuild hX h21 h22 hn2)
        · by_cases hh : x / 2 ^ (k - 1) % 2 = 1
          · rw [hh] at hdd
            by_cases hx : x % 2 ^ (k - 1) = 0
            · by_cases ho : x / 2 ^ k % 2 = 1
              · rw [ho] at hod
                have hv : n = x / 2 ^ k + 1 := by rw [hn]; simp [dnU, hh, hx, ho]
                rw [hv] at hn1 hn2 ⊢
                by_cases h53 : x / 2 ^ k + 1 = 9007199254740992
                · have hXv : x / 2 ^ k = 9007199254740991 := by omega
                  rw [hXv] at k1
                  by_cases h9 : tE x ea = 971
                  · rw [h53, show ((tE x ea + 1074).toNat * 4503599627370496 + 9007199254740992) = 9218868437227405312 by omega]
                    exact rto_gen_2t_Pheo3 (ua := ua) (un := dlen x) (uc := uc) (ea := ea) (e2 := tE x ea) (t := (bl x : Int) + ea) (w := w) (hn0 := hn0) (ht := ht') (ht3 := by omega) (he1 := he1) (he2 := he2) (hmx := hmx) (h21 := h21) (h22 := h22) (hge := hge) (ht2 := ht2') (kH := kH) (hnx := h9) (kD1 := k1) (kD2 := kd2P h hc hl hi2 (by omega) hz (decide_eq_true hx)) (hf := hdd) (dd := dg (x / 2 ^ (k - 1)) 0)
                  · rw [h53, show ((tE x ea + 1074).toNat * 4503599627370496 + 9007199254740992) = (tE x ea + 1 + 1074).toNat * 4503599627370496 + 4503599627370496 by omega]
                    exact rto_gen_2t_Pheo2 (ua := ua) (un := dlen x) (uc := uc) (ea := ea) (e2 := tE x ea) (t := (bl x : Int) + ea) (w := w) (hn0 := hn0) (ht := ht') (ht3 := by omega) (he1 := he1) (he2 := he2) (hmx := hmx) (h21 := h21) (h22 := h22) (hge := hge) (ht2 := ht2') (kH := kH) (hnx := by omega) (kD1 := k1) (kD2 := kd2P h hc hl hi2 (by omega) hz (decide_eq_true hx)) (hf := hdd) (dd := dg (x / 2 ^ (k - 1)) 0) (kB := fun W => rbuild (M := 4503599627370496) (e := tE x ea + 1) (by omega) (by omega) (by omega) (.inr (by omega))) (F := _)
                · have kB : ∀ W, Calls Tryz.prog 113 #[.bool true, .int .u64 (((x / 2 ^ k : Nat) : Int) + 1), .int .i64 (tE x ea)] W fun r w' => r = .returned (.float .f64 (sig true ((tE x ea + 1074).toNat * 4503599627370496 + (x / 2 ^ k + 1)))) ∧ w' = W := fun W => by
                    rw [show (((x / 2 ^ k : Nat) : Int) + 1) = ((x / 2 ^ k + 1 : Nat) : Int) by omega]
                    exact rbuild (by omega) h21 h22 hn2
                  have hne : (((x / 2 ^ k : Nat) : Int) + 1 == 9007199254740992) = false := by
                    rw [show (((x / 2 ^ k : Nat) : Int) + 1) = ((x / 2 ^ k + 1 : Nat) : Int) by omega]
                    exact neq53 h53
                  exact rto_gen_2t_Pheo1 (ua := ua) (un := dlen x) (uc := uc) (ea := ea) (e2 := tE x ea) (t := (bl x : Int) + ea) (w := w) (hn0 := hn0) (ht := ht') (ht3 := by omega) (he1 := he1) (he2 := he2) (hmx := hmx) (h21 := h21) (h22 := h22) (hge := hge) (ht2 := ht2') (kH := kH) (X := x / 2 ^ k) (F := _) (hX := hX) (hne := hne) (kD1 := k1) (kD2 := kd2P h hc hl hi2 (by omega) hz (decide_eq_true hx)) (hf := hdd) (hod := hod) (dd := dg (x / 2 ^ (k - 1)) 0) (kB := kB)
              · have ho2 : x / 2 ^ k % 2 = 0 := by omega
                rw [ho2] at hod
                have hv : n = x / 2 ^ k := by rw [hn]; simp [dnU, hh, hx, ho2]
                rw [hv] at hn1 hn2 ⊢
                exact rto_gen_2t_Phev0 (ua := ua) (un := dlen x) (uc := uc) (ea := ea) (e2 := tE x ea) (t := (bl x : Int) + ea) (w := w) (hn0 := hn0) (ht := ht') (ht3 := by omega) (he1 := he1) (he2 := he2) (hmx := hmx) (h21 := h21) (h22 := h22) (hge := hge) (ht2 := ht2') (kH := kH) (X := x / 2 ^ k) (F := _) (hX := hX) (hne := neq53 (by omega)) (kD1 := k1) (kD2 := kd2P h hc hl hi2 (by omega) hz (decide_eq_true hx)) (hf := hdd) (hod := hod) (dd := dg (x / 2 ^ (k - 1)) 0) (kB := fun W => rbuild hX h21 h22 hn2)
            · have hv : n = x / 2 ^ k + 1 := by rw [hn]; simp [dnU, hh, hx]
              rw [hv] at hn1 hn2 ⊢
              by_cases h53 : x / 2 ^ k + 1 = 9007199254740992
              · have hXv : x / 2 ^ k = 9007199254740991 := by omega
                rw [hXv] at k1
                by_cases h9 : tE x ea = 971
                · rw [h53, show ((tE x ea + 1074).toNat * 4503599627370496 + 9007199254740992) = 9218868437227405312 by omega]
                  exact rto_gen_2t_Phnx3 (ua := ua) (un := dlen x) (uc := uc) (ea := ea) (e2 := tE x ea) (t := (bl x : Int) + ea) (w := w) (hn0 := hn0) (ht := ht') (ht3 := by omega) (he1 := he1) (he2 := he2) (hmx := hmx) (h21 := h21) (h22 := h22) (hge := hge) (ht2 := ht2') (kH := kH) (hnx := h9) (kD1 := k1) (kD2 := kd2P h hc hl hi2 (by omega) hz (decide_eq_false hx)) (hf := hdd) (dd := dg (x / 2 ^ (k - 1)) 0)
                · rw [h53, show ((tE x ea + 1074).toNat * 4503599627370496 + 9007199254740992) = (tE x ea + 1 + 1074).toNat * 4503599627370496 + 4503599627370496 by omega]
                  exact rto_gen_2t_Phnx2 (ua := ua) (un := dlen x) (uc := uc) (ea := ea) (e2 := tE x ea) (t := (bl x : Int) + ea) (w := w) (hn0 := hn0) (ht := ht') (ht3 := by omega) (he1 := he1) (he2 := he2) (hmx := hmx) (h21 := h21) (h22 := h22) (hge := hge) (ht2 := ht2') (kH := kH) (hnx := by omega) (kD1 := k1) (kD2 := kd2P h hc hl hi2 (by omega) hz (decide_eq_false hx)) (hf := hdd) (dd := dg (x / 2 ^ (k - 1)) 0) (kB := fun W => rbuild (M := 4503599627370496) (e := tE x ea + 1) (by omega) (by omega) (by omega) (.inr (by omega))) (F := _)
              · have kB : ∀ W, Calls Tryz.prog 113 #[.bool true, .int .u64 (((x / 2 ^ k : Nat) : Int) + 1), .int .i64 (tE x ea)] W fun r w' => r = .returned (.float .f64 (sig true ((tE x ea + 1074).toNat * 4503599627370496 + (x / 2 ^ k + 1)))) ∧ w' = W := fun W => by
                  rw [show (((x / 2 ^ k : Nat) : Int) + 1) = ((x / 2 ^ k + 1 : Nat) : Int) by omega]
                  exact rbuild (by omega) h21 h22 hn2
                have hne : (((x / 2 ^ k : Nat) : Int) + 1 == 9007199254740992) = false := by
                  rw [show (((x / 2 ^ k : Nat) : Int) + 1) = ((x / 2 ^ k + 1 : Nat) : Int) by omega]
                  exact neq53 h53
                exact rto_gen_2t_Phnx1 (ua := ua) (un := dlen x) (uc := uc) (ea := ea) (e2 := tE x ea) (t := (bl x : Int) + ea) (w := w) (hn0 := hn0) (ht := ht') (ht3 := by omega) (he1 := he1) (he2 := he2) (hmx := hmx) (h21 := h21) (h22 := h22) (hge := hge) (ht2 := ht2') (kH := kH) (X := x / 2 ^ k) (F := _) (hX := hX) (hne := hne) (kD1 := k1) (kD2 := kd2P h hc hl hi2 (by omega) hz (decide_eq_false hx)) (hf := hdd) (dd := dg (x / 2 ^ (k - 1)) 0) (kB := kB)
          · have hh2 : x / 2 ^ (k - 1) % 2 = 0 := by omega
            rw [hh2] at hdd
            have hv : n = x / 2 ^ k := by rw [hn]; simp [dnU, hh2]
            rw [hv] at hn1 hn2 ⊢
            exact rto_gen_2t_Plxx0 (ua := ua) (un := dlen x) (uc := uc) (ea := ea) (e2 := tE x ea) (t := (bl x : Int) + ea) (w := w) (hn0 := hn0) (ht := ht') (ht3 := by omega) (he1 := he1) (he2 := he2) (hmx := hmx) (h21 := h21) (h22 := h22) (hge := hge) (ht2 := ht2') (kH := kH) (X := x / 2 ^ k) (F := _) (hX := hX) (hne := neq53 (by omega)) (kD1 := k1) (kD2 := kd2P h hc hl hi2 (by omega) hz rfl) (hf := hdd) (dd := dg (x / 2 ^ (k - 1)) 0) (ex := decide (x % 2 ^ (k - 1) = 0)) (kB := fun W => rbuild hX h21 h22 hn2)
set_option maxHeartbeats 1000000 in
theorem rto_3f {ua : Option Addr} {uc x : Nat} {ea : Int} {w : World} (h : At w ua (dlen x) x) (hc : dlen x ≤ uc) (hodd : x % 2 = 1) (hl : dlen x ≤ 100000) (he1 : -4000000 ≤ ea) (he2 : ea ≤ 4000000) :
    Calls Tryz.prog 84 #[.agg #[.bool false, .slice ua (dlen x) uc, .int .i64 ea], .int .i64 3] w fun r w' => r = .returned (.float .f64 (sig false (bdy x ea 2))) ∧ Below w.heap.size w w' := by
  have h0 : x ≠ 0 := by omega
  have hw : (2 : Nat) = 0 ∨ (2 : Nat) = 1 ∨ (2 : Nat) = 2 := by omega
  have hn0 : ((dlen x : Int) == 0) = false := len_ne (n := 0) h0
  have hbl : bl x ≤ 32 * dlen x := bl_le_dlen x
  have hb1 := bl_ne h0
  have kH : ∀ W, Below w.heap.size w W → Calls Tryz.prog 96 #[.agg #[.bool false, .slice ua (dlen x) uc, .int .i64 ea]] W fun r w' => r = .returned (.int .i64 ((bl x : Int) + ea)) ∧ Below W.heap.size W w' := fun W hW => rhigh (h.later hW) h0 (by omega) ⟨he1, he2⟩
  by_cases ht : 1024 < (bl x : Int) + ea
  · rw [bdy_big h0 ht hw]
    exact rto_big_3f _ _ _ _ _ _ hn0 ht kH
  · have ht' : (bl x : Int) + ea ≤ 1024 := by omega
    have hmx := tE_max x ea
    obtain ⟨h21, h22⟩ := tE_bounds ht'
    by_cases hge : tE x ea ≤ ea
    · obtain ⟨hb, hlt, hg⟩ := bdy_up h0 ht' hge hw
      rw [hb]
      obtain ⟨k, hk⟩ : ∃ k : Nat, k = (ea - tE x ea).toNat := ⟨_, rfl⟩
      have hi : ea - tE x ea = (k : Int) := by omega
      rw [← hk] at hlt hg ⊢
      refine rto_up_3f (ua := ua) (un := dlen x) (uc := uc) (ea := ea) (e2 := tE x ea) (t := (bl x : Int) + ea) (w := w) (F := _) (hn0 := hn0) (ht := ht') (ht3 := by omega) (he1 := he1) (he2 := he2) (hmx := hmx) (h21 := h21) (h22 := h22) (hge := hge) (X := x * 2 ^ k) (hX := hlt) (kH := kH) (kU := fun W hW => ?_) (kB := fun W => rbuild hlt h21 h22 hg)
      rw [hi]
      exact rup ⟨ua, uc, rfl, hc, h.later hW⟩ k (by omega) (by omega)
    · have hlt : ea < tE x ea := by omega
      by_cases ht2 : (bl x : Int) + ea < -1075
      · rw [bdy_tiny h0 ht2 hw, if_pos rfl]
        exact rto_tiny_3f (ua := ua) (un := dlen x) (uc := uc) (ea := ea) (e2 := tE x ea) (t := (bl x : Int) + ea) (w := w) (F := _) (hn0 := hn0) (ht := ht') (ht3 := by omega) (he1 := he1) (he2 := he2) (hmx := hmx) (h21 := h21) (h22 := h22) (hge := hge) (ht2 := ht2) (kH := kH) (kB := fun W => rbuild_0 false 1 (-1074) W (by omega))
      · obtain ⟨k, hk⟩ : ∃ k : Nat, k = (tE x ea - ea).toNat := ⟨_, rfl⟩
        have hk1 : 1 ≤ k := by omega
        have hi : tE x ea - ea = (k : Int) := by omega
        have hi2 : tE x ea - ea - 1 = ((k - 1 : Nat) : Int) := by omega
        have hkb : k ≤ 10000000 := by unfold tE at hk; split at hk <;> omega
        obtain ⟨n, hn⟩ : ∃ n, n = if dnU x (tE x ea - ea).toNat 2 then x / 2 ^ (tE x ea - ea).toNat + 1 else x / 2 ^ (tE x ea - ea).toNat := ⟨_, rfl⟩
        obtain ⟨hn1, hn2, hb, hX⟩ := bdy_dn hodd ht' hlt hw hn
        rw [← hk] at hn hX
        rw [hb]
        have k1 := kd1 h hc hl hi hkb
        have hdd := and1_32 (d := dg (x / 2 ^ (k - 1)) 0) (X := x / 2 ^ (k - 1)) (dg_zero _)
        have hod := and1_64 hX
        have ht2' : -1075 ≤ (bl x : Int) + ea := by omega
        have hv : n = x / 2 ^ k + 1 := by rw [hn]; simp [dnU]
        by_cases hz : x / 2 ^ (k - 1) = 0
        · rw [hv] at hn1 hn2 ⊢
          by_cases h53 : x / 2 ^ k + 1 = 9007199254740992
          · have hXv : x / 2 ^ k = 9007199254740991 := by omega
            rw [hXv] at k1
            by_cases h9 : tE x ea = 971
            · rw [h53, show ((tE x ea + 1074).toNat * 4503599627370496 + 9007199254740992) = 9218868437227405312 by omega]
              exact rto_gen_3f_Zxxx3 (ua := ua) (un := dlen x) (uc := uc) (ea := ea) (e2 := tE x ea) (t := (bl x : Int) + ea) (w := w) (hn0 := hn0) (ht := ht') (ht3 := by omega) (he1 := he1) (he2 := he2) (hmx := hmx) (h21 := h21) (h22 := h22) (hge := hge) (ht2 := ht2') (kH := kH) (hnx := h9) (kD1 := k1) (kD2 := kd2Z h hc hl hi2 (by omega) hz) (ex := decide (x % 2 ^ (k - 1) = 0))
            · rw [h53, show ((tE x ea + 1074).toNat * 4503599627370496 + 9007199254740992) = (tE x ea + 1 + 1074).toNat * 4503599627370496 + 4503599627370496 by omega]
              exact rto_gen_3f_Zxxx2 (ua := ua) (un := dlen x) (uc := uc) (ea := ea) (e2 := tE x ea) (t := (bl x : Int) + ea) (w := w) (hn0 := hn0) (ht := ht') (ht3 := by omega) (he1 := he1) (he2 := he2) (hmx := hmx) (h21 := h21) (h22 := h22) (hge := hge) (ht2 := ht2') (kH := kH) (hnx := by omega) (kD1 := k1) (kD2 := kd2Z h hc hl hi2 (by omega) hz) (ex := decide (x % 2 ^ (k - 1) = 0)) (kB := fun W => rbuild (M := 4503599627370496) (e := tE x ea + 1) (by omega) (by omega) (by omega) (.inr (by omega))) (F := _)
          · have kB : ∀ W, Calls Tryz.prog 113 #[.bool false, .int .u64 (((x / 2 ^ k : Nat) : Int) + 1), .int .i64 (tE x ea)] W fun r w' => r = .returned (.float .f64 (sig false ((tE x ea + 1074).toNat * 4503599627370496 + (x / 2 ^ k + 1)))) ∧ w' = W := fun W => by
              rw [show (((x / 2 ^ k : Nat) : Int) + 1) = ((x / 2 ^ k + 1 : Nat) : Int) by omega]
              exact rbuild (by omega) h21 h22 hn2
            have hne : (((x / 2 ^ k : Nat) : Int) + 1 == 9007199254740992) = false := by
              rw [show (((x / 2 ^ k : Nat) : Int) + 1) = ((x / 2 ^ k + 1 : Nat) : Int) by omega]
              exact neq53 h53
            exact rto_gen_3f_Zxxx1 (ua := ua) (un := dlen x) (uc := uc) (ea := ea) (e2 := tE x ea) (t := (bl x : Int) + ea) (w := w) (hn0 := hn0) (ht := ht') (ht3 := by omega) (he1 := he1) (he2 := he2) (hmx := hmx) (h21 := h21) (h22 := h22) (hge := hge) (ht2 := ht2') (kH := kH) (X := x / 2 ^ k) (F := _) (hX := hX) (hne := hne) (kD1 := k1) (kD2 := kd2Z h hc hl hi2 (by omega) hz) (ex := decide (x % 2 ^ (k - 1) = 0)) (kB := kB)
        · rw [hv] at hn1 hn2 ⊢
          by_cases h53 : x / 2 ^ k + 1 = 9007199254740992
          · have hXv : x / 2 ^ k = 9007199254740991 := by omega
            rw [hXv] at k1
            by_cases h9 : tE x ea = 971
            · rw [h53, show ((tE x ea + 1074).toNat * 4503599627370496 + 9007199254740992) = 9218868437227405312 by omega]
              exact rto_gen_3f_Pxxx3 (ua := ua) (un := dlen x) (uc := uc) (ea := ea) (e2 := tE x ea) (t := (bl x : Int) + ea) (w := w) (hn0 := hn0) (ht := ht') (ht3 := by omega) (he1 := he1) (he2 := he2) (hmx := hmx) (h21 := h21) (h22 := h22) (hge := hge) (ht2 := ht2') (kH := kH) (hnx := h9) (kD1 := k1) (kD2 := kd2P h hc hl hi2 (by omega) hz rfl) (dd := dg (x / 2 ^ (k - 1)) 0) (ex := decide (x % 2 ^ (k - 1) = 0))
            · rw [h53, show ((tE x ea + 1074).toNat * 4503599627370496 + 9007199254740992) = (tE x ea + 1 + 1074).toNat * 4503599627370496 + 4503599627370496 by omega]
              exact rto_gen_3f_Pxxx2 (ua := ua) (un := dlen x) (uc := uc) (ea := ea) (e2 := tE x ea) (t := (bl x : Int) + ea) (w := w) (hn0 := hn0) (ht := ht') (ht3 := by omega) (he1 := he1) (he2 := he2) (hmx := hmx) (h21 := h21) (h22 := h22) (hge := hge) (ht2 := ht2') (kH := kH) (hnx := by omega) (kD1 := k1) (kD2 := kd2P h hc hl hi2 (by omega) hz rfl) (dd := dg (x / 2 ^ (k - 1)) 0) (ex := decide (x % 2 ^ (k - 1) = 0)) (kB := fun W => rbuild (M := 4503599627370496) (e := tE x ea + 1) (by omega) (by omega) (by omega) (.inr (by omega))) (F := _)
          · have kB : ∀ W, Calls Tryz.prog 113 #[.bool false, .int .u64 (((x / 2 ^ k : Nat) : Int) + 1), .int .i64 (tE x ea)] W fun r w' => r = .returned (.float .f64 (sig false ((tE x ea + 1074).toNat * 4503599627370496 + (x / 2 ^ k + 1)))) ∧ w' = W := fun W => by
              rw [show (((x / 2 ^ k : Nat) : Int) + 1) = ((x / 2 ^ k + 1 : Nat) : Int) by omega]
              exact rbuild (by omega) h21 h22 hn2
            have hne : (((x / 2 ^ k : Nat) : Int) + 1 == 9007199254740992) = false := by
              rw [show (((x / 2 ^ k : Nat) : Int) + 1) = ((x / 2 ^ k + 1 : Nat) : Int) by omega]
              exact neq53 h53
            exact rto_gen_3f_Pxxx1 (ua := ua) (un := dlen x) (uc := uc) (ea := ea) (e2 := tE x ea) (t := (bl x : Int) + ea) (w := w) (hn0 := hn0) (ht := ht') (ht3 := by omega) (he1 := he1) (he2 := he2) (hmx := hmx) (h21 := h21) (h22 := h22) (hge := hge) (ht2 := ht2') (kH := kH) (X := x / 2 ^ k) (F := _) (hX := hX) (hne := hne) (kD1 := k1) (kD2 := kd2P h hc hl hi2 (by omega) hz rfl) (dd := dg (x / 2 ^ (k - 1)) 0) (ex := decide (x % 2 ^ (k - 1) = 0)) (kB := kB)
set_option maxHeartbeats 1000000 in
theorem rto_3t {ua : Option Addr} {uc x : Nat} {ea : Int} {w : World} (h : At w ua (dlen x) x) (hc : dlen x ≤ uc) (hodd : x % 2 = 1) (hl : dlen x ≤ 100000) (he1 : -4000000 ≤ ea) (he2 : ea ≤ 4000000) :
    Calls Tryz.prog 84 #[.agg #[.bool true, .slice ua (dlen x) uc, .int .i64 ea], .int .i64 3] w fun r w' => r = .returned (.float .f64 (sig true (bdy x ea 0))) ∧ Below w.heap.size w w' := by
  have h0 : x ≠ 0 := by omega
  have hw : (0 : Nat) = 0 ∨ (0 : Nat) = 1 ∨ (0 : Nat) = 2 := by omega
  have hn0 : ((dlen x : Int) == 0) = false := len_ne (n := 0) h0
  have hbl : bl x ≤ 32 * dlen x := bl_le_dlen x
  have hb1 := bl_ne h0
  have kH : ∀ W, Below w.heap.size w W → Calls Tryz.prog 96 #[.agg #[.bool true, .slice ua (dlen x) uc, .int .i64 ea]] W fun r w' => r = .returned (.int .i64 ((bl x : Int) + ea)) ∧ Below W.heap.size W w' := fun W hW => rhigh (h.later hW) h0 (by omega) ⟨he1, he2⟩
  by_cases ht : 1024 < (bl x : Int) + ea
  · rw [bdy_big h0 ht hw]
    exact rto_big_3t _ _ _ _ _ _ _ hn0 ht kH (fun W => rbuild (M := 9007199254740991) (e := 971) (by omega) (by omega) (by omega) (.inr (by omega)))
  · have ht' : (bl x : Int) + ea ≤ 1024 := by omega
    have hmx := tE_max x ea
    obtain ⟨h21, h22⟩ := tE_bounds ht'
    by_cases hge : tE x ea ≤ ea
    · obtain ⟨hb, hlt, hg⟩ := bdy_up h0 ht' hge hw
      rw [hb]
      obtain ⟨k, hk⟩ : ∃ k : Nat, k = (ea - tE x ea).toNat := ⟨_, rfl⟩
      have hi : ea - tE x ea = (k : Int) := by omega
      rw [← hk] at hlt hg ⊢
      refine rto_up_3t (ua := ua) (un := dlen x) (uc := uc) (ea := ea) (e2 := tE x ea) (t := (bl x : Int) + ea) (w := w) (F := _) (hn0 := hn0) (ht := ht') (ht3 := by omega) (he1 := he1) (he2 := he2) (hmx := hmx) (h21 := h21) (h22 := h22) (hge := hge) (X := x * 2 ^ k) (hX := hlt) (kH := kH) (kU := fun W hW => ?_) (kB := fun W => rbuild hlt h21 h22 hg)
      rw [hi]
      exact rup ⟨ua, uc, rfl, hc, h.later hW⟩ k (by omega) (by omega)
    · have hlt : ea < tE x ea := by omega
      by_cases ht2 : (bl x : Int) + ea < -1075
      · rw [bdy_tiny h0 ht2 hw, if_neg (by decide)]
        exact rto_tiny_3t (ua := ua) (un := dlen x) (uc := uc) (ea := ea) (e2 := tE x ea) (t := (bl x : Int) + ea) (w := w) (F := _) (hn0 := hn0) (ht := ht') (ht3 := by omega) (he1 := he1) (he2 := he2) (hmx := hmx) (h21 := h21) (h22 := h22) (hge := hge) (ht2 := ht2) (kH := kH) (kB := fun W => rbuild_0 true 0 (-1074) W (by omega))
      · obtain ⟨k, hk⟩ : ∃ k : Nat, k = (tE x ea - ea).toNat := ⟨_, rfl⟩
        have hk1 : 1 ≤ k := by omega
        have hi : tE x ea - ea = (k : Int) := by omega
        have hi2 : tE x ea - ea - 1 = ((k - 1 : Nat) : Int) := by omega
        have hkb : k ≤ 10000000 := by unfold tE at hk; split at hk <;> omega
        obtain ⟨n, hn⟩ : ∃ n, n = if dnU x (tE x ea - ea).toNat 0 then x / 2 ^ (tE x ea - ea).toNat + 1 else x / 2 ^ (tE x ea - ea).toNat := ⟨_, rfl⟩
        obtain ⟨hn1, hn2, hb, hX⟩ := bdy_dn hodd ht' hlt hw hn
        rw [← hk] at hn hX
        rw [hb]
        have k1 := kd1 h hc hl hi hkb
        have hdd := and1_32 (d := dg (x / 2 ^ (k - 1)) 0) (X := x / 2 ^ (k - 1)) (dg_zero _)
        have hod := and1_64 hX
        have ht2' : -1075 ≤ (bl x : Int) + ea := by omega
        have hv : n = x / 2 ^ k := by rw [hn]; simp [dnU]
        by_cases hz : x / 2 ^ (k - 1) = 0
        · rw [hv] at hn1 hn2 ⊢
          exact rto_gen_3t_Zxxx0 (ua := ua) (un := dlen x) (uc := uc) (ea := ea) (e2 := tE x ea) (t := (bl x : Int) + ea) (w := w) (hn0 := hn0) (ht := ht') (ht3 := by omega) (he1 := he1) (he2 := he2) (hmx := hmx) (h21 := h21) (h22 := h22) (hge := hge) (ht2 := ht2') (kH := kH) (X := x / 2 ^ k) (F := _) (hX := hX) (hne := neq53 (by omega)) (kD1 := k1) (kD2 := kd2Z h hc hl hi2 (by omega) hz) (ex := decide (x % 2 ^ (k - 1) = 0)) (kB := fun W => rbuild hX h21 h22 hn2)
        · rw [hv] at hn1 hn2 ⊢
          exact rto_gen_3t_Pxxx0 (ua := ua) (un := dlen x) (uc := uc) (ea := ea) (e2 := tE x ea) (t := (bl x : Int) + ea) (w := w) (hn0 := hn0) (ht := ht') (ht3 := by omega) (he1 := he1) (he2 := he2) (hmx := hmx) (h21 := h21) (h22 := h22) (hge := hge) (ht2 := ht2') (kH := kH) (X := x / 2 ^ k) (F := _) (hX := hX) (hne := neq53 (by omega)) (kD1 := k1) (kD2 := kd2P h hc hl hi2 (by omega) hz rfl) (dd := dg (x / 2 ^ (k - 1)) 0) (ex := decide (x % 2 ^ (k - 1) = 0)) (kB := fun W => rbuild hX h21 h22 hn2)
/-- the document's rounding: the body that the program's comes to -/
theorem rto {neg : Bool} {ua : Option Addr} {uc x : Nat} {ea m : Int} {w : World} (h : At w ua (dlen x) x) (hc : dlen x ≤ uc) (hodd : x % 2 = 1) (hl : dlen x ≤ 100000) (he1 : -4000000 ≤ ea) (he2 : ea ≤ 4000000) (hm : 1 ≤ m ∧ m ≤ 3) :
    Calls Tryz.prog 84 #[.agg #[.bool neg, .slice ua (dlen x) uc, .int .i64 ea], .int .i64 m] w fun r w' => r = .returned (.float .f64 (sig neg (bdy x ea (wyN neg m)))) ∧ Below w.heap.size w w' := by
  rcases (show m = 1 ∨ m = 2 ∨ m = 3 by omega) with rfl | rfl | rfl <;> cases neg
  · exact rto_1f h hc hodd hl he1 he2
  · exact rto_1t h hc hodd hl he1 he2
  · exact rto_2f h hc hodd hl he1 he2
  · exact rto_2t h hc hodd hl he1 he2
  · exact rto_3f h hc hodd hl he1 he2
  · exact rto_3t h hc hodd hl he1 he2
end Go.Proofs.YtajeodimbfppiaaGreatDoor

/- The document's mode, Round, Between. -/
namespace Go.Proofs.YtajeodimbfppiaaGreatDoor
set_option linter.unusedVariables false
set_option linter.unusedSimpArgs false
open Go.RowKit Go.Fl64
open Ie

end Go.Proofs.YtajeodimbfppiaaGreatDoor

/- The document's Between. -/
namespace Go.Proofs.YtajeodimbfppiaaGreatDoor
set_option linter.unusedVariables false
set_option linter.unusedSimpArgs false
open Go.RowKit

end Go.Proofs.YtajeodimbfppiaaGreatDoor

/- The document's SqrtTo. -/
namespace Go.Proofs.YtajeodimbfppiaaGreatDoor
set_option linter.unusedVariables false
set_option linter.unusedSimpArgs false
open Go.RowKit

end Go.Proofs.YtajeodimbfppiaaGreatDoor

/- The document's RatioTo. -/
namespace Go.Proofs.YtajeodimbfppiaaGreatDoor
set_option linter.unusedVariables false
set_option linter.unusedSimpArgs false
open Go.RowKit

end Go.Proofs.YtajeodimbfppiaaGreatDoor

/- What is cut off finely enough rounds the same way: the digits below the highest 64 tell only whether there are any. -/
namespace Go.Proofs.YtajeodimbfppiaaGreatDoor
set_option linter.unusedVariables false
set_option linter.unusedSimpArgs false
open Go.RowKit Go.Fl64
open Ie

theorem bl_ge {x n : Nat} : n + 1 ≤ bl x ↔ 2 ^ n ≤ x := by
  have := bl_le x n
  omega
theorem bl_div {x n : Nat} (h : n < bl x) : bl (x / 2 ^ n) = bl x - n := by
  have hx0 : x ≠ 0 := fun e => by rw [e] at h; simp [bl] at h
  have h1 := lt_bl x
  have h2 := le_bl hx0
  have a : bl (x / 2 ^ n) ≤ bl x - n := (bl_le _ _).2 ((Nat.div_lt_iff_lt_mul (Nat.two_pow_pos n)).2 (by rw [← Nat.pow_add, show bl x - n + n = bl x by omega]; exact h1))
  have b : bl x - n - 1 + 1 ≤ bl (x / 2 ^ n) := bl_ge.2 ((Nat.le_div_iff_mul_le (Nat.two_pow_pos n)).2 (by rw [← Nat.pow_add, show bl x - n - 1 + n = bl x - 1 by omega]; exact h2))
  omega
theorem bl_two {x : Nat} (h : x ≠ 0) : bl (2 * x + 1) = bl x + 1 := by
  have h1 := lt_bl x
  have h2 := le_bl h
  have hb := bl_ne h
  have a : bl (2 * x + 1) ≤ bl x + 1 := (bl_le _ _).2 (by rw [Nat.pow_succ]; omega)
  have b : bl x + 1 ≤ bl (2 * x + 1) := bl_ge.2 (by
    have : 2 ^ bl x = 2 * 2 ^ (bl x - 1) := by rw [← Nat.pow_succ']; congr 1; omega
    omega)
  omega
theorem two_div {x t : Nat} (h : 1 ≤ t) : (2 * x + 1) / 2 ^ t = x / 2 ^ (t - 1) := by
  obtain ⟨n, rfl⟩ : ∃ n, t = n + 1 := ⟨t - 1, by omega⟩
  rw [Nat.add_sub_cancel, Nat.pow_succ', ← Nat.div_div_eq_div_mul, show (2 * x + 1) / 2 = x by omega]
/-- one digit more, that is set, says the same as 'not exact' -/
theorem tf_sticky {s : Bool} {x : Nat} {e m : Int} (h : 64 ≤ bl x) : tfF s false x e m = tfF s true (2 * x + 1) (e - 1) m := by
  have hx0 : x ≠ 0 := fun e => by rw [e] at h; simp [bl] at h
  have hb := bl_two hx0
  have hd : tfD (2 * x + 1) = tfD x + 1 := by unfold tfD; omega
  unfold tfF
  have hM : tfM true (2 * x + 1) = tfM false x := by
    unfold tfM
    rw [hd, two_div (by omega), Nat.add_sub_cancel, tz_odd (show (2 * x + 1) % 2 = 1 by omega), decide_eq_true (show 0 < tfD x + 1 by omega)]
    simp
  rw [hM, hd, show e - 1 + ((tfD x + 1 : Nat) : Int) = e + (tfD x : Int) by omega]
/-- what is cut off of more digits than 64: as if it was told alone that something is -/
theorem tf_cut {s : Bool} {Z n : Nat} {E m : Int} (h : 64 ≤ bl (Z / 2 ^ n)) (hr : Z % 2 ^ n ≠ 0) : tfF s true Z E m = tfF s false (Z / 2 ^ n) (E + n) m := by
  have hn : 0 < n := by
    rcases Nat.eq_zero_or_pos n with h0 | h0
    · rw [h0, Nat.pow_zero, Nat.mod_one] at hr; omega
    · exact h0
  have hlt : n < bl Z := Nat.lt_of_not_le fun hle => by
    have : Z / 2 ^ n = 0 := Nat.div_eq_of_lt ((bl_le _ _).1 hle)
    rw [this] at h; simp [bl] at h
  have hb := bl_div hlt
  have hZ0 : Z ≠ 0 := fun e => by rw [e] at hlt; simp [bl] at hlt
  have hd : tfD Z = tfD (Z / 2 ^ n) + n := by unfold tfD; omega
  have hst : tz Z < tfD Z := by
    refine (tz_iff hZ0).2 fun e => hr ?_
    have h1 : 2 ^ n ∣ 2 ^ tfD Z := Nat.pow_dvd_pow 2 (by omega)
    exact Nat.mod_eq_zero_of_dvd (Nat.dvd_trans h1 (Nat.dvd_of_mod_eq_zero e))
  unfold tfF
  have hM : tfM true Z = tfM false (Z / 2 ^ n) := by
    unfold tfM
    rw [decide_eq_true hst, hd, Nat.div_div_eq_div_mul, ← Nat.pow_add, Nat.add_comm n]
    simp
  rw [hM, hd, show E + ((tfD (Z / 2 ^ n) + n : Nat) : Int) = E + (n : Int) + (tfD (Z / 2 ^ n) : Int) by omega]
end Go.Proofs.YtajeodimbfppiaaGreatDoor

/- A quotient rounded: the program's digits and the document's come to the same float. -/
namespace Go.Proofs.YtajeodimbfppiaaGreatDoor
set_option linter.unusedVariables false
set_option linter.unusedSimpArgs false
open Go.RowKit Go.Fl64
open Ie

end Go.Proofs.YtajeodimbfppiaaGreatDoor

/- A root rounded: the program's digits and the document's come to the same float. -/
namespace Go.Proofs.YtajeodimbfppiaaGreatDoor
set_option linter.unusedVariables false
set_option linter.unusedSimpArgs false
open Go.RowKit Go.Fl64
open Ie

theorem four_two (D : Nat) : 2 ^ (2 * D) = 2 ^ D * 2 ^ D := by rw [← Nat.pow_add]; congr 1; omega
end Go.Proofs.YtajeodimbfppiaaGreatDoor

/- The document's numbers between two cuts, rounded. -/
namespace Go.Proofs.YtajeodimbfppiaaGreatDoor
set_option linter.unusedVariables false
set_option linter.unusedSimpArgs false
open Go.RowKit Go.Fl64
open Ie

end Go.Proofs.YtajeodimbfppiaaGreatDoor

/- The document's Add and Sub of finite floats. -/
namespace Go.Proofs.YtajeodimbfppiaaGreatDoor
set_option linter.unusedVariables false
set_option linter.unusedSimpArgs false
open Go.RowKit Go.Fl64

set_option maxHeartbeats 4000000 in
set_option maxRecDepth 200000 in
theorem dR_1 (s : Bool) (ao : Option Addr) (n cap : Nat) (e m sg : Int) (Z F : Nat) (w : World)
    (kS : ∀ W, Below w.heap.size w W → Calls Tryz.prog 64 #[.agg #[.bool s, .slice ao n cap, .int .i64 e]] W fun r w' => r = .returned (.int .i64 sg) ∧ Below W.heap.size W w')
    (kT : (sg == 0) = false → ∀ W, Below w.heap.size w W → Calls Tryz.prog 84 #[.agg #[.bool s, .slice ao n cap, .int .i64 e], .int .i64 m] W fun r w' => r = .returned (.float .f64 F) ∧ Below W.heap.size W w') :
    Calls Tryz.prog 48 #[.agg #[.bool s, .slice ao n cap, .int .i64 e], .int .i64 m, .float .f64 Z] w fun r w' => r = .returned (.float .f64 (if sg == 0 then Z else F)) ∧ Below w.heap.size w w' := by
  obtain ⟨W, hW⟩ : ∃ W, W = w.alloc (.cells #[.bool s, .slice ao n cap, .int .i64 e] 38) := ⟨_, rfl⟩
  have hA : W.heap[w.heap.size]? = some (.cells #[.bool s, .slice ao n cap, .int .i64 e] 38 (0, 0)) := by rw [hW]; exact heap_alloc_new _ _
  have HX : Hid (Below w.heap.size w W ∧ W.heap[w.heap.size]? = some (.cells #[.bool s, .slice ao n cap, .int .i64 e] 38 (0, 0))) := ⟨by rw [hW]; exact (Below.refl _ _).alloc (Nat.le_refl _) _, hA⟩
  obtain ⟨⟨a0, a1, a2⟩, -⟩ := box_cells29 hA
  have k1 := kS W HX.out.1
  have HT : Hid ((sg == 0) = false → ∀ W, Below w.heap.size w W → Calls Tryz.prog 84 #[.agg #[.bool s, .slice ao n cap, .int .i64 e], .int .i64 m] W fun r w' => r = .returned (.float .f64 F) ∧ Below W.heap.size W w') := kT
  clear kS kT hA
  rw [hW] at a0 a1 a2
  cases hs : (sg == 0)
  · have kt := HT.out hs
    have HT2 : Hid (∀ W, Below w.heap.size w W → Calls Tryz.prog 84 #[.agg #[.bool s, .slice ao n cap, .int .i64 e], .int .i64 m] W fun r w' => r = .returned (.float .f64 F) ∧ Below W.heap.size W w') := kt
    clear HT kt
    go_enter Tryz.func48, Tryz.ntmps48
    go_wp2_with fail
    rw [← hW]
    clear hW a0 a1 a2
    refine k1.mono ?_
    rintro r w1 ⟨rfl, hb1⟩
    have HB1 : Hid (Below w.heap.size w w1) := HX.out.1.trans (hb1.mono HX.out.1.size)
    obtain ⟨⟨a0, a1, a2⟩, -⟩ := box_cells29 (box_later HX.out.2 hb1 (lt_of_box HX.out.2))
    have k2 := HT2.out w1 HB1.out
    clear k1 hb1
    go_wp2_with fail
    refine k2.mono ?_
    rintro r w2 ⟨rfl, hb2⟩
    have HB2 : Hid (Below w.heap.size w w2) := HB1.out.trans (hb2.mono HB1.out.size)
    clear k2 hb2 a0 a1 a2
    go_wp2_with fail
    go_ret
    exact ⟨rfl, HB2.out⟩
  · go_enter Tryz.func48, Tryz.ntmps48
    go_wp2_with fail
    rw [← hW]
    clear hW a0 a1 a2
    refine k1.mono ?_
    rintro r w1 ⟨rfl, hb1⟩
    have HB1 : Hid (Below w.heap.size w w1) := HX.out.1.trans (hb1.mono HX.out.1.size)
    clear k1 hb1
    go_wp2_with fail
    go_ret
    exact ⟨rfl, HB1.out⟩

/-- R of a number in its one form -/
theorem dR {t : Bool × Nat × Int} {A : Value} {m : Int} {Z : Nat} {w : World} (h : DN w A t) (ho : t.2.1 ≠ 0 → t.2.1 % 2 = 1) (hl : dlen t.2.1 ≤ 30000) (he1 : -2000000 ≤ t.2.2) (he2 : t.2.2 ≤ 2000000) (hm : 1 ≤ m ∧ m ≤ 3) :
    Calls Tryz.prog 48 #[A, .int .i64 m, .float .f64 Z] w fun r w' => r = .returned (.float .f64 (if t.2.1 = 0 then Z else tfF t.1 true t.2.1 t.2.2 m)) ∧ Below w.heap.size w w' := by
  obtain ⟨ao, cap, rfl, hA⟩ := h
  have k := dR_1 t.1 ao (dlen t.2.1) cap t.2.2 m (if dlen t.2.1 = 0 then 0 else if t.1 then -1 else 1) Z (tfF t.1 true t.2.1 t.2.2 m) w (fun W hW => rsgn (by omega)) (fun hs W hW => by
    have h0 : t.2.1 ≠ 0 := by
      intro e
      rw [if_pos (dlen_eq_zero.2 e)] at hs
      simp at hs
    rw [tf_bdy hm]
    exact rto ((hA.later hW).at_) hA.le (ho h0) (by omega) (by omega) (by omega) hm)
  refine k.mono ?_
  rintro r w' ⟨rfl, hb⟩
  refine ⟨?_, hb⟩
  by_cases h0 : t.2.1 = 0
  · rw [if_pos h0, if_pos (dlen_eq_zero.2 h0)]; rfl
  · rw [if_neg h0, if_neg (fun e => h0 (dlen_eq_zero.1 e))]
    cases t.1 <;> rfl

set_option maxHeartbeats 4000000 in
set_option maxRecDepth 200000 in
theorem dadd_fin (a b F : Nat) (m : Int) (ta tb t3 : Bool × Nat × Int) (w : World) (hm : isM m = true) (ha : a < 18446744073709551616) (hb : b < 18446744073709551616)
    (hfa : mag a < 9218868437227405312) (hfb : mag b < 9218868437227405312)
    (kA : Calls Tryz.prog 28 #[.float .f64 a] w fun r w' => ∃ A, r = .returned A ∧ DN w' A ta ∧ Below w.heap.size w w')
    (kB : ∀ W, Below w.heap.size w W → Calls Tryz.prog 28 #[.float .f64 b] W fun r w' => ∃ A, r = .returned A ∧ DN w' A tb ∧ Below W.heap.size W w')
    (kC : ∀ W X Y, Below w.heap.size w W → DN W X ta → DN W Y tb → Calls Tryz.prog 30 #[X, Y] W fun r w' => ∃ A, r = .returned A ∧ DN w' A t3 ∧ Below W.heap.size W w')
    (kR : ∀ W X, Below w.heap.size w W → DN W X t3 → Calls Tryz.prog 48 #[X, .int .i64 m, .float .f64 (sig (z0 (neg a) (neg b) m) 0)] W fun r w' => r = .returned (.float .f64 F) ∧ Below W.heap.size W w') :
    Calls Tryz.prog 11 #[.float .f64 a, .float .f64 b, .int .i64 m] w fun r w' => r = .returned (.float .f64 F) ∧ Below w.heap.size w w' := by
  have kV : ∀ W, Calls Tryz.prog 15 #[.int .i64 m] W fun r w' => r = .returned (.int .i64 0) ∧ w' = W := fun W => by
    have := dvalid m W
    rw [hm] at this
    exact this
  have kna := Ie.dnan a ha
  have knb := Ie.dnan b hb
  have kia := Ie.dinf a ha
  have kib := Ie.dinf b hb
  rw [show isNaN a = false by unfold isNaN; simp; omega] at kna
  rw [show isNaN b = false by unfold isNaN; simp; omega] at knb
  rw [Ie.isInf_not.2 (by omega)] at kia
  rw [Ie.isInf_not.2 (by omega)] at kib
  have HS : Hid ((∀ W, Calls Tryz.prog 50 #[.float .f64 a] W fun r w' => r = .returned (.bool (neg a)) ∧ w' = W) ∧ (∀ W, Calls Tryz.prog 50 #[.float .f64 b] W fun r w' => r = .returned (.bool (neg b)) ∧ w' = W)) := ⟨dsign a ha, dsign b hb⟩
  have HKB : Hid (∀ W, Below w.heap.size w W → Calls Tryz.prog 28 #[.float .f64 b] W fun r w' => ∃ A, r = .returned A ∧ DN w' A tb ∧ Below W.heap.size W w') := kB
  have HKC : Hid (∀ W X Y, Below w.heap.size w W → DN W X ta → DN W Y tb → Calls Tryz.prog 30 #[X, Y] W fun r w' => ∃ A, r = .returned A ∧ DN w' A t3 ∧ Below W.heap.size W w') := kC
  have HKR : Hid (∀ W X, Below w.heap.size w W → DN W X t3 → Calls Tryz.prog 48 #[X, .int .i64 m, .float .f64 (sig (z0 (neg a) (neg b) m) 0)] W fun r w' => r = .returned (.float .f64 F) ∧ Below W.heap.size W w') := kR
  clear ha hb kB kC kR hfa hfb
  go_enter Tryz.func11, Tryz.ntmps11
  go_wp2_with (first | (go_at_call 15; refine (kV _).mono ?_; rintro e w' ⟨rfl, hw⟩; rw [hw]; clear hw w') | (go_at_call 35; first | (refine (kna _).mono ?_; rintro e w' ⟨rfl, hw⟩; rw [hw]; clear hw w') | (refine (knb _).mono ?_; rintro e w' ⟨rfl, hw⟩; rw [hw]; clear hw w')) | (go_at_call 36; first | (refine (kia _).mono ?_; rintro e w' ⟨rfl, hw⟩; rw [hw]; clear hw w') | (refine (kib _).mono ?_; rintro e w' ⟨rfl, hw⟩; rw [hw]; clear hw w')))
  clear kna knb kia kib kV
  refine kA.mono ?_
  rintro r w1 ⟨A1, rfl, hP1, hb1⟩
  have k2 := HKB.out w1 hb1
  clear kA
  go_wp2_with fail
  refine k2.mono ?_
  rintro r w2 ⟨A2, rfl, hP2, hb2⟩
  have HB2 : Hid (Below w.heap.size w w2) := hb1.trans (hb2.mono hb1.size)
  have k3 := HKC.out w2 _ _ HB2.out (hP1.later hb2) hP2
  clear k2 hP1 hP2 hb1 hb2
  go_wp2_with fail
  refine k3.mono ?_
  rintro r w3 ⟨A3, rfl, hP3, hb3⟩
  have HB3 : Hid (Below w.heap.size w w3) := HB2.out.trans (hb3.mono HB2.out.size)
  have k4 := HKR.out w3 _ HB3.out hP3
  have ks1 := HS.out.1 w3
  have ks2 := HS.out.2 w3
  have k5 := dsum0 (neg a) (neg b) m w3
  clear k3 hP3 hb3
  go_wp2_with fail
  refine ks1.mono ?_
  rintro r w6 ⟨rfl, hw⟩
  rw [hw]
  clear hw ks1
  go_wp2_with fail
  refine ks2.mono ?_
  rintro r w6 ⟨rfl, hw⟩
  rw [hw]
  clear hw ks2
  go_wp2_with fail
  refine k5.mono ?_
  rintro r w6 ⟨rfl, hw⟩
  rw [hw]
  clear hw k5
  go_wp2_with fail
  refine k4.mono ?_
  rintro r w6 ⟨rfl, hb6⟩
  have HB6 : Hid (Below w.heap.size w w6) := HB3.out.trans (hb6.mono HB3.out.size)
  clear k4 hb6
  go_wp2_with fail
  go_ret
  exact ⟨rfl, HB6.out⟩
end Go.Proofs.YtajeodimbfppiaaGreatDoor

/- Add and Sub of floats: the program and the document answer alike. -/
namespace Go.Proofs.YtajeodimbfppiaaGreatDoor
set_option linter.unusedVariables false
set_option linter.unusedSimpArgs false
open Go.RowKit Go.Fl64

theorem tF_fits (a : Nat) : Fits (-1074) 1025 (tF a).2.1 (tF a).2.2 := by
  refine Fits.cn (.inr ⟨(Ie.lp_bound a).1, by have := (Ie.lp_bound a).2; omega, ?_⟩)
  have h := Ie.mant_bound a
  have h2 := (Ie.lp_bound a).2
  have : 2 ^ 53 ≤ 2 ^ (1025 - Ie.lp a).toNat := Nat.pow_le_pow_right (by decide) (by omega)
  omega
theorem tF_ok (a : Nat) : Ok (tF a) := by
  refine ok_cn (Fits.ok (lo := -1074) (hi := 1025) (.inr ⟨(Ie.lp_bound a).1, by have := (Ie.lp_bound a).2; omega, ?_⟩) (by omega) (by omega) (by omega))
  have h := Ie.mant_bound a
  have h2 := (Ie.lp_bound a).2
  have : 2 ^ 53 ≤ 2 ^ (1025 - Ie.lp a).toNat := Nat.pow_le_pow_right (by decide) (by omega)
  omega
theorem cn_parts (a m : Nat) (ha : a < 18446744073709551616) (hf : mag a < 9218868437227405312) (hm : Ie.sM a = (m : Int)) : cn (neg a) m (Ie.sE a) = tF a := by
  unfold tF cn
  rcases of_parts a m ha hf hm with ⟨h1, h2⟩ | ⟨h1, h2, -, h3, h4⟩
  · rw [if_pos h1, if_pos h2]
  · rw [if_neg h1, if_neg h2, h3, h4]
theorem exact_ok (a : Nat) (ha : a < 18446744073709551616) (hf : mag a < 9218868437227405312) (w : World) (hT : Tab32 w) (hI : Ie.Tab w) : Calls Tryz.prog 41 #[.float .f64 a] w fun r w' => OutA w (tF a) r w' := by
  obtain ⟨m, hm, hml⟩ := sM_lt a ha
  refine exact_1 a (tF a) w fun W hW => (of_fin a m ha W (hT.later hW) (Tab.later hI hW) hf hm).mono ?_
  rintro r w' ⟨A, rfl, hN, hb⟩
  have hp := hN.pn
  rw [cn_parts a m ha hf hm] at hp
  obtain ⟨s, ao, n, cap, e, rfl⟩ := hp.shape
  exact ⟨s, ao, n, cap, e, rfl, hp, hb⟩

/-- the sum of two numbers, in its one form -/
def tS (t1 t2 : Bool × Nat × Int) : Bool × Nat × Int := cn (sumN t1.1 t1.2.1 t1.2.2 t2.1 t2.2.1 t2.2.2).1 (sumN t1.1 t1.2.1 t1.2.2 t2.1 t2.2.1 t2.2.2).2.1 (sumN t1.1 t1.2.1 t1.2.2 t2.1 t2.2.1 t2.2.2).2.2
theorem tS_fits {lo hi : Int} {t1 t2 : Bool × Nat × Int} (h1 : Fits lo hi t1.2.1 t1.2.2) (h2 : Fits lo hi t2.2.1 t2.2.2) : Fits lo (hi + 1) (tS t1 t2).2.1 (tS t1 t2).2.2 := Fits.cn (Fits.sum h1 h2)
theorem tS_okR {lo hi : Int} {t1 t2 : Bool × Nat × Int} (h1 : Fits lo hi t1.2.1 t1.2.2) (h2 : Fits lo hi t2.2.1 t2.2.2) (hb : hi + 1 - lo ≤ 65536) (hlo : -65536 ≤ lo) (hhi : hi + 1 ≤ 65536) : okR (sumN t1.1 t1.2.1 t1.2.2 t2.1 t2.2.1 t2.2.2).1 (sumN t1.1 t1.2.1 t1.2.2 t2.1 t2.2.1 t2.2.2).2.1 (sumN t1.1 t1.2.1 t1.2.2 t2.1 t2.2.1 t2.2.2).2.2 = true := (Fits.sum h1 h2).ok hb hlo hhi
theorem plus_dn {t1 t2 : Bool × Nat × Int} {X Y : Value} {w : World} (o1 : Ok t1) (o2 : Ok t2) (h1 : DN w X t1) (h2 : DN w Y t2) : Calls Tryz.prog 30 #[X, Y] w fun r w' => ∃ A, r = .returned A ∧ DN w' A (tS t1 t2) ∧ Below w.heap.size w w' := by
  obtain ⟨ao, cap, rfl, a1⟩ := h1
  obtain ⟨ao', cap', rfl, a2⟩ := h2
  obtain ⟨f1, f2, f3, -, -⟩ := o1.facts
  obtain ⟨g1, g2, g3, -, -⟩ := o2.facts
  exact (rplusG a1 a2 (cn_ok o1) (cn_ok o2) (by omega) (by omega) (by omega) (by omega) (by omega) (by omega)).mono fun r w' ⟨A, e, h, hb⟩ => ⟨A, e, h.dn, hb⟩
theorem psign {t : Bool × Nat × Int} {A : Value} {w : World} (ok : Ok t) (h : PN w A t) : Calls Tryz.prog 42 #[A] w fun r w' => r = .returned (.int .i64 (sgI t.1 (dlen t.2.1))) ∧ Below w.heap.size w w' := by
  obtain ⟨ao, cap, rfl, h1⟩ := h
  obtain ⟨f1, -, -, -, -⟩ := ok.facts
  exact sign_ok h1 (by omega) ok
theorem sgI_nought {s : Bool} {x : Nat} : (sgI s (dlen x) == 0) = decide (x = 0) := by
  unfold sgI
  by_cases h : x = 0
  · rw [if_pos (dlen_eq_zero.2 h), decide_eq_true h]; rfl
  · rw [if_neg (fun e => h (dlen_eq_zero.1 e)), decide_eq_false h]; cases s <;> rfl
theorem sig_lt {s : Bool} {n : Nat} (h : n ≤ 9218868437227405312) : sig s n < 18446744073709551616 := by
  unfold sig; cases s <;> simp <;> omega
theorem tfF_lt {s : Bool} {x : Nat} {e m : Int} (hm : 1 ≤ m ∧ m ≤ 3) : tfF s true x e m < 18446744073709551616 := by
  rw [tf_bdy hm]; exact sig_lt (bdy_le _ _ _)
theorem fin_false {a : Nat} : fin a = false ↔ ¬ mag a < 9218868437227405312 := by unfold fin; simp
theorem addX_lt {a b : Nat} (ha : a < 18446744073709551616) (hb : b < 18446744073709551616) : addX a b < 18446744073709551616 := by
  unfold addX
  repeat' split
  all_goals first | exact ha | exact hb | decide

/-- what a call of floats answers, alike X -/
def OutF2 (W : World) (X : Nat) (r : Ending) (w' : World) : Prop := ∃ n, r = .returned (.float .f64 n) ∧ lk n X ∧ Below W.heap.size W w'
/-- the document's answer X -/
def OutD (W : World) (X : Nat) (r : Ending) (w' : World) : Prop := r = .returned (.float .f64 X) ∧ Below W.heap.size W w'

theorem join_FAdd (a b : Nat) (m : Int) (ha : a < 18446744073709551616) (hb : b < 18446744073709551616) :
    ∃ X, X < 18446744073709551616 ∧ ((isM m = false ∨ isNaN a = true ∨ isNaN b = true) → X = 9221120237041090560) ∧
      (∀ W, Tab32 W → Ie.Tab W → Calls Tryz.prog 10 #[.float .f64 a, .float .f64 b, .int .i64 m] W fun r w' => OutF2 W X r w') ∧
      (∀ W, Calls Tryz.prog 11 #[.float .f64 a, .float .f64 b, .int .i64 m] W fun r w' => OutD W X r w') ∧
      (isM m = true → mag a < 9218868437227405312 → mag b < 9218868437227405312 → X = if (tS (tF a) (tF b)).2.1 = 0 then sig (z0 (neg a) (neg b) m) 0 else tfF (tS (tF a) (tF b)).1 true (tS (tF a) (tF b)).2.1 (tS (tF a) (tF b)).2.2 m) := by
  cases hm : isM m
  · refine ⟨9221120237041090560, by decide, fun _ => rfl, fun W _ _ => ?_, fun W => ?_, fun h => (by cases h)⟩
    · refine (padd_no a b m W hm).mono ?_
      rintro r w' ⟨rfl, hb⟩
      exact ⟨_, rfl, lk.nan (by decide) (by decide) (by decide), hb⟩
    · refine (dadd_no a b m hm W).mono ?_
      rintro r w' ⟨rfl, hw⟩
      exact ⟨rfl, hw ▸ Below.refl _ _⟩
  · have hm' := isM_iff.1 hm
    by_cases hf : fin a = false ∨ fin b = false
    · refine ⟨addX a b, addX_lt ha hb, fun h => ?_, fun W _ _ => ?_, fun W => ?_, fun _ h1 h2 => ?_⟩
      · unfold addX
        rcases h with h | h | h
        · cases h
        · rw [h, Bool.true_or, if_pos rfl]
        · rw [h, Bool.or_true, if_pos rfl]
      · have hrun : (∀ W, (binOp .add 22 (.float .f64 a) (.float .f64 b)).run Tryz.prog W = .ok (.float .f64 (addX a b)) W) ∨ ∀ W, ∃ n, lk n (addX a b) ∧ (binOp .add 22 (.float .f64 a) (.float .f64 b)).run Tryz.prog W = .ok (.float .f64 n) W.drew := by
          rcases add_non ha hb hf with ⟨h1, h2⟩ | h1
          · refine .inr fun W => ?_
            obtain ⟨n, n1, n2, hs⟩ := run_nan (P := Tryz.prog) W .add 22 a b (by simp) h1
            exact ⟨n, lk.nan n1 n2 h2, hs⟩
          · exact .inl fun W => run_float_arith W .add 22 .f64 a b _ h1
        by_cases hfa : mag a < 9218868437227405312
        · have hfb : ¬ mag b < 9218868437227405312 := by
            rcases hf with h | h
            · exact absurd hfa (fin_false.1 h)
            · exact fin_false.1 h
          exact padd_b a b (addX a b) m W hm (pfin_y a ha hfa) (pfin_n b hb hfb) hrun (addX_lt ha hb)
        · exact padd_a a b (addX a b) m W hm (pfin_n a ha hfa) hrun (addX_lt ha hb)
      · refine (dadd_non a b m ha hb hm hf W).mono ?_
        rintro r w' ⟨rfl, hw⟩
        exact ⟨rfl, hw ▸ Below.refl _ _⟩
      · rcases hf with h | h
        · exact absurd h1 (fin_false.1 h)
        · exact absurd h2 (fin_false.1 h)
    · have hfa : mag a < 9218868437227405312 := Nat.lt_of_not_le fun h => hf (.inl (fin_false.2 (by omega)))
      have hfb : mag b < 9218868437227405312 := Nat.lt_of_not_le fun h => hf (.inr (fin_false.2 (by omega)))
      have hfs := tS_fits (tF_fits a) (tF_fits b)
      have hokR := tS_okR (tF_fits a) (tF_fits b) (by omega) (by omega) (by omega)
      have hok : Ok (tS (tF a) (tF b)) := ok_cn hokR
      obtain ⟨f1, f2, f3, f4, f5⟩ := hok.facts
      have hadd := add_op (tF_ok a) (tF_ok b) hokR
      refine ⟨if (tS (tF a) (tF b)).2.1 = 0 then sig (z0 (neg a) (neg b) m) 0 else tfF (tS (tF a) (tF b)).1 true (tS (tF a) (tF b)).2.1 (tS (tF a) (tF b)).2.2 m, ?_, fun h => (by unfold isNaN at h; simp only [decide_eq_true_eq] at h; rcases h with h | h | h; cases h; omega; omega), fun W hT hI => ?_, fun W => ?_, fun _ _ _ => rfl⟩
      · split
        · exact sig_lt (by omega)
        · exact tfF_lt hm'
      · by_cases h0 : (tS (tF a) (tF b)).2.1 = 0
        · rw [if_pos h0]
          refine (padd_z a b _ m _ (tF a) (tF b) (tS (tF a) (tF b)) W hm ha hb (pfin_y a ha hfa) (pfin_y b hb hfb) (exact_ok a ha hfa W hT hI) (fun W' h => exact_ok b hb hfb W' (hT.later h) (Tab.later hI h)) (fun W' X Y h h1 h2 => added_op hadd (hT.later h) h1 h2) (fun W' X h => psign hok h) (by rw [sgI_nought, decide_eq_true h0]) (fun W' => pnought _ _ m hm' W')).mono ?_
          rintro r w' ⟨rfl, hb'⟩
          exact ⟨_, rfl, lk.refl (sig_lt (by omega)), hb'⟩
        · rw [if_neg h0]
          refine (padd_r a b _ m _ (tF a) (tF b) (tS (tF a) (tF b)) W hm ha hb (pfin_y a ha hfa) (pfin_y b hb hfb) (exact_ok a ha hfa W hT hI) (fun W' h => exact_ok b hb hfb W' (hT.later h) (Tab.later hI h)) (fun W' X Y h h1 h2 => added_op hadd (hT.later h) h1 h2) (fun W' X h => psign hok h) (by rw [sgI_nought, decide_eq_false h0]) (fun W' X h h1 => prounded (hT.later h) hok h1 hm')).mono ?_
          rintro r w' ⟨rfl, hb'⟩
          exact ⟨_, rfl, lk.refl (tfF_lt hm'), hb'⟩
      · exact dadd_fin a b _ m (tF a) (tF b) (tS (tF a) (tF b)) W hm ha hb hfa hfb (float_dn a ha W) (fun W' h => float_dn b hb W') (fun W' X Y h h1 h2 => plus_dn (tF_ok a) (tF_ok b) h1 h2) (fun W' X h h1 => dR h1 f5 (by omega) (by omega) (by omega) hm')
end Go.Proofs.YtajeodimbfppiaaGreatDoor

/- The program's Div of floats where something is to be rounded. -/
namespace Go.Proofs.YtajeodimbfppiaaGreatDoor
set_option linter.unusedVariables false
set_option linter.unusedSimpArgs false
open Go.RowKit Go.Fl64

/-- how many digits are laid behind the dividend -/
def rtK (t1 t2 : Bool × Nat × Int) : Nat := (max 0 (64 + (bl t2.2.1 : Int) - (bl t1.2.1 : Int))).toNat
/-- the quotient, rounded -/
def rtF (t1 t2 : Bool × Nat × Int) (m : Int) : Nat := tfF (t1.1 != t2.1) (decide (t1.2.1 * 2 ^ rtK t1 t2 % t2.2.1 = 0)) (t1.2.1 * 2 ^ rtK t1 t2 / t2.2.1) (t1.2.2 - t2.2.2 - rtK t1 t2) m
theorem pratio {t1 t2 : Bool × Nat × Int} {X Y : Value} {m : Int} {w : World} (hT : Tab32 w) (o1 : Ok t1) (o2 : Ok t2) (h1 : PN w X t1) (h2 : PN w Y t2) (x0 : t1.2.1 ≠ 0) (y0 : t2.2.1 ≠ 0) (hm : 1 ≤ m ∧ m ≤ 3) :
    Calls Tryz.prog 58 #[X, Y, .int .i64 m] w fun r w' => r = .returned (.tuple #[.float .f64 (rtF t1 t2 m), .int .i64 0]) ∧ Below w.heap.size w w' := by
  obtain ⟨pa, pc, rfl, i1⟩ := h1
  obtain ⟨qa, qc, rfl, i2⟩ := h2
  have f1 := o1.facts
  have f2 := o2.facts
  have bx := bl_le_dlen t1.2.1
  have by' := bl_le_dlen t2.2.1
  have hn0 : ((dlen t1.2.1 : Int) == 0) = false := by
    have : dlen t1.2.1 ≠ 0 := fun e => x0 (dlen_eq_zero.1 e)
    simp; omega
  have hn1 : ((dlen t2.2.1 : Int) == 0) = false := by
    have : dlen t2.2.1 ≠ 0 := fun e => y0 (dlen_eq_zero.1 e)
    simp; omega
  have hk : max 0 (64 + (bl t2.2.1 : Int) - (bl t1.2.1 : Int)) = (rtK t1 t2 : Int) := by unfold rtK; omega
  refine pratio_1 t1.1 t2.1 pa qa _ pc _ qc _ _ (rtK t1 t2) (bl t1.2.1) (bl t2.2.1) t1.2.2 t2.2.2 m (t1.1 != t2.1) w (rfl : (!(t1.1 == t2.1)) = (t1.1 != t2.1)) hT i1 i2 (by omega) (by omega) y0 (by omega) (by omega) (by omega) (by omega) (by omega) rfl rfl (by omega) (by omega) hk (by omega) hn0 hn1 (fun W' g hW' hg => ?_)
  have := maybe2 hg (i1.later hW') (i2.later hW') (by omega) (by omega)
  rw [show okN t1.1 (dlen t1.2.1) t1.2.1 t1.2.2 = true from o1, show okN t2.1 (dlen t2.2.1) t2.2.1 t2.2.2 = true from o2] at this
  exact this

theorem ne_nought {a : Nat} (ha : a < 18446744073709551616) (hf : mag a < 9218868437227405312) : (FloatKind.f64.format.order a 0 != some Ordering.eq) = decide (mag a ≠ 0) := by
  rw [bne, ord_eq a 0 ha (by decide)]
  have na : isNaN a = false := by unfold isNaN; simp; omega
  have nb : isNaN 0 = false := by decide
  unfold Fl64.eq
  rw [na, nb]
  have e0 : stp 0 = 0 := by decide
  rw [e0]
  by_cases h : mag a = 0
  · have : stp a = 0 := by unfold stp sgn; rw [h]; simp
    simp [this, h]
  · have : stp a ≠ 0 := by unfold stp sgn; split <;> omega
    simp [this, h]
theorem pplain_y (a : Nat) (ha : a < 18446744073709551616) (hf : mag a < 9218868437227405312) (h0 : mag a ≠ 0) (w : World) : Calls Tryz.prog 53 #[.float .f64 a] w fun r w' => r = .returned (.bool true) ∧ w' = w := by
  have k := pfin_y a ha hf
  have he := ne_nought ha hf
  rw [decide_eq_true h0] at he
  clear ha hf h0
  go_enter Tryz.func53, Tryz.ntmps53
  go_wp2_with (go_at_call 39; refine (k _).mono ?_; rintro e w' ⟨rfl, rfl⟩)
  go_ret
  exact ⟨rfl, rfl⟩
set_option maxHeartbeats 4000000 in
set_option maxRecDepth 200000 in
theorem pdiv_r (a b F : Nat) (m : Int) (ta tb : Bool × Nat × Int) (w : World) (hm : isM m = true)
    (hfa : ∀ W, Calls Tryz.prog 53 #[.float .f64 a] W fun r w' => r = .returned (.bool true) ∧ w' = W)
    (hfb : ∀ W, Calls Tryz.prog 53 #[.float .f64 b] W fun r w' => r = .returned (.bool true) ∧ w' = W)
    (kA : Calls Tryz.prog 41 #[.float .f64 a] w fun r w' => OutA w ta r w')
    (kB : ∀ W, Below w.heap.size w W → Calls Tryz.prog 41 #[.float .f64 b] W fun r w' => OutA W tb r w')
    (kC : ∀ W X Y, Below w.heap.size w W → PN W X ta → PN W Y tb → Calls Tryz.prog 58 #[X, Y, .int .i64 m] W fun r w' => r = .returned (.tuple #[.float .f64 F, .int .i64 0]) ∧ Below W.heap.size W w') :
    Calls Tryz.prog 19 #[.float .f64 a, .float .f64 b, .int .i64 m] w fun r w' => r = .returned (.float .f64 F) ∧ Below w.heap.size w w' := by
  have kV := pvalid m w
  rw [hm] at kV
  have HKB : Hid (∀ W, Below w.heap.size w W → Calls Tryz.prog 41 #[.float .f64 b] W fun r w' => OutA W tb r w') := kB
  have HKC : Hid (∀ W X Y, Below w.heap.size w W → PN W X ta → PN W Y tb → Calls Tryz.prog 58 #[X, Y, .int .i64 m] W fun r w' => r = .returned (.tuple #[.float .f64 F, .int .i64 0]) ∧ Below W.heap.size W w') := kC
  clear kB kC
  go_enter Tryz.func19, Tryz.ntmps19
  go_wp2_with fail
  refine kV.mono ?_
  rintro r w' ⟨rfl, hw⟩
  rw [hw]
  clear hw kV
  have kN := hfa w
  go_wp2_with fail
  refine kN.mono ?_
  rintro r w' ⟨rfl, hw⟩
  rw [hw]
  clear hw kN hfa
  have kN := hfb w
  go_wp2_with fail
  refine kN.mono ?_
  rintro r w' ⟨rfl, hw⟩
  rw [hw]
  clear hw kN hfb
  go_wp2_with fail
  refine kA.mono ?_
  rintro r w1 ⟨s1, ao1, n1, cap1, ex1, rfl, hP1, hb1⟩
  have k2 := HKB.out w1 hb1
  clear kA
  go_wp2_with fail
  refine k2.mono ?_
  rintro r w2 ⟨s2, ao2, n2, cap2, ex2, rfl, hP2, hb2⟩
  have HB2 : Hid (Below w.heap.size w w2) := hb1.trans (hb2.mono hb1.size)
  have k3 := HKC.out w2 _ _ HB2.out (hP1.later hb2) hP2
  clear k2 hP1 hP2 hb1 hb2
  go_wp2_with fail
  refine k3.mono ?_
  rintro r w3 ⟨rfl, hb3⟩
  have HB3 : Hid (Below w.heap.size w w3) := HB2.out.trans (hb3.mono HB2.out.size)
  clear k3 hb3
  go_wp2_with fail
  go_ret
  exact ⟨rfl, HB3.out⟩

/-- Div of two floats that are finite and not nought -/
theorem pdiv_ok (a b : Nat) (m : Int) (w : World) (hm : isM m = true) (hT : Tab32 w) (hI : Ie.Tab w) (ha : a < 18446744073709551616) (hb : b < 18446744073709551616) (hfa : mag a < 9218868437227405312) (hfb : mag b < 9218868437227405312) (ha0 : mag a ≠ 0) (hb0 : mag b ≠ 0) (xa : (tF a).2.1 ≠ 0) (xb : (tF b).2.1 ≠ 0) :
    Calls Tryz.prog 19 #[.float .f64 a, .float .f64 b, .int .i64 m] w fun r w' => r = .returned (.float .f64 (rtF (tF a) (tF b) m)) ∧ Below w.heap.size w w' :=
  pdiv_r a b _ m (tF a) (tF b) w hm (pplain_y a ha hfa ha0) (pplain_y b hb hfb hb0) (exact_ok a ha hfa w hT hI) (fun W h => exact_ok b hb hfb W (hT.later h) (Tab.later hI h)) (fun W X Y h h1 h2 => pratio (hT.later h) (tF_ok a) (tF_ok b) h1 h2 xa xb (isM_iff.1 hm))
theorem tF_ne {a : Nat} (h : mag a ≠ 0) : (tF a).2.1 ≠ 0 := by
  have h1 := Ie.mant_ne h
  unfold tF cn
  rw [if_neg h1]
  intro e
  have := (tz_spec _ _ (Nat.le_refl _) h1).2
  simp only at e
  rw [e] at this
  simp at this
theorem sure_add : (if (tS (tF 4607182418800017408) (tF 4611686018427387904)).2.1 = 0 then sig (z0 (neg 4607182418800017408) (neg 4611686018427387904) 2) 0 else tfF (tS (tF 4607182418800017408) (tF 4611686018427387904)).1 true (tS (tF 4607182418800017408) (tF 4611686018427387904)).2.1 (tS (tF 4607182418800017408) (tF 4611686018427387904)).2.2 2) = 4613937818241073152 := by decide +kernel
theorem sure_div3 : rtF (tF 4607182418800017408) (tF 4613937818241073152) 3 = 4599676419421066582 := by decide +kernel
theorem sure_div1 : rtF (tF 4607182418800017408) (tF 4613937818241073152) 1 = 4599676419421066581 := by decide +kernel
end Go.Proofs.YtajeodimbfppiaaGreatDoor
