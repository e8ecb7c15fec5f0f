/- Own work: contracts of the program's functions, part 16: RT7 RY1 RY2 RY3. -/
import Derived.Test.YtajeodimbfppiaaGreatDoorA13
import Derived.Test.YtajeodimbfppiaaGreatDoorA14
import Derived.Test.YtajeodimbfppiaaGreatDoorA15
import Derived.Test.YtajeodimbfppiaaGreatDoorA12

/- The document's rounding, joined. -/
namespace Go.Proofs.YtajeodimbfppiaaGreatDoor
set_option linter.unusedVariables false
set_option linter.unusedSimpArgs false
open Go.RowKit Go.Fl64
open Ie

theorem and1_32 {d X : Nat} (h : d = X % B) : (bits BinOp.and IntKind.u32 (d : Int) 1 == 1) = (X % 2 == 1) := by
  have hB : B = 4294967296 := rfl
  have h2 := u32_and_nat d 1 (by rw [h, hB]; omega) (by decide)
  rw [show ((1 : Nat) : Int) = 1 from rfl] at h2
  rw [h2, Nat.and_one_is_mod, h, show X % B % 2 = X % 2 by rw [hB]; omega]
  rcases Nat.mod_two_eq_zero_or_one X with h | h <;> rw [h] <;> rfl
theorem and1_64 {X : Nat} (h : X < 9007199254740992) : (bits BinOp.and IntKind.u64 (X : Int) 1 == 1) = (X % 2 == 1) := by
  have h2 := u64_and_nat X 1 (by omega) (by decide)
  rw [show ((1 : Nat) : Int) = 1 from rfl] at h2
  rw [h2, Nat.and_one_is_mod]
  rcases Nat.mod_two_eq_zero_or_one X with h | h <;> rw [h] <;> rfl
theorem neq53 {n : Nat} (h : n ≠ 9007199254740992) : ((n : Int) == 9007199254740992) = false := by
  have : ((n : Nat) : Int) ≠ 9007199254740992 := by omega
  simpa using this
theorem tE_max (x : Nat) (E : Int) : max ((bl x : Int) + E - 53) (-1074) = tE x E := by unfold tE; split <;> omega
/-- down's answer as it is asked for here -/
theorem kd1 {w : World} {ua : Option Addr} {uc x : Nat} (h : At w ua (dlen x) x) (hc : dlen x ≤ uc) (hl : dlen x ≤ 100000) {i : Int} {k : Nat} (hi : i = (k : Int)) (hk : k ≤ 10000000) :
    ∀ W, Below w.heap.size w W → Calls Tryz.prog 103 #[.slice ua (dlen x) uc, .int .i64 i] W fun r w' => ∃ v bb, r = .returned (.tuple #[v, .bool bb]) ∧ Ir w' v (x / 2 ^ k) ∧ Below W.heap.size W w' := by
  intro W hW
  subst hi
  refine (rdown (v := .slice ua (dlen x) uc) (⟨ua, uc, rfl, hc, h.later hW⟩ : Ir W _ x) k (by omega) (by omega)).mono ?_
  rintro r w' ⟨ao, cap', rfl, hA, hc', hB⟩
  exact ⟨_, _, rfl, ⟨ao, cap', rfl, hc', hA⟩, hB⟩
theorem kd2Z {w : World} {ua : Option Addr} {uc x : Nat} (h : At w ua (dlen x) x) (hc : dlen x ≤ uc) (hl : dlen x ≤ 100000) {i : Int} {k : Nat} (hi : i = (k : Int)) (hk : k ≤ 10000000) (hz : x / 2 ^ k = 0) :
    ∀ W, Below w.heap.size w W → Calls Tryz.prog 103 #[.slice ua (dlen x) uc, .int .i64 i] W fun r w' => ∃ ao cap', r = .returned (.tuple #[.slice ao 0 cap', .bool (decide (x % 2 ^ k = 0))]) ∧ Below W.heap.size W w' := by
  intro W hW
  subst hi
  refine (rdown (v := .slice ua (dlen x) uc) (⟨ua, uc, rfl, hc, h.later hW⟩ : Ir W _ x) k (by omega) (by omega)).mono ?_
  rintro r w' ⟨ao, cap', rfl, hA, hc', hB⟩
  rw [hz, dlen_zero]
  exact ⟨_, _, rfl, hB⟩
theorem kd2P {w : World} {ua : Option Addr} {uc x : Nat} (h : At w ua (dlen x) x) (hc : dlen x ≤ uc) (hl : dlen x ≤ 100000) {i : Int} {k : Nat} (hi : i = (k : Int)) (hk : k ≤ 10000000) (hz : x / 2 ^ k ≠ 0) {ex : Bool} (hex : decide (x % 2 ^ k = 0) = ex) :
    ∀ W, Below w.heap.size w W → Calls Tryz.prog 103 #[.slice ua (dlen x) uc, .int .i64 i] W fun r w' => ∃ b o n2 cap', r = .returned (.tuple #[.slice (some ⟨b, o, none⟩) (n2 : Nat) cap', .bool ex]) ∧ (0 : Int) < (n2 : Int) ∧ n2 ≤ 1000000000 ∧ w'.cell? ⟨b, o, none⟩ = some (.int .u32 (dg (x / 2 ^ k) 0 : Nat)) ∧ Below W.heap.size W w' := by
  intro W hW
  subst hi
  subst hex
  refine (rdown (v := .slice ua (dlen x) uc) (⟨ua, uc, rfl, hc, h.later hW⟩ : Ir W _ x) k (by omega) (by omega)).mono ?_
  rintro r w' ⟨ao, cap', rfl, ⟨b, o, hb, hcell⟩, hc', hB⟩
  have hp : 0 < dlen (x / 2 ^ k) := Nat.pos_of_ne_zero fun e => hz (dlen_eq_zero.1 e)
  obtain rfl := hb hp
  have hle : dlen (x / 2 ^ k) ≤ dlen x := dlen_mono (Nat.div_le_self _ _)
  have c0 := hcell 0 hp
  rw [Nat.add_zero] at c0
  exact ⟨b, o, _, cap', rfl, by omega, by omega, c0, hB⟩
set_option maxHeartbeats 1000000 in
theorem rto_1f {ua : Option Addr} {uc x : Nat} {ea : Int} {w : World} (h : At w ua (dlen x) x) (hc : dlen x ≤ uc) (hodd : x % 2 = 1) (hl : dlen x ≤ 100000) (he1 : -4000000 ≤ ea) (he2 : ea ≤ 4000000) :
    Calls Tryz.prog 84 #[.agg #[.bool false, .slice ua (dlen x) uc, .int .i64 ea], .int .i64 1] w fun r w' => r = .returned (.float .f64 (sig false (bdy x ea 0))) ∧ Below w.heap.size w w' := by
  have h0 : x ≠ 0 := by omega
  have hw : (0 : Nat) = 0 ∨ (0 : Nat) = 1 ∨ (0 : Nat) = 2 := by omega
  have hn0 : ((dlen x : Int) == 0) = false := len_ne (n := 0) h0
  have hbl : bl x ≤ 32 * dlen x := bl_le_dlen x
  have hb1 := bl_ne h0
  have kH : ∀ W, Below w.heap.size w W → Calls Tryz.prog 96 #[.agg #[.bool false, .slice ua (dlen x) uc, .int .i64 ea]] W fun r w' => r = .returned (.int .i64 ((bl x : Int) + ea)) ∧ Below W.heap.size W w' := fun W hW => rhigh (h.later hW) h0 (by omega) ⟨he1, he2⟩
  by_cases ht : 1024 < (bl x : Int) + ea
  · rw [bdy_big h0 ht hw]
    exact rto_big_1f _ _ _ _ _ _ _ hn0 ht kH (fun W => rbuild (M := 9007199254740991) (e := 971) (by omega) (by omega) (by omega) (.inr (by omega)))
  · have ht' : (bl x : Int) + ea ≤ 1024 := by omega
    have hmx := tE_max x ea
    obtain ⟨h21, h22⟩ := tE_bounds ht'
    by_cases hge : tE x ea ≤ ea
    · obtain ⟨hb, hlt, hg⟩ := bdy_up h0 ht' hge hw
      rw [hb]
      obtain ⟨k, hk⟩ : ∃ k : Nat, k = (ea - tE x ea).toNat := ⟨_, rfl⟩
      have hi : ea - tE x ea = (k : Int) := by omega
      rw [← hk] at hlt hg ⊢
      refine rto_up_1f (ua := ua) (un := dlen x) (uc := uc) (ea := ea) (e2 := tE x ea) (t := (bl x : Int) + ea) (w := w) (F := _) (hn0 := hn0) (ht := ht') (ht3 := by omega) (he1 := he1) (he2 := he2) (hmx := hmx) (h21 := h21) (h22 := h22) (hge := hge) (X := x * 2 ^ k) (hX := hlt) (kH := kH) (kU := fun W hW => ?_) (kB := fun W => rbuild hlt h21 h22 hg)
      rw [hi]
      exact rup ⟨ua, uc, rfl, hc, h.later hW⟩ k (by omega) (by omega)
    · have hlt : ea < tE x ea := by omega
      by_cases ht2 : (bl x : Int) + ea < -1075
      · rw [bdy_tiny h0 ht2 hw, if_neg (by decide)]
        exact rto_tiny_1f (ua := ua) (un := dlen x) (uc := uc) (ea := ea) (e2 := tE x ea) (t := (bl x : Int) + ea) (w := w) (F := _) (hn0 := hn0) (ht := ht') (ht3 := by omega) (he1 := he1) (he2 := he2) (hmx := hmx) (h21 := h21) (h22 := h22) (hge := hge) (ht2 := ht2) (kH := kH) (kB := fun W => rbuild_0 false 0 (-1074) W (by omega))
      · obtain ⟨k, hk⟩ : ∃ k : Nat, k = (tE x ea - ea).toNat := ⟨_, rfl⟩
        have hk1 : 1 ≤ k := by omega
        have hi : tE x ea - ea = (k : Int) := by omega
        have hi2 : tE x ea - ea - 1 = ((k - 1 : Nat) : Int) := by omega
        have hkb : k ≤ 10000000 := by unfold tE at hk; split at hk <;> omega
        obtain ⟨n, hn⟩ : ∃ n, n = if dnU x (tE x ea - ea).toNat 0 then x / 2 ^ (tE x ea - ea).toNat + 1 else x / 2 ^ (tE x ea - ea).toNat := ⟨_, rfl⟩
        obtain ⟨hn1, hn2, hb, hX⟩ := bdy_dn hodd ht' hlt hw hn
        rw [← hk] at hn hX
        rw [hb]
        have k1 := kd1 h hc hl hi hkb
        have hdd := and1_32 (d := dg (x / 2 ^ (k - 1)) 0) (X := x / 2 ^ (k - 1)) (dg_zero _)
        have hod := and1_64 hX
        have ht2' : -1075 ≤ (bl x : Int) + ea := by omega
        have hv : n = x / 2 ^ k := by rw [hn]; simp [dnU]
        by_cases hz : x / 2 ^ (k - 1) = 0
        · rw [hv] at hn1 hn2 ⊢
          exact rto_gen_1f_Zxxx0 (ua := ua) (un := dlen x) (uc := uc) (ea := ea) (e2 := tE x ea) (t := (bl x : Int) + ea) (w := w) (hn0 := hn0) (ht := ht') (ht3 := by omega) (he1 := he1) (he2 := he2) (hmx := hmx) (h21 := h21) (h22 := h22) (hge := hge) (ht2 := ht2') (kH := kH) (X := x / 2 ^ k) (F := _) (hX := hX) (hne := neq53 (by omega)) (kD1 := k1) (kD2 := kd2Z h hc hl hi2 (by omega) hz) (ex := decide (x % 2 ^ (k - 1) = 0)) (kB := fun W => rbuild hX h21 h22 hn2)
        · rw [hv] at hn1 hn2 ⊢
          exact rto_gen_1f_Pxxx0 (ua := ua) (un := dlen x) (uc := uc) (ea := ea) (e2 := tE x ea) (t := (bl x : Int) + ea) (w := w) (hn0 := hn0) (ht := ht') (ht3 := by omega) (he1 := he1) (he2 := he2) (hmx := hmx) (h21 := h21) (h22 := h22) (hge := hge) (ht2 := ht2') (kH := kH) (X := x / 2 ^ k) (F := _) (hX := hX) (hne := neq53 (by omega)) (kD1 := k1) (kD2 := kd2P h hc hl hi2 (by omega) hz rfl) (dd := dg (x / 2 ^ (k - 1)) 0) (ex := decide (x % 2 ^ (k - 1) = 0)) (kB := fun W => rbuild hX h21 h22 hn2)
set_option maxHeartbeats 1000000 in
theorem rto_1t {ua : Option Addr} {uc x : Nat} {ea : Int} {w : World} (h : At w ua (dlen x) x) (hc : dlen x ≤ uc) (hodd : x % 2 = 1) (hl : dlen x ≤ 100000) (he1 : -4000000 ≤ ea) (he2 : ea ≤ 4000000) :
    Calls Tryz.prog 84 #[.agg #[.bool true, .slice ua (dlen x) uc, .int .i64 ea], .int .i64 1] w fun r w' => r = .returned (.float .f64 (sig true (bdy x ea 2))) ∧ Below w.heap.size w w' := by
  have h0 : x ≠ 0 := by omega
  have hw : (2 : Nat) = 0 ∨ (2 : Nat) = 1 ∨ (2 : Nat) = 2 := by omega
  have hn0 : ((dlen x : Int) == 0) = false := len_ne (n := 0) h0
  have hbl : bl x ≤ 32 * dlen x := bl_le_dlen x
  have hb1 := bl_ne h0
  have kH : ∀ W, Below w.heap.size w W → Calls Tryz.prog 96 #[.agg #[.bool true, .slice ua (dlen x) uc, .int .i64 ea]] W fun r w' => r = .returned (.int .i64 ((bl x : Int) + ea)) ∧ Below W.heap.size W w' := fun W hW => rhigh (h.later hW) h0 (by omega) ⟨he1, he2⟩
  by_cases ht : 1024 < (bl x : Int) + ea
  · rw [bdy_big h0 ht hw]
    exact rto_big_1t _ _ _ _ _ _ hn0 ht kH
  · have ht' : (bl x : Int) + ea ≤ 1024 := by omega
    have hmx := tE_max x ea
    obtain ⟨h21, h22⟩ := tE_bounds ht'
    by_cases hge : tE x ea ≤ ea
    · obtain ⟨hb, hlt, hg⟩ := bdy_up h0 ht' hge hw
      rw [hb]
      obtain ⟨k, hk⟩ : ∃ k : Nat, k = (ea - tE x ea).toNat := ⟨_, rfl⟩
      have hi : ea - tE x ea = (k : Int) := by omega
      rw [← hk] at hlt hg ⊢
      refine rto_up_1t (ua := ua) (un := dlen x) (uc := uc) (ea := ea) (e2 := tE x ea) (t := (bl x : Int) + ea) (w := w) (F := _) (hn0 := hn0) (ht := ht') (ht3 := by omega) (he1 := he1) (he2 := he2) (hmx := hmx) (h21 := h21) (h22 := h22) (hge := hge) (X := x * 2 ^ k) (hX := hlt) (kH := kH) (kU := fun W hW => ?_) (kB := fun W => rbuild hlt h21 h22 hg)
      rw [hi]
      exact rup ⟨ua, uc, rfl, hc, h.later hW⟩ k (by omega) (by omega)
    · have hlt : ea < tE x ea := by omega
      by_cases ht2 : (bl x : Int) + ea < -1075
      · rw [bdy_tiny h0 ht2 hw, if_pos rfl]
        exact rto_tiny_1t (ua := ua) (un := dlen x) (uc := uc) (ea := ea) (e2 := tE x ea) (t := (bl x : Int) + ea) (w := w) (F := _) (hn0 := hn0) (ht := ht') (ht3 := by omega) (he1 := he1) (he2 := he2) (hmx := hmx) (h21 := h21) (h22 := h22) (hge := hge) (ht2 := ht2) (kH := kH) (kB := fun W => rbuild_0 true 1 (-1074) W (by omega))
      · obtain ⟨k, hk⟩ : ∃ k : Nat, k = (tE x ea - ea).toNat := ⟨_, rfl⟩
        have hk1 : 1 ≤ k := by omega
        have hi : tE x ea - ea = (k : Int) := by omega
        have hi2 : tE x ea - ea - 1 = ((k - 1 : Nat) : Int) := by omega
        have hkb : k ≤ 10000000 := by unfold tE at hk; split at hk <;> omega
        obtain ⟨n, hn⟩ : ∃ n, n = if dnU x (tE x ea - ea).toNat 2 then x / 2 ^ (tE x ea - ea).toNat + 1 else x / 2 ^ (tE x ea - ea).toNat := ⟨_, rfl⟩
        obtain ⟨hn1, hn2, hb, hX⟩ := bdy_dn hodd ht' hlt hw hn
        rw [← hk] at hn hX
        rw [hb]
        have k1 := kd1 h hc hl hi hkb
        have hdd := and1_32 (d := dg (x / 2 ^ (k - 1)) 0) (X := x / 2 ^ (k - 1)) (dg_zero _)
        have hod := and1_64 hX
        have ht2' : -1075 ≤ (bl x : Int) + ea := by omega
        have hv : n = x / 2 ^ k + 1 := by rw [hn]; simp [dnU]
        by_cases hz : x / 2 ^ (k - 1) = 0
        · rw [hv] at hn1 hn2 ⊢
          by_cases h53 : x / 2 ^ k + 1 = 9007199254740992
          · have hXv : x / 2 ^ k = 9007199254740991 := by omega
            rw [hXv] at k1
            by_cases h9 : tE x ea = 971
            · rw [h53, show ((tE x ea + 1074).toNat * 4503599627370496 + 9007199254740992) = 9218868437227405312 by omega]
              exact rto_gen_1t_Zxxx3 (ua := ua) (un := dlen x) (uc := uc) (ea := ea) (e2 := tE x ea) (t := (bl x : Int) + ea) (w := w) (hn0 := hn0) (ht := ht') (ht3 := by omega) (he1 := he1) (he2 := he2) (hmx := hmx) (h21 := h21) (h22 := h22) (hge := hge) (ht2 := ht2') (kH := kH) (hnx := h9) (kD1 := k1) (kD2 := kd2Z h hc hl hi2 (by omega) hz) (ex := decide (x % 2 ^ (k - 1) = 0))
            · rw [h53, show ((tE x ea + 1074).toNat * 4503599627370496 + 9007199254740992) = (tE x ea + 1 + 1074).toNat * 4503599627370496 + 4503599627370496 by omega]
              exact rto_gen_1t_Zxxx2 (ua := ua) (un := dlen x) (uc := uc) (ea := ea) (e2 := tE x ea) (t := (bl x : Int) + ea) (w := w) (hn0 := hn0) (ht := ht') (ht3 := by omega) (he1 := he1) (he2 := he2) (hmx := hmx) (h21 := h21) (h22 := h22) (hge := hge) (ht2 := ht2') (kH := kH) (hnx := by omega) (kD1 := k1) (kD2 := kd2Z h hc hl hi2 (by omega) hz) (ex := decide (x % 2 ^ (k - 1) = 0)) (kB := fun W => rbuild (M := 4503599627370496) (e := tE x ea + 1) (by omega) (by omega) (by omega) (.inr (by omega))) (F := _)
          · have kB : ∀ W, Calls Tryz.prog 113 #[.bool true, .int .u64 (((x / 2 ^ k : Nat) : Int) + 1), .int .i64 (tE x ea)] W fun r w' => r = .returned (.float .f64 (sig true ((tE x ea + 1074).toNat * 4503599627370496 + (x / 2 ^ k + 1)))) ∧ w' = W := fun W => by
              rw [show (((x / 2 ^ k : Nat) : Int) + 1) = ((x / 2 ^ k + 1 : Nat) : Int) by omega]
              exact rbuild (by omega) h21 h22 hn2
            have hne : (((x / 2 ^ k : Nat) : Int) + 1 == 9007199254740992) = false := by
              rw [show (((x / 2 ^ k : Nat) : Int) + 1) = ((x / 2 ^ k + 1 : Nat) : Int) by omega]
              exact neq53 h53
            exact rto_gen_1t_Zxxx1 (ua := ua) (un := dlen x) (uc := uc) (ea := ea) (e2 := tE x ea) (t := (bl x : Int) + ea) (w := w) (hn0 := hn0) (ht := ht') (ht3 := by omega) (he1 := he1) (he2 := he2) (hmx := hmx) (h21 := h21) (h22 := h22) (hge := hge) (ht2 := ht2') (kH := kH) (X := x / 2 ^ k) (F := _) (hX := hX) (hne := hne) (kD1 := k1) (kD2 := kd2Z h hc hl hi2 (by omega) hz) (ex := decide (x % 2 ^ (k - 1) = 0)) (kB := kB)
        · rw [hv] at hn1 hn2 ⊢
          by_cases h53 : x / 2 ^ k + 1 = 9007199254740992
          · have hXv : x / 2 ^ k = 9007199254740991 := by omega
            rw [hXv] at k1
            by_cases h9 : tE x ea = 971
            · rw [h53, show ((tE x ea + 1074).toNat * 4503599627370496 + 9007199254740992) = 9218868437227405312 by omega]
              exact rto_gen_1t_Pxxx3 (ua := ua) (un := dlen x) (uc := uc) (ea := ea) (e2 := tE x ea) (t := (bl x : Int) + ea) (w := w) (hn0 := hn0) (ht := ht') (ht3 := by omega) (he1 := he1) (he2 := he2) (hmx := hmx) (h21 := h21) (h22 := h22) (hge := hge) (ht2 := ht2') (kH := kH) (hnx := h9) (kD1 := k1) (kD2 := kd2P h hc hl hi2 (by omega) hz rfl) (dd := dg (x / 2 ^ (k - 1)) 0) (ex := decide (x % 2 ^ (k - 1) = 0))
            · rw [h53, show ((tE x ea + 1074).toNat * 4503599627370496 + 9007199254740992) = (tE x ea + 1 + 1074).toNat * 4503599627370496 + 4503599627370496 by omega]
              exact rto_gen_1t_Pxxx2 (ua := ua) (un := dlen x) (uc := uc) (ea := ea) (e2 := tE x ea) (t := (bl x : Int) + ea) (w := w) (hn0 := hn0) (ht := ht') (ht3 := by omega) (he1 := he1) (he2 := he2) (hmx := hmx) (h21 := h21) (h22 := h22) (hge := hge) (ht2 := ht2') (kH := kH) (hnx := by omega) (kD1 := k1) (kD2 := kd2P h hc hl hi2 (by omega) hz rfl) (dd := dg (x / 2 ^ (k - 1)) 0) (ex := decide (x % 2 ^ (k - 1) = 0)) (kB := fun W => rbuild (M := 4503599627370496) (e := tE x ea + 1) (by omega) (by omega) (by omega) (.inr (by omega))) (F := _)
          · have kB : ∀ W, Calls Tryz.prog 113 #[.bool true, .int .u64 (((x / 2 ^ k : Nat) : Int) + 1), .int .i64 (tE x ea)] W fun r w' => r = .returned (.float .f64 (sig true ((tE x ea + 1074).toNat * 4503599627370496 + (x / 2 ^ k + 1)))) ∧ w' = W := fun W => by
              rw [show (((x / 2 ^ k : Nat) : Int) + 1) = ((x / 2 ^ k + 1 : Nat) : Int) by omega]
              exact rbuild (by omega) h21 h22 hn2
            have hne : (((x / 2 ^ k : Nat) : Int) + 1 == 9007199254740992) = false := by
              rw [show (((x / 2 ^ k : Nat) : Int) + 1) = ((x / 2 ^ k + 1 : Nat) : Int) by omega]
              exact neq53 h53
            exact rto_gen_1t_Pxxx1 (ua := ua) (un := dlen x) (uc := uc) (ea := ea) (e2 := tE x ea) (t := (bl x : Int) + ea) (w := w) (hn0 := hn0) (ht := ht') (ht3 := by omega) (he1 := he1) (he2 := he2) (hmx := hmx) (h21 := h21) (h22 := h22) (hge := hge) (ht2 := ht2') (kH := kH) (X := x / 2 ^ k) (F := _) (hX := hX) (hne := hne) (kD1 := k1) (kD2 := kd2P h hc hl hi2 (by omega) hz rfl) (dd := dg (x / 2 ^ (k - 1)) 0) (ex := decide (x % 2 ^ (k - 1) = 0)) (kB := kB)
set_option maxHeartbeats 1000000 in
theorem rto_2f {ua : Option Addr} {uc x : Nat} {ea : Int} {w : World} (h : At w ua (dlen x) x) (hc : dlen x ≤ uc) (hodd : x % 2 = 1) (hl : dlen x ≤ 100000) (he1 : -4000000 ≤ ea) (he2 : ea ≤ 4000000) :
    Calls Tryz.prog 84 #[.agg #[.bool false, .slice ua (dlen x) uc, .int .i64 ea], .int .i64 2] w fun r w' => r = .returned (.float .f64 (sig false (bdy x ea 1))) ∧ Below w.heap.size w w' := by
  have h0 : x ≠ 0 := by omega
  have hw : (1 : Nat) = 0 ∨ (1 : Nat) = 1 ∨ (1 : Nat) = 2 := by omega
  have hn0 : ((dlen x : Int) == 0) = false := len_ne (n := 0) h0
  have hbl : bl x ≤ 32 * dlen x := bl_le_dlen x
  have hb1 := bl_ne h0
  have kH : ∀ W, Below w.heap.size w W → Calls Tryz.prog 96 #[.agg #[.bool false, .slice ua (dlen x) uc, .int .i64 ea]] W fun r w' => r = .returned (.int .i64 ((bl x : Int) + ea)) ∧ Below W.heap.size W w' := fun W hW => rhigh (h.later hW) h0 (by omega) ⟨he1, he2⟩
  by_cases ht : 1024 < (bl x : Int) + ea
  · rw [bdy_big h0 ht hw]
    exact rto_big_2f _ _ _ _ _ _ hn0 ht kH
  · have ht' : (bl x : Int) + ea ≤ 1024 := by omega
    have hmx := tE_max x ea
    obtain ⟨h21, h22⟩ := tE_bounds ht'
    by_cases hge : tE x ea ≤ ea
    · obtain ⟨hb, hlt, hg⟩ := bdy_up h0 ht' hge hw
      rw [hb]
      obtain ⟨k, hk⟩ : ∃ k : Nat, k = (ea - tE x ea).toNat := ⟨_, rfl⟩
      have hi : ea - tE x ea = (k : Int) := by omega
      rw [← hk] at hlt hg ⊢
      refine rto_up_2f (ua := ua) (un := dlen x) (uc := uc) (ea := ea) (e2 := tE x ea) (t := (bl x : Int) + ea) (w := w) (F := _) (hn0 := hn0) (ht := ht') (ht3 := by omega) (he1 := he1) (he2 := he2) (hmx := hmx) (h21 := h21) (h22 := h22) (hge := hge) (X := x * 2 ^ k) (hX := hlt) (kH := kH) (kU := fun W hW => ?_) (kB := fun W => rbuild hlt h21 h22 hg)
      rw [hi]
      exact rup ⟨ua, uc, rfl, hc, h.later hW⟩ k (by omega) (by omega)
    · have hlt : ea < tE x ea := by omega
      by_cases ht2 : (bl x : Int) + ea < -1075
      · rw [bdy_tiny h0 ht2 hw, if_neg (by decide)]
        exact rto_tiny_2f (ua := ua) (un := dlen x) (uc := uc) (ea := ea) (e2 := tE x ea) (t := (bl x : Int) + ea) (w := w) (F := _) (hn0 := hn0) (ht := ht') (ht3 := by omega) (he1 := he1) (he2 := he2) (hmx := hmx) (h21 := h21) (h22 := h22) (hge := hge) (ht2 := ht2) (kH := kH) (kB := fun W => rbuild_0 false 0 (-1074) W (by omega))
      · obtain ⟨k, hk⟩ : ∃ k : Nat, k = (tE x ea - ea).toNat := ⟨_, rfl⟩
        have hk1 : 1 ≤ k := by omega
        have hi : tE x ea - ea = (k : Int) := by omega
        have hi2 : tE x ea - ea - 1 = ((k - 1 : Nat) : Int) := by omega
        have hkb : k ≤ 10000000 := by unfold tE at hk; split at hk <;> omega
        obtain ⟨n, hn⟩ : ∃ n, n = if dnU x (tE x ea - ea).toNat 1 then x / 2 ^ (tE x ea - ea).toNat + 1 else x / 2 ^ (tE x ea - ea).toNat := ⟨_, rfl⟩
        obtain ⟨hn1, hn2, hb, hX⟩ := bdy_dn hodd ht' hlt hw hn
        rw [← hk] at hn hX
        rw [hb]
        have k1 := kd1 h hc hl hi hkb
        have hdd := and1_32 (d := dg (x / 2 ^ (k - 1)) 0) (X := x / 2 ^ (k - 1)) (dg_zero _)
        have hod := and1_64 hX
        have ht2' : -1075 ≤ (bl x : Int) + ea := by omega
        by_cases hz : x / 2 ^ (k - 1) = 0
        · have hv : n = x / 2 ^ k := by rw [hn]; simp [dnU, hz]
          rw [hv] at hn1 hn2 ⊢
          exact rto_gen_2f_Zlxx0 (ua := ua) (un := dlen x) (uc := uc) (ea := ea) (e2 := tE x ea) (t := (bl x : Int) + ea) (w := w) (hn0 := hn0) (ht := ht') (ht3 := by omega) (he1 := he1) (he2 := he2) (hmx := hmx) (h21 := h21) (h22 := h22) (hge := hge) (ht2 := ht2') (kH := kH) (X := x / 2 ^ k) (F := _) (hX := hX) (hne := neq53 (by omega)) (kD1 := k1) (kD2 := kd2Z h hc hl hi2 (by omega) hz) (ex := decide (x % 2 ^ (k - 1) = 0)) (kB := fun W => rbuild hX h21 h22 hn2)
        · by_cases hh : x / 2 ^ (k - 1) % 2 = 1
          · rw [hh] at hdd
            by_cases hx : x % 2 ^ (k - 1) = 0
            · by_cases ho : x / 2 ^ k % 2 = 1
              · rw [ho] at hod
                have hv : n = x / 2 ^ k + 1 := by rw [hn]; simp [dnU, hh, hx, ho]
                rw [hv] at hn1 hn2 ⊢
                by_cases h53 : x / 2 ^ k + 1 = 9007199254740992
                · have hXv : x / 2 ^ k = 9007199254740991 := by omega
                  rw [hXv] at k1
                  by_cases h9 : tE x ea = 971
                  · rw [h53, show ((tE x ea + 1074).toNat * 4503599627370496 + 9007199254740992) = 9218868437227405312 by omega]
                    exact rto_gen_2f_Pheo3 (ua := ua) (un := dlen x) (uc := uc) (ea := ea) (e2 := tE x ea) (t := (bl x : Int) + ea) (w := w) (hn0 := hn0) (ht := ht') (ht3 := by omega) (he1 := he1) (he2 := he2) (hmx := hmx) (h21 := h21) (h22 := h22) (hge := hge) (ht2 := ht2') (kH := kH) (hnx := h9) (kD1 := k1) (kD2 := kd2P h hc hl hi2 (by omega) hz (decide_eq_true hx)) (hf := hdd) (dd := dg (x / 2 ^ (k - 1)) 0)
                  · rw [h53, show ((tE x ea + 1074).toNat * 4503599627370496 + 9007199254740992) = (tE x ea + 1 + 1074).toNat * 4503599627370496 + 4503599627370496 by omega]
                    exact rto_gen_2f_Pheo2 (ua := ua) (un := dlen x) (uc := uc) (ea := ea) (e2 := tE x ea) (t := (bl x : Int) + ea) (w := w) (hn0 := hn0) (ht := ht') (ht3 := by omega) (he1 := he1) (he2 := he2) (hmx := hmx) (h21 := h21) (h22 := h22) (hge := hge) (ht2 := ht2') (kH := kH) (hnx := by omega) (kD1 := k1) (kD2 := kd2P h hc hl hi2 (by omega) hz (decide_eq_true hx)) (hf := hdd) (dd := dg (x / 2 ^ (k - 1)) 0) (kB := fun W => rbuild (M := 4503599627370496) (e := tE x ea + 1) (by omega) (by omega) (by omega) (.inr (by omega))) (F := _)
                · have kB : ∀ W, Calls Tryz.prog 113 #[.bool false, .int .u64 (((x / 2 ^ k : Nat) : Int) + 1), .int .i64 (tE x ea)] W fun r w' => r = .returned (.float .f64 (sig false ((tE x ea + 1074).toNat * 4503599627370496 + (x / 2 ^ k + 1)))) ∧ w' = W := fun W => by
                    rw [show (((x / 2 ^ k : Nat) : Int) + 1) = ((x / 2 ^ k + 1 : Nat) : Int) by omega]
                    exact rbuild (by omega) h21 h22 hn2
                  have hne : (((x / 2 ^ k : Nat) : Int) + 1 == 9007199254740992) = false := by
                    rw [show (((x / 2 ^ k : Nat) : Int) + 1) = ((x / 2 ^ k + 1 : Nat) : Int) by omega]
                    exact neq53 h53
                  exact rto_gen_2f_Pheo1 (ua := ua) (un := dlen x) (uc := uc) (ea := ea) (e2 := tE x ea) (t := (bl x : Int) + ea) (w := w) (hn0 := hn0) (ht := ht') (ht3 := by omega) (he1 := he1) (he2 := he2) (hmx := hmx) (h21 := h21) (h22 := h22) (hge := hge) (ht2 := ht2') (kH := kH) (X := x / 2 ^ k) (F := _) (hX := hX) (hne := hne) (kD1 := k1) (kD2 := kd2P h hc hl hi2 (by omega) hz (decide_eq_true hx)) (hf := hdd) (hod := hod) (dd := dg (x / 2 ^ (k - 1)) 0) (kB := kB)
              · have ho2 : x / 2 ^ k % 2 = 0 := by omega
                rw [ho2] at hod
                have hv : n = x / 2 ^ k := by rw [hn]; simp [dnU, hh, hx, ho2]
                rw [hv] at hn1 hn2 ⊢
                exact rto_gen_2f_Phev0 (ua := ua) (un := dlen x) (uc := uc) (ea := ea) (e2 := tE x ea) (t := (bl x : Int) + ea) (w := w) (hn0 := hn0) (ht := ht') (ht3 := by omega) (he1 := he1) (he2 := he2) (hmx := hmx) (h21 := h21) (h22 := h22) (hge := hge) (ht2 := ht2') (kH := kH) (X := x / 2 ^ k) (F := _) (hX := hX) (hne := neq53 (by omega)) (kD1 := k1) (kD2 := kd2P h hc hl hi2 (by omega) hz (decide_eq_true hx)) (hf := hdd) (hod := hod) (dd := dg (x / 2 ^ (k - 1)) 0) (kB := fun W => rbuild hX h21 h22 hn2)
            · have hv : n = x / 2 ^ k + 1 := by rw [hn]; simp [dnU, hh, hx]
              rw [hv] at hn1 hn2 ⊢
              by_cases h53 : x / 2 ^ k + 1 = 9007199254740992
              · have hXv : x / 2 ^ k = 9007199254740991 := by omega
                rw [hXv] at k1
                by_cases h9 : tE x ea = 971
                · rw [h53, show ((tE x ea + 1074).toNat * 4503599627370496 + 9007199254740992) = 9218868437227405312 by omega]
                  exact rto_gen_2f_Phnx3 (ua := ua) (un := dlen x) (uc := uc) (ea := ea) (e2 := tE x ea) (t := (bl x : Int) + ea) (w := w) (hn0 := hn0) (ht := ht') (ht3 := by omega) (he1 := he1) (he2 := he2) (hmx := hmx) (h21 := h21) (h22 := h22) (hge := hge) (ht2 := ht2') (kH := kH) (hnx := h9) (kD1 := k1) (kD2 := kd2P h hc hl hi2 (by omega) hz (decide_eq_false hx)) (hf := hdd) (dd := dg (x / 2 ^ (k - 1)) 0)
                · rw [h53, show ((tE x ea + 1074).toNat * 4503599627370496 + 9007199254740992) = (tE x ea + 1 + 1074).toNat * 4503599627370496 + 4503599627370496 by omega]
                  exact rto_gen_2f_Phnx2 (ua := ua) (un := dlen x) (uc := uc) (ea := ea) (e2 := tE x ea) (t := (bl x : Int) + ea) (w := w) (hn0 := hn0) (ht := ht') (ht3 := by omega) (he1 := he1) (he2 := he2) (hmx := hmx) (h21 := h21) (h22 := h22) (hge := hge) (ht2 := ht2') (kH := kH) (hnx := by omega) (kD1 := k1) (kD2 := kd2P h hc hl hi2 (by omega) hz (decide_eq_false hx)) (hf := hdd) (dd := dg (x / 2 ^ (k - 1)) 0) (kB := fun W => rbuild (M := 4503599627370496) (e := tE x ea + 1) (by omega) (by omega) (by omega) (.inr (by omega))) (F := _)
              · have kB : ∀ W, Calls Tryz.prog 113 #[.bool false, .int .u64 (((x / 2 ^ k : Nat) : Int) + 1), .int .i64 (tE x ea)] W fun r w' => r = .returned (.float .f64 (sig false ((tE x ea + 1074).toNat * 4503599627370496 + (x / 2 ^ k + 1)))) ∧ w' = W := fun W => by
                  rw [show (((x / 2 ^ k : Nat) : Int) + 1) = ((x / 2 ^ k + 1 : Nat) : Int) by omega]
                  exact rbuild (by omega) h21 h22 hn2
                have hne : (((x / 2 ^ k : Nat) : Int) + 1 == 9007199254740992) = false := by
                  rw [show (((x / 2 ^ k : Nat) : Int) + 1) = ((x / 2 ^ k + 1 : Nat) : Int) by omega]
                  exact neq53 h53
                exact rto_gen_2f_Phnx1 (ua := ua) (un := dlen x) (uc := uc) (ea := ea) (e2 := tE x ea) (t := (bl x : Int) + ea) (w := w) (hn0 := hn0) (ht := ht') (ht3 := by omega) (he1 := he1) (he2 := he2) (hmx := hmx) (h21 := h21) (h22 := h22) (hge := hge) (ht2 := ht2') (kH := kH) (X := x / 2 ^ k) (F := _) (hX := hX) (hne := hne) (kD1 := k1) (kD2 := kd2P h hc hl hi2 (by omega) hz (decide_eq_false hx)) (hf := hdd) (dd := dg (x / 2 ^ (k - 1)) 0) (kB := kB)
          · have hh2 : x / 2 ^ (k - 1) % 2 = 0 := by omega
            rw [hh2] at hdd
            have hv : n = x / 2 ^ k := by rw [hn]; simp [dnU, hh2]
            rw [hv] at hn1 hn2 ⊢
            exact rto_gen_2f_Plxx0 (ua := ua) (un := dlen x) (uc := uc) (ea := ea) (e2 := tE x ea) (t := (bl x : Int) + ea) (w := w) (hn0 := hn0) (ht := ht') (ht3 := by omega) (he1 := he1) (he2 := he2) (hmx := hmx) (h21 := h21) (h22 := h22) (hge := hge) (ht2 := ht2') (kH := kH) (X := x / 2 ^ k) (F := _) (hX := hX) (hne := neq53 (by omega)) (kD1 := k1) (kD2 := kd2P h hc hl hi2 (by omega) hz rfl) (hf := hdd) (dd := dg (x / 2 ^ (k - 1)) 0) (ex := decide (x % 2 ^ (k - 1) = 0)) (kB := fun W => rbuild hX h21 h22 hn2)
set_option maxHeartbeats 1000000 in
theorem rto_2t {ua : Option Addr} {uc x : Nat} {ea : Int} {w : World} (h : At w ua (dlen x) x) (hc : dlen x ≤ uc) (hodd : x % 2 = 1) (hl : dlen x ≤ 100000) (he1 : -4000000 ≤ ea) (he2 : ea ≤ 4000000) :
    Calls Tryz.prog 84 #[.agg #[.bool true, .slice ua (dlen x) uc, .int .i64 ea], .int .i64 2] w fun r w' => r = .returned (.float .f64 (sig true (bdy x ea 1))) ∧ Below w.heap.size w w' := by
  have h0 : x ≠ 0 := by omega
  have hw : (1 : Nat) = 0 ∨ (1 : Nat) = 1 ∨ (1 : Nat) = 2 := by omega
  have hn0 : ((dlen x : Int) == 0) = false := len_ne (n := 0) h0
  have hbl : bl x ≤ 32 * dlen x := bl_le_dlen x
  have hb1 := bl_ne h0
  have kH : ∀ W, Below w.heap.size w W → Calls Tryz.prog 96 #[.agg #[.bool true, .slice ua (dlen x) uc, .int .i64 ea]] W fun r w' => r = .returned (.int .i64 ((bl x : Int) + ea)) ∧ Below W.heap.size W w' := fun W hW => rhigh (h.later hW) h0 (by omega) ⟨he1, he2⟩
  by_cases ht : 1024 < (bl x : Int) + ea
  · rw [bdy_big h0 ht hw]
    exact rto_big_2t _ _ _ _ _ _ hn0 ht kH
  · have ht' : (bl x : Int) + ea ≤ 1024 := by omega
    have hmx := tE_max x ea
    obtain ⟨h21, h22⟩ := tE_bounds ht'
    by_cases hge : tE x ea ≤ ea
    · obtain ⟨hb, hlt, hg⟩ := bdy_up h0 ht' hge hw
      rw [hb]
      obtain ⟨k, hk⟩ : ∃ k : Nat, k = (ea - tE x ea).toNat := ⟨_, rfl⟩
      have hi : ea - tE x ea = (k : Int) := by omega
      rw [← hk] at hlt hg ⊢
      refine rto_up_2t (ua := ua) (un := dlen x) (uc := uc) (ea := ea) (e2 := tE x ea) (t := (bl x : Int) + ea) (w := w) (F := _) (hn0 := hn0) (ht := ht') (ht3 := by omega) (he1 := he1) (he2 := he2) (hmx := hmx) (h21 := h21) (h22 := h22) (hge := hge) (X := x * 2 ^ k) (hX := hlt) (kH := kH) (kU := fun W hW => ?_) (kB := fun W => rbuild hlt h21 h22 hg)
      rw [hi]
      exact rup ⟨ua, uc, rfl, hc, h.later hW⟩ k (by omega) (by omega)
    · have hlt : ea < tE x ea := by omega
      by_cases ht2 : (bl x : Int) + ea < -1075
      · rw [bdy_tiny h0 ht2 hw, if_neg (by decide)]
        exact rto_tiny_2t (ua := ua) (un := dlen x) (uc := uc) (ea := ea) (e2 := tE x ea) (t := (bl x : Int) + ea) (w := w) (F := _) (hn0 := hn0) (ht := ht') (ht3 := by omega) (he1 := he1) (he2 := he2) (hmx := hmx) (h21 := h21) (h22 := h22) (hge := hge) (ht2 := ht2) (kH := kH) (kB := fun W => rbuild_0 true 0 (-1074) W (by omega))
      · obtain ⟨k, hk⟩ : ∃ k : Nat, k = (tE x ea - ea).toNat := ⟨_, rfl⟩
        have hk1 : 1 ≤ k := by omega
        have hi : tE x ea - ea = (k : Int) := by omega
        have hi2 : tE x ea - ea - 1 = ((k - 1 : Nat) : Int) := by omega
        have hkb : k ≤ 10000000 := by unfold tE at hk; split at hk <;> omega
        obtain ⟨n, hn⟩ : ∃ n, n = if dnU x (tE x ea - ea).toNat 1 then x / 2 ^ (tE x ea - ea).toNat + 1 else x / 2 ^ (tE x ea - ea).toNat := ⟨_, rfl⟩
        obtain ⟨hn1, hn2, hb, hX⟩ := bdy_dn hodd ht' hlt hw hn
        rw [← hk] at hn hX
        rw [hb]
        have k1 := kd1 h hc hl hi hkb
        have hdd := and1_32 (d := dg (x / 2 ^ (k - 1)) 0) (X := x / 2 ^ (k - 1)) (dg_zero _)
        have hod := and1_64 hX
        have ht2' : -1075 ≤ (bl x : Int) + ea := by omega
        by_cases hz : x / 2 ^ (k - 1) = 0
        · have hv : n = x / 2 ^ k := by rw [hn]; simp [dnU, hz]
          rw [hv] at hn1 hn2 ⊢
          exact rto_gen_2t_Zlxx0 (ua := ua) (un := dlen x) (uc := uc) (ea := ea) (e2 := tE x ea) (t := (bl x : Int) + ea) (w := w) (hn0 := hn0) (ht := ht') (ht3 := by omega) (he1 := he1) (he2 := he2) (hmx := hmx) (h21 := h21) (h22 := h22) (hge := hge) (ht2 := ht2') (kH := kH) (X := x / 2 ^ k) (F := _) (hX := hX) (hne := neq53 (by omega)) (kD1 := k1) (kD2 := kd2Z h hc hl hi2 (by omega) hz) (ex := decide (x % 2 ^ (k - 1) = 0)) (kB := fun W => rbuild hX h21 h22 hn2)
        · by_cases hh : x / 2 ^ (k - 1) % 2 = 1
          · rw [hh] at hdd
            by_cases hx : x % 2 ^ (k - 1) = 0
            · by_cases ho : x / 2 ^ k % 2 = 1
              · rw [ho] at hod
                have hv : n = x / 2 ^ k + 1 := by rw [hn]; simp [dnU, hh, hx, ho]
                rw [hv] at hn1 hn2 ⊢
                by_cases h53 : x / 2 ^ k + 1 = 9007199254740992
                · have hXv : x / 2 ^ k = 9007199254740991 := by omega
                  rw [hXv] at k1
                  by_cases h9 : tE x ea = 971
                  · rw [h53, show ((tE x ea + 1074).toNat * 4503599627370496 + 9007199254740992) = 9218868437227405312 by omega]
                    exact rto_gen_2t_Pheo3 (ua := ua) (un := dlen x) (uc := uc) (ea := ea) (e2 := tE x ea) (t := (bl x : Int) + ea) (w := w) (hn0 := hn0) (ht := ht') (ht3 := by omega) (he1 := he1) (he2 := he2) (hmx := hmx) (h21 := h21) (h22 := h22) (hge := hge) (ht2 := ht2') (kH := kH) (hnx := h9) (kD1 := k1) (kD2 := kd2P h hc hl hi2 (by omega) hz (decide_eq_true hx)) (hf := hdd) (dd := dg (x / 2 ^ (k - 1)) 0)
                  · rw [h53, show ((tE x ea + 1074).toNat * 4503599627370496 + 9007199254740992) = (tE x ea + 1 + 1074).toNat * 4503599627370496 + 4503599627370496 by omega]
                    exact rto_gen_2t_Pheo2 (ua := ua) (un := dlen x) (uc := uc) (ea := ea) (e2 := tE x ea) (t := (bl x : Int) + ea) (w := w) (hn0 := hn0) (ht := ht') (ht3 := by omega) (he1 := he1) (he2 := he2) (hmx := hmx) (h21 := h21) (h22 := h22) (hge := hge) (ht2 := ht2') (kH := kH) (hnx := by omega) (kD1 := k1) (kD2 := kd2P h hc hl hi2 (by omega) hz (decide_eq_true hx)) (hf := hdd) (dd := dg (x / 2 ^ (k - 1)) 0) (kB := fun W => rbuild (M := 4503599627370496) (e := tE x ea + 1) (by omega) (by omega) (by omega) (.inr (by omega))) (F := _)
                · have kB : ∀ W, Calls Tryz.prog 113 #[.bool true, .int .u64 (((x / 2 ^ k : Nat) : Int) + 1), .int .i64 (tE x ea)] W fun r w' => r = .returned (.float .f64 (sig true ((tE x ea + 1074).toNat * 4503599627370496 + (x / 2 ^ k + 1)))) ∧ w' = W := fun W => by
                    rw [show (((x / 2 ^ k : Nat) : Int) + 1) = ((x / 2 ^ k + 1 : Nat) : Int) by omega]
                    exact rbuild (by omega) h21 h22 hn2
                  have hne : (((x / 2 ^ k : Nat) : Int) + 1 == 9007199254740992) = false := by
                    rw [show (((x / 2 ^ k : Nat) : Int) + 1) = ((x / 2 ^ k + 1 : Nat) : Int) by omega]
                    exact neq53 h53
                  exact rto_gen_2t_Pheo1 (ua := ua) (un := dlen x) (uc := uc) (ea := ea) (e2 := tE x ea) (t := (bl x : Int) + ea) (w := w) (hn0 := hn0) (ht := ht') (ht3 := by omega) (he1 := he1) (he2 := he2) (hmx := hmx) (h21 := h21) (h22 := h22) (hge := hge) (ht2 := ht2') (kH := kH) (X := x / 2 ^ k) (F := _) (hX := hX) (hne := hne) (kD1 := k1) (kD2 := kd2P h hc hl hi2 (by omega) hz (decide_eq_true hx)) (hf := hdd) (hod := hod) (dd := dg (x / 2 ^ (k - 1)) 0) (kB := kB)
              · have ho2 : x / 2 ^ k % 2 = 0 := by omega
                rw [ho2] at hod
                have hv : n = x / 2 ^ k := by rw [hn]; simp [dnU, hh, hx, ho2]
                rw [hv] at hn1 hn2 ⊢
                exact rto_gen_2t_Phev0 (ua := ua) (un := dlen x) (uc := uc) (ea := ea) (e2 := tE x ea) (t := (bl x : Int) + ea) (w := w) (hn0 := hn0) (ht := ht') (ht3 := by omega) (he1 := he1) (he2 := he2) (hmx := hmx) (h21 := h21) (h22 := h22) (hge := hge) (ht2 := ht2') (kH := kH) (X := x / 2 ^ k) (F := _) (hX := hX) (hne := neq53 (by omega)) (kD1 := k1) (kD2 := kd2P h hc hl hi2 (by omega) hz (decide_eq_true hx)) (hf := hdd) (hod := hod) (dd := dg (x / 2 ^ (k - 1)) 0) (kB := fun W => rbuild hX h21 h22 hn2)
            · have hv : n = x / 2 ^ k + 1 := by rw [hn]; simp [dnU, hh, hx]
              rw [hv] at hn1 hn2 ⊢
              by_cases h53 : x / 2 ^ k + 1 = 9007199254740992
              · have hXv : x / 2 ^ k = 9007199254740991 := by omega
                rw [hXv] at k1
                by_cases h9 : tE x ea = 971
                · rw [h53, show ((tE x ea + 1074).toNat * 4503599627370496 + 9007199254740992) = 9218868437227405312 by omega]
                  exact rto_gen_2t_Phnx3 (ua := ua) (un := dlen x) (uc := uc) (ea := ea) (e2 := tE x ea) (t := (bl x : Int) + ea) (w := w) (hn0 := hn0) (ht := ht') (ht3 := by omega) (he1 := he1) (he2 := he2) (hmx := hmx) (h21 := h21) (h22 := h22) (hge := hge) (ht2 := ht2') (kH := kH) (hnx := h9) (kD1 := k1) (kD2 := kd2P h hc hl hi2 (by omega) hz (decide_eq_false hx)) (hf := hdd) (dd := dg (x / 2 ^ (k - 1)) 0)
                · rw [h53, show ((tE x ea + 1074).toNat * 4503599627370496 + 9007199254740992) = (tE x ea + 1 + 1074).toNat * 4503599627370496 + 4503599627370496 by omega]
                  exact rto_gen_2t_Phnx2 (ua := ua) (un := dlen x) (uc := uc) (ea := ea) (e2 := tE x ea) (t := (bl x : Int) + ea) (w := w) (hn0 := hn0) (ht := ht') (ht3 := by omega) (he1 := he1) (he2 := he2) (hmx := hmx) (h21 := h21) (h22 := h22) (hge := hge) (ht2 := ht2') (kH := kH) (hnx := by omega) (kD1 := k1) (kD2 := kd2P h hc hl hi2 (by omega) hz (decide_eq_false hx)) (hf := hdd) (dd := dg (x / 2 ^ (k - 1)) 0) (kB := fun W => rbuild (M := 4503599627370496) (e := tE x ea + 1) (by omega) (by omega) (by omega) (.inr (by omega))) (F := _)
              · have kB : ∀ W, Calls Tryz.prog 113 #[.bool true, .int .u64 (((x / 2 ^ k : Nat) : Int) + 1), .int .i64 (tE x ea)] W fun r w' => r = .returned (.float .f64 (sig true ((tE x ea + 1074).toNat * 4503599627370496 + (x / 2 ^ k + 1)))) ∧ w' = W := fun W => by
                  rw [show (((x / 2 ^ k : Nat) : Int) + 1) = ((x / 2 ^ k + 1 : Nat) : Int) by omega]
                  exact rbuild (by omega) h21 h22 hn2
                have hne : (((x / 2 ^ k : Nat) : Int) + 1 == 9007199254740992) = false := by
                  rw [show (((x / 2 ^ k : Nat) : Int) + 1) = ((x / 2 ^ k + 1 : Nat) : Int) by omega]
                  exact neq53 h53
                exact rto_gen_2t_Phnx1 (ua := ua) (un := dlen x) (uc := uc) (ea := ea) (e2 := tE x ea) (t := (bl x : Int) + ea) (w := w) (hn0 := hn0) (ht := ht') (ht3 := by omega) (he1 := he1) (he2 := he2) (hmx := hmx) (h21 := h21) (h22 := h22) (hge := hge) (ht2 := ht2') (kH := kH) (X := x / 2 ^ k) (F := _) (hX := hX) (hne := hne) (kD1 := k1) (kD2 := kd2P h hc hl hi2 (by omega) hz (decide_eq_false hx)) (hf := hdd) (dd := dg (x / 2 ^ (k - 1)) 0) (kB := kB)
          · have hh2 : x / 2 ^ (k - 1) % 2 = 0 := by omega
            rw [hh2] at hdd
            have hv : n = x / 2 ^ k := by rw [hn]; simp [dnU, hh2]
            rw [hv] at hn1 hn2 ⊢
            exact rto_gen_2t_Plxx0 (ua := ua) (un := dlen x) (uc := uc) (ea := ea) (e2 := tE x ea) (t := (bl x : Int) + ea) (w := w) (hn0 := hn0) (ht := ht') (ht3 := by omega) (he1 := he1) (he2 := he2) (hmx := hmx) (h21 := h21) (h22 := h22) (hge := hge) (ht2 := ht2') (kH := kH) (X := x / 2 ^ k) (F := _) (hX := hX) (hne := neq53 (by omega)) (kD1 := k1) (kD2 := kd2P h hc hl hi2 (by omega) hz rfl) (hf := hdd) (dd := dg (x / 2 ^ (k - 1)) 0) (ex := decide (x % 2 ^ (k - 1) = 0)) (kB := fun W => rbuild hX h21 h22 hn2)
set_option maxHeartbeats 1000000 in
theorem rto_3f {ua : Option Addr} {uc x : Nat} {ea : Int} {w : World} (h : At w ua (dlen x) x) (hc : dlen x ≤ uc) (hodd : x % 2 = 1) (hl : dlen x ≤ 100000) (he1 : -4000000 ≤ ea) (he2 : ea ≤ 4000000) :
    Calls Tryz.prog 84 #[.agg #[.bool false, .slice ua (dlen x) uc, .int .i64 ea], .int .i64 3] w fun r w' => r = .returned (.float .f64 (sig false (bdy x ea 2))) ∧ Below w.heap.size w w' := by
  have h0 : x ≠ 0 := by omega
  have hw : (2 : Nat) = 0 ∨ (2 : Nat) = 1 ∨ (2 : Nat) = 2 := by omega
  have hn0 : ((dlen x : Int) == 0) = false := len_ne (n := 0) h0
  have hbl : bl x ≤ 32 * dlen x := bl_le_dlen x
  have hb1 := bl_ne h0
  have kH : ∀ W, Below w.heap.size w W → Calls Tryz.prog 96 #[.agg #[.bool false, .slice ua (dlen x) uc, .int .i64 ea]] W fun r w' => r = .returned (.int .i64 ((bl x : Int) + ea)) ∧ Below W.heap.size W w' := fun W hW => rhigh (h.later hW) h0 (by omega) ⟨he1, he2⟩
  by_cases ht : 1024 < (bl x : Int) + ea
  · rw [bdy_big h0 ht hw]
    exact rto_big_3f _ _ _ _ _ _ hn0 ht kH
  · have ht' : (bl x : Int) + ea ≤ 1024 := by omega
    have hmx := tE_max x ea
    obtain ⟨h21, h22⟩ := tE_bounds ht'
    by_cases hge : tE x ea ≤ ea
    · obtain ⟨hb, hlt, hg⟩ := bdy_up h0 ht' hge hw
      rw [hb]
      obtain ⟨k, hk⟩ : ∃ k : Nat, k = (ea - tE x ea).toNat := ⟨_, rfl⟩
      have hi : ea - tE x ea = (k : Int) := by omega
      rw [← hk] at hlt hg ⊢
      refine rto_up_3f (ua := ua) (un := dlen x) (uc := uc) (ea := ea) (e2 := tE x ea) (t := (bl x : Int) + ea) (w := w) (F := _) (hn0 := hn0) (ht := ht') (ht3 := by omega) (he1 := he1) (he2 := he2) (hmx := hmx) (h21 := h21) (h22 := h22) (hge := hge) (X := x * 2 ^ k) (hX := hlt) (kH := kH) (kU := fun W hW => ?_) (kB := fun W => rbuild hlt h21 h22 hg)
      rw [hi]
      exact rup ⟨ua, uc, rfl, hc, h.later hW⟩ k (by omega) (by omega)
    · have hlt : ea < tE x ea := by omega
      by_cases ht2 : (bl x : Int) + ea < -1075
      · rw [bdy_tiny h0 ht2 hw, if_pos rfl]
        exact rto_tiny_3f (ua := ua) (un := dlen x) (uc := uc) (ea := ea) (e2 := tE x ea) (t := (bl x : Int) + ea) (w := w) (F := _) (hn0 := hn0) (ht := ht') (ht3 := by omega) (he1 := he1) (he2 := he2) (hmx := hmx) (h21 := h21) (h22 := h22) (hge := hge) (ht2 := ht2) (kH := kH) (kB := fun W => rbuild_0 false 1 (-1074) W (by omega))
      · obtain ⟨k, hk⟩ : ∃ k : Nat, k = (tE x ea - ea).toNat := ⟨_, rfl⟩
        have hk1 : 1 ≤ k := by omega
        have hi : tE x ea - ea = (k : Int) := by omega
        have hi2 : tE x ea - ea - 1 = ((k - 1 : Nat) : Int) := by omega
        have hkb : k ≤ 10000000 := by unfold tE at hk; split at hk <;> omega
        obtain ⟨n, hn⟩ : ∃ n, n = if dnU x (tE x ea - ea).toNat 2 then x / 2 ^ (tE x ea - ea).toNat + 1 else x / 2 ^ (tE x ea - ea).toNat := ⟨_, rfl⟩
        obtain ⟨hn1, hn2, hb, hX⟩ := bdy_dn hodd ht' hlt hw hn
        rw [← hk] at hn hX
        rw [hb]
        have k1 := kd1 h hc hl hi hkb
        have hdd := and1_32 (d := dg (x / 2 ^ (k - 1)) 0) (X := x / 2 ^ (k - 1)) (dg_zero _)
        have hod := and1_64 hX
        have ht2' : -1075 ≤ (bl x : Int) + ea := by omega
        have hv : n = x / 2 ^ k + 1 := by rw [hn]; simp [dnU]
        by_cases hz : x / 2 ^ (k - 1) = 0
        · rw [hv] at hn1 hn2 ⊢
          by_cases h53 : x / 2 ^ k + 1 = 9007199254740992
          · have hXv : x / 2 ^ k = 9007199254740991 := by omega
            rw [hXv] at k1
            by_cases h9 : tE x ea = 971
            · rw [h53, show ((tE x ea + 1074).toNat * 4503599627370496 + 9007199254740992) = 9218868437227405312 by omega]
              exact rto_gen_3f_Zxxx3 (ua := ua) (un := dlen x) (uc := uc) (ea := ea) (e2 := tE x ea) (t := (bl x : Int) + ea) (w := w) (hn0 := hn0) (ht := ht') (ht3 := by omega) (he1 := he1) (he2 := he2) (hmx := hmx) (h21 := h21) (h22 := h22) (hge := hge) (ht2 := ht2') (kH := kH) (hnx := h9) (kD1 := k1) (kD2 := kd2Z h hc hl hi2 (by omega) hz) (ex := decide (x % 2 ^ (k - 1) = 0))
            · rw [h53, show ((tE x ea + 1074).toNat * 4503599627370496 + 9007199254740992) = (tE x ea + 1 + 1074).toNat * 4503599627370496 + 4503599627370496 by omega]
              exact rto_gen_3f_Zxxx2 (ua := ua) (un := dlen x) (uc := uc) (ea := ea) (e2 := tE x ea) (t := (bl x : Int) + ea) (w := w) (hn0 := hn0) (ht := ht') (ht3 := by omega) (he1 := he1) (he2 := he2) (hmx := hmx) (h21 := h21) (h22 := h22) (hge := hge) (ht2 := ht2') (kH := kH) (hnx := by omega) (kD1 := k1) (kD2 := kd2Z h hc hl hi2 (by omega) hz) (ex := decide (x % 2 ^ (k - 1) = 0)) (kB := fun W => rbuild (M := 4503599627370496) (e := tE x ea + 1) (by omega) (by omega) (by omega) (.inr (by omega))) (F := _)
          · have kB : ∀ W, Calls Tryz.prog 113 #[.bool false, .int .u64 (((x / 2 ^ k : Nat) : Int) + 1), .int .i64 (tE x ea)] W fun r w' => r = .returned (.float .f64 (sig false ((tE x ea + 1074).toNat * 4503599627370496 + (x / 2 ^ k + 1)))) ∧ w' = W := fun W => by
              rw [show (((x / 2 ^ k : Nat) : Int) + 1) = ((x / 2 ^ k + 1 : Nat) : Int) by omega]
              exact rbuild (by omega) h21 h22 hn2
            have hne : (((x / 2 ^ k : Nat) : Int) + 1 == 9007199254740992) = false := by
              rw [show (((x / 2 ^ k : Nat) : Int) + 1) = ((x / 2 ^ k + 1 : Nat) : Int) by omega]
              exact neq53 h53
            exact rto_gen_3f_Zxxx1 (ua := ua) (un := dlen x) (uc := uc) (ea := ea) (e2 := tE x ea) (t := (bl x : Int) + ea) (w := w) (hn0 := hn0) (ht := ht') (ht3 := by omega) (he1 := he1) (he2 := he2) (hmx := hmx) (h21 := h21) (h22 := h22) (hge := hge) (ht2 := ht2') (kH := kH) (X := x / 2 ^ k) (F := _) (hX := hX) (hne := hne) (kD1 := k1) (kD2 := kd2Z h hc hl hi2 (by omega) hz) (ex := decide (x % 2 ^ (k - 1) = 0)) (kB := kB)
        · rw [hv] at hn1 hn2 ⊢
          by_cases h53 : x / 2 ^ k + 1 = 9007199254740992
          · have hXv : x / 2 ^ k = 9007199254740991 := by omega
            rw [hXv] at k1
            by_cases h9 : tE x ea = 971
            · rw [h53, show ((tE x ea + 1074).toNat * 4503599627370496 + 9007199254740992) = 9218868437227405312 by omega]
              exact rto_gen_3f_Pxxx3 (ua := ua) (un := dlen x) (uc := uc) (ea := ea) (e2 := tE x ea) (t := (bl x : Int) + ea) (w := w) (hn0 := hn0) (ht := ht') (ht3 := by omega) (he1 := he1) (he2 := he2) (hmx := hmx) (h21 := h21) (h22 := h22) (hge := hge) (ht2 := ht2') (kH := kH) (hnx := h9) (kD1 := k1) (kD2 := kd2P h hc hl hi2 (by omega) hz rfl) (dd := dg (x / 2 ^ (k - 1)) 0) (ex := decide (x % 2 ^ (k - 1) = 0))
            · rw [h53, show ((tE x ea + 1074).toNat * 4503599627370496 + 9007199254740992) = (tE x ea + 1 + 1074).toNat * 4503599627370496 + 4503599627370496 by omega]
              exact rto_gen_3f_Pxxx2 (ua := ua) (un := dlen x) (uc := uc) (ea := ea) (e2 := tE x ea) (t := (bl x : Int) + ea) (w := w) (hn0 := hn0) (ht := ht') (ht3 := by omega) (he1 := he1) (he2 := he2) (hmx := hmx) (h21 := h21) (h22 := h22) (hge := hge) (ht2 := ht2') (kH := kH) (hnx := by omega) (kD1 := k1) (kD2 := kd2P h hc hl hi2 (by omega) hz rfl) (dd := dg (x / 2 ^ (k - 1)) 0) (ex := decide (x % 2 ^ (k - 1) = 0)) (kB := fun W => rbuild (M := 4503599627370496) (e := tE x ea + 1) (by omega) (by omega) (by omega) (.inr (by omega))) (F := _)
          · have kB : ∀ W, Calls Tryz.prog 113 #[.bool false, .int .u64 (((x / 2 ^ k : Nat) : Int) + 1), .int .i64 (tE x ea)] W fun r w' => r = .returned (.float .f64 (sig false ((tE x ea + 1074).toNat * 4503599627370496 + (x / 2 ^ k + 1)))) ∧ w' = W := fun W => by
              rw [show (((x / 2 ^ k : Nat) : Int) + 1) = ((x / 2 ^ k + 1 : Nat) : Int) by omega]
              exact rbuild (by omega) h21 h22 hn2
            have hne : (((x / 2 ^ k : Nat) : Int) + 1 == 9007199254740992) = false := by
              rw [show (((x / 2 ^ k : Nat) : Int) + 1) = ((x / 2 ^ k + 1 : Nat) : Int) by omega]
              exact neq53 h53
            exact rto_gen_3f_Pxxx1 (ua := ua) (un := dlen x) (uc := uc) (ea := ea) (e2 := tE x ea) (t := (bl x : Int) + ea) (w := w) (hn0 := hn0) (ht := ht') (ht3 := by omega) (he1 := he1) (he2 := he2) (hmx := hmx) (h21 := h21) (h22 := h22) (hge := hge) (ht2 := ht2') (kH := kH) (X := x / 2 ^ k) (F := _) (hX := hX) (hne := hne) (kD1 := k1) (kD2 := kd2P h hc hl hi2 (by omega) hz rfl) (dd := dg (x / 2 ^ (k - 1)) 0) (ex := decide (x % 2 ^ (k - 1) = 0)) (kB := kB)
set_option maxHeartbeats 1000000 in
theorem rto_3t {ua : Option Addr} {uc x : Nat} {ea : Int} {w : World} (h : At w ua (dlen x) x) (hc : dlen x ≤ uc) (hodd : x % 2 = 1) (hl : dlen x ≤ 100000) (he1 : -4000000 ≤ ea) (he2 : ea ≤ 4000000) :
    Calls Tryz.prog 84 #[.agg #[.bool true, .slice ua (dlen x) uc, .int .i64 ea], .int .i64 3] w fun r w' => r = .returned (.float .f64 (sig true (bdy x ea 0))) ∧ Below w.heap.size w w' := by
  have h0 : x ≠ 0 := by omega
  have hw : (0 : Nat) = 0 ∨ (0 : Nat) = 1 ∨ (0 : Nat) = 2 := by omega
  have hn0 : ((dlen x : Int) == 0) = false := len_ne (n := 0) h0
  have hbl : bl x ≤ 32 * dlen x := bl_le_dlen x
  have hb1 := bl_ne h0
  have kH : ∀ W, Below w.heap.size w W → Calls Tryz.prog 96 #[.agg #[.bool true, .slice ua (dlen x) uc, .int .i64 ea]] W fun r w' => r = .returned (.int .i64 ((bl x : Int) + ea)) ∧ Below W.heap.size W w' := fun W hW => rhigh (h.later hW) h0 (by omega) ⟨he1, he2⟩
  by_cases ht : 1024 < (bl x : Int) + ea
  · rw [bdy_big h0 ht hw]
    exact rto_big_3t _ _ _ _ _ _ _ hn0 ht kH (fun W => rbuild (M := 9007199254740991) (e := 971) (by omega) (by omega) (by omega) (.inr (by omega)))
  · have ht' : (bl x : Int) + ea ≤ 1024 := by omega
    have hmx := tE_max x ea
    obtain ⟨h21, h22⟩ := tE_bounds ht'
    by_cases hge : tE x ea ≤ ea
    · obtain ⟨hb, hlt, hg⟩ := bdy_up h0 ht' hge hw
      rw [hb]
      obtain ⟨k, hk⟩ : ∃ k : Nat, k = (ea - tE x ea).toNat := ⟨_, rfl⟩
      have hi : ea - tE x ea = (k : Int) := by omega
      rw [← hk] at hlt hg ⊢
      refine rto_up_3t (ua := ua) (un := dlen x) (uc := uc) (ea := ea) (e2 := tE x ea) (t := (bl x : Int) + ea) (w := w) (F := _) (hn0 := hn0) (ht := ht') (ht3 := by omega) (he1 := he1) (he2 := he2) (hmx := hmx) (h21 := h21) (h22 := h22) (hge := hge) (X := x * 2 ^ k) (hX := hlt) (kH := kH) (kU := fun W hW => ?_) (kB := fun W => rbuild hlt h21 h22 hg)
      rw [hi]
      exact rup ⟨ua, uc, rfl, hc, h.later hW⟩ k (by omega) (by omega)
    · have hlt : ea < tE x ea := by omega
      by_cases ht2 : (bl x : Int) + ea < -1075
      · rw [bdy_tiny h0 ht2 hw, if_neg (by decide)]
        exact rto_tiny_3t (ua := ua) (un := dlen x) (uc := uc) (ea := ea) (e2 := tE x ea) (t := (bl x : Int) + ea) (w := w) (F := _) (hn0 := hn0) (ht := ht') (ht3 := by omega) (he1 := he1) (he2 := he2) (hmx := hmx) (h21 := h21) (h22 := h22) (hge := hge) (ht2 := ht2) (kH := kH) (kB := fun W => rbuild_0 true 0 (-1074) W (by omega))
      · obtain ⟨k, hk⟩ : ∃ k : Nat, k = (tE x ea - ea).toNat := ⟨_, rfl⟩
        have hk1 : 1 ≤ k := by omega
        have hi : tE x ea - ea = (k : Int) := by omega
        have hi2 : tE x ea - ea - 1 = ((k - 1 : Nat) : Int) := by omega
        have hkb : k ≤ 10000000 := by unfold tE at hk; split at hk <;> omega
        obtain ⟨n, hn⟩ : ∃ n, n = if dnU x (tE x ea - ea).toNat 0 then x / 2 ^ (tE x ea - ea).toNat + 1 else x / 2 ^ (tE x ea - ea).toNat := ⟨_, rfl⟩
        obtain ⟨hn1, hn2, hb, hX⟩ := bdy_dn hodd ht' hlt hw hn
        rw [← hk] at hn hX
        rw [hb]
        have k1 := kd1 h hc hl hi hkb
        have hdd := and1_32 (d := dg (x / 2 ^ (k - 1)) 0) (X := x / 2 ^ (k - 1)) (dg_zero _)
        have hod := and1_64 hX
        have ht2' : -1075 ≤ (bl x : Int) + ea := by omega
        have hv : n = x / 2 ^ k := by rw [hn]; simp [dnU]
        by_cases hz : x / 2 ^ (k - 1) = 0
        · rw [hv] at hn1 hn2 ⊢
          exact rto_gen_3t_Zxxx0 (ua := ua) (un := dlen x) (uc := uc) (ea := ea) (e2 := tE x ea) (t := (bl x : Int) + ea) (w := w) (hn0 := hn0) (ht := ht') (ht3 := by omega) (he1 := he1) (he2 := he2) (hmx := hmx) (h21 := h21) (h22 := h22) (hge := hge) (ht2 := ht2') (kH := kH) (X := x / 2 ^ k) (F := _) (hX := hX) (hne := neq53 (by omega)) (kD1 := k1) (kD2 := kd2Z h hc hl hi2 (by omega) hz) (ex := decide (x % 2 ^ (k - 1) = 0)) (kB := fun W => rbuild hX h21 h22 hn2)
        · rw [hv] at hn1 hn2 ⊢
          exact rto_gen_3t_Pxxx0 (ua := ua) (un := dlen x) (uc := uc) (ea := ea) (e2 := tE x ea) (t := (bl x : Int) + ea) (w := w) (hn0 := hn0) (ht := ht') (ht3 := by omega) (he1 := he1) (he2 := he2) (hmx := hmx) (h21 := h21) (h22 := h22) (hge := hge) (ht2 := ht2') (kH := kH) (X := x / 2 ^ k) (F := _) (hX := hX) (hne := neq53 (by omega)) (kD1 := k1) (kD2 := kd2P h hc hl hi2 (by omega) hz rfl) (dd := dg (x / 2 ^ (k - 1)) 0) (ex := decide (x % 2 ^ (k - 1) = 0)) (kB := fun W => rbuild hX h21 h22 hn2)
/-- the document's rounding: the body that the program's comes to -/
theorem rto {neg : Bool} {ua : Option Addr} {uc x : Nat} {ea m : Int} {w : World} (h : At w ua (dlen x) x) (hc : dlen x ≤ uc) (hodd : x % 2 = 1) (hl : dlen x ≤ 100000) (he1 : -4000000 ≤ ea) (he2 : ea ≤ 4000000) (hm : 1 ≤ m ∧ m ≤ 3) :
    Calls Tryz.prog 84 #[.agg #[.bool neg, .slice ua (dlen x) uc, .int .i64 ea], .int .i64 m] w fun r w' => r = .returned (.float .f64 (sig neg (bdy x ea (wyN neg m)))) ∧ Below w.heap.size w w' := by
  rcases (show m = 1 ∨ m = 2 ∨ m = 3 by omega) with rfl | rfl | rfl <;> cases neg
  · exact rto_1f h hc hodd hl he1 he2
  · exact rto_1t h hc hodd hl he1 he2
  · exact rto_2f h hc hodd hl he1 he2
  · exact rto_2t h hc hodd hl he1 he2
  · exact rto_3f h hc hodd hl he1 he2
  · exact rto_3t h hc hodd hl he1 he2
end Go.Proofs.YtajeodimbfppiaaGreatDoor

/- The document's mode, Round, Between. -/
namespace Go.Proofs.YtajeodimbfppiaaGreatDoor
set_option linter.unusedVariables false
set_option linter.unusedSimpArgs false
open Go.RowKit Go.Fl64
open Ie

end Go.Proofs.YtajeodimbfppiaaGreatDoor

/- The document's Between. -/
namespace Go.Proofs.YtajeodimbfppiaaGreatDoor
set_option linter.unusedVariables false
set_option linter.unusedSimpArgs false
open Go.RowKit

set_option maxHeartbeats 4000000 in
set_option maxRecDepth 200000 in
theorem rbet_e (s : Bool) (ao : Option Addr) (n cap F : Nat) (e place m : Int) (w : World) (kT : ∀ W, Below w.heap.size w W → Calls Tryz.prog 84 #[.agg #[.bool s, .slice ao n cap, .int .i64 e], .int .i64 m] W fun r w' => r = .returned (.float .f64 F) ∧ Below W.heap.size W w') :
    Calls Tryz.prog 98 #[.agg #[.bool s, .slice ao n cap, .int .i64 e], .bool true, .int .i64 place, .int .i64 m] w fun r w' => r = .returned (.float .f64 F) ∧ Below w.heap.size w w' := by
  obtain ⟨W, hW⟩ : ∃ W, W = w.alloc (.cells #[.bool s, .slice ao n cap, .int .i64 e] 38) := ⟨_, rfl⟩
  have hBW : Below w.heap.size w W := by rw [hW]; exact (Below.refl _ _).alloc (Nat.le_refl _) _
  have HX : Hid (Below w.heap.size w W) := hBW
  have k := kT W hBW
  clear kT hBW
  go_enter Tryz.func98, Tryz.ntmps98
  go_wp2_with fail
  rw [← hW]
  clear hW
  refine k.mono ?_
  rintro r w1 ⟨rfl, hb1⟩
  have HB1 : Hid (Below W.heap.size W w1) := hb1
  clear k hb1
  go_wp2
  go_ret
  exact ⟨rfl, HX.out.trans (HB1.out.mono HX.out.size)⟩
set_option maxHeartbeats 4000000 in
set_option maxRecDepth 200000 in
theorem rbet_r (s : Bool) (ao : Option Addr) (n cap F : Nat) (e place m : Int) (s' : Bool) (z' : Nat) (e' : Int) (w : World) (hp1 : -1000000 ≤ place) (hp2 : place ≤ 1000000)
    (kP : ∀ g W, Below w.heap.size w W → At W (some ⟨g, 0, none⟩) 1 1 → Calls Tryz.prog 30 #[.agg #[.bool s, .slice ao n cap, .int .i64 e], .agg #[.bool false, .slice (some ⟨g, 0, none⟩) 1 1, .int .i64 (-(place + 1))]] W fun r w' => ∃ a, r = .returned a ∧ NC w' W.heap.size a s' z' e' ∧ Below W.heap.size W w')
    (kT : ∀ W A, Below w.heap.size w W → NC W w.heap.size A s' z' e' → Calls Tryz.prog 84 #[A, .int .i64 m] W fun r w' => r = .returned (.float .f64 F) ∧ Below W.heap.size W w') :
    Calls Tryz.prog 98 #[.agg #[.bool s, .slice ao n cap, .int .i64 e], .bool false, .int .i64 place, .int .i64 m] w fun r w' => r = .returned (.float .f64 F) ∧ Below w.heap.size w w' := by
  obtain ⟨W, hW⟩ : ∃ W, W = w.alloc (.cells #[.bool s, .slice ao n cap, .int .i64 e] 38) := ⟨_, rfl⟩
  have hBW : Below w.heap.size w W := by rw [hW]; exact (Below.refl _ _).alloc (Nat.le_refl _) _
  have hA : W.heap[w.heap.size]? = some (.cells #[.bool s, .slice ao n cap, .int .i64 e] 38 (0, 0)) := by rw [hW]; exact heap_alloc_new _ _
  have hsz : W.heap.size = w.heap.size + 1 := by rw [hW]; simp
  have HX : Hid (Below w.heap.size w W ∧ W.heap.size = w.heap.size + 1 ∧ W.heap[w.heap.size]? = some (.cells #[.bool s, .slice ao n cap, .int .i64 e] 38 (0, 0))) := ⟨hBW, hsz, hA⟩
  have HKT : Hid (∀ W A, Below w.heap.size w W → NC W w.heap.size A s' z' e' → Calls Tryz.prog 84 #[A, .int .i64 m] W fun r w' => r = .returned (.float .f64 F) ∧ Below W.heap.size W w') := kT
  have HK : Hid (∀ w', Below W.heap.size W w' → (w'.cell? ⟨w.heap.size, 0, none⟩ = some (.bool s) ∧ w'.cell? ⟨w.heap.size, 1, none⟩ = some (.slice ao n cap) ∧ w'.cell? ⟨w.heap.size, 2, none⟩ = some (.int .i64 e))) := fun w' hb => (box_cells29 (box_later HX.out.2.2 hb (by have := HX.out.2.1; omega))).1
  have kO : ∀ w8, Below W.heap.size W w8 → Calls Tryz.prog 136 #[.int .i64 (place + 1)] w8 fun r w' => ∃ g, r = .returned (.agg #[.bool false, .slice (some ⟨g, 0, none⟩) 1 1, .int .i64 (-(place + 1))]) ∧ Hid (At w' (some ⟨g, 0, none⟩) 1 1) ∧ Below W.heap.size W w' ∧ (w'.cell? ⟨w.heap.size, 0, none⟩ = some (.bool s) ∧ w'.cell? ⟨w.heap.size, 1, none⟩ = some (.slice ao n cap) ∧ w'.cell? ⟨w.heap.size, 2, none⟩ = some (.int .i64 e)) := fun w8 hb => (rone (place + 1) w8 (by omega) (by omega)).mono fun r w' ⟨g, e1, e2, e3, e4⟩ => ⟨g, e1, e3, hb.trans (e4.mono hb.size), HK.out w' (hb.trans (e4.mono hb.size))⟩
  have kL : ∀ g w9, Hid (At w9 (some ⟨g, 0, none⟩) 1 1) → Below W.heap.size W w9 → Calls Tryz.prog 30 #[.agg #[.bool s, .slice ao n cap, .int .i64 e], .agg #[.bool false, .slice (some ⟨g, 0, none⟩) 1 1, .int .i64 (-(place + 1))]] w9 fun r w' => ∃ s9 ao9 n9 cap9 ex9, r = .returned (.agg #[.bool s9, .slice ao9 n9 cap9, .int .i64 ex9]) ∧ Hid (NC w' W.heap.size (.agg #[.bool s9, .slice ao9 n9 cap9, .int .i64 ex9]) s' z' e') ∧ Below W.heap.size W w' ∧ Hid (w'.heap[w.heap.size]? = some (.cells #[.bool s, .slice ao n cap, .int .i64 e] 38 (0, 0))) ∧ (w'.cell? ⟨w.heap.size, 0, none⟩ = some (.bool s) ∧ w'.cell? ⟨w.heap.size, 1, none⟩ = some (.slice ao n cap) ∧ w'.cell? ⟨w.heap.size, 2, none⟩ = some (.int .i64 e)) ∧ (w'.frozen? ⟨w.heap.size, 0, none⟩ = false ∧ w'.frozen? ⟨w.heap.size, 1, none⟩ = false ∧ w'.frozen? ⟨w.heap.size, 2, none⟩ = false) := by
    intro g w9 hA hb
    refine (kP g w9 (HX.out.1.trans (hb.mono HX.out.1.size)) hA.out).mono ?_
    rintro r w10 ⟨A, rfl, hN, hb10⟩
    obtain ⟨s9, ao9, n9, cap9, ex9, rfl⟩ := hN.shape
    have hbb := hb.trans (hb10.mono hb.size)
    have hblk := box_later HX.out.2.2 hbb (by have := HX.out.2.1; omega)
    obtain ⟨f1, f2⟩ := box_cells29 hblk
    exact ⟨s9, ao9, n9, cap9, ex9, rfl, hN.mono hb.size, hbb, hblk, f1, f2⟩
  obtain ⟨d0, d1, d2⟩ := HK.out W (Below.refl _ _)
  have hBR : Below W.heap.size W W.drew := (Below.refl _ _).drew
  have hpw : IntKind.i64.wrap (place + 1) = place + 1 := by rw [IntKind.wrap_i64]; omega
  clear kT hA hsz hBW
  go_enter Tryz.func98, Tryz.ntmps98
  go_upto_region 2 with fail
  rw [← hW]
  clear hW
  go_cut [15] from 11 to 15 (fun v wx => ∃ s9 ao9 n9 cap9 ex9, v = .agg #[.bool s9, .slice ao9 n9 cap9, .int .i64 ex9] ∧ Hid (NC wx W.heap.size (.agg #[.bool s9, .slice ao9 n9 cap9, .int .i64 ex9]) s' z' e') ∧ Hid (wx.heap[w.heap.size]? = some (.cells #[.bool s9, .slice ao9 n9 cap9, .int .i64 ex9] 38 (0, 0))) ∧ Hid (Below w.heap.size W wx))
  case first =>
    go_region_with (first | (go_at_call 136; refine (kO _ (by first | (with_reducible assumption) | exact hBR | exact Below.refl _ _)).mono ?_; rintro r w8 ⟨g8, rfl, hA8, hb8, ⟨y1, y2, y3⟩⟩) | (go_at_call 30; refine (kL _ _ hA8 (by with_reducible assumption)).mono ?_; rintro r w9 ⟨s9, ao9, n9, cap9, ex9, rfl, hN9, hb9, hblk9, ⟨x1, x2, x3⟩, x4, x5, x6⟩))
    all_goals go_wp2_with fail
    all_goals go_meet
    all_goals exact ⟨s9, ao9, n9, cap9, ex9, rfl, hN9.out.store (by have := HX.out.2.1; omega) _ _ _, store3_29 _ _ _ hblk9.out, below_store3 (hb9.mono HX.out.1.size) (Nat.le_refl _) _ _ _⟩
  case rest =>
    obtain ⟨s9, ao9, n9, cap9, ex9, rfl, hN9, hB9, hL9⟩ := hcut
    obtain ⟨wx, rfl⟩ : ∃ wx : World, wx = wc := ⟨_, rfl⟩
    have HBx : Hid (Below w.heap.size w wx) := HX.out.1.trans hL9.out
    clear d0 d1 d2
    obtain ⟨⟨d0, d1, d2⟩, -⟩ := box_cells29 hB9.out
    have kt := HKT.out wx _ HBx.out (hN9.out.mono HX.out.1.size)
    clear kO kL hBR
    go_wp2_with fail
    refine kt.mono ?_
    rintro r w11 ⟨rfl, hb11⟩
    have HB11 : Hid (Below w.heap.size w w11) := HBx.out.trans (hb11.mono HBx.out.size)
    clear kt hb11
    go_wp2
    go_ret
    exact ⟨rfl, HB11.out⟩
end Go.Proofs.YtajeodimbfppiaaGreatDoor

/- The document's SqrtTo. -/
namespace Go.Proofs.YtajeodimbfppiaaGreatDoor
set_option linter.unusedVariables false
set_option linter.unusedSimpArgs false
open Go.RowKit

end Go.Proofs.YtajeodimbfppiaaGreatDoor
