/- Own work: contracts of the program's functions, part 12: RT3 RT7 RY1 RY2 RY3 RY4 FM6 FM7 FM8 RY5 SA7 SA8 SA9 UA1 UA2 UA3 UA4 UA5 UA6 UA7 SB1 SB2 SB3. -/
import Derived.Test.YtcoclopllbfjcaaGreatDoorA11
import Derived.Test.YtcoclopllbfjcaaGreatDoorA9
import Derived.Test.YtcoclopllbfjcaaGreatDoorA8
import Derived.Deep.CutBlock
import Derived.Test.YtcoclopllbfjcaaGreatDoorA10
import Derived.Test.YtcoclopllbfjcaaGreatDoorA7
import Derived.RangeFuncNested
import Derived.RangeFuncBound
import Derived.RangeFuncCalls
import Derived.RangeFuncLeaves
import Derived.Test.YtcoclopllbfjcaaGreatDoorA3
import Derived.Shelf.Abstract
import Derived.Shelf.RegionOpen
import Derived.WalkKit
import Derived.OwnWalkIn
import Derived.TacticsInMore
import Derived.LoopNIn
import Derived.LoopIn
import Derived.Test.YtcoclopllbfjcaaGreatDoorA5

set_option maxHeartbeats 16000000
namespace Go.Proofs.YtcoclopllbfjcaaGreatDoor
set_option linter.unusedVariables false
set_option linter.unusedSimpArgs false
open Go.RowKit Go.Fl64
open Ie
theorem below_drewN {g : Nat} {a b : World} (h : Below g a b) (n : Nat) : Below g a (b.drewN n) := h.trans ⟨rfl, rfl, rfl, Nat.le_refl _, fun _ _ => rfl⟩
theorem and1_32 {d X : Nat} (h : d = X % B) : (bits BinOp.and IntKind.u32 (d : Int) 1 == 1) = (X % 2 == 1) := by
  have hB : B = 4294967296 := rfl
  have h2 := u32_and_nat d 1 (by rw [h, hB]; omega) (by decide)
  rw [show ((1 : Nat) : Int) = 1 from rfl] at h2
  rw [h2, Nat.and_one_is_mod, h, show X % B % 2 = X % 2 by rw [hB]; omega]
  rcases Nat.mod_two_eq_zero_or_one X with h | h <;> rw [h] <;> rfl
theorem and1_64 {X : Nat} (h : X < 9007199254740992) : (bits BinOp.and IntKind.u64 (X : Int) 1 == 1) = (X % 2 == 1) := by
  have h2 := u64_and_nat X 1 (by omega) (by decide)
  rw [show ((1 : Nat) : Int) = 1 from rfl] at h2
  rw [h2, Nat.and_one_is_mod]
  rcases Nat.mod_two_eq_zero_or_one X with h | h <;> rw [h] <;> rfl
theorem q53 {e : Int} (h : -1074 ≤ e) : Hid ((e + 1 + 1074).toNat * 4503599627370496 + 4503599627370496 = (e + 1074).toNat * 4503599627370496 + (9007199254740991 + 1)) := by
  have h1 : (e + 1 + 1074).toNat = (e + 1074).toNat + 1 := by omega
  show _ = _
  rw [h1]; omega
theorem neq53 {n : Nat} (h : n ≠ 9007199254740992) : ((n : Int) == 9007199254740992) = false := by
  have : ((n : Nat) : Int) ≠ 9007199254740992 := by omega
  simpa using this
theorem tE_max (x : Nat) (E : Int) : max ((bl x : Int) + E - 53) (-1074) = tE x E := by unfold tE; split <;> omega
theorem kdn {w : World} {ua : Option Addr} {uc x : Nat} (h : At w ua (dlen x) x) (hc : dlen x ≤ uc) (hl : dlen x ≤ 100000) {i : Int} {k : Nat} (hi : i = (k : Int)) (hk : k ≤ 10000000) :
    ∀ W, Below w.heap.size w W → Calls Tryz.prog 112 #[.slice ua (dlen x) uc, .int .i64 i] W fun r w' => ∃ ao n cap, r = .returned (.tuple #[.slice ao n cap, .bool (decide (x % 2 ^ k = 0))]) ∧ Ir w' (.slice ao n cap) (x / 2 ^ k) ∧ Below W.heap.size W w' := by
  intro W hW
  subst hi
  refine (rdown (v := .slice ua (dlen x) uc) (⟨ua, uc, rfl, hc, h.later hW⟩ : Ir W _ x) k (by omega) (by omega)).mono ?_
  rintro r w' ⟨ao, cap', rfl, hA, hc', hB⟩
  exact ⟨_, _, _, rfl, ⟨ao, cap', rfl, hc', hA⟩, hB⟩
set_option maxRecDepth 200000 in
theorem rto {neg : Bool} {ua : Option Addr} {uc x : Nat} {ea m : Int} {w : World} (h : At w ua (dlen x) x) (hc : dlen x ≤ uc) (hodd : x % 2 = 1) (hl : dlen x ≤ 100000) (he1 : -4000000 ≤ ea) (he2 : ea ≤ 4000000) (hm : 1 ≤ m ∧ m ≤ 3) :
    Calls Tryz.prog 66 #[.agg #[.bool neg, .slice ua (dlen x) uc, .int .i64 ea], .int .i64 m] w fun r w' => r = .returned (.float .f64 (sig neg (bdy x ea (wyN neg m)))) ∧ Below w.heap.size w w' := by
  have h0 : x ≠ 0 := by omega
  have hn0 : ((dlen x : Int) == 0) = false := len_ne (n := 0) h0
  have hbl : bl x ≤ 32 * dlen x := bl_le_dlen x
  have hb1 := bl_ne h0
  obtain ⟨ow, how⟩ : ∃ ow : Bool, (m == 3 && !neg || m == 1 && neg) = ow := ⟨_, rfl⟩
  obtain ⟨nr, hnr⟩ : ∃ nr : Bool, (m == 2) = nr := ⟨_, rfl⟩
  obtain ⟨wy, hwy⟩ : ∃ y, wyN neg m = y := ⟨_, rfl⟩
  have hm3 : m = 1 ∨ m = 2 ∨ m = 3 := by omega
  have hY : wy = 0 ∧ nr = false ∧ ow = false ∨ wy = 1 ∧ nr = true ∧ ow = false ∨ wy = 2 ∧ nr = false ∧ ow = true := by
    rcases hm3 with rfl | rfl | rfl <;> cases neg <;> subst how hnr hwy <;> simp [wyN]
  rw [hwy]
  have hw : wy = 0 ∨ wy = 1 ∨ wy = 2 := by omega
  obtain ⟨F, hF⟩ : ∃ F, F = sig neg (bdy x ea wy) := ⟨_, rfl⟩
  rw [← hF]
  obtain ⟨t, ht⟩ : ∃ t : Int, t = (bl x : Int) + ea := ⟨_, rfl⟩
  have ht3 : -4000000 ≤ t := by omega
  have ht4 : t ≤ 7200000 := by omega
  have kH : ∀ W, Below w.heap.size w W → Calls Tryz.prog 106 #[.agg #[.bool neg, .slice ua (dlen x) uc, .int .i64 ea]] W fun r w' => r = .returned (.int .i64 t) ∧ Below W.heap.size W w' := fun W hW => by rw [ht]; exact rhigh (h.later hW) h0 (by omega) ⟨he1, he2⟩
  have HN : Hid (At w ua (dlen x) x ∧ dlen x ≤ uc ∧ dlen x ≤ 100000) := ⟨h, hc, hl⟩
  have HT : Hid (t = (bl x : Int) + ea ∧ x % 2 = 1 ∧ F = sig neg (bdy x ea wy) ∧ (wy = 0 ∨ wy = 1 ∨ wy = 2)) := ⟨ht, hodd, hF, hw⟩
  have HY : Hid (wy = 0 ∧ nr = false ∧ ow = false ∨ wy = 1 ∧ nr = true ∧ ow = false ∨ wy = 2 ∧ nr = false ∧ ow = true) := hY
  have HO : Hid ((m == 3 && !neg || m == 1 && neg) = ow) := how
  have HM : Hid (m = 1 ∨ m = 2 ∨ m = 3) := hm3
  clear h hc hodd hl hwy hm hm3 hbl hb1 hF ht hw hY how h0
  obtain ⟨un, hun⟩ : ∃ n, n = dlen x := ⟨_, rfl⟩
  rw [← hun] at hn0 kH HN ⊢
  have HU : Hid (un = dlen x) := hun
  clear hun
  obtain ⟨W, hW⟩ : ∃ W, W = w.alloc (.cells #[.bool neg, .slice ua un uc, .int .i64 ea] 45) := ⟨_, rfl⟩
  have hBW : Below w.heap.size w W := by rw [hW]; exact (Below.refl _ _).alloc (Nat.le_refl _) _
  have hA : W.heap[w.heap.size]? = some (.cells #[.bool neg, .slice ua un uc, .int .i64 ea] 45 (0, 0)) := by rw [hW]; exact heap_alloc_new _ _
  have hsz : W.heap.size = w.heap.size + 1 := by rw [hW]; simp
  have HX : Hid (Below w.heap.size w W) := hBW
  have HK : Hid (∀ w', Below W.heap.size W w' → w'.cell? ⟨w.heap.size, 0, none⟩ = some (.bool neg) ∧ w'.cell? ⟨w.heap.size, 1, none⟩ = some (.slice ua un uc) ∧ w'.cell? ⟨w.heap.size, 2, none⟩ = some (.int .i64 ea)) := fun w' hb => (box_cells29 (box_later hA hb (by omega))).1
  have k := kH W hBW
  obtain ⟨a0, a1, a2⟩ := HK.out W (Below.refl _ _)
  clear kH hA hsz hBW
  go_enter Tryz.func66, Tryz.ntmps66
  go_upto_region 4 with fail
  rw [← hW]
  clear hW
  go_cut [6] from 22 to 36 (fun v wx => v = .bool ow ∧ wx = W)
  case first =>
    have hO := HO.out
    rcases HM.out with rfl | rfl | rfl <;> cases neg <;> go_wp2 <;> go_meet <;> exact ⟨by rw [← hO]; rfl, rfl⟩
  case rest =>
    obtain ⟨rfl, rfl⟩ := hcut
    clear HO HM
    go_wp2_with fail
    refine k.mono ?_
    rintro r w1 ⟨rfl, hb1⟩
    have HB1 : Hid (Below wc.heap.size wc w1) := hb1
    clear k a0 a1 a2
    obtain ⟨a0, a1, a2⟩ := HK.out w1 hb1
    clear hb1
    have kS0 : ∀ W, Calls Tryz.prog 113 #[.bool false] W fun r w' => r = .returned (.int .i64 0) ∧ w' = W := fun W => rsignb false W
    have kS1 : ∀ W, Calls Tryz.prog 113 #[.bool true] W fun r w' => r = .returned (.int .i64 1) ∧ w' = W := fun W => rsignb true W
    have kI0 := c61
    have kI1 := cinf_m
    by_cases hbig : 1024 < t
    · obtain ⟨e1, e2, e3, e4⟩ := HT.out
      rw [bdy_big (by omega) (by omega) e4] at e3
      have HF : Hid (F = sig neg (if wy = 0 then 9218868437227405311 else 9218868437227405312)) := e3
      have kB : ∀ W, Calls Tryz.prog 114 #[.bool neg, .int .u64 9007199254740991, .int .i64 971] W fun r w' => r = .returned (.float .f64 (sig neg 9218868437227405311)) ∧ w' = W := fun W => rbuild (M := 9007199254740991) (e := 971) (by omega) (by omega) (by omega) (.inr (by omega))
      clear e1 e2 e3 e4 HT
      cases neg <;> rcases HY.out with ⟨rfl, rfl, rfl⟩ | ⟨rfl, rfl, rfl⟩ | ⟨rfl, rfl, rfl⟩
      all_goals go_wp2_with (first | (go_at_call 113; (first | (with_reducible refine (kS0 _).mono ?_) | (with_reducible refine (kS1 _).mono ?_)); rintro r w2 ⟨rfl, rfl⟩) | (go_at_call 44; (first | (with_reducible refine (kI0 _).mono ?_) | (with_reducible refine (kI1 _).mono ?_)); rintro r w2 ⟨rfl, rfl⟩) | (go_at_call 114; refine (kB _).mono ?_; rintro r w2 ⟨rfl, rfl⟩))
      all_goals go_ret
      all_goals exact ⟨by rw [HF.out]; rfl, HX.out.trans (HB1.out.mono HX.out.size)⟩
    · obtain ⟨e2, he⟩ : ∃ e2, e2 = tE x ea := ⟨_, rfl⟩
      have hmx : max (t - 53) (-1074) = e2 := by rw [HT.out.1, he]; exact tE_max x ea
      have htb : (bl x : Int) + ea ≤ 1024 := by have := HT.out.1; omega
      obtain ⟨h21, h22⟩ := tE_bounds htb
      rw [← he] at h21 h22
      have HE : Hid (e2 = tE x ea ∧ (bl x : Int) + ea ≤ 1024) := ⟨he, htb⟩
      clear he htb
      by_cases hge : e2 ≤ ea
      · obtain ⟨k, hk⟩ : ∃ k : Nat, k = (ea - e2).toNat := ⟨_, rfl⟩
        obtain ⟨hb, hlt, hg⟩ := bdy_up (by have := HT.out.2.1; omega) HE.out.2 (by rw [← HE.out.1]; exact hge) HT.out.2.2.2
        rw [← HE.out.1, ← hk] at hb hlt hg
        obtain ⟨X, hX⟩ : ∃ X, X = x * 2 ^ k := ⟨_, rfl⟩
        rw [← hX] at hb hlt hg
        have HF : Hid (F = sig neg ((e2 + 1074).toNat * 4503599627370496 + X)) := by have := HT.out.2.2.1; rw [hb] at this; exact this
        have kU : Calls Tryz.prog 68 #[.slice ua un uc, .int .i64 (ea - e2)] w1 fun r w' => ∃ v, r = .returned v ∧ Ir w' v X ∧ Below w1.heap.size w1 w' := by
          rw [show ea - e2 = (k : Int) by omega, hX]
          have hu := HU.out
          obtain ⟨q1, q2, q3⟩ := HN.out
          subst hu
          exact rup ⟨ua, uc, rfl, q2, q1.later (HX.out.trans (HB1.out.mono HX.out.size))⟩ k (by omega) (by omega)
        have kB : ∀ W, Calls Tryz.prog 114 #[.bool neg, .int .u64 (X : Nat), .int .i64 e2] W fun r w' => r = .returned (.float .f64 (sig neg ((e2 + 1074).toNat * 4503599627370496 + X))) ∧ w' = W := fun W => rbuild hlt h21 h22 hg
        have HL : Hid (X < 9007199254740992) := hlt
        clear hb hlt hg hX hk HT
        go_wp2_with (first | (go_at_call 68; refine kU.mono ?_; rintro r w2 ⟨v, rfl, hv, hb2⟩))
        have HB2 : Hid (Below wc.heap.size wc w2) := HB1.out.trans (hb2.mono HB1.out.size)
        obtain ⟨a0, a1, a2⟩ := HK.out w2 HB2.out
        have kS : ∀ d, Calls Tryz.prog 115 #[v] (w2.drewN d) fun r w' => r = .returned (.int .u64 X) ∧ w' = w2.drewN d := fun d => rsmall (hv.later ⟨rfl, rfl, rfl, Nat.le_refl _, fun _ _ => rfl⟩) HL.out
        clear kU hb2 hv
        go_quiet (first | (go_at_call 115; refine Calls.quiet_of_same (kS _)) | (go_at_call 114; refine Calls.quiet_of_same (kB _)))
        go_wp2
        go_ret
        exact ⟨by rw [HF.out]; rfl, HX.out.trans ((below_drewN HB2.out _).mono HX.out.size)⟩
      · by_cases ht2 : t < -1075
        · obtain ⟨e1, e2', e3, e4⟩ := HT.out
          rw [bdy_tiny (by omega) (by omega) e4] at e3
          have HF : Hid (F = sig neg (if wy = 2 then 1 else 0)) := e3
          have kB0 : ∀ W, Calls Tryz.prog 114 #[.bool neg, .int .u64 0, .int .i64 (-1074)] W fun r w' => r = .returned (.float .f64 (sig neg 0)) ∧ w' = W := fun W => rbuild_0 neg 0 (-1074) W (by omega)
          have kB1 : ∀ W, Calls Tryz.prog 114 #[.bool neg, .int .u64 1, .int .i64 (-1074)] W fun r w' => r = .returned (.float .f64 (sig neg 1)) ∧ w' = W := fun W => rbuild_0 neg 1 (-1074) W (by omega)
          clear e1 e2' e3 e4 HT
          rcases HY.out with ⟨rfl, rfl, rfl⟩ | ⟨rfl, rfl, rfl⟩ | ⟨rfl, rfl, rfl⟩
          all_goals go_wp2_with (first | (go_at_call 114; (first | (with_reducible refine (kB0 _).mono ?_) | (with_reducible refine (kB1 _).mono ?_)); rintro r w2 ⟨rfl, rfl⟩))
          all_goals go_ret
          all_goals exact ⟨by rw [HF.out]; rfl, HX.out.trans (HB1.out.mono HX.out.size)⟩
        · obtain ⟨k, hk⟩ : ∃ k : Nat, k = (e2 - ea).toNat := ⟨_, rfl⟩
          have hi : e2 - ea = (k : Int) := by omega
          have hi2 : e2 - ea - 1 = ((k - 1 : Nat) : Int) := by omega
          have hkb : k ≤ 10000000 := by omega
          obtain ⟨N, hN⟩ : ∃ n, n = if dnU x (tE x ea - ea).toNat wy then x / 2 ^ (tE x ea - ea).toNat + 1 else x / 2 ^ (tE x ea - ea).toNat := ⟨_, rfl⟩
          obtain ⟨hn1, hn2, hb, hX⟩ := bdy_dn HT.out.2.1 HE.out.2 (by rw [← HE.out.1]; omega) HT.out.2.2.2 hN
          rw [← HE.out.1, ← hk] at hN hX
          rw [← HE.out.1] at hb hn2
          have HF : Hid (F = sig neg ((e2 + 1074).toNat * 4503599627370496 + N)) := by have := HT.out.2.2.1; rw [hb] at this; exact this
          have hu := HU.out
          obtain ⟨q1, q2, q3⟩ := HN.out
          subst hu
          have q3' := q3
          have HD1 : Hid (∀ V, Below w.heap.size w V → Calls Tryz.prog 112 #[.slice ua (dlen x) uc, .int .i64 (e2 - ea)] V fun r w' => ∃ ao n cap, r = .returned (.tuple #[.slice ao n cap, .bool (decide (x % 2 ^ k = 0))]) ∧ Ir w' (.slice ao n cap) (x / 2 ^ k) ∧ Below V.heap.size V w') := kdn q1 q2 q3 hi hkb
          have HD2 : Hid (∀ V, Below w.heap.size w V → Calls Tryz.prog 112 #[.slice ua (dlen x) uc, .int .i64 (e2 - ea - 1)] V fun r w' => ∃ ao n cap, r = .returned (.tuple #[.slice ao n cap, .bool (decide (x % 2 ^ (k - 1) = 0))]) ∧ Ir w' (.slice ao n cap) (x / 2 ^ (k - 1)) ∧ Below V.heap.size V w') := kdn q1 q2 q3 hi2 (by omega)
          have hod := and1_64 hX
          have HG : Hid (N ≤ 9007199254740992 ∧ (e2 = -1074 ∨ 4503599627370496 ≤ N) ∧ N = if dnU x k wy then x / 2 ^ k + 1 else x / 2 ^ k) := ⟨hn1, hn2, hN⟩
          clear HT HN HU q1 q2 q3 hi hi2 hn1 hn2 hb hN hk hkb
          unfold dnU at HG
          obtain ⟨X, hXe⟩ : ∃ X, X = x / 2 ^ k := ⟨_, rfl⟩
          obtain ⟨Y, hYe⟩ : ∃ X, X = x / 2 ^ (k - 1) := ⟨_, rfl⟩
          obtain ⟨hf, hfe⟩ : ∃ b : Bool, b = (Y % 2 == 1) := ⟨_, rfl⟩
          obtain ⟨od, hode⟩ : ∃ b : Bool, b = (X % 2 == 1) := ⟨_, rfl⟩
          obtain ⟨ex, hex⟩ : ∃ b : Bool, b = decide (x % 2 ^ (k - 1) = 0) := ⟨_, rfl⟩
          rw [show (x % 2 ^ (k - 1) == 0) = decide (x % 2 ^ (k - 1) = 0) from rfl, ← hex, ← hXe, ← hYe, ← hfe, ← hode] at HG
          rw [← hXe] at hX hod HD1
          rw [← hode] at hod
          rw [← hex, ← hYe] at HD2
          have HFE : Hid (hf = (Y % 2 == 1) ∧ dlen Y ≤ 100000) := ⟨hfe, by rw [hYe]; exact Nat.le_trans (dlen_mono (Nat.div_le_self _ _)) q3'⟩
          clear q3'
          generalize dlen x = un at *
          generalize decide (x % 2 ^ k = 0) = ex0 at HD1
          clear hXe hYe hfe hode hex
          have kD1 := HD1.out w1 (HX.out.trans (HB1.out.mono HX.out.size))
          go_wp2_with fail
          refine kD1.mono ?_
          rintro r w2 ⟨ao1, n1, c1, rfl, hv, hb2⟩
          have HB2 : Hid (Below wc.heap.size wc w2) := HB1.out.trans (hb2.mono HB1.out.size)
          clear a0 a1 a2 kD1
          obtain ⟨a0, a1, a2⟩ := HK.out w2 HB2.out
          have kS := rsmall hv hX
          have kD2 := HD2.out w2 (HX.out.trans (HB2.out.mono HX.out.size))
          clear hv hb2 HD1 HD2 HB1
          go_wp2_with fail
          refine kS.mono ?_
          rintro r w3 ⟨rfl, rfl⟩
          clear kS
          go_wp2_with fail
          refine kD2.mono ?_
          rintro r w4 ⟨ao2, n2, c2, rfl, hv, hb4⟩
          have HB4 : Hid (Below wc.heap.size wc w4) := HB2.out.trans (hb4.mono HB2.out.size)
          clear a0 a1 a2 kD2 hb4 HB2
          obtain ⟨a0, a1, a2⟩ := HK.out w4 HB4.out
          have HV : Hid (Ir w4 (.slice ao2 n2 c2) Y) := hv
          clear hv
          go_upto_region 21 with fail
          go_cut [15] from 106 to 115 (fun v wx => v = .bool hf ∧ wx = w4)
          case first =>
            obtain ⟨ao, cap, hve, hcap, b, o, hb, hcell⟩ := HV.out
            injection hve with e1 e2 e3
            subst e1 e3
            obtain ⟨hf', hly⟩ := HFE.out
            by_cases hz : 0 < dlen Y
            · obtain rfl := hb hz
              have c0 := hcell 0 hz
              rw [Nat.add_zero] at c0
              have hdd := and1_32 (d := dg Y 0) (X := Y) (dg_zero _)
              have hpos : (0 : Int) < (n2 : Int) := by omega
              have hcp : n2 ≤ 1000000000 := by omega
              generalize dg Y 0 = dd at *
              clear hcell HV HFE hb hz e2 hcap
              go_wp2
              go_meet
              exact ⟨by rw [hf'], rfl⟩
            · have hy : Y = 0 := dlen_eq_zero.1 (by omega)
              have hneg : ¬ (0 : Int) < (n2 : Int) := by omega
              have hf0 : hf = false := by rw [hf', hy]; rfl
              subst hf0
              clear hcell HV HFE hb hz e2 hcap
              go_wp2
              go_meet
              exact ⟨rfl, rfl⟩
          case rest =>
            obtain ⟨rfl, rfl⟩ := hcut
            clear HV HFE
            obtain ⟨up, hup⟩ : ∃ b : Bool, b = (wy == 2 || wy == 1 && (hf && (!ex || od))) := ⟨_, rfl⟩
            rw [← hup] at HG
            have HU : Hid (up = (wy == 2 || wy == 1 && (hf && (!ex || od)))) := hup
            clear hup
            go_upto_region 22 with fail
            go_cut [131] from 116 to 131 (fun v wx => v = .bool up ∧ wx = wc)
            case first =>
              have g3 := HU.out
              clear HG
              rcases HY.out with ⟨rfl, rfl, rfl⟩ | ⟨rfl, rfl, rfl⟩ | ⟨rfl, rfl, rfl⟩
              · go_wp2
                go_meet
                exact ⟨by rw [g3]; rfl, rfl⟩
              · cases hf <;> cases ex <;> cases od <;> go_wp2 <;> go_meet <;> exact ⟨by rw [g3]; rfl, rfl⟩
              · go_wp2
                go_meet
                exact ⟨by rw [g3]; rfl, rfl⟩
            case rest =>
              obtain ⟨rfl, rfl⟩ := hcut
              clear HU HY hod
              obtain ⟨g1, g2, g3⟩ := HG.out
              clear HG
              cases up
              · have hN : N = X := g3
                rw [hN] at g2 HF
                have kB : ∀ W, Calls Tryz.prog 114 #[.bool neg, .int .u64 (X : Nat), .int .i64 e2] W fun r w' => r = .returned (.float .f64 (sig neg ((e2 + 1074).toNat * 4503599627370496 + X))) ∧ w' = W := fun W => rbuild hX h21 h22 g2
                have hne := neq53 (n := X) (by omega)
                clear g1 g2 g3 hN
                go_wp2_with (first | (go_at_call 114; refine (kB _).mono ?_; rintro r w5 ⟨rfl, rfl⟩))
                go_ret
                exact ⟨by rw [HF.out]; rfl, HX.out.trans (HB4.out.mono HX.out.size)⟩
              · have hN : N = X + 1 := g3
                rw [hN] at g1 g2 HF
                clear g3
                by_cases h53 : X + 1 = 9007199254740992
                · obtain rfl : X = 9007199254740991 := by omega
                  by_cases h971 : e2 = 971
                  · subst h971
                    clear g1 g2 hN
                    cases neg
                    all_goals go_wp2_with (first | (go_at_call 113; (first | (with_reducible refine (kS0 _).mono ?_) | (with_reducible refine (kS1 _).mono ?_)); rintro r w5 ⟨rfl, rfl⟩) | (go_at_call 44; (first | (with_reducible refine (kI0 _).mono ?_) | (with_reducible refine (kI1 _).mono ?_)); rintro r w5 ⟨rfl, rfl⟩))
                    all_goals go_ret
                    all_goals exact ⟨by rw [HF.out]; rfl, HX.out.trans (HB4.out.mono HX.out.size)⟩
                  · have h970 : e2 + 1 ≤ 971 := by omega
                    have kB : ∀ W, Calls Tryz.prog 114 #[.bool neg, .int .u64 4503599627370496, .int .i64 (e2 + 1)] W fun r w' => r = .returned (.float .f64 (sig neg ((e2 + 1 + 1074).toNat * 4503599627370496 + 4503599627370496))) ∧ w' = W := fun W => rbuild (M := 4503599627370496) (by omega) (by omega) h970 (.inr (Nat.le_refl _))
                    have HQ := q53 h21
                    clear g1 g2 hN h971
                    go_wp2_with (first | (go_at_call 114; refine (kB _).mono ?_; rintro r w5 ⟨rfl, rfl⟩))
                    go_ret
                    exact ⟨by rw [HF.out, ← HQ.out]; rfl, HX.out.trans (HB4.out.mono HX.out.size)⟩
                · have kB : ∀ W, Calls Tryz.prog 114 #[.bool neg, .int .u64 ((X : Int) + 1), .int .i64 e2] W fun r w' => r = .returned (.float .f64 (sig neg ((e2 + 1074).toNat * 4503599627370496 + (X + 1)))) ∧ w' = W := fun W => rbuild (M := X + 1) (by omega) h21 h22 g2
                  have hne : ((X : Int) + 1 == 9007199254740992) = false := neq53 (n := X + 1) h53
                  clear g1 g2 hN h53
                  go_wp2_with (first | (go_at_call 114; refine (kB _).mono ?_; rintro r w5 ⟨rfl, rfl⟩))
                  go_ret
                  exact ⟨by rw [HF.out]; rfl, HX.out.trans (HB4.out.mono HX.out.size)⟩
end Go.Proofs.YtcoclopllbfjcaaGreatDoor
namespace Go.Proofs.YtcoclopllbfjcaaGreatDoor
end Go.Proofs.YtcoclopllbfjcaaGreatDoor
namespace Go.Proofs.YtcoclopllbfjcaaGreatDoor
set_option linter.unusedVariables false
set_option linter.unusedSimpArgs false
open Go.RowKit Go.Fl64
open Ie
theorem rto_0 (na : Bool) (ua : Option Addr) (uc : Nat) (ea m : Int) (w : World) : Calls Tryz.prog 66 #[.agg #[.bool na, .slice ua 0 uc, .int .i64 ea], .int .i64 m] w fun r w' => r = .returned (.float .f64 0) ∧ Below w.heap.size w w' := by
  obtain ⟨W, hW⟩ : ∃ W, W = w.alloc (.cells #[.bool na, .slice ua 0 uc, .int .i64 ea] 45) := ⟨_, rfl⟩
  have HB : Hid (Below w.heap.size w W) := (by rw [hW]; exact (Below.refl _ _).alloc (Nat.le_refl _) _ : Below w.heap.size w W)
  go_enter Tryz.func66, Tryz.ntmps66
  go_wp2
  go_ret
  exact ⟨rfl, hW ▸ HB.out⟩
end Go.Proofs.YtcoclopllbfjcaaGreatDoor
namespace Go.Proofs.YtcoclopllbfjcaaGreatDoor
set_option linter.unusedVariables false
set_option linter.unusedSimpArgs false
open Go.RowKit
set_option maxRecDepth 200000 in
theorem rbet_e (s : Bool) (ao : Option Addr) (n cap F : Nat) (e place m : Int) (w : World) (kT : ∀ W, Below w.heap.size w W → Calls Tryz.prog 66 #[.agg #[.bool s, .slice ao n cap, .int .i64 e], .int .i64 m] W fun r w' => r = .returned (.float .f64 F) ∧ Below W.heap.size W w') :
    Calls Tryz.prog 108 #[.agg #[.bool s, .slice ao n cap, .int .i64 e], .bool true, .int .i64 place, .int .i64 m] w fun r w' => r = .returned (.float .f64 F) ∧ Below w.heap.size w w' := by
  obtain ⟨W, hW⟩ : ∃ W, W = w.alloc (.cells #[.bool s, .slice ao n cap, .int .i64 e] 45) := ⟨_, rfl⟩
  have hBW : Below w.heap.size w W := by rw [hW]; exact (Below.refl _ _).alloc (Nat.le_refl _) _
  have HX : Hid (Below w.heap.size w W) := hBW
  have k := kT W hBW
  clear kT hBW
  go_enter Tryz.func108, Tryz.ntmps108
  go_wp2_with fail
  rw [← hW]
  clear hW
  refine k.mono ?_
  rintro r w1 ⟨rfl, hb1⟩
  have HB1 : Hid (Below W.heap.size W w1) := hb1
  clear k hb1
  go_wp2
  go_ret
  exact ⟨rfl, HX.out.trans (HB1.out.mono HX.out.size)⟩
set_option maxRecDepth 200000 in
theorem rbet_r (s : Bool) (ao : Option Addr) (n cap F : Nat) (e place m : Int) (s' : Bool) (z' : Nat) (e' : Int) (w : World) (hp1 : -1000000 ≤ place) (hp2 : place ≤ 1000000)
    (kP : ∀ g W, Below w.heap.size w W → At W (some ⟨g, 0, none⟩) 1 1 → Calls Tryz.prog 26 #[.agg #[.bool s, .slice ao n cap, .int .i64 e], .agg #[.bool false, .slice (some ⟨g, 0, none⟩) 1 1, .int .i64 (-(place + 1))]] W fun r w' => ∃ a, r = .returned a ∧ NC w' W.heap.size a s' z' e' ∧ Below W.heap.size W w')
    (kT : ∀ W A, Below w.heap.size w W → NC W w.heap.size A s' z' e' → Calls Tryz.prog 66 #[A, .int .i64 m] W fun r w' => r = .returned (.float .f64 F) ∧ Below W.heap.size W w') :
    Calls Tryz.prog 108 #[.agg #[.bool s, .slice ao n cap, .int .i64 e], .bool false, .int .i64 place, .int .i64 m] w fun r w' => r = .returned (.float .f64 F) ∧ Below w.heap.size w w' := by
  obtain ⟨W, hW⟩ : ∃ W, W = w.alloc (.cells #[.bool s, .slice ao n cap, .int .i64 e] 45) := ⟨_, rfl⟩
  have hBW : Below w.heap.size w W := by rw [hW]; exact (Below.refl _ _).alloc (Nat.le_refl _) _
  have hA : W.heap[w.heap.size]? = some (.cells #[.bool s, .slice ao n cap, .int .i64 e] 45 (0, 0)) := by rw [hW]; exact heap_alloc_new _ _
  have hsz : W.heap.size = w.heap.size + 1 := by rw [hW]; simp
  have HX : Hid (Below w.heap.size w W ∧ W.heap.size = w.heap.size + 1 ∧ W.heap[w.heap.size]? = some (.cells #[.bool s, .slice ao n cap, .int .i64 e] 45 (0, 0))) := ⟨hBW, hsz, hA⟩
  have HKT : Hid _ := kT
  have HK : Hid (∀ w', Below W.heap.size W w' → (w'.cell? ⟨w.heap.size, 0, none⟩ = some (.bool s) ∧ w'.cell? ⟨w.heap.size, 1, none⟩ = some (.slice ao n cap) ∧ w'.cell? ⟨w.heap.size, 2, none⟩ = some (.int .i64 e))) := fun w' hb => (box_cells29 (box_later HX.out.2.2 hb (by have := HX.out.2.1; omega))).1
  have kO : ∀ w8, Below W.heap.size W w8 → Calls Tryz.prog 142 #[.int .i64 (place + 1)] w8 fun r w' => ∃ g, r = .returned (.agg #[.bool false, .slice (some ⟨g, 0, none⟩) 1 1, .int .i64 (-(place + 1))]) ∧ Hid (At w' (some ⟨g, 0, none⟩) 1 1) ∧ Below W.heap.size W w' ∧ (w'.cell? ⟨w.heap.size, 0, none⟩ = some (.bool s) ∧ w'.cell? ⟨w.heap.size, 1, none⟩ = some (.slice ao n cap) ∧ w'.cell? ⟨w.heap.size, 2, none⟩ = some (.int .i64 e)) := fun w8 hb => (rone (place + 1) w8 (by omega) (by omega)).mono fun r w' ⟨g, e1, e2, e3, e4⟩ => ⟨g, e1, e3, hb.trans (e4.mono hb.size), HK.out w' (hb.trans (e4.mono hb.size))⟩
  have kL : ∀ g w9, Hid (At w9 (some ⟨g, 0, none⟩) 1 1) → Below W.heap.size W w9 → Calls Tryz.prog 26 #[.agg #[.bool s, .slice ao n cap, .int .i64 e], .agg #[.bool false, .slice (some ⟨g, 0, none⟩) 1 1, .int .i64 (-(place + 1))]] w9 fun r w' => ∃ s9 ao9 n9 cap9 ex9, r = .returned (.agg #[.bool s9, .slice ao9 n9 cap9, .int .i64 ex9]) ∧ Hid (NC w' W.heap.size (.agg #[.bool s9, .slice ao9 n9 cap9, .int .i64 ex9]) s' z' e') ∧ Below W.heap.size W w' ∧ Hid (w'.heap[w.heap.size]? = some (.cells #[.bool s, .slice ao n cap, .int .i64 e] 45 (0, 0))) ∧ (w'.cell? ⟨w.heap.size, 0, none⟩ = some (.bool s) ∧ w'.cell? ⟨w.heap.size, 1, none⟩ = some (.slice ao n cap) ∧ w'.cell? ⟨w.heap.size, 2, none⟩ = some (.int .i64 e)) ∧ (w'.frozen? ⟨w.heap.size, 0, none⟩ = false ∧ w'.frozen? ⟨w.heap.size, 1, none⟩ = false ∧ w'.frozen? ⟨w.heap.size, 2, none⟩ = false) := by
    intro g w9 hA hb
    refine (kP g w9 (HX.out.1.trans (hb.mono HX.out.1.size)) hA.out).mono ?_
    rintro r w10 ⟨A, rfl, hN, hb10⟩
    obtain ⟨s9, ao9, n9, cap9, ex9, rfl⟩ := hN.shape
    have hbb := hb.trans (hb10.mono hb.size)
    have hblk := box_later HX.out.2.2 hbb (by have := HX.out.2.1; omega)
    obtain ⟨f1, f2⟩ := box_cells29 hblk
    exact ⟨s9, ao9, n9, cap9, ex9, rfl, hN.mono hb.size, hbb, hblk, f1, f2⟩
  obtain ⟨d0, d1, d2⟩ := HK.out W (Below.refl _ _)
  have hBR : Below W.heap.size W W.drew := (Below.refl _ _).drew
  have hpw : IntKind.i64.wrap (place + 1) = place + 1 := by rw [IntKind.wrap_i64]; omega
  clear kT hA hsz hBW
  go_enter Tryz.func108, Tryz.ntmps108
  go_upto_region 2 with fail
  rw [← hW]
  clear hW
  go_cut [15] from 11 to 15 (fun v wx => ∃ s9 ao9 n9 cap9 ex9, v = .agg #[.bool s9, .slice ao9 n9 cap9, .int .i64 ex9] ∧ Hid (NC wx W.heap.size (.agg #[.bool s9, .slice ao9 n9 cap9, .int .i64 ex9]) s' z' e') ∧ Hid (wx.heap[w.heap.size]? = some (.cells #[.bool s9, .slice ao9 n9 cap9, .int .i64 ex9] 45 (0, 0))) ∧ Hid (Below w.heap.size W wx))
  case first =>
    go_region_with (first | (go_at_call 142; refine (kO _ (by first | (with_reducible assumption) | exact hBR | exact Below.refl _ _)).mono ?_; rintro r w8 ⟨g8, rfl, hA8, hb8, ⟨y1, y2, y3⟩⟩) | (go_at_call 26; refine (kL _ _ hA8 (by with_reducible assumption)).mono ?_; rintro r w9 ⟨s9, ao9, n9, cap9, ex9, rfl, hN9, hb9, hblk9, ⟨x1, x2, x3⟩, x4, x5, x6⟩))
    all_goals go_wp2_with fail
    all_goals go_meet
    all_goals exact ⟨s9, ao9, n9, cap9, ex9, rfl, hN9.out.store (by have := HX.out.2.1; omega) _ _ _, store3_29 _ _ _ hblk9.out, below_store3 (hb9.mono HX.out.1.size) (Nat.le_refl _) _ _ _⟩
  case rest =>
    obtain ⟨s9, ao9, n9, cap9, ex9, rfl, hN9, hB9, hL9⟩ := hcut
    obtain ⟨wx, rfl⟩ : ∃ wx : World, wx = wc := ⟨_, rfl⟩
    have HBx : Hid (Below w.heap.size w wx) := HX.out.1.trans hL9.out
    clear d0 d1 d2
    obtain ⟨⟨d0, d1, d2⟩, -⟩ := box_cells29 hB9.out
    have kt := HKT.out wx _ HBx.out (hN9.out.mono HX.out.1.size)
    clear kO kL hBR
    go_wp2_with fail
    refine kt.mono ?_
    rintro r w11 ⟨rfl, hb11⟩
    have HB11 : Hid (Below w.heap.size w w11) := HBx.out.trans (hb11.mono HBx.out.size)
    clear kt hb11
    go_wp2
    go_ret
    exact ⟨rfl, HB11.out⟩
theorem rsqrtto_0 (na : Bool) (ua : Option Addr) (uc : Nat) (ea m : Int) (w : World) : Calls Tryz.prog 59 #[.agg #[.bool na, .slice ua 0 uc, .int .i64 ea], .int .i64 m] w fun r w' => r = .returned (.float .f64 0) ∧ Below w.heap.size w w' := by
  obtain ⟨W, hW⟩ : ∃ W, W = w.alloc (.cells #[.bool na, .slice ua 0 uc, .int .i64 ea] 45) := ⟨_, rfl⟩
  have HB : Hid (Below w.heap.size w W) := (by rw [hW]; exact (Below.refl _ _).alloc (Nat.le_refl _) _ : Below w.heap.size w W)
  go_enter Tryz.func59, Tryz.ntmps59
  go_wp2
  go_ret
  exact ⟨rfl, hW ▸ HB.out⟩
set_option maxRecDepth 200000 in
theorem rsqrtto_b (na : Bool) (ua : Option Addr) (un uc F : Nat) (ea m t : Int) (w : World) (hn0 : ((un : Int) == 0) = false) (ht : 2200 < t) (kH : ∀ W, Below w.heap.size w W → Calls Tryz.prog 106 #[.agg #[.bool na, .slice ua un uc, .int .i64 ea]] W fun r w' => r = .returned (.int .i64 t) ∧ Below W.heap.size W w')
    (kT : ∀ g W, Below w.heap.size w W → At W (some ⟨g, 0, none⟩) 1 1 → Calls Tryz.prog 66 #[.agg #[.bool false, .slice (some ⟨g, 0, none⟩) 1 1, .int .i64 1100], .int .i64 m] W fun r w' => r = .returned (.float .f64 F) ∧ Below W.heap.size W w') :
    Calls Tryz.prog 59 #[.agg #[.bool na, .slice ua un uc, .int .i64 ea], .int .i64 m] w fun r w' => r = .returned (.float .f64 F) ∧ Below w.heap.size w w' := by
  obtain ⟨W, hW⟩ : ∃ W, W = w.alloc (.cells #[.bool na, .slice ua un uc, .int .i64 ea] 45) := ⟨_, rfl⟩
  have hBW : Below w.heap.size w W := by rw [hW]; exact (Below.refl _ _).alloc (Nat.le_refl _) _
  have hA : W.heap[w.heap.size]? = some (.cells #[.bool na, .slice ua un uc, .int .i64 ea] 45 (0, 0)) := by rw [hW]; exact heap_alloc_new _ _
  have hsz : W.heap.size = w.heap.size + 1 := by rw [hW]; simp
  have HX : Hid (Below w.heap.size w W ∧ W.heap.size = w.heap.size + 1 ∧ W.heap[w.heap.size]? = some (.cells #[.bool na, .slice ua un uc, .int .i64 ea] 45 (0, 0))) := ⟨hBW, hsz, hA⟩
  have k := kH W hBW
  have HKT : Hid _ := kT
  clear kT kH
  clear hA hsz hBW
  go_enter Tryz.func59, Tryz.ntmps59
  go_wp2_with fail
  rw [← hW]
  clear hW
  refine k.mono ?_
  rintro r w1 ⟨rfl, hb1⟩
  have HB1 : Hid (Below W.heap.size W w1) := hb1
  have HW1 : Hid (Below w.heap.size w w1) := HX.out.1.trans (HB1.out.mono HX.out.1.size)
  obtain ⟨⟨a0, a1, a2⟩, -⟩ := box_cells29 (box_later HX.out.2.2 HB1.out (by have := HX.out.2.1; omega))
  clear k hb1
  obtain ⟨w2, hw2⟩ : ∃ w2, w2 = w1.alloc (.cells #[.int .u32 1] 85) := ⟨_, rfl⟩
  have hB12 : Below w1.heap.size w1 w2 := by rw [hw2]; exact (Below.refl _ _).alloc (Nat.le_refl _) _
  have HB2 : Hid (Below w.heap.size w w2) := HW1.out.trans (hB12.mono HW1.out.size)
  have hA1 : At w2 (some ⟨w1.heap.size, 0, none⟩) 1 1 := ⟨w1.heap.size, 0, fun _ => rfl, fun i hi => by
    obtain rfl : i = 0 := by omega
    rw [hw2, dg_zero, show 1 % B = 1 by rfl]
    exact cell_new1 w1 _⟩
  have kt := HKT.out w1.heap.size w2 HB2.out hA1
  clear hB12 hA1
  go_wp2_with fail
  rw [← hw2]
  clear hw2
  refine kt.mono ?_
  rintro r w3 ⟨rfl, hb3⟩
  have HB3 : Hid (Below w.heap.size w w3) := HB2.out.trans (hb3.mono HB2.out.size)
  clear kt hb3
  go_wp2
  go_ret
  exact ⟨rfl, HB3.out⟩
set_option maxRecDepth 200000 in
theorem rsqrtto_t (na : Bool) (ua : Option Addr) (un uc F : Nat) (ea m t : Int) (w : World) (hn0 : ((un : Int) == 0) = false) (ht : t < -2400) (kH : ∀ W, Below w.heap.size w W → Calls Tryz.prog 106 #[.agg #[.bool na, .slice ua un uc, .int .i64 ea]] W fun r w' => r = .returned (.int .i64 t) ∧ Below W.heap.size W w')
    (kT : ∀ g W, Below w.heap.size w W → At W (some ⟨g, 0, none⟩) 1 1 → Calls Tryz.prog 66 #[.agg #[.bool false, .slice (some ⟨g, 0, none⟩) 1 1, .int .i64 (-1200)], .int .i64 m] W fun r w' => r = .returned (.float .f64 F) ∧ Below W.heap.size W w') :
    Calls Tryz.prog 59 #[.agg #[.bool na, .slice ua un uc, .int .i64 ea], .int .i64 m] w fun r w' => r = .returned (.float .f64 F) ∧ Below w.heap.size w w' := by
  have htn : ¬ 2200 < t := by omega
  obtain ⟨W, hW⟩ : ∃ W, W = w.alloc (.cells #[.bool na, .slice ua un uc, .int .i64 ea] 45) := ⟨_, rfl⟩
  have hBW : Below w.heap.size w W := by rw [hW]; exact (Below.refl _ _).alloc (Nat.le_refl _) _
  have hA : W.heap[w.heap.size]? = some (.cells #[.bool na, .slice ua un uc, .int .i64 ea] 45 (0, 0)) := by rw [hW]; exact heap_alloc_new _ _
  have hsz : W.heap.size = w.heap.size + 1 := by rw [hW]; simp
  have HX : Hid (Below w.heap.size w W ∧ W.heap.size = w.heap.size + 1 ∧ W.heap[w.heap.size]? = some (.cells #[.bool na, .slice ua un uc, .int .i64 ea] 45 (0, 0))) := ⟨hBW, hsz, hA⟩
  have k := kH W hBW
  have HKT : Hid _ := kT
  clear kT kH
  clear hA hsz hBW
  go_enter Tryz.func59, Tryz.ntmps59
  go_wp2_with fail
  rw [← hW]
  clear hW
  refine k.mono ?_
  rintro r w1 ⟨rfl, hb1⟩
  have HB1 : Hid (Below W.heap.size W w1) := hb1
  have HW1 : Hid (Below w.heap.size w w1) := HX.out.1.trans (HB1.out.mono HX.out.1.size)
  obtain ⟨⟨a0, a1, a2⟩, -⟩ := box_cells29 (box_later HX.out.2.2 HB1.out (by have := HX.out.2.1; omega))
  clear k hb1
  obtain ⟨w2, hw2⟩ : ∃ w2, w2 = w1.alloc (.cells #[.int .u32 1] 85) := ⟨_, rfl⟩
  have hB12 : Below w1.heap.size w1 w2 := by rw [hw2]; exact (Below.refl _ _).alloc (Nat.le_refl _) _
  have HB2 : Hid (Below w.heap.size w w2) := HW1.out.trans (hB12.mono HW1.out.size)
  have hA1 : At w2 (some ⟨w1.heap.size, 0, none⟩) 1 1 := ⟨w1.heap.size, 0, fun _ => rfl, fun i hi => by
    obtain rfl : i = 0 := by omega
    rw [hw2, dg_zero, show 1 % B = 1 by rfl]
    exact cell_new1 w1 _⟩
  have kt := HKT.out w1.heap.size w2 HB2.out hA1
  clear hB12 hA1
  go_wp2_with fail
  rw [← hw2]
  clear hw2
  refine kt.mono ?_
  rintro r w3 ⟨rfl, hb3⟩
  have HB3 : Hid (Below w.heap.size w w3) := HB2.out.trans (hb3.mono HB2.out.size)
  clear kt hb3
  go_wp2
  go_ret
  exact ⟨rfl, HB3.out⟩
set_option maxRecDepth 200000 in
theorem rsqrtto_p (na : Bool) (ua : Option Addr) (un uc F : Nat) (ea m t : Int) (f : Nat → Bool) (P : Nat → Prop) (w : World) (hn0 : ((un : Int) == 0) = false) (ht1 : t ≤ 2200) (ht2 : -2400 ≤ t) (ht3 : 0 < t) (kH : ∀ W, Below w.heap.size w W → Calls Tryz.prog 106 #[.agg #[.bool na, .slice ua un uc, .int .i64 ea]] W fun r w' => r = .returned (.int .i64 t) ∧ Below W.heap.size W w')
    (kR : ∀ W, Below w.heap.size w W → Calls Tryz.prog 107 #[.agg #[.bool na, .slice ua un uc, .int .i64 ea], .int .i64 120] W fun r w' => ∃ A s, r = .returned (.tuple #[A, .bool (f s)]) ∧ NC w' W.heap.size A false s (-120) ∧ P s ∧ Below W.heap.size W w')
    (kB : ∀ W A s, Below w.heap.size w W → NC W w.heap.size A false s (-120) → P s → Calls Tryz.prog 108 #[A, .bool (f s), .int .i64 120, .int .i64 m] W fun r w' => r = .returned (.float .f64 F) ∧ Below W.heap.size W w') :
    Calls Tryz.prog 59 #[.agg #[.bool na, .slice ua un uc, .int .i64 ea], .int .i64 m] w fun r w' => r = .returned (.float .f64 F) ∧ Below w.heap.size w w' := by
  have hta : ¬ 2200 < t := by omega
  have htb : ¬ t < -2400 := by omega
  obtain ⟨W, hW⟩ : ∃ W, W = w.alloc (.cells #[.bool na, .slice ua un uc, .int .i64 ea] 45) := ⟨_, rfl⟩
  have hBW : Below w.heap.size w W := by rw [hW]; exact (Below.refl _ _).alloc (Nat.le_refl _) _
  have hA : W.heap[w.heap.size]? = some (.cells #[.bool na, .slice ua un uc, .int .i64 ea] 45 (0, 0)) := by rw [hW]; exact heap_alloc_new _ _
  have hsz : W.heap.size = w.heap.size + 1 := by rw [hW]; simp
  have HX : Hid (Below w.heap.size w W ∧ W.heap.size = w.heap.size + 1 ∧ W.heap[w.heap.size]? = some (.cells #[.bool na, .slice ua un uc, .int .i64 ea] 45 (0, 0))) := ⟨hBW, hsz, hA⟩
  have k := kH W hBW
  have HKR : Hid _ := kR
  have HKB : Hid _ := kB
  have HKH : Hid _ := kH
  clear kR kB kH
  clear hA hsz hBW
  go_enter Tryz.func59, Tryz.ntmps59
  go_wp2_with fail
  rw [← hW]
  clear hW
  refine k.mono ?_
  rintro r w1 ⟨rfl, hb1⟩
  have HB1 : Hid (Below W.heap.size W w1) := hb1
  have HW1 : Hid (Below w.heap.size w w1) := HX.out.1.trans (HB1.out.mono HX.out.1.size)
  obtain ⟨⟨a0, a1, a2⟩, -⟩ := box_cells29 (box_later HX.out.2.2 HB1.out (by have := HX.out.2.1; omega))
  clear k hb1
  have kh := HKH.out w1 HW1.out
  go_wp2_with fail
  refine kh.mono ?_
  rintro r w2 ⟨rfl, hb2⟩
  have HB2 : Hid (Below W.heap.size W w2) := HB1.out.trans (hb2.mono HB1.out.size)
  have HW2 : Hid (Below w.heap.size w w2) := HX.out.1.trans (HB2.out.mono HX.out.1.size)
  clear kh hb2 a0 a1 a2
  obtain ⟨⟨a0, a1, a2⟩, -⟩ := box_cells29 (box_later HX.out.2.2 HB2.out (by have := HX.out.2.1; omega))
  have kr := HKR.out w2 HW2.out
  go_wp2_with fail
  refine kr.mono ?_
  rintro r w3 ⟨A, s, rfl, hN, hPs, hb3⟩
  have HB3 : Hid (Below w.heap.size w w3) := HW2.out.trans (hb3.mono HW2.out.size)
  obtain ⟨s3, ao3, n3, cap3, e3, rfl⟩ := hN.shape
  obtain ⟨w4, hw4⟩ : ∃ w4, w4 = w3.alloc (.cells #[.bool s3, .slice ao3 n3 cap3, .int .i64 e3] 45) := ⟨_, rfl⟩
  have hB34 : Below w3.heap.size w3 w4 := by rw [hw4]; exact (Below.refl _ _).alloc (Nat.le_refl _) _
  have HB4 : Hid (Below w.heap.size w w4) := HB3.out.trans (hB34.mono HB3.out.size)
  have kb := HKB.out w4 _ s HB4.out ((hN.later hB34).mono HW2.out.size) hPs
  clear kr hN hPs hb3 hB34 a0 a1 a2
  generalize f s = bx at *
  go_wp2_with fail
  rw [← hw4]
  clear hw4
  refine kb.mono ?_
  rintro r w5 ⟨rfl, hb5⟩
  have HB5 : Hid (Below w.heap.size w w5) := HB4.out.trans (hb5.mono HB4.out.size)
  clear kb hb5
  go_wp2
  go_ret
  exact ⟨rfl, HB5.out⟩
set_option maxRecDepth 200000 in
theorem rsqrtto_n (na : Bool) (ua : Option Addr) (un uc F : Nat) (ea m t : Int) (f : Nat → Bool) (P : Nat → Prop) (w : World) (hn0 : ((un : Int) == 0) = false) (ht1 : t ≤ 2200) (ht2 : -2400 ≤ t) (ht3 : t ≤ 0) (kH : ∀ W, Below w.heap.size w W → Calls Tryz.prog 106 #[.agg #[.bool na, .slice ua un uc, .int .i64 ea]] W fun r w' => r = .returned (.int .i64 t) ∧ Below W.heap.size W w')
    (kR : ∀ W, Below w.heap.size w W → Calls Tryz.prog 107 #[.agg #[.bool na, .slice ua un uc, .int .i64 ea], .int .i64 1200] W fun r w' => ∃ A s, r = .returned (.tuple #[A, .bool (f s)]) ∧ NC w' W.heap.size A false s (-1200) ∧ P s ∧ Below W.heap.size W w')
    (kB : ∀ W A s, Below w.heap.size w W → NC W w.heap.size A false s (-1200) → P s → Calls Tryz.prog 108 #[A, .bool (f s), .int .i64 1200, .int .i64 m] W fun r w' => r = .returned (.float .f64 F) ∧ Below W.heap.size W w') :
    Calls Tryz.prog 59 #[.agg #[.bool na, .slice ua un uc, .int .i64 ea], .int .i64 m] w fun r w' => r = .returned (.float .f64 F) ∧ Below w.heap.size w w' := by
  have hta : ¬ 2200 < t := by omega
  have htb : ¬ t < -2400 := by omega
  have htc : ¬ 0 < t := by omega
  obtain ⟨W, hW⟩ : ∃ W, W = w.alloc (.cells #[.bool na, .slice ua un uc, .int .i64 ea] 45) := ⟨_, rfl⟩
  have hBW : Below w.heap.size w W := by rw [hW]; exact (Below.refl _ _).alloc (Nat.le_refl _) _
  have hA : W.heap[w.heap.size]? = some (.cells #[.bool na, .slice ua un uc, .int .i64 ea] 45 (0, 0)) := by rw [hW]; exact heap_alloc_new _ _
  have hsz : W.heap.size = w.heap.size + 1 := by rw [hW]; simp
  have HX : Hid (Below w.heap.size w W ∧ W.heap.size = w.heap.size + 1 ∧ W.heap[w.heap.size]? = some (.cells #[.bool na, .slice ua un uc, .int .i64 ea] 45 (0, 0))) := ⟨hBW, hsz, hA⟩
  have k := kH W hBW
  have HKR : Hid _ := kR
  have HKB : Hid _ := kB
  have HKH : Hid _ := kH
  clear kR kB kH
  clear hA hsz hBW
  go_enter Tryz.func59, Tryz.ntmps59
  go_wp2_with fail
  rw [← hW]
  clear hW
  refine k.mono ?_
  rintro r w1 ⟨rfl, hb1⟩
  have HB1 : Hid (Below W.heap.size W w1) := hb1
  have HW1 : Hid (Below w.heap.size w w1) := HX.out.1.trans (HB1.out.mono HX.out.1.size)
  obtain ⟨⟨a0, a1, a2⟩, -⟩ := box_cells29 (box_later HX.out.2.2 HB1.out (by have := HX.out.2.1; omega))
  clear k hb1
  have kh := HKH.out w1 HW1.out
  go_wp2_with fail
  refine kh.mono ?_
  rintro r w2 ⟨rfl, hb2⟩
  have HB2 : Hid (Below W.heap.size W w2) := HB1.out.trans (hb2.mono HB1.out.size)
  have HW2 : Hid (Below w.heap.size w w2) := HX.out.1.trans (HB2.out.mono HX.out.1.size)
  clear kh hb2 a0 a1 a2
  obtain ⟨⟨a0, a1, a2⟩, -⟩ := box_cells29 (box_later HX.out.2.2 HB2.out (by have := HX.out.2.1; omega))
  have kr := HKR.out w2 HW2.out
  go_wp2_with fail
  refine kr.mono ?_
  rintro r w3 ⟨A, s, rfl, hN, hPs, hb3⟩
  have HB3 : Hid (Below w.heap.size w w3) := HW2.out.trans (hb3.mono HW2.out.size)
  obtain ⟨s3, ao3, n3, cap3, e3, rfl⟩ := hN.shape
  obtain ⟨w4, hw4⟩ : ∃ w4, w4 = w3.alloc (.cells #[.bool s3, .slice ao3 n3 cap3, .int .i64 e3] 45) := ⟨_, rfl⟩
  have hB34 : Below w3.heap.size w3 w4 := by rw [hw4]; exact (Below.refl _ _).alloc (Nat.le_refl _) _
  have HB4 : Hid (Below w.heap.size w w4) := HB3.out.trans (hB34.mono HB3.out.size)
  have kb := HKB.out w4 _ s HB4.out ((hN.later hB34).mono HW2.out.size) hPs
  clear kr hN hPs hb3 hB34 a0 a1 a2
  generalize f s = bx at *
  go_wp2_with fail
  rw [← hw4]
  clear hw4
  refine kb.mono ?_
  rintro r w5 ⟨rfl, hb5⟩
  have HB5 : Hid (Below w.heap.size w w5) := HB4.out.trans (hb5.mono HB4.out.size)
  clear kb hb5
  go_wp2
  go_ret
  exact ⟨rfl, HB5.out⟩
end Go.Proofs.YtcoclopllbfjcaaGreatDoor
namespace Go.Proofs.YtcoclopllbfjcaaGreatDoor
set_option linter.unusedVariables false
set_option linter.unusedSimpArgs false
open Go.RowKit
end Go.Proofs.YtcoclopllbfjcaaGreatDoor
namespace Go.Proofs.YtcoclopllbfjcaaGreatDoor
set_option linter.unusedVariables false
set_option linter.unusedSimpArgs false
open Go.RowKit Go.Fl64
open Ie
theorem bl_ge {x n : Nat} : n + 1 ≤ bl x ↔ 2 ^ n ≤ x := by
  have := bl_le x n
  omega
theorem bl_div {x n : Nat} (h : n < bl x) : bl (x / 2 ^ n) = bl x - n := by
  have hx0 : x ≠ 0 := fun e => by rw [e] at h; simp [bl] at h
  have h1 := lt_bl x
  have h2 := le_bl hx0
  have a : bl (x / 2 ^ n) ≤ bl x - n := (bl_le _ _).2 ((Nat.div_lt_iff_lt_mul (Nat.two_pow_pos n)).2 (by rw [← Nat.pow_add, show bl x - n + n = bl x by omega]; exact h1))
  have b : bl x - n - 1 + 1 ≤ bl (x / 2 ^ n) := bl_ge.2 ((Nat.le_div_iff_mul_le (Nat.two_pow_pos n)).2 (by rw [← Nat.pow_add, show bl x - n - 1 + n = bl x - 1 by omega]; exact h2))
  omega
theorem bl_two {x : Nat} (h : x ≠ 0) : bl (2 * x + 1) = bl x + 1 := by
  have h1 := lt_bl x
  have h2 := le_bl h
  have hb := bl_ne h
  have a : bl (2 * x + 1) ≤ bl x + 1 := (bl_le _ _).2 (by rw [Nat.pow_succ]; omega)
  have b : bl x + 1 ≤ bl (2 * x + 1) := bl_ge.2 (by
    have : 2 ^ bl x = 2 * 2 ^ (bl x - 1) := by rw [← Nat.pow_succ']; congr 1; omega
    omega)
  omega
theorem two_div {x t : Nat} (h : 1 ≤ t) : (2 * x + 1) / 2 ^ t = x / 2 ^ (t - 1) := by
  obtain ⟨n, rfl⟩ : ∃ n, t = n + 1 := ⟨t - 1, by omega⟩
  rw [Nat.add_sub_cancel, Nat.pow_succ', ← Nat.div_div_eq_div_mul, show (2 * x + 1) / 2 = x by omega]
theorem tf_sticky {s : Bool} {x : Nat} {e m : Int} (h : 64 ≤ bl x) : tfF s false x e m = tfF s true (2 * x + 1) (e - 1) m := by
  have hx0 : x ≠ 0 := fun e => by rw [e] at h; simp [bl] at h
  have hb := bl_two hx0
  have hd : tfD (2 * x + 1) = tfD x + 1 := by unfold tfD; omega
  unfold tfF
  have hM : tfM true (2 * x + 1) = tfM false x := by
    unfold tfM
    rw [hd, two_div (by omega), Nat.add_sub_cancel, tz_odd (show (2 * x + 1) % 2 = 1 by omega), decide_eq_true (show 0 < tfD x + 1 by omega)]
    simp
  rw [hM, hd, show e - 1 + ((tfD x + 1 : Nat) : Int) = e + (tfD x : Int) by omega]
theorem tf_cut {s : Bool} {Z n : Nat} {E m : Int} (h : 64 ≤ bl (Z / 2 ^ n)) (hr : Z % 2 ^ n ≠ 0) : tfF s true Z E m = tfF s false (Z / 2 ^ n) (E + n) m := by
  have hn : 0 < n := by
    rcases Nat.eq_zero_or_pos n with h0 | h0
    · rw [h0, Nat.pow_zero, Nat.mod_one] at hr; omega
    · exact h0
  have hlt : n < bl Z := Nat.lt_of_not_le fun hle => by
    have : Z / 2 ^ n = 0 := Nat.div_eq_of_lt ((bl_le _ _).1 hle)
    rw [this] at h; simp [bl] at h
  have hb := bl_div hlt
  have hZ0 : Z ≠ 0 := fun e => by rw [e] at hlt; simp [bl] at hlt
  have hd : tfD Z = tfD (Z / 2 ^ n) + n := by unfold tfD; omega
  have hst : tz Z < tfD Z := by
    refine (tz_iff hZ0).2 fun e => hr ?_
    have h1 : 2 ^ n ∣ 2 ^ tfD Z := Nat.pow_dvd_pow 2 (by omega)
    exact Nat.mod_eq_zero_of_dvd (Nat.dvd_trans h1 (Nat.dvd_of_mod_eq_zero e))
  unfold tfF
  have hM : tfM true Z = tfM false (Z / 2 ^ n) := by
    unfold tfM
    rw [decide_eq_true hst, hd, Nat.div_div_eq_div_mul, ← Nat.pow_add, Nat.add_comm n]
    simp
  rw [hM, hd, show E + ((tfD (Z / 2 ^ n) + n : Nat) : Int) = E + (n : Int) + (tfD (Z / 2 ^ n) : Int) by omega]
theorem bdy_shl {x n : Nat} {e : Int} {way : Nat} (hw : way = 0 ∨ way = 1 ∨ way = 2) : bdy (x * 2 ^ n) e way = bdy x (e + n) way := by
  by_cases h0 : x = 0
  · subst h0; rw [Nat.zero_mul]; unfold bdy; rw [if_pos rfl, if_pos rfl]
  have h1 : x * 2 ^ n ≠ 0 := Nat.mul_ne_zero h0 (by have := Nat.two_pow_pos n; omega)
  obtain ⟨K, hK⟩ : ∃ K : Nat, K = 1200 + (64 - e).toNat + n := ⟨_, rfl⟩
  have a := rwb_rounds (e := e) h1 (K := K) (by omega) (by omega) (way := way)
  have b := rwb_rounds (e := e + n) h0 (K := K) (by omega) (by omega) (way := way)
  have hv : x * 2 ^ n * 2 ^ (e + (K : Int)).toNat = x * 2 ^ (e + (n : Int) + (K : Int)).toNat := by
    rw [Nat.mul_assoc, ← Nat.pow_add, show n + (e + (K : Int)).toNat = (e + (n : Int) + (K : Int)).toNat by omega]
  have h2 := Rounds.mono hw a b (Nat.le_of_eq hv)
  have h3 := Rounds.mono hw b a (Nat.le_of_eq hv.symm)
  have h4 : rwb (x * 2 ^ n) e way = rwb x (e + n) way := Nat.le_antisymm h2 h3
  unfold bdy
  rw [if_neg h0, if_neg h1, h4]
theorem tf_shl {s : Bool} {x n : Nat} {e m : Int} (hm : 1 ≤ m ∧ m ≤ 3) : tfF s true (x * 2 ^ n) e m = tfF s true x (e + n) m := by
  rw [tf_bdy hm, tf_bdy hm, bdy_shl (wyN_ways s m)]
theorem tf_coarse {s xf xc : Bool} {Qf Qc D : Nat} {E m : Int} (hm : 1 ≤ m ∧ m ≤ 3) (hq : Qc = Qf / 2 ^ D) (hx : xc = (xf && decide (Qf % 2 ^ D = 0))) (h : 64 ≤ bl Qc) : tfF s xf Qf E m = tfF s xc Qc (E + D) m := by
  subst hq
  cases xf
  · rw [Bool.false_and] at hx
    subst hx
    have hle : bl (Qf / 2 ^ D) ≤ bl Qf := by
      have := (bl_le (Qf / 2 ^ D) (bl Qf)).2 (Nat.lt_of_le_of_lt (Nat.div_le_self _ _) (lt_bl Qf))
      exact this
    rw [tf_sticky (by omega)]
    have e1 : (2 * Qf + 1) / 2 ^ (D + 1) = Qf / 2 ^ D := by rw [two_div (by omega), Nat.add_sub_cancel]
    have := tf_cut (s := s) (Z := 2 * Qf + 1) (n := D + 1) (E := E - 1) (m := m) (by rw [e1]; exact h) (fun h0 => by
      have h1 : 2 ∣ 2 ^ (D + 1) := ⟨2 ^ D, by rw [Nat.pow_succ, Nat.mul_comm]⟩
      have := Nat.dvd_trans h1 (Nat.dvd_of_mod_eq_zero h0)
      omega)
    rw [this, e1, show E - 1 + ((D + 1 : Nat) : Int) = E + D by omega]
  · rw [Bool.true_and] at hx
    subst hx
    by_cases h0 : Qf % 2 ^ D = 0
    · rw [decide_eq_true h0]
      have e1 : Qf = Qf / 2 ^ D * 2 ^ D := by
        have := Nat.div_add_mod Qf (2 ^ D)
        rw [h0, Nat.add_zero, Nat.mul_comm] at this
        exact this.symm
      conv => lhs; rw [e1]
      exact tf_shl hm
    · rw [decide_eq_false h0]
      exact tf_cut h h0
theorem tf_big {s xe : Bool} {x y : Nat} {e f m : Int} (hm : 1 ≤ m ∧ m ≤ 3) (hx : 64 ≤ bl x ∨ (xe = true ∧ x ≠ 0)) (hy : y ≠ 0) (h1 : 1024 < (bl x : Int) + e) (h2 : 1024 < (bl y : Int) + f) : tfF s xe x e m = tfF s true y f m := by
  have key : ∀ z (g : Int), z ≠ 0 → 1024 < (bl z : Int) + g → tfF s true z g m = sig s (if wyN s m = 0 then 9218868437227405311 else 9218868437227405312) := fun z g hz hg => by rw [tf_bdy hm, bdy_big hz hg (wyN_ways s m)]
  rw [key y f hy h2]
  cases xe
  · have hb : 64 ≤ bl x := hx.resolve_right (fun h => by cases h.1)
    have hx0 : x ≠ 0 := fun e => by rw [e] at hb; simp [bl] at hb
    rw [tf_sticky hb]
    exact key _ _ (by omega) (by rw [bl_two hx0]; omega)
  · rcases hx with hb | ⟨-, hx0⟩
    · exact key x e (fun e => by rw [e] at hb; simp [bl] at hb) h1
    · exact key x e hx0 h1
theorem tf_tiny {s xe : Bool} {x y : Nat} {e f m : Int} (hm : 1 ≤ m ∧ m ≤ 3) (hx : 64 ≤ bl x ∨ (xe = true ∧ x ≠ 0)) (hy : y ≠ 0) (h1 : (bl x : Int) + e < -1075) (h2 : (bl y : Int) + f < -1075) : tfF s xe x e m = tfF s true y f m := by
  have key : ∀ z (g : Int), z ≠ 0 → (bl z : Int) + g < -1075 → tfF s true z g m = sig s (if wyN s m = 2 then 1 else 0) := fun z g hz hg => by rw [tf_bdy hm, bdy_tiny hz hg (wyN_ways s m)]
  rw [key y f hy h2]
  cases xe
  · have hb : 64 ≤ bl x := hx.resolve_right (fun h => by cases h.1)
    have hx0 : x ≠ 0 := fun e => by rw [e] at hb; simp [bl] at hb
    rw [tf_sticky hb]
    exact key _ _ (by omega) (by rw [bl_two hx0]; omega)
  · rcases hx with hb | ⟨-, hx0⟩
    · exact key x e (fun e => by rw [e] at hb; simp [bl] at hb) h1
    · exact key x e hx0 h1
theorem four_two (D : Nat) : 2 ^ (2 * D) = 2 ^ D * 2 ^ D := by rw [← Nat.pow_add]; congr 1; omega
theorem root_coarse {N r D : Nat} (h1 : r * r ≤ N) (h2 : N < (r + 1) * (r + 1)) :
    (r / 2 ^ D * (r / 2 ^ D) ≤ N / 2 ^ (2 * D) ∧ N / 2 ^ (2 * D) < (r / 2 ^ D + 1) * (r / 2 ^ D + 1)) ∧ (decide (r / 2 ^ D * (r / 2 ^ D) = N / 2 ^ (2 * D)) && decide (N % 2 ^ (2 * D) = 0)) = (decide (r * r = N) && decide (r % 2 ^ D = 0)) := by
  have hp : 0 < 2 ^ D := Nat.two_pow_pos D
  have hM : 2 ^ (2 * D) = 2 ^ D * 2 ^ D := four_two D
  have hMp : 0 < 2 ^ (2 * D) := Nat.two_pow_pos _
  have hr := Nat.div_add_mod r (2 ^ D)
  have ht := Nat.mod_lt r hp
  obtain ⟨c, hc⟩ : ∃ c, c = r / 2 ^ D := ⟨_, rfl⟩
  obtain ⟨t, htt⟩ : ∃ t, t = r % 2 ^ D := ⟨_, rfl⟩
  obtain ⟨P, hP⟩ : ∃ P, P = 2 ^ D := ⟨_, rfl⟩
  rw [← hc, ← htt, ← hP] at hr
  rw [← htt, ← hP] at ht
  rw [← hc, ← htt, hM, ← hP]
  rw [← hP] at hp
  have e1 : c * c * (P * P) = (P * c) * (P * c) := by grind
  have hlo : c * c * (P * P) ≤ N := by
    rw [e1]
    exact Nat.le_trans (Nat.mul_le_mul (by omega) (by omega)) h1
  have hhi : N < (c + 1) * (c + 1) * (P * P) := by
    have e2 : (c + 1) * (c + 1) * (P * P) = (P * c + P) * (P * c + P) := by grind
    rw [e2]
    exact Nat.lt_of_lt_of_le h2 (Nat.mul_le_mul (by omega) (by omega))
  have hPP : 0 < P * P := Nat.mul_pos hp hp
  refine ⟨⟨(Nat.le_div_iff_mul_le hPP).2 hlo, (Nat.div_lt_iff_lt_mul hPP).2 hhi⟩, ?_⟩
  have hN := Nat.div_add_mod N (P * P)
  rw [Bool.eq_iff_iff]
  simp only [Bool.and_eq_true, decide_eq_true_eq]
  constructor
  · rintro ⟨a, b⟩
    rw [b, Nat.add_zero, ← a] at hN
    have hN2 : (P * c) * (P * c) = N := by rw [← e1, Nat.mul_comm]; exact hN
    have hrr : r = P * c := root_one h1 h2 (Nat.le_of_eq hN2) (by rw [← hN2]; exact Nat.mul_lt_mul'' (Nat.lt_succ_self _) (Nat.lt_succ_self _))
    exact ⟨by rw [hrr]; exact hN2, by omega⟩
  · rintro ⟨a, b⟩
    rw [b, Nat.add_zero] at hr
    have hN2 : N = c * c * (P * P) := by rw [e1, hr]; exact a.symm
    exact ⟨by rw [hN2, Nat.mul_div_cancel _ hPP], by rw [hN2, Nat.mul_mod_left]⟩
theorem sqrt_eq {x k q s : Nat} {ea P h2 m : Int} (hm : 1 ≤ m ∧ m ≤ 3) (hk : ea - k = 2 * h2) (a1 : q * q ≤ x * 2 ^ k) (a2 : x * 2 ^ k < (q + 1) * (q + 1)) (b1 : s * s ≤ rtQ x ea P) (b2 : rtQ x ea P < (s + 1) * (s + 1)) (hq : 64 ≤ bl q) (hs : 64 ≤ bl s) :
    tfF false (decide (q * q = x * 2 ^ k)) q h2 m = tfF false (decide (s * s = rtQ x ea P) && rtW x ea P) s (-P) m := by
  by_cases hc : 0 ≤ h2 + P
  · -- the document's is finer
    obtain ⟨D, hD⟩ : ∃ D : Nat, h2 + P = (D : Int) := ⟨(h2 + P).toNat, by omega⟩
    have hn : 0 ≤ ea + 2 * P := by omega
    have hQ : rtQ x ea P = x * 2 ^ k * 2 ^ (2 * D) := by
      unfold rtQ; rw [if_pos hn, Nat.mul_assoc, ← Nat.pow_add, show (ea + 2 * P).toNat = k + 2 * D by omega]
    have hW : rtW x ea P = true := by unfold rtW; rw [decide_eq_true hn]; rfl
    have rc := root_coarse (D := D) b1 b2
    have hp : 0 < 2 ^ (2 * D) := Nat.two_pow_pos _
    rw [hQ, Nat.mul_div_cancel _ hp, Nat.mul_mod_left] at rc
    have hqs : q = s / 2 ^ D := root_one a1 a2 rc.1.1 rc.1.2
    rw [hW, Bool.and_true, hQ]
    have hx : decide (q * q = x * 2 ^ k) = (decide (s * s = x * 2 ^ k * 2 ^ (2 * D)) && decide (s % 2 ^ D = 0)) := by
      rw [← rc.2, ← hqs]; simp
    have := tf_coarse (s := false) (E := -P) (D := D) hm hqs hx hq
    rw [this, show -P + (D : Int) = h2 by omega]
  · obtain ⟨D, hD⟩ : ∃ D : Nat, h2 + P = -(D : Int) := ⟨(-(h2 + P)).toNat, by omega⟩
    have rc := root_coarse (D := D) a1 a2
    have key : x * 2 ^ k / 2 ^ (2 * D) = rtQ x ea P ∧ decide (x * 2 ^ k % 2 ^ (2 * D) = 0) = rtW x ea P := by
      by_cases hn : 0 ≤ ea + 2 * P
      · obtain ⟨n, hn'⟩ : ∃ n : Nat, ea + 2 * P = (n : Int) := ⟨(ea + 2 * P).toNat, by omega⟩
        have e1 : x * 2 ^ k = x * 2 ^ n * 2 ^ (2 * D) := by rw [Nat.mul_assoc, ← Nat.pow_add, show n + 2 * D = k by omega]
        have hp : 0 < 2 ^ (2 * D) := Nat.two_pow_pos _
        constructor
        · rw [e1, Nat.mul_div_cancel _ hp]; unfold rtQ; rw [if_pos hn, hn', Int.toNat_natCast]
        · rw [e1, Nat.mul_mod_left]; unfold rtW; rw [decide_eq_true hn]; rfl
      · obtain ⟨j, hj⟩ : ∃ j : Nat, ea + 2 * P = -(j : Int) := ⟨(-(ea + 2 * P)).toNat, by omega⟩
        have hj2 : (-(ea + 2 * P)).toNat = j := by omega
        have e1 : 2 ^ (2 * D) = 2 ^ j * 2 ^ k := by rw [← Nat.pow_add, show j + k = 2 * D by omega]
        have hp : 0 < 2 ^ k := Nat.two_pow_pos _
        constructor
        · rw [e1, Nat.mul_div_mul_right _ _ hp]; unfold rtQ; rw [if_neg hn, hj2]
        · rw [e1, Nat.mul_mod_mul_right]; unfold rtW; rw [decide_eq_false hn, hj2, Bool.false_or]
          refine decide_eq_decide.2 ⟨fun h => ?_, fun h => by rw [h, Nat.zero_mul]⟩
          rcases Nat.mul_eq_zero.1 h with h | h
          · exact h
          · omega
    rw [key.1, key.2] at rc
    have hsq : s = q / 2 ^ D := root_one b1 b2 rc.1.1 rc.1.2
    have hx : (decide (s * s = rtQ x ea P) && rtW x ea P) = (decide (q * q = x * 2 ^ k) && decide (q % 2 ^ D = 0)) := by
      rw [← rc.2, ← hsq]
    have := tf_coarse (s := false) (E := h2) (D := D) hm hsq hx hs
    rw [this, show h2 + (D : Int) = -P by omega]
theorem rto_nc {W : World} {base : Nat} {A : Value} {s : Bool} {z : Nat} {e m : Int} (h : NC W base A s z e) (hz : z ≠ 0) (hl : dlen z ≤ 30000) (he1 : -2000000 ≤ e) (he2 : e ≤ 2000000) (hm : 1 ≤ m ∧ m ≤ 3) :
    Calls Tryz.prog 66 #[A, .int .i64 m] W fun r w' => r = .returned (.float .f64 (tfF s true z e m)) ∧ Below W.heap.size W w' := by
  obtain ⟨ao, cap, rfl, hA, -⟩ := h
  have hc : cn s z e = (s, z / 2 ^ tz z, e + tz z) := by unfold cn; rw [if_neg hz]
  rw [hc] at hA ⊢
  simp only at hA ⊢
  have hs := tz_spec z z (Nat.le_refl _) hz
  have htz : tz z < bl z := by
    have h3 : 2 ^ tz z ≤ z := by
      have h4 : 0 < z / 2 ^ tz z := Nat.pos_of_ne_zero fun e => by have := hs.2; rw [e] at this; omega
      exact Nat.le_trans (Nat.le_mul_of_pos_right _ h4) (Nat.le_of_eq hs.1)
    exact (Nat.pow_lt_pow_iff_right (by omega)).1 (Nat.lt_of_le_of_lt h3 (lt_bl z))
  have hbl := bl_le_dlen z
  have hdl : dlen (z / 2 ^ tz z) ≤ dlen z := dlen_mono (Nat.div_le_self _ _)
  have := rto (neg := s) (ea := e + tz z) (m := m) hA.at_ hA.le hs.2 (by omega) (by omega) (by omega) hm
  rw [← tf_bdy hm] at this
  have e1 : tfF s true (z / 2 ^ tz z) (e + tz z) m = tfF s true z e m := by
    rw [← tf_shl (x := z / 2 ^ tz z) (n := tz z) (e := e) hm, Nat.mul_comm, hs.1]
  rw [e1] at this
  exact this
theorem half_sum {s : Bool} {z : Nat} {P : Int} (hz : s = true → z ≠ 0) : sumN (cn s z (-P)).1 (cn s z (-P)).2.1 (cn s z (-P)).2.2 false 1 (-(P + 1)) = (if z = 0 then false else s, if s then 2 * z - 1 else 2 * z + 1, -(P + 1)) := by
  by_cases h0 : z = 0
  · have hs : s = false := by cases s with
      | false => rfl
      | true => exact absurd h0 (hz rfl)
    subst hs; subst h0
    unfold cn; rw [if_pos rfl]; unfold sumN; rw [if_pos rfl]; simp
  · have h2 := tz_spec z z (Nat.le_refl _) h0
    have e1 : cn s z (-P) = (s, z / 2 ^ tz z, -P + tz z) := by unfold cn; rw [if_neg h0]
    have h3 : z / 2 ^ tz z ≠ 0 := fun e => by have := h2.2; rw [e] at this; omega
    have hz2 : z / 2 ^ tz z * 2 ^ (tz z + 1) = 2 * z := by rw [Nat.pow_succ, ← Nat.mul_assoc, Nat.mul_comm (z / 2 ^ tz z), h2.1, Nat.mul_comm]
    rw [e1]
    unfold sumN
    simp only
    rw [if_neg h3, if_neg (by omega), show min (-P + (tz z : Int)) (-(P + 1)) = -(P + 1) by omega, show (-P + (tz z : Int) - -(P + 1)).toNat = tz z + 1 by omega, show (-(P + 1) - -(P + 1)).toNat = 0 by omega, Nat.pow_zero, Nat.mul_one, hz2, if_neg h0]
    cases s
    · rw [if_pos rfl, if_neg (by decide)]
    · rw [if_neg (by decide), if_neg (by omega), if_pos rfl]
theorem rbetween {W : World} {base : Nat} {A : Value} {s : Bool} {q : Nat} {P m : Int} {bx : Bool} (h : NC W base A s (if s && !bx then q + 1 else q) (-P)) (hq : bx = true → q ≠ 0) (hl : dlen q ≤ 20000) (hP1 : -100000 ≤ P) (hP2 : P ≤ 100000) (hm : 1 ≤ m ∧ m ≤ 3) :
    Calls Tryz.prog 108 #[A, .bool bx, .int .i64 P, .int .i64 m] W fun r w' => r = .returned (.float .f64 (if bx then tfF s true q (-P) m else tfF s true (2 * q + 1) (-(P + 1)) m)) ∧ Below W.heap.size W w' := by
  obtain ⟨s0, ao0, n0, cap0, e0, rfl⟩ := h.shape
  cases bx
  · rw [Bool.not_false, Bool.and_true] at h
    rw [if_neg (by decide)]
    have hzl : dlen (if s then q + 1 else q) ≤ 20001 := by
      split
      · exact Nat.le_trans (dlen_succ_le _) (by omega)
      · omega
    refine rbet_r s0 ao0 n0 cap0 _ e0 P m s (2 * q + 1) (-(P + 1)) W (by omega) (by omega) (fun g W' hW' hA1 => ?_) (fun W' A' hW' hN => ?_)
    · obtain ⟨ao, cap, e1, hA, -⟩ := h.later hW'
      rw [e1]
      obtain ⟨z, hz⟩ : ∃ z, z = if s then q + 1 else q := ⟨_, rfl⟩
      rw [← hz] at hA hzl ⊢
      have hcn : cn (cn s z (-P)).1 (cn s z (-P)).2.1 (cn s z (-P)).2.2 = (cn s z (-P)) := by
        by_cases h0 : z = 0
        · unfold cn; rw [if_pos h0, if_pos rfl]
        · have h2 := (tz_spec z z (Nat.le_refl _) h0).2
          have : cn s z (-P) = (s, z / 2 ^ tz z, -P + tz z) := by unfold cn; rw [if_neg h0]
          rw [this]
          exact cn_odd h2
      have hbnd : -2000000 ≤ (cn s z (-P)).2.2 ∧ (cn s z (-P)).2.2 ≤ 2000000 := by
        by_cases h0 : z = 0
        · unfold cn; rw [if_pos h0]; exact ⟨by decide, by decide⟩
        · have hs := tz_spec z z (Nat.le_refl _) h0
          have htz : tz z < bl z := by
            have h3 : 2 ^ tz z ≤ z := Nat.le_trans (Nat.le_mul_of_pos_right _ (Nat.pos_of_ne_zero fun e => by have := hs.2; rw [e] at this; omega)) (Nat.le_of_eq hs.1)
            exact (Nat.pow_lt_pow_iff_right (by omega)).1 (Nat.lt_of_le_of_lt h3 (lt_bl z))
          have hbl := bl_le_dlen z
          unfold cn; rw [if_neg h0]; exact ⟨by simp only; omega, by simp only; omega⟩
      have hone : Arg W' (some ⟨g, 0, none⟩) (dlen 1) 1 1 := ⟨fun h => by rw [dlen_one] at h; omega, by rw [dlen_one]; exact hA1, by rw [dlen_one]; exact Nat.le_refl _, by rw [dlen_one]; omega⟩
      have := rplusG (na := (cn s z (-P)).1) (nb := false) (ea := (cn s z (-P)).2.2) (eb := -(P + 1)) hA hone hcn (cn_odd rfl) hbnd.1 hbnd.2 (by omega) (by omega) (Nat.le_trans cn_dlen (by omega)) (by rw [dlen_one]; omega)
      have hzs : s = true → z ≠ 0 := fun e => by rw [hz, e, if_pos rfl]; omega
      rw [half_sum hzs, dlen_one] at this
      refine this.mono ?_
      rintro r w' ⟨a, rfl, hN, hb⟩
      refine ⟨a, rfl, ?_, hb⟩
      have e2 : (if s then 2 * z - 1 else 2 * z + 1) = 2 * q + 1 := by
        rw [hz]; cases s
        · rw [if_neg (by decide), if_neg (by decide)]
        · rw [if_pos rfl, if_pos rfl]; omega
      rw [e2] at hN
      by_cases h0 : z = 0
      · rw [if_pos h0] at hN
        have hs : s = false := by cases s with
          | false => rfl
          | true => exact absurd h0 (hzs rfl)
        rw [hs]; exact hN
      · rw [if_neg h0] at hN; exact hN
    · refine rto_nc hN (by omega) ?_ (by omega) (by omega) hm
      have h1 := dlen_add_le q q
      have h2 := dlen_succ_le (q + q)
      rw [show 2 * q + 1 = q + q + 1 by omega]
      omega
  · rw [Bool.not_true, Bool.and_false, if_neg (by decide)] at h
    rw [if_pos rfl]
    exact rbet_e s0 ao0 n0 cap0 _ e0 P m W (fun W' hW' => rto_nc (h.later hW') (hq rfl) (by omega) (by omega) (by omega) hm)
end Go.Proofs.YtcoclopllbfjcaaGreatDoor
namespace Go.Proofs.YtcoclopllbfjcaaGreatDoor
set_option linter.unusedVariables false
set_option linter.unusedSimpArgs false
open Go.RowKit Go.Fl64
theorem tF_fits (a : Nat) : Fits (-1074) 1025 (tF a).2.1 (tF a).2.2 := by
  refine Fits.cn (.inr ⟨(Ie.lp_bound a).1, by have := (Ie.lp_bound a).2; omega, ?_⟩)
  have h := Ie.mant_bound a
  have h2 := (Ie.lp_bound a).2
  have : 2 ^ 53 ≤ 2 ^ (1025 - Ie.lp a).toNat := Nat.pow_le_pow_right (by decide) (by omega)
  omega
theorem tF_ok (a : Nat) : Ok (tF a) := by
  refine ok_cn (Fits.ok (lo := -1074) (hi := 1025) (.inr ⟨(Ie.lp_bound a).1, by have := (Ie.lp_bound a).2; omega, ?_⟩) (by omega) (by omega) (by omega))
  have h := Ie.mant_bound a
  have h2 := (Ie.lp_bound a).2
  have : 2 ^ 53 ≤ 2 ^ (1025 - Ie.lp a).toNat := Nat.pow_le_pow_right (by decide) (by omega)
  omega
theorem cn_parts (a m : Nat) (ha : a < 18446744073709551616) (hf : mag a < 9218868437227405312) (hm : Ie.sM a = (m : Int)) : cn (neg a) m (Ie.sE a) = tF a := by
  unfold tF cn
  rcases of_parts a m ha hf hm with ⟨h1, h2⟩ | ⟨h1, h2, -, h3, h4⟩
  · rw [if_pos h1, if_pos h2]
  · rw [if_neg h1, if_neg h2, h3, h4]
theorem exact_ok (a : Nat) (ha : a < 18446744073709551616) (hf : mag a < 9218868437227405312) (w : World) (hT : Tab32 w) (hI : Ie.Tab w) : Calls Tryz.prog 85 #[.float .f64 a] w fun r w' => OutA w (tF a) r w' := by
  obtain ⟨m, hm, hml⟩ := sM_lt a ha
  refine exact_1 a (tF a) w fun W hW => (of_fin a m ha W (hT.later hW) (Tab.later hI hW) hf hm).mono ?_
  rintro r w' ⟨A, rfl, hN, hb⟩
  have hp := hN.pn
  rw [cn_parts a m ha hf hm] at hp
  obtain ⟨s, ao, n, cap, e, rfl⟩ := hp.shape
  exact ⟨s, ao, n, cap, e, rfl, hp, hb⟩
def tS (t1 t2 : Bool × Nat × Int) : Bool × Nat × Int := cn (sumN t1.1 t1.2.1 t1.2.2 t2.1 t2.2.1 t2.2.2).1 (sumN t1.1 t1.2.1 t1.2.2 t2.1 t2.2.1 t2.2.2).2.1 (sumN t1.1 t1.2.1 t1.2.2 t2.1 t2.2.1 t2.2.2).2.2
theorem tS_fits {lo hi : Int} {t1 t2 : Bool × Nat × Int} (h1 : Fits lo hi t1.2.1 t1.2.2) (h2 : Fits lo hi t2.2.1 t2.2.2) : Fits lo (hi + 1) (tS t1 t2).2.1 (tS t1 t2).2.2 := Fits.cn (Fits.sum h1 h2)
theorem tS_okR {lo hi : Int} {t1 t2 : Bool × Nat × Int} (h1 : Fits lo hi t1.2.1 t1.2.2) (h2 : Fits lo hi t2.2.1 t2.2.2) (hb : hi + 1 - lo ≤ 65536) (hlo : -65536 ≤ lo) (hhi : hi + 1 ≤ 65536) : okR (sumN t1.1 t1.2.1 t1.2.2 t2.1 t2.2.1 t2.2.2).1 (sumN t1.1 t1.2.1 t1.2.2 t2.1 t2.2.1 t2.2.2).2.1 (sumN t1.1 t1.2.1 t1.2.2 t2.1 t2.2.1 t2.2.2).2.2 = true := (Fits.sum h1 h2).ok hb hlo hhi
theorem psign {t : Bool × Nat × Int} {A : Value} {w : World} (ok : Ok t) (h : PN w A t) : Calls Tryz.prog 144 #[A] w fun r w' => r = .returned (.int .i64 (sgI t.1 (dlen t.2.1))) ∧ Below w.heap.size w w' := by
  obtain ⟨ao, cap, rfl, h1⟩ := h
  obtain ⟨f1, -, -, -, -⟩ := ok.facts
  exact sign_ok h1 (by omega) ok
theorem sgI_nought {s : Bool} {x : Nat} : (sgI s (dlen x) == 0) = decide (x = 0) := by
  unfold sgI
  by_cases h : x = 0
  · rw [if_pos (dlen_eq_zero.2 h), decide_eq_true h]; rfl
  · rw [if_neg (fun e => h (dlen_eq_zero.1 e)), decide_eq_false h]; cases s <;> rfl
theorem sig_lt {s : Bool} {n : Nat} (h : n ≤ 9218868437227405312) : sig s n < 18446744073709551616 := by
  unfold sig; cases s <;> simp <;> omega
theorem tfF_lt {s : Bool} {x : Nat} {e m : Int} (hm : 1 ≤ m ∧ m ≤ 3) : tfF s true x e m < 18446744073709551616 := by
  rw [tf_bdy hm]; exact sig_lt (bdy_le _ _ _)
theorem fin_false {a : Nat} : fin a = false ↔ ¬ mag a < 9218868437227405312 := by unfold fin; simp
theorem addX_lt {a b : Nat} (ha : a < 18446744073709551616) (hb : b < 18446744073709551616) : addX a b < 18446744073709551616 := by
  unfold addX
  repeat' split
  all_goals first | exact ha | exact hb | decide
def OutF2 (W : World) (X : Nat) (r : Ending) (w' : World) : Prop := ∃ n, r = .returned (.float .f64 n) ∧ lk n X ∧ Below W.heap.size W w'
theorem psub_1 (a b X : Nat) (m : Int) (w : World) (hb : b < 18446744073709551616) (k : Calls Tryz.prog 110 #[.float .f64 a, .float .f64 (ngt b), .int .i64 m] w fun r w' => OutF2 w X r w') :
    Calls Tryz.prog 76 #[.float .f64 a, .float .f64 b, .int .i64 m] w fun r w' => OutF2 w X r w' := by
  have hn : ∀ w, (Op.unary UnOp.neg (.float .f64 b)).run Tryz.prog w = .ok (.float .f64 (ngt b)) w := fun w => by rw [← negF b hb]; rfl
  go_enter Tryz.func76, Tryz.ntmps76
  go_wp2_with fail
  refine k.mono ?_
  rintro r w1 ⟨n, rfl, h1, h2⟩
  have HB : Hid (lk n X ∧ Below w.heap.size w w1) := ⟨h1, h2⟩
  clear k h1 h2
  go_wp2_with fail
  go_ret
  exact ⟨_, rfl, HB.out.1, HB.out.2⟩
end Go.Proofs.YtcoclopllbfjcaaGreatDoor
namespace Go.Proofs.YtcoclopllbfjcaaGreatDoor
set_option linter.unusedVariables false
set_option linter.unusedSimpArgs false
open Go Go.RowKit
end Go.Proofs.YtcoclopllbfjcaaGreatDoor
namespace Go.Proofs.YtcoclopllbfjcaaGreatDoor
set_option linter.unusedVariables false
set_option linter.unusedSimpArgs false
open Go.RowKit Go.Fl64
end Go.Proofs.YtcoclopllbfjcaaGreatDoor
namespace Go.Proofs.YtcoclopllbfjcaaGreatDoor
set_option linter.unusedVariables false
set_option linter.unusedSimpArgs false
open Go Go.RowKit Go.Fl64 Go.Shelf
attribute [local go_sem] Oper.semAt_some
def FAt (w : World) (ao : Option Addr) (len : Nat) (xs : Nat → Nat) : Prop := ∃ b off, (0 < len → ao = some ⟨b, off, none⟩) ∧ ∀ j, j < len → w.cell? ⟨b, off + j, none⟩ = some (.float .f64 (xs j))
theorem FAt.later {w w' : World} {ao : Option Addr} {len : Nat} {xs : Nat → Nat} (h : FAt w ao len xs) (hb : Below w.heap.size w w') : FAt w' ao len xs := by
  obtain ⟨b, off, h1, h2⟩ := h
  refine ⟨b, off, h1, fun j hj => ?_⟩
  have := h2 j hj
  have hlt : b < w.heap.size := by
    unfold World.cell? at this
    rcases Nat.lt_or_ge b w.heap.size with h | h
    · exact h
    · rw [Array.getElem?_eq_none h] at this
      simp at this
  exact (hb.cell (p := ⟨b, off + j, none⟩) hlt).trans this
attribute [local go_sem] Oper.semAt_some
def tSum (xs : Nat → Nat) : Nat → Bool × Nat × Int
  | 0 => (false, 0, 0)
  | k + 1 => tS (tSum xs k) (tF (xs k))
theorem cell_put {W : World} {l : Nat} {o o' : Obj} {p : Addr} {v : Value} (h : W.cell? p = some v) (hl : W.heap[l]? = some o) (ho : o.isCells = false) : (W.putObj l o').cell? p = some v := by
  unfold World.cell? at *
  by_cases e : p.block = l
  · rw [e, hl] at h
    cases o <;> simp_all [Obj.isCells]
  · rw [World.putObj_heap_other e]; exact h
theorem pn_put {W : World} {l : Nat} {o o' : Obj} {A : Value} {t : Bool × Nat × Int} (h : PN W A t) (hl : W.heap[l]? = some o) (ho : o.isCells = false) : PN (W.putObj l o') A t := by
  obtain ⟨ao, cap, h1, ao', cap', h2, h3, h4, b, off, h5, h6⟩ := h
  exact ⟨ao, cap, h1, ao', cap', h2, h3, h4, b, off, h5, fun i hi => cell_put (h6 i hi) hl ho⟩
theorem box_put {W : World} {l g : Nat} {o o' : Obj} {c : Array Value} {ty : TypeId} {z : Nat × Nat} (h : W.heap[g]? = some (.cells c ty z)) (hl : W.heap[l]? = some o) (ho : o.isCells = false) : (W.putObj l o').heap[g]? = some (.cells c ty z) := by
  have e : g ≠ l := by
    intro e
    rw [e, hl] at h
    cases h
    cases ho
  rw [World.putObj_heap_other e]; exact h
def TotI (w : World) (B g3 : Nat) (xs : Nat → Nat) (k : Nat) (W : World) : Prop :=
  Below w.heap.size w W ∧ B ≤ W.heap.size ∧ W.heap[w.heap.size]? = some (.cells #[.bool false, .slice none 0 0, .int .i64 0] 96 (0, 0)) ∧ ∃ s ao n cap e, W.heap[g3]? = some (.cells #[.bool s, .slice ao n cap, .int .i64 e] 96 (0, 0)) ∧ PN W (.agg #[.bool s, .slice ao n cap, .int .i64 e]) (tSum xs k)
theorem TotI.later {w : World} {B g3 : Nat} {xs : Nat → Nat} {k : Nat} {A C : World} (h : TotI w B g3 xs k A) (hb : Below A.heap.size A C) : TotI w B g3 xs k C := by
  obtain ⟨h1, h2, h3, s, ao, n, cap, e, h4, h5⟩ := h
  exact ⟨h1.trans (hb.mono h1.size), Nat.le_trans h2 hb.size, box_later h3 hb (lt_of_box h3), s, ao, n, cap, e, box_later h4 hb (lt_of_box h4), h5.later hb⟩
theorem TotI.put {w : World} {B g3 : Nat} {xs : Nat → Nat} {k l : Nat} {A : World} {o o' : Obj} (h : TotI w B g3 xs k A) (hB : w.heap.size ≤ B) (hl : B ≤ l) (ho : A.heap[l]? = some o) (hc : o.isCells = false) : TotI w B g3 xs k (A.putObj l o') := by
  obtain ⟨h1, h2, h3, s, ao, n, cap, e, h4, h5⟩ := h
  have hb : Below w.heap.size A (A.putObj l o') := (Below.refl w.heap.size A).grown (grownBy_putObj' A l o') (by have := (Array.getElem?_eq_some_iff.1 ho).1; omega) (fun k e => by cases e; omega)
  exact ⟨h1.trans hb, Nat.le_trans h2 hb.size, box_put h3 ho hc, s, ao, n, cap, e, box_put h4 ho hc, pn_put h5 ho hc⟩
theorem KeepsFrom.below {B : Nat} {W W' : World} (h : Below W.heap.size W W') : KeepsFrom B W W' := ⟨h.size, fun k o _ hk _ => box_later hk h (Array.getElem?_eq_some_iff.1 hk).1⟩
end Go.Proofs.YtcoclopllbfjcaaGreatDoor
namespace Go.Proofs.YtcoclopllbfjcaaGreatDoor
set_option linter.unusedVariables false
set_option linter.unusedSimpArgs false
open Go.RowKit Go.Fl64
def UxP (w3 wc : World) (g : Nat) (s : Bool) (ao : Option Addr) (n cap : Nat) (ex : Int) (t : Bool × Nat × Int) : Prop := wc.heap[g]? = some (.cells #[.bool s, .slice ao n cap, .int .i64 ex] 96 (0, 0)) ∧ w3.heap.size ≤ g ∧ Below w3.heap.size w3 wc ∧ PN wc (.agg #[.bool s, .slice ao n cap, .int .i64 ex]) t
theorem UxP.new {w3 w7 : World} {s : Bool} {ao : Option Addr} {n cap : Nat} {ex : Int} {t : Bool × Nat × Int} (hn : PN w7 (.agg #[.bool s, .slice ao n cap, .int .i64 ex]) t) (hb : Below w3.heap.size w3 w7) : UxP w3 (w7.alloc (.cells #[.bool s, .slice ao n cap, .int .i64 ex] 96)) w7.heap.size s ao n cap ex t :=
  ⟨heap_alloc_new _ _, hb.size, hb.alloc hb.size _, hn.later ((Below.refl _ _).alloc (Nat.le_refl _) _)⟩
theorem UxP.put {w3 w7 : World} {g : Nat} {s : Bool} {ao : Option Addr} {n cap : Nat} {ex : Int} {t : Bool × Nat × Int} (hn : PN w7 (.agg #[.bool s, .slice ao n cap, .int .i64 ex]) t) (hb : Below w3.heap.size w3 w7) (hg : w3.heap.size ≤ g) (hbx : w7.heap[g]? = some (.cells #[.bool false, .slice none 0 0, .int .i64 0] 96 (0, 0))) :
    UxP w3 (((w7.setCell ⟨g, 0, none⟩ (.bool s)).setCell ⟨g, 1, none⟩ (.slice ao n cap)).setCell ⟨g, 2, none⟩ (.int .i64 ex)) g s ao n cap ex t :=
  ⟨store3 _ _ _ hbx, hg, below_store3 hb hg _ _ _, pn_store hn hbx _ _ _⟩
theorem lk_or {n X : Nat} (h : lk n X) : n = X ∨ (isNaN n = true ∧ isNaN X = true) := by
  cases hn : isNaN X
  · exact .inl (h.eq hn)
  · cases h2 : isNaN n
    · have := h.2
      unfold same at this
      rw [hn, h2] at this
      have e : n = X := by simp at this; omega
      rw [e, hn] at h2
      cases h2
    · exact .inr ⟨rfl, rfl⟩
def rtK (t1 t2 : Bool × Nat × Int) : Nat := (max 0 (64 + (bl t2.2.1 : Int) - (bl t1.2.1 : Int))).toNat
def rtF (t1 t2 : Bool × Nat × Int) (m : Int) : Nat := tfF (t1.1 != t2.1) (decide (t1.2.1 * 2 ^ rtK t1 t2 % t2.2.1 = 0)) (t1.2.1 * 2 ^ rtK t1 t2 / t2.2.1) (t1.2.2 - t2.2.2 - rtK t1 t2) m
theorem pratio {t1 t2 : Bool × Nat × Int} {X Y : Value} {m : Int} {w : World} (hT : Tab32 w) (o1 : Ok t1) (o2 : Ok t2) (h1 : PN w X t1) (h2 : PN w Y t2) (x0 : t1.2.1 ≠ 0) (y0 : t2.2.1 ≠ 0) (hm : 1 ≤ m ∧ m ≤ 3) :
    Calls Tryz.prog 89 #[X, Y, .int .i64 m] w fun r w' => r = .returned (.tuple #[.float .f64 (rtF t1 t2 m), .int .i64 0]) ∧ Below w.heap.size w w' := by
  obtain ⟨pa, pc, rfl, i1⟩ := h1
  obtain ⟨qa, qc, rfl, i2⟩ := h2
  have f1 := o1.facts
  have f2 := o2.facts
  have bx := bl_le_dlen t1.2.1
  have by' := bl_le_dlen t2.2.1
  have hn0 : ((dlen t1.2.1 : Int) == 0) = false := by
    have : dlen t1.2.1 ≠ 0 := fun e => x0 (dlen_eq_zero.1 e)
    simp; omega
  have hn1 : ((dlen t2.2.1 : Int) == 0) = false := by
    have : dlen t2.2.1 ≠ 0 := fun e => y0 (dlen_eq_zero.1 e)
    simp; omega
  have hk : max 0 (64 + (bl t2.2.1 : Int) - (bl t1.2.1 : Int)) = (rtK t1 t2 : Int) := by unfold rtK; omega
  refine pratio_1 t1.1 t2.1 pa qa _ pc _ qc _ _ (rtK t1 t2) (bl t1.2.1) (bl t2.2.1) t1.2.2 t2.2.2 m (t1.1 != t2.1) w (rfl : (!(t1.1 == t2.1)) = (t1.1 != t2.1)) hT i1 i2 (by omega) (by omega) y0 (by omega) (by omega) (by omega) (by omega) (by omega) rfl rfl (by omega) (by omega) hk (by omega) hn0 hn1 (fun W' g hW' hg => ?_)
  have := maybe2 hg (i1.later hW') (i2.later hW') (by omega) (by omega)
  rw [show okN t1.1 (dlen t1.2.1) t1.2.1 t1.2.2 = true from o1, show okN t2.1 (dlen t2.2.1) t2.2.1 t2.2.2 = true from o2] at this
  exact this
theorem ne_nought {a : Nat} (ha : a < 18446744073709551616) (hf : mag a < 9218868437227405312) : (FloatKind.f64.format.order a 0 != some Ordering.eq) = decide (mag a ≠ 0) := by
  rw [bne, ord_eq a 0 ha (by decide)]
  have na : isNaN a = false := by unfold isNaN; simp; omega
  have nb : isNaN 0 = false := by decide
  unfold Fl64.eq
  rw [na, nb]
  have e0 : stp 0 = 0 := by decide
  rw [e0]
  by_cases h : mag a = 0
  · have : stp a = 0 := by unfold stp sgn; rw [h]; simp
    simp [this, h]
  · have : stp a ≠ 0 := by unfold stp sgn; split <;> omega
    simp [this, h]
theorem pplain_y (a : Nat) (ha : a < 18446744073709551616) (hf : mag a < 9218868437227405312) (h0 : mag a ≠ 0) (w : World) : Calls Tryz.prog 82 #[.float .f64 a] w fun r w' => r = .returned (.bool true) ∧ w' = w := by
  have k := pfin_y a ha hf
  have he := ne_nought ha hf
  rw [decide_eq_true h0] at he
  clear ha hf h0
  go_enter Tryz.func82, Tryz.ntmps82
  go_wp2_with (go_at_call 118; refine (k _).mono ?_; rintro e w' ⟨rfl, rfl⟩)
  go_ret
  exact ⟨rfl, rfl⟩
theorem pplain_z (a : Nat) (ha : a < 18446744073709551616) (h0 : mag a = 0) (w : World) : Calls Tryz.prog 82 #[.float .f64 a] w fun r w' => r = .returned (.bool false) ∧ w' = w := by
  have k := pfin_y a ha (by omega)
  have he := ne_nought ha (by omega)
  rw [decide_eq_false (by omega)] at he
  clear ha h0
  go_enter Tryz.func82, Tryz.ntmps82
  go_wp2_with (go_at_call 118; refine (k _).mono ?_; rintro e w' ⟨rfl, rfl⟩)
  go_ret
  exact ⟨rfl, rfl⟩
theorem pplain_n (a : Nat) (ha : a < 18446744073709551616) (hf : ¬ mag a < 9218868437227405312) (w : World) : Calls Tryz.prog 82 #[.float .f64 a] w fun r w' => r = .returned (.bool false) ∧ w' = w.drew := by
  have k := pfin_n a ha hf w
  clear ha hf
  go_enter Tryz.func82, Tryz.ntmps82
  go_wp2_with fail
  refine k.mono ?_
  rintro e w' ⟨rfl, hw⟩
  rw [hw]
  clear hw k w'
  go_wp2
  go_ret
  exact ⟨rfl, rfl⟩
set_option maxRecDepth 200000 in
theorem pdiv_r (a b F : Nat) (m : Int) (ta tb : Bool × Nat × Int) (w : World) (hm : isM m = true)
    (hfa : ∀ W, Calls Tryz.prog 82 #[.float .f64 a] W fun r w' => r = .returned (.bool true) ∧ w' = W)
    (hfb : ∀ W, Calls Tryz.prog 82 #[.float .f64 b] W fun r w' => r = .returned (.bool true) ∧ w' = W)
    (kA : Calls Tryz.prog 85 #[.float .f64 a] w fun r w' => OutA w ta r w')
    (kB : ∀ W, Below w.heap.size w W → Calls Tryz.prog 85 #[.float .f64 b] W fun r w' => OutA W tb r w')
    (kC : ∀ W X Y, Below w.heap.size w W → PN W X ta → PN W Y tb → Calls Tryz.prog 89 #[X, Y, .int .i64 m] W fun r w' => r = .returned (.tuple #[.float .f64 F, .int .i64 0]) ∧ Below W.heap.size W w') :
    Calls Tryz.prog 43 #[.float .f64 a, .float .f64 b, .int .i64 m] w fun r w' => r = .returned (.float .f64 F) ∧ Below w.heap.size w w' := by
  have kV := pvalid m w
  rw [hm] at kV
  have HKB : Hid _ := kB
  have HKC : Hid _ := kC
  clear kB kC
  go_enter Tryz.func43, Tryz.ntmps43
  go_wp2_with fail
  refine kV.mono ?_
  rintro r w' ⟨rfl, hw⟩
  rw [hw]
  clear hw kV
  have kN := hfa w
  go_wp2_with fail
  refine kN.mono ?_
  rintro r w' ⟨rfl, hw⟩
  rw [hw]
  clear hw kN hfa
  have kN := hfb w
  go_wp2_with fail
  refine kN.mono ?_
  rintro r w' ⟨rfl, hw⟩
  rw [hw]
  clear hw kN hfb
  go_wp2_with fail
  refine kA.mono ?_
  rintro r w1 ⟨s1, ao1, n1, cap1, ex1, rfl, hP1, hb1⟩
  have k2 := HKB.out w1 hb1
  clear kA
  go_wp2_with fail
  refine k2.mono ?_
  rintro r w2 ⟨s2, ao2, n2, cap2, ex2, rfl, hP2, hb2⟩
  have HB2 : Hid (Below w.heap.size w w2) := hb1.trans (hb2.mono hb1.size)
  have k3 := HKC.out w2 _ _ HB2.out (hP1.later hb2) hP2
  clear k2 hP1 hP2 hb1 hb2
  go_wp2_with fail
  refine k3.mono ?_
  rintro r w3 ⟨rfl, hb3⟩
  have HB3 : Hid (Below w.heap.size w w3) := HB2.out.trans (hb3.mono HB2.out.size)
  clear k3 hb3
  go_wp2_with fail
  go_ret
  exact ⟨rfl, HB3.out⟩
theorem pdiv_ok (a b : Nat) (m : Int) (w : World) (hm : isM m = true) (hT : Tab32 w) (hI : Ie.Tab w) (ha : a < 18446744073709551616) (hb : b < 18446744073709551616) (hfa : mag a < 9218868437227405312) (hfb : mag b < 9218868437227405312) (ha0 : mag a ≠ 0) (hb0 : mag b ≠ 0) (xa : (tF a).2.1 ≠ 0) (xb : (tF b).2.1 ≠ 0) :
    Calls Tryz.prog 43 #[.float .f64 a, .float .f64 b, .int .i64 m] w fun r w' => r = .returned (.float .f64 (rtF (tF a) (tF b) m)) ∧ Below w.heap.size w w' :=
  pdiv_r a b _ m (tF a) (tF b) w hm (pplain_y a ha hfa ha0) (pplain_y b hb hfb hb0) (exact_ok a ha hfa w hT hI) (fun W h => exact_ok b hb hfb W (hT.later h) (Tab.later hI h)) (fun W X Y h h1 h2 => pratio (hT.later h) (tF_ok a) (tF_ok b) h1 h2 xa xb (isM_iff.1 hm))
theorem tF_ne {a : Nat} (h : mag a ≠ 0) : (tF a).2.1 ≠ 0 := by
  have h1 := Ie.mant_ne h
  unfold tF cn
  rw [if_neg h1]
  intro e
  have := (tz_spec _ _ (Nat.le_refl _) h1).2
  simp only at e
  rw [e] at this
  simp at this
def tM (t1 t2 : Bool × Nat × Int) : Bool × Nat × Int := cn (!(t1.1 == t2.1)) (t1.2.1 * t2.2.1) (t1.2.2 + t2.2.2)
def sqK (t : Bool × Nat × Int) : Nat := if ((t.2.2 - ((max 0 (128 - (bl t.2.1 : Int))).toNat : Int)).tmod 2 != 0) = true then (max 0 (128 - (bl t.2.1 : Int))).toNat + 1 else (max 0 (128 - (bl t.2.1 : Int))).toNat
theorem td2 (z : Int) (h1 : -80000 ≤ z) (h2 : z ≤ 80000) : -40000 ≤ z.tdiv 2 ∧ z.tdiv 2 ≤ 40000 := by
  by_cases h : 0 ≤ z
  · rw [Int.tdiv_eq_ediv_of_nonneg h]; omega
  · obtain ⟨y, rfl⟩ : ∃ y, z = -y := ⟨-z, by omega⟩
    rw [Int.neg_tdiv, Int.tdiv_eq_ediv_of_nonneg (by omega)]; omega
theorem psqrt {t : Bool × Nat × Int} {X : Value} {m : Int} {w : World} (hT : Tab32 w) (ok : Ok t) (h : PN w X t) (hs : t.1 = false) (hm : 1 ≤ m ∧ m ≤ 3) :
    Calls Tryz.prog 105 #[X, .int .i64 m] w fun r w' => ∃ q, (q * q ≤ t.2.1 * 2 ^ sqK t ∧ t.2.1 * 2 ^ sqK t < (q + 1) * (q + 1)) ∧ r = .returned (.tuple #[.float .f64 (tfF false (decide (q * q = t.2.1 * 2 ^ sqK t)) q ((t.2.2 - (sqK t : Int)).tdiv 2) m), .int .i64 0]) ∧ Below w.heap.size w w' := by
  obtain ⟨pa, pc, rfl, i1⟩ := h
  have f1 := ok.facts
  have bx := bl_le_dlen t.2.1
  rw [hs]
  obtain ⟨k0', hk0⟩ : ∃ k0' : Nat, max 0 (128 - (bl t.2.1 : Int)) = (k0' : Int) := ⟨(max 0 (128 - (bl t.2.1 : Int))).toNat, by omega⟩
  have hq : (max 0 (128 - (bl t.2.1 : Int))).toNat = k0' := by omega
  have hmb : ∀ W' g, Below w.heap.size w W' → W'.heap[g]? = some (.cells #[.bool false, .slice pa (dlen t.2.1) pc, .int .i64 t.2.2] 96 (0, 0)) → Calls Tryz.prog 120 #[.slice (some ⟨g, 0, none⟩) 1 1] W' fun r w' => r = .returned (.bool true) ∧ Below W'.heap.size W' w' := fun W' g hW' hg => by
    have := maybe1 hg (i1.later hW') (by omega)
    have ok' : okN t.1 (dlen t.2.1) t.2.1 t.2.2 = true := ok
    rw [hs] at ok'
    rw [ok'] at this
    exact this
  unfold sqK
  rw [hq]
  by_cases hod : ((t.2.2 - (k0' : Int)).tmod 2 != 0) = true
  · simp only [if_pos hod]
    have := psqrt_o pa _ pc t.2.1 k0' (bl t.2.1) t.2.2 m _ w hT i1 (by omega) (by omega) (by omega) (by omega) rfl (by omega) hk0 (by omega) hod rfl (td2 _ (by omega) (by omega)).1 (td2 _ (by omega) (by omega)).2 hmb
    rw [show ((k0' + 1 : Nat) : Int) = (k0' : Int) + 1 by omega]
    exact this
  · simp only [if_neg hod]
    exact psqrt_e pa _ pc t.2.1 k0' (bl t.2.1) t.2.2 m _ w hT i1 (by omega) (by omega) (by omega) (by omega) rfl (by omega) hk0 (by omega) (by simpa using hod) rfl (td2 _ (by omega) (by omega)).1 (td2 _ (by omega) (by omega)).2 hmb
theorem root_only {q q' N : Nat} (h1 : q * q ≤ N) (h2 : N < (q + 1) * (q + 1)) (h3 : q' * q' ≤ N) (h4 : N < (q' + 1) * (q' + 1)) : q = q' := by
  rcases Nat.lt_trichotomy q q' with h | h | h
  · have : (q + 1) * (q + 1) ≤ q' * q' := Nat.mul_le_mul h h
    omega
  · exact h
  · have : (q' + 1) * (q' + 1) ≤ q * q := Nat.mul_le_mul h h
    omega
theorem tM_ok {t1 t2 : Bool × Nat × Int} (h : okR (!(t1.1 == t2.1)) (t1.2.1 * t2.2.1) (t1.2.2 + t2.2.2) = true) : Ok (tM t1 t2) := ok_cn h
end Go.Proofs.YtcoclopllbfjcaaGreatDoor
