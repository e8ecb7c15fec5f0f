/- Own work: contracts of the program's functions, part 12: RT0 RT1 RT3. -/
import Derived.Test.YtbpeijejanhihaaGreatDoorA11
import Derived.Test.YtbpeijejanhihaaGreatDoorA7
import Derived.Test.YtbpeijejanhihaaGreatDoorA9
import Derived.Test.YtbpeijejanhihaaGreatDoorA8

set_option maxHeartbeats 16000000
namespace Go.Proofs.YtbpeijejanhihaaGreatDoor
set_option linter.unusedVariables false
set_option linter.unusedSimpArgs false
open Go.RowKit Go.Fl64
open Ie
theorem rnd_k0 (X way : Nat) (hw : way = 0 ∨ way = 1 ∨ way = 2) : rnd X 0 (way : Int) = X := by
  rcases hw with rfl | rfl | rfl
  · rw [rnd0, Nat.pow_zero, Nat.div_one]
  · rw [rnd1, Nat.pow_zero, Nat.div_one, Nat.mod_one, if_pos (by omega)]
  · rw [rnd2, Nat.pow_zero, Nat.div_one, Nat.mod_one, if_pos rfl]
def tE (x : Nat) (E : Int) : Int := if (bl x : Int) + E - 53 < -1074 then -1074 else (bl x : Int) + E - 53
theorem bl_ne {x : Nat} (h0 : x ≠ 0) : 1 ≤ bl x := by unfold bl; rw [if_neg h0]; omega
theorem bdy_big {x : Nat} {E : Int} (h0 : x ≠ 0) (ht : 1024 < (bl x : Int) + E) {way : Nat} (hw : way = 0 ∨ way = 1 ∨ way = 2) : bdy x E way = if way = 0 then 9218868437227405311 else 9218868437227405312 := by
  unfold bdy
  rw [if_neg h0, if_neg (by have := rwb_big (e := E) h0 ht hw; omega)]
theorem up_lt {x k : Nat} (h0 : x ≠ 0) (h : bl x + k ≤ 53) : x * 2 ^ k < 9007199254740992 := by
  have h1 := lt_bl x
  have h2 : x * 2 ^ k < 2 ^ bl x * 2 ^ k := Nat.mul_lt_mul_of_pos_right h1 (Nat.two_pow_pos _)
  rw [← Nat.pow_add] at h2
  exact Nat.lt_of_lt_of_le h2 (Nat.pow_le_pow_right (by omega) h : _ ≤ 2 ^ 53)
theorem up_ge {x k : Nat} (h0 : x ≠ 0) (h : bl x + k = 53) : 4503599627370496 ≤ x * 2 ^ k := by
  have h1 := le_bl h0
  have hb := bl_ne h0
  have h2 : 2 ^ (bl x - 1) * 2 ^ k ≤ x * 2 ^ k := Nat.mul_le_mul_right _ h1
  rw [← Nat.pow_add, show bl x - 1 + k = 52 by omega] at h2
  exact h2
theorem dn_lt {x k : Nat} (h : bl x ≤ k + 53) : x / 2 ^ k < 9007199254740992 := by
  have h1 := lt_bl x
  refine (Nat.div_lt_iff_lt_mul (Nat.two_pow_pos _)).2 (Nat.lt_of_lt_of_le h1 ?_)
  rw [show (9007199254740992 : Nat) = 2 ^ 53 by rfl, ← Nat.pow_add]
  exact Nat.pow_le_pow_right (by omega) (by omega)
theorem dn_ge {x k : Nat} (h0 : x ≠ 0) (h : bl x = k + 53) : 4503599627370496 ≤ x / 2 ^ k := by
  have h1 := le_bl h0
  refine (Nat.le_div_iff_mul_le (Nat.two_pow_pos _)).2 (Nat.le_trans (Nat.le_of_eq ?_) h1)
  rw [show (4503599627370496 : Nat) = 2 ^ 52 by rfl, ← Nat.pow_add, show 52 + k = bl x - 1 by omega]
theorem tE_bounds {x : Nat} {E : Int} (ht : (bl x : Int) + E ≤ 1024) : -1074 ≤ tE x E ∧ tE x E ≤ 971 := by unfold tE; split <;> omega
theorem body_eq {e' : Int} {q n : Nat} (h1 : -1074 ≤ e') (h2 : e' ≤ 971) (hq : q < 9007199254740992) (hge : e' = -1074 ∨ 4503599627370496 ≤ q) : (e' + 1074).toNat * 4503599627370496 + q < 9218868437227405312 := by omega
theorem bdy_up {x : Nat} {E : Int} (h0 : x ≠ 0) (ht : (bl x : Int) + E ≤ 1024) (hE : tE x E ≤ E) {way : Nat} (hw : way = 0 ∨ way = 1 ∨ way = 2) :
    bdy x E way = (tE x E + 1074).toNat * 4503599627370496 + x * 2 ^ (E - tE x E).toNat ∧ x * 2 ^ (E - tE x E).toNat < 9007199254740992 ∧ (tE x E = -1074 ∨ 4503599627370496 ≤ x * 2 ^ (E - tE x E).toNat) := by
  have hb := tE_bounds ht
  have hlt : x * 2 ^ (E - tE x E).toNat < 9007199254740992 := up_lt h0 (by unfold tE at hE ⊢; split at hE <;> omega)
  have hge : tE x E = -1074 ∨ 4503599627370496 ≤ x * 2 ^ (E - tE x E).toNat := by
    by_cases h : tE x E = -1074
    · exact .inl h
    · exact .inr (up_ge h0 (by unfold tE at h hE ⊢; split at h <;> omega))
  refine ⟨?_, hlt, hge⟩
  have hR := isR_up (x := x) hE hb.1 hlt hge
  have hr := hR.rwb h0 hw
  rw [rnd_k0 _ _ hw] at hr
  unfold bdy
  rw [if_neg h0, hr, if_pos (body_eq hb.1 hb.2 hlt hge (n := 0))]
theorem bdy_tiny {x : Nat} {E : Int} (h0 : x ≠ 0) (ht : (bl x : Int) + E < -1075) {way : Nat} (hw : way = 0 ∨ way = 1 ∨ way = 2) : bdy x E way = if way = 2 then 1 else 0 := by
  have hb := bl_ne h0
  have hx := lt_bl x
  have hx2 : 2 * x < 2 ^ (-1074 - E).toNat := by
    have : 2 ^ (bl x + 1) ≤ 2 ^ (-1074 - E).toNat := Nat.pow_le_pow_right (by omega) (by omega)
    rw [Nat.pow_succ] at this; omega
  have hq : x / 2 ^ (-1074 - E).toNat = 0 := Nat.div_eq_of_lt (by omega)
  have hm : x % 2 ^ (-1074 - E).toNat = x := Nat.mod_eq_of_lt (by omega)
  have hR := isR_down (x := x) (E := E) (e' := -1074) (by omega) (by omega) (by rw [hq]; omega) (.inl rfl)
  have hr := hR.rwb h0 hw
  have h2 : rwb x E way = if way = 2 then 1 else 0 := by
    rw [hr]
    rcases hw with rfl | rfl | rfl
    · rw [rnd0, hq, if_neg (by decide)]; rfl
    · rw [rnd1, hq, hm, if_pos hx2, if_neg (by decide)]; rfl
    · rw [rnd2, hq, hm, if_neg h0, if_pos rfl]; rfl
  unfold bdy
  rw [if_neg h0, h2, if_pos (by split <;> omega)]
def dnU (x k way : Nat) : Bool := (way == 2) || ((way == 1) && ((x / 2 ^ (k - 1) % 2 == 1) && (!(x % 2 ^ (k - 1) == 0) || (x / 2 ^ k % 2 == 1))))
theorem rnd_dn {x k way : Nat} (hk : 1 ≤ k) (hx : x % 2 = 1) (hw : way = 0 ∨ way = 1 ∨ way = 2) : rnd x k (way : Int) = if dnU x k way then x / 2 ^ k + 1 else x / 2 ^ k := by
  obtain ⟨n, rfl⟩ : ∃ n, k = n + 1 := ⟨k - 1, by omega⟩
  have hodd : x % 2 ^ (n + 1) ≠ 0 := fun h => by
    have := Nat.dvd_of_mod_eq_zero h
    have h2 : 2 ∣ x := Nat.dvd_trans ⟨2 ^ n, by rw [Nat.pow_succ, Nat.mul_comm]⟩ this
    omega
  have hpos : 0 < 2 ^ n := Nat.two_pow_pos n
  have hsplit : x % 2 ^ (n + 1) = x % 2 ^ n + 2 ^ n * (x / 2 ^ n % 2) := by rw [Nat.pow_succ, Nat.mod_mul]
  have hpw : 2 ^ (n + 1) = 2 * 2 ^ n := by rw [Nat.pow_succ, Nat.mul_comm]
  have hlt : x % 2 ^ n < 2 ^ n := Nat.mod_lt _ hpos
  have hb2 : x / 2 ^ n % 2 = 0 ∨ x / 2 ^ n % 2 = 1 := by omega
  unfold dnU
  rw [Nat.add_sub_cancel]
  rcases hw with rfl | rfl | rfl
  · rw [rnd0]; simp
  · rw [rnd1]
    simp only [show ((1 : Nat) == 2) = false by rfl, show ((1 : Nat) == 1) = true by rfl, Bool.false_or, Bool.true_and]
    rw [hsplit, hpw]
    rcases hb2 with hb | hb
    · rw [hb, Nat.mul_zero, Nat.add_zero, if_pos (by omega)]; simp
    · rw [hb, Nat.mul_one, if_neg (by omega)]
      by_cases hz : x % 2 ^ n = 0
      · rw [hz, if_pos (by omega)]
        rcases Nat.mod_two_eq_zero_or_one (x / (2 * 2 ^ n)) with h | h <;> rw [h] <;> simp
      · rw [if_neg (by omega)]
        have : (x % 2 ^ n == 0) = false := by simpa using hz
        rw [this]; simp
  · rw [rnd2, if_neg hodd]; simp
theorem bdy_dn {x : Nat} {E : Int} (h0 : x % 2 = 1) (ht : (bl x : Int) + E ≤ 1024) (hE : E < tE x E) {way : Nat} (hw : way = 0 ∨ way = 1 ∨ way = 2) {n : Nat}
    (hn : n = if dnU x (tE x E - E).toNat way then x / 2 ^ (tE x E - E).toNat + 1 else x / 2 ^ (tE x E - E).toNat) :
    n ≤ 9007199254740992 ∧ (tE x E = -1074 ∨ 4503599627370496 ≤ n) ∧ bdy x E way = (tE x E + 1074).toNat * 4503599627370496 + n ∧ x / 2 ^ (tE x E - E).toNat < 9007199254740992 := by
  have hx0 : x ≠ 0 := by omega
  have hb := tE_bounds ht
  have hlt : x / 2 ^ (tE x E - E).toNat < 9007199254740992 := dn_lt (by unfold tE at hE ⊢; split at hE <;> omega)
  have hge : tE x E = -1074 ∨ 4503599627370496 ≤ x / 2 ^ (tE x E - E).toNat := by
    by_cases h : tE x E = -1074
    · exact .inl h
    · exact .inr (dn_ge hx0 (by unfold tE at h hE ⊢; split at h <;> omega))
  have hR := isR_down (x := x) (E := E) (by omega) hb.1 hlt hge
  have hr := hR.rwb hx0 hw
  rw [rnd_dn (by omega) h0 hw, ← hn] at hr
  have hn1 : n ≤ 9007199254740992 := by rw [hn]; split <;> omega
  have hn2 : tE x E = -1074 ∨ 4503599627370496 ≤ n := by
    rcases hge with h | h
    · exact .inl h
    · right; rw [hn]; split <;> omega
  refine ⟨hn1, hn2, ?_, hlt⟩
  unfold bdy
  rw [if_neg hx0, hr]
  by_cases h1 : (tE x E + 1074).toNat * 4503599627370496 + n < 9218868437227405312
  · rw [if_pos h1]
  · rw [if_neg h1]
    have h2 : (tE x E + 1074).toNat * 4503599627370496 + n = 9218868437227405312 := by omega
    have h3 : n ≠ x / 2 ^ (tE x E - E).toNat := by
      intro h; rw [← h] at hlt; omega
    have h4 : way ≠ 0 := by
      intro h; subst h
      apply h3; rw [hn]; simp [dnU]
    rw [if_neg h4, h2]
theorem rsignb (s : Bool) (w : World) : Calls Tryz.prog 87 #[.bool s] w fun r w' => r = .returned (.int .i64 (if s then 1 else 0)) ∧ w' = w := by
  cases s
  · go_enter Tryz.func87, Tryz.ntmps87
    go_wp2
    go_ret
    exact ⟨rfl, rfl⟩
  · go_enter Tryz.func87, Tryz.ntmps87
    go_wp2
    go_ret
    exact ⟨rfl, rfl⟩
theorem cinf_m (w : World) : Calls Tryz.prog 80 #[.int .i64 (-1)] w fun r w' => r = .returned (.float .f64 18442240474082181120) ∧ w' = w := by
  have hb := Ie.run_frombits
  go_enter Tryz.func80, Tryz.ntmps80
  go_wp2
  go_ret
  exact ⟨rfl, rfl⟩
theorem bd_or {E M : Nat} (hE : E ≤ 2046) (h1 : 4503599627370496 ≤ M) (h2 : M < 9007199254740992) : bits BinOp.or IntKind.u64 ((E : Int) * 4503599627370496) (bits BinOp.and IntKind.u64 (M : Int) 4503599627370495) = ((E * 4503599627370496 + (M - 4503599627370496) : Nat) : Int) := by
  have e := Nat.two_pow_add_eq_or_of_lt (i := 52) (b := M - 4503599627370496) (by rw [show (2 ^ 52 : Nat) = 4503599627370496 from rfl]; omega) E
  rw [show (2 ^ 52 : Nat) = 4503599627370496 from rfl] at e
  rw [and_mant M (by omega), show M % 4503599627370496 = M - 4503599627370496 by omega, show (E : Int) * 4503599627370496 = ((4503599627370496 * E : Nat) : Int) by omega, u64_or_nat _ _ (by omega) (by omega), ← e, Nat.mul_comm]
theorem sg_or {b : Nat} (h : b < 9223372036854775808) : bits BinOp.or IntKind.u64 (b : Int) 9223372036854775808 = ((b + 9223372036854775808 : Nat) : Int) := by
  have e := u64_or_nat b 9223372036854775808 (by omega) (by decide)
  rw [show ((9223372036854775808 : Nat) : Int) = 9223372036854775808 from rfl] at e
  rw [e, Nat.or_comm, Nat.add_comm]
  congr 1
  have := Nat.two_pow_add_eq_or_of_lt (i := 63) (b := b) (by rw [show (2 ^ 63 : Nat) = 9223372036854775808 from rfl]; exact h) 1
  rw [← (show 2 ^ 63 * 1 = 9223372036854775808 from rfl), ← this]
set_option maxRecDepth 20000 in
theorem rbuild_1 (s : Bool) (M E : Nat) (w : World) (hm : 4503599627370496 ≤ M) (hm2 : M < 9007199254740992) (hE : 1 ≤ E) (hE2 : E ≤ 2046) : Calls Tryz.prog 88 #[.bool s, .int .u64 (M : Nat), .int .i64 ((E : Int) - 1075)] w fun r w' => r = .returned (.float .f64 (sig s ((E - 1) * 4503599627370496 + M))) ∧ w' = w := by
  have hb := Ie.run_frombits
  have hm' : (4503599627370496 : Int) ≤ (M : Int) := by omega
  have e1 := bd_or hE2 hm hm2
  have hlt : E * 4503599627370496 + (M - 4503599627370496) < 9223372036854775808 := by omega
  have e2 := sg_or hlt
  obtain ⟨bd, hbd⟩ : ∃ bd : Nat, bd = E * 4503599627370496 + (M - 4503599627370496) := ⟨_, rfl⟩
  rw [← hbd] at e1 e2
  obtain ⟨b2, hb2⟩ : ∃ b2 : Nat, b2 = (E - 1) * 4503599627370496 + M := ⟨_, rfl⟩
  have hR : bd = b2 := by omega
  have HR : Hid (bd = b2) := hR
  rw [← hb2]
  clear hR hb2 hlt
  clear hbd
  have hE3 : (E : Int) - 1075 + 1075 = E := by omega
  cases s
  · go_enter Tryz.func88, Tryz.ntmps88
    go_wp2
    go_ret
    refine ⟨congrArg Ending.returned (congrArg (Value.float .f64) ?_), rfl⟩
    try simp only [hE3, e1]
    try rw [Int.toNat_natCast]
    rw [HR.out]; rfl
  · go_enter Tryz.func88, Tryz.ntmps88
    go_wp2
    go_ret
    refine ⟨congrArg Ending.returned (congrArg (Value.float .f64) ?_), rfl⟩
    try simp only [hE3, e1, e2]
    try rw [Int.toNat_natCast]
    try rw [HR.out]
    try rfl
theorem rbuild_0 (s : Bool) (M : Nat) (e : Int) (w : World) (hm2 : M < 4503599627370496) : Calls Tryz.prog 88 #[.bool s, .int .u64 (M : Nat), .int .i64 e] w fun r w' => r = .returned (.float .f64 (sig s M)) ∧ w' = w := by
  have hb := Ie.run_frombits
  have hm3 : ¬ (4503599627370496 : Int) ≤ (M : Int) := by omega
  have e2 := sg_or (b := M) (by omega)
  cases s
  · go_enter Tryz.func88, Tryz.ntmps88
    go_wp2
    go_ret
    exact ⟨rfl, rfl⟩
  · go_enter Tryz.func88, Tryz.ntmps88
    go_wp2
    go_ret
    refine ⟨congrArg Ending.returned (congrArg (Value.float .f64) ?_), rfl⟩
    try simp only [e2]
    try rfl
theorem rbuild {s : Bool} {M : Nat} {e : Int} {w : World} (hM : M < 9007199254740992) (he : -1074 ≤ e) (he2 : e ≤ 971) (hge : e = -1074 ∨ 4503599627370496 ≤ M) : Calls Tryz.prog 88 #[.bool s, .int .u64 (M : Nat), .int .i64 e] w fun r w' => r = .returned (.float .f64 (sig s ((e + 1074).toNat * 4503599627370496 + M))) ∧ w' = w := by
  by_cases h : 4503599627370496 ≤ M
  · obtain ⟨E, hE⟩ : ∃ E : Nat, e = (E : Int) - 1075 := ⟨(e + 1075).toNat, by omega⟩
    subst hE
    rw [show ((E : Int) - 1075 + 1074).toNat = E - 1 by omega]
    exact rbuild_1 s M E w h hM (by omega) (by omega)
  · obtain rfl : e = -1074 := by omega
    rw [show ((-1074 : Int) + 1074).toNat * 4503599627370496 + M = M by omega]
    exact rbuild_0 s M _ w (by omega)
theorem sm_two {d d1 : Nat} (h0 : d < B) (h1 : d1 < B) : bits BinOp.or IntKind.u64 (IntKind.u64.wrap (IntKind.u64.wrap (d1 : Int) * 4294967296)) (IntKind.u64.wrap (d : Int)) = ((d + d1 * B : Nat) : Int) := by
  have e : IntKind.u64.wrap (IntKind.u64.wrap (d1 : Int) * 4294967296) = ((d1 * B : Nat) : Int) := by
    rw [wrap_d h1, IntKind.wrap_u64]; unfold B at *; omega
  rw [wrap_d h0, e, u64_or_nat _ _ (by unfold B at *; omega) (by unfold B at *; omega), or_add (p := 32) (by rw [← B_two]; exact Nat.mul_mod_left ..) h0, Nat.add_comm]
theorem rsmall {v : Value} {X : Nat} {w : World} (h : Ir w v X) (hX : X < 9007199254740992) : Calls Tryz.prog 89 #[v] w fun r w' => r = .returned (.int .u64 (X : Nat)) ∧ w' = w := by
  obtain ⟨ao, cap, rfl, hc, b, o, hb, hcell⟩ := h
  have hl : dlen X ≤ 2 := (dlen_le 2 X).2 (by unfold B; omega)
  have hX2 : X = dg X 0 + dg X 1 * B := by
    unfold dg B; omega
  have h0 := dg_lt X 0
  have h1 := dg_lt X 1
  by_cases e0 : dlen X = 0
  · obtain rfl := dlen_eq_zero.1 e0
    rw [dlen_zero] at *
    clear hcell hb h0 h1 hX2 hl e0
    go_enter Tryz.func89, Tryz.ntmps89
    go_wp2
    go_ret
    exact ⟨rfl, rfl⟩
  · obtain rfl := hb (by omega)
    have g0 := hcell 0 (by omega)
    rw [Nat.add_zero] at g0
    by_cases e1 : dlen X = 1
    · have hz : dg X 1 = 0 := dg_past (by omega)
      have HE : Hid (dg X 0 = X) := (by rw [hz] at hX2; omega : dg X 0 = X)
      rw [e1] at *
      generalize dg X 0 = d at *
      have HD : Hid (d < B) := h0
      clear hcell hb h0 h1 hX2 hl e0 e1 hz
      go_enter Tryz.func89, Tryz.ntmps89
      go_wp2
      go_ret
      refine ⟨congrArg Ending.returned (congrArg (Value.int .u64) ?_), rfl⟩
      have hd := HD.out
      have e := u64_or_nat 0 d (by decide) (by unfold B at hd; omega)
      show bits BinOp.or IntKind.u64 0 (IntKind.u64.wrap (d : Int)) = _
      rw [wrap_d hd]
      refine e.trans ?_
      rw [Nat.zero_or, HE.out]
    · have e2 : dlen X = 2 := by omega
      have g1 := hcell 1 (by omega)
      have HE : Hid (X = dg X 0 + dg X 1 * B) := hX2
      rw [e2] at *
      generalize dg X 0 = d at *
      generalize dg X 1 = d1 at *
      have HD : Hid (d < B ∧ d1 < B) := ⟨h0, h1⟩
      clear hcell hb h0 h1 hX2 hl e0 e1 e2
      go_enter Tryz.func89, Tryz.ntmps89
      go_wp2
      go_ret
      refine ⟨congrArg Ending.returned (congrArg (Value.int .u64) ?_), rfl⟩
      rw [HE.out]
      exact sm_two HD.out.1 HD.out.2
theorem below_drewN {g : Nat} {a b : World} (h : Below g a b) (n : Nat) : Below g a (b.drewN n) := h.trans ⟨rfl, rfl, rfl, Nat.le_refl _, fun _ _ => rfl⟩
set_option maxRecDepth 200000 in
theorem rto_big_1f (ua : Option Addr) (un uc : Nat) (ea t : Int) (F : Nat) (w : World) (hn0 : ((un : Int) == 0) = false) (ht : 1024 < t) (kH : ∀ W, Below w.heap.size w W → Calls Tryz.prog 86 #[.agg #[.bool false, .slice ua un uc, .int .i64 ea]] W fun r w' => r = .returned (.int .i64 t) ∧ Below W.heap.size W w') (kB : ∀ W, Calls Tryz.prog 88 #[.bool false, .int .u64 9007199254740991, .int .i64 971] W fun r w' => r = .returned (.float .f64 F) ∧ w' = W) :
    Calls Tryz.prog 62 #[.agg #[.bool false, .slice ua un uc, .int .i64 ea], .int .i64 1] w fun r w' => r = .returned (.float .f64 F) ∧ Below w.heap.size w w' := by
  obtain ⟨W, hW⟩ : ∃ W, W = w.alloc (.cells #[.bool false, .slice ua un uc, .int .i64 ea] 34) := ⟨_, rfl⟩
  have hBW : Below w.heap.size w W := by rw [hW]; exact (Below.refl _ _).alloc (Nat.le_refl _) _
  have hA : W.heap[w.heap.size]? = some (.cells #[.bool false, .slice ua un uc, .int .i64 ea] 34 (0, 0)) := by rw [hW]; exact heap_alloc_new _ _
  have hsz : W.heap.size = w.heap.size + 1 := by rw [hW]; simp
  have HX : Hid (Below w.heap.size w W) := hBW
  have HK : Hid (∀ w', Below W.heap.size W w' → w'.cell? ⟨w.heap.size, 0, none⟩ = some (.bool false) ∧ w'.cell? ⟨w.heap.size, 1, none⟩ = some (.slice ua un uc) ∧ w'.cell? ⟨w.heap.size, 2, none⟩ = some (.int .i64 ea)) := fun w' hb => (box_cells29 (box_later hA hb (by omega))).1
  have k := kH W hBW
  clear kH hA hsz hBW
  go_enter Tryz.func62, Tryz.ntmps62
  go_wp2_with fail
  rw [← hW]
  clear hW
  refine k.mono ?_
  rintro r w1 ⟨rfl, hb1⟩
  have HB1 : Hid (Below W.heap.size W w1) := hb1
  obtain ⟨a0, a1, a2⟩ := HK.out w1 hb1
  clear k hb1
  go_wp2_with (first | (go_at_call 88; refine (kB _).mono ?_; rintro r w2 ⟨rfl, rfl⟩))
  go_ret
  exact ⟨rfl, HX.out.trans (HB1.out.mono HX.out.size)⟩
set_option maxRecDepth 200000 in
theorem rto_big_1t (ua : Option Addr) (un uc : Nat) (ea t : Int) (w : World) (hn0 : ((un : Int) == 0) = false) (ht : 1024 < t) (kH : ∀ W, Below w.heap.size w W → Calls Tryz.prog 86 #[.agg #[.bool true, .slice ua un uc, .int .i64 ea]] W fun r w' => r = .returned (.int .i64 t) ∧ Below W.heap.size W w') :
    Calls Tryz.prog 62 #[.agg #[.bool true, .slice ua un uc, .int .i64 ea], .int .i64 1] w fun r w' => r = .returned (.float .f64 18442240474082181120) ∧ Below w.heap.size w w' := by
  obtain ⟨W, hW⟩ : ∃ W, W = w.alloc (.cells #[.bool true, .slice ua un uc, .int .i64 ea] 34) := ⟨_, rfl⟩
  have hBW : Below w.heap.size w W := by rw [hW]; exact (Below.refl _ _).alloc (Nat.le_refl _) _
  have hA : W.heap[w.heap.size]? = some (.cells #[.bool true, .slice ua un uc, .int .i64 ea] 34 (0, 0)) := by rw [hW]; exact heap_alloc_new _ _
  have hsz : W.heap.size = w.heap.size + 1 := by rw [hW]; simp
  have HX : Hid (Below w.heap.size w W) := hBW
  have HK : Hid (∀ w', Below W.heap.size W w' → w'.cell? ⟨w.heap.size, 0, none⟩ = some (.bool true) ∧ w'.cell? ⟨w.heap.size, 1, none⟩ = some (.slice ua un uc) ∧ w'.cell? ⟨w.heap.size, 2, none⟩ = some (.int .i64 ea)) := fun w' hb => (box_cells29 (box_later hA hb (by omega))).1
  have k := kH W hBW
  clear kH hA hsz hBW
  go_enter Tryz.func62, Tryz.ntmps62
  go_wp2_with fail
  rw [← hW]
  clear hW
  refine k.mono ?_
  rintro r w1 ⟨rfl, hb1⟩
  have HB1 : Hid (Below W.heap.size W w1) := hb1
  obtain ⟨a0, a1, a2⟩ := HK.out w1 hb1
  clear k hb1
  have kS : ∀ W, Calls Tryz.prog 87 #[.bool true] W fun r w' => r = .returned (.int .i64 1) ∧ w' = W := fun W => rsignb true W
  have kI := cinf_m
  go_wp2_with (first | (go_at_call 87; refine (kS _).mono ?_; rintro r w2 ⟨rfl, rfl⟩) | (go_at_call 80; refine (kI _).mono ?_; rintro r w2 ⟨rfl, rfl⟩))
  go_ret
  exact ⟨rfl, HX.out.trans (HB1.out.mono HX.out.size)⟩
set_option maxRecDepth 200000 in
theorem rto_big_2f (ua : Option Addr) (un uc : Nat) (ea t : Int) (w : World) (hn0 : ((un : Int) == 0) = false) (ht : 1024 < t) (kH : ∀ W, Below w.heap.size w W → Calls Tryz.prog 86 #[.agg #[.bool false, .slice ua un uc, .int .i64 ea]] W fun r w' => r = .returned (.int .i64 t) ∧ Below W.heap.size W w') :
    Calls Tryz.prog 62 #[.agg #[.bool false, .slice ua un uc, .int .i64 ea], .int .i64 2] w fun r w' => r = .returned (.float .f64 9218868437227405312) ∧ Below w.heap.size w w' := by
  obtain ⟨W, hW⟩ : ∃ W, W = w.alloc (.cells #[.bool false, .slice ua un uc, .int .i64 ea] 34) := ⟨_, rfl⟩
  have hBW : Below w.heap.size w W := by rw [hW]; exact (Below.refl _ _).alloc (Nat.le_refl _) _
  have hA : W.heap[w.heap.size]? = some (.cells #[.bool false, .slice ua un uc, .int .i64 ea] 34 (0, 0)) := by rw [hW]; exact heap_alloc_new _ _
  have hsz : W.heap.size = w.heap.size + 1 := by rw [hW]; simp
  have HX : Hid (Below w.heap.size w W) := hBW
  have HK : Hid (∀ w', Below W.heap.size W w' → w'.cell? ⟨w.heap.size, 0, none⟩ = some (.bool false) ∧ w'.cell? ⟨w.heap.size, 1, none⟩ = some (.slice ua un uc) ∧ w'.cell? ⟨w.heap.size, 2, none⟩ = some (.int .i64 ea)) := fun w' hb => (box_cells29 (box_later hA hb (by omega))).1
  have k := kH W hBW
  clear kH hA hsz hBW
  go_enter Tryz.func62, Tryz.ntmps62
  go_wp2_with fail
  rw [← hW]
  clear hW
  refine k.mono ?_
  rintro r w1 ⟨rfl, hb1⟩
  have HB1 : Hid (Below W.heap.size W w1) := hb1
  obtain ⟨a0, a1, a2⟩ := HK.out w1 hb1
  clear k hb1
  have kS : ∀ W, Calls Tryz.prog 87 #[.bool false] W fun r w' => r = .returned (.int .i64 0) ∧ w' = W := fun W => rsignb false W
  have kI := c61
  go_wp2_with (first | (go_at_call 87; refine (kS _).mono ?_; rintro r w2 ⟨rfl, rfl⟩) | (go_at_call 80; refine (kI _).mono ?_; rintro r w2 ⟨rfl, rfl⟩))
  go_ret
  exact ⟨rfl, HX.out.trans (HB1.out.mono HX.out.size)⟩
set_option maxRecDepth 200000 in
theorem rto_big_2t (ua : Option Addr) (un uc : Nat) (ea t : Int) (w : World) (hn0 : ((un : Int) == 0) = false) (ht : 1024 < t) (kH : ∀ W, Below w.heap.size w W → Calls Tryz.prog 86 #[.agg #[.bool true, .slice ua un uc, .int .i64 ea]] W fun r w' => r = .returned (.int .i64 t) ∧ Below W.heap.size W w') :
    Calls Tryz.prog 62 #[.agg #[.bool true, .slice ua un uc, .int .i64 ea], .int .i64 2] w fun r w' => r = .returned (.float .f64 18442240474082181120) ∧ Below w.heap.size w w' := by
  obtain ⟨W, hW⟩ : ∃ W, W = w.alloc (.cells #[.bool true, .slice ua un uc, .int .i64 ea] 34) := ⟨_, rfl⟩
  have hBW : Below w.heap.size w W := by rw [hW]; exact (Below.refl _ _).alloc (Nat.le_refl _) _
  have hA : W.heap[w.heap.size]? = some (.cells #[.bool true, .slice ua un uc, .int .i64 ea] 34 (0, 0)) := by rw [hW]; exact heap_alloc_new _ _
  have hsz : W.heap.size = w.heap.size + 1 := by rw [hW]; simp
  have HX : Hid (Below w.heap.size w W) := hBW
  have HK : Hid (∀ w', Below W.heap.size W w' → w'.cell? ⟨w.heap.size, 0, none⟩ = some (.bool true) ∧ w'.cell? ⟨w.heap.size, 1, none⟩ = some (.slice ua un uc) ∧ w'.cell? ⟨w.heap.size, 2, none⟩ = some (.int .i64 ea)) := fun w' hb => (box_cells29 (box_later hA hb (by omega))).1
  have k := kH W hBW
  clear kH hA hsz hBW
  go_enter Tryz.func62, Tryz.ntmps62
  go_wp2_with fail
  rw [← hW]
  clear hW
  refine k.mono ?_
  rintro r w1 ⟨rfl, hb1⟩
  have HB1 : Hid (Below W.heap.size W w1) := hb1
  obtain ⟨a0, a1, a2⟩ := HK.out w1 hb1
  clear k hb1
  have kS : ∀ W, Calls Tryz.prog 87 #[.bool true] W fun r w' => r = .returned (.int .i64 1) ∧ w' = W := fun W => rsignb true W
  have kI := cinf_m
  go_wp2_with (first | (go_at_call 87; refine (kS _).mono ?_; rintro r w2 ⟨rfl, rfl⟩) | (go_at_call 80; refine (kI _).mono ?_; rintro r w2 ⟨rfl, rfl⟩))
  go_ret
  exact ⟨rfl, HX.out.trans (HB1.out.mono HX.out.size)⟩
set_option maxRecDepth 200000 in
theorem rto_big_3f (ua : Option Addr) (un uc : Nat) (ea t : Int) (w : World) (hn0 : ((un : Int) == 0) = false) (ht : 1024 < t) (kH : ∀ W, Below w.heap.size w W → Calls Tryz.prog 86 #[.agg #[.bool false, .slice ua un uc, .int .i64 ea]] W fun r w' => r = .returned (.int .i64 t) ∧ Below W.heap.size W w') :
    Calls Tryz.prog 62 #[.agg #[.bool false, .slice ua un uc, .int .i64 ea], .int .i64 3] w fun r w' => r = .returned (.float .f64 9218868437227405312) ∧ Below w.heap.size w w' := by
  obtain ⟨W, hW⟩ : ∃ W, W = w.alloc (.cells #[.bool false, .slice ua un uc, .int .i64 ea] 34) := ⟨_, rfl⟩
  have hBW : Below w.heap.size w W := by rw [hW]; exact (Below.refl _ _).alloc (Nat.le_refl _) _
  have hA : W.heap[w.heap.size]? = some (.cells #[.bool false, .slice ua un uc, .int .i64 ea] 34 (0, 0)) := by rw [hW]; exact heap_alloc_new _ _
  have hsz : W.heap.size = w.heap.size + 1 := by rw [hW]; simp
  have HX : Hid (Below w.heap.size w W) := hBW
  have HK : Hid (∀ w', Below W.heap.size W w' → w'.cell? ⟨w.heap.size, 0, none⟩ = some (.bool false) ∧ w'.cell? ⟨w.heap.size, 1, none⟩ = some (.slice ua un uc) ∧ w'.cell? ⟨w.heap.size, 2, none⟩ = some (.int .i64 ea)) := fun w' hb => (box_cells29 (box_later hA hb (by omega))).1
  have k := kH W hBW
  clear kH hA hsz hBW
  go_enter Tryz.func62, Tryz.ntmps62
  go_wp2_with fail
  rw [← hW]
  clear hW
  refine k.mono ?_
  rintro r w1 ⟨rfl, hb1⟩
  have HB1 : Hid (Below W.heap.size W w1) := hb1
  obtain ⟨a0, a1, a2⟩ := HK.out w1 hb1
  clear k hb1
  have kS : ∀ W, Calls Tryz.prog 87 #[.bool false] W fun r w' => r = .returned (.int .i64 0) ∧ w' = W := fun W => rsignb false W
  have kI := c61
  go_wp2_with (first | (go_at_call 87; refine (kS _).mono ?_; rintro r w2 ⟨rfl, rfl⟩) | (go_at_call 80; refine (kI _).mono ?_; rintro r w2 ⟨rfl, rfl⟩))
  go_ret
  exact ⟨rfl, HX.out.trans (HB1.out.mono HX.out.size)⟩
set_option maxRecDepth 200000 in
theorem rto_big_3t (ua : Option Addr) (un uc : Nat) (ea t : Int) (F : Nat) (w : World) (hn0 : ((un : Int) == 0) = false) (ht : 1024 < t) (kH : ∀ W, Below w.heap.size w W → Calls Tryz.prog 86 #[.agg #[.bool true, .slice ua un uc, .int .i64 ea]] W fun r w' => r = .returned (.int .i64 t) ∧ Below W.heap.size W w') (kB : ∀ W, Calls Tryz.prog 88 #[.bool true, .int .u64 9007199254740991, .int .i64 971] W fun r w' => r = .returned (.float .f64 F) ∧ w' = W) :
    Calls Tryz.prog 62 #[.agg #[.bool true, .slice ua un uc, .int .i64 ea], .int .i64 3] w fun r w' => r = .returned (.float .f64 F) ∧ Below w.heap.size w w' := by
  obtain ⟨W, hW⟩ : ∃ W, W = w.alloc (.cells #[.bool true, .slice ua un uc, .int .i64 ea] 34) := ⟨_, rfl⟩
  have hBW : Below w.heap.size w W := by rw [hW]; exact (Below.refl _ _).alloc (Nat.le_refl _) _
  have hA : W.heap[w.heap.size]? = some (.cells #[.bool true, .slice ua un uc, .int .i64 ea] 34 (0, 0)) := by rw [hW]; exact heap_alloc_new _ _
  have hsz : W.heap.size = w.heap.size + 1 := by rw [hW]; simp
  have HX : Hid (Below w.heap.size w W) := hBW
  have HK : Hid (∀ w', Below W.heap.size W w' → w'.cell? ⟨w.heap.size, 0, none⟩ = some (.bool true) ∧ w'.cell? ⟨w.heap.size, 1, none⟩ = some (.slice ua un uc) ∧ w'.cell? ⟨w.heap.size, 2, none⟩ = some (.int .i64 ea)) := fun w' hb => (box_cells29 (box_later hA hb (by omega))).1
  have k := kH W hBW
  clear kH hA hsz hBW
  go_enter Tryz.func62, Tryz.ntmps62
  go_wp2_with fail
  rw [← hW]
  clear hW
  refine k.mono ?_
  rintro r w1 ⟨rfl, hb1⟩
  have HB1 : Hid (Below W.heap.size W w1) := hb1
  obtain ⟨a0, a1, a2⟩ := HK.out w1 hb1
  clear k hb1
  go_wp2_with (first | (go_at_call 88; refine (kB _).mono ?_; rintro r w2 ⟨rfl, rfl⟩))
  go_ret
  exact ⟨rfl, HX.out.trans (HB1.out.mono HX.out.size)⟩
set_option maxRecDepth 200000 in
theorem rto_tiny_1f (ua : Option Addr) (un uc F : Nat) (ea e2 t : Int) (w : World) (hn0 : ((un : Int) == 0) = false) (ht : t ≤ 1024) (ht3 : -4000000 ≤ t) (he1 : -4000000 ≤ ea) (he2 : ea ≤ 4000000) (hmx : max (t - 53) (-1074) = e2) (h21 : -1074 ≤ e2) (h22 : e2 ≤ 971) (hge : ¬ e2 ≤ ea) (ht2 : t < -1075) (kH : ∀ W, Below w.heap.size w W → Calls Tryz.prog 86 #[.agg #[.bool false, .slice ua un uc, .int .i64 ea]] W fun r w' => r = .returned (.int .i64 t) ∧ Below W.heap.size W w') (kB : ∀ W, Calls Tryz.prog 88 #[.bool false, .int .u64 0, .int .i64 (-1074)] W fun r w' => r = .returned (.float .f64 F) ∧ w' = W) :
    Calls Tryz.prog 62 #[.agg #[.bool false, .slice ua un uc, .int .i64 ea], .int .i64 1] w fun r w' => r = .returned (.float .f64 F) ∧ Below w.heap.size w w' := by
  have htn : ¬ 1024 < t := by omega
  obtain ⟨W, hW⟩ : ∃ W, W = w.alloc (.cells #[.bool false, .slice ua un uc, .int .i64 ea] 34) := ⟨_, rfl⟩
  have hBW : Below w.heap.size w W := by rw [hW]; exact (Below.refl _ _).alloc (Nat.le_refl _) _
  have hA : W.heap[w.heap.size]? = some (.cells #[.bool false, .slice ua un uc, .int .i64 ea] 34 (0, 0)) := by rw [hW]; exact heap_alloc_new _ _
  have hsz : W.heap.size = w.heap.size + 1 := by rw [hW]; simp
  have HX : Hid (Below w.heap.size w W) := hBW
  have HK : Hid (∀ w', Below W.heap.size W w' → w'.cell? ⟨w.heap.size, 0, none⟩ = some (.bool false) ∧ w'.cell? ⟨w.heap.size, 1, none⟩ = some (.slice ua un uc) ∧ w'.cell? ⟨w.heap.size, 2, none⟩ = some (.int .i64 ea)) := fun w' hb => (box_cells29 (box_later hA hb (by omega))).1
  have k := kH W hBW
  clear kH hA hsz hBW
  go_enter Tryz.func62, Tryz.ntmps62
  go_wp2_with fail
  rw [← hW]
  clear hW
  refine k.mono ?_
  rintro r w1 ⟨rfl, hb1⟩
  have HB1 : Hid (Below W.heap.size W w1) := hb1
  obtain ⟨a0, a1, a2⟩ := HK.out w1 hb1
  clear k hb1
  go_wp2_with (first | (go_at_call 88; refine (kB _).mono ?_; rintro r w2 ⟨rfl, rfl⟩))
  go_ret
  exact ⟨rfl, HX.out.trans (HB1.out.mono HX.out.size)⟩
set_option maxRecDepth 200000 in
theorem rto_tiny_1t (ua : Option Addr) (un uc F : Nat) (ea e2 t : Int) (w : World) (hn0 : ((un : Int) == 0) = false) (ht : t ≤ 1024) (ht3 : -4000000 ≤ t) (he1 : -4000000 ≤ ea) (he2 : ea ≤ 4000000) (hmx : max (t - 53) (-1074) = e2) (h21 : -1074 ≤ e2) (h22 : e2 ≤ 971) (hge : ¬ e2 ≤ ea) (ht2 : t < -1075) (kH : ∀ W, Below w.heap.size w W → Calls Tryz.prog 86 #[.agg #[.bool true, .slice ua un uc, .int .i64 ea]] W fun r w' => r = .returned (.int .i64 t) ∧ Below W.heap.size W w') (kB : ∀ W, Calls Tryz.prog 88 #[.bool true, .int .u64 1, .int .i64 (-1074)] W fun r w' => r = .returned (.float .f64 F) ∧ w' = W) :
    Calls Tryz.prog 62 #[.agg #[.bool true, .slice ua un uc, .int .i64 ea], .int .i64 1] w fun r w' => r = .returned (.float .f64 F) ∧ Below w.heap.size w w' := by
  have htn : ¬ 1024 < t := by omega
  obtain ⟨W, hW⟩ : ∃ W, W = w.alloc (.cells #[.bool true, .slice ua un uc, .int .i64 ea] 34) := ⟨_, rfl⟩
  have hBW : Below w.heap.size w W := by rw [hW]; exact (Below.refl _ _).alloc (Nat.le_refl _) _
  have hA : W.heap[w.heap.size]? = some (.cells #[.bool true, .slice ua un uc, .int .i64 ea] 34 (0, 0)) := by rw [hW]; exact heap_alloc_new _ _
  have hsz : W.heap.size = w.heap.size + 1 := by rw [hW]; simp
  have HX : Hid (Below w.heap.size w W) := hBW
  have HK : Hid (∀ w', Below W.heap.size W w' → w'.cell? ⟨w.heap.size, 0, none⟩ = some (.bool true) ∧ w'.cell? ⟨w.heap.size, 1, none⟩ = some (.slice ua un uc) ∧ w'.cell? ⟨w.heap.size, 2, none⟩ = some (.int .i64 ea)) := fun w' hb => (box_cells29 (box_later hA hb (by omega))).1
  have k := kH W hBW
  clear kH hA hsz hBW
  go_enter Tryz.func62, Tryz.ntmps62
  go_wp2_with fail
  rw [← hW]
  clear hW
  refine k.mono ?_
  rintro r w1 ⟨rfl, hb1⟩
  have HB1 : Hid (Below W.heap.size W w1) := hb1
  obtain ⟨a0, a1, a2⟩ := HK.out w1 hb1
  clear k hb1
  go_wp2_with (first | (go_at_call 88; refine (kB _).mono ?_; rintro r w2 ⟨rfl, rfl⟩))
  go_ret
  exact ⟨rfl, HX.out.trans (HB1.out.mono HX.out.size)⟩
set_option maxRecDepth 200000 in
theorem rto_tiny_2f (ua : Option Addr) (un uc F : Nat) (ea e2 t : Int) (w : World) (hn0 : ((un : Int) == 0) = false) (ht : t ≤ 1024) (ht3 : -4000000 ≤ t) (he1 : -4000000 ≤ ea) (he2 : ea ≤ 4000000) (hmx : max (t - 53) (-1074) = e2) (h21 : -1074 ≤ e2) (h22 : e2 ≤ 971) (hge : ¬ e2 ≤ ea) (ht2 : t < -1075) (kH : ∀ W, Below w.heap.size w W → Calls Tryz.prog 86 #[.agg #[.bool false, .slice ua un uc, .int .i64 ea]] W fun r w' => r = .returned (.int .i64 t) ∧ Below W.heap.size W w') (kB : ∀ W, Calls Tryz.prog 88 #[.bool false, .int .u64 0, .int .i64 (-1074)] W fun r w' => r = .returned (.float .f64 F) ∧ w' = W) :
    Calls Tryz.prog 62 #[.agg #[.bool false, .slice ua un uc, .int .i64 ea], .int .i64 2] w fun r w' => r = .returned (.float .f64 F) ∧ Below w.heap.size w w' := by
  have htn : ¬ 1024 < t := by omega
  obtain ⟨W, hW⟩ : ∃ W, W = w.alloc (.cells #[.bool false, .slice ua un uc, .int .i64 ea] 34) := ⟨_, rfl⟩
  have hBW : Below w.heap.size w W := by rw [hW]; exact (Below.refl _ _).alloc (Nat.le_refl _) _
  have hA : W.heap[w.heap.size]? = some (.cells #[.bool false, .slice ua un uc, .int .i64 ea] 34 (0, 0)) := by rw [hW]; exact heap_alloc_new _ _
  have hsz : W.heap.size = w.heap.size + 1 := by rw [hW]; simp
  have HX : Hid (Below w.heap.size w W) := hBW
  have HK : Hid (∀ w', Below W.heap.size W w' → w'.cell? ⟨w.heap.size, 0, none⟩ = some (.bool false) ∧ w'.cell? ⟨w.heap.size, 1, none⟩ = some (.slice ua un uc) ∧ w'.cell? ⟨w.heap.size, 2, none⟩ = some (.int .i64 ea)) := fun w' hb => (box_cells29 (box_later hA hb (by omega))).1
  have k := kH W hBW
  clear kH hA hsz hBW
  go_enter Tryz.func62, Tryz.ntmps62
  go_wp2_with fail
  rw [← hW]
  clear hW
  refine k.mono ?_
  rintro r w1 ⟨rfl, hb1⟩
  have HB1 : Hid (Below W.heap.size W w1) := hb1
  obtain ⟨a0, a1, a2⟩ := HK.out w1 hb1
  clear k hb1
  go_wp2_with (first | (go_at_call 88; refine (kB _).mono ?_; rintro r w2 ⟨rfl, rfl⟩))
  go_ret
  exact ⟨rfl, HX.out.trans (HB1.out.mono HX.out.size)⟩
set_option maxRecDepth 200000 in
theorem rto_tiny_2t (ua : Option Addr) (un uc F : Nat) (ea e2 t : Int) (w : World) (hn0 : ((un : Int) == 0) = false) (ht : t ≤ 1024) (ht3 : -4000000 ≤ t) (he1 : -4000000 ≤ ea) (he2 : ea ≤ 4000000) (hmx : max (t - 53) (-1074) = e2) (h21 : -1074 ≤ e2) (h22 : e2 ≤ 971) (hge : ¬ e2 ≤ ea) (ht2 : t < -1075) (kH : ∀ W, Below w.heap.size w W → Calls Tryz.prog 86 #[.agg #[.bool true, .slice ua un uc, .int .i64 ea]] W fun r w' => r = .returned (.int .i64 t) ∧ Below W.heap.size W w') (kB : ∀ W, Calls Tryz.prog 88 #[.bool true, .int .u64 0, .int .i64 (-1074)] W fun r w' => r = .returned (.float .f64 F) ∧ w' = W) :
    Calls Tryz.prog 62 #[.agg #[.bool true, .slice ua un uc, .int .i64 ea], .int .i64 2] w fun r w' => r = .returned (.float .f64 F) ∧ Below w.heap.size w w' := by
  have htn : ¬ 1024 < t := by omega
  obtain ⟨W, hW⟩ : ∃ W, W = w.alloc (.cells #[.bool true, .slice ua un uc, .int .i64 ea] 34) := ⟨_, rfl⟩
  have hBW : Below w.heap.size w W := by rw [hW]; exact (Below.refl _ _).alloc (Nat.le_refl _) _
  have hA : W.heap[w.heap.size]? = some (.cells #[.bool true, .slice ua un uc, .int .i64 ea] 34 (0, 0)) := by rw [hW]; exact heap_alloc_new _ _
  have hsz : W.heap.size = w.heap.size + 1 := by rw [hW]; simp
  have HX : Hid (Below w.heap.size w W) := hBW
  have HK : Hid (∀ w', Below W.heap.size W w' → w'.cell? ⟨w.heap.size, 0, none⟩ = some (.bool true) ∧ w'.cell? ⟨w.heap.size, 1, none⟩ = some (.slice ua un uc) ∧ w'.cell? ⟨w.heap.size, 2, none⟩ = some (.int .i64 ea)) := fun w' hb => (box_cells29 (box_later hA hb (by omega))).1
  have k := kH W hBW
  clear kH hA hsz hBW
  go_enter Tryz.func62, Tryz.ntmps62
  go_wp2_with fail
  rw [← hW]
  clear hW
  refine k.mono ?_
  rintro r w1 ⟨rfl, hb1⟩
  have HB1 : Hid (Below W.heap.size W w1) := hb1
  obtain ⟨a0, a1, a2⟩ := HK.out w1 hb1
  clear k hb1
  go_wp2_with (first | (go_at_call 88; refine (kB _).mono ?_; rintro r w2 ⟨rfl, rfl⟩))
  go_ret
  exact ⟨rfl, HX.out.trans (HB1.out.mono HX.out.size)⟩
set_option maxRecDepth 200000 in
theorem rto_tiny_3f (ua : Option Addr) (un uc F : Nat) (ea e2 t : Int) (w : World) (hn0 : ((un : Int) == 0) = false) (ht : t ≤ 1024) (ht3 : -4000000 ≤ t) (he1 : -4000000 ≤ ea) (he2 : ea ≤ 4000000) (hmx : max (t - 53) (-1074) = e2) (h21 : -1074 ≤ e2) (h22 : e2 ≤ 971) (hge : ¬ e2 ≤ ea) (ht2 : t < -1075) (kH : ∀ W, Below w.heap.size w W → Calls Tryz.prog 86 #[.agg #[.bool false, .slice ua un uc, .int .i64 ea]] W fun r w' => r = .returned (.int .i64 t) ∧ Below W.heap.size W w') (kB : ∀ W, Calls Tryz.prog 88 #[.bool false, .int .u64 1, .int .i64 (-1074)] W fun r w' => r = .returned (.float .f64 F) ∧ w' = W) :
    Calls Tryz.prog 62 #[.agg #[.bool false, .slice ua un uc, .int .i64 ea], .int .i64 3] w fun r w' => r = .returned (.float .f64 F) ∧ Below w.heap.size w w' := by
  have htn : ¬ 1024 < t := by omega
  obtain ⟨W, hW⟩ : ∃ W, W = w.alloc (.cells #[.bool false, .slice ua un uc, .int .i64 ea] 34) := ⟨_, rfl⟩
  have hBW : Below w.heap.size w W := by rw [hW]; exact (Below.refl _ _).alloc (Nat.le_refl _) _
  have hA : W.heap[w.heap.size]? = some (.cells #[.bool false, .slice ua un uc, .int .i64 ea] 34 (0, 0)) := by rw [hW]; exact heap_alloc_new _ _
  have hsz : W.heap.size = w.heap.size + 1 := by rw [hW]; simp
  have HX : Hid (Below w.heap.size w W) := hBW
  have HK : Hid (∀ w', Below W.heap.size W w' → w'.cell? ⟨w.heap.size, 0, none⟩ = some (.bool false) ∧ w'.cell? ⟨w.heap.size, 1, none⟩ = some (.slice ua un uc) ∧ w'.cell? ⟨w.heap.size, 2, none⟩ = some (.int .i64 ea)) := fun w' hb => (box_cells29 (box_later hA hb (by omega))).1
  have k := kH W hBW
  clear kH hA hsz hBW
  go_enter Tryz.func62, Tryz.ntmps62
  go_wp2_with fail
  rw [← hW]
  clear hW
  refine k.mono ?_
  rintro r w1 ⟨rfl, hb1⟩
  have HB1 : Hid (Below W.heap.size W w1) := hb1
  obtain ⟨a0, a1, a2⟩ := HK.out w1 hb1
  clear k hb1
  go_wp2_with (first | (go_at_call 88; refine (kB _).mono ?_; rintro r w2 ⟨rfl, rfl⟩))
  go_ret
  exact ⟨rfl, HX.out.trans (HB1.out.mono HX.out.size)⟩
set_option maxRecDepth 200000 in
theorem rto_tiny_3t (ua : Option Addr) (un uc F : Nat) (ea e2 t : Int) (w : World) (hn0 : ((un : Int) == 0) = false) (ht : t ≤ 1024) (ht3 : -4000000 ≤ t) (he1 : -4000000 ≤ ea) (he2 : ea ≤ 4000000) (hmx : max (t - 53) (-1074) = e2) (h21 : -1074 ≤ e2) (h22 : e2 ≤ 971) (hge : ¬ e2 ≤ ea) (ht2 : t < -1075) (kH : ∀ W, Below w.heap.size w W → Calls Tryz.prog 86 #[.agg #[.bool true, .slice ua un uc, .int .i64 ea]] W fun r w' => r = .returned (.int .i64 t) ∧ Below W.heap.size W w') (kB : ∀ W, Calls Tryz.prog 88 #[.bool true, .int .u64 0, .int .i64 (-1074)] W fun r w' => r = .returned (.float .f64 F) ∧ w' = W) :
    Calls Tryz.prog 62 #[.agg #[.bool true, .slice ua un uc, .int .i64 ea], .int .i64 3] w fun r w' => r = .returned (.float .f64 F) ∧ Below w.heap.size w w' := by
  have htn : ¬ 1024 < t := by omega
  obtain ⟨W, hW⟩ : ∃ W, W = w.alloc (.cells #[.bool true, .slice ua un uc, .int .i64 ea] 34) := ⟨_, rfl⟩
  have hBW : Below w.heap.size w W := by rw [hW]; exact (Below.refl _ _).alloc (Nat.le_refl _) _
  have hA : W.heap[w.heap.size]? = some (.cells #[.bool true, .slice ua un uc, .int .i64 ea] 34 (0, 0)) := by rw [hW]; exact heap_alloc_new _ _
  have hsz : W.heap.size = w.heap.size + 1 := by rw [hW]; simp
  have HX : Hid (Below w.heap.size w W) := hBW
  have HK : Hid (∀ w', Below W.heap.size W w' → w'.cell? ⟨w.heap.size, 0, none⟩ = some (.bool true) ∧ w'.cell? ⟨w.heap.size, 1, none⟩ = some (.slice ua un uc) ∧ w'.cell? ⟨w.heap.size, 2, none⟩ = some (.int .i64 ea)) := fun w' hb => (box_cells29 (box_later hA hb (by omega))).1
  have k := kH W hBW
  clear kH hA hsz hBW
  go_enter Tryz.func62, Tryz.ntmps62
  go_wp2_with fail
  rw [← hW]
  clear hW
  refine k.mono ?_
  rintro r w1 ⟨rfl, hb1⟩
  have HB1 : Hid (Below W.heap.size W w1) := hb1
  obtain ⟨a0, a1, a2⟩ := HK.out w1 hb1
  clear k hb1
  go_wp2_with (first | (go_at_call 88; refine (kB _).mono ?_; rintro r w2 ⟨rfl, rfl⟩))
  go_ret
  exact ⟨rfl, HX.out.trans (HB1.out.mono HX.out.size)⟩
set_option maxRecDepth 200000 in
theorem rto_up_1f (ua : Option Addr) (un uc X F : Nat) (ea e2 t : Int) (w : World) (hn0 : ((un : Int) == 0) = false) (ht : t ≤ 1024) (ht3 : -4000000 ≤ t) (he1 : -4000000 ≤ ea) (he2 : ea ≤ 4000000) (hmx : max (t - 53) (-1074) = e2) (h21 : -1074 ≤ e2) (h22 : e2 ≤ 971) (hge : e2 ≤ ea) (hX : X < 9007199254740992) (kH : ∀ W, Below w.heap.size w W → Calls Tryz.prog 86 #[.agg #[.bool false, .slice ua un uc, .int .i64 ea]] W fun r w' => r = .returned (.int .i64 t) ∧ Below W.heap.size W w') (kU : ∀ W, Below w.heap.size w W → Calls Tryz.prog 57 #[.slice ua un uc, .int .i64 (ea - e2)] W fun r w' => ∃ v, r = .returned v ∧ Ir w' v X ∧ Below W.heap.size W w') (kB : ∀ W, Calls Tryz.prog 88 #[.bool false, .int .u64 X, .int .i64 e2] W fun r w' => r = .returned (.float .f64 F) ∧ w' = W) :
    Calls Tryz.prog 62 #[.agg #[.bool false, .slice ua un uc, .int .i64 ea], .int .i64 1] w fun r w' => r = .returned (.float .f64 F) ∧ Below w.heap.size w w' := by
  have htn : ¬ 1024 < t := by omega
  obtain ⟨W, hW⟩ : ∃ W, W = w.alloc (.cells #[.bool false, .slice ua un uc, .int .i64 ea] 34) := ⟨_, rfl⟩
  have hBW : Below w.heap.size w W := by rw [hW]; exact (Below.refl _ _).alloc (Nat.le_refl _) _
  have hA : W.heap[w.heap.size]? = some (.cells #[.bool false, .slice ua un uc, .int .i64 ea] 34 (0, 0)) := by rw [hW]; exact heap_alloc_new _ _
  have hsz : W.heap.size = w.heap.size + 1 := by rw [hW]; simp
  have HX : Hid (Below w.heap.size w W) := hBW
  have HK : Hid (∀ w', Below W.heap.size W w' → w'.cell? ⟨w.heap.size, 0, none⟩ = some (.bool false) ∧ w'.cell? ⟨w.heap.size, 1, none⟩ = some (.slice ua un uc) ∧ w'.cell? ⟨w.heap.size, 2, none⟩ = some (.int .i64 ea)) := fun w' hb => (box_cells29 (box_later hA hb (by omega))).1
  have k := kH W hBW
  have HKU : Hid (∀ w4, Below W.heap.size W w4 → Calls Tryz.prog 57 #[.slice ua un uc, .int .i64 (ea - e2)] w4 fun r w' => ∃ v, r = .returned v ∧ Ir w' v X ∧ Below w4.heap.size w4 w') := (fun w4 h4 => kU w4 (hBW.trans (h4.mono hBW.size)) : ∀ w4, Below W.heap.size W w4 → Calls Tryz.prog 57 #[.slice ua un uc, .int .i64 (ea - e2)] w4 fun r w' => ∃ v, r = .returned v ∧ Ir w' v X ∧ Below w4.heap.size w4 w')
  clear kU
  clear kH hA hsz hBW
  go_enter Tryz.func62, Tryz.ntmps62
  go_wp2_with fail
  rw [← hW]
  clear hW
  refine k.mono ?_
  rintro r w1 ⟨rfl, hb1⟩
  have HB1 : Hid (Below W.heap.size W w1) := hb1
  obtain ⟨a0, a1, a2⟩ := HK.out w1 hb1
  clear k hb1
  have kU := HKU.out w1 HB1.out
  go_wp2_with (first | (go_at_call 57; refine kU.mono ?_; rintro r w2 ⟨v, rfl, hv, hb2⟩))
  have HB2 : Hid (Below W.heap.size W w2) := HB1.out.trans (hb2.mono HB1.out.size)
  obtain ⟨a0, a1, a2⟩ := HK.out w2 HB2.out
  have kS : ∀ d, Calls Tryz.prog 89 #[v] (w2.drewN d) fun r w' => r = .returned (.int .u64 X) ∧ w' = w2.drewN d := fun d => rsmall (hv.later ⟨rfl, rfl, rfl, Nat.le_refl _, fun _ _ => rfl⟩) hX
  clear kU hb2 hv
  go_quiet (first | (go_at_call 89; refine Calls.quiet_of_same (kS _)) | (go_at_call 88; refine Calls.quiet_of_same (kB _)))
  go_wp2
  go_ret
  exact ⟨rfl, HX.out.trans ((below_drewN HB2.out _).mono HX.out.size)⟩
set_option maxRecDepth 200000 in
theorem rto_up_1t (ua : Option Addr) (un uc X F : Nat) (ea e2 t : Int) (w : World) (hn0 : ((un : Int) == 0) = false) (ht : t ≤ 1024) (ht3 : -4000000 ≤ t) (he1 : -4000000 ≤ ea) (he2 : ea ≤ 4000000) (hmx : max (t - 53) (-1074) = e2) (h21 : -1074 ≤ e2) (h22 : e2 ≤ 971) (hge : e2 ≤ ea) (hX : X < 9007199254740992) (kH : ∀ W, Below w.heap.size w W → Calls Tryz.prog 86 #[.agg #[.bool true, .slice ua un uc, .int .i64 ea]] W fun r w' => r = .returned (.int .i64 t) ∧ Below W.heap.size W w') (kU : ∀ W, Below w.heap.size w W → Calls Tryz.prog 57 #[.slice ua un uc, .int .i64 (ea - e2)] W fun r w' => ∃ v, r = .returned v ∧ Ir w' v X ∧ Below W.heap.size W w') (kB : ∀ W, Calls Tryz.prog 88 #[.bool true, .int .u64 X, .int .i64 e2] W fun r w' => r = .returned (.float .f64 F) ∧ w' = W) :
    Calls Tryz.prog 62 #[.agg #[.bool true, .slice ua un uc, .int .i64 ea], .int .i64 1] w fun r w' => r = .returned (.float .f64 F) ∧ Below w.heap.size w w' := by
  have htn : ¬ 1024 < t := by omega
  obtain ⟨W, hW⟩ : ∃ W, W = w.alloc (.cells #[.bool true, .slice ua un uc, .int .i64 ea] 34) := ⟨_, rfl⟩
  have hBW : Below w.heap.size w W := by rw [hW]; exact (Below.refl _ _).alloc (Nat.le_refl _) _
  have hA : W.heap[w.heap.size]? = some (.cells #[.bool true, .slice ua un uc, .int .i64 ea] 34 (0, 0)) := by rw [hW]; exact heap_alloc_new _ _
  have hsz : W.heap.size = w.heap.size + 1 := by rw [hW]; simp
  have HX : Hid (Below w.heap.size w W) := hBW
  have HK : Hid (∀ w', Below W.heap.size W w' → w'.cell? ⟨w.heap.size, 0, none⟩ = some (.bool true) ∧ w'.cell? ⟨w.heap.size, 1, none⟩ = some (.slice ua un uc) ∧ w'.cell? ⟨w.heap.size, 2, none⟩ = some (.int .i64 ea)) := fun w' hb => (box_cells29 (box_later hA hb (by omega))).1
  have k := kH W hBW
  have HKU : Hid (∀ w4, Below W.heap.size W w4 → Calls Tryz.prog 57 #[.slice ua un uc, .int .i64 (ea - e2)] w4 fun r w' => ∃ v, r = .returned v ∧ Ir w' v X ∧ Below w4.heap.size w4 w') := (fun w4 h4 => kU w4 (hBW.trans (h4.mono hBW.size)) : ∀ w4, Below W.heap.size W w4 → Calls Tryz.prog 57 #[.slice ua un uc, .int .i64 (ea - e2)] w4 fun r w' => ∃ v, r = .returned v ∧ Ir w' v X ∧ Below w4.heap.size w4 w')
  clear kU
  clear kH hA hsz hBW
  go_enter Tryz.func62, Tryz.ntmps62
  go_wp2_with fail
  rw [← hW]
  clear hW
  refine k.mono ?_
  rintro r w1 ⟨rfl, hb1⟩
  have HB1 : Hid (Below W.heap.size W w1) := hb1
  obtain ⟨a0, a1, a2⟩ := HK.out w1 hb1
  clear k hb1
  have kU := HKU.out w1 HB1.out
  go_wp2_with (first | (go_at_call 57; refine kU.mono ?_; rintro r w2 ⟨v, rfl, hv, hb2⟩))
  have HB2 : Hid (Below W.heap.size W w2) := HB1.out.trans (hb2.mono HB1.out.size)
  obtain ⟨a0, a1, a2⟩ := HK.out w2 HB2.out
  have kS : ∀ d, Calls Tryz.prog 89 #[v] (w2.drewN d) fun r w' => r = .returned (.int .u64 X) ∧ w' = w2.drewN d := fun d => rsmall (hv.later ⟨rfl, rfl, rfl, Nat.le_refl _, fun _ _ => rfl⟩) hX
  clear kU hb2 hv
  go_quiet (first | (go_at_call 89; refine Calls.quiet_of_same (kS _)) | (go_at_call 88; refine Calls.quiet_of_same (kB _)))
  go_wp2
  go_ret
  exact ⟨rfl, HX.out.trans ((below_drewN HB2.out _).mono HX.out.size)⟩
set_option maxRecDepth 200000 in
theorem rto_up_2f (ua : Option Addr) (un uc X F : Nat) (ea e2 t : Int) (w : World) (hn0 : ((un : Int) == 0) = false) (ht : t ≤ 1024) (ht3 : -4000000 ≤ t) (he1 : -4000000 ≤ ea) (he2 : ea ≤ 4000000) (hmx : max (t - 53) (-1074) = e2) (h21 : -1074 ≤ e2) (h22 : e2 ≤ 971) (hge : e2 ≤ ea) (hX : X < 9007199254740992) (kH : ∀ W, Below w.heap.size w W → Calls Tryz.prog 86 #[.agg #[.bool false, .slice ua un uc, .int .i64 ea]] W fun r w' => r = .returned (.int .i64 t) ∧ Below W.heap.size W w') (kU : ∀ W, Below w.heap.size w W → Calls Tryz.prog 57 #[.slice ua un uc, .int .i64 (ea - e2)] W fun r w' => ∃ v, r = .returned v ∧ Ir w' v X ∧ Below W.heap.size W w') (kB : ∀ W, Calls Tryz.prog 88 #[.bool false, .int .u64 X, .int .i64 e2] W fun r w' => r = .returned (.float .f64 F) ∧ w' = W) :
    Calls Tryz.prog 62 #[.agg #[.bool false, .slice ua un uc, .int .i64 ea], .int .i64 2] w fun r w' => r = .returned (.float .f64 F) ∧ Below w.heap.size w w' := by
  have htn : ¬ 1024 < t := by omega
  obtain ⟨W, hW⟩ : ∃ W, W = w.alloc (.cells #[.bool false, .slice ua un uc, .int .i64 ea] 34) := ⟨_, rfl⟩
  have hBW : Below w.heap.size w W := by rw [hW]; exact (Below.refl _ _).alloc (Nat.le_refl _) _
  have hA : W.heap[w.heap.size]? = some (.cells #[.bool false, .slice ua un uc, .int .i64 ea] 34 (0, 0)) := by rw [hW]; exact heap_alloc_new _ _
  have hsz : W.heap.size = w.heap.size + 1 := by rw [hW]; simp
  have HX : Hid (Below w.heap.size w W) := hBW
  have HK : Hid (∀ w', Below W.heap.size W w' → w'.cell? ⟨w.heap.size, 0, none⟩ = some (.bool false) ∧ w'.cell? ⟨w.heap.size, 1, none⟩ = some (.slice ua un uc) ∧ w'.cell? ⟨w.heap.size, 2, none⟩ = some (.int .i64 ea)) := fun w' hb => (box_cells29 (box_later hA hb (by omega))).1
  have k := kH W hBW
  have HKU : Hid (∀ w4, Below W.heap.size W w4 → Calls Tryz.prog 57 #[.slice ua un uc, .int .i64 (ea - e2)] w4 fun r w' => ∃ v, r = .returned v ∧ Ir w' v X ∧ Below w4.heap.size w4 w') := (fun w4 h4 => kU w4 (hBW.trans (h4.mono hBW.size)) : ∀ w4, Below W.heap.size W w4 → Calls Tryz.prog 57 #[.slice ua un uc, .int .i64 (ea - e2)] w4 fun r w' => ∃ v, r = .returned v ∧ Ir w' v X ∧ Below w4.heap.size w4 w')
  clear kU
  clear kH hA hsz hBW
  go_enter Tryz.func62, Tryz.ntmps62
  go_wp2_with fail
  rw [← hW]
  clear hW
  refine k.mono ?_
  rintro r w1 ⟨rfl, hb1⟩
  have HB1 : Hid (Below W.heap.size W w1) := hb1
  obtain ⟨a0, a1, a2⟩ := HK.out w1 hb1
  clear k hb1
  have kU := HKU.out w1 HB1.out
  go_wp2_with (first | (go_at_call 57; refine kU.mono ?_; rintro r w2 ⟨v, rfl, hv, hb2⟩))
  have HB2 : Hid (Below W.heap.size W w2) := HB1.out.trans (hb2.mono HB1.out.size)
  obtain ⟨a0, a1, a2⟩ := HK.out w2 HB2.out
  have kS : ∀ d, Calls Tryz.prog 89 #[v] (w2.drewN d) fun r w' => r = .returned (.int .u64 X) ∧ w' = w2.drewN d := fun d => rsmall (hv.later ⟨rfl, rfl, rfl, Nat.le_refl _, fun _ _ => rfl⟩) hX
  clear kU hb2 hv
  go_quiet (first | (go_at_call 89; refine Calls.quiet_of_same (kS _)) | (go_at_call 88; refine Calls.quiet_of_same (kB _)))
  go_wp2
  go_ret
  exact ⟨rfl, HX.out.trans ((below_drewN HB2.out _).mono HX.out.size)⟩
set_option maxRecDepth 200000 in
theorem rto_up_2t (ua : Option Addr) (un uc X F : Nat) (ea e2 t : Int) (w : World) (hn0 : ((un : Int) == 0) = false) (ht : t ≤ 1024) (ht3 : -4000000 ≤ t) (he1 : -4000000 ≤ ea) (he2 : ea ≤ 4000000) (hmx : max (t - 53) (-1074) = e2) (h21 : -1074 ≤ e2) (h22 : e2 ≤ 971) (hge : e2 ≤ ea) (hX : X < 9007199254740992) (kH : ∀ W, Below w.heap.size w W → Calls Tryz.prog 86 #[.agg #[.bool true, .slice ua un uc, .int .i64 ea]] W fun r w' => r = .returned (.int .i64 t) ∧ Below W.heap.size W w') (kU : ∀ W, Below w.heap.size w W → Calls Tryz.prog 57 #[.slice ua un uc, .int .i64 (ea - e2)] W fun r w' => ∃ v, r = .returned v ∧ Ir w' v X ∧ Below W.heap.size W w') (kB : ∀ W, Calls Tryz.prog 88 #[.bool true, .int .u64 X, .int .i64 e2] W fun r w' => r = .returned (.float .f64 F) ∧ w' = W) :
    Calls Tryz.prog 62 #[.agg #[.bool true, .slice ua un uc, .int .i64 ea], .int .i64 2] w fun r w' => r = .returned (.float .f64 F) ∧ Below w.heap.size w w' := by
  have htn : ¬ 1024 < t := by omega
  obtain ⟨W, hW⟩ : ∃ W, W = w.alloc (.cells #[.bool true, .slice ua un uc, .int .i64 ea] 34) := ⟨_, rfl⟩
  have hBW : Below w.heap.size w W := by rw [hW]; exact (Below.refl _ _).alloc (Nat.le_refl _) _
  have hA : W.heap[w.heap.size]? = some (.cells #[.bool true, .slice ua un uc, .int .i64 ea] 34 (0, 0)) := by rw [hW]; exact heap_alloc_new _ _
  have hsz : W.heap.size = w.heap.size + 1 := by rw [hW]; simp
  have HX : Hid (Below w.heap.size w W) := hBW
  have HK : Hid (∀ w', Below W.heap.size W w' → w'.cell? ⟨w.heap.size, 0, none⟩ = some (.bool true) ∧ w'.cell? ⟨w.heap.size, 1, none⟩ = some (.slice ua un uc) ∧ w'.cell? ⟨w.heap.size, 2, none⟩ = some (.int .i64 ea)) := fun w' hb => (box_cells29 (box_later hA hb (by omega))).1
  have k := kH W hBW
  have HKU : Hid (∀ w4, Below W.heap.size W w4 → Calls Tryz.prog 57 #[.slice ua un uc, .int .i64 (ea - e2)] w4 fun r w' => ∃ v, r = .returned v ∧ Ir w' v X ∧ Below w4.heap.size w4 w') := (fun w4 h4 => kU w4 (hBW.trans (h4.mono hBW.size)) : ∀ w4, Below W.heap.size W w4 → Calls Tryz.prog 57 #[.slice ua un uc, .int .i64 (ea - e2)] w4 fun r w' => ∃ v, r = .returned v ∧ Ir w' v X ∧ Below w4.heap.size w4 w')
  clear kU
  clear kH hA hsz hBW
  go_enter Tryz.func62, Tryz.ntmps62
  go_wp2_with fail
  rw [← hW]
  clear hW
  refine k.mono ?_
  rintro r w1 ⟨rfl, hb1⟩
  have HB1 : Hid (Below W.heap.size W w1) := hb1
  obtain ⟨a0, a1, a2⟩ := HK.out w1 hb1
  clear k hb1
  have kU := HKU.out w1 HB1.out
  go_wp2_with (first | (go_at_call 57; refine kU.mono ?_; rintro r w2 ⟨v, rfl, hv, hb2⟩))
  have HB2 : Hid (Below W.heap.size W w2) := HB1.out.trans (hb2.mono HB1.out.size)
  obtain ⟨a0, a1, a2⟩ := HK.out w2 HB2.out
  have kS : ∀ d, Calls Tryz.prog 89 #[v] (w2.drewN d) fun r w' => r = .returned (.int .u64 X) ∧ w' = w2.drewN d := fun d => rsmall (hv.later ⟨rfl, rfl, rfl, Nat.le_refl _, fun _ _ => rfl⟩) hX
  clear kU hb2 hv
  go_quiet (first | (go_at_call 89; refine Calls.quiet_of_same (kS _)) | (go_at_call 88; refine Calls.quiet_of_same (kB _)))
  go_wp2
  go_ret
  exact ⟨rfl, HX.out.trans ((below_drewN HB2.out _).mono HX.out.size)⟩
set_option maxRecDepth 200000 in
theorem rto_up_3f (ua : Option Addr) (un uc X F : Nat) (ea e2 t : Int) (w : World) (hn0 : ((un : Int) == 0) = false) (ht : t ≤ 1024) (ht3 : -4000000 ≤ t) (he1 : -4000000 ≤ ea) (he2 : ea ≤ 4000000) (hmx : max (t - 53) (-1074) = e2) (h21 : -1074 ≤ e2) (h22 : e2 ≤ 971) (hge : e2 ≤ ea) (hX : X < 9007199254740992) (kH : ∀ W, Below w.heap.size w W → Calls Tryz.prog 86 #[.agg #[.bool false, .slice ua un uc, .int .i64 ea]] W fun r w' => r = .returned (.int .i64 t) ∧ Below W.heap.size W w') (kU : ∀ W, Below w.heap.size w W → Calls Tryz.prog 57 #[.slice ua un uc, .int .i64 (ea - e2)] W fun r w' => ∃ v, r = .returned v ∧ Ir w' v X ∧ Below W.heap.size W w') (kB : ∀ W, Calls Tryz.prog 88 #[.bool false, .int .u64 X, .int .i64 e2] W fun r w' => r = .returned (.float .f64 F) ∧ w' = W) :
    Calls Tryz.prog 62 #[.agg #[.bool false, .slice ua un uc, .int .i64 ea], .int .i64 3] w fun r w' => r = .returned (.float .f64 F) ∧ Below w.heap.size w w' := by
  have htn : ¬ 1024 < t := by omega
  obtain ⟨W, hW⟩ : ∃ W, W = w.alloc (.cells #[.bool false, .slice ua un uc, .int .i64 ea] 34) := ⟨_, rfl⟩
  have hBW : Below w.heap.size w W := by rw [hW]; exact (Below.refl _ _).alloc (Nat.le_refl _) _
  have hA : W.heap[w.heap.size]? = some (.cells #[.bool false, .slice ua un uc, .int .i64 ea] 34 (0, 0)) := by rw [hW]; exact heap_alloc_new _ _
  have hsz : W.heap.size = w.heap.size + 1 := by rw [hW]; simp
  have HX : Hid (Below w.heap.size w W) := hBW
  have HK : Hid (∀ w', Below W.heap.size W w' → w'.cell? ⟨w.heap.size, 0, none⟩ = some (.bool false) ∧ w'.cell? ⟨w.heap.size, 1, none⟩ = some (.slice ua un uc) ∧ w'.cell? ⟨w.heap.size, 2, none⟩ = some (.int .i64 ea)) := fun w' hb => (box_cells29 (box_later hA hb (by omega))).1
  have k := kH W hBW
  have HKU : Hid (∀ w4, Below W.heap.size W w4 → Calls Tryz.prog 57 #[.slice ua un uc, .int .i64 (ea - e2)] w4 fun r w' => ∃ v, r = .returned v ∧ Ir w' v X ∧ Below w4.heap.size w4 w') := (fun w4 h4 => kU w4 (hBW.trans (h4.mono hBW.size)) : ∀ w4, Below W.heap.size W w4 → Calls Tryz.prog 57 #[.slice ua un uc, .int .i64 (ea - e2)] w4 fun r w' => ∃ v, r = .returned v ∧ Ir w' v X ∧ Below w4.heap.size w4 w')
  clear kU
  clear kH hA hsz hBW
  go_enter Tryz.func62, Tryz.ntmps62
  go_wp2_with fail
  rw [← hW]
  clear hW
  refine k.mono ?_
  rintro r w1 ⟨rfl, hb1⟩
  have HB1 : Hid (Below W.heap.size W w1) := hb1
  obtain ⟨a0, a1, a2⟩ := HK.out w1 hb1
  clear k hb1
  have kU := HKU.out w1 HB1.out
  go_wp2_with (first | (go_at_call 57; refine kU.mono ?_; rintro r w2 ⟨v, rfl, hv, hb2⟩))
  have HB2 : Hid (Below W.heap.size W w2) := HB1.out.trans (hb2.mono HB1.out.size)
  obtain ⟨a0, a1, a2⟩ := HK.out w2 HB2.out
  have kS : ∀ d, Calls Tryz.prog 89 #[v] (w2.drewN d) fun r w' => r = .returned (.int .u64 X) ∧ w' = w2.drewN d := fun d => rsmall (hv.later ⟨rfl, rfl, rfl, Nat.le_refl _, fun _ _ => rfl⟩) hX
  clear kU hb2 hv
  go_quiet (first | (go_at_call 89; refine Calls.quiet_of_same (kS _)) | (go_at_call 88; refine Calls.quiet_of_same (kB _)))
  go_wp2
  go_ret
  exact ⟨rfl, HX.out.trans ((below_drewN HB2.out _).mono HX.out.size)⟩
set_option maxRecDepth 200000 in
theorem rto_up_3t (ua : Option Addr) (un uc X F : Nat) (ea e2 t : Int) (w : World) (hn0 : ((un : Int) == 0) = false) (ht : t ≤ 1024) (ht3 : -4000000 ≤ t) (he1 : -4000000 ≤ ea) (he2 : ea ≤ 4000000) (hmx : max (t - 53) (-1074) = e2) (h21 : -1074 ≤ e2) (h22 : e2 ≤ 971) (hge : e2 ≤ ea) (hX : X < 9007199254740992) (kH : ∀ W, Below w.heap.size w W → Calls Tryz.prog 86 #[.agg #[.bool true, .slice ua un uc, .int .i64 ea]] W fun r w' => r = .returned (.int .i64 t) ∧ Below W.heap.size W w') (kU : ∀ W, Below w.heap.size w W → Calls Tryz.prog 57 #[.slice ua un uc, .int .i64 (ea - e2)] W fun r w' => ∃ v, r = .returned v ∧ Ir w' v X ∧ Below W.heap.size W w') (kB : ∀ W, Calls Tryz.prog 88 #[.bool true, .int .u64 X, .int .i64 e2] W fun r w' => r = .returned (.float .f64 F) ∧ w' = W) :
    Calls Tryz.prog 62 #[.agg #[.bool true, .slice ua un uc, .int .i64 ea], .int .i64 3] w fun r w' => r = .returned (.float .f64 F) ∧ Below w.heap.size w w' := by
  have htn : ¬ 1024 < t := by omega
  obtain ⟨W, hW⟩ : ∃ W, W = w.alloc (.cells #[.bool true, .slice ua un uc, .int .i64 ea] 34) := ⟨_, rfl⟩
  have hBW : Below w.heap.size w W := by rw [hW]; exact (Below.refl _ _).alloc (Nat.le_refl _) _
  have hA : W.heap[w.heap.size]? = some (.cells #[.bool true, .slice ua un uc, .int .i64 ea] 34 (0, 0)) := by rw [hW]; exact heap_alloc_new _ _
  have hsz : W.heap.size = w.heap.size + 1 := by rw [hW]; simp
  have HX : Hid (Below w.heap.size w W) := hBW
  have HK : Hid (∀ w', Below W.heap.size W w' → w'.cell? ⟨w.heap.size, 0, none⟩ = some (.bool true) ∧ w'.cell? ⟨w.heap.size, 1, none⟩ = some (.slice ua un uc) ∧ w'.cell? ⟨w.heap.size, 2, none⟩ = some (.int .i64 ea)) := fun w' hb => (box_cells29 (box_later hA hb (by omega))).1
  have k := kH W hBW
  have HKU : Hid (∀ w4, Below W.heap.size W w4 → Calls Tryz.prog 57 #[.slice ua un uc, .int .i64 (ea - e2)] w4 fun r w' => ∃ v, r = .returned v ∧ Ir w' v X ∧ Below w4.heap.size w4 w') := (fun w4 h4 => kU w4 (hBW.trans (h4.mono hBW.size)) : ∀ w4, Below W.heap.size W w4 → Calls Tryz.prog 57 #[.slice ua un uc, .int .i64 (ea - e2)] w4 fun r w' => ∃ v, r = .returned v ∧ Ir w' v X ∧ Below w4.heap.size w4 w')
  clear kU
  clear kH hA hsz hBW
  go_enter Tryz.func62, Tryz.ntmps62
  go_wp2_with fail
  rw [← hW]
  clear hW
  refine k.mono ?_
  rintro r w1 ⟨rfl, hb1⟩
  have HB1 : Hid (Below W.heap.size W w1) := hb1
  obtain ⟨a0, a1, a2⟩ := HK.out w1 hb1
  clear k hb1
  have kU := HKU.out w1 HB1.out
  go_wp2_with (first | (go_at_call 57; refine kU.mono ?_; rintro r w2 ⟨v, rfl, hv, hb2⟩))
  have HB2 : Hid (Below W.heap.size W w2) := HB1.out.trans (hb2.mono HB1.out.size)
  obtain ⟨a0, a1, a2⟩ := HK.out w2 HB2.out
  have kS : ∀ d, Calls Tryz.prog 89 #[v] (w2.drewN d) fun r w' => r = .returned (.int .u64 X) ∧ w' = w2.drewN d := fun d => rsmall (hv.later ⟨rfl, rfl, rfl, Nat.le_refl _, fun _ _ => rfl⟩) hX
  clear kU hb2 hv
  go_quiet (first | (go_at_call 89; refine Calls.quiet_of_same (kS _)) | (go_at_call 88; refine Calls.quiet_of_same (kB _)))
  go_wp2
  go_ret
  exact ⟨rfl, HX.out.trans ((below_drewN HB2.out _).mono HX.out.size)⟩
end Go.Proofs.YtbpeijejanhihaaGreatDoor
