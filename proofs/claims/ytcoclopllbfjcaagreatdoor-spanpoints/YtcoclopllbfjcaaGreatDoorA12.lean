/- Own work: contracts of the program's functions, part 12: SP2 SP3 SP4 SQ4 SQ5 SR1 SR2 SR3 SN1 SN2. -/
import Derived.Test.YtcoclopllbfjcaaGreatDoorA11
import Derived.Test.YtcoclopllbfjcaaGreatDoorA9
import Derived.Test.YtcoclopllbfjcaaGreatDoorA10
import Derived.Test.YtcoclopllbfjcaaGreatDoorA6
import Derived.Test.YtcoclopllbfjcaaGreatDoorA14
import Derived.Test.YtcoclopllbfjcaaGreatDoorA15
import Derived.Test.YtcoclopllbfjcaaGreatDoorA7
import Derived.Test.YtcoclopllbfjcaaGreatDoorA13
import Derived.Test.YtcoclopllbfjcaaGreatDoorA5

/- Powers in numbers. -/
namespace Go.Proofs.YtcoclopllbfjcaaGreatDoor
set_option linter.unusedVariables false
set_option linter.unusedSimpArgs false
open Go.RowKit Go.Fl64

/-- a number to the n -/
def pw (t : Bool × Nat × Int) (n : Nat) : Bool × Nat × Int := if t.2.1 = 0 then (false, if n = 0 then 1 else 0, 0) else (t.1 && n % 2 == 1, t.2.1 ^ n, t.2.2 * n)
theorem pow_odd {x : Nat} (h : x % 2 = 1) (n : Nat) : x ^ n % 2 = 1 := by rw [Nat.pow_mod, h, Nat.one_pow]
theorem pw_mul {t : Bool × Nat × Int} (ho : t.2.1 ≠ 0 → t.2.1 % 2 = 1) (a b : Nat) : tM (pw t a) (pw t b) = pw t (a + b) := by
  unfold pw tM
  by_cases h0 : t.2.1 = 0
  · simp only [if_pos h0]
    by_cases ha : a = 0 <;> by_cases hb : b = 0 <;> simp [ha, hb, cn, tz_odd]
  · simp only [if_neg h0]
    rw [← Nat.pow_add, cn_odd (pow_odd (ho h0) _)]
    have h1 : (!((t.1 && a % 2 == 1) == (t.1 && b % 2 == 1))) = (t.1 && (a + b) % 2 == 1) := by
      cases t.1
      · rfl
      · rcases Nat.mod_two_eq_zero_or_one a with h | h <;> rcases Nat.mod_two_eq_zero_or_one b with h' | h' <;> rw [h, h', Nat.add_mod, h, h'] <;> rfl
    have h2 : t.2.2 * (a : Int) + t.2.2 * (b : Int) = t.2.2 * ((a + b : Nat) : Int) := by rw [← Int.mul_add]; rfl
    rw [h1, h2]
theorem pw_zero (t : Bool × Nat × Int) : pw t 0 = (false, 1, 0) := by
  unfold pw
  by_cases h0 : t.2.1 = 0 <;> simp [h0]
theorem pw_one {t : Bool × Nat × Int} (h : t.2.1 = 0 → t = (false, 0, 0)) : pw t 1 = t := by
  unfold pw
  by_cases h0 : t.2.1 = 0
  · rw [if_pos h0, h h0]; rfl
  · rw [if_neg h0]; simp
theorem pw_ltk {x n k : Nat} (h : x < 9007199254740992) (hp : 0 < n) (hk : 53 * n ≤ 32 * k) : x ^ n < B ^ k := by
  have h1 : x ^ n < (2 ^ 53) ^ n := Nat.pow_lt_pow_left (by omega) (by omega)
  refine Nat.lt_of_lt_of_le h1 ?_
  rw [← Nat.pow_mul, B_two, ← Nat.pow_mul]
  exact Nat.pow_le_pow_right (by decide) hk
theorem dlen_one1 : dlen 1 ≤ 1 := (dlen_le 1 1).2 (by decide)
theorem pw_ltd {x n k : Nat} (h : x < 9007199254740992) (hp : 0 < n) (hk : 53 * n ≤ 32 * k) : dlen (x ^ n) ≤ k := (dlen_le _ _).2 (pw_ltk h hp hk)
theorem pw_lt {x n : Nat} (h : x < 9007199254740992) (hn : n ≤ 1024) : dlen (x ^ n) ≤ 1696 := by
  rcases Nat.eq_zero_or_pos n with rfl | hp
  · rw [Nat.pow_zero]; exact Nat.le_trans dlen_one1 (by decide)
  · exact pw_ltd h hp (by omega)
theorem ok_mk {s : Bool} {x : Nat} {e : Int} (ho : x % 2 = 1) (hd : dlen x ≤ 2048) (h1 : -65536 ≤ e) (h2 : e ≤ 65536) : Ok (s, x, e) := by
  unfold Ok okN
  have hx : x ≠ 0 := by omega
  rw [if_neg (fun e0 => hx (dlen_eq_zero.1 e0))]
  have g1 : (dg x (dlen x - 1) != 0) = true := by simp; exact dg_top hx
  have g2 : (dg x 0 % 2 == 1) = true := by
    have : dg x 0 % 2 = 1 := by
      unfold dg
      simp only [Nat.pow_zero, Nat.div_one]
      unfold B
      omega
    simp [this]
  show (decide (dlen x ≤ 2048) && (dg x (dlen x - 1) != 0) && (dg x 0 % 2 == 1) && decide (-65536 ≤ e) && decide (e ≤ 65536)) = true
  rw [g1, g2]
  simp [hd, h1, h2]
theorem pw_ok {s : Bool} {x n : Nat} (ho : x ≠ 0 → x % 2 = 1) (h : x < 9007199254740992) (hn : n ≤ 1024) : Ok (pw (s, x, 0) n) := by
  unfold pw
  by_cases h0 : x = 0
  · rw [if_pos h0]
    by_cases hn0 : n = 0
    · rw [if_pos hn0]; exact ok_mk rfl (Nat.le_trans dlen_one1 (by decide)) (by decide) (by decide)
    · rw [if_neg hn0]; unfold Ok; rw [dlen_zero]; rfl
  · rw [if_neg h0]
    exact ok_mk (pow_odd (ho h0) n) (Nat.le_trans (pw_lt h hn) (by decide)) (by simp) (by simp)
end Go.Proofs.YtcoclopllbfjcaaGreatDoor
/- The program's powers of floats, rounded. -/
namespace Go.Proofs.YtcoclopllbfjcaaGreatDoor
set_option linter.unusedVariables false
set_option linter.unusedSimpArgs false
open Go.RowKit Go.Fl64

set_option maxRecDepth 200000 in
theorem spower_0 (a : Nat) (m : Int) (M E : Int) (s fi : Bool) (w : World)
    (kS : Calls Tryz.prog 98 #[.float .f64 a] w fun r w' => r = .returned (.tuple #[.int .u64 M, .int .i64 E, .bool s, .bool fi]) ∧ ∃ n, w' = w.drewN n) :
    Calls Tryz.prog 55 #[.float .f64 a, .int .i64 0, .int .i64 m] w fun r w' => r = .returned (.float .f64 4607182418800017408) ∧ Below w.heap.size w w' := by
  have k := kS
  clear kS
  go_enter Tryz.func55, Tryz.ntmps55
  go_wp2_with fail
  refine k.mono ?_
  rintro r w1 ⟨rfl, d, rfl⟩
  clear k
  go_wp2
  go_ret
  exact ⟨rfl, below_drewN (Below.refl _ _) _⟩
set_option maxRecDepth 200000 in
theorem spower_i (a : Nat) (n m : Int) (M E : Int) (s : Bool) (w : World) (hn : (n == 0) = false)
    (kS : Calls Tryz.prog 98 #[.float .f64 a] w fun r w' => r = .returned (.tuple #[.int .u64 M, .int .i64 E, .bool s, .bool false]) ∧ ∃ n, w' = w.drewN n) :
    Calls Tryz.prog 55 #[.float .f64 a, .int .i64 n, .int .i64 m] w fun r w' => r = .returned (.float .f64 a) ∧ Below w.heap.size w w' := by
  have k := kS
  clear kS
  go_enter Tryz.func55, Tryz.ntmps55
  go_wp2_with fail
  refine k.mono ?_
  rintro r w1 ⟨rfl, d, rfl⟩
  clear k
  go_wp2
  go_ret
  exact ⟨rfl, below_drewN (Below.refl _ _) _⟩

set_option maxHeartbeats 4000000 in
set_option maxRecDepth 200000 in
theorem spower_1 (a n M F : Nat) (m E K d0 d1 : Int) (s : Bool) (t p q : Bool × Nat × Int) (w : World) (hn0 : ((n : Int) == 0) = false) (hM : M < 18446744073709551616)
    (hd0 : (M : Int) % 4294967296 = d0) (hd1 : (M : Int) / 4294967296 = d1) (hE1 : -4000000 ≤ E) (hE2 : E ≤ 4000000) (hn : n ≤ 1024) (hK : max (-65536) (min (E * n) 65536) = K) (hEn : IntKind.i64.wrap (E * n) = E * n)
    (kS : Calls Tryz.prog 98 #[.float .f64 a] w fun r w' => r = .returned (.tuple #[.int .u64 M, .int .i64 E, .bool s, .bool true]) ∧ ∃ n, w' = w.drewN n)
    (kK : ∀ W g, Below w.heap.size w W → W.heap[g]? = some (.cells #[.int .u32 d0, .int .u32 d1] 85 (0, 0)) → Calls Tryz.prog 99 #[.bool s, .slice (some ⟨g, 0, none⟩) 2 2, .int .i64 0] W fun r w' => OutN8 W t r w')
    (kM : ∀ W X, Below w.heap.size w W → PN W X t → Calls Tryz.prog 101 #[X, .int .i64 n] W fun r w' => OutA W p r w')
    (kH : ∀ W X, Below w.heap.size w W → PN W X p → Calls Tryz.prog 100 #[X, .int .i64 K] W fun r w' => OutN8 W q r w')
    (kR : ∀ W X, Below w.heap.size w W → PN W X q → Calls Tryz.prog 102 #[X, .int .i64 m] W fun r w' => r = .returned (.tuple #[.float .f64 F, .int .i64 0]) ∧ Below W.heap.size W w') :
    Calls Tryz.prog 55 #[.float .f64 a, .int .i64 n, .int .i64 m] w fun r w' => r = .returned (.float .f64 F) ∧ Below w.heap.size w w' := by
  have k := kS
  clear kS
  go_enter Tryz.func55, Tryz.ntmps55
  go_wp2_with fail
  refine k.mono ?_
  rintro r w1 ⟨rfl, d, hd⟩
  have HB1 : Hid (Below w.heap.size w w1) := by rw [hd]; exact below_drewN (Below.refl _ _) _
  clear k hd
  obtain ⟨W, hW⟩ : ∃ W, W = w1.alloc (.cells #[.int .u32 d0, .int .u32 d1] 85) := ⟨_, rfl⟩
  have HBW : Hid (Below w.heap.size w W) := by rw [hW]; exact HB1.out.alloc HB1.out.size _
  have k1 := kK W w1.heap.size HBW.out (by rw [hW]; exact heap_alloc_new _ _)
  clear kK
  go_wp2_with fail
  rw [← hW]
  clear hW
  refine k1.mono ?_
  rintro r w2 ⟨s2, ao2, m2, cap2, e2, rfl, hp2, hb2⟩
  have HB2 : Hid (Below w.heap.size w w2) := HBW.out.trans (hb2.mono HBW.out.size)
  clear k1 hb2 HBW HB1
  obtain ⟨V, hV⟩ : ∃ V, V = w2.alloc (.cells #[.bool s2, .slice ao2 m2 cap2, .int .i64 e2] 96) := ⟨_, rfl⟩
  have HBV : Hid (Below w.heap.size w V) := by rw [hV]; exact HB2.out.alloc HB2.out.size _
  obtain ⟨⟨a0, a1, a2⟩, -⟩ := box_cells (w := V) (g := w2.heap.size) (by rw [hV]; exact heap_alloc_new _ _)
  have k2 := kM V _ HBV.out (hp2.later (by rw [hV]; exact (Below.refl _ _).alloc (Nat.le_refl _) _))
  clear kM hp2 HB2
  go_wp2_with fail
  rw [← hV]
  clear hV
  refine k2.mono ?_
  rintro r w3 ⟨s3, ao3, m3, cap3, e3, rfl, hp3, hb3⟩
  have HB3 : Hid (Below w.heap.size w w3) := HBV.out.trans (hb3.mono HBV.out.size)
  have k3 := kH w3 _ HB3.out hp3
  clear k2 kH hp3 hb3 HBV a0 a1 a2
  go_wp2_with fail
  refine k3.mono ?_
  rintro r w4 ⟨s4, ao4, m4, cap4, e4, rfl, hp4, hb4⟩
  have HB4 : Hid (Below w.heap.size w w4) := HB3.out.trans (hb4.mono HB3.out.size)
  obtain ⟨U, hU⟩ : ∃ U, U = w4.alloc (.cells #[.bool s4, .slice ao4 m4 cap4, .int .i64 e4] 96) := ⟨_, rfl⟩
  have HBU : Hid (Below w.heap.size w U) := by rw [hU]; exact HB4.out.alloc HB4.out.size _
  obtain ⟨⟨a0, a1, a2⟩, -⟩ := box_cells (w := U) (g := w4.heap.size) (by rw [hU]; exact heap_alloc_new _ _)
  have k4 := kR U _ HBU.out (hp4.later (by rw [hU]; exact (Below.refl _ _).alloc (Nat.le_refl _) _))
  clear k3 kR hp4 hb4 HB4 HB3
  go_wp2_with fail
  rw [← hU]
  clear hU
  refine k4.mono ?_
  rintro r w5 ⟨rfl, hb5⟩
  have HB5 : Hid (Below w.heap.size w w5) := HBU.out.trans (hb5.mono HBU.out.size)
  clear k4 hb5
  go_wp2_with fail
  go_ret
  exact ⟨rfl, HB5.out⟩
end Go.Proofs.YtcoclopllbfjcaaGreatDoor
/- The program's powers of floats, joined. -/
namespace Go.Proofs.YtcoclopllbfjcaaGreatDoor
set_option linter.unusedVariables false
set_option linter.unusedSimpArgs false
open Go.RowKit Go.Fl64

theorem sM_odd {a m : Nat} (ha : a < 18446744073709551616) (hf : mag a < 9218868437227405312) (hm : Ie.sM a = (m : Int)) (h : m ≠ 0) : m % 2 = 1 ∧ m < 9007199254740992 := by
  unfold Ie.sM at hm
  rw [if_neg (by omega)] at hm
  by_cases h0 : mag a = 0
  · rw [if_pos h0] at hm; omega
  · rw [if_neg h0] at hm
    have hb := Ie.mant_bound a
    have hne := Ie.mant_ne h0
    have hct : Lib.ctz 64 (Ie.mant a) = tz (Ie.mant a) := tz_ctz hne (by omega)
    rw [hct] at hm
    have e1 : m = Ie.mant a / 2 ^ tz (Ie.mant a) := by
      have : ((Ie.mant a / 2 ^ tz (Ie.mant a) : Nat) : Int) = (m : Int) := by rw [← hm]; simp
      omega
    obtain ⟨h1, h2⟩ := tz_spec _ (Ie.mant a) (Nat.le_refl _) hne
    rw [← e1] at h2
    refine ⟨h2, ?_⟩
    have := Nat.div_le_self (Ie.mant a) (2 ^ tz (Ie.mant a))
    omega
theorem tfF_big {s : Bool} {x : Nat} {e e' m : Int} (h0 : x ≠ 0) (h1 : 1024 < (bl x : Int) + e) (h2 : 1024 < (bl x : Int) + e') (hm : 1 ≤ m ∧ m ≤ 3) : tfF s true x e m = tfF s true x e' m := by
  have hw : wyN s m = 0 ∨ wyN s m = 1 ∨ wyN s m = 2 := by unfold wyN; split <;> (try split) <;> simp
  rw [tf_bdy hm, tf_bdy hm, bdy_big h0 h1 hw, bdy_big h0 h2 hw]
theorem tfF_tiny {s : Bool} {x : Nat} {e e' m : Int} (h0 : x ≠ 0) (h1 : (bl x : Int) + e < -1075) (h2 : (bl x : Int) + e' < -1075) (hm : 1 ≤ m ∧ m ≤ 3) : tfF s true x e m = tfF s true x e' m := by
  have hw : wyN s m = 0 ∨ wyN s m = 1 ∨ wyN s m = 2 := by unfold wyN; split <;> (try split) <;> simp
  rw [tf_bdy hm, tf_bdy hm, bdy_tiny h0 h1 hw, bdy_tiny h0 h2 hw]
theorem tfF_nought {s : Bool} {e m : Int} (hm : 1 ≤ m ∧ m ≤ 3) : tfF s true 0 e m = sig s 0 := by
  rw [tf_bdy hm]; unfold bdy; rw [if_pos rfl]

/-- the power of a float, rounded -/
def pwF (a n : Nat) (m : Int) : Nat := if n = 0 then 4607182418800017408 else if fin a then toD (pw (tF a) n) m else a
theorem pw_clamp {s : Bool} {x n : Nat} {E K m : Int} (ho : x ≠ 0 → x % 2 = 1) (hx : x < 9007199254740992) (hn1 : 1 ≤ n) (hn : n ≤ 1024) (hK : max (-65536) (min (E * n) 65536) = K) (hm : 1 ≤ m ∧ m ≤ 3) :
    tfF (tSh (pw (cn s x 0) n) K).1 true (tSh (pw (cn s x 0) n) K).2.1 (tSh (pw (cn s x 0) n) K).2.2 m = toD (pw (cn s x E) n) m := by
  by_cases h0 : x = 0
  · subst h0
    have e1 : pw (cn s 0 0) n = (false, 0, 0) := by unfold pw cn; simp; omega
    have e2 : pw (cn s 0 E) n = (false, 0, 0) := by unfold pw cn; simp; omega
    rw [e1, e2]
    show tfF false true 0 0 m = 0
    rw [tfF_nought hm]; rfl
  · rw [cn_odd (ho h0), cn_odd (ho h0)]
    have hp : x ^ n ≠ 0 := by have := pow_odd (ho h0) n; omega
    unfold pw toD tSh
    simp only [if_neg h0, if_neg hp]
    rw [show (0 : Int) * (n : Int) + K = K by omega]
    have hb := pw_lt hx hn
    have hb2 := bl_le_dlen (x ^ n)
    have hb3 := bl_ne hp
    by_cases hg : 65536 < E * n
    · exact tfF_big hp (by omega) (by omega) hm
    · by_cases hl : E * n < -65536
      · exact tfF_tiny hp (by omega) (by omega) hm
      · rw [show K = E * n by omega]
theorem spower {a n : Nat} {m : Int} {w : World} (ha : a < 18446744073709551616) (hn : n ≤ 1024) (hm : 1 ≤ m ∧ m ≤ 3) (hT : Tab32 w) (hJ : Ie.Tab w) :
    Calls Tryz.prog 55 #[.float .f64 a, .int .i64 n, .int .i64 m] w fun r w' => r = .returned (.float .f64 (pwF a n m)) ∧ Below w.heap.size w w' := by
  have kS := Ie.c22 a ha w hJ
  unfold pwF
  by_cases h0 : n = 0
  · subst h0
    rw [if_pos rfl]
    exact spower_0 a m _ _ _ _ w kS
  · rw [if_neg h0]
    have hn0 : ((n : Int) == 0) = false := by simp; omega
    by_cases hf : mag a < 9218868437227405312
    · rw [show fin a = true by unfold fin; simp [hf], if_pos rfl]
      obtain ⟨x, hx, hx64⟩ := sM_lt a ha
      have hso : Ie.sO a = true := by unfold Ie.sO; rw [if_neg (by omega)]
      have hsn : Ie.sN a = neg a := by unfold Ie.sN; rw [if_neg (by omega)]
      rw [hx, hso, hsn] at kS
      have ho : x ≠ 0 → x % 2 = 1 := fun h => (sM_odd ha hf hx h).1
      have hx53 : x < 9007199254740992 := by
        by_cases h : x = 0
        · omega
        · exact (sM_odd ha hf hx h).2
      obtain ⟨hE1, hE2⟩ := sE_le a
      obtain ⟨K, hK⟩ : ∃ K, max (-65536) (min (Ie.sE a * n) 65536) = K := ⟨_, rfl⟩
      have hT1 : cn (neg a) x (Ie.sE a) = tF a := cn_parts a x ha hf hx
      have hcn : cn (neg a) x 0 = (if x = 0 then (false, 0, 0) else (neg a, x, 0)) := by
        by_cases h : x = 0
        · rw [h]; rfl
        · rw [if_neg h, cn_odd (ho h)]
      have hok : ∀ k, k ≤ 1024 → Ok (pw (cn (neg a) x 0) k) := by
        intro k hk
        rw [hcn]
        by_cases h : x = 0
        · rw [if_pos h]; exact pw_ok (fun h => absurd rfl h) (by omega) hk
        · rw [if_neg h]; exact pw_ok ho hx53 hk
      have hodd : (cn (neg a) x 0).2.1 ≠ 0 → (cn (neg a) x 0).2.1 % 2 = 1 := by
        rw [hcn]
        by_cases h : x = 0
        · rw [if_pos h]; intro h; exact absurd rfl h
        · rw [if_neg h]; exact ho
      have hz : (cn (neg a) x 0).2.1 = 0 → cn (neg a) x 0 = (false, 0, 0) := by
        rw [hcn]
        by_cases h : x = 0
        · rw [if_pos h]; intro _; rfl
        · rw [if_neg h]; intro h'; exact absurd h' h
      have h22 : (pw (cn (neg a) x 0) n).2.2 = 0 := by
        rw [hcn]; unfold pw
        by_cases h : x = 0
        · rw [if_pos h]; rfl
        · rw [if_neg h]; simp [h]
      rw [← hT1, ← pw_clamp (s := neg a) ho hx53 (by omega) hn hK hm]
      have hbE : -4096000000 ≤ Ie.sE a * n ∧ Ie.sE a * n ≤ 4096000000 := by
        have h1 : (n : Int) ≤ 1024 := by omega
        have h2 : (0 : Int) ≤ n := by omega
        constructor
        · have := Int.mul_le_mul_of_nonneg_right hE1 h2; omega
        · have := Int.mul_le_mul_of_nonneg_right hE2 h2; omega
      refine spower_1 a n x _ m (Ie.sE a) K _ _ (neg a) (cn (neg a) x 0) (pw (cn (neg a) x 0) n) (tSh (pw (cn (neg a) x 0) n) K) w hn0 hx64 rfl rfl hE1 hE2 hn hK (by rw [IntKind.wrap_i64]; omega) kS ?_ ?_ ?_ ?_
      · intro W g hW hg
        have hcell : ∀ i, i < 2 → W.cell? ⟨g, 0 + i, none⟩ = some (.int .u32 (dg x i : Nat)) := by
          intro i hi
          rcases (show i = 0 ∨ i = 1 by omega) with rfl | rfl
          · rw [show (dg x 0 : Nat) = x % 4294967296 by unfold dg B; simp]
            simp [World.cell?, hg]
          · rw [show (dg x 1 : Nat) = x / 4294967296 by unfold dg B; rw [Nat.pow_one, Nat.mod_eq_of_lt (by omega)]]
            simp [World.cell?, hg]
        have hR : okR (neg a) x 0 = true := by
          by_cases h : x = 0
          · unfold okR; rw [if_pos h]
          · exact okR_odd (ho h) (by have := hok 1 (by omega); rw [pw_one hz, hcn, if_neg h] at this; exact this)
        have key : Calls Tryz.prog 99 #[.bool (neg a), .slice (some ⟨g, 0, none⟩) 2 2, .int .i64 0] W fun r w' => Mk25 W w' (neg a) x 0 r ∧ Below W.heap.size W w' := by
          by_cases h : x = 0
          · subst h
            exact c15_0 (neg a) (some ⟨g, 0, none⟩) 2 2 0 W ⟨g, 0, fun _ => rfl, hcell⟩ (by omega) (by omega)
          · exact c15_1 (neg a) g 0 2 2 x 0 W hcell ((dlen_le 2 x).2 (by unfold B; omega)) (by omega) (by omega) (by omega) h (by omega) (hT.later hW)
        refine key.mono ?_
        rintro r w' ⟨⟨-, A, rfl, hN⟩ | ⟨h, -⟩, hb⟩
        · have hp := hN.pn
          obtain ⟨s, ao, n, cap, e, rfl⟩ := hp.shape
          exact ⟨s, ao, n, cap, e, rfl, hp, hb⟩
        · rw [hR] at h; cases h
      · intro W X hW hX
        obtain ⟨s, ao, k, cap, e, rfl⟩ := hX.shape
        refine smult_1 (cn (neg a) x 0) (pw (cn (neg a) x 0)) n (bl n) s ao k cap e W hn rfl ((bl_le _ _).2 (by omega)) (by rw [pw_one hz]; exact hX) ?_ ?_ ?_
        · intro V hV
          refine (c12 (n := 1) ((hT.later hW).later hV) (by omega)).mono ?_
          rintro r w' ⟨A, rfl, hN, hb⟩
          have hp := hN.pn
          obtain ⟨s, ao, n, cap, e, rfl⟩ := hp.shape
          rw [show (decide ((1 : Int) < 0)) = false from rfl, show Int.natAbs 1 = 1 from rfl, cn_odd rfl] at hp
          rw [pw_zero]
          exact ⟨s, ao, n, cap, e, rfl, hp, hb⟩
        · intro V X Y i j hV hX hY hij
          have ho1 := hok (i + j) (by omega)
          rw [← pw_mul hodd] at ho1 ⊢
          refine (mul_op (hok i (by omega)) (hok j (by omega)) (by rw [okR_cn]; exact ho1) V X Y ((hT.later hW).later hV) hX hY).mono ?_
          rintro r w' ⟨s, ao, n, cap, e, rfl, hp, hb⟩
          exact ⟨s, ao, n, cap, e, rfl, hp, hb⟩
        · intro V
          exact c156 n (by omega) V
      · intro W X hW hX
        exact pshift (hok n hn) hX (by rw [h22]; omega) (by rw [h22]; omega)
      · intro W X hW hX
        exact pround (hT.later hW) (tSh_ok (hok n hn) (fun _ => by rw [h22]; omega)) hX hm
    · rw [show fin a = false by unfold fin; simp; omega]
      have hso : Ie.sO a = false := by unfold Ie.sO; rw [if_pos (by omega)]
      rw [hso] at kS
      exact spower_i a n m _ _ _ w hn0 kS
end Go.Proofs.YtcoclopllbfjcaaGreatDoor
/- The document's powers of ends, joined. -/
namespace Go.Proofs.YtcoclopllbfjcaaGreatDoor
set_option linter.unusedVariables false
set_option linter.unusedSimpArgs false
open Go.RowKit Go.Fl64

theorem fin_ofW {f : Nat} (hf : f < 18446744073709551616) (hn : isNaN f = false) (h1 : f ≠ 9218868437227405312) (h2 : f ≠ 18442240474082181120) : fin f = true := by
  unfold isNaN mag at hn
  unfold fin mag
  simp only [decide_eq_false_iff_not, decide_eq_true_eq] at hn ⊢
  omega
/-- a number that is not too long for the document's ways -/
def Wd (t : Bool × Nat × Int) : Prop := dlen t.2.1 ≤ 2048 ∧ -2000000 ≤ t.2.2 ∧ t.2.2 ≤ 2000000 ∧ (t.2.1 ≠ 0 → t.2.1 % 2 = 1)
theorem dtoW {t : Bool × Nat × Int} {m : Int} (o : Wd t) (hm : 1 ≤ m ∧ m ≤ 3) {W : World} {A : Value} (h : DN W A t) : Calls Tryz.prog 66 #[A, .int .i64 m] W fun r w' => r = .returned (.float .f64 (toD t m)) ∧ Below W.heap.size W w' := by
  obtain ⟨f1, f2, f3, f5⟩ := o
  obtain ⟨ao, cap, rfl, hA⟩ := h
  unfold toD
  by_cases h0 : t.2.1 = 0
  · rw [if_pos h0, dlen_eq_zero.2 h0]
    exact rto_0 _ _ _ _ _ _
  · rw [if_neg h0, tf_bdy hm]
    exact rto hA.at_ hA.le (f5 h0) (by omega) (by omega) (by omega) hm
theorem wd_zero : Wd (false, 0, 0) := ⟨by rw [dlen_zero]; omega, by decide, by decide, fun h => absurd rfl h⟩
theorem wd_one : Wd (false, 1, 0) := ⟨Nat.le_trans dlen_one1 (by decide), by decide, by decide, fun _ => rfl⟩
theorem pw_wd {a n : Nat} (hn : n ≤ 1024) : Wd (pw (tF a) n) := by
  unfold pw
  by_cases h0 : (tF a).2.1 = 0
  · rw [if_pos h0]
    by_cases hn0 : n = 0
    · rw [if_pos hn0]; exact wd_one
    · rw [if_neg hn0]; exact wd_zero
  · rw [if_neg h0]
    obtain ⟨-, -, -, -, f5⟩ := (tF_ok a).facts
    have hb : (tF a).2.1 < 9007199254740992 ∧ -1074 ≤ (tF a).2.2 ∧ (tF a).2.2 ≤ 1025 := by
      refine ⟨?_, ?_⟩
      · unfold tF cn
        split
        · decide
        · have := Ie.mant_bound a
          exact Nat.lt_of_le_of_lt (Nat.div_le_self _ _) (by omega)
      · rcases tF_fits a with h | ⟨h1, h2, -⟩
        · exact absurd h h0
        · exact ⟨h1, h2⟩
    have h2 : (0 : Int) ≤ n := by omega
    have h1 := Int.mul_le_mul_of_nonneg_right hb.2.1 h2
    have h3 := Int.mul_le_mul_of_nonneg_right hb.2.2 h2
    exact ⟨Nat.le_trans (pw_lt hb.1 hn) (by decide), by show -2000000 ≤ (tF a).2.2 * (n : Int); omega, by show (tF a).2.2 * (n : Int) ≤ 2000000; omega, fun _ => pow_odd (f5 h0) n⟩
end Go.Proofs.YtcoclopllbfjcaaGreatDoor
/- SpanPowers. -/
namespace Go.Proofs.YtcoclopllbfjcaaGreatDoor
set_option linter.unusedVariables false
set_option linter.unusedSimpArgs false
open Go.RowKit Go.Fl64
attribute [local go_sem] run_store_flt

/-- the interval whose powers are taken -/
def pcX (a b n : Nat) : Nat := if n % 2 = 0 then mgX a b else a
def pcY (a b n : Nat) : Nat := if n % 2 = 0 then mgY a b else b
def pwX (a b n : Nat) : Nat := pl (pwF (pcX a b n) n 1)
def pwY (a b n : Nat) : Nat := pl (pwF (pcY a b n) n 3)
/-- whether an interval and a power are such -/
def pOk (a b : Nat) (n : Int) : Bool := vI a b && decide (0 ≤ n) && decide (n ≤ 1024)
theorem pwF_lt {f n : Nat} {m : Int} (hf : f < 18446744073709551616) (hm : 1 ≤ m ∧ m ≤ 3) : pwF f n m < 18446744073709551616 := by
  unfold pwF
  split
  · omega
  · split
    · exact toD_lt hm
    · exact hf
theorem mg_facts {a b : Nat} (ha : a < 18446744073709551616) (hb : b < 18446744073709551616) (h : vI a b = true) :
    mgX a b < 18446744073709551616 ∧ mgY a b < 18446744073709551616 ∧ isNaN (mgX a b) = false ∧ isNaN (mgY a b) = false ∧ mgX a b ≠ 18442240474082181120 ∧ mgY a b ≠ 18442240474082181120 := by
  obtain ⟨na, nb⟩ := vI_nn h
  unfold vI at h
  simp only [Bool.and_eq_true, decide_eq_true_eq] at h
  obtain ⟨⟨⟨⟨h1, h2⟩, h3⟩, h4⟩, h5⟩ := h
  have ai : a ≠ 9218868437227405312 := by rintro rfl; revert h2; decide
  have bi : b ≠ 18442240474082181120 := by rintro rfl; revert h3; decide
  have pln : ∀ x, isNaN x = false → isNaN (pl x) = false := fun x hx => by unfold pl; split; decide; exact hx
  have pli : ∀ x, x ≠ 18442240474082181120 → pl x ≠ 18442240474082181120 := fun x hx => by unfold pl; split; decide; exact hx
  have ngi : ∀ x, x < 18446744073709551616 → x ≠ 9218868437227405312 → ngt x ≠ 18442240474082181120 := fun x hx h0 => by
    unfold ngt neg
    split
    · rename_i hh; simp only [decide_eq_true_eq] at hh; omega
    · omega
  unfold mgX mgY
  by_cases c1 : le 0 a = true
  · rw [if_pos c1, if_pos c1]
    exact ⟨ha, hb, na, nb, by rintro rfl; revert c1; decide, bi⟩
  · rw [if_neg c1, if_neg c1]
    by_cases c2 : le b 0 = true
    · rw [if_pos c2, if_pos c2]
      exact ⟨pl_lt (ngt_lt hb), pl_lt (ngt_lt ha), pln _ (by rw [ngt_nan8 hb]; exact nb), pln _ (by rw [ngt_nan8 ha]; exact na), pli _ (ngi b hb (by rintro rfl; revert c2; decide)), pli _ (ngi a ha ai)⟩
    · rw [if_neg c2, if_neg c2]
      have fm : fMax (ngt a) b = ngt a ∨ fMax (ngt a) b = b := by
        unfold fMax
        split
        · exact .inr rfl
        · split
          · exact .inl rfl
          · split
            · exact .inr rfl
            · exact .inl rfl
      refine ⟨by omega, ?_, by decide, ?_, by decide, ?_⟩
      · rcases fm with e | e <;> rw [e]
        · exact ngt_lt ha
        · exact hb
      · rcases fm with e | e <;> rw [e]
        · rw [ngt_nan8 ha]; exact na
        · exact nb
      · rcases fm with e | e <;> rw [e]
        · exact ngi a ha ai
        · exact bi
theorem pc_facts {a b n : Nat} (ha : a < 18446744073709551616) (hb : b < 18446744073709551616) (h : vI a b = true) :
    pcX a b n < 18446744073709551616 ∧ pcY a b n < 18446744073709551616 ∧ isNaN (pcX a b n) = false ∧ isNaN (pcY a b n) = false ∧ (pcX a b n = 18442240474082181120 → n % 2 = 1) ∧ (pcY a b n = 18442240474082181120 → n % 2 = 1) := by
  obtain ⟨h1, h2, h3, h4, h5, h6⟩ := mg_facts ha hb h
  obtain ⟨na, nb⟩ := vI_nn h
  unfold pcX pcY
  rcases Nat.mod_two_eq_zero_or_one n with hp | hp
  · rw [if_pos hp, if_pos hp]
    exact ⟨h1, h2, h3, h4, fun h => absurd h h5, fun h => absurd h h6⟩
  · rw [if_neg (by omega), if_neg (by omega)]
    exact ⟨ha, hb, na, nb, fun _ => hp, fun _ => hp⟩
/-- the program's Pow -/
theorem spow (a b : Nat) (n : Int) (w : World) (ha : a < 18446744073709551616) (hb : b < 18446744073709551616) (hT : Tab32 w) (hJ : Ie.Tab w) :
    Calls Tryz.prog 14 #[.agg #[.float .f64 a, .float .f64 b], .int .i64 n] w fun r w' => r = .returned (.tuple #[.agg #[.float .f64 (if pOk a b n then pwX a b n.toNat else 0), .float .f64 (if pOk a b n then pwY a b n.toNat else 0)], .int .i64 (if pOk a b n then 0 else 1)]) ∧ Below w.heap.size w w' := by
  by_cases hok : pOk a b n = true
  · rw [hok]
    unfold pOk at hok
    simp only [Bool.and_eq_true, decide_eq_true_eq] at hok
    obtain ⟨⟨hv, h0⟩, h1⟩ := hok
    obtain ⟨k, rfl⟩ : ∃ k : Nat, n = (k : Int) := ⟨n.toNat, by omega⟩
    rw [Int.toNat_natCast]
    obtain ⟨f1, f2, f3, f4, f5, f6⟩ := pc_facts (n := k) ha hb hv
    obtain ⟨na, nb⟩ := vI_nn hv
    refine spow_1 a b (pcX a b k) (pcY a b k) k (pwF (pcX a b k) k 1) (pwF (pcY a b k) k 3) (pwX a b k) (pwY a b k) w (by omega) (fun W => by have := svalid a b ha hb W; rw [hv] at this; exact this) ?_ ?_ ?_ ?_ ?_
    · intro hp W hW
      unfold pcX pcY
      rw [if_pos hp, if_pos hp]
      exact smag a b W ha hb na nb
    · intro hp
      unfold pcX pcY
      rw [if_neg (by omega), if_neg (by omega)]
      exact ⟨rfl, rfl⟩
    · exact fun W hW => spower f1 (by omega) (by omega) (hT.later hW) (Tab.later hJ hW)
    · exact fun W hW => spower f2 (by omega) (by omega) (hT.later hW) (Tab.later hJ hW)
    · exact fun W hW => sbetween _ _ W (pwF_lt f1 (by omega)) (pwF_lt f2 (by omega))
  · have hok' : pOk a b n = false := by cases h : pOk a b n <;> simp_all
    rw [hok']
    refine spow_no a b n (vI a b) w ?_ (fun W => svalid a b ha hb W)
    unfold pOk at hok'
    cases hv : vI a b
    · exact .inl rfl
    · rw [hv] at hok'
      by_cases h0 : n < 0
      · exact .inr (.inl h0)
      · refine .inr (.inr ?_)
        rw [decide_eq_true (show 0 ≤ n by omega)] at hok'
        simp at hok'
        omega
end Go.Proofs.YtcoclopllbfjcaaGreatDoor
/- SpanPoints: what holds a number alone. -/
namespace Go.Proofs.YtcoclopllbfjcaaGreatDoor
set_option linter.unusedVariables false
set_option linter.unusedSimpArgs false
open Go.RowKit Go.Fl64

theorem add_inf0 : FloatKind.f64.format.add 9218868437227405312 0 = some 9218868437227405312 ∧ FloatKind.f64.format.add 18442240474082181120 0 = some 18442240474082181120 := by decide +kernel
theorem run_add0 {P : Program} (w : World) (t : TypeId) (a : Nat) (h : a < 18446744073709551616) (hn : isNaN a = false) :
    (binOp .add t (.float .f64 a) (.float .f64 0)).run P w = .ok (.float .f64 (pl a)) w := by
  have key : FloatKind.f64.format.add a 0 = some (pl a) := by
    by_cases h1 : a = 9218868437227405312
    · subst h1; exact add_inf0.1
    · by_cases h2 : a = 18442240474082181120
      · subst h2; exact add_inf0.2
      · have hf := fin_ofW h hn h1 h2
        unfold fin at hf
        simp only [decide_eq_true_eq] at hf
        rw [add_nought a h hf]
        unfold pl
        by_cases h0 : mag a = 0
        · rw [if_pos h0]
          unfold mag at h0
          split
          · rfl
          · rw [show a = 0 by omega]
        · rw [if_neg h0]
          unfold mag at h0
          rw [if_neg (by omega)]
  exact run_float_arith w .add t .f64 a 0 _ key

set_option maxHeartbeats 4000000 in
set_option maxRecDepth 200000 in
theorem holds_1 (x y X Y : Nat) (s : Bool) (ao : Option Addr) (n cap : Nat) (e : Int) (w : World)
    (r1 : ∀ W, (binOp .add 22 (.float .f64 x) (.float .f64 0)).run Tryz.prog W = .ok (.float .f64 x) W)
    (r2 : ∀ W, (binOp .add 22 (.float .f64 X) (.float .f64 0)).run Tryz.prog W = .ok (.float .f64 x) W)
    (r3 : ∀ W, (binOp .add 22 (.float .f64 y) (.float .f64 0)).run Tryz.prog W = .ok (.float .f64 y) W)
    (r4 : ∀ W, (binOp .add 22 (.float .f64 Y) (.float .f64 0)).run Tryz.prog W = .ok (.float .f64 y) W)
    (k1 : ∀ W, Below w.heap.size w W → Calls Tryz.prog 66 #[.agg #[.bool s, .slice ao n cap, .int .i64 e], .int .i64 1] W fun r w' => r = .returned (.float .f64 X) ∧ Below W.heap.size W w')
    (k2 : ∀ W, Below w.heap.size w W → Calls Tryz.prog 66 #[.agg #[.bool s, .slice ao n cap, .int .i64 e], .int .i64 3] W fun r w' => r = .returned (.float .f64 Y) ∧ Below W.heap.size W w')
    (k3 : ∀ W, Calls Tryz.prog 49 #[.float .f64 x, .float .f64 x] W fun r w' => r = .returned (.bool true) ∧ Below W.heap.size W w')
    (k4 : ∀ W, Calls Tryz.prog 49 #[.float .f64 y, .float .f64 y] W fun r w' => r = .returned (.bool true) ∧ Below W.heap.size W w') :
    Calls Tryz.prog 25 #[.agg #[.float .f64 x, .float .f64 y], .agg #[.bool s, .slice ao n cap, .int .i64 e]] w fun r w' => r = .returned (.bool true) ∧ Below w.heap.size w w' := by
  obtain ⟨W, hW⟩ : ∃ W, W = (w.alloc (.cells #[.float .f64 x, .float .f64 y] 24)).alloc (.cells #[.bool s, .slice ao n cap, .int .i64 e] 45) := ⟨_, rfl⟩
  have hBW : Below w.heap.size w W := by rw [hW]; exact ((Below.refl _ _).alloc (Nat.le_refl _) _).alloc (by simp) _
  have hA : IvB W w.heap.size x y := by rw [hW]; exact (IvB.new _ _ _).box ((Below.refl _ _).alloc (Nat.le_refl _) _)
  have hB : W.heap[w.heap.size + 1]? = some (.cells #[.bool s, .slice ao n cap, .int .i64 e] 45 (0, 0)) := by
    have h := heap_alloc_new (w.alloc (.cells #[.float .f64 x, .float .f64 y] 24)) (.cells #[.bool s, .slice ao n cap, .int .i64 e] 45)
    rw [show (w.alloc (.cells #[.float .f64 x, .float .f64 y] 24)).heap.size = w.heap.size + 1 by simp] at h
    rw [hW]; exact h
  have HX : Hid (Below w.heap.size w W) := hBW
  have HK : Hid (∀ w', Below W.heap.size W w' → (w'.cell? ⟨w.heap.size, 0, none⟩ = some (.float .f64 x) ∧ w'.cell? ⟨w.heap.size, 1, none⟩ = some (.float .f64 y)) ∧ (w'.cell? ⟨w.heap.size + 1, 0, none⟩ = some (.bool s) ∧ w'.cell? ⟨w.heap.size + 1, 1, none⟩ = some (.slice ao n cap) ∧ w'.cell? ⟨w.heap.size + 1, 2, none⟩ = some (.int .i64 e))) := fun w' hb => ⟨⟨(hA.later hb).1, (hA.later hb).2.1⟩, (box_cells29 (box_later hB hb (lt_of_box hB))).1⟩
  have q1 : ∀ W', Below W.heap.size W W' → Calls Tryz.prog 66 #[.agg #[.bool s, .slice ao n cap, .int .i64 e], .int .i64 1] W' fun r w' => r = .returned (.float .f64 X) ∧ Below W.heap.size W w' := fun W' h => (k1 W' (hBW.trans (h.mono hBW.size))).mono fun r w' ⟨e1, e2⟩ => ⟨e1, h.trans (e2.mono h.size)⟩
  have q2 : ∀ W', Below W.heap.size W W' → Calls Tryz.prog 66 #[.agg #[.bool s, .slice ao n cap, .int .i64 e], .int .i64 3] W' fun r w' => r = .returned (.float .f64 Y) ∧ Below W.heap.size W w' := fun W' h => (k2 W' (hBW.trans (h.mono hBW.size))).mono fun r w' ⟨e1, e2⟩ => ⟨e1, h.trans (e2.mono h.size)⟩
  have q3 : ∀ W', Below W.heap.size W W' → Calls Tryz.prog 49 #[.float .f64 x, .float .f64 x] W' fun r w' => r = .returned (.bool true) ∧ Below W.heap.size W w' := fun W' h => (k3 W').mono fun r w' ⟨e1, e2⟩ => ⟨e1, h.trans (e2.mono h.size)⟩
  have q4 : ∀ W', Below W.heap.size W W' → Calls Tryz.prog 49 #[.float .f64 y, .float .f64 y] W' fun r w' => r = .returned (.bool true) ∧ Below W.heap.size W w' := fun W' h => (k4 W').mono fun r w' ⟨e1, e2⟩ => ⟨e1, h.trans (e2.mono h.size)⟩
  have hR : Below W.heap.size W W.drew := (Below.refl _ _).drew
  obtain ⟨⟨c0, c1⟩, c2, c3, c4⟩ := HK.out W (Below.refl _ _)
  clear k1 k2 k3 k4 hA hB hBW
  go_enter Tryz.func25, Tryz.ntmps25
  go_upto_region 1 with fail
  rw [← hW]
  clear hW
  go_region_held3 (fun w' => (w'.cell? ⟨w.heap.size, 0, none⟩ = some (.float .f64 x) ∧ w'.cell? ⟨w.heap.size, 1, none⟩ = some (.float .f64 y)) ∧ (w'.cell? ⟨w.heap.size + 1, 0, none⟩ = some (.bool s) ∧ w'.cell? ⟨w.heap.size + 1, 1, none⟩ = some (.slice ao n cap) ∧ w'.cell? ⟨w.heap.size + 1, 2, none⟩ = some (.int .i64 e))) (first | (with_reducible assumption) | exact HK.out _ hR | (refine HK.out _ ?_; with_reducible assumption))
    (first | (go_at_call 66; with_reducible refine (q1 _ (by first | (with_reducible assumption) | exact hR)).mono ?_; rintro r w5 ⟨rfl, hb5⟩)
           | (go_at_call 66; with_reducible refine (q2 _ (by first | (with_reducible assumption) | exact hR)).mono ?_; rintro r w6 ⟨rfl, hb6⟩)
           | (go_at_call 49; with_reducible refine (q3 _ (by first | (with_reducible assumption) | exact hR)).mono ?_; rintro r w7 ⟨rfl, hb7⟩)
           | (go_at_call 49; with_reducible refine (q4 _ (by first | (with_reducible assumption) | exact hR)).mono ?_; rintro r w8 ⟨rfl, hb8⟩))
  have HB : Hid (Below w.heap.size w w8) := HX.out.trans (hb8.mono HX.out.size)
  clear q1 q2 q3 q4 hR HK HX hb5 hb6 hb7 hb8 c0 c1 c2 c3 c4
  go_wp2_with fail
  go_ret
  exact ⟨rfl, HB.out⟩
end Go.Proofs.YtcoclopllbfjcaaGreatDoor
/- SpanPoints, walked. -/
namespace Go.Proofs.YtcoclopllbfjcaaGreatDoor
set_option linter.unusedVariables false
set_option linter.unusedSimpArgs false
open Go.RowKit Go.Fl64
attribute [local go_sem] run_store_flt

set_option maxRecDepth 200000 in
theorem points_no (f g fa ga : Nat) (p q : Bool) (w : World) (hpq : (p && q) = false) (ka : ∀ W, Calls Tryz.prog 21 #[.float .f64 f] W fun r w' => r = .returned (.float .f64 fa) ∧ w' = W) (kb : ∀ W, Calls Tryz.prog 21 #[.float .f64 g] W fun r w' => r = .returned (.float .f64 ga) ∧ w' = W)
    (o1 : (FloatKind.f64.format.order fa 9218868437227405311 == some Ordering.lt || FloatKind.f64.format.order fa 9218868437227405311 == some Ordering.eq) = p) (o2 : (FloatKind.f64.format.order ga 9218868437227405311 == some Ordering.lt || FloatKind.f64.format.order ga 9218868437227405311 == some Ordering.eq) = q)
    (kw : ∀ W, Below w.heap.size w W → Calls Tryz.prog 13 #[] W fun r w' => r = .returned (.bool true) ∧ Below W.heap.size W w') :
    Calls Tryz.prog 6 #[.float .f64 f, .float .f64 g] w fun r w' => r = .returned (.bool true) ∧ Below w.heap.size w w' := by
  have kk := kw w (Below.refl _ _)
  clear kw
  cases p
  · go_enter Tryz.func6, Tryz.ntmps6
    go_wp2_with (first | (go_at_call 21; refine (ka _).mono ?_; rintro r w1 ⟨rfl, rfl⟩))
    refine kk.mono ?_
    rintro r w2 ⟨rfl, hb⟩
    have HB : Hid (Below w1.heap.size w1 w2) := hb
    clear kk hb
    go_wp2
    go_ret
    exact ⟨rfl, HB.out⟩
  · cases q
    · go_enter Tryz.func6, Tryz.ntmps6
      go_wp2_with (first | (go_at_call 21; first | (with_reducible refine (ka _).mono ?_; rintro r w1 ⟨rfl, rfl⟩) | (with_reducible refine (kb _).mono ?_; rintro r w1 ⟨rfl, rfl⟩)))
      refine kk.mono ?_
      rintro r w2 ⟨rfl, hb⟩
      have HB : Hid (Below w1.heap.size w1 w2) := hb
      clear kk hb
      go_wp2
      go_ret
      exact ⟨rfl, HB.out⟩
    · cases hpq

set_option maxHeartbeats 16000000 in
set_option maxRecDepth 200000 in
theorem points_1 (f g fa ga a b x1 y1 x2 y2 x3 y3 x4 y4 : Nat) (z1 z2 : Int) (t u t1 t2 t3 t4 t5 : Bool × Nat × Int) (w : World) (ka : ∀ W, Calls Tryz.prog 21 #[.float .f64 f] W fun r w' => r = .returned (.float .f64 fa) ∧ w' = W) (kb : ∀ W, Calls Tryz.prog 21 #[.float .f64 g] W fun r w' => r = .returned (.float .f64 ga) ∧ w' = W)
    (o1 : (FloatKind.f64.format.order fa 9218868437227405311 == some Ordering.lt || FloatKind.f64.format.order fa 9218868437227405311 == some Ordering.eq) = true) (o2 : (FloatKind.f64.format.order ga 9218868437227405311 == some Ordering.lt || FloatKind.f64.format.order ga 9218868437227405311 == some Ordering.eq) = true)
    (k1 : ∀ W, Below w.heap.size w W → Calls Tryz.prog 22 #[.float .f64 f, .float .f64 f] W fun r w' => r = .returned (.tuple #[.agg #[.float .f64 a, .float .f64 a], .int .i64 z1]) ∧ Below W.heap.size W w')
    (k2 : ∀ W, Below w.heap.size w W → Calls Tryz.prog 22 #[.float .f64 g, .float .f64 g] W fun r w' => r = .returned (.tuple #[.agg #[.float .f64 b, .float .f64 b], .int .i64 z2]) ∧ Below W.heap.size W w')
    (k3 : ∀ W, Below w.heap.size w W → Calls Tryz.prog 23 #[.float .f64 f] W fun r w' => ∃ A, r = .returned A ∧ DN w' A t ∧ Below W.heap.size W w')
    (k4 : ∀ W, Below w.heap.size w W → Calls Tryz.prog 23 #[.float .f64 g] W fun r w' => ∃ A, r = .returned A ∧ DN w' A u ∧ Below W.heap.size W w')
    (k5 : ∀ W, Below w.heap.size w W → Calls Tryz.prog 20 #[.agg #[.float .f64 a, .float .f64 a], .agg #[.float .f64 b, .float .f64 b]] W fun r w' => r = .returned (.tuple #[.agg #[.float .f64 x1, .float .f64 y1], .int .i64 0]) ∧ Below W.heap.size W w')
    (k6 : ∀ W, Below w.heap.size w W → Calls Tryz.prog 24 #[.agg #[.float .f64 a, .float .f64 a], .agg #[.float .f64 b, .float .f64 b]] W fun r w' => r = .returned (.tuple #[.agg #[.float .f64 x2, .float .f64 y2], .int .i64 0]) ∧ Below W.heap.size W w')
    (k7 : ∀ W, Below w.heap.size w W → Calls Tryz.prog 8 #[.agg #[.float .f64 a, .float .f64 a], .agg #[.float .f64 b, .float .f64 b]] W fun r w' => r = .returned (.tuple #[.agg #[.float .f64 x3, .float .f64 y3], .int .i64 0]) ∧ Below W.heap.size W w')
    (k8 : ∀ W, Below w.heap.size w W → Calls Tryz.prog 14 #[.agg #[.float .f64 a, .float .f64 a], .int .i64 3] W fun r w' => r = .returned (.tuple #[.agg #[.float .f64 x4, .float .f64 y4], .int .i64 0]) ∧ Below W.heap.size W w')
    (m1 : ∀ W X Y, DN W X t → DN W Y u → Calls Tryz.prog 26 #[X, Y] W fun r w' => ∃ s ao n cap e, r = .returned (.agg #[.bool s, .slice ao n cap, .int .i64 e]) ∧ DN w' (.agg #[.bool s, .slice ao n cap, .int .i64 e]) t1 ∧ Below W.heap.size W w')
    (m2 : ∀ W X Y, DN W X t → DN W Y u → Calls Tryz.prog 27 #[X, Y] W fun r w' => ∃ s ao n cap e, r = .returned (.agg #[.bool s, .slice ao n cap, .int .i64 e]) ∧ DN w' (.agg #[.bool s, .slice ao n cap, .int .i64 e]) t2 ∧ Below W.heap.size W w')
    (m3 : ∀ W X Y, DN W X t → DN W Y u → Calls Tryz.prog 28 #[X, Y] W fun r w' => ∃ s ao n cap e, r = .returned (.agg #[.bool s, .slice ao n cap, .int .i64 e]) ∧ DN w' (.agg #[.bool s, .slice ao n cap, .int .i64 e]) t3 ∧ Below W.heap.size W w')
    (m4 : ∀ W X Y, DN W X t → DN W Y t → Calls Tryz.prog 28 #[X, Y] W fun r w' => ∃ s ao n cap e, r = .returned (.agg #[.bool s, .slice ao n cap, .int .i64 e]) ∧ DN w' (.agg #[.bool s, .slice ao n cap, .int .i64 e]) t4 ∧ Below W.heap.size W w')
    (m5 : ∀ W X Y, DN W X t → DN W Y t4 → Calls Tryz.prog 28 #[X, Y] W fun r w' => ∃ s ao n cap e, r = .returned (.agg #[.bool s, .slice ao n cap, .int .i64 e]) ∧ DN w' (.agg #[.bool s, .slice ao n cap, .int .i64 e]) t5 ∧ Below W.heap.size W w')
    (h1 : ∀ W X, DN W X t1 → Calls Tryz.prog 25 #[.agg #[.float .f64 x1, .float .f64 y1], X] W fun r w' => r = .returned (.bool true) ∧ Below W.heap.size W w')
    (h2 : ∀ W X, DN W X t2 → Calls Tryz.prog 25 #[.agg #[.float .f64 x2, .float .f64 y2], X] W fun r w' => r = .returned (.bool true) ∧ Below W.heap.size W w')
    (h3 : ∀ W X, DN W X t3 → Calls Tryz.prog 25 #[.agg #[.float .f64 x3, .float .f64 y3], X] W fun r w' => r = .returned (.bool true) ∧ Below W.heap.size W w')
    (h4 : ∀ W X, DN W X t5 → Calls Tryz.prog 25 #[.agg #[.float .f64 x4, .float .f64 y4], X] W fun r w' => r = .returned (.bool true) ∧ Below W.heap.size W w')
    (kw : ∀ W, Below w.heap.size w W → Calls Tryz.prog 13 #[] W fun r w' => r = .returned (.bool true) ∧ Below W.heap.size W w') :
    Calls Tryz.prog 6 #[.float .f64 f, .float .f64 g] w fun r w' => r = .returned (.bool true) ∧ Below w.heap.size w w' := by
  have Hk1 : Hid (∀ W, Below w.heap.size w W → Calls Tryz.prog 22 #[.float .f64 f, .float .f64 f] W fun r w' => r = .returned (.tuple #[.agg #[.float .f64 a, .float .f64 a], .int .i64 z1]) ∧ Below W.heap.size W w') := k1
  have Hk2 : Hid (∀ W, Below w.heap.size w W → Calls Tryz.prog 22 #[.float .f64 g, .float .f64 g] W fun r w' => r = .returned (.tuple #[.agg #[.float .f64 b, .float .f64 b], .int .i64 z2]) ∧ Below W.heap.size W w') := k2
  have Hk3 : Hid (∀ W, Below w.heap.size w W → Calls Tryz.prog 23 #[.float .f64 f] W fun r w' => ∃ A, r = .returned A ∧ DN w' A t ∧ Below W.heap.size W w') := k3
  have Hk4 : Hid (∀ W, Below w.heap.size w W → Calls Tryz.prog 23 #[.float .f64 g] W fun r w' => ∃ A, r = .returned A ∧ DN w' A u ∧ Below W.heap.size W w') := k4
  have Hk5 : Hid (∀ W, Below w.heap.size w W → Calls Tryz.prog 20 #[.agg #[.float .f64 a, .float .f64 a], .agg #[.float .f64 b, .float .f64 b]] W fun r w' => r = .returned (.tuple #[.agg #[.float .f64 x1, .float .f64 y1], .int .i64 0]) ∧ Below W.heap.size W w') := k5
  have Hk6 : Hid (∀ W, Below w.heap.size w W → Calls Tryz.prog 24 #[.agg #[.float .f64 a, .float .f64 a], .agg #[.float .f64 b, .float .f64 b]] W fun r w' => r = .returned (.tuple #[.agg #[.float .f64 x2, .float .f64 y2], .int .i64 0]) ∧ Below W.heap.size W w') := k6
  have Hk7 : Hid (∀ W, Below w.heap.size w W → Calls Tryz.prog 8 #[.agg #[.float .f64 a, .float .f64 a], .agg #[.float .f64 b, .float .f64 b]] W fun r w' => r = .returned (.tuple #[.agg #[.float .f64 x3, .float .f64 y3], .int .i64 0]) ∧ Below W.heap.size W w') := k7
  have Hk8 : Hid (∀ W, Below w.heap.size w W → Calls Tryz.prog 14 #[.agg #[.float .f64 a, .float .f64 a], .int .i64 3] W fun r w' => r = .returned (.tuple #[.agg #[.float .f64 x4, .float .f64 y4], .int .i64 0]) ∧ Below W.heap.size W w') := k8
  have Hm1 : Hid (∀ W X Y, DN W X t → DN W Y u → Calls Tryz.prog 26 #[X, Y] W fun r w' => ∃ s ao n cap e, r = .returned (.agg #[.bool s, .slice ao n cap, .int .i64 e]) ∧ DN w' (.agg #[.bool s, .slice ao n cap, .int .i64 e]) t1 ∧ Below W.heap.size W w') := m1
  have Hm2 : Hid (∀ W X Y, DN W X t → DN W Y u → Calls Tryz.prog 27 #[X, Y] W fun r w' => ∃ s ao n cap e, r = .returned (.agg #[.bool s, .slice ao n cap, .int .i64 e]) ∧ DN w' (.agg #[.bool s, .slice ao n cap, .int .i64 e]) t2 ∧ Below W.heap.size W w') := m2
  have Hm3 : Hid (∀ W X Y, DN W X t → DN W Y u → Calls Tryz.prog 28 #[X, Y] W fun r w' => ∃ s ao n cap e, r = .returned (.agg #[.bool s, .slice ao n cap, .int .i64 e]) ∧ DN w' (.agg #[.bool s, .slice ao n cap, .int .i64 e]) t3 ∧ Below W.heap.size W w') := m3
  have Hm4 : Hid (∀ W X Y, DN W X t → DN W Y t → Calls Tryz.prog 28 #[X, Y] W fun r w' => ∃ s ao n cap e, r = .returned (.agg #[.bool s, .slice ao n cap, .int .i64 e]) ∧ DN w' (.agg #[.bool s, .slice ao n cap, .int .i64 e]) t4 ∧ Below W.heap.size W w') := m4
  have Hm5 : Hid (∀ W X Y, DN W X t → DN W Y t4 → Calls Tryz.prog 28 #[X, Y] W fun r w' => ∃ s ao n cap e, r = .returned (.agg #[.bool s, .slice ao n cap, .int .i64 e]) ∧ DN w' (.agg #[.bool s, .slice ao n cap, .int .i64 e]) t5 ∧ Below W.heap.size W w') := m5
  have Hh1 : Hid (∀ W X, DN W X t1 → Calls Tryz.prog 25 #[.agg #[.float .f64 x1, .float .f64 y1], X] W fun r w' => r = .returned (.bool true) ∧ Below W.heap.size W w') := h1
  have Hh2 : Hid (∀ W X, DN W X t2 → Calls Tryz.prog 25 #[.agg #[.float .f64 x2, .float .f64 y2], X] W fun r w' => r = .returned (.bool true) ∧ Below W.heap.size W w') := h2
  have Hh3 : Hid (∀ W X, DN W X t3 → Calls Tryz.prog 25 #[.agg #[.float .f64 x3, .float .f64 y3], X] W fun r w' => r = .returned (.bool true) ∧ Below W.heap.size W w') := h3
  have Hh4 : Hid (∀ W X, DN W X t5 → Calls Tryz.prog 25 #[.agg #[.float .f64 x4, .float .f64 y4], X] W fun r w' => r = .returned (.bool true) ∧ Below W.heap.size W w') := h4
  have Hkw : Hid (∀ W, Below w.heap.size w W → Calls Tryz.prog 13 #[] W fun r w' => r = .returned (.bool true) ∧ Below W.heap.size W w') := kw
  clear k1 k2 k3 k4 k5 k6 k7 k8 m1 m2 m3 m4 m5 h1 h2 h3 h4 kw
  go_enter Tryz.func6, Tryz.ntmps6
  go_upto_region 3 with (first | (go_at_call 21; first | (with_reducible refine (ka _).mono ?_; rintro r v1 ⟨rfl, rfl⟩) | (with_reducible refine (kb _).mono ?_; rintro r v1 ⟨rfl, rfl⟩)))
  clear ka kb o1 o2
  have A0 : Hid (Below v1.heap.size v1 v1) := Below.refl _ _
  have kk := Hk1.out v1 A0.out
  clear Hk1
  go_wp2_with fail
  refine kk.mono ?_
  rintro r u1 ⟨rfl, hb⟩
  clear kk
  have A1 : Hid (Below v1.heap.size v1 u1) := A0.out.trans (hb.mono A0.out.size)
  clear hb A0
  obtain ⟨V1, hV⟩ : ∃ V, V = u1.alloc (.cells #[.float .f64 a, .float .f64 a] 24) := ⟨_, rfl⟩
  obtain ⟨g1, hg⟩ : ∃ g, g = u1.heap.size := ⟨_, rfl⟩
  have hc : Below u1.heap.size u1 V1 := by rw [hV]; exact (Below.refl _ _).alloc (Nat.le_refl _) _
  have I1 : Hid (IvB V1 g1 a a) := by rw [hV, hg]; exact IvB.new _ _ _
  have A2 : Hid (Below v1.heap.size v1 V1) := A1.out.trans (hc.mono A1.out.size)
  clear hc A1
  obtain ⟨i10, i11, -, -⟩ := IvB.facts I1.out
  have kk := Hk2.out V1 A2.out
  clear Hk2
  rw [hV] at i10 i11
  go_wp2_with fail
  rw [← hV, ← hg]
  clear hV hg
  clear i10 i11
  refine kk.mono ?_
  rintro r u2 ⟨rfl, hb⟩
  clear kk
  have A3 : Hid (Below v1.heap.size v1 u2) := A2.out.trans (hb.mono A2.out.size)
  replace I1 : Hid (IvB u2 g1 a a) := I1.out.box hb
  clear hb A2
  obtain ⟨V2, hV⟩ : ∃ V, V = u2.alloc (.cells #[.float .f64 b, .float .f64 b] 24) := ⟨_, rfl⟩
  obtain ⟨g2, hg⟩ : ∃ g, g = u2.heap.size := ⟨_, rfl⟩
  have hc : Below u2.heap.size u2 V2 := by rw [hV]; exact (Below.refl _ _).alloc (Nat.le_refl _) _
  have I2 : Hid (IvB V2 g2 b b) := by rw [hV, hg]; exact IvB.new _ _ _
  have A4 : Hid (Below v1.heap.size v1 V2) := A3.out.trans (hc.mono A3.out.size)
  replace I1 : Hid (IvB V2 g1 a a) := I1.out.box hc
  clear hc A3
  have kk := Hk3.out V2 A4.out
  clear Hk3
  go_wp2_with fail
  rw [← hV, ← hg]
  clear hV hg
  refine kk.mono ?_
  rintro r u3 ⟨X3, rfl, hd, hb⟩
  clear kk
  have A5 : Hid (Below v1.heap.size v1 u3) := A4.out.trans (hb.mono A4.out.size)
  replace I1 : Hid (IvB u3 g1 a a) := I1.out.box hb
  replace I2 : Hid (IvB u3 g2 b b) := I2.out.box hb
  clear hb A4
  have D3 : Hid (DN u3 X3 t) := hd
  clear hd
  have kk := Hk4.out u3 A5.out
  clear Hk4
  go_wp2_with fail
  refine kk.mono ?_
  rintro r u4 ⟨X4, rfl, hd, hb⟩
  clear kk
  have A6 : Hid (Below v1.heap.size v1 u4) := A5.out.trans (hb.mono A5.out.size)
  replace I1 : Hid (IvB u4 g1 a a) := I1.out.box hb
  replace I2 : Hid (IvB u4 g2 b b) := I2.out.box hb
  replace D3 : Hid (DN u4 X3 t) := D3.out.later hb
  clear hb A5
  have D4 : Hid (DN u4 X4 u) := hd
  clear hd
  have d3 := D3.out
  have d4 := D4.out
  obtain ⟨oa3, cp3, rfl, -⟩ := d3
  obtain ⟨oa4, cp4, rfl, -⟩ := d4
  obtain ⟨V4, hV⟩ : ∃ V, V = (u4.alloc (.cells #[.bool t.1, .slice oa3 (dlen t.2.1) cp3, .int .i64 t.2.2] 45)).alloc (.cells #[.bool u.1, .slice oa4 (dlen u.2.1) cp4, .int .i64 u.2.2] 45) := ⟨_, rfl⟩
  obtain ⟨g3, hg⟩ : ∃ g, g = u4.heap.size := ⟨_, rfl⟩
  have hc : Below u4.heap.size u4 V4 := by rw [hV]; exact ((Below.refl _ _).alloc (Nat.le_refl _) _).alloc (by simp) _
  have N3 : Hid (V4.heap[g3]? = some (.cells #[.bool t.1, .slice oa3 (dlen t.2.1) cp3, .int .i64 t.2.2] 45 (0, 0))) := by
    rw [hV, hg]; exact box_later (heap_alloc_new _ _) ((Below.refl _ _).alloc (Nat.le_refl _) _) (by simp)
  have N4 : Hid (V4.heap[g3 + 1]? = some (.cells #[.bool u.1, .slice oa4 (dlen u.2.1) cp4, .int .i64 u.2.2] 45 (0, 0))) := by
    have h := heap_alloc_new (u4.alloc (.cells #[.bool t.1, .slice oa3 (dlen t.2.1) cp3, .int .i64 t.2.2] 45)) (.cells #[.bool u.1, .slice oa4 (dlen u.2.1) cp4, .int .i64 u.2.2] 45)
    rw [show (u4.alloc (.cells #[.bool t.1, .slice oa3 (dlen t.2.1) cp3, .int .i64 t.2.2] 45)).heap.size = u4.heap.size + 1 by simp] at h
    rw [hV, hg]; exact h
  have A7 : Hid (Below v1.heap.size v1 V4) := A6.out.trans (hc.mono A6.out.size)
  replace I1 : Hid (IvB V4 g1 a a) := I1.out.box hc
  replace I2 : Hid (IvB V4 g2 b b) := I2.out.box hc
  replace D3 : Hid (DN V4 (.agg #[.bool t.1, .slice oa3 (dlen t.2.1) cp3, .int .i64 t.2.2]) t) := D3.out.later hc
  replace D4 : Hid (DN V4 (.agg #[.bool u.1, .slice oa4 (dlen u.2.1) cp4, .int .i64 u.2.2]) u) := D4.out.later hc
  clear hc A6
  obtain ⟨i10, i11, -, -⟩ := IvB.facts I1.out
  obtain ⟨i20, i21, -, -⟩ := IvB.facts I2.out
  have kk := Hk5.out V4 A7.out
  clear Hk5
  rw [hV] at i10 i11 i20 i21
  go_wp2_with fail
  rw [← hV, ← hg]
  clear hV hg
  clear i10 i11
  clear i20 i21
  refine kk.mono ?_
  rintro r u5 ⟨rfl, hb⟩
  clear kk
  have A8 : Hid (Below v1.heap.size v1 u5) := A7.out.trans (hb.mono A7.out.size)
  replace I1 : Hid (IvB u5 g1 a a) := I1.out.box hb
  replace I2 : Hid (IvB u5 g2 b b) := I2.out.box hb
  replace D3 : Hid (DN u5 (.agg #[.bool t.1, .slice oa3 (dlen t.2.1) cp3, .int .i64 t.2.2]) t) := D3.out.later hb
  replace D4 : Hid (DN u5 (.agg #[.bool u.1, .slice oa4 (dlen u.2.1) cp4, .int .i64 u.2.2]) u) := D4.out.later hb
  replace N3 : Hid (u5.heap[g3]? = some (.cells #[.bool t.1, .slice oa3 (dlen t.2.1) cp3, .int .i64 t.2.2] 45 (0, 0))) := box_later N3.out hb (lt_of_box N3.out)
  replace N4 : Hid (u5.heap[g3 + 1]? = some (.cells #[.bool u.1, .slice oa4 (dlen u.2.1) cp4, .int .i64 u.2.2] 45 (0, 0))) := box_later N4.out hb (lt_of_box N4.out)
  clear hb A7
  obtain ⟨V5, hV⟩ : ∃ V, V = u5.alloc (.cells #[.float .f64 x1, .float .f64 y1] 24) := ⟨_, rfl⟩
  obtain ⟨g5, hg⟩ : ∃ g, g = u5.heap.size := ⟨_, rfl⟩
  have hc : Below u5.heap.size u5 V5 := by rw [hV]; exact (Below.refl _ _).alloc (Nat.le_refl _) _
  have I5 : Hid (IvB V5 g5 x1 y1) := by rw [hV, hg]; exact IvB.new _ _ _
  have A9 : Hid (Below v1.heap.size v1 V5) := A8.out.trans (hc.mono A8.out.size)
  replace I1 : Hid (IvB V5 g1 a a) := I1.out.box hc
  replace I2 : Hid (IvB V5 g2 b b) := I2.out.box hc
  replace D3 : Hid (DN V5 (.agg #[.bool t.1, .slice oa3 (dlen t.2.1) cp3, .int .i64 t.2.2]) t) := D3.out.later hc
  replace D4 : Hid (DN V5 (.agg #[.bool u.1, .slice oa4 (dlen u.2.1) cp4, .int .i64 u.2.2]) u) := D4.out.later hc
  replace N3 : Hid (V5.heap[g3]? = some (.cells #[.bool t.1, .slice oa3 (dlen t.2.1) cp3, .int .i64 t.2.2] 45 (0, 0))) := box_later N3.out hc (lt_of_box N3.out)
  replace N4 : Hid (V5.heap[g3 + 1]? = some (.cells #[.bool u.1, .slice oa4 (dlen u.2.1) cp4, .int .i64 u.2.2] 45 (0, 0))) := box_later N4.out hc (lt_of_box N4.out)
  clear hc A8
  obtain ⟨i10, i11, -, -⟩ := IvB.facts I1.out
  obtain ⟨i20, i21, -, -⟩ := IvB.facts I2.out
  obtain ⟨i50, i51, -, -⟩ := IvB.facts I5.out
  have kk := Hk6.out V5 A9.out
  clear Hk6
  rw [hV] at i10 i11 i20 i21 i50 i51
  go_wp2_with fail
  rw [← hV, ← hg]
  clear hV hg
  clear i10 i11
  clear i20 i21
  clear i50 i51
  refine kk.mono ?_
  rintro r u6 ⟨rfl, hb⟩
  clear kk
  have A10 : Hid (Below v1.heap.size v1 u6) := A9.out.trans (hb.mono A9.out.size)
  replace I1 : Hid (IvB u6 g1 a a) := I1.out.box hb
  replace I2 : Hid (IvB u6 g2 b b) := I2.out.box hb
  replace D3 : Hid (DN u6 (.agg #[.bool t.1, .slice oa3 (dlen t.2.1) cp3, .int .i64 t.2.2]) t) := D3.out.later hb
  replace D4 : Hid (DN u6 (.agg #[.bool u.1, .slice oa4 (dlen u.2.1) cp4, .int .i64 u.2.2]) u) := D4.out.later hb
  replace N3 : Hid (u6.heap[g3]? = some (.cells #[.bool t.1, .slice oa3 (dlen t.2.1) cp3, .int .i64 t.2.2] 45 (0, 0))) := box_later N3.out hb (lt_of_box N3.out)
  replace N4 : Hid (u6.heap[g3 + 1]? = some (.cells #[.bool u.1, .slice oa4 (dlen u.2.1) cp4, .int .i64 u.2.2] 45 (0, 0))) := box_later N4.out hb (lt_of_box N4.out)
  replace I5 : Hid (IvB u6 g5 x1 y1) := I5.out.box hb
  clear hb A9
  obtain ⟨V6, hV⟩ : ∃ V, V = u6.alloc (.cells #[.float .f64 x2, .float .f64 y2] 24) := ⟨_, rfl⟩
  obtain ⟨g6, hg⟩ : ∃ g, g = u6.heap.size := ⟨_, rfl⟩
  have hc : Below u6.heap.size u6 V6 := by rw [hV]; exact (Below.refl _ _).alloc (Nat.le_refl _) _
  have I6 : Hid (IvB V6 g6 x2 y2) := by rw [hV, hg]; exact IvB.new _ _ _
  have A11 : Hid (Below v1.heap.size v1 V6) := A10.out.trans (hc.mono A10.out.size)
  replace I1 : Hid (IvB V6 g1 a a) := I1.out.box hc
  replace I2 : Hid (IvB V6 g2 b b) := I2.out.box hc
  replace D3 : Hid (DN V6 (.agg #[.bool t.1, .slice oa3 (dlen t.2.1) cp3, .int .i64 t.2.2]) t) := D3.out.later hc
  replace D4 : Hid (DN V6 (.agg #[.bool u.1, .slice oa4 (dlen u.2.1) cp4, .int .i64 u.2.2]) u) := D4.out.later hc
  replace N3 : Hid (V6.heap[g3]? = some (.cells #[.bool t.1, .slice oa3 (dlen t.2.1) cp3, .int .i64 t.2.2] 45 (0, 0))) := box_later N3.out hc (lt_of_box N3.out)
  replace N4 : Hid (V6.heap[g3 + 1]? = some (.cells #[.bool u.1, .slice oa4 (dlen u.2.1) cp4, .int .i64 u.2.2] 45 (0, 0))) := box_later N4.out hc (lt_of_box N4.out)
  replace I5 : Hid (IvB V6 g5 x1 y1) := I5.out.box hc
  clear hc A10
  obtain ⟨i10, i11, -, -⟩ := IvB.facts I1.out
  obtain ⟨i20, i21, -, -⟩ := IvB.facts I2.out
  obtain ⟨i50, i51, -, -⟩ := IvB.facts I5.out
  obtain ⟨i60, i61, -, -⟩ := IvB.facts I6.out
  have kk := Hk7.out V6 A11.out
  clear Hk7
  rw [hV] at i10 i11 i20 i21 i50 i51 i60 i61
  go_wp2_with fail
  rw [← hV, ← hg]
  clear hV hg
  clear i10 i11
  clear i20 i21
  clear i50 i51
  clear i60 i61
  refine kk.mono ?_
  rintro r u7 ⟨rfl, hb⟩
  clear kk
  have A12 : Hid (Below v1.heap.size v1 u7) := A11.out.trans (hb.mono A11.out.size)
  replace I1 : Hid (IvB u7 g1 a a) := I1.out.box hb
  replace I2 : Hid (IvB u7 g2 b b) := I2.out.box hb
  replace D3 : Hid (DN u7 (.agg #[.bool t.1, .slice oa3 (dlen t.2.1) cp3, .int .i64 t.2.2]) t) := D3.out.later hb
  replace D4 : Hid (DN u7 (.agg #[.bool u.1, .slice oa4 (dlen u.2.1) cp4, .int .i64 u.2.2]) u) := D4.out.later hb
  replace N3 : Hid (u7.heap[g3]? = some (.cells #[.bool t.1, .slice oa3 (dlen t.2.1) cp3, .int .i64 t.2.2] 45 (0, 0))) := box_later N3.out hb (lt_of_box N3.out)
  replace N4 : Hid (u7.heap[g3 + 1]? = some (.cells #[.bool u.1, .slice oa4 (dlen u.2.1) cp4, .int .i64 u.2.2] 45 (0, 0))) := box_later N4.out hb (lt_of_box N4.out)
  replace I5 : Hid (IvB u7 g5 x1 y1) := I5.out.box hb
  replace I6 : Hid (IvB u7 g6 x2 y2) := I6.out.box hb
  clear hb A11
  obtain ⟨V7, hV⟩ : ∃ V, V = u7.alloc (.cells #[.float .f64 x3, .float .f64 y3] 24) := ⟨_, rfl⟩
  obtain ⟨g7, hg⟩ : ∃ g, g = u7.heap.size := ⟨_, rfl⟩
  have hc : Below u7.heap.size u7 V7 := by rw [hV]; exact (Below.refl _ _).alloc (Nat.le_refl _) _
  have I7 : Hid (IvB V7 g7 x3 y3) := by rw [hV, hg]; exact IvB.new _ _ _
  have A13 : Hid (Below v1.heap.size v1 V7) := A12.out.trans (hc.mono A12.out.size)
  replace I1 : Hid (IvB V7 g1 a a) := I1.out.box hc
  replace I2 : Hid (IvB V7 g2 b b) := I2.out.box hc
  replace D3 : Hid (DN V7 (.agg #[.bool t.1, .slice oa3 (dlen t.2.1) cp3, .int .i64 t.2.2]) t) := D3.out.later hc
  replace D4 : Hid (DN V7 (.agg #[.bool u.1, .slice oa4 (dlen u.2.1) cp4, .int .i64 u.2.2]) u) := D4.out.later hc
  replace N3 : Hid (V7.heap[g3]? = some (.cells #[.bool t.1, .slice oa3 (dlen t.2.1) cp3, .int .i64 t.2.2] 45 (0, 0))) := box_later N3.out hc (lt_of_box N3.out)
  replace N4 : Hid (V7.heap[g3 + 1]? = some (.cells #[.bool u.1, .slice oa4 (dlen u.2.1) cp4, .int .i64 u.2.2] 45 (0, 0))) := box_later N4.out hc (lt_of_box N4.out)
  replace I5 : Hid (IvB V7 g5 x1 y1) := I5.out.box hc
  replace I6 : Hid (IvB V7 g6 x2 y2) := I6.out.box hc
  clear hc A12
  obtain ⟨i10, i11, -, -⟩ := IvB.facts I1.out
  obtain ⟨i20, i21, -, -⟩ := IvB.facts I2.out
  obtain ⟨i50, i51, -, -⟩ := IvB.facts I5.out
  obtain ⟨i60, i61, -, -⟩ := IvB.facts I6.out
  obtain ⟨i70, i71, -, -⟩ := IvB.facts I7.out
  have kk := Hk8.out V7 A13.out
  clear Hk8
  rw [hV] at i10 i11 i20 i21 i50 i51 i60 i61 i70 i71
  go_wp2_with fail
  rw [← hV, ← hg]
  clear hV hg
  clear i10 i11
  clear i20 i21
  clear i50 i51
  clear i60 i61
  clear i70 i71
  refine kk.mono ?_
  rintro r u8 ⟨rfl, hb⟩
  clear kk
  have A14 : Hid (Below v1.heap.size v1 u8) := A13.out.trans (hb.mono A13.out.size)
  replace I1 : Hid (IvB u8 g1 a a) := I1.out.box hb
  replace I2 : Hid (IvB u8 g2 b b) := I2.out.box hb
  replace D3 : Hid (DN u8 (.agg #[.bool t.1, .slice oa3 (dlen t.2.1) cp3, .int .i64 t.2.2]) t) := D3.out.later hb
  replace D4 : Hid (DN u8 (.agg #[.bool u.1, .slice oa4 (dlen u.2.1) cp4, .int .i64 u.2.2]) u) := D4.out.later hb
  replace N3 : Hid (u8.heap[g3]? = some (.cells #[.bool t.1, .slice oa3 (dlen t.2.1) cp3, .int .i64 t.2.2] 45 (0, 0))) := box_later N3.out hb (lt_of_box N3.out)
  replace N4 : Hid (u8.heap[g3 + 1]? = some (.cells #[.bool u.1, .slice oa4 (dlen u.2.1) cp4, .int .i64 u.2.2] 45 (0, 0))) := box_later N4.out hb (lt_of_box N4.out)
  replace I5 : Hid (IvB u8 g5 x1 y1) := I5.out.box hb
  replace I6 : Hid (IvB u8 g6 x2 y2) := I6.out.box hb
  replace I7 : Hid (IvB u8 g7 x3 y3) := I7.out.box hb
  clear hb A13
  obtain ⟨V8, hV⟩ : ∃ V, V = u8.alloc (.cells #[.float .f64 x4, .float .f64 y4] 24) := ⟨_, rfl⟩
  obtain ⟨g8, hg⟩ : ∃ g, g = u8.heap.size := ⟨_, rfl⟩
  have hc : Below u8.heap.size u8 V8 := by rw [hV]; exact (Below.refl _ _).alloc (Nat.le_refl _) _
  have I8 : Hid (IvB V8 g8 x4 y4) := by rw [hV, hg]; exact IvB.new _ _ _
  have A15 : Hid (Below v1.heap.size v1 V8) := A14.out.trans (hc.mono A14.out.size)
  replace I1 : Hid (IvB V8 g1 a a) := I1.out.box hc
  replace I2 : Hid (IvB V8 g2 b b) := I2.out.box hc
  replace D3 : Hid (DN V8 (.agg #[.bool t.1, .slice oa3 (dlen t.2.1) cp3, .int .i64 t.2.2]) t) := D3.out.later hc
  replace D4 : Hid (DN V8 (.agg #[.bool u.1, .slice oa4 (dlen u.2.1) cp4, .int .i64 u.2.2]) u) := D4.out.later hc
  replace N3 : Hid (V8.heap[g3]? = some (.cells #[.bool t.1, .slice oa3 (dlen t.2.1) cp3, .int .i64 t.2.2] 45 (0, 0))) := box_later N3.out hc (lt_of_box N3.out)
  replace N4 : Hid (V8.heap[g3 + 1]? = some (.cells #[.bool u.1, .slice oa4 (dlen u.2.1) cp4, .int .i64 u.2.2] 45 (0, 0))) := box_later N4.out hc (lt_of_box N4.out)
  replace I5 : Hid (IvB V8 g5 x1 y1) := I5.out.box hc
  replace I6 : Hid (IvB V8 g6 x2 y2) := I6.out.box hc
  replace I7 : Hid (IvB V8 g7 x3 y3) := I7.out.box hc
  clear hc A14
  go_upto_region 10 with fail
  rw [← hV, ← hg]
  clear hV hg
  have HK : Hid (∀ w', Below V8.heap.size V8 w' → (w'.cell? ⟨g5, 0, none⟩ = some (.float .f64 x1) ∧ w'.cell? ⟨g5, 1, none⟩ = some (.float .f64 y1)) ∧ (w'.cell? ⟨g6, 0, none⟩ = some (.float .f64 x2) ∧ w'.cell? ⟨g6, 1, none⟩ = some (.float .f64 y2)) ∧ (w'.cell? ⟨g7, 0, none⟩ = some (.float .f64 x3) ∧ w'.cell? ⟨g7, 1, none⟩ = some (.float .f64 y3)) ∧ (w'.cell? ⟨g8, 0, none⟩ = some (.float .f64 x4) ∧ w'.cell? ⟨g8, 1, none⟩ = some (.float .f64 y4)) ∧ (w'.cell? ⟨g3, 0, none⟩ = some (.bool t.1) ∧ w'.cell? ⟨g3, 1, none⟩ = some (.slice oa3 (dlen t.2.1) cp3) ∧ w'.cell? ⟨g3, 2, none⟩ = some (.int .i64 t.2.2)) ∧ (w'.cell? ⟨g3 + 1, 0, none⟩ = some (.bool u.1) ∧ w'.cell? ⟨g3 + 1, 1, none⟩ = some (.slice oa4 (dlen u.2.1) cp4) ∧ w'.cell? ⟨g3 + 1, 2, none⟩ = some (.int .i64 u.2.2))) := fun w' hb => ⟨⟨(I5.out.later hb).1, (I5.out.later hb).2.1⟩, ⟨(I6.out.later hb).1, (I6.out.later hb).2.1⟩, ⟨(I7.out.later hb).1, (I7.out.later hb).2.1⟩, ⟨(I8.out.later hb).1, (I8.out.later hb).2.1⟩, (box_cells29 (box_later N3.out hb (lt_of_box N3.out))).1, (box_cells29 (box_later N4.out hb (lt_of_box N4.out))).1⟩
  have hR : Below V8.heap.size V8 V8.drew := (Below.refl _ _).drew
  obtain ⟨⟨c0, c1⟩, ⟨c2, c3⟩, ⟨c4, c5⟩, ⟨c6, c7⟩, ⟨cx0, cx1, cx2⟩, cx3, cx4, cx5⟩ := HK.out V8 (Below.refl _ _)
  have q1 : ∀ W', Below V8.heap.size V8 W' → Calls Tryz.prog 26 #[(.agg #[.bool t.1, .slice oa3 (dlen t.2.1) cp3, .int .i64 t.2.2]), (.agg #[.bool u.1, .slice oa4 (dlen u.2.1) cp4, .int .i64 u.2.2])] W' fun r w' => ∃ s ao n cap e, r = .returned (.agg #[.bool s, .slice ao n cap, .int .i64 e]) ∧ Hid (DN w' (.agg #[.bool s, .slice ao n cap, .int .i64 e]) t1) ∧ Below V8.heap.size V8 w' := fun W' h => (Hm1.out W' _ _ (D3.out.later h) (D4.out.later h)).mono fun r w' ⟨s, ao, n, cap, e, h1, h2, h3⟩ => ⟨s, ao, n, cap, e, h1, h2, h.trans (h3.mono h.size)⟩
  have q2 : ∀ W', Below V8.heap.size V8 W' → Calls Tryz.prog 27 #[(.agg #[.bool t.1, .slice oa3 (dlen t.2.1) cp3, .int .i64 t.2.2]), (.agg #[.bool u.1, .slice oa4 (dlen u.2.1) cp4, .int .i64 u.2.2])] W' fun r w' => ∃ s ao n cap e, r = .returned (.agg #[.bool s, .slice ao n cap, .int .i64 e]) ∧ Hid (DN w' (.agg #[.bool s, .slice ao n cap, .int .i64 e]) t2) ∧ Below V8.heap.size V8 w' := fun W' h => (Hm2.out W' _ _ (D3.out.later h) (D4.out.later h)).mono fun r w' ⟨s, ao, n, cap, e, h1, h2, h3⟩ => ⟨s, ao, n, cap, e, h1, h2, h.trans (h3.mono h.size)⟩
  have q3 : ∀ W', Below V8.heap.size V8 W' → Calls Tryz.prog 28 #[(.agg #[.bool t.1, .slice oa3 (dlen t.2.1) cp3, .int .i64 t.2.2]), (.agg #[.bool u.1, .slice oa4 (dlen u.2.1) cp4, .int .i64 u.2.2])] W' fun r w' => ∃ s ao n cap e, r = .returned (.agg #[.bool s, .slice ao n cap, .int .i64 e]) ∧ Hid (DN w' (.agg #[.bool s, .slice ao n cap, .int .i64 e]) t3) ∧ Below V8.heap.size V8 w' := fun W' h => (Hm3.out W' _ _ (D3.out.later h) (D4.out.later h)).mono fun r w' ⟨s, ao, n, cap, e, h1, h2, h3⟩ => ⟨s, ao, n, cap, e, h1, h2, h.trans (h3.mono h.size)⟩
  have q4 : ∀ W', Below V8.heap.size V8 W' → Calls Tryz.prog 28 #[(.agg #[.bool t.1, .slice oa3 (dlen t.2.1) cp3, .int .i64 t.2.2]), (.agg #[.bool t.1, .slice oa3 (dlen t.2.1) cp3, .int .i64 t.2.2])] W' fun r w' => ∃ s ao n cap e, r = .returned (.agg #[.bool s, .slice ao n cap, .int .i64 e]) ∧ Hid (DN w' (.agg #[.bool s, .slice ao n cap, .int .i64 e]) t4) ∧ Below V8.heap.size V8 w' := fun W' h => (Hm4.out W' _ _ (D3.out.later h) (D3.out.later h)).mono fun r w' ⟨s, ao, n, cap, e, h1, h2, h3⟩ => ⟨s, ao, n, cap, e, h1, h2, h.trans (h3.mono h.size)⟩
  have q5 : ∀ W' Y, Below V8.heap.size V8 W' → DN W' Y t4 → Calls Tryz.prog 28 #[(.agg #[.bool t.1, .slice oa3 (dlen t.2.1) cp3, .int .i64 t.2.2]), Y] W' fun r w' => ∃ s ao n cap e, r = .returned (.agg #[.bool s, .slice ao n cap, .int .i64 e]) ∧ Hid (DN w' (.agg #[.bool s, .slice ao n cap, .int .i64 e]) t5) ∧ Below V8.heap.size V8 w' := fun W' Y h hy => (Hm5.out W' _ _ (D3.out.later h) hy).mono fun r w' ⟨s, ao, n, cap, e, h1, h2, h3⟩ => ⟨s, ao, n, cap, e, h1, h2, h.trans (h3.mono h.size)⟩
  have p1 : ∀ W' X, Below V8.heap.size V8 W' → DN W' X t1 → Calls Tryz.prog 25 #[.agg #[.float .f64 x1, .float .f64 y1], X] W' fun r w' => r = .returned (.bool true) ∧ Below V8.heap.size V8 w' := fun W' X h hx => (Hh1.out W' X hx).mono fun r w' ⟨h1, h3⟩ => ⟨h1, h.trans (h3.mono h.size)⟩
  have p2 : ∀ W' X, Below V8.heap.size V8 W' → DN W' X t2 → Calls Tryz.prog 25 #[.agg #[.float .f64 x2, .float .f64 y2], X] W' fun r w' => r = .returned (.bool true) ∧ Below V8.heap.size V8 w' := fun W' X h hx => (Hh2.out W' X hx).mono fun r w' ⟨h1, h3⟩ => ⟨h1, h.trans (h3.mono h.size)⟩
  have p3 : ∀ W' X, Below V8.heap.size V8 W' → DN W' X t3 → Calls Tryz.prog 25 #[.agg #[.float .f64 x3, .float .f64 y3], X] W' fun r w' => r = .returned (.bool true) ∧ Below V8.heap.size V8 w' := fun W' X h hx => (Hh3.out W' X hx).mono fun r w' ⟨h1, h3⟩ => ⟨h1, h.trans (h3.mono h.size)⟩
  have p4 : ∀ W' X, Below V8.heap.size V8 W' → DN W' X t5 → Calls Tryz.prog 25 #[.agg #[.float .f64 x4, .float .f64 y4], X] W' fun r w' => r = .returned (.bool true) ∧ Below V8.heap.size V8 w' := fun W' X h hx => (Hh4.out W' X hx).mono fun r w' ⟨h1, h3⟩ => ⟨h1, h.trans (h3.mono h.size)⟩
  have qw : ∀ W', Below V8.heap.size V8 W' → Calls Tryz.prog 13 #[] W' fun r w' => r = .returned (.bool true) ∧ Below V8.heap.size V8 w' := fun W' h => (Hkw.out W' (A15.out.trans (h.mono A15.out.size))).mono fun r w' ⟨h1, h3⟩ => ⟨h1, h.trans (h3.mono h.size)⟩
  clear Hm1 Hm2 Hm3 Hm4 Hm5 Hh1 Hh2 Hh3 Hh4 Hkw D3 D4 N3 N4 I1 I2 I5 I6 I7 I8
  go_region_held3 (fun w' => (w'.cell? ⟨g5, 0, none⟩ = some (.float .f64 x1) ∧ w'.cell? ⟨g5, 1, none⟩ = some (.float .f64 y1)) ∧ (w'.cell? ⟨g6, 0, none⟩ = some (.float .f64 x2) ∧ w'.cell? ⟨g6, 1, none⟩ = some (.float .f64 y2)) ∧ (w'.cell? ⟨g7, 0, none⟩ = some (.float .f64 x3) ∧ w'.cell? ⟨g7, 1, none⟩ = some (.float .f64 y3)) ∧ (w'.cell? ⟨g8, 0, none⟩ = some (.float .f64 x4) ∧ w'.cell? ⟨g8, 1, none⟩ = some (.float .f64 y4)) ∧ (w'.cell? ⟨g3, 0, none⟩ = some (.bool t.1) ∧ w'.cell? ⟨g3, 1, none⟩ = some (.slice oa3 (dlen t.2.1) cp3) ∧ w'.cell? ⟨g3, 2, none⟩ = some (.int .i64 t.2.2)) ∧ (w'.cell? ⟨g3 + 1, 0, none⟩ = some (.bool u.1) ∧ w'.cell? ⟨g3 + 1, 1, none⟩ = some (.slice oa4 (dlen u.2.1) cp4) ∧ w'.cell? ⟨g3 + 1, 2, none⟩ = some (.int .i64 u.2.2))) (first | (with_reducible assumption) | exact HK.out _ hR | (refine HK.out _ ?_; with_reducible assumption))
    (first | (go_at_call 26; with_reducible refine (q1 _ hR).mono ?_; rintro r b1 ⟨s1, ao1, n1, cc1, e1, rfl, E1, B1⟩)
           | (go_at_call 25; with_reducible refine (p1 _ _ B1 E1.out).mono ?_; rintro r b2 ⟨rfl, B2⟩)
           | (go_at_call 27; with_reducible refine (q2 _ B2).mono ?_; rintro r b3 ⟨s3, ao3, n3, cc3, e3, rfl, E3, B3⟩)
           | (go_at_call 25; with_reducible refine (p2 _ _ B3 E3.out).mono ?_; rintro r b4 ⟨rfl, B4⟩)
           | (go_at_call 28; with_reducible refine (q3 _ B4).mono ?_; rintro r b5 ⟨s5, ao5, n5, cc5, e5, rfl, E5, B5⟩)
           | (go_at_call 25; with_reducible refine (p3 _ _ B5 E5.out).mono ?_; rintro r b6 ⟨rfl, B6⟩)
           | (go_at_call 28; with_reducible refine (q4 _ B6).mono ?_; rintro r b7 ⟨s7, ao7, n7, cc7, e7, rfl, E7, B7⟩)
           | (go_at_call 28; with_reducible refine (q5 _ _ B7 E7.out).mono ?_; rintro r b8 ⟨s8, ao8, n8, cc8, e8, rfl, E8, B8⟩)
           | (go_at_call 25; with_reducible refine (p4 _ _ B8 E8.out).mono ?_; rintro r b9 ⟨rfl, B9⟩)
           | (go_at_call 13; with_reducible refine (qw _ B9).mono ?_; rintro r b10 ⟨rfl, B10⟩))
  have HB : Hid (Below v1.heap.size v1 b10) := A15.out.trans (B10.mono A15.out.size)
  clear q1 q2 q3 q4 q5 p1 p2 p3 p4 qw hR HK
  go_wp2_with fail
  go_ret
  exact ⟨rfl, HB.out⟩
end Go.Proofs.YtcoclopllbfjcaaGreatDoor
/- SpanPoints. -/
namespace Go.Proofs.YtcoclopllbfjcaaGreatDoor
set_option linter.unusedVariables false
set_option linter.unusedSimpArgs false
open Go.RowKit Go.Fl64

theorem pl_pl (a : Nat) : pl (pl a) = pl a := by unfold pl; split <;> simp_all
theorem pl_nn {a : Nat} (h : isNaN a = false) : isNaN (pl a) = false := by unfold pl; split; decide; exact h
/-- an interval that holds a number alone -/
theorem hold8 {x y : Nat} {t : Bool × Nat × Int} (o : Wd t) (hx : x = pl (toD t 1)) (hy : y = pl (toD t 3)) : ∀ W X, DN W X t → Calls Tryz.prog 25 #[.agg #[.float .f64 x, .float .f64 y], X] W fun r w' => r = .returned (.bool true) ∧ Below W.heap.size W w' := by
  intro W X hX
  have hX' := hX
  obtain ⟨ao, cap, rfl, -⟩ := hX'
  have l1 := toD_lt (t := t) (m := 1) (by omega)
  have l3 := toD_lt (t := t) (m := 3) (by omega)
  have n1 := toD_nn t (m := 1) (by omega)
  have n3 := toD_nn t (m := 3) (by omega)
  have r1 : ∀ V, (binOp .add 22 (.float .f64 (toD t 1)) (.float .f64 0)).run Tryz.prog V = .ok (.float .f64 (pl (toD t 1))) V := fun V => run_add0 V _ _ l1 n1
  have r3 : ∀ V, (binOp .add 22 (.float .f64 (toD t 3)) (.float .f64 0)).run Tryz.prog V = .ok (.float .f64 (pl (toD t 3))) V := fun V => run_add0 V _ _ l3 n3
  have s1 : ∀ V, (binOp .add 22 (.float .f64 (pl (toD t 1))) (.float .f64 0)).run Tryz.prog V = .ok (.float .f64 (pl (toD t 1))) V := fun V => by have := run_add0 (P := Tryz.prog) V 22 (pl (toD t 1)) (pl_lt l1) (pl_nn n1); rw [pl_pl] at this; exact this
  have s3 : ∀ V, (binOp .add 22 (.float .f64 (pl (toD t 3))) (.float .f64 0)).run Tryz.prog V = .ok (.float .f64 (pl (toD t 3))) V := fun V => by have := run_add0 (P := Tryz.prog) V 22 (pl (toD t 3)) (pl_lt l3) (pl_nn n3); rw [pl_pl] at this; exact this
  rw [hx, hy]
  exact holds_1 _ _ (toD t 1) (toD t 3) _ _ _ _ _ W s1 r1 s3 r3 (fun V hV => dtoW o (by omega) (hX.later hV)) (fun V hV => dtoW o (by omega) (hX.later hV))
    (fun V => (llike_self _ (pl_lt l1) V).mono fun r w' ⟨e1, e2⟩ => ⟨e1, e2 ▸ Below.refl _ _⟩) (fun V => (llike_self _ (pl_lt l3) V).mono fun r w' ⟨e1, e2⟩ => ⟨e1, e2 ▸ Below.refl _ _⟩)
theorem ok_wd {t : Bool × Nat × Int} (o : Ok t) : Wd t := by
  obtain ⟨h1, h2, h3, -, h5⟩ := o.facts
  exact ⟨h1, by omega, by omega, h5⟩
theorem dn_shape {W : World} {t1 t2 t3 : Bool × Nat × Int} {X Y : Value} {f : FuncId} (k : Calls Tryz.prog f #[X, Y] W fun r w' => ∃ A, r = .returned A ∧ DN w' A t3 ∧ Below W.heap.size W w') :
    Calls Tryz.prog f #[X, Y] W fun r w' => ∃ s ao n cap e, r = .returned (.agg #[.bool s, .slice ao n cap, .int .i64 e]) ∧ DN w' (.agg #[.bool s, .slice ao n cap, .int .i64 e]) t3 ∧ Below W.heap.size W w' := by
  refine k.mono ?_
  rintro r w' ⟨A, rfl, h, hb⟩
  have h' := h
  obtain ⟨ao, cap, rfl, -⟩ := h'
  exact ⟨_, _, _, _, _, rfl, h, hb⟩
theorem low_same {D : Nat → Nat} {z : Nat} (hz : isNaN z = false) (hl : z < 18446744073709551616) (hD : ∀ i, D i < 18446744073709551616 ∧ isNaN (D i) = false) (h : ∀ k, k < 4 → D k = z) : pl (lowF D 4) = pl z ∧ pl (hiF D 4) = pl z := by
  have b := nan_stp hz
  have c1 : stp 9218868437227405312 = 9218868437227405312 := by decide
  have c2 : stp 18442240474082181120 = -9218868437227405312 := by decide
  have f0 : ∀ y, fMin y y = y := fun y => by unfold fMin; simp
  have f1 : ∀ y, fMax y y = y := fun y => by unfold fMax; simp
  have e1 : stp (lowF D 4) = stp z := by
    simp only [lowF, h 0 (by omega), h 1 (by omega), h 2 (by omega), h 3 (by omega), fMin_stp]
    rw [c1]; omega
  have e2 : stp (hiF D 4) = stp z := by
    simp only [hiF, h 0 (by omega), h 1 (by omega), h 2 (by omega), h 3 (by omega), fMax_stp]
    rw [c2]; omega
  exact ⟨stp_inj (pl_lt (lowF_ok hD 4).1) (pl_lt hl) (by rw [pl_stp, pl_stp, e1]) (pl_nZ _) (pl_nZ _), stp_inj (pl_lt (hiF_ok hD 4).1) (pl_lt hl) (by rw [pl_stp, pl_stp, e2]) (pl_nZ _) (pl_nZ _)⟩
theorem tF_pl {f : Nat} (hf : f < 18446744073709551616) : tF (pl f) = tF f := by
  unfold pl
  split
  · rename_i h; rw [h]; decide +kernel
  · rfl
theorem fin_e {f : Nat} (h : fin f = true) : isNaN f = false ∧ eI f = 0 ∧ eT f = tF f ∧ f ≠ 9218868437227405312 ∧ f ≠ 18442240474082181120 := by
  have hm : mag f < 9218868437227405312 := by unfold fin at h; simpa using h
  have h1 : f ≠ 9218868437227405312 := by rintro rfl; revert hm; decide
  have h2 : f ≠ 18442240474082181120 := by rintro rfl; revert hm; decide
  have h3 : eI f = 0 := by unfold eI; rw [if_neg h1, if_neg h2]
  exact ⟨by unfold isNaN; simp; omega, h3, by unfold eT; rw [if_pos h3], h1, h2⟩
theorem fin_pl {f : Nat} (h : fin f = true) : fin (pl f) = true := by unfold pl; split; decide; exact h
theorem vI_self {a : Nat} (ha : a < 18446744073709551616) (h : fin a = true) (hz : a ≠ 9223372036854775808) : vI a a = true := by
  have hm : mag a < 9218868437227405312 := by unfold fin at h; simpa using h
  obtain ⟨hn, -, -, -, -⟩ := fin_e h
  have c1 : stp 9218868437227405312 = 9218868437227405312 := by decide
  have c2 : stp 18442240474082181120 = -9218868437227405312 := by decide
  have hs : -9218868437227405312 < stp a ∧ stp a < 9218868437227405312 := by
    unfold stp sgn
    split <;> omega
  unfold vI le lt
  rw [hn, c1, c2, show isNaN 9218868437227405312 = false by decide, show isNaN 18442240474082181120 = false by decide]
  simp [hz, hs.1, hs.2]
theorem tm_fin {t u : Bool × Nat × Int} : tmI 0 0 t u = 0 ∧ tmT 0 0 t u = tM t u := by
  unfold tmI tmT
  by_cases h : sgE 0 t = 0 ∨ sgE 0 u = 0
  · rw [if_pos h, if_pos h]
    refine ⟨rfl, ?_⟩
    have hz : t.2.1 = 0 ∨ u.2.1 = 0 := by
      unfold sgE at h
      rw [if_pos rfl, if_pos rfl] at h
      rcases h with h | h
      · left; split at h
        · assumption
        · split at h <;> omega
      · right; split at h
        · assumption
        · split at h <;> omega
    unfold tM cn
    rw [if_pos (by rcases hz with h | h <;> rw [h] <;> simp)]
  · rw [if_neg h, if_neg h, if_neg (by omega), if_neg (by omega)]
    exact ⟨rfl, rfl⟩
set_option maxHeartbeats 1000000 in
/-- SpanPoints answers true -/
theorem spanPoints_ok (f g : Nat) (w : World) (hf : f < 18446744073709551616) (hg : g < 18446744073709551616) (hT : Tab32 w) (hJ : Ie.Tab w) :
    Calls Tryz.prog 6 #[.float .f64 f, .float .f64 g] w fun r w' => r = .returned (.bool true) ∧ Below w.heap.size w w' := by
  have hw : ∀ W, Below w.heap.size w W → Calls Tryz.prog 13 #[] W fun r w' => r = .returned (.bool true) ∧ Below W.heap.size W w' := fun W h => works8 W (hT.later h) (Tab.later hJ h)
  have lm : ∀ x : Nat, mag x < 18446744073709551616 := fun x => by unfold mag; omega
  have om : ∀ x : Nat, le (mag x) 9218868437227405311 = fin x := fun x => by
    unfold le fin isNaN
    have h1 : mag (mag x) = mag x := by unfold mag; omega
    have h2 : stp (mag x) = mag x := by unfold stp sgn neg; rw [h1]; unfold mag; simp; omega
    have h3 : stp 9218868437227405311 = 9218868437227405311 := by decide
    have h4 : mag 9218868437227405311 = 9218868437227405311 := by decide
    rw [h1, h2, h3, h4]
    rw [Bool.eq_iff_iff]
    simp only [Bool.and_eq_true, Bool.not_eq_true', decide_eq_false_iff_not, decide_eq_true_eq]
    omega
  have o1 := ord_le (mag f) 9218868437227405311 (lm f) (by omega)
  have o2 := ord_le (mag g) 9218868437227405311 (lm g) (by omega)
  rw [om] at o1 o2
  by_cases hfg : (fin f && fin g) = true
  · rw [Bool.and_eq_true] at hfg
    obtain ⟨ff, fg⟩ := hfg
    rw [ff] at o1
    rw [fg] at o2
    have ha := pl_lt hf
    have hb := pl_lt hg
    have va := vI_self ha (fin_pl ff) (pl_nZ _)
    have vb := vI_self hb (fin_pl fg) (pl_nZ _)
    obtain ⟨na, ia, ta, -, -⟩ := fin_e (fin_pl ff)
    obtain ⟨nb, ib, tb, -, -⟩ := fin_e (fin_pl fg)
    obtain ⟨nf, -⟩ := fin_e ff
    obtain ⟨ng, -⟩ := fin_e fg
    rw [tF_pl hf] at ta
    rw [tF_pl hg] at tb
    have hc : pl (ngt (pl g)) < 18446744073709551616 := pl_lt (ngt_lt hb)
    have nc : isNaN (pl (ngt (pl g))) = false := pl_nn (by rw [ngt_nan8 hb]; exact nb)
    have ic : eI (pl (ngt (pl g))) = 0 ∧ eT (pl (ngt (pl g))) = tNeg (tF g) := by
      have e1 := eI_ngt hb
      have e2 := eT_ngt hb
      rw [ib] at e1
      rw [tb] at e2
      have e3 : fin (ngt (pl g)) = true := by
        refine fin_ofW (ngt_lt hb) (by rw [ngt_nan8 hb]; exact nb) ?_ ?_
        · intro h; rw [h] at e1; revert e1; decide
        · intro h; rw [h] at e1; revert e1; decide
      obtain ⟨-, i1, i2, -, -⟩ := fin_e (fin_pl e3)
      obtain ⟨-, j1, j2, -, -⟩ := fin_e e3
      refine ⟨i1, ?_⟩
      rw [i2, tF_pl (ngt_lt hb), ← j2, e2]
    have oS : Ok (tS (tF f) (tF g)) := ok_cn (tS_okR (tF_fits f) (tF_fits g) (by omega) (by omega) (by omega))
    have oN : Ok (tNeg (tF g)) := tNeg_ok (tF_ok g)
    have oD : Ok (tS (tF f) (tNeg (tF g))) := ok_cn (tS_okR (tF_fits f) (tNeg_fits (tF_fits g)) (by omega) (by omega) (by omega))
    have oM : Ok (tM (tF f) (tF g)) := tM_ok (tM_okR f g)
    have oM2 : Ok (tM (tF f) (tF f)) := tM_ok (tM_okR f f)
    have ho : (tF f).2.1 ≠ 0 → (tF f).2.1 % 2 = 1 := (tF_ok f).facts.2.2.2.2
    have hz : (tF f).2.1 = 0 → tF f = (false, 0, 0) := (tF_ok f).facts.2.2.2.1
    have e3 : tM (tF f) (tM (tF f) (tF f)) = pw (tF f) 3 := by
      have h1 := pw_mul ho 1 1
      have h2 := pw_mul ho 1 2
      rw [pw_one hz] at h1 h2
      rw [h1]; exact h2
    have sA : ∀ m : Int, 1 ≤ m ∧ m ≤ 3 → pl (fAdM (pl f) (pl g) m) = pl (toD (tS (tF f) (tF g)) m) := fun m hm => by
      have := enF_plus ha hb na nb (by omega) (by omega) hm
      rw [ia, ib, ta, tb] at this
      rw [← this]; rfl
    have sB : ∀ m : Int, 1 ≤ m ∧ m ≤ 3 → pl (fAdM (pl f) (pl (ngt (pl g))) m) = pl (toD (tS (tF f) (tNeg (tF g))) m) := fun m hm => by
      have := enF_plus ha hc na nc (by omega) (by omega) hm
      rw [ia, ic.1, ta, ic.2] at this
      rw [← this]; rfl
    have sM : ∀ m : Int, 1 ≤ m ∧ m ≤ 3 → pl (onF (fMul (pl f) (pl g) m)) = pl (toD (tM (tF f) (tF g)) m) := fun m hm => by
      have := enF_times ha hb na nb hm
      rw [ia, ib, ta, tb, tm_fin.1, tm_fin.2] at this
      rw [← this]; rfl
    have hpk : ∀ k (a : Nat), k < 4 → pk4 a a a a k = a := fun k a hk => by rcases lt48 hk with rfl | rfl | rfl | rfl <;> rfl
    have sL : mlo (pl f) (pl f) (pl g) (pl g) = pl (toD (tM (tF f) (tF g)) 1) := by
      rw [← sM 1 (by omega)]
      exact (low_same (onF_ok fMul_lt).2 (onF_ok fMul_lt).1 (fun i => onF_ok fMul_lt) (fun k hk => by rw [hpk k _ hk, hpk k _ hk])).1
    have sU : mhi (pl f) (pl f) (pl g) (pl g) = pl (toD (tM (tF f) (tF g)) 3) := by
      rw [← sM 3 (by omega)]
      exact (low_same (onF_ok fMul_lt).2 (onF_ok fMul_lt).1 (fun i => onF_ok fMul_lt) (fun k hk => by rw [hpk k _ hk, hpk k _ hk])).2
    have sP : ∀ m : Int, pwF (pl f) 3 m = toD (pw (tF f) 3) m := fun m => by
      unfold pwF
      rw [if_neg (by decide), fin_pl ff, if_pos rfl, tF_pl hf]
    refine points_1 f g (mag f) (mag g) (pl f) (pl g) (pl (fAdM (pl f) (pl g) 1)) (pl (fAdM (pl f) (pl g) 3)) (pl (fAdM (pl f) (pl (ngt (pl g))) 1)) (pl (fAdM (pl f) (pl (ngt (pl g))) 3)) (mlo (pl f) (pl f) (pl g) (pl g)) (mhi (pl f) (pl f) (pl g) (pl g)) (pwX (pl f) (pl f) 3) (pwY (pl f) (pl f) 3) 0 0 (tF f) (tF g) (tS (tF f) (tF g)) (tD8 (tF f) (tF g)) (tM (tF f) (tF g)) (tM (tF f) (tF f)) (tM (tF f) (tM (tF f) (tF f))) w (fun W => c159 f hf W) (fun W => c159 g hg W) o1 o2 ?_ ?_ ?_ ?_ ?_ ?_ ?_ ?_ ?_ ?_ ?_ ?_ ?_ ?_ ?_ ?_ ?_ hw
    · intro W h
      have k := sof f f hf hf W
      rw [nf, va] at k
      exact k
    · intro W h
      have k := sof g g hg hg W
      rw [ng, vb] at k
      exact k
    · exact fun W h => float_dn f hf W
    · exact fun W h => float_dn g hg W
    · intro W h
      have k := sadd (pl f) (pl f) (pl g) (pl g) W ha ha hb hb (hT.later h) (Tab.later hJ h)
      rw [va, vb] at k
      exact k
    · intro W h
      have k := ssub (pl f) (pl f) (pl g) (pl g) W ha ha hb hb (hT.later h) (Tab.later hJ h)
      rw [va, vb] at k
      exact k
    · intro W h
      have k := smul (pl f) (pl f) (pl g) (pl g) ha ha hb hb W (hT.later h) (Tab.later hJ h)
      rw [va, vb] at k
      exact k
    · intro W h
      have k := spow (pl f) (pl f) 3 W ha ha (hT.later h) (Tab.later hJ h)
      rw [show pOk (pl f) (pl f) 3 = true by unfold pOk; rw [va]; rfl] at k
      exact k
    · exact fun W X Y h1 h2 => dn_shape (t1 := tF f) (t2 := tF g) (plus_dn (tF_ok f) (tF_ok g) h1 h2)
    · exact fun W X Y h1 h2 => dn_shape (t1 := tF f) (t2 := tF g) (less8_dn (tF_ok f) (tF_ok g) h1 h2)
    · exact fun W X Y h1 h2 => dn_shape (t1 := tF f) (t2 := tF g) (times_dn (tF_ok f) (tF_ok g) h1 h2)
    · exact fun W X Y h1 h2 => dn_shape (t1 := tF f) (t2 := tF f) (times_dn (tF_ok f) (tF_ok f) h1 h2)
    · exact fun W X Y h1 h2 => dn_shape (t1 := tF f) (t2 := tM (tF f) (tF f)) (times_dn (tF_ok f) oM2 h1 h2)
    · exact hold8 (ok_wd oS) (sA 1 (by omega)) (sA 3 (by omega))
    · rw [tD8_eq (tF_ok g)]
      exact hold8 (ok_wd oD) (sB 1 (by omega)) (sB 3 (by omega))
    · exact hold8 (ok_wd oM) sL sU
    · rw [e3]
      refine hold8 (pw_wd (by omega)) ?_ ?_
      · show pl (pwF (pcX (pl f) (pl f) 3) 3 1) = _
        rw [← sP]; rfl
      · show pl (pwF (pcY (pl f) (pl f) 3) 3 3) = _
        rw [← sP]; rfl
  · exact points_no f g (mag f) (mag g) (fin f) (fin g) w (by cases h : (fin f && fin g) <;> simp_all) (fun W => c159 f hf W) (fun W => c159 g hg W) o1 o2 hw
end Go.Proofs.YtcoclopllbfjcaaGreatDoor
/- Floats in order: not above, the lesser and the greater of two; intervals that may be. -/
namespace Go.Fl64
set_option linter.unusedVariables false
set_option linter.unusedSimpArgs false

/-- a ≤ b of floats -/
def le (a b : Nat) : Bool := !isNaN a && !isNaN b && decide (stp a ≤ stp b)

theorem ord_le (a b : Nat) (ha : a < 18446744073709551616) (hb : b < 18446744073709551616) : (FloatKind.f64.format.order a b == some Ordering.lt || FloatKind.f64.format.order a b == some Ordering.eq) = le a b := by
  rw [ord_lt a b ha hb, ord_eq a b ha hb]
  unfold lt eq le
  cases isNaN a <;> cases isNaN b <;> simp
  rw [← Bool.decide_or]
  exact decide_eq_decide.2 (by omega)
theorem ord_ge (a b : Nat) (ha : a < 18446744073709551616) (hb : b < 18446744073709551616) : (FloatKind.f64.format.order a b == some Ordering.gt || FloatKind.f64.format.order a b == some Ordering.eq) = le b a := by
  rw [ord_gt a b ha hb, ord_eq a b ha hb]
  unfold lt eq le
  cases isNaN a <;> cases isNaN b <;> simp
  rw [← Bool.decide_or]
  exact decide_eq_decide.2 (by omega)
/-- the lesser, the greater of two floats that are no NaN -/
def fMin (x y : Nat) : Nat := if stp x < stp y then x else if stp y < stp x then y else if neg x then x else y
def fMax (x y : Nat) : Nat := if stp x < stp y then y else if stp y < stp x then x else if neg x then y else x

theorem dec_neg (a : Nat) (h : a < 18446744073709551616) (n : isNaN a = false) : (FloatKind.f64.decode a).neg = neg a := by
  unfold FloatKind.decode
  rw [f64]
  have n' : ¬ 9218868437227405312 < mag a := of_decide_eq_false n
  by_cases f : mag a < 9218868437227405312
  · obtain ⟨m, k, e, _⟩ := read_number a h f
    rw [e]; rfl
  · rw [read_infinity a h (by omega)]; rfl

theorem run_fmin {P : Program} (w : World) (ts : Array TypeId) (t : TypeId) (x y : Nat) (hx : x < 18446744073709551616) (hy : y < 18446744073709551616) (nx : isNaN x = false) (ny : isNaN y = false) :
    (Builtin.min_ ts t #[.float .f64 x, .float .f64 y]).run P w = .ok (.float .f64 (fMin x y)) w := by
  have ho := order_num x y hx hy nx ny
  have hd := dec_neg x hx nx
  rw [← f64] at ho
  unfold fMin
  rcases Int.lt_trichotomy (stp x) (stp y) with h | h | h
  · rw [cmp_lt h] at ho
    rw [if_pos h]
    simp [Builtin.min_, Builtin.min2, ho]
  · rw [cmp_eq h] at ho
    rw [if_neg (by omega), if_neg (by omega)]
    simp [Builtin.min_, Builtin.min2, ho, hd]
  · rw [cmp_gt h] at ho
    rw [if_neg (by omega), if_pos h]
    simp [Builtin.min_, Builtin.min2, ho]
theorem run_fmax {P : Program} (w : World) (ts : Array TypeId) (t : TypeId) (x y : Nat) (hx : x < 18446744073709551616) (hy : y < 18446744073709551616) (nx : isNaN x = false) (ny : isNaN y = false) :
    (Builtin.max_ ts t #[.float .f64 x, .float .f64 y]).run P w = .ok (.float .f64 (fMax x y)) w := by
  have ho := order_num x y hx hy nx ny
  have hd := dec_neg x hx nx
  rw [← f64] at ho
  unfold fMax
  rcases Int.lt_trichotomy (stp x) (stp y) with h | h | h
  · rw [cmp_lt h] at ho
    rw [if_pos h]
    simp [Builtin.max_, Builtin.max2, ho]
  · rw [cmp_eq h] at ho
    rw [if_neg (by omega), if_neg (by omega)]
    simp [Builtin.max_, Builtin.max2, ho, hd]
  · rw [cmp_gt h] at ho
    rw [if_neg (by omega), if_pos h]
    simp [Builtin.max_, Builtin.max2, ho]
theorem fMin_or (x y : Nat) : fMin x y = x ∨ fMin x y = y := by
  unfold fMin
  split
  · exact .inl rfl
  · split
    · exact .inr rfl
    · split
      · exact .inl rfl
      · exact .inr rfl
theorem fMax_or (x y : Nat) : fMax x y = x ∨ fMax x y = y := by
  unfold fMax
  split
  · exact .inr rfl
  · split
    · exact .inl rfl
    · split
      · exact .inr rfl
      · exact .inl rfl
theorem fMin_lt {x y : Nat} (hx : x < 18446744073709551616) (hy : y < 18446744073709551616) : fMin x y < 18446744073709551616 := by
  rcases fMin_or x y with h | h <;> rw [h] <;> assumption
theorem fMax_lt {x y : Nat} (hx : x < 18446744073709551616) (hy : y < 18446744073709551616) : fMax x y < 18446744073709551616 := by
  rcases fMax_or x y with h | h <;> rw [h] <;> assumption
theorem fMin_nn {x y : Nat} (hx : isNaN x = false) (hy : isNaN y = false) : isNaN (fMin x y) = false := by
  rcases fMin_or x y with h | h <;> rw [h] <;> assumption
theorem fMax_nn {x y : Nat} (hx : isNaN x = false) (hy : isNaN y = false) : isNaN (fMax x y) = false := by
  rcases fMax_or x y with h | h <;> rw [h] <;> assumption
theorem fMin_stp (x y : Nat) : stp (fMin x y) = min (stp x) (stp y) := by
  unfold fMin
  split
  · omega
  · split
    · omega
    · split <;> omega
theorem fMax_stp (x y : Nat) : stp (fMax x y) = max (stp x) (stp y) := by
  unfold fMax
  split
  · omega
  · split
    · omega
    · split <;> omega

/-- a nought as +0 -/
def pl (a : Nat) : Nat := if a = 9223372036854775808 then 0 else a
theorem pl_lt {a : Nat} (h : a < 18446744073709551616) : pl a < 18446744073709551616 := by unfold pl; split <;> omega
theorem pl_stp (a : Nat) : stp (pl a) = stp a := by
  unfold pl
  split
  · rename_i h; rw [h]; decide
  · rfl
theorem pl_nan (a : Nat) : isNaN (pl a) = isNaN a := by
  unfold pl
  split
  · rename_i h; rw [h]; decide
  · rfl
theorem stp_zero {a : Nat} (ha : a < 18446744073709551616) : stp a = 0 ↔ (a = 0 ∨ a = 9223372036854775808) := by
  unfold stp sgn neg mag
  constructor
  · intro h
    split at h <;> rename_i h1 <;> simp only [decide_eq_true_eq] at h1 <;> omega
  · rintro (rfl | rfl) <;> decide
/-- whether an interval may be -/
def vI (lo hi : Nat) : Bool := le lo hi && lt lo 9218868437227405312 && lt 18442240474082181120 hi && decide (lo ≠ 9223372036854775808) && decide (hi ≠ 9223372036854775808)

/-- floats are told apart by their place in the order and by the sign of noughts -/
theorem stp_inj {a b : Nat} (ha : a < 18446744073709551616) (hb : b < 18446744073709551616) (h : stp a = stp b) (h1 : a ≠ 9223372036854775808) (h2 : b ≠ 9223372036854775808) : a = b := by
  unfold stp sgn neg mag at h
  split at h <;> split at h <;> rename_i h3 h4 <;> simp only [decide_eq_true_eq] at h3 h4 <;> omega
end Go.Fl64
/- The small functions of span: noughts, infinities, what may be. -/
namespace Go.Proofs.YtcoclopllbfjcaaGreatDoor
set_option linter.unusedVariables false
set_option linter.unusedSimpArgs false
open Go.RowKit Go.Fl64

theorem eq_zero (a : Nat) (ha : a < 18446744073709551616) : eq a 0 = (decide (a = 0) || decide (a = 9223372036854775808)) := by
  rw [← Bool.decide_or]
  unfold eq
  rw [show isNaN 0 = false from rfl]
  have h := stp_zero ha
  rw [show stp 0 = 0 from rfl]
  by_cases h0 : stp a = 0
  · have h1 := h.1 h0
    rw [decide_eq_true h0, decide_eq_true h1]
    rcases h1 with rfl | rfl <;> rfl
  · rw [decide_eq_false h0, decide_eq_false fun h2 => h0 (h.2 h2), Bool.and_false]

theorem pmn (a : Nat) (ha : a < 18446744073709551616) (w : World) :
    Calls Tryz.prog 96 #[.float .f64 a] w fun r w' => r = .returned (.bool (decide (a = 9223372036854775808))) ∧ w' = w := by
  have k := Ie.c33 a ha
  have e := ord_eq a 0 ha (by omega)
  rw [eq_zero a ha] at e
  by_cases h : a = 0 ∨ a = 9223372036854775808
  · have e1 : (FloatKind.f64.format.order a 0 == some Ordering.eq) = true := by
      rw [e, ← Bool.decide_or]; exact decide_eq_true h
    have e2 : decide (a = 9223372036854775808) = neg a := by
      rcases h with rfl | rfl <;> rfl
    rw [e2]
    clear e e2 h
    go_enter Tryz.func96, Tryz.ntmps96
    go_wp2_with (first | (go_at_call 109; refine (k _).mono ?_; rintro r w' ⟨rfl, rfl⟩))
    go_ret
    exact ⟨rfl, rfl⟩
  · have e1 : (FloatKind.f64.format.order a 0 == some Ordering.eq) = false := by
      rw [e, ← Bool.decide_or]; exact decide_eq_false h
    rw [decide_eq_false fun h1 => h (.inr h1)]
    clear e h
    go_enter Tryz.func96, Tryz.ntmps96
    go_wp2
    go_ret
    exact ⟨rfl, rfl⟩
theorem ppl (a : Nat) (ha : a < 18446744073709551616) (w : World) :
    Calls Tryz.prog 97 #[.float .f64 a] w fun r w' => r = .returned (.float .f64 (pl a)) ∧ w' = w := by
  have e := ord_eq a 0 ha (by omega)
  rw [eq_zero a ha] at e
  by_cases h : a = 0 ∨ a = 9223372036854775808
  · have e1 : (FloatKind.f64.format.order a 0 == some Ordering.eq) = true := by
      rw [e, ← Bool.decide_or]; exact decide_eq_true h
    have e2 : pl a = 0 := by
      rcases h with rfl | rfl <;> rfl
    rw [e2]
    clear e e2 h
    go_enter Tryz.func97, Tryz.ntmps97
    go_wp2
    go_ret
    exact ⟨rfl, rfl⟩
  · have e1 : (FloatKind.f64.format.order a 0 == some Ordering.eq) = false := by
      rw [e, ← Bool.decide_or]; exact decide_eq_false h
    have e2 : pl a = a := if_neg fun h1 => h (.inr h1)
    rw [e2]
    clear e e2 h
    go_enter Tryz.func97, Tryz.ntmps97
    go_wp2
    go_ret
    exact ⟨rfl, rfl⟩
end Go.Proofs.YtcoclopllbfjcaaGreatDoor
