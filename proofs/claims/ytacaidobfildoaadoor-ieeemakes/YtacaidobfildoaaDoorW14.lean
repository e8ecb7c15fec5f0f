/- What the document's Pack and Make answer, in all cases; what the law IeeeMakes answers, for all parts. -/
import Derived.Test.YtacaidobfildoaaDoorW13
namespace Go.Proofs.YtacaidobfildoaaDoor
set_option linter.unusedVariables false
set_option linter.unusedSimpArgs false
open Go.RowKit Go.Fl64

/-- The rung of a mantissa at a place, held in bounds. -/
def hold (E kf way : Int) : Int := if (E + 11 + 1074) * 4503599627370496 + kf < 9218868437227405312 then (E + 11 + 1074) * 4503599627370496 + kf else if way == 0 then 9218868437227405311 else 9218868437227405312

theorem bod_1 (m : Nat) (e way : Int) (hT : ¬ (e - (nz m : Int) + 11 < -1074)) : bod m e way = hold (e - (nz m : Int)) (rnd (tp m) 11 way : Int) way := by
  have p : pl m e = e - (nz m : Int) + 11 := by unfold pl; rw [if_neg (by omega)]; omega
  unfold bod raw hold
  rw [p, show (e - (nz m : Int) + 11 - (e - (nz m : Int))).toNat = 11 by omega]
theorem bod_2 (m D : Nat) (e way : Int) (hT : e - (nz m : Int) + 11 < -1074) (hD : (D : Int) = -1074 - (e - (nz m : Int))) (hb : rnd (tp m) D way ≤ 4503599627370496) : bod m e way = (rnd (tp m) D way : Int) := by
  have p : pl m e = -1074 := by unfold pl; rw [if_pos (by omega)]
  unfold bod raw
  rw [p, show (-1074 - (e - (nz m : Int))).toNat = D by omega, if_pos (by omega)]
  omega

theorem t1A {neg : Bool} {E way h : Int} {kf : Nat} {B : Int} (hB : B = hold E kf way) (hk : 4503599627370496 ≤ kf ∧ kf ≤ 9007199254740992) (hw : (way = 0 ∧ h = 1) ∨ (way = 1 ∧ h = 2) ∨ (way = 2 ∧ h = 3)) :
    Hid (((kf : Int) == 9007199254740992) = true → 971 < E + 11 + 1 → ovr neg h = sig neg B.toNat) := by
  intro hz hg
  have hz : (kf : Int) = 9007199254740992 := by simpa using hz
  rw [hB]
  unfold hold ovr
  rw [if_neg (show ¬ (E + 11 + 1074) * 4503599627370496 + (kf : Int) < 9218868437227405312 by omega)]
  rcases hw with ⟨rfl, rfl⟩ | ⟨rfl, rfl⟩ | ⟨rfl, rfl⟩ <;> rfl
theorem t1C {neg : Bool} {E way h : Int} {kf : Nat} {B : Int} (hB : B = hold E kf way) (hk : 4503599627370496 ≤ kf ∧ kf ≤ 9007199254740992) (hw : (way = 0 ∧ h = 1) ∨ (way = 1 ∧ h = 2) ∨ (way = 2 ∧ h = 3)) :
    Hid (((kf : Int) == 9007199254740992) = false → 971 < E + 11 → ovr neg h = sig neg B.toNat) := by
  intro hz hg
  rw [hB]
  unfold hold ovr
  rw [if_neg (show ¬ (E + 11 + 1074) * 4503599627370496 + (kf : Int) < 9218868437227405312 by omega)]
  rcases hw with ⟨rfl, rfl⟩ | ⟨rfl, rfl⟩ | ⟨rfl, rfl⟩ <;> rfl
theorem t1B {neg : Bool} {E way : Int} {kf : Nat} {B : Int} (hB : B = hold E kf way) (hk : 4503599627370496 ≤ kf ∧ kf ≤ 9007199254740992) (hT : ¬ (E + 11 < -1074)) :
    Hid (((kf : Int) == 9007199254740992) = true → E + 11 + 1 ≤ 971 → gs neg (bits BinOp.or IntKind.u64 ((E + 11 + 1 + 1075) * 4503599627370496) (bits BinOp.and IntKind.u64 4503599627370496 4503599627370495)).toNat = sig neg B.toNat) := by
  intro hz hg
  have hz : (kf : Int) = 9007199254740992 := by simpa using hz
  have e0 : bits BinOp.and IntKind.u64 4503599627370496 4503599627370495 = ((0 : Nat) : Int) := by decide +kernel
  obtain ⟨q, hq⟩ : ∃ q : Nat, E + 11 + 1 + 1075 = (q : Int) := ⟨(E + 11 + 1 + 1075).toNat, by omega⟩
  rw [e0, hq, or_place q 0 (by omega) (by decide), Int.toNat_natCast, gs_sig neg _ (by omega), hB]
  unfold hold
  rw [if_pos (by omega)]
  congr 1
  omega
theorem t1D {neg : Bool} {E way : Int} {kf : Nat} {B : Int} (hB : B = hold E kf way) (hk : 4503599627370496 ≤ kf ∧ kf ≤ 9007199254740992) (hT : ¬ (E + 11 < -1074)) :
    Hid (((kf : Int) == 9007199254740992) = false → E + 11 ≤ 971 → gs neg (bits BinOp.or IntKind.u64 ((E + 11 + 1075) * 4503599627370496) (bits BinOp.and IntKind.u64 (kf : Int) 4503599627370495)).toNat = sig neg B.toNat) := by
  intro hz hg
  have hz : ¬ (kf : Int) = 9007199254740992 := by simpa using hz
  obtain ⟨q, hq⟩ : ∃ q : Nat, E + 11 + 1075 = (q : Int) := ⟨(E + 11 + 1075).toNat, by omega⟩
  rw [and_mant kf (by omega), hq, or_place q _ (by omega) (by omega), Int.toNat_natCast, gs_sig neg _ (by omega), hB]
  unfold hold
  rw [if_pos (by omega)]
  congr 1
  omega

theorem t2A {neg : Bool} {kf : Nat} {B : Int} (hB : B = (kf : Int)) : Hid ((kf : Int) < 4503599627370496 → gs neg (kf : Int).toNat = sig neg B.toNat) := by
  intro hl
  rw [hB, Int.toNat_natCast, gs_sig neg _ (by omega)]
theorem t2B {neg : Bool} {E D : Int} {kf : Nat} {B : Int} (hB : B = (kf : Int)) (hk : kf ≤ 4503599627370496) (hD : -1074 - E = D) :
    Hid (4503599627370496 ≤ (kf : Int) → gs neg (bits BinOp.or IntKind.u64 ((E + D + 1075) * 4503599627370496) (bits BinOp.and IntKind.u64 (kf : Int) 4503599627370495)).toNat = sig neg B.toNat) := by
  intro hl
  rw [and_mant kf (by omega), show E + D + 1075 = ((1 : Nat) : Int) by omega, or_place 1 _ (by decide) (by omega), Int.toNat_natCast, gs_sig neg _ (by omega), hB]
  congr 1
  omega

theorem low_bits (M d : Nat) (hM : M < 18446744073709551616) (hd : d < 64) : bits .and .u64 (M : Int) (IntKind.u64.wrap (IntKind.u64.wrap (2 ^ (d : Int).toNat) - 1)) = ((M % 2 ^ d : Nat) : Int) := by
  have hp : 0 < 2 ^ d := Nat.two_pow_pos d
  have hpb : 2 ^ d ≤ 9223372036854775808 := (show 2 ^ d ≤ 2 ^ 63 from Nat.pow_le_pow_right (by decide) (by omega))
  have e1 : (2 : Int) ^ (d : Int).toNat = ((2 ^ d : Nat) : Int) := by rw [Int.toNat_natCast]; simp
  have e2 : IntKind.u64.wrap (IntKind.u64.wrap (2 ^ (d : Int).toNat) - 1) = ((2 ^ d - 1 : Nat) : Int) := by
    rw [e1, IntKind.wrap_u64, IntKind.wrap_u64]
    omega
  rw [e2, u64_and_nat M _ hM (by omega), Nat.and_two_pow_sub_one_eq_mod]
theorem half_bits (d : Nat) (h1 : 1 ≤ d) (hd : d < 64) : IntKind.u64.wrap (2 ^ ((d : Int).toNat - 1)) = ((2 ^ (d - 1) : Nat) : Int) := by
  have hpb : 2 ^ (d - 1) ≤ 9223372036854775808 := (show 2 ^ (d - 1) ≤ 2 ^ 63 from Nat.pow_le_pow_right (by decide) (by omega))
  have e2 : (2 : Int) ^ ((d : Int).toNat - 1) = ((2 ^ (d - 1) : Nat) : Int) := by rw [Int.toNat_natCast]; simp
  rw [e2]
  clear e2
  generalize 2 ^ (d - 1) = p at hpb ⊢
  rw [IntKind.wrap_u64]
  omega
theorem odd_bits (k : Nat) : ((k : Int) % 2 == 1) = decide (k % 2 = 1) := by
  rw [Bool.beq_eq_decide_eq]
  congr 1
  apply propext
  omega
theorem odd_bits' (k : Nat) : ((k : Int).tmod 2 == 1) = decide (k % 2 = 1) := by
  rw [Int.tmod_eq_emod_of_nonneg (by omega), odd_bits]

theorem beq_true {x y : Int} (h : x = y) : (x == y) = true := by simpa using h
theorem wyk {neg : Bool} {how : Int} {w : World} (way : Int) (hh : how = 1 ∨ how = 2 ∨ how = 3) (hw : wy neg how = way) (k : Int) (hk : way + 1 = k) :
    Calls Tryd.prog 59 #[.bool neg, .int .i64 how] w fun e w' => e = .returned (.int .i64 k) ∧ w' = w := by
  have := c59 neg how hh w
  rw [hw, hk] at this
  exact this

theorem c55_1 (neg : Bool) (m : Nat) (e how way : Int) (hm : m < 18446744073709551616) (h0 : m ≠ 0) (hh : how = 1 ∨ how = 2 ∨ how = 3) (hwy : wy neg how = way) (hw : way = 0 ∨ way = 1 ∨ way = 2) (he1 : -20000 ≤ e) (he2 : e ≤ 20000)
    (hT : ¬ (e - (nz m : Int) + 11 < -1074)) (w : World) :
    Calls Tryd.prog 55 #[.bool neg, .int .u64 m, .int .i64 e, .bool false, .int .i64 how] w fun r w' => r = .returned (.float .f64 (sig neg (bod m e way).toNat)) ∧ w' = w := by
  obtain ⟨hz, ht0, ht1⟩ := nz_facts m hm h0
  have hm0 : ((m : Int) == 0) = false := int_beq_false (by omega)
  have hE1 : -20063 ≤ e - (nz m : Int) := by omega
  have hE2 : e - (nz m : Int) ≤ 20000 := by omega
  have hB0 := bod_1 m e way hT
  have hK : ((tp m : Nat) : Int) / 2048 = ((tp m / 2048 : Nat) : Int) := by omega
  have hL : bits .and .u64 ((tp m : Nat) : Int) 2047 = ((tp m % 2048 : Nat) : Int) := by
    have := low_bits (tp m) 11 ht1 (by decide)
    exact this
  have hK1 : IntKind.u64.wrap (((tp m / 2048 : Nat) : Int) + 1) = ((tp m / 2048 + 1 : Nat) : Int) := by rw [IntKind.wrap_u64]; omega
  have ho := odd_bits (tp m / 2048)
  have ho' := odd_bits' (tp m / 2048)
  have hA1 : (4503599627370496 : Int) ≤ ((tp m / 2048 : Nat) : Int) := by omega
  have hA2 : ((tp m / 2048 : Nat) : Int) < 9007199254740992 := by omega
  have hB1 : (4503599627370496 : Int) ≤ ((tp m / 2048 + 1 : Nat) : Int) := by omega
  have hB2 : ((tp m / 2048 + 1 : Nat) : Int) ≤ 9007199254740992 := by omega
  have k0 : 4503599627370496 ≤ tp m / 2048 ∧ tp m / 2048 ≤ 9007199254740992 := by omega
  have k1 : 4503599627370496 ≤ tp m / 2048 + 1 ∧ tp m / 2048 + 1 ≤ 9007199254740992 := by omega
  have hF : 2 ^ 11 = 2 * 1024 := by decide
  rcases hw with rfl | rfl | rfl
  · have k59 := fun w => wyk (w := w) 0 hh hwy 1 (by decide)
    rw [rnd_0] at hB0
    have hB : bod m e 0 = hold (e - (nz m : Int)) ((tp m / 2048 : Nat) : Int) 0 := hB0
    exact p55_1_1a neg m e how (tp m) (e - (nz m : Int)) w (nr_start m e hm h0) hm0 he1 he2 (fun X Y h hX => nr_end hm h0 h hX) k59 (gs neg) (ovr neg 1) (fun r w => c60 neg r w) (fun w => c61 neg 1 (by decide) w) hE1 hE2 _ _ _ _ _ hT hK hL ho ho' hK1 hA1 hA2 hB1 hB2 (t1A hB k0 (by decide)) (t1B hB k0 hT) (t1C hB k0 (by decide)) (t1D hB k0 hT)
  · have k59 := fun w => wyk (w := w) 1 hh hwy 2 (by decide)
    by_cases c1 : 1024 < tp m % 2048
    · rw [rnd_1a hF c1] at hB0
      have hB : bod m e 1 = hold (e - (nz m : Int)) ((tp m / 2048 + 1 : Nat) : Int) 1 := hB0
      exact p55_1_2a neg m e how (tp m) (e - (nz m : Int)) w (nr_start m e hm h0) hm0 he1 he2 (fun X Y h hX => nr_end hm h0 h hX) k59 (gs neg) (ovr neg 2) (fun r w => c60 neg r w) (fun w => c61 neg 2 (by decide) w) hE1 hE2 _ _ _ _ _ hT hK hL ho ho' hK1 hA1 hA2 hB1 hB2 (by omega) (t1A hB k1 (by decide)) (t1B hB k1 hT) (t1C hB k1 (by decide)) (t1D hB k1 hT)
    · by_cases c2 : tp m % 2048 = 1024
      · by_cases c3 : tp m / 2048 % 2 = 1
        · rw [rnd_1b hF c2 c3] at hB0
          have hB : bod m e 1 = hold (e - (nz m : Int)) ((tp m / 2048 + 1 : Nat) : Int) 1 := hB0
          exact p55_1_2b neg m e how (tp m) (e - (nz m : Int)) w (nr_start m e hm h0) hm0 he1 he2 (fun X Y h hX => nr_end hm h0 h hX) k59 (gs neg) (ovr neg 2) (fun r w => c60 neg r w) (fun w => c61 neg 2 (by decide) w) hE1 hE2 _ _ _ _ _ hT hK hL ho ho' hK1 hA1 hA2 hB1 hB2 (by omega) (beq_true (by omega)) (decide_eq_true c3) (t1A hB k1 (by decide)) (t1B hB k1 hT) (t1C hB k1 (by decide)) (t1D hB k1 hT)
        · rw [rnd_1c hF c2 c3] at hB0
          have hB : bod m e 1 = hold (e - (nz m : Int)) ((tp m / 2048 : Nat) : Int) 1 := hB0
          exact p55_1_2c neg m e how (tp m) (e - (nz m : Int)) w (nr_start m e hm h0) hm0 he1 he2 (fun X Y h hX => nr_end hm h0 h hX) k59 (gs neg) (ovr neg 2) (fun r w => c60 neg r w) (fun w => c61 neg 2 (by decide) w) hE1 hE2 _ _ _ _ _ hT hK hL ho ho' hK1 hA1 hA2 hB1 hB2 (by omega) (beq_true (by omega)) (decide_eq_false c3) (t1A hB k0 (by decide)) (t1B hB k0 hT) (t1C hB k0 (by decide)) (t1D hB k0 hT)
      · rw [rnd_1d hF (by omega)] at hB0
        have hB : bod m e 1 = hold (e - (nz m : Int)) ((tp m / 2048 : Nat) : Int) 1 := hB0
        exact p55_1_2d neg m e how (tp m) (e - (nz m : Int)) w (nr_start m e hm h0) hm0 he1 he2 (fun X Y h hX => nr_end hm h0 h hX) k59 (gs neg) (ovr neg 2) (fun r w => c60 neg r w) (fun w => c61 neg 2 (by decide) w) hE1 hE2 _ _ _ _ _ hT hK hL ho ho' hK1 hA1 hA2 hB1 hB2 (by omega) (int_beq_false (by omega)) (t1A hB k0 (by decide)) (t1B hB k0 hT) (t1C hB k0 (by decide)) (t1D hB k0 hT)
  · have k59 := fun w => wyk (w := w) 2 hh hwy 3 (by decide)
    by_cases c1 : tp m % 2048 = 0
    · rw [rnd_2b c1] at hB0
      have hB : bod m e 2 = hold (e - (nz m : Int)) ((tp m / 2048 : Nat) : Int) 2 := hB0
      exact p55_1_3b neg m e how (tp m) (e - (nz m : Int)) w (nr_start m e hm h0) hm0 he1 he2 (fun X Y h hX => nr_end hm h0 h hX) k59 (gs neg) (ovr neg 3) (fun r w => c60 neg r w) (fun w => c61 neg 3 (by decide) w) hE1 hE2 _ _ _ _ _ hT hK hL ho ho' hK1 hA1 hA2 hB1 hB2 (by omega) (t1A hB k0 (by decide)) (t1B hB k0 hT) (t1C hB k0 (by decide)) (t1D hB k0 hT)
    · rw [rnd_2a c1] at hB0
      have hB : bod m e 2 = hold (e - (nz m : Int)) ((tp m / 2048 + 1 : Nat) : Int) 2 := hB0
      exact p55_1_3a neg m e how (tp m) (e - (nz m : Int)) w (nr_start m e hm h0) hm0 he1 he2 (fun X Y h hX => nr_end hm h0 h hX) k59 (gs neg) (ovr neg 3) (fun r w => c60 neg r w) (fun w => c61 neg 3 (by decide) w) hE1 hE2 _ _ _ _ _ hT hK hL ho ho' hK1 hA1 hA2 hB1 hB2 (by omega) (t1A hB k1 (by decide)) (t1B hB k1 hT) (t1C hB k1 (by decide)) (t1D hB k1 hT)

theorem c55_2 (neg : Bool) (m : Nat) (e how way : Int) (hm : m < 18446744073709551616) (h0 : m ≠ 0) (hh : how = 1 ∨ how = 2 ∨ how = 3) (hwy : wy neg how = way) (hw : way = 0 ∨ way = 1 ∨ way = 2) (he1 : -20000 ≤ e) (he2 : e ≤ 20000)
    (hT : e - (nz m : Int) + 11 < -1074) (w : World) :
    Calls Tryd.prog 55 #[.bool neg, .int .u64 m, .int .i64 e, .bool false, .int .i64 how] w fun r w' => r = .returned (.float .f64 (sig neg (bod m e way).toNat)) ∧ w' = w := by
  obtain ⟨hz, ht0, ht1⟩ := nz_facts m hm h0
  have hm0 : ((m : Int) == 0) = false := int_beq_false (by omega)
  have hE1 : -20063 ≤ e - (nz m : Int) := by omega
  have hE2 : e - (nz m : Int) ≤ 20000 := by omega
  obtain ⟨D, hD⟩ : ∃ D : Nat, (D : Int) = -1074 - (e - (nz m : Int)) := ⟨(-1074 - (e - (nz m : Int))).toNat, by omega⟩
  by_cases d1 : 64 < D
  · have hr := rnd_big (tp m) D way ht1 (by omega) d1
    have hB := bod_2 m D e way hT hD (by rw [hr]; split <;> decide)
    rw [hr] at hB
    rcases hw with rfl | rfl | rfl
    · have k59 := fun w => wyk (w := w) 0 hh hwy 1 (by decide)
      refine p55_4_1 neg m e how (tp m) (e - (nz m : Int)) w (nr_start m e hm h0) hm0 he1 he2 (fun X Y h hX => nr_end hm h0 h hX) k59 (gs neg) (ovr neg 1) (fun r w => c60 neg r w) (fun w => c61 neg 1 (by decide) w) hE1 hE2 D _ hT hD.symm (by omega) ?_
      show gs neg 0 = sig neg (bod m e 0).toNat
      rw [hB, gs_sig neg 0 (by decide)]
      rfl
    · have k59 := fun w => wyk (w := w) 1 hh hwy 2 (by decide)
      refine p55_4_2 neg m e how (tp m) (e - (nz m : Int)) w (nr_start m e hm h0) hm0 he1 he2 (fun X Y h hX => nr_end hm h0 h hX) k59 (gs neg) (ovr neg 2) (fun r w => c60 neg r w) (fun w => c61 neg 2 (by decide) w) hE1 hE2 D _ hT hD.symm (by omega) ?_
      show gs neg 0 = sig neg (bod m e 1).toNat
      rw [hB, gs_sig neg 0 (by decide)]
      rfl
    · have k59 := fun w => wyk (w := w) 2 hh hwy 3 (by decide)
      refine p55_4_3 neg m e how (tp m) (e - (nz m : Int)) w (nr_start m e hm h0) hm0 he1 he2 (fun X Y h hX => nr_end hm h0 h hX) k59 (gs neg) (ovr neg 3) (fun r w => c60 neg r w) (fun w => c61 neg 3 (by decide) w) hE1 hE2 D _ hT hD.symm (by omega) ?_
      show gs neg 1 = sig neg (bod m e 2).toNat
      rw [hB, gs_sig neg 1 (by decide)]
      rfl
  · by_cases d2 : D = 64
    · subst d2
      have hE : e - (nz m : Int) = -1138 := by omega
      have q0 : tp m / 2 ^ 64 = 0 := Nat.div_eq_of_lt ht1
      have q1 : tp m % 2 ^ 64 = tp m := Nat.mod_eq_of_lt ht1
      have hF : 2 ^ 64 = 2 * 9223372036854775808 := by decide
      rcases hw with rfl | rfl | rfl
      · have k59 := fun w => wyk (w := w) 0 hh hwy 1 (by decide)
        have hr : rnd (tp m) 64 0 = 0 := by rw [rnd_0, q0]
        have hB := bod_2 m 64 e 0 hT hD (by rw [hr]; decide)
        rw [hr] at hB
        refine p55_3_1a neg m e how (tp m) (e - (nz m : Int)) w (nr_start m e hm h0) hm0 he1 he2 (fun X Y h hX => nr_end hm h0 h hX) k59 (gs neg) (ovr neg 1) (fun r w => c60 neg r w) (fun w => c61 neg 1 (by decide) w) hE1 hE2 _ hE ?_
        show gs neg 0 = sig neg (bod m e 0).toNat
        rw [hB, gs_sig neg 0 (by decide)]
        rfl
      · have k59 := fun w => wyk (w := w) 1 hh hwy 2 (by decide)
        by_cases c1 : 9223372036854775808 < tp m
        · have hr : rnd (tp m) 64 1 = 1 := by rw [rnd_1a hF (by rw [q1]; exact c1), q0]
          have hB := bod_2 m 64 e 1 hT hD (by rw [hr]; decide)
          rw [hr] at hB
          refine p55_3_2a neg m e how (tp m) (e - (nz m : Int)) w (nr_start m e hm h0) hm0 he1 he2 (fun X Y h hX => nr_end hm h0 h hX) k59 (gs neg) (ovr neg 2) (fun r w => c60 neg r w) (fun w => c61 neg 2 (by decide) w) hE1 hE2 _ hE (by omega) ?_
          show gs neg 1 = sig neg (bod m e 1).toNat
          rw [hB, gs_sig neg 1 (by decide)]
          rfl
        · have hr : rnd (tp m) 64 1 = 0 := by rw [rnd_1c hF (by rw [q1]; omega) (by rw [q0]; decide), q0]
          have hB := bod_2 m 64 e 1 hT hD (by rw [hr]; decide)
          rw [hr] at hB
          refine p55_3_2b neg m e how (tp m) (e - (nz m : Int)) w (nr_start m e hm h0) hm0 he1 he2 (fun X Y h hX => nr_end hm h0 h hX) k59 (gs neg) (ovr neg 2) (fun r w => c60 neg r w) (fun w => c61 neg 2 (by decide) w) hE1 hE2 _ hE (by omega) ?_
          show gs neg 0 = sig neg (bod m e 1).toNat
          rw [hB, gs_sig neg 0 (by decide)]
          rfl
      · have k59 := fun w => wyk (w := w) 2 hh hwy 3 (by decide)
        have hr : rnd (tp m) 64 2 = 1 := by rw [rnd_2a (by rw [q1]; omega), q0]
        have hB := bod_2 m 64 e 2 hT hD (by rw [hr]; decide)
        rw [hr] at hB
        refine p55_3_3a neg m e how (tp m) (e - (nz m : Int)) w (nr_start m e hm h0) hm0 he1 he2 (fun X Y h hX => nr_end hm h0 h hX) k59 (gs neg) (ovr neg 3) (fun r w => c60 neg r w) (fun w => c61 neg 3 (by decide) w) hE1 hE2 _ hE ?_
        show gs neg 1 = sig neg (bod m e 2).toNat
        rw [hB, gs_sig neg 1 (by decide)]
        rfl
    · have d3 : 12 ≤ D := by omega
      have d4 : D < 64 := by omega
      have hp : 2 ^ 12 ≤ 2 ^ D := Nat.pow_le_pow_right (by decide) d3
      have hq : tp m / 2 ^ D ≤ tp m / 2 ^ 12 := Nat.div_le_div_left hp (by decide)
      have hq2 : tp m / 2 ^ D < 4503599627370496 := by omega
      have hF : 2 ^ D = 2 * 2 ^ (D - 1) := by rw [← Nat.pow_succ', show (D - 1).succ = D by omega]
      have hK : ((tp m : Nat) : Int) / 2 ^ (D : Int).toNat = ((tp m / 2 ^ D : Nat) : Int) := by rw [Int.toNat_natCast]; simp
      have hL := low_bits (tp m) D ht1 d4
      have hFb := half_bits D (by omega) d4
      have ho := odd_bits (tp m / 2 ^ D)
      have ho' := odd_bits' (tp m / 2 ^ D)
      have hK1 : IntKind.u64.wrap (((tp m / 2 ^ D : Nat) : Int) + 1) = ((tp m / 2 ^ D + 1 : Nat) : Int) := by
        clear hK hL hFb ho ho' hq hp hF
        generalize tp m / 2 ^ D = K at hq2 ⊢
        rw [IntKind.wrap_u64]
        omega
      have hA1 : (0 : Int) ≤ ((tp m / 2 ^ D : Nat) : Int) := Int.natCast_nonneg _
      have hA2 : ((tp m / 2 ^ D : Nat) : Int) < 4503599627370496 := Int.ofNat_lt.2 hq2
      have hB1 : (0 : Int) ≤ ((tp m / 2 ^ D + 1 : Nat) : Int) := Int.natCast_nonneg _
      have hB2 : ((tp m / 2 ^ D + 1 : Nat) : Int) ≤ 4503599627370496 := Int.ofNat_le.2 hq2
      have k0 : tp m / 2 ^ D ≤ 4503599627370496 := Nat.le_of_lt hq2
      have k1 : tp m / 2 ^ D + 1 ≤ 4503599627370496 := hq2
      have hd1 : (12 : Int) ≤ (D : Int) := by omega
      have hd2 : (D : Int) < 64 := by omega
      rcases hw with rfl | rfl | rfl
      · have k59 := fun w => wyk (w := w) 0 hh hwy 1 (by decide)
        have hB := bod_2 m D e 0 hT hD (by rw [rnd_0]; exact k0)
        rw [rnd_0] at hB
        exact p55_2_1a neg m e how (tp m) (e - (nz m : Int)) w (nr_start m e hm h0) hm0 he1 he2 (fun X Y h hX => nr_end hm h0 h hX) k59 (gs neg) (ovr neg 1) (fun r w => c60 neg r w) (fun w => c61 neg 1 (by decide) w) hE1 hE2 D _ _ _ _ _ _ hT hD.symm hd1 hd2 hK hL hFb ho ho' hK1 hA1 hA2 hB1 hB2 (t2A hB) (t2B hB k0 hD.symm)
      · have k59 := fun w => wyk (w := w) 1 hh hwy 2 (by decide)
        by_cases c1 : 2 ^ (D - 1) < tp m % 2 ^ D
        · have hB := bod_2 m D e 1 hT hD (by rw [rnd_1a hF c1]; exact k1)
          rw [rnd_1a hF c1] at hB
          exact p55_2_2a neg m e how (tp m) (e - (nz m : Int)) w (nr_start m e hm h0) hm0 he1 he2 (fun X Y h hX => nr_end hm h0 h hX) k59 (gs neg) (ovr neg 2) (fun r w => c60 neg r w) (fun w => c61 neg 2 (by decide) w) hE1 hE2 D _ _ _ _ _ _ hT hD.symm hd1 hd2 hK hL hFb ho ho' hK1 hA1 hA2 hB1 hB2 (Int.ofNat_lt.2 c1) (t2A hB) (t2B hB k1 hD.symm)
        · have c1' : ¬ ((2 ^ (D - 1) : Nat) : Int) < ((tp m % 2 ^ D : Nat) : Int) := fun hh => c1 (Int.ofNat_lt.1 hh)
          by_cases c2 : tp m % 2 ^ D = 2 ^ (D - 1)
          · have c2' : (((tp m % 2 ^ D : Nat) : Int) == ((2 ^ (D - 1) : Nat) : Int)) = true := beq_true (by rw [c2])
            by_cases c3 : tp m / 2 ^ D % 2 = 1
            · have hB := bod_2 m D e 1 hT hD (by rw [rnd_1b hF c2 c3]; exact k1)
              rw [rnd_1b hF c2 c3] at hB
              exact p55_2_2b neg m e how (tp m) (e - (nz m : Int)) w (nr_start m e hm h0) hm0 he1 he2 (fun X Y h hX => nr_end hm h0 h hX) k59 (gs neg) (ovr neg 2) (fun r w => c60 neg r w) (fun w => c61 neg 2 (by decide) w) hE1 hE2 D _ _ _ _ _ _ hT hD.symm hd1 hd2 hK hL hFb ho ho' hK1 hA1 hA2 hB1 hB2 c1' c2' (decide_eq_true c3) (t2A hB) (t2B hB k1 hD.symm)
            · have hB := bod_2 m D e 1 hT hD (by rw [rnd_1c hF c2 c3]; exact k0)
              rw [rnd_1c hF c2 c3] at hB
              exact p55_2_2c neg m e how (tp m) (e - (nz m : Int)) w (nr_start m e hm h0) hm0 he1 he2 (fun X Y h hX => nr_end hm h0 h hX) k59 (gs neg) (ovr neg 2) (fun r w => c60 neg r w) (fun w => c61 neg 2 (by decide) w) hE1 hE2 D _ _ _ _ _ _ hT hD.symm hd1 hd2 hK hL hFb ho ho' hK1 hA1 hA2 hB1 hB2 c1' c2' (decide_eq_false c3) (t2A hB) (t2B hB k0 hD.symm)
          · have c2' : (((tp m % 2 ^ D : Nat) : Int) == ((2 ^ (D - 1) : Nat) : Int)) = false := int_beq_false (fun hh => c2 (Int.ofNat.inj hh))
            have c4 : tp m % 2 ^ D < 2 ^ (D - 1) := by omega
            have hB := bod_2 m D e 1 hT hD (by rw [rnd_1d hF c4]; exact k0)
            rw [rnd_1d hF c4] at hB
            exact p55_2_2d neg m e how (tp m) (e - (nz m : Int)) w (nr_start m e hm h0) hm0 he1 he2 (fun X Y h hX => nr_end hm h0 h hX) k59 (gs neg) (ovr neg 2) (fun r w => c60 neg r w) (fun w => c61 neg 2 (by decide) w) hE1 hE2 D _ _ _ _ _ _ hT hD.symm hd1 hd2 hK hL hFb ho ho' hK1 hA1 hA2 hB1 hB2 c1' c2' (t2A hB) (t2B hB k0 hD.symm)
      · have k59 := fun w => wyk (w := w) 2 hh hwy 3 (by decide)
        by_cases c1 : tp m % 2 ^ D = 0
        · have hB := bod_2 m D e 2 hT hD (by rw [rnd_2b c1]; exact k0)
          rw [rnd_2b c1] at hB
          exact p55_2_3b neg m e how (tp m) (e - (nz m : Int)) w (nr_start m e hm h0) hm0 he1 he2 (fun X Y h hX => nr_end hm h0 h hX) k59 (gs neg) (ovr neg 3) (fun r w => c60 neg r w) (fun w => c61 neg 3 (by decide) w) hE1 hE2 D _ _ _ _ _ _ hT hD.symm hd1 hd2 hK hL hFb ho ho' hK1 hA1 hA2 hB1 hB2 (by rw [c1]; decide) (t2A hB) (t2B hB k0 hD.symm)
        · have hB := bod_2 m D e 2 hT hD (by rw [rnd_2a c1]; exact k1)
          rw [rnd_2a c1] at hB
          exact p55_2_3a neg m e how (tp m) (e - (nz m : Int)) w (nr_start m e hm h0) hm0 he1 he2 (fun X Y h hX => nr_end hm h0 h hX) k59 (gs neg) (ovr neg 3) (fun r w => c60 neg r w) (fun w => c61 neg 3 (by decide) w) hE1 hE2 D _ _ _ _ _ _ hT hD.symm hd1 hd2 hK hL hFb ho ho' hK1 hA1 hA2 hB1 hB2 (Int.ofNat_lt.2 (Nat.pos_of_ne_zero c1)) (t2A hB) (t2B hB k1 hD.symm)

theorem wy_or (neg : Bool) (how : Int) : wy neg how = 0 ∨ wy neg how = 1 ∨ wy neg how = 2 := by
  unfold wy
  split
  · exact .inr (.inl rfl)
  · split
    · exact .inr (.inr rfl)
    · exact .inl rfl

theorem c55 (neg : Bool) (m : Nat) (e how : Int) (hm : m < 18446744073709551616) (hh : how = 1 ∨ how = 2 ∨ how = 3) (w : World) :
    Calls Tryd.prog 55 #[.bool neg, .int .u64 m, .int .i64 e, .bool false, .int .i64 how] w fun r w' => r = .returned (.float .f64 (sig neg (if m = 0 then 0 else (bod m e (wy neg how)).toNat))) ∧ w' = w := by
  by_cases h0 : m = 0
  · subst h0
    rw [if_pos rfl]
    exact c55_0 neg e how _ w (fun w => c59 neg how hh w)
  · rw [if_neg h0]
    have hm0 : ((m : Int) == 0) = false := int_beq_false (by omega)
    have hw := wy_or neg how
    generalize hwy : wy neg how = way at hw ⊢
    obtain ⟨hz, ht0, ht1⟩ := nz_facts m hm h0
    by_cases he1 : 20000 < e
    · have hB : bod m e way = if way == 0 then 9218868437227405311 else 9218868437227405312 := by
        have q2 := (raw_bounds m e way hm h0).1
        have p2 : pl m e = e - (nz m : Int) + 63 - 52 := by unfold pl; rw [if_neg (by omega)]
        unfold bod
        rw [if_neg (show ¬ raw m e way < 9218868437227405312 by omega)]
      rw [hB]
      rcases hw with rfl | rfl | rfl
      · exact c55_hi neg m e how 1 _ w hm0 he1 (fun w => wyk (w := w) 0 hh hwy 1 (by decide)) (fun w => c61 neg 1 (by decide) w)
      · exact c55_hi neg m e how 2 _ w hm0 he1 (fun w => wyk (w := w) 1 hh hwy 2 (by decide)) (fun w => c61 neg 2 (by decide) w)
      · exact c55_hi neg m e how 3 _ w hm0 he1 (fun w => wyk (w := w) 2 hh hwy 3 (by decide)) (fun w => c61 neg 3 (by decide) w)
    · by_cases he2 : e < -20000
      · obtain ⟨D, hD⟩ : ∃ D : Nat, (D : Int) = -1074 - (e - (nz m : Int)) := ⟨(-1074 - (e - (nz m : Int))).toNat, by omega⟩
        have hr := rnd_big (tp m) D way ht1 (by omega) (by omega)
        have hB := bod_2 m D e way (by omega) hD (by rw [hr]; split <;> decide)
        rw [hr] at hB
        rw [hB]
        rcases hw with rfl | rfl | rfl
        · have := c55_lo1 neg m e how 1 w hm0 he2 (by decide) (fun w => wyk (w := w) 0 hh hwy 1 (by decide))
          rw [gs_sig neg 0 (by decide)] at this
          exact this
        · have := c55_lo1 neg m e how 2 w hm0 he2 (by decide) (fun w => wyk (w := w) 1 hh hwy 2 (by decide))
          rw [gs_sig neg 0 (by decide)] at this
          exact this
        · have := c55_lo3 neg m e how w hm0 he2 (fun w => wyk (w := w) 2 hh hwy 3 (by decide))
          rw [gs_sig neg 1 (by decide)] at this
          exact this
      · by_cases hT : e - (nz m : Int) + 11 < -1074
        · exact c55_2 neg m e how way hm h0 hh hwy hw (by omega) (by omega) hT w
        · exact c55_1 neg m e how way hm h0 hh hwy hw (by omega) (by omega) hT w

theorem c54 (w : World) : Calls Tryd.prog 54 #[] w fun e w' => e = .returned (.float .f64 9221120237041090560) ∧ w' = w := by
  go_enter Tryd.func54, Tryd.ntmps54
  go_wp2_with (first | (go_at_call 40; refine (c40 _ _).mono ?_; rintro e w' ⟨rfl, rfl⟩))
  go_ret
  exact ⟨rfl, rfl⟩

theorem c25_1 (neg : Bool) (m e how : Int) (r : Nat) (w : World) (h1 : 1 ≤ how) (h2 : how ≤ 3)
    (k55 : ∀ w, Calls Tryd.prog 55 #[.bool neg, .int .u64 m, .int .i64 e, .bool false, .int .i64 how] w fun e w' => e = .returned (.float .f64 r) ∧ w' = w) :
    Calls Tryd.prog 25 #[.bool neg, .int .u64 m, .int .i64 e, .int .i64 how] w fun e w' => e = .returned (.float .f64 r) ∧ w' = w := by
  go_enter Tryd.func25, Tryd.ntmps25
  go_wp2_with (first | (go_at_call 55; refine (k55 _).mono ?_; rintro e w' ⟨rfl, rfl⟩))
  go_ret
  exact ⟨rfl, rfl⟩
theorem c25_2 (neg : Bool) (m e how : Int) (w : World) (h1 : how < 1) :
    Calls Tryd.prog 25 #[.bool neg, .int .u64 m, .int .i64 e, .int .i64 how] w fun e w' => e = .returned (.float .f64 9221120237041090560) ∧ w' = w := by
  go_enter Tryd.func25, Tryd.ntmps25
  go_wp2_with (first | (go_at_call 54; refine (c54 _).mono ?_; rintro e w' ⟨rfl, rfl⟩))
  go_ret
  exact ⟨rfl, rfl⟩
theorem c25_3 (neg : Bool) (m e how : Int) (w : World) (h1 : ¬ how < 1) (h2 : 3 < how) :
    Calls Tryd.prog 25 #[.bool neg, .int .u64 m, .int .i64 e, .int .i64 how] w fun e w' => e = .returned (.float .f64 9221120237041090560) ∧ w' = w := by
  go_enter Tryd.func25, Tryd.ntmps25
  go_wp2_with (first | (go_at_call 54; refine (c54 _).mono ?_; rintro e w' ⟨rfl, rfl⟩))
  go_ret
  exact ⟨rfl, rfl⟩

theorem c25 (neg : Bool) (m : Nat) (e mode : Int) (hm : m < 18446744073709551616) (w : World) :
    Calls Tryd.prog 25 #[.bool neg, .int .u64 m, .int .i64 e, .int .i64 mode] w fun r w' => r = .returned (.float .f64 (mk neg m e mode 9221120237041090560)) ∧ w' = w := by
  unfold mk
  by_cases hmode : mode = 1 ∨ mode = 2 ∨ mode = 3
  · rw [if_pos hmode]
    exact c25_1 neg m e mode _ w (by omega) (by omega) (fun w => c55 neg m e mode hm hmode w)
  · rw [if_neg hmode]
    by_cases h1 : mode < 1
    · exact c25_2 neg m e mode w h1
    · exact c25_3 neg m e mode w h1 (by omega)

theorem mk_same (neg : Bool) (m : Nat) (e mode : Int) : same (mk neg m e mode 9221120237041090561) (mk neg m e mode 9221120237041090560) = true := by
  unfold mk
  by_cases hmode : mode = 1 ∨ mode = 2 ∨ mode = 3
  · rw [if_pos hmode, if_pos hmode, same_self]
  · rw [if_neg hmode, if_neg hmode]
    decide
theorem mk_lt (neg : Bool) (m : Nat) (e mode : Int) (nan : Nat) (hm : m < 18446744073709551616) (hn : nan < 18446744073709551616) : mk neg m e mode nan < 18446744073709551616 := by
  unfold mk
  split
  · have hs : ∀ r, r ≤ 9218868437227405312 → sig neg r < 18446744073709551616 := by
      intro r hr
      unfold sig
      split <;> omega
    apply hs
    split
    · omega
    · rename_i h0
      have := bod_bounds m e (wy neg mode) hm h0
      omega
  · exact hn

end Go.Proofs.YtacaidobfildoaaDoor
