/- What the document's Pack answers: the walks, the plain facts taken as they come. -/
import Derived.Test.YtacaidobfildoaaDoorW9
import Derived.LoopTactic
namespace Go.Proofs.YtacaidobfildoaaDoor
set_option linter.unusedVariables false
set_option linter.unusedSimpArgs false
open Go.RowKit Go.Fl64

/-- What holds at the head of the loop that moves m up. -/
def NR (m0 : Nat) (e0 X Y : Int) : Prop := ∃ j : Nat, X = (m0 : Int) * 2 ^ j ∧ Y = e0 - (j : Int) ∧ 0 < X ∧ X < 18446744073709551616 ∧ j ≤ 64

theorem nr_step {m0 : Nat} {e0 X Y : Int} (h : NR m0 e0 X Y) (he1 : -20000 ≤ e0) (he2 : e0 ≤ 20000) (hlt : X < 9223372036854775808) :
    (∃ X_1 Y_1 : Int, Value.int .u64 (IntKind.u64.wrap (X * 2)) = Value.int .u64 X_1 ∧ Value.int .i64 (wrap64 (Y - 1)) = Value.int .i64 Y_1 ∧ Hid (NR m0 e0 X_1 Y_1)) ∧
    (18446744073709551616 - intOf (Value.int .u64 (IntKind.u64.wrap (X * 2)))).toNat < (18446744073709551616 - intOf (Value.int .u64 X)).toNat := by
  obtain ⟨j, h1, h2, h3, h4, h5⟩ := h
  have e1 : IntKind.u64.wrap (X * 2) = X * 2 := by rw [IntKind.wrap_u64]; omega
  have e2 : wrap64 (Y - 1) = Y - 1 := by unfold wrap64; omega
  rw [e1, e2]
  have hj : j < 64 := by
    apply Nat.lt_of_not_le
    intro hle
    have a0 : j = 64 := by omega
    subst a0
    have a1 : 1 ≤ (m0 : Int) := by
      have : m0 ≠ 0 := by
        intro e
        subst e
        simp at h1
        omega
      omega
    have : (m0 : Int) * 2 ^ 64 = (m0 : Int) * 18446744073709551616 := rfl
    omega
  refine ⟨⟨_, _, rfl, rfl, (⟨j + 1, ?_, ?_, ?_, ?_, ?_⟩ : NR m0 e0 (X * 2) (Y - 1))⟩, ?_⟩
  · rw [h1, Int.pow_succ, Int.mul_assoc]
  · omega
  · omega
  · omega
  · omega
  · show (18446744073709551616 - X * 2).toNat < (18446744073709551616 - X).toNat
    omega

set_option maxHeartbeats 1000000 in
theorem p55_1_1a (neg : Bool) (m0 : Nat) (e0 how M E : Int) (w : World) (HN : Hid (NR m0 e0 m0 e0)) (hm : ((m0 : Int) == 0) = false) (he1 : -20000 ≤ e0) (he2 : e0 ≤ 20000)
    (HX : Hid (∀ X Y, NR m0 e0 X Y → 9223372036854775808 ≤ X → X = M ∧ Y = E))
    (k59 : ∀ w, Calls Tryd.prog 59 #[.bool neg, .int .i64 how] w fun e w' => e = .returned (.int .i64 1) ∧ w' = w)
    (G : Nat → Nat) (OV : Nat) (k60 : ∀ (r : Nat) w, Calls Tryd.prog 60 #[.bool neg, .float .f64 r] w fun e w' => e = .returned (.float .f64 (G r)) ∧ w' = w)
    (k61 : ∀ w, Calls Tryd.prog 61 #[.bool neg, .int .i64 1] w fun e w' => e = .returned (.float .f64 OV) ∧ w' = w)
    (hE1 : -20063 ≤ E) (hE2 : E ≤ 20000) (K K1 L : Int) (o : Bool) (V : Nat) (hT : ¬ (E + 11 < -1074)) (hK : M / 2048 = K) (hL : bits .and .u64 M 2047 = L) (ho : (K % 2 == 1) = o) (ho' : (K.tmod 2 == 1) = o) (hK1 : IntKind.u64.wrap (K + 1) = K1) (hA1 : 4503599627370496 ≤ K) (hA2 : K < 9007199254740992) (hB1 : 4503599627370496 ≤ K1) (hB2 : K1 ≤ 9007199254740992) (FA : Hid ((K == 9007199254740992) = true → 971 < E + 11 + 1 → OV = V)) (FB : Hid ((K == 9007199254740992) = true → E + 11 + 1 ≤ 971 → G (bits BinOp.or IntKind.u64 ((E + 11 + 1 + 1075) * 4503599627370496) (bits BinOp.and IntKind.u64 4503599627370496 4503599627370495)).toNat = V))
    (FC : Hid ((K == 9007199254740992) = false → 971 < E + 11 → OV = V)) (FD : Hid ((K == 9007199254740992) = false → E + 11 ≤ 971 → G (bits BinOp.or IntKind.u64 ((E + 11 + 1075) * 4503599627370496) (bits BinOp.and IntKind.u64 K 4503599627370495)).toNat = V)) :
    Calls Tryd.prog 55 #[.bool neg, .int .u64 m0, .int .i64 e0, .bool false, .int .i64 how] w fun e w' => e = .returned (.float .f64 V) ∧ w' = w := by
  go_enter Tryd.func55, Tryd.ntmps55
  go_wp2_with (first | (go_at_call 59; refine (k59 _).mono ?_; rintro e w' ⟨rfl, rfl⟩))
  go_loop [1, 2] (fun m e => ∃ (X Y : Int), m = .int .u64 X ∧ e = .int .i64 Y ∧ Hid (NR m0 e0 X Y)) (fun m _ => (18446744073709551616 - intOf m).toNat)
  case atStart => exact ⟨m0, e0, rfl, rfl, HN⟩
  case round =>
    obtain ⟨X, Y, rfl, rfl, hx⟩ := hrel
    by_cases hlt : X < 9223372036854775808
    · go_wp2
      exact nr_step hx.out he1 he2 hlt
    · obtain ⟨rfl, rfl⟩ := HX.out X Y hx.out (by omega)
      clear HX hx HN hm
      go_wp2_with (first | (go_at_call 40; refine (c40 _ _).mono ?_; rintro e w' ⟨rfl, rfl⟩) | (go_at_call 60; refine (k60 _ _).mono ?_; rintro e w' ⟨rfl, rfl⟩) | (go_at_call 61; refine (k61 _).mono ?_; rintro e w' ⟨rfl, rfl⟩))
      all_goals go_ret
      all_goals (refine ⟨?_, rfl⟩; first | exact congrArg (fun v => Ending.returned (Value.float FloatKind.f64 v)) (FA.out (by assumption) (by assumption)) | exact congrArg (fun v => Ending.returned (Value.float FloatKind.f64 v)) (FB.out (by assumption) (by assumption)) | exact congrArg (fun v => Ending.returned (Value.float FloatKind.f64 v)) (FC.out (by assumption) (by assumption)) | exact congrArg (fun v => Ending.returned (Value.float FloatKind.f64 v)) (FD.out (by assumption) (by assumption)))

set_option maxHeartbeats 1000000 in
theorem p55_1_2a (neg : Bool) (m0 : Nat) (e0 how M E : Int) (w : World) (HN : Hid (NR m0 e0 m0 e0)) (hm : ((m0 : Int) == 0) = false) (he1 : -20000 ≤ e0) (he2 : e0 ≤ 20000)
    (HX : Hid (∀ X Y, NR m0 e0 X Y → 9223372036854775808 ≤ X → X = M ∧ Y = E))
    (k59 : ∀ w, Calls Tryd.prog 59 #[.bool neg, .int .i64 how] w fun e w' => e = .returned (.int .i64 2) ∧ w' = w)
    (G : Nat → Nat) (OV : Nat) (k60 : ∀ (r : Nat) w, Calls Tryd.prog 60 #[.bool neg, .float .f64 r] w fun e w' => e = .returned (.float .f64 (G r)) ∧ w' = w)
    (k61 : ∀ w, Calls Tryd.prog 61 #[.bool neg, .int .i64 2] w fun e w' => e = .returned (.float .f64 OV) ∧ w' = w)
    (hE1 : -20063 ≤ E) (hE2 : E ≤ 20000) (K K1 L : Int) (o : Bool) (V : Nat) (hT : ¬ (E + 11 < -1074)) (hK : M / 2048 = K) (hL : bits .and .u64 M 2047 = L) (ho : (K % 2 == 1) = o) (ho' : (K.tmod 2 == 1) = o) (hK1 : IntKind.u64.wrap (K + 1) = K1) (hA1 : 4503599627370496 ≤ K) (hA2 : K < 9007199254740992) (hB1 : 4503599627370496 ≤ K1) (hB2 : K1 ≤ 9007199254740992) (hc : 1024 < L) (FA : Hid ((K1 == 9007199254740992) = true → 971 < E + 11 + 1 → OV = V)) (FB : Hid ((K1 == 9007199254740992) = true → E + 11 + 1 ≤ 971 → G (bits BinOp.or IntKind.u64 ((E + 11 + 1 + 1075) * 4503599627370496) (bits BinOp.and IntKind.u64 4503599627370496 4503599627370495)).toNat = V))
    (FC : Hid ((K1 == 9007199254740992) = false → 971 < E + 11 → OV = V)) (FD : Hid ((K1 == 9007199254740992) = false → E + 11 ≤ 971 → G (bits BinOp.or IntKind.u64 ((E + 11 + 1075) * 4503599627370496) (bits BinOp.and IntKind.u64 K1 4503599627370495)).toNat = V)) :
    Calls Tryd.prog 55 #[.bool neg, .int .u64 m0, .int .i64 e0, .bool false, .int .i64 how] w fun e w' => e = .returned (.float .f64 V) ∧ w' = w := by
  go_enter Tryd.func55, Tryd.ntmps55
  go_wp2_with (first | (go_at_call 59; refine (k59 _).mono ?_; rintro e w' ⟨rfl, rfl⟩))
  go_loop [1, 2] (fun m e => ∃ (X Y : Int), m = .int .u64 X ∧ e = .int .i64 Y ∧ Hid (NR m0 e0 X Y)) (fun m _ => (18446744073709551616 - intOf m).toNat)
  case atStart => exact ⟨m0, e0, rfl, rfl, HN⟩
  case round =>
    obtain ⟨X, Y, rfl, rfl, hx⟩ := hrel
    by_cases hlt : X < 9223372036854775808
    · go_wp2
      exact nr_step hx.out he1 he2 hlt
    · obtain ⟨rfl, rfl⟩ := HX.out X Y hx.out (by omega)
      clear HX hx HN hm
      go_wp2_with (first | (go_at_call 40; refine (c40 _ _).mono ?_; rintro e w' ⟨rfl, rfl⟩) | (go_at_call 60; refine (k60 _ _).mono ?_; rintro e w' ⟨rfl, rfl⟩) | (go_at_call 61; refine (k61 _).mono ?_; rintro e w' ⟨rfl, rfl⟩))
      all_goals go_ret
      all_goals (refine ⟨?_, rfl⟩; first | exact congrArg (fun v => Ending.returned (Value.float FloatKind.f64 v)) (FA.out (by assumption) (by assumption)) | exact congrArg (fun v => Ending.returned (Value.float FloatKind.f64 v)) (FB.out (by assumption) (by assumption)) | exact congrArg (fun v => Ending.returned (Value.float FloatKind.f64 v)) (FC.out (by assumption) (by assumption)) | exact congrArg (fun v => Ending.returned (Value.float FloatKind.f64 v)) (FD.out (by assumption) (by assumption)))

set_option maxHeartbeats 1000000 in
theorem p55_1_2b (neg : Bool) (m0 : Nat) (e0 how M E : Int) (w : World) (HN : Hid (NR m0 e0 m0 e0)) (hm : ((m0 : Int) == 0) = false) (he1 : -20000 ≤ e0) (he2 : e0 ≤ 20000)
    (HX : Hid (∀ X Y, NR m0 e0 X Y → 9223372036854775808 ≤ X → X = M ∧ Y = E))
    (k59 : ∀ w, Calls Tryd.prog 59 #[.bool neg, .int .i64 how] w fun e w' => e = .returned (.int .i64 2) ∧ w' = w)
    (G : Nat → Nat) (OV : Nat) (k60 : ∀ (r : Nat) w, Calls Tryd.prog 60 #[.bool neg, .float .f64 r] w fun e w' => e = .returned (.float .f64 (G r)) ∧ w' = w)
    (k61 : ∀ w, Calls Tryd.prog 61 #[.bool neg, .int .i64 2] w fun e w' => e = .returned (.float .f64 OV) ∧ w' = w)
    (hE1 : -20063 ≤ E) (hE2 : E ≤ 20000) (K K1 L : Int) (o : Bool) (V : Nat) (hT : ¬ (E + 11 < -1074)) (hK : M / 2048 = K) (hL : bits .and .u64 M 2047 = L) (ho : (K % 2 == 1) = o) (ho' : (K.tmod 2 == 1) = o) (hK1 : IntKind.u64.wrap (K + 1) = K1) (hA1 : 4503599627370496 ≤ K) (hA2 : K < 9007199254740992) (hB1 : 4503599627370496 ≤ K1) (hB2 : K1 ≤ 9007199254740992) (hc : ¬ 1024 < L) (hc2 : (L == 1024) = true) (hc3 : o = true) (FA : Hid ((K1 == 9007199254740992) = true → 971 < E + 11 + 1 → OV = V)) (FB : Hid ((K1 == 9007199254740992) = true → E + 11 + 1 ≤ 971 → G (bits BinOp.or IntKind.u64 ((E + 11 + 1 + 1075) * 4503599627370496) (bits BinOp.and IntKind.u64 4503599627370496 4503599627370495)).toNat = V))
    (FC : Hid ((K1 == 9007199254740992) = false → 971 < E + 11 → OV = V)) (FD : Hid ((K1 == 9007199254740992) = false → E + 11 ≤ 971 → G (bits BinOp.or IntKind.u64 ((E + 11 + 1075) * 4503599627370496) (bits BinOp.and IntKind.u64 K1 4503599627370495)).toNat = V)) :
    Calls Tryd.prog 55 #[.bool neg, .int .u64 m0, .int .i64 e0, .bool false, .int .i64 how] w fun e w' => e = .returned (.float .f64 V) ∧ w' = w := by
  subst hc3
  go_enter Tryd.func55, Tryd.ntmps55
  go_wp2_with (first | (go_at_call 59; refine (k59 _).mono ?_; rintro e w' ⟨rfl, rfl⟩))
  go_loop [1, 2] (fun m e => ∃ (X Y : Int), m = .int .u64 X ∧ e = .int .i64 Y ∧ Hid (NR m0 e0 X Y)) (fun m _ => (18446744073709551616 - intOf m).toNat)
  case atStart => exact ⟨m0, e0, rfl, rfl, HN⟩
  case round =>
    obtain ⟨X, Y, rfl, rfl, hx⟩ := hrel
    by_cases hlt : X < 9223372036854775808
    · go_wp2
      exact nr_step hx.out he1 he2 hlt
    · obtain ⟨rfl, rfl⟩ := HX.out X Y hx.out (by omega)
      clear HX hx HN hm
      go_wp2_with (first | (go_at_call 40; refine (c40 _ _).mono ?_; rintro e w' ⟨rfl, rfl⟩) | (go_at_call 60; refine (k60 _ _).mono ?_; rintro e w' ⟨rfl, rfl⟩) | (go_at_call 61; refine (k61 _).mono ?_; rintro e w' ⟨rfl, rfl⟩))
      all_goals go_ret
      all_goals (refine ⟨?_, rfl⟩; first | exact congrArg (fun v => Ending.returned (Value.float FloatKind.f64 v)) (FA.out (by assumption) (by assumption)) | exact congrArg (fun v => Ending.returned (Value.float FloatKind.f64 v)) (FB.out (by assumption) (by assumption)) | exact congrArg (fun v => Ending.returned (Value.float FloatKind.f64 v)) (FC.out (by assumption) (by assumption)) | exact congrArg (fun v => Ending.returned (Value.float FloatKind.f64 v)) (FD.out (by assumption) (by assumption)))

set_option maxHeartbeats 1000000 in
theorem p55_1_2c (neg : Bool) (m0 : Nat) (e0 how M E : Int) (w : World) (HN : Hid (NR m0 e0 m0 e0)) (hm : ((m0 : Int) == 0) = false) (he1 : -20000 ≤ e0) (he2 : e0 ≤ 20000)
    (HX : Hid (∀ X Y, NR m0 e0 X Y → 9223372036854775808 ≤ X → X = M ∧ Y = E))
    (k59 : ∀ w, Calls Tryd.prog 59 #[.bool neg, .int .i64 how] w fun e w' => e = .returned (.int .i64 2) ∧ w' = w)
    (G : Nat → Nat) (OV : Nat) (k60 : ∀ (r : Nat) w, Calls Tryd.prog 60 #[.bool neg, .float .f64 r] w fun e w' => e = .returned (.float .f64 (G r)) ∧ w' = w)
    (k61 : ∀ w, Calls Tryd.prog 61 #[.bool neg, .int .i64 2] w fun e w' => e = .returned (.float .f64 OV) ∧ w' = w)
    (hE1 : -20063 ≤ E) (hE2 : E ≤ 20000) (K K1 L : Int) (o : Bool) (V : Nat) (hT : ¬ (E + 11 < -1074)) (hK : M / 2048 = K) (hL : bits .and .u64 M 2047 = L) (ho : (K % 2 == 1) = o) (ho' : (K.tmod 2 == 1) = o) (hK1 : IntKind.u64.wrap (K + 1) = K1) (hA1 : 4503599627370496 ≤ K) (hA2 : K < 9007199254740992) (hB1 : 4503599627370496 ≤ K1) (hB2 : K1 ≤ 9007199254740992) (hc : ¬ 1024 < L) (hc2 : (L == 1024) = true) (hc3 : o = false) (FA : Hid ((K == 9007199254740992) = true → 971 < E + 11 + 1 → OV = V)) (FB : Hid ((K == 9007199254740992) = true → E + 11 + 1 ≤ 971 → G (bits BinOp.or IntKind.u64 ((E + 11 + 1 + 1075) * 4503599627370496) (bits BinOp.and IntKind.u64 4503599627370496 4503599627370495)).toNat = V))
    (FC : Hid ((K == 9007199254740992) = false → 971 < E + 11 → OV = V)) (FD : Hid ((K == 9007199254740992) = false → E + 11 ≤ 971 → G (bits BinOp.or IntKind.u64 ((E + 11 + 1075) * 4503599627370496) (bits BinOp.and IntKind.u64 K 4503599627370495)).toNat = V)) :
    Calls Tryd.prog 55 #[.bool neg, .int .u64 m0, .int .i64 e0, .bool false, .int .i64 how] w fun e w' => e = .returned (.float .f64 V) ∧ w' = w := by
  subst hc3
  go_enter Tryd.func55, Tryd.ntmps55
  go_wp2_with (first | (go_at_call 59; refine (k59 _).mono ?_; rintro e w' ⟨rfl, rfl⟩))
  go_loop [1, 2] (fun m e => ∃ (X Y : Int), m = .int .u64 X ∧ e = .int .i64 Y ∧ Hid (NR m0 e0 X Y)) (fun m _ => (18446744073709551616 - intOf m).toNat)
  case atStart => exact ⟨m0, e0, rfl, rfl, HN⟩
  case round =>
    obtain ⟨X, Y, rfl, rfl, hx⟩ := hrel
    by_cases hlt : X < 9223372036854775808
    · go_wp2
      exact nr_step hx.out he1 he2 hlt
    · obtain ⟨rfl, rfl⟩ := HX.out X Y hx.out (by omega)
      clear HX hx HN hm
      go_wp2_with (first | (go_at_call 40; refine (c40 _ _).mono ?_; rintro e w' ⟨rfl, rfl⟩) | (go_at_call 60; refine (k60 _ _).mono ?_; rintro e w' ⟨rfl, rfl⟩) | (go_at_call 61; refine (k61 _).mono ?_; rintro e w' ⟨rfl, rfl⟩))
      all_goals go_ret
      all_goals (refine ⟨?_, rfl⟩; first | exact congrArg (fun v => Ending.returned (Value.float FloatKind.f64 v)) (FA.out (by assumption) (by assumption)) | exact congrArg (fun v => Ending.returned (Value.float FloatKind.f64 v)) (FB.out (by assumption) (by assumption)) | exact congrArg (fun v => Ending.returned (Value.float FloatKind.f64 v)) (FC.out (by assumption) (by assumption)) | exact congrArg (fun v => Ending.returned (Value.float FloatKind.f64 v)) (FD.out (by assumption) (by assumption)))

set_option maxHeartbeats 1000000 in
theorem p55_1_2d (neg : Bool) (m0 : Nat) (e0 how M E : Int) (w : World) (HN : Hid (NR m0 e0 m0 e0)) (hm : ((m0 : Int) == 0) = false) (he1 : -20000 ≤ e0) (he2 : e0 ≤ 20000)
    (HX : Hid (∀ X Y, NR m0 e0 X Y → 9223372036854775808 ≤ X → X = M ∧ Y = E))
    (k59 : ∀ w, Calls Tryd.prog 59 #[.bool neg, .int .i64 how] w fun e w' => e = .returned (.int .i64 2) ∧ w' = w)
    (G : Nat → Nat) (OV : Nat) (k60 : ∀ (r : Nat) w, Calls Tryd.prog 60 #[.bool neg, .float .f64 r] w fun e w' => e = .returned (.float .f64 (G r)) ∧ w' = w)
    (k61 : ∀ w, Calls Tryd.prog 61 #[.bool neg, .int .i64 2] w fun e w' => e = .returned (.float .f64 OV) ∧ w' = w)
    (hE1 : -20063 ≤ E) (hE2 : E ≤ 20000) (K K1 L : Int) (o : Bool) (V : Nat) (hT : ¬ (E + 11 < -1074)) (hK : M / 2048 = K) (hL : bits .and .u64 M 2047 = L) (ho : (K % 2 == 1) = o) (ho' : (K.tmod 2 == 1) = o) (hK1 : IntKind.u64.wrap (K + 1) = K1) (hA1 : 4503599627370496 ≤ K) (hA2 : K < 9007199254740992) (hB1 : 4503599627370496 ≤ K1) (hB2 : K1 ≤ 9007199254740992) (hc : ¬ 1024 < L) (hc2 : (L == 1024) = false) (FA : Hid ((K == 9007199254740992) = true → 971 < E + 11 + 1 → OV = V)) (FB : Hid ((K == 9007199254740992) = true → E + 11 + 1 ≤ 971 → G (bits BinOp.or IntKind.u64 ((E + 11 + 1 + 1075) * 4503599627370496) (bits BinOp.and IntKind.u64 4503599627370496 4503599627370495)).toNat = V))
    (FC : Hid ((K == 9007199254740992) = false → 971 < E + 11 → OV = V)) (FD : Hid ((K == 9007199254740992) = false → E + 11 ≤ 971 → G (bits BinOp.or IntKind.u64 ((E + 11 + 1075) * 4503599627370496) (bits BinOp.and IntKind.u64 K 4503599627370495)).toNat = V)) :
    Calls Tryd.prog 55 #[.bool neg, .int .u64 m0, .int .i64 e0, .bool false, .int .i64 how] w fun e w' => e = .returned (.float .f64 V) ∧ w' = w := by
  go_enter Tryd.func55, Tryd.ntmps55
  go_wp2_with (first | (go_at_call 59; refine (k59 _).mono ?_; rintro e w' ⟨rfl, rfl⟩))
  go_loop [1, 2] (fun m e => ∃ (X Y : Int), m = .int .u64 X ∧ e = .int .i64 Y ∧ Hid (NR m0 e0 X Y)) (fun m _ => (18446744073709551616 - intOf m).toNat)
  case atStart => exact ⟨m0, e0, rfl, rfl, HN⟩
  case round =>
    obtain ⟨X, Y, rfl, rfl, hx⟩ := hrel
    by_cases hlt : X < 9223372036854775808
    · go_wp2
      exact nr_step hx.out he1 he2 hlt
    · obtain ⟨rfl, rfl⟩ := HX.out X Y hx.out (by omega)
      clear HX hx HN hm
      go_wp2_with (first | (go_at_call 40; refine (c40 _ _).mono ?_; rintro e w' ⟨rfl, rfl⟩) | (go_at_call 60; refine (k60 _ _).mono ?_; rintro e w' ⟨rfl, rfl⟩) | (go_at_call 61; refine (k61 _).mono ?_; rintro e w' ⟨rfl, rfl⟩))
      all_goals go_ret
      all_goals (refine ⟨?_, rfl⟩; first | exact congrArg (fun v => Ending.returned (Value.float FloatKind.f64 v)) (FA.out (by assumption) (by assumption)) | exact congrArg (fun v => Ending.returned (Value.float FloatKind.f64 v)) (FB.out (by assumption) (by assumption)) | exact congrArg (fun v => Ending.returned (Value.float FloatKind.f64 v)) (FC.out (by assumption) (by assumption)) | exact congrArg (fun v => Ending.returned (Value.float FloatKind.f64 v)) (FD.out (by assumption) (by assumption)))

set_option maxHeartbeats 1000000 in
theorem p55_1_3a (neg : Bool) (m0 : Nat) (e0 how M E : Int) (w : World) (HN : Hid (NR m0 e0 m0 e0)) (hm : ((m0 : Int) == 0) = false) (he1 : -20000 ≤ e0) (he2 : e0 ≤ 20000)
    (HX : Hid (∀ X Y, NR m0 e0 X Y → 9223372036854775808 ≤ X → X = M ∧ Y = E))
    (k59 : ∀ w, Calls Tryd.prog 59 #[.bool neg, .int .i64 how] w fun e w' => e = .returned (.int .i64 3) ∧ w' = w)
    (G : Nat → Nat) (OV : Nat) (k60 : ∀ (r : Nat) w, Calls Tryd.prog 60 #[.bool neg, .float .f64 r] w fun e w' => e = .returned (.float .f64 (G r)) ∧ w' = w)
    (k61 : ∀ w, Calls Tryd.prog 61 #[.bool neg, .int .i64 3] w fun e w' => e = .returned (.float .f64 OV) ∧ w' = w)
    (hE1 : -20063 ≤ E) (hE2 : E ≤ 20000) (K K1 L : Int) (o : Bool) (V : Nat) (hT : ¬ (E + 11 < -1074)) (hK : M / 2048 = K) (hL : bits .and .u64 M 2047 = L) (ho : (K % 2 == 1) = o) (ho' : (K.tmod 2 == 1) = o) (hK1 : IntKind.u64.wrap (K + 1) = K1) (hA1 : 4503599627370496 ≤ K) (hA2 : K < 9007199254740992) (hB1 : 4503599627370496 ≤ K1) (hB2 : K1 ≤ 9007199254740992) (hc : 0 < L) (FA : Hid ((K1 == 9007199254740992) = true → 971 < E + 11 + 1 → OV = V)) (FB : Hid ((K1 == 9007199254740992) = true → E + 11 + 1 ≤ 971 → G (bits BinOp.or IntKind.u64 ((E + 11 + 1 + 1075) * 4503599627370496) (bits BinOp.and IntKind.u64 4503599627370496 4503599627370495)).toNat = V))
    (FC : Hid ((K1 == 9007199254740992) = false → 971 < E + 11 → OV = V)) (FD : Hid ((K1 == 9007199254740992) = false → E + 11 ≤ 971 → G (bits BinOp.or IntKind.u64 ((E + 11 + 1075) * 4503599627370496) (bits BinOp.and IntKind.u64 K1 4503599627370495)).toNat = V)) :
    Calls Tryd.prog 55 #[.bool neg, .int .u64 m0, .int .i64 e0, .bool false, .int .i64 how] w fun e w' => e = .returned (.float .f64 V) ∧ w' = w := by
  go_enter Tryd.func55, Tryd.ntmps55
  go_wp2_with (first | (go_at_call 59; refine (k59 _).mono ?_; rintro e w' ⟨rfl, rfl⟩))
  go_loop [1, 2] (fun m e => ∃ (X Y : Int), m = .int .u64 X ∧ e = .int .i64 Y ∧ Hid (NR m0 e0 X Y)) (fun m _ => (18446744073709551616 - intOf m).toNat)
  case atStart => exact ⟨m0, e0, rfl, rfl, HN⟩
  case round =>
    obtain ⟨X, Y, rfl, rfl, hx⟩ := hrel
    by_cases hlt : X < 9223372036854775808
    · go_wp2
      exact nr_step hx.out he1 he2 hlt
    · obtain ⟨rfl, rfl⟩ := HX.out X Y hx.out (by omega)
      clear HX hx HN hm
      go_wp2_with (first | (go_at_call 40; refine (c40 _ _).mono ?_; rintro e w' ⟨rfl, rfl⟩) | (go_at_call 60; refine (k60 _ _).mono ?_; rintro e w' ⟨rfl, rfl⟩) | (go_at_call 61; refine (k61 _).mono ?_; rintro e w' ⟨rfl, rfl⟩))
      all_goals go_ret
      all_goals (refine ⟨?_, rfl⟩; first | exact congrArg (fun v => Ending.returned (Value.float FloatKind.f64 v)) (FA.out (by assumption) (by assumption)) | exact congrArg (fun v => Ending.returned (Value.float FloatKind.f64 v)) (FB.out (by assumption) (by assumption)) | exact congrArg (fun v => Ending.returned (Value.float FloatKind.f64 v)) (FC.out (by assumption) (by assumption)) | exact congrArg (fun v => Ending.returned (Value.float FloatKind.f64 v)) (FD.out (by assumption) (by assumption)))

set_option maxHeartbeats 1000000 in
theorem p55_1_3b (neg : Bool) (m0 : Nat) (e0 how M E : Int) (w : World) (HN : Hid (NR m0 e0 m0 e0)) (hm : ((m0 : Int) == 0) = false) (he1 : -20000 ≤ e0) (he2 : e0 ≤ 20000)
    (HX : Hid (∀ X Y, NR m0 e0 X Y → 9223372036854775808 ≤ X → X = M ∧ Y = E))
    (k59 : ∀ w, Calls Tryd.prog 59 #[.bool neg, .int .i64 how] w fun e w' => e = .returned (.int .i64 3) ∧ w' = w)
    (G : Nat → Nat) (OV : Nat) (k60 : ∀ (r : Nat) w, Calls Tryd.prog 60 #[.bool neg, .float .f64 r] w fun e w' => e = .returned (.float .f64 (G r)) ∧ w' = w)
    (k61 : ∀ w, Calls Tryd.prog 61 #[.bool neg, .int .i64 3] w fun e w' => e = .returned (.float .f64 OV) ∧ w' = w)
    (hE1 : -20063 ≤ E) (hE2 : E ≤ 20000) (K K1 L : Int) (o : Bool) (V : Nat) (hT : ¬ (E + 11 < -1074)) (hK : M / 2048 = K) (hL : bits .and .u64 M 2047 = L) (ho : (K % 2 == 1) = o) (ho' : (K.tmod 2 == 1) = o) (hK1 : IntKind.u64.wrap (K + 1) = K1) (hA1 : 4503599627370496 ≤ K) (hA2 : K < 9007199254740992) (hB1 : 4503599627370496 ≤ K1) (hB2 : K1 ≤ 9007199254740992) (hc : ¬ 0 < L) (FA : Hid ((K == 9007199254740992) = true → 971 < E + 11 + 1 → OV = V)) (FB : Hid ((K == 9007199254740992) = true → E + 11 + 1 ≤ 971 → G (bits BinOp.or IntKind.u64 ((E + 11 + 1 + 1075) * 4503599627370496) (bits BinOp.and IntKind.u64 4503599627370496 4503599627370495)).toNat = V))
    (FC : Hid ((K == 9007199254740992) = false → 971 < E + 11 → OV = V)) (FD : Hid ((K == 9007199254740992) = false → E + 11 ≤ 971 → G (bits BinOp.or IntKind.u64 ((E + 11 + 1075) * 4503599627370496) (bits BinOp.and IntKind.u64 K 4503599627370495)).toNat = V)) :
    Calls Tryd.prog 55 #[.bool neg, .int .u64 m0, .int .i64 e0, .bool false, .int .i64 how] w fun e w' => e = .returned (.float .f64 V) ∧ w' = w := by
  go_enter Tryd.func55, Tryd.ntmps55
  go_wp2_with (first | (go_at_call 59; refine (k59 _).mono ?_; rintro e w' ⟨rfl, rfl⟩))
  go_loop [1, 2] (fun m e => ∃ (X Y : Int), m = .int .u64 X ∧ e = .int .i64 Y ∧ Hid (NR m0 e0 X Y)) (fun m _ => (18446744073709551616 - intOf m).toNat)
  case atStart => exact ⟨m0, e0, rfl, rfl, HN⟩
  case round =>
    obtain ⟨X, Y, rfl, rfl, hx⟩ := hrel
    by_cases hlt : X < 9223372036854775808
    · go_wp2
      exact nr_step hx.out he1 he2 hlt
    · obtain ⟨rfl, rfl⟩ := HX.out X Y hx.out (by omega)
      clear HX hx HN hm
      go_wp2_with (first | (go_at_call 40; refine (c40 _ _).mono ?_; rintro e w' ⟨rfl, rfl⟩) | (go_at_call 60; refine (k60 _ _).mono ?_; rintro e w' ⟨rfl, rfl⟩) | (go_at_call 61; refine (k61 _).mono ?_; rintro e w' ⟨rfl, rfl⟩))
      all_goals go_ret
      all_goals (refine ⟨?_, rfl⟩; first | exact congrArg (fun v => Ending.returned (Value.float FloatKind.f64 v)) (FA.out (by assumption) (by assumption)) | exact congrArg (fun v => Ending.returned (Value.float FloatKind.f64 v)) (FB.out (by assumption) (by assumption)) | exact congrArg (fun v => Ending.returned (Value.float FloatKind.f64 v)) (FC.out (by assumption) (by assumption)) | exact congrArg (fun v => Ending.returned (Value.float FloatKind.f64 v)) (FD.out (by assumption) (by assumption)))

end Go.Proofs.YtacaidobfildoaaDoor
