/- What the document's Pack answers below the least normal float: the walks, the plain facts taken as they come. -/
import Derived.Test.YtacaidobfildoaaDoorW11
namespace Go.Proofs.YtacaidobfildoaaDoor
set_option linter.unusedVariables false
set_option linter.unusedSimpArgs false
open Go.RowKit Go.Fl64

set_option maxHeartbeats 1000000 in
theorem p55_2_1a (neg : Bool) (m0 : Nat) (e0 how M E : Int) (w : World) (HN : Hid (NR m0 e0 m0 e0)) (hm : ((m0 : Int) == 0) = false) (he1 : -20000 ≤ e0) (he2 : e0 ≤ 20000)
    (HX : Hid (∀ X Y, NR m0 e0 X Y → 9223372036854775808 ≤ X → X = M ∧ Y = E))
    (k59 : ∀ w, Calls Tryd.prog 59 #[.bool neg, .int .i64 how] w fun e w' => e = .returned (.int .i64 1) ∧ w' = w)
    (G : Nat → Nat) (OV : Nat) (k60 : ∀ (r : Nat) w, Calls Tryd.prog 60 #[.bool neg, .float .f64 r] w fun e w' => e = .returned (.float .f64 (G r)) ∧ w' = w)
    (k61 : ∀ w, Calls Tryd.prog 61 #[.bool neg, .int .i64 1] w fun e w' => e = .returned (.float .f64 OV) ∧ w' = w)
    (hE1 : -20063 ≤ E) (hE2 : E ≤ 20000) (D K K1 L F : Int) (o : Bool) (V : Nat) (hT : E + 11 < -1074) (hD : -1074 - E = D) (hD1 : 12 ≤ D) (hD2 : D < 64) (hK : M / 2 ^ D.toNat = K) (hL : bits .and .u64 M (IntKind.u64.wrap (IntKind.u64.wrap (2 ^ D.toNat) - 1)) = L) (hF : IntKind.u64.wrap (2 ^ (D.toNat - 1)) = F) (ho : (K % 2 == 1) = o) (ho' : (K.tmod 2 == 1) = o) (hK1 : IntKind.u64.wrap (K + 1) = K1) (hA1 : 0 ≤ K) (hA2 : K < 4503599627370496) (hB1 : 0 ≤ K1) (hB2 : K1 ≤ 4503599627370496) (FA : Hid (K < 4503599627370496 → G K.toNat = V)) (FB : Hid (4503599627370496 ≤ K → G (bits BinOp.or IntKind.u64 ((E + D + 1075) * 4503599627370496) (bits BinOp.and IntKind.u64 K 4503599627370495)).toNat = V)) :
    Calls Tryd.prog 55 #[.bool neg, .int .u64 m0, .int .i64 e0, .bool false, .int .i64 how] w fun e w' => e = .returned (.float .f64 V) ∧ w' = w := by
  go_enter Tryd.func55, Tryd.ntmps55
  go_wp2_with (first | (go_at_call 59; refine (k59 _).mono ?_; rintro e w' ⟨rfl, rfl⟩))
  go_loop [1, 2] (fun m e => ∃ (X Y : Int), m = .int .u64 X ∧ e = .int .i64 Y ∧ Hid (NR m0 e0 X Y)) (fun m _ => (18446744073709551616 - intOf m).toNat)
  case atStart => exact ⟨m0, e0, rfl, rfl, HN⟩
  case round =>
    obtain ⟨X, Y, rfl, rfl, hx⟩ := hrel
    by_cases hlt : X < 9223372036854775808
    · go_wp2
      exact nr_step hx.out he1 he2 hlt
    · obtain ⟨rfl, rfl⟩ := HX.out X Y hx.out (by omega)
      clear HX hx HN hm
      go_wp2_with (first | (go_at_call 40; refine (c40 _ _).mono ?_; rintro e w' ⟨rfl, rfl⟩) | (go_at_call 60; refine (k60 _ _).mono ?_; rintro e w' ⟨rfl, rfl⟩) | (go_at_call 61; refine (k61 _).mono ?_; rintro e w' ⟨rfl, rfl⟩))
      all_goals go_ret
      all_goals (refine ⟨?_, rfl⟩; first | exact congrArg (fun v => Ending.returned (Value.float FloatKind.f64 v)) (FA.out (by assumption)) | exact congrArg (fun v => Ending.returned (Value.float FloatKind.f64 v)) (FB.out (by assumption)))

set_option maxHeartbeats 1000000 in
theorem p55_2_2a (neg : Bool) (m0 : Nat) (e0 how M E : Int) (w : World) (HN : Hid (NR m0 e0 m0 e0)) (hm : ((m0 : Int) == 0) = false) (he1 : -20000 ≤ e0) (he2 : e0 ≤ 20000)
    (HX : Hid (∀ X Y, NR m0 e0 X Y → 9223372036854775808 ≤ X → X = M ∧ Y = E))
    (k59 : ∀ w, Calls Tryd.prog 59 #[.bool neg, .int .i64 how] w fun e w' => e = .returned (.int .i64 2) ∧ w' = w)
    (G : Nat → Nat) (OV : Nat) (k60 : ∀ (r : Nat) w, Calls Tryd.prog 60 #[.bool neg, .float .f64 r] w fun e w' => e = .returned (.float .f64 (G r)) ∧ w' = w)
    (k61 : ∀ w, Calls Tryd.prog 61 #[.bool neg, .int .i64 2] w fun e w' => e = .returned (.float .f64 OV) ∧ w' = w)
    (hE1 : -20063 ≤ E) (hE2 : E ≤ 20000) (D K K1 L F : Int) (o : Bool) (V : Nat) (hT : E + 11 < -1074) (hD : -1074 - E = D) (hD1 : 12 ≤ D) (hD2 : D < 64) (hK : M / 2 ^ D.toNat = K) (hL : bits .and .u64 M (IntKind.u64.wrap (IntKind.u64.wrap (2 ^ D.toNat) - 1)) = L) (hF : IntKind.u64.wrap (2 ^ (D.toNat - 1)) = F) (ho : (K % 2 == 1) = o) (ho' : (K.tmod 2 == 1) = o) (hK1 : IntKind.u64.wrap (K + 1) = K1) (hA1 : 0 ≤ K) (hA2 : K < 4503599627370496) (hB1 : 0 ≤ K1) (hB2 : K1 ≤ 4503599627370496) (hc : F < L) (FA : Hid (K1 < 4503599627370496 → G K1.toNat = V)) (FB : Hid (4503599627370496 ≤ K1 → G (bits BinOp.or IntKind.u64 ((E + D + 1075) * 4503599627370496) (bits BinOp.and IntKind.u64 K1 4503599627370495)).toNat = V)) :
    Calls Tryd.prog 55 #[.bool neg, .int .u64 m0, .int .i64 e0, .bool false, .int .i64 how] w fun e w' => e = .returned (.float .f64 V) ∧ w' = w := by
  go_enter Tryd.func55, Tryd.ntmps55
  go_wp2_with (first | (go_at_call 59; refine (k59 _).mono ?_; rintro e w' ⟨rfl, rfl⟩))
  go_loop [1, 2] (fun m e => ∃ (X Y : Int), m = .int .u64 X ∧ e = .int .i64 Y ∧ Hid (NR m0 e0 X Y)) (fun m _ => (18446744073709551616 - intOf m).toNat)
  case atStart => exact ⟨m0, e0, rfl, rfl, HN⟩
  case round =>
    obtain ⟨X, Y, rfl, rfl, hx⟩ := hrel
    by_cases hlt : X < 9223372036854775808
    · go_wp2
      exact nr_step hx.out he1 he2 hlt
    · obtain ⟨rfl, rfl⟩ := HX.out X Y hx.out (by omega)
      clear HX hx HN hm
      go_wp2_with (first | (go_at_call 40; refine (c40 _ _).mono ?_; rintro e w' ⟨rfl, rfl⟩) | (go_at_call 60; refine (k60 _ _).mono ?_; rintro e w' ⟨rfl, rfl⟩) | (go_at_call 61; refine (k61 _).mono ?_; rintro e w' ⟨rfl, rfl⟩))
      all_goals go_ret
      all_goals (refine ⟨?_, rfl⟩; first | exact congrArg (fun v => Ending.returned (Value.float FloatKind.f64 v)) (FA.out (by assumption)) | exact congrArg (fun v => Ending.returned (Value.float FloatKind.f64 v)) (FB.out (by assumption)))

set_option maxHeartbeats 1000000 in
theorem p55_2_2b (neg : Bool) (m0 : Nat) (e0 how M E : Int) (w : World) (HN : Hid (NR m0 e0 m0 e0)) (hm : ((m0 : Int) == 0) = false) (he1 : -20000 ≤ e0) (he2 : e0 ≤ 20000)
    (HX : Hid (∀ X Y, NR m0 e0 X Y → 9223372036854775808 ≤ X → X = M ∧ Y = E))
    (k59 : ∀ w, Calls Tryd.prog 59 #[.bool neg, .int .i64 how] w fun e w' => e = .returned (.int .i64 2) ∧ w' = w)
    (G : Nat → Nat) (OV : Nat) (k60 : ∀ (r : Nat) w, Calls Tryd.prog 60 #[.bool neg, .float .f64 r] w fun e w' => e = .returned (.float .f64 (G r)) ∧ w' = w)
    (k61 : ∀ w, Calls Tryd.prog 61 #[.bool neg, .int .i64 2] w fun e w' => e = .returned (.float .f64 OV) ∧ w' = w)
    (hE1 : -20063 ≤ E) (hE2 : E ≤ 20000) (D K K1 L F : Int) (o : Bool) (V : Nat) (hT : E + 11 < -1074) (hD : -1074 - E = D) (hD1 : 12 ≤ D) (hD2 : D < 64) (hK : M / 2 ^ D.toNat = K) (hL : bits .and .u64 M (IntKind.u64.wrap (IntKind.u64.wrap (2 ^ D.toNat) - 1)) = L) (hF : IntKind.u64.wrap (2 ^ (D.toNat - 1)) = F) (ho : (K % 2 == 1) = o) (ho' : (K.tmod 2 == 1) = o) (hK1 : IntKind.u64.wrap (K + 1) = K1) (hA1 : 0 ≤ K) (hA2 : K < 4503599627370496) (hB1 : 0 ≤ K1) (hB2 : K1 ≤ 4503599627370496) (hc : ¬ F < L) (hc2 : (L == F) = true) (hc3 : o = true) (FA : Hid (K1 < 4503599627370496 → G K1.toNat = V)) (FB : Hid (4503599627370496 ≤ K1 → G (bits BinOp.or IntKind.u64 ((E + D + 1075) * 4503599627370496) (bits BinOp.and IntKind.u64 K1 4503599627370495)).toNat = V)) :
    Calls Tryd.prog 55 #[.bool neg, .int .u64 m0, .int .i64 e0, .bool false, .int .i64 how] w fun e w' => e = .returned (.float .f64 V) ∧ w' = w := by
  subst hc3
  go_enter Tryd.func55, Tryd.ntmps55
  go_wp2_with (first | (go_at_call 59; refine (k59 _).mono ?_; rintro e w' ⟨rfl, rfl⟩))
  go_loop [1, 2] (fun m e => ∃ (X Y : Int), m = .int .u64 X ∧ e = .int .i64 Y ∧ Hid (NR m0 e0 X Y)) (fun m _ => (18446744073709551616 - intOf m).toNat)
  case atStart => exact ⟨m0, e0, rfl, rfl, HN⟩
  case round =>
    obtain ⟨X, Y, rfl, rfl, hx⟩ := hrel
    by_cases hlt : X < 9223372036854775808
    · go_wp2
      exact nr_step hx.out he1 he2 hlt
    · obtain ⟨rfl, rfl⟩ := HX.out X Y hx.out (by omega)
      clear HX hx HN hm
      go_wp2_with (first | (go_at_call 40; refine (c40 _ _).mono ?_; rintro e w' ⟨rfl, rfl⟩) | (go_at_call 60; refine (k60 _ _).mono ?_; rintro e w' ⟨rfl, rfl⟩) | (go_at_call 61; refine (k61 _).mono ?_; rintro e w' ⟨rfl, rfl⟩))
      all_goals go_ret
      all_goals (refine ⟨?_, rfl⟩; first | exact congrArg (fun v => Ending.returned (Value.float FloatKind.f64 v)) (FA.out (by assumption)) | exact congrArg (fun v => Ending.returned (Value.float FloatKind.f64 v)) (FB.out (by assumption)))

set_option maxHeartbeats 1000000 in
theorem p55_2_2c (neg : Bool) (m0 : Nat) (e0 how M E : Int) (w : World) (HN : Hid (NR m0 e0 m0 e0)) (hm : ((m0 : Int) == 0) = false) (he1 : -20000 ≤ e0) (he2 : e0 ≤ 20000)
    (HX : Hid (∀ X Y, NR m0 e0 X Y → 9223372036854775808 ≤ X → X = M ∧ Y = E))
    (k59 : ∀ w, Calls Tryd.prog 59 #[.bool neg, .int .i64 how] w fun e w' => e = .returned (.int .i64 2) ∧ w' = w)
    (G : Nat → Nat) (OV : Nat) (k60 : ∀ (r : Nat) w, Calls Tryd.prog 60 #[.bool neg, .float .f64 r] w fun e w' => e = .returned (.float .f64 (G r)) ∧ w' = w)
    (k61 : ∀ w, Calls Tryd.prog 61 #[.bool neg, .int .i64 2] w fun e w' => e = .returned (.float .f64 OV) ∧ w' = w)
    (hE1 : -20063 ≤ E) (hE2 : E ≤ 20000) (D K K1 L F : Int) (o : Bool) (V : Nat) (hT : E + 11 < -1074) (hD : -1074 - E = D) (hD1 : 12 ≤ D) (hD2 : D < 64) (hK : M / 2 ^ D.toNat = K) (hL : bits .and .u64 M (IntKind.u64.wrap (IntKind.u64.wrap (2 ^ D.toNat) - 1)) = L) (hF : IntKind.u64.wrap (2 ^ (D.toNat - 1)) = F) (ho : (K % 2 == 1) = o) (ho' : (K.tmod 2 == 1) = o) (hK1 : IntKind.u64.wrap (K + 1) = K1) (hA1 : 0 ≤ K) (hA2 : K < 4503599627370496) (hB1 : 0 ≤ K1) (hB2 : K1 ≤ 4503599627370496) (hc : ¬ F < L) (hc2 : (L == F) = true) (hc3 : o = false) (FA : Hid (K < 4503599627370496 → G K.toNat = V)) (FB : Hid (4503599627370496 ≤ K → G (bits BinOp.or IntKind.u64 ((E + D + 1075) * 4503599627370496) (bits BinOp.and IntKind.u64 K 4503599627370495)).toNat = V)) :
    Calls Tryd.prog 55 #[.bool neg, .int .u64 m0, .int .i64 e0, .bool false, .int .i64 how] w fun e w' => e = .returned (.float .f64 V) ∧ w' = w := by
  subst hc3
  go_enter Tryd.func55, Tryd.ntmps55
  go_wp2_with (first | (go_at_call 59; refine (k59 _).mono ?_; rintro e w' ⟨rfl, rfl⟩))
  go_loop [1, 2] (fun m e => ∃ (X Y : Int), m = .int .u64 X ∧ e = .int .i64 Y ∧ Hid (NR m0 e0 X Y)) (fun m _ => (18446744073709551616 - intOf m).toNat)
  case atStart => exact ⟨m0, e0, rfl, rfl, HN⟩
  case round =>
    obtain ⟨X, Y, rfl, rfl, hx⟩ := hrel
    by_cases hlt : X < 9223372036854775808
    · go_wp2
      exact nr_step hx.out he1 he2 hlt
    · obtain ⟨rfl, rfl⟩ := HX.out X Y hx.out (by omega)
      clear HX hx HN hm
      go_wp2_with (first | (go_at_call 40; refine (c40 _ _).mono ?_; rintro e w' ⟨rfl, rfl⟩) | (go_at_call 60; refine (k60 _ _).mono ?_; rintro e w' ⟨rfl, rfl⟩) | (go_at_call 61; refine (k61 _).mono ?_; rintro e w' ⟨rfl, rfl⟩))
      all_goals go_ret
      all_goals (refine ⟨?_, rfl⟩; first | exact congrArg (fun v => Ending.returned (Value.float FloatKind.f64 v)) (FA.out (by assumption)) | exact congrArg (fun v => Ending.returned (Value.float FloatKind.f64 v)) (FB.out (by assumption)))

set_option maxHeartbeats 1000000 in
theorem p55_2_2d (neg : Bool) (m0 : Nat) (e0 how M E : Int) (w : World) (HN : Hid (NR m0 e0 m0 e0)) (hm : ((m0 : Int) == 0) = false) (he1 : -20000 ≤ e0) (he2 : e0 ≤ 20000)
    (HX : Hid (∀ X Y, NR m0 e0 X Y → 9223372036854775808 ≤ X → X = M ∧ Y = E))
    (k59 : ∀ w, Calls Tryd.prog 59 #[.bool neg, .int .i64 how] w fun e w' => e = .returned (.int .i64 2) ∧ w' = w)
    (G : Nat → Nat) (OV : Nat) (k60 : ∀ (r : Nat) w, Calls Tryd.prog 60 #[.bool neg, .float .f64 r] w fun e w' => e = .returned (.float .f64 (G r)) ∧ w' = w)
    (k61 : ∀ w, Calls Tryd.prog 61 #[.bool neg, .int .i64 2] w fun e w' => e = .returned (.float .f64 OV) ∧ w' = w)
    (hE1 : -20063 ≤ E) (hE2 : E ≤ 20000) (D K K1 L F : Int) (o : Bool) (V : Nat) (hT : E + 11 < -1074) (hD : -1074 - E = D) (hD1 : 12 ≤ D) (hD2 : D < 64) (hK : M / 2 ^ D.toNat = K) (hL : bits .and .u64 M (IntKind.u64.wrap (IntKind.u64.wrap (2 ^ D.toNat) - 1)) = L) (hF : IntKind.u64.wrap (2 ^ (D.toNat - 1)) = F) (ho : (K % 2 == 1) = o) (ho' : (K.tmod 2 == 1) = o) (hK1 : IntKind.u64.wrap (K + 1) = K1) (hA1 : 0 ≤ K) (hA2 : K < 4503599627370496) (hB1 : 0 ≤ K1) (hB2 : K1 ≤ 4503599627370496) (hc : ¬ F < L) (hc2 : (L == F) = false) (FA : Hid (K < 4503599627370496 → G K.toNat = V)) (FB : Hid (4503599627370496 ≤ K → G (bits BinOp.or IntKind.u64 ((E + D + 1075) * 4503599627370496) (bits BinOp.and IntKind.u64 K 4503599627370495)).toNat = V)) :
    Calls Tryd.prog 55 #[.bool neg, .int .u64 m0, .int .i64 e0, .bool false, .int .i64 how] w fun e w' => e = .returned (.float .f64 V) ∧ w' = w := by
  go_enter Tryd.func55, Tryd.ntmps55
  go_wp2_with (first | (go_at_call 59; refine (k59 _).mono ?_; rintro e w' ⟨rfl, rfl⟩))
  go_loop [1, 2] (fun m e => ∃ (X Y : Int), m = .int .u64 X ∧ e = .int .i64 Y ∧ Hid (NR m0 e0 X Y)) (fun m _ => (18446744073709551616 - intOf m).toNat)
  case atStart => exact ⟨m0, e0, rfl, rfl, HN⟩
  case round =>
    obtain ⟨X, Y, rfl, rfl, hx⟩ := hrel
    by_cases hlt : X < 9223372036854775808
    · go_wp2
      exact nr_step hx.out he1 he2 hlt
    · obtain ⟨rfl, rfl⟩ := HX.out X Y hx.out (by omega)
      clear HX hx HN hm
      go_wp2_with (first | (go_at_call 40; refine (c40 _ _).mono ?_; rintro e w' ⟨rfl, rfl⟩) | (go_at_call 60; refine (k60 _ _).mono ?_; rintro e w' ⟨rfl, rfl⟩) | (go_at_call 61; refine (k61 _).mono ?_; rintro e w' ⟨rfl, rfl⟩))
      all_goals go_ret
      all_goals (refine ⟨?_, rfl⟩; first | exact congrArg (fun v => Ending.returned (Value.float FloatKind.f64 v)) (FA.out (by assumption)) | exact congrArg (fun v => Ending.returned (Value.float FloatKind.f64 v)) (FB.out (by assumption)))

set_option maxHeartbeats 1000000 in
theorem p55_2_3a (neg : Bool) (m0 : Nat) (e0 how M E : Int) (w : World) (HN : Hid (NR m0 e0 m0 e0)) (hm : ((m0 : Int) == 0) = false) (he1 : -20000 ≤ e0) (he2 : e0 ≤ 20000)
    (HX : Hid (∀ X Y, NR m0 e0 X Y → 9223372036854775808 ≤ X → X = M ∧ Y = E))
    (k59 : ∀ w, Calls Tryd.prog 59 #[.bool neg, .int .i64 how] w fun e w' => e = .returned (.int .i64 3) ∧ w' = w)
    (G : Nat → Nat) (OV : Nat) (k60 : ∀ (r : Nat) w, Calls Tryd.prog 60 #[.bool neg, .float .f64 r] w fun e w' => e = .returned (.float .f64 (G r)) ∧ w' = w)
    (k61 : ∀ w, Calls Tryd.prog 61 #[.bool neg, .int .i64 3] w fun e w' => e = .returned (.float .f64 OV) ∧ w' = w)
    (hE1 : -20063 ≤ E) (hE2 : E ≤ 20000) (D K K1 L F : Int) (o : Bool) (V : Nat) (hT : E + 11 < -1074) (hD : -1074 - E = D) (hD1 : 12 ≤ D) (hD2 : D < 64) (hK : M / 2 ^ D.toNat = K) (hL : bits .and .u64 M (IntKind.u64.wrap (IntKind.u64.wrap (2 ^ D.toNat) - 1)) = L) (hF : IntKind.u64.wrap (2 ^ (D.toNat - 1)) = F) (ho : (K % 2 == 1) = o) (ho' : (K.tmod 2 == 1) = o) (hK1 : IntKind.u64.wrap (K + 1) = K1) (hA1 : 0 ≤ K) (hA2 : K < 4503599627370496) (hB1 : 0 ≤ K1) (hB2 : K1 ≤ 4503599627370496) (hc : 0 < L) (FA : Hid (K1 < 4503599627370496 → G K1.toNat = V)) (FB : Hid (4503599627370496 ≤ K1 → G (bits BinOp.or IntKind.u64 ((E + D + 1075) * 4503599627370496) (bits BinOp.and IntKind.u64 K1 4503599627370495)).toNat = V)) :
    Calls Tryd.prog 55 #[.bool neg, .int .u64 m0, .int .i64 e0, .bool false, .int .i64 how] w fun e w' => e = .returned (.float .f64 V) ∧ w' = w := by
  go_enter Tryd.func55, Tryd.ntmps55
  go_wp2_with (first | (go_at_call 59; refine (k59 _).mono ?_; rintro e w' ⟨rfl, rfl⟩))
  go_loop [1, 2] (fun m e => ∃ (X Y : Int), m = .int .u64 X ∧ e = .int .i64 Y ∧ Hid (NR m0 e0 X Y)) (fun m _ => (18446744073709551616 - intOf m).toNat)
  case atStart => exact ⟨m0, e0, rfl, rfl, HN⟩
  case round =>
    obtain ⟨X, Y, rfl, rfl, hx⟩ := hrel
    by_cases hlt : X < 9223372036854775808
    · go_wp2
      exact nr_step hx.out he1 he2 hlt
    · obtain ⟨rfl, rfl⟩ := HX.out X Y hx.out (by omega)
      clear HX hx HN hm
      go_wp2_with (first | (go_at_call 40; refine (c40 _ _).mono ?_; rintro e w' ⟨rfl, rfl⟩) | (go_at_call 60; refine (k60 _ _).mono ?_; rintro e w' ⟨rfl, rfl⟩) | (go_at_call 61; refine (k61 _).mono ?_; rintro e w' ⟨rfl, rfl⟩))
      all_goals go_ret
      all_goals (refine ⟨?_, rfl⟩; first | exact congrArg (fun v => Ending.returned (Value.float FloatKind.f64 v)) (FA.out (by assumption)) | exact congrArg (fun v => Ending.returned (Value.float FloatKind.f64 v)) (FB.out (by assumption)))

set_option maxHeartbeats 1000000 in
theorem p55_2_3b (neg : Bool) (m0 : Nat) (e0 how M E : Int) (w : World) (HN : Hid (NR m0 e0 m0 e0)) (hm : ((m0 : Int) == 0) = false) (he1 : -20000 ≤ e0) (he2 : e0 ≤ 20000)
    (HX : Hid (∀ X Y, NR m0 e0 X Y → 9223372036854775808 ≤ X → X = M ∧ Y = E))
    (k59 : ∀ w, Calls Tryd.prog 59 #[.bool neg, .int .i64 how] w fun e w' => e = .returned (.int .i64 3) ∧ w' = w)
    (G : Nat → Nat) (OV : Nat) (k60 : ∀ (r : Nat) w, Calls Tryd.prog 60 #[.bool neg, .float .f64 r] w fun e w' => e = .returned (.float .f64 (G r)) ∧ w' = w)
    (k61 : ∀ w, Calls Tryd.prog 61 #[.bool neg, .int .i64 3] w fun e w' => e = .returned (.float .f64 OV) ∧ w' = w)
    (hE1 : -20063 ≤ E) (hE2 : E ≤ 20000) (D K K1 L F : Int) (o : Bool) (V : Nat) (hT : E + 11 < -1074) (hD : -1074 - E = D) (hD1 : 12 ≤ D) (hD2 : D < 64) (hK : M / 2 ^ D.toNat = K) (hL : bits .and .u64 M (IntKind.u64.wrap (IntKind.u64.wrap (2 ^ D.toNat) - 1)) = L) (hF : IntKind.u64.wrap (2 ^ (D.toNat - 1)) = F) (ho : (K % 2 == 1) = o) (ho' : (K.tmod 2 == 1) = o) (hK1 : IntKind.u64.wrap (K + 1) = K1) (hA1 : 0 ≤ K) (hA2 : K < 4503599627370496) (hB1 : 0 ≤ K1) (hB2 : K1 ≤ 4503599627370496) (hc : ¬ 0 < L) (FA : Hid (K < 4503599627370496 → G K.toNat = V)) (FB : Hid (4503599627370496 ≤ K → G (bits BinOp.or IntKind.u64 ((E + D + 1075) * 4503599627370496) (bits BinOp.and IntKind.u64 K 4503599627370495)).toNat = V)) :
    Calls Tryd.prog 55 #[.bool neg, .int .u64 m0, .int .i64 e0, .bool false, .int .i64 how] w fun e w' => e = .returned (.float .f64 V) ∧ w' = w := by
  go_enter Tryd.func55, Tryd.ntmps55
  go_wp2_with (first | (go_at_call 59; refine (k59 _).mono ?_; rintro e w' ⟨rfl, rfl⟩))
  go_loop [1, 2] (fun m e => ∃ (X Y : Int), m = .int .u64 X ∧ e = .int .i64 Y ∧ Hid (NR m0 e0 X Y)) (fun m _ => (18446744073709551616 - intOf m).toNat)
  case atStart => exact ⟨m0, e0, rfl, rfl, HN⟩
  case round =>
    obtain ⟨X, Y, rfl, rfl, hx⟩ := hrel
    by_cases hlt : X < 9223372036854775808
    · go_wp2
      exact nr_step hx.out he1 he2 hlt
    · obtain ⟨rfl, rfl⟩ := HX.out X Y hx.out (by omega)
      clear HX hx HN hm
      go_wp2_with (first | (go_at_call 40; refine (c40 _ _).mono ?_; rintro e w' ⟨rfl, rfl⟩) | (go_at_call 60; refine (k60 _ _).mono ?_; rintro e w' ⟨rfl, rfl⟩) | (go_at_call 61; refine (k61 _).mono ?_; rintro e w' ⟨rfl, rfl⟩))
      all_goals go_ret
      all_goals (refine ⟨?_, rfl⟩; first | exact congrArg (fun v => Ending.returned (Value.float FloatKind.f64 v)) (FA.out (by assumption)) | exact congrArg (fun v => Ending.returned (Value.float FloatKind.f64 v)) (FB.out (by assumption)))

set_option maxHeartbeats 1000000 in
theorem p55_3_1a (neg : Bool) (m0 : Nat) (e0 how M E : Int) (w : World) (HN : Hid (NR m0 e0 m0 e0)) (hm : ((m0 : Int) == 0) = false) (he1 : -20000 ≤ e0) (he2 : e0 ≤ 20000)
    (HX : Hid (∀ X Y, NR m0 e0 X Y → 9223372036854775808 ≤ X → X = M ∧ Y = E))
    (k59 : ∀ w, Calls Tryd.prog 59 #[.bool neg, .int .i64 how] w fun e w' => e = .returned (.int .i64 1) ∧ w' = w)
    (G : Nat → Nat) (OV : Nat) (k60 : ∀ (r : Nat) w, Calls Tryd.prog 60 #[.bool neg, .float .f64 r] w fun e w' => e = .returned (.float .f64 (G r)) ∧ w' = w)
    (k61 : ∀ w, Calls Tryd.prog 61 #[.bool neg, .int .i64 1] w fun e w' => e = .returned (.float .f64 OV) ∧ w' = w)
    (hE1 : -20063 ≤ E) (hE2 : E ≤ 20000) (V : Nat) (hT : E = -1138) (FA : Hid (G 0 = V)) :
    Calls Tryd.prog 55 #[.bool neg, .int .u64 m0, .int .i64 e0, .bool false, .int .i64 how] w fun e w' => e = .returned (.float .f64 V) ∧ w' = w := by
  subst hT
  go_enter Tryd.func55, Tryd.ntmps55
  go_wp2_with (first | (go_at_call 59; refine (k59 _).mono ?_; rintro e w' ⟨rfl, rfl⟩))
  go_loop [1, 2] (fun m e => ∃ (X Y : Int), m = .int .u64 X ∧ e = .int .i64 Y ∧ Hid (NR m0 e0 X Y)) (fun m _ => (18446744073709551616 - intOf m).toNat)
  case atStart => exact ⟨m0, e0, rfl, rfl, HN⟩
  case round =>
    obtain ⟨X, Y, rfl, rfl, hx⟩ := hrel
    by_cases hlt : X < 9223372036854775808
    · go_wp2
      exact nr_step hx.out he1 he2 hlt
    · obtain ⟨rfl, rfl⟩ := HX.out X Y hx.out (by omega)
      clear HX hx HN hm
      go_wp2_with (first | (go_at_call 40; refine (c40 _ _).mono ?_; rintro e w' ⟨rfl, rfl⟩) | (go_at_call 60; refine (k60 _ _).mono ?_; rintro e w' ⟨rfl, rfl⟩) | (go_at_call 61; refine (k61 _).mono ?_; rintro e w' ⟨rfl, rfl⟩))
      all_goals go_ret
      all_goals (refine ⟨?_, rfl⟩; first | exact congrArg (fun v => Ending.returned (Value.float FloatKind.f64 v)) (FA.out))

set_option maxHeartbeats 1000000 in
theorem p55_3_2a (neg : Bool) (m0 : Nat) (e0 how M E : Int) (w : World) (HN : Hid (NR m0 e0 m0 e0)) (hm : ((m0 : Int) == 0) = false) (he1 : -20000 ≤ e0) (he2 : e0 ≤ 20000)
    (HX : Hid (∀ X Y, NR m0 e0 X Y → 9223372036854775808 ≤ X → X = M ∧ Y = E))
    (k59 : ∀ w, Calls Tryd.prog 59 #[.bool neg, .int .i64 how] w fun e w' => e = .returned (.int .i64 2) ∧ w' = w)
    (G : Nat → Nat) (OV : Nat) (k60 : ∀ (r : Nat) w, Calls Tryd.prog 60 #[.bool neg, .float .f64 r] w fun e w' => e = .returned (.float .f64 (G r)) ∧ w' = w)
    (k61 : ∀ w, Calls Tryd.prog 61 #[.bool neg, .int .i64 2] w fun e w' => e = .returned (.float .f64 OV) ∧ w' = w)
    (hE1 : -20063 ≤ E) (hE2 : E ≤ 20000) (V : Nat) (hT : E = -1138) (hc : 9223372036854775808 < M) (FA : Hid (G 1 = V)) :
    Calls Tryd.prog 55 #[.bool neg, .int .u64 m0, .int .i64 e0, .bool false, .int .i64 how] w fun e w' => e = .returned (.float .f64 V) ∧ w' = w := by
  subst hT
  go_enter Tryd.func55, Tryd.ntmps55
  go_wp2_with (first | (go_at_call 59; refine (k59 _).mono ?_; rintro e w' ⟨rfl, rfl⟩))
  go_loop [1, 2] (fun m e => ∃ (X Y : Int), m = .int .u64 X ∧ e = .int .i64 Y ∧ Hid (NR m0 e0 X Y)) (fun m _ => (18446744073709551616 - intOf m).toNat)
  case atStart => exact ⟨m0, e0, rfl, rfl, HN⟩
  case round =>
    obtain ⟨X, Y, rfl, rfl, hx⟩ := hrel
    by_cases hlt : X < 9223372036854775808
    · go_wp2
      exact nr_step hx.out he1 he2 hlt
    · obtain ⟨rfl, rfl⟩ := HX.out X Y hx.out (by omega)
      clear HX hx HN hm
      go_wp2_with (first | (go_at_call 40; refine (c40 _ _).mono ?_; rintro e w' ⟨rfl, rfl⟩) | (go_at_call 60; refine (k60 _ _).mono ?_; rintro e w' ⟨rfl, rfl⟩) | (go_at_call 61; refine (k61 _).mono ?_; rintro e w' ⟨rfl, rfl⟩))
      all_goals go_ret
      all_goals (refine ⟨?_, rfl⟩; first | exact congrArg (fun v => Ending.returned (Value.float FloatKind.f64 v)) (FA.out))

set_option maxHeartbeats 1000000 in
theorem p55_3_2b (neg : Bool) (m0 : Nat) (e0 how M E : Int) (w : World) (HN : Hid (NR m0 e0 m0 e0)) (hm : ((m0 : Int) == 0) = false) (he1 : -20000 ≤ e0) (he2 : e0 ≤ 20000)
    (HX : Hid (∀ X Y, NR m0 e0 X Y → 9223372036854775808 ≤ X → X = M ∧ Y = E))
    (k59 : ∀ w, Calls Tryd.prog 59 #[.bool neg, .int .i64 how] w fun e w' => e = .returned (.int .i64 2) ∧ w' = w)
    (G : Nat → Nat) (OV : Nat) (k60 : ∀ (r : Nat) w, Calls Tryd.prog 60 #[.bool neg, .float .f64 r] w fun e w' => e = .returned (.float .f64 (G r)) ∧ w' = w)
    (k61 : ∀ w, Calls Tryd.prog 61 #[.bool neg, .int .i64 2] w fun e w' => e = .returned (.float .f64 OV) ∧ w' = w)
    (hE1 : -20063 ≤ E) (hE2 : E ≤ 20000) (V : Nat) (hT : E = -1138) (hc : ¬ 9223372036854775808 < M) (FA : Hid (G 0 = V)) :
    Calls Tryd.prog 55 #[.bool neg, .int .u64 m0, .int .i64 e0, .bool false, .int .i64 how] w fun e w' => e = .returned (.float .f64 V) ∧ w' = w := by
  subst hT
  go_enter Tryd.func55, Tryd.ntmps55
  go_wp2_with (first | (go_at_call 59; refine (k59 _).mono ?_; rintro e w' ⟨rfl, rfl⟩))
  go_loop [1, 2] (fun m e => ∃ (X Y : Int), m = .int .u64 X ∧ e = .int .i64 Y ∧ Hid (NR m0 e0 X Y)) (fun m _ => (18446744073709551616 - intOf m).toNat)
  case atStart => exact ⟨m0, e0, rfl, rfl, HN⟩
  case round =>
    obtain ⟨X, Y, rfl, rfl, hx⟩ := hrel
    by_cases hlt : X < 9223372036854775808
    · go_wp2
      exact nr_step hx.out he1 he2 hlt
    · obtain ⟨rfl, rfl⟩ := HX.out X Y hx.out (by omega)
      clear HX hx HN hm
      go_wp2_with (first | (go_at_call 40; refine (c40 _ _).mono ?_; rintro e w' ⟨rfl, rfl⟩) | (go_at_call 60; refine (k60 _ _).mono ?_; rintro e w' ⟨rfl, rfl⟩) | (go_at_call 61; refine (k61 _).mono ?_; rintro e w' ⟨rfl, rfl⟩))
      all_goals go_ret
      all_goals (refine ⟨?_, rfl⟩; first | exact congrArg (fun v => Ending.returned (Value.float FloatKind.f64 v)) (FA.out))

set_option maxHeartbeats 1000000 in
theorem p55_3_3a (neg : Bool) (m0 : Nat) (e0 how M E : Int) (w : World) (HN : Hid (NR m0 e0 m0 e0)) (hm : ((m0 : Int) == 0) = false) (he1 : -20000 ≤ e0) (he2 : e0 ≤ 20000)
    (HX : Hid (∀ X Y, NR m0 e0 X Y → 9223372036854775808 ≤ X → X = M ∧ Y = E))
    (k59 : ∀ w, Calls Tryd.prog 59 #[.bool neg, .int .i64 how] w fun e w' => e = .returned (.int .i64 3) ∧ w' = w)
    (G : Nat → Nat) (OV : Nat) (k60 : ∀ (r : Nat) w, Calls Tryd.prog 60 #[.bool neg, .float .f64 r] w fun e w' => e = .returned (.float .f64 (G r)) ∧ w' = w)
    (k61 : ∀ w, Calls Tryd.prog 61 #[.bool neg, .int .i64 3] w fun e w' => e = .returned (.float .f64 OV) ∧ w' = w)
    (hE1 : -20063 ≤ E) (hE2 : E ≤ 20000) (V : Nat) (hT : E = -1138) (FA : Hid (G 1 = V)) :
    Calls Tryd.prog 55 #[.bool neg, .int .u64 m0, .int .i64 e0, .bool false, .int .i64 how] w fun e w' => e = .returned (.float .f64 V) ∧ w' = w := by
  subst hT
  go_enter Tryd.func55, Tryd.ntmps55
  go_wp2_with (first | (go_at_call 59; refine (k59 _).mono ?_; rintro e w' ⟨rfl, rfl⟩))
  go_loop [1, 2] (fun m e => ∃ (X Y : Int), m = .int .u64 X ∧ e = .int .i64 Y ∧ Hid (NR m0 e0 X Y)) (fun m _ => (18446744073709551616 - intOf m).toNat)
  case atStart => exact ⟨m0, e0, rfl, rfl, HN⟩
  case round =>
    obtain ⟨X, Y, rfl, rfl, hx⟩ := hrel
    by_cases hlt : X < 9223372036854775808
    · go_wp2
      exact nr_step hx.out he1 he2 hlt
    · obtain ⟨rfl, rfl⟩ := HX.out X Y hx.out (by omega)
      clear HX hx HN hm
      go_wp2_with (first | (go_at_call 40; refine (c40 _ _).mono ?_; rintro e w' ⟨rfl, rfl⟩) | (go_at_call 60; refine (k60 _ _).mono ?_; rintro e w' ⟨rfl, rfl⟩) | (go_at_call 61; refine (k61 _).mono ?_; rintro e w' ⟨rfl, rfl⟩))
      all_goals go_ret
      all_goals (refine ⟨?_, rfl⟩; first | exact congrArg (fun v => Ending.returned (Value.float FloatKind.f64 v)) (FA.out))

set_option maxHeartbeats 1000000 in
theorem p55_4_1 (neg : Bool) (m0 : Nat) (e0 how M E : Int) (w : World) (HN : Hid (NR m0 e0 m0 e0)) (hm : ((m0 : Int) == 0) = false) (he1 : -20000 ≤ e0) (he2 : e0 ≤ 20000)
    (HX : Hid (∀ X Y, NR m0 e0 X Y → 9223372036854775808 ≤ X → X = M ∧ Y = E))
    (k59 : ∀ w, Calls Tryd.prog 59 #[.bool neg, .int .i64 how] w fun e w' => e = .returned (.int .i64 1) ∧ w' = w)
    (G : Nat → Nat) (OV : Nat) (k60 : ∀ (r : Nat) w, Calls Tryd.prog 60 #[.bool neg, .float .f64 r] w fun e w' => e = .returned (.float .f64 (G r)) ∧ w' = w)
    (k61 : ∀ w, Calls Tryd.prog 61 #[.bool neg, .int .i64 1] w fun e w' => e = .returned (.float .f64 OV) ∧ w' = w)
    (hE1 : -20063 ≤ E) (hE2 : E ≤ 20000) (D : Int) (V : Nat) (hT : E + 11 < -1074) (hD : -1074 - E = D) (hD2 : 64 < D) (FA : Hid (G 0 = V)) :
    Calls Tryd.prog 55 #[.bool neg, .int .u64 m0, .int .i64 e0, .bool false, .int .i64 how] w fun e w' => e = .returned (.float .f64 V) ∧ w' = w := by
  go_enter Tryd.func55, Tryd.ntmps55
  go_wp2_with (first | (go_at_call 59; refine (k59 _).mono ?_; rintro e w' ⟨rfl, rfl⟩))
  go_loop [1, 2] (fun m e => ∃ (X Y : Int), m = .int .u64 X ∧ e = .int .i64 Y ∧ Hid (NR m0 e0 X Y)) (fun m _ => (18446744073709551616 - intOf m).toNat)
  case atStart => exact ⟨m0, e0, rfl, rfl, HN⟩
  case round =>
    obtain ⟨X, Y, rfl, rfl, hx⟩ := hrel
    by_cases hlt : X < 9223372036854775808
    · go_wp2
      exact nr_step hx.out he1 he2 hlt
    · obtain ⟨rfl, rfl⟩ := HX.out X Y hx.out (by omega)
      clear HX hx HN hm
      go_wp2_with (first | (go_at_call 40; refine (c40 _ _).mono ?_; rintro e w' ⟨rfl, rfl⟩) | (go_at_call 60; refine (k60 _ _).mono ?_; rintro e w' ⟨rfl, rfl⟩) | (go_at_call 61; refine (k61 _).mono ?_; rintro e w' ⟨rfl, rfl⟩))
      all_goals go_ret
      all_goals (refine ⟨?_, rfl⟩; first | exact congrArg (fun v => Ending.returned (Value.float FloatKind.f64 v)) (FA.out))

set_option maxHeartbeats 1000000 in
theorem p55_4_2 (neg : Bool) (m0 : Nat) (e0 how M E : Int) (w : World) (HN : Hid (NR m0 e0 m0 e0)) (hm : ((m0 : Int) == 0) = false) (he1 : -20000 ≤ e0) (he2 : e0 ≤ 20000)
    (HX : Hid (∀ X Y, NR m0 e0 X Y → 9223372036854775808 ≤ X → X = M ∧ Y = E))
    (k59 : ∀ w, Calls Tryd.prog 59 #[.bool neg, .int .i64 how] w fun e w' => e = .returned (.int .i64 2) ∧ w' = w)
    (G : Nat → Nat) (OV : Nat) (k60 : ∀ (r : Nat) w, Calls Tryd.prog 60 #[.bool neg, .float .f64 r] w fun e w' => e = .returned (.float .f64 (G r)) ∧ w' = w)
    (k61 : ∀ w, Calls Tryd.prog 61 #[.bool neg, .int .i64 2] w fun e w' => e = .returned (.float .f64 OV) ∧ w' = w)
    (hE1 : -20063 ≤ E) (hE2 : E ≤ 20000) (D : Int) (V : Nat) (hT : E + 11 < -1074) (hD : -1074 - E = D) (hD2 : 64 < D) (FA : Hid (G 0 = V)) :
    Calls Tryd.prog 55 #[.bool neg, .int .u64 m0, .int .i64 e0, .bool false, .int .i64 how] w fun e w' => e = .returned (.float .f64 V) ∧ w' = w := by
  go_enter Tryd.func55, Tryd.ntmps55
  go_wp2_with (first | (go_at_call 59; refine (k59 _).mono ?_; rintro e w' ⟨rfl, rfl⟩))
  go_loop [1, 2] (fun m e => ∃ (X Y : Int), m = .int .u64 X ∧ e = .int .i64 Y ∧ Hid (NR m0 e0 X Y)) (fun m _ => (18446744073709551616 - intOf m).toNat)
  case atStart => exact ⟨m0, e0, rfl, rfl, HN⟩
  case round =>
    obtain ⟨X, Y, rfl, rfl, hx⟩ := hrel
    by_cases hlt : X < 9223372036854775808
    · go_wp2
      exact nr_step hx.out he1 he2 hlt
    · obtain ⟨rfl, rfl⟩ := HX.out X Y hx.out (by omega)
      clear HX hx HN hm
      go_wp2_with (first | (go_at_call 40; refine (c40 _ _).mono ?_; rintro e w' ⟨rfl, rfl⟩) | (go_at_call 60; refine (k60 _ _).mono ?_; rintro e w' ⟨rfl, rfl⟩) | (go_at_call 61; refine (k61 _).mono ?_; rintro e w' ⟨rfl, rfl⟩))
      all_goals go_ret
      all_goals (refine ⟨?_, rfl⟩; first | exact congrArg (fun v => Ending.returned (Value.float FloatKind.f64 v)) (FA.out))

set_option maxHeartbeats 1000000 in
theorem p55_4_3 (neg : Bool) (m0 : Nat) (e0 how M E : Int) (w : World) (HN : Hid (NR m0 e0 m0 e0)) (hm : ((m0 : Int) == 0) = false) (he1 : -20000 ≤ e0) (he2 : e0 ≤ 20000)
    (HX : Hid (∀ X Y, NR m0 e0 X Y → 9223372036854775808 ≤ X → X = M ∧ Y = E))
    (k59 : ∀ w, Calls Tryd.prog 59 #[.bool neg, .int .i64 how] w fun e w' => e = .returned (.int .i64 3) ∧ w' = w)
    (G : Nat → Nat) (OV : Nat) (k60 : ∀ (r : Nat) w, Calls Tryd.prog 60 #[.bool neg, .float .f64 r] w fun e w' => e = .returned (.float .f64 (G r)) ∧ w' = w)
    (k61 : ∀ w, Calls Tryd.prog 61 #[.bool neg, .int .i64 3] w fun e w' => e = .returned (.float .f64 OV) ∧ w' = w)
    (hE1 : -20063 ≤ E) (hE2 : E ≤ 20000) (D : Int) (V : Nat) (hT : E + 11 < -1074) (hD : -1074 - E = D) (hD2 : 64 < D) (FA : Hid (G 1 = V)) :
    Calls Tryd.prog 55 #[.bool neg, .int .u64 m0, .int .i64 e0, .bool false, .int .i64 how] w fun e w' => e = .returned (.float .f64 V) ∧ w' = w := by
  go_enter Tryd.func55, Tryd.ntmps55
  go_wp2_with (first | (go_at_call 59; refine (k59 _).mono ?_; rintro e w' ⟨rfl, rfl⟩))
  go_loop [1, 2] (fun m e => ∃ (X Y : Int), m = .int .u64 X ∧ e = .int .i64 Y ∧ Hid (NR m0 e0 X Y)) (fun m _ => (18446744073709551616 - intOf m).toNat)
  case atStart => exact ⟨m0, e0, rfl, rfl, HN⟩
  case round =>
    obtain ⟨X, Y, rfl, rfl, hx⟩ := hrel
    by_cases hlt : X < 9223372036854775808
    · go_wp2
      exact nr_step hx.out he1 he2 hlt
    · obtain ⟨rfl, rfl⟩ := HX.out X Y hx.out (by omega)
      clear HX hx HN hm
      go_wp2_with (first | (go_at_call 40; refine (c40 _ _).mono ?_; rintro e w' ⟨rfl, rfl⟩) | (go_at_call 60; refine (k60 _ _).mono ?_; rintro e w' ⟨rfl, rfl⟩) | (go_at_call 61; refine (k61 _).mono ?_; rintro e w' ⟨rfl, rfl⟩))
      all_goals go_ret
      all_goals (refine ⟨?_, rfl⟩; first | exact congrArg (fun v => Ending.returned (Value.float FloatKind.f64 v)) (FA.out))

end Go.Proofs.YtacaidobfildoaaDoor
