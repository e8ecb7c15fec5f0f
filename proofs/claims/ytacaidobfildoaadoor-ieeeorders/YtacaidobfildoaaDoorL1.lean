/- What the laws IeeeLooks and IeeeOrders answer, for every two floats. -/
import Derived.Test.YtacaidobfildoaaDoorW8
namespace Go.Proofs.YtacaidobfildoaaDoor
set_option linter.unusedVariables false
set_option linter.unusedSimpArgs false
open Go.RowKit Go.Fl64

theorem sig_lt (s : Bool) (m : Nat) (h : m < 9223372036854775808) : sig s m < 18446744073709551616 := by
  unfold sig
  split <;> omega
theorem withF_lt (a b : Nat) (h : a < 18446744073709551616) : withF a b < 18446744073709551616 := by
  unfold withF
  have := mag_lt a
  split
  · exact h
  · split
    · omega
    · exact sig_lt _ _ this

set_option maxHeartbeats 1000000 in
theorem law3 (a b : Nat) (ha : a < 18446744073709551616) (hb : b < 18446744073709551616) (w : World) (hT : Tab w) :
    Calls Tryd.prog 3 #[.float .f64 a, .float .f64 b] w fun e w' => e = .returned (.bool true) ∧ ∃ n, w' = w.drewN n := by
  have KT : Hid (Tab w) := hT
  have k9 := c9 a ha
  have k10 := c10 a ha
  have k11 := c11 a b ha hb
  have k12 := c12 a b ha hb
  have k13 := c13 a b ha hb
  have k14 := c14 a b ha hb
  have k12' := c12 (withF a b) (withF a b) (withF_lt a b ha) (withF_lt a b ha)
  rw [same_self] at k12'
  clear hT ha hb
  generalize withF a b = r at k13 k14 k12' ⊢
  generalize same a b = s at k11 k12 ⊢
  generalize cls a = c at k9 k10 ⊢
  generalize cneg a = g at k9 k10 ⊢
  go_enter Tryd.func3, Tryd.ntmps3
  go_wp2_with (first | (go_at_call 9; refine (k9 _).mono ?_; rintro e w' ⟨rfl, rfl⟩) | (go_at_call 10; refine (k10 _).mono ?_; rintro e w' ⟨rfl, rfl⟩) | (go_at_call 11; refine (k11 _).mono ?_; rintro e w' ⟨rfl, rfl⟩) | (go_at_call 13; refine (k13 _).mono ?_; rintro e w' ⟨rfl, rfl⟩) | (go_at_call 14; refine (k14 _).mono ?_; rintro e w' ⟨rfl, rfl⟩) | (go_at_call 12; refine (k12 _).mono ?_; rintro e w' ⟨rfl, rfl⟩) | (go_at_call 12; refine (k12' _).mono ?_; rintro e w' ⟨rfl, rfl⟩) | (go_at_call 15; refine (c15 _ KT.out).mono ?_; rintro e w' ⟨rfl, n, rfl⟩))
  go_ret
  exact ⟨rfl, _, rfl⟩

set_option maxHeartbeats 1000000 in
theorem law7 (a b : Nat) (ha : a < 18446744073709551616) (hb : b < 18446744073709551616) (w : World) (hT : Tab w) :
    Calls Tryd.prog 7 #[.float .f64 a, .float .f64 b] w fun e w' => e = .returned (.bool true) ∧ ∃ n, w' = w.drewN n := by
  have KT : Hid (Tab w) := hT
  have k26 := c26 a b ha hb
  have k27 := c27 a b ha hb
  have k28 := c28 a ha
  have k29 := c29 a ha
  clear hT ha hb
  generalize (if le a b then apN (stp a) (stp b) else 0) = n at k26 k27 ⊢
  generalize le a b = q at k26 k27 ⊢
  generalize ordr a = o at k28 k29 ⊢
  go_enter Tryd.func7, Tryd.ntmps7
  go_wp2_with (first | (go_at_call 26; refine (k26 _).mono ?_; rintro e w' ⟨rfl, rfl⟩) | (go_at_call 27; refine (k27 _).mono ?_; rintro e w' ⟨rfl, rfl⟩) | (go_at_call 28; refine (k28 _).mono ?_; rintro e w' ⟨rfl, rfl⟩) | (go_at_call 29; refine (k29 _).mono ?_; rintro e w' ⟨rfl, rfl⟩) | (go_at_call 15; refine (c15 _ KT.out).mono ?_; rintro e w' ⟨rfl, n, rfl⟩))
  go_ret
  exact ⟨rfl, _, rfl⟩

end Go.Proofs.YtacaidobfildoaaDoor
