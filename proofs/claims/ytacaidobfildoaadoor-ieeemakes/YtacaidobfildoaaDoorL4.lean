/- What the law IeeeMakes answers, for all parts. -/
import Derived.Test.YtacaidobfildoaaDoorW14
import Derived.Test.YtacaidobfildoaaDoorW10
import Derived.Deep.QuietTactic
import Derived.BigQuiet
namespace Go.Proofs.YtacaidobfildoaaDoor
set_option linter.unusedVariables false
set_option linter.unusedSimpArgs false
open Go.RowKit Go.Fl64

theorem law6x (neg : Bool) (m e mode : Int) (r q : Nat) (w : World)
    (k24 : ∀ w, Calls Tryd.prog 24 #[.bool neg, .int .u64 m, .int .i64 e, .int .i64 mode] w fun x w' => x = .returned (.float .f64 r) ∧ w' = w)
    (k25 : ∀ w, Calls Tryd.prog 25 #[.bool neg, .int .u64 m, .int .i64 e, .int .i64 mode] w fun x w' => x = .returned (.float .f64 q) ∧ w' = w)
    (k12 : ∀ w, Calls Tryd.prog 12 #[.float .f64 r, .float .f64 q] w fun x w' => x = .returned (.bool true) ∧ w' = w)
    (k15 : ∀ n, Calls Tryd.prog 15 #[] ((w.alloc (.cells #[.bool neg, .int .u64 m, .int .i64 e, .int .i64 mode] 34)).drewN n) fun x w' => x = .returned (.bool true) ∧ ∃ k, w' = ((w.alloc (.cells #[.bool neg, .int .u64 m, .int .i64 e, .int .i64 mode] 34)).drewN n).drewN k) :
    Calls Tryd.prog 6 #[.agg #[.bool neg, .int .u64 m, .int .i64 e, .int .i64 mode]] w fun x w' => x = .returned (.bool true) ∧ ∃ n, w' = (w.alloc (.cells #[.bool neg, .int .u64 m, .int .i64 e, .int .i64 mode] 34)).drewN n := by
  go_enter Tryd.func6, Tryd.ntmps6
  go_wp2
  go_quiet (first | (go_at_call 24; refine Calls.quiet_of_same (k24 _)) | (go_at_call 25; refine Calls.quiet_of_same (k25 _)) | (go_at_call 12; refine Calls.quiet_of_same (k12 _)) | (go_at_call 15; refine Calls.quiet_of (k15 _)))
  go_wp2
  go_ret
  exact ⟨rfl, _, rfl⟩

theorem tab_alloc {w : World} (h : Tab w) (o : Obj) : Tab (w.alloc o) := fun i hi => cell_later ((Below.refl _ _).alloc (Nat.le_refl _) o) (h i hi)

theorem law6 (neg : Bool) (m : Nat) (e mode : Int) (hm : m < 18446744073709551616) (w : World) (hT : Tab w) :
    Calls Tryd.prog 6 #[.agg #[.bool neg, .int .u64 m, .int .i64 e, .int .i64 mode]] w fun x w' => x = .returned (.bool true) ∧ ∃ n, w' = (w.alloc (.cells #[.bool neg, .int .u64 m, .int .i64 e, .int .i64 mode] 34)).drewN n := by
  have k12 := c12 _ _ (mk_lt neg m e mode 9221120237041090561 hm (by decide)) (mk_lt neg m e mode 9221120237041090560 hm (by decide))
  rw [mk_same] at k12
  exact law6x neg m e mode _ _ w (fun w => c24 neg m e mode hm w) (fun w => c25 neg m e mode hm w) k12 (fun n => c15 _ (tab_drewN (tab_alloc hT _) n))

end Go.Proofs.YtacaidobfildoaaDoor
