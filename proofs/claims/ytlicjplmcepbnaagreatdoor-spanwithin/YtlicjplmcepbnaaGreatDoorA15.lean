/- Own work: contracts of the program's functions, part 15: ST8 ST9. -/
import Derived.Test.YtlicjplmcepbnaaGreatDoorA14
import Derived.Test.YtlicjplmcepbnaaGreatDoorA10
import Derived.Test.YtlicjplmcepbnaaGreatDoorA6
import Derived.Deep.MidRow

/- SpanWithin, walked. -/
namespace Go.Proofs.YtlicjplmcepbnaaGreatDoor
set_option linter.unusedVariables false
set_option linter.unusedSimpArgs false
open Go.RowKit Go.Fl64
attribute [local go_sem] run_store_flt

theorem run_four0 (g : Nat) (w : World) : (Instr.fieldAt 26 (.pointer (some ⟨g, 0, none⟩)) 0).run Tryz.prog w = .ok (.pointer (some ⟨g, 0, none⟩)) w := by kernel_rfl
theorem run_four1 (g : Nat) (w : World) : (Instr.fieldAt 26 (.pointer (some ⟨g, 0, none⟩)) 1).run Tryz.prog w = .ok (.pointer (some ⟨g, 2, none⟩)) w := by kernel_rfl
theorem run_four2 (g : Nat) (w : World) : (Instr.fieldAt 26 (.pointer (some ⟨g, 0, none⟩)) 2).run Tryz.prog w = .ok (.pointer (some ⟨g, 4, none⟩)) w := by kernel_rfl
theorem run_four3 (g : Nat) (w : World) : (Instr.fieldAt 26 (.pointer (some ⟨g, 0, none⟩)) 3).run Tryz.prog w = .ok (.pointer (some ⟨g, 6, none⟩)) w := by kernel_rfl
theorem run_loadIv (g o x y : Nat) (w : World) (h0 : w.cell? ⟨g, o, none⟩ = some (.float .f64 x)) (h1 : w.cell? ⟨g, o + 1, none⟩ = some (.float .f64 y)) : (Instr.loadAt 24 (.pointer (some ⟨g, o, none⟩))).run Tryz.prog w = .ok (.agg #[.float .f64 x, .float .f64 y]) w :=
  run_loadAt_mid w g o 24 [.float .f64 x, .float .f64 y] _ (fun j v hv => by
    match j with
    | 0 => simp at hv; subst hv; exact h0
    | 1 => simp at hv; subst hv; exact h1
    | k + 2 => simp at hv) Tryz.underlying24 rfl iv_info
theorem run_loadInt (g o : Nat) (n : Int) (w : World) (h : w.cell? ⟨g, o, none⟩ = some (.int .i64 n)) : (Instr.loadAt 3 (.pointer (some ⟨g, o, none⟩))).run Tryz.prog w = .ok (.int .i64 n) w := by
  have u := Tryz.isAgg3
  simp [Instr.loadAt, Instr.sureAddr, loadVar, h, go_sem]
theorem fstep_field {ops : Array Oper} {Q : Exit → Act → World → Prop} {i : Nat} {o : Oper} {K : Act → World → Prop} {a : Act} {w : World}
    (hi : ops[i]? = some o) (hg : o.guard = none) {s : Tmp} {f : Nat} (hop : o.op = .fieldAddr 26 (.tmp s) f) {g o2 : Nat} (hf : ∀ w, (Instr.fieldAt 26 (.pointer (some ⟨g, 0, none⟩)) f).run Tryz.prog w = .ok (.pointer (some ⟨g, o2, none⟩)) w)
    (hs : a.tmps[s]? = some (.pointer (some ⟨g, 0, none⟩))) (h : K (a.put o.dst (.pointer (some ⟨g, o2, none⟩))) w) : wpOp Tryz.prog ops Q i K a w := by
  refine step_wanted hi hg ?_
  unfold Oper.wp
  simp [execOp, hop, eval_get hs, hf, Result.andThen, Oper.upon, h]
theorem fstep_load {ops : Array Oper} {Q : Exit → Act → World → Prop} {i : Nat} {o : Oper} {K : Act → World → Prop} {a : Act} {w : World}
    (hi : ops[i]? = some o) (hg : o.guard = none) {s : Tmp} {ty : TypeId} (hop : o.op = .load ty (.tmp s)) {p v : Value} (hr : (Instr.loadAt ty p).run Tryz.prog w = .ok v w)
    (hs : a.tmps[s]? = some p) (h : K (a.put o.dst v) w) : wpOp Tryz.prog ops Q i K a w := by
  refine step_wanted hi hg ?_
  unfold Oper.wp
  simp [execOp, hop, eval_get hs, hr, Result.andThen, Oper.upon, h]
theorem fstep_assign {ops : Array Oper} {Q : Exit → Act → World → Prop} {i : Nat} {o : Oper} {K : Act → World → Prop} {a : Act} {w : World}
    (hi : ops[i]? = some o) (hg : o.guard = none) {s : Tmp} (hop : o.op = .assign (.tmp s)) {v : Value}
    (hs : a.tmps[s]? = some v) (h : K (a.put o.dst v) w) : wpOp Tryz.prog ops Q i K a w := by
  refine step_wanted hi hg ?_
  unfold Oper.wp
  simp [execOp, hop, eval_get hs, Result.andThen, Oper.upon, h]
def fourV (g a b x y c d : Nat) (n : Int) (j : Nat) (u : Value) : Prop :=
  match j with
  | 0 => u = .pointer (some ⟨g, 0, none⟩)
  | 1 => u = .agg #[.float .f64 a, .float .f64 b]
  | 2 => u = .pointer (some ⟨g, 2, none⟩)
  | 3 => u = .agg #[.float .f64 x, .float .f64 y]
  | 4 => u = .pointer (some ⟨g, 4, none⟩)
  | 5 => u = .agg #[.float .f64 c, .float .f64 d]
  | 6 => u = .pointer (some ⟨g, 6, none⟩)
  | _ => u = .int .i64 n
def fourD (j : Nat) : List Nat :=
  match j with
  | 1 => [0]
  | 3 => [2]
  | 5 => [4]
  | 7 => [6]
  | 8 => [7]
  | _ => []
def fourP (j : Nat) : Nat := if j < 8 then j else 14
def fourS (j : Nat) : Tmp := if j < 8 then 27 + j else 6
theorem lt9F {j : Nat} (h : j < 9) : j = 0 ∨ j = 1 ∨ j = 2 ∨ j = 3 ∨ j = 4 ∨ j = 5 ∨ j = 6 ∨ j = 7 ∨ j = 8 := by omega
theorem lt3F {j : Nat} (h : j < 3) : j = 0 ∨ j = 1 ∨ j = 2 := by omega
theorem oneIv (a b : Nat) : (#[.float .f64 a, .float .f64 b] : Array Value).all (·.oneCell') = true := by
  have h1 : (Value.float .f64 a).oneCell' = true := rfl
  have h2 : (Value.float .f64 b).oneCell' = true := rfl
  simp only [List.all_toArray, List.all_cons, List.all_nil, h1, h2, Bool.and_self]
theorem zero_iv (w : World) : (zeroValue 24).run Tryz.prog w = .ok (.agg #[.float .f64 0, .float .f64 0]) w := Tryz.zeroValue24 w

set_option maxHeartbeats 16000000 in
set_option maxRecDepth 200000 in
theorem within_1 (a b x y c d p1 p2 q1 q2 r1 r2 s1 s2 t1 t2 v1 v2 i1 i2 j1 j2 l1 l2 m1 m2 : Nat) (n M e f g h : Int) (ws vb : Bool) (w : World) (hM : max 0 (min n 1024) = M) (hf : f = 6 ∨ (f = 0 ∧ e = 0)) (hh : h = 7 ∨ (h = 0 ∧ g = 0))
    (kw0 : ∀ W, Below w.heap.size w W → Calls Tryz.prog 4 #[.agg #[.float .f64 a, .float .f64 b], .agg #[.float .f64 c, .float .f64 d]] W fun r w' => r = .returned (.bool ws) ∧ Below W.heap.size W w')
    (kv1 : ∀ W, Below w.heap.size w W → Calls Tryz.prog 5 #[.agg #[.float .f64 x, .float .f64 y]] W fun r w' => r = .returned (.bool vb) ∧ Below W.heap.size W w')
    (kv2 : ws = true → ∀ W, Below w.heap.size w W → Calls Tryz.prog 5 #[.agg #[.float .f64 c, .float .f64 d]] W fun r w' => r = .returned (.bool true) ∧ Below W.heap.size W w')
    (kv3 : ws = true → ∀ W, Below w.heap.size w W → Calls Tryz.prog 5 #[.agg #[.float .f64 a, .float .f64 b]] W fun r w' => r = .returned (.bool true) ∧ Below W.heap.size W w')
    (kwk : ∀ W, Below w.heap.size w W → Calls Tryz.prog 6 #[] W fun r w' => r = .returned (.bool true) ∧ Below W.heap.size W w')
    (k1 : ws = true → vb = true → ∀ W, Below w.heap.size w W → Calls Tryz.prog 7 #[.agg #[.float .f64 a, .float .f64 b], .agg #[.float .f64 x, .float .f64 y]] W fun r w' => r = .returned (.tuple #[.agg #[.float .f64 p1, .float .f64 p2], .int .i64 0]) ∧ Below W.heap.size W w')
    (k2 : ws = true → vb = true → ∀ W, Below w.heap.size w W → Calls Tryz.prog 7 #[.agg #[.float .f64 c, .float .f64 d], .agg #[.float .f64 x, .float .f64 y]] W fun r w' => r = .returned (.tuple #[.agg #[.float .f64 q1, .float .f64 q2], .int .i64 0]) ∧ Below W.heap.size W w')
    (k3 : ws = true → vb = true → ∀ W, Below w.heap.size w W → Calls Tryz.prog 8 #[.agg #[.float .f64 a, .float .f64 b], .agg #[.float .f64 x, .float .f64 y]] W fun r w' => r = .returned (.tuple #[.agg #[.float .f64 r1, .float .f64 r2], .int .i64 0]) ∧ Below W.heap.size W w')
    (k4 : ws = true → vb = true → ∀ W, Below w.heap.size w W → Calls Tryz.prog 8 #[.agg #[.float .f64 c, .float .f64 d], .agg #[.float .f64 x, .float .f64 y]] W fun r w' => r = .returned (.tuple #[.agg #[.float .f64 s1, .float .f64 s2], .int .i64 0]) ∧ Below W.heap.size W w')
    (k5 : ws = true → vb = true → ∀ W, Below w.heap.size w W → Calls Tryz.prog 9 #[.agg #[.float .f64 a, .float .f64 b], .int .i64 M] W fun r w' => r = .returned (.tuple #[.agg #[.float .f64 t1, .float .f64 t2], .int .i64 0]) ∧ Below W.heap.size W w')
    (k6 : ws = true → vb = true → ∀ W, Below w.heap.size w W → Calls Tryz.prog 9 #[.agg #[.float .f64 c, .float .f64 d], .int .i64 M] W fun r w' => r = .returned (.tuple #[.agg #[.float .f64 v1, .float .f64 v2], .int .i64 0]) ∧ Below W.heap.size W w')
    (k7 : ws = true → vb = true → ∀ W, Below w.heap.size w W → Calls Tryz.prog 10 #[.agg #[.float .f64 x, .float .f64 y], .agg #[.float .f64 a, .float .f64 b]] W fun r w' => r = .returned (.tuple #[.agg #[.float .f64 i1, .float .f64 i2], .int .i64 e]) ∧ Below W.heap.size W w')
    (k8 : ws = true → vb = true → ∀ W, Below w.heap.size w W → Calls Tryz.prog 10 #[.agg #[.float .f64 x, .float .f64 y], .agg #[.float .f64 c, .float .f64 d]] W fun r w' => r = .returned (.tuple #[.agg #[.float .f64 j1, .float .f64 j2], .int .i64 f]) ∧ Below W.heap.size W w')
    (k9 : ws = true → vb = true → ∀ W, Below w.heap.size w W → Calls Tryz.prog 11 #[.agg #[.float .f64 a, .float .f64 b]] W fun r w' => r = .returned (.tuple #[.agg #[.float .f64 l1, .float .f64 l2], .int .i64 g]) ∧ Below W.heap.size W w')
    (k10 : ws = true → vb = true → ∀ W, Below w.heap.size w W → Calls Tryz.prog 11 #[.agg #[.float .f64 c, .float .f64 d]] W fun r w' => r = .returned (.tuple #[.agg #[.float .f64 m1, .float .f64 m2], .int .i64 h]) ∧ Below W.heap.size W w')
    (z1 : ws = true → vb = true → ∀ W, Below w.heap.size w W → Calls Tryz.prog 4 #[.agg #[.float .f64 p1, .float .f64 p2], .agg #[.float .f64 q1, .float .f64 q2]] W fun r w' => r = .returned (.bool true) ∧ Below W.heap.size W w')
    (z2 : ws = true → vb = true → ∀ W, Below w.heap.size w W → Calls Tryz.prog 4 #[.agg #[.float .f64 r1, .float .f64 r2], .agg #[.float .f64 s1, .float .f64 s2]] W fun r w' => r = .returned (.bool true) ∧ Below W.heap.size W w')
    (z3 : ws = true → vb = true → ∀ W, Below w.heap.size w W → Calls Tryz.prog 4 #[.agg #[.float .f64 t1, .float .f64 t2], .agg #[.float .f64 v1, .float .f64 v2]] W fun r w' => r = .returned (.bool true) ∧ Below W.heap.size W w')
    (z4 : ws = true → vb = true → f = 0 → ∀ W, Below w.heap.size w W → Calls Tryz.prog 4 #[.agg #[.float .f64 i1, .float .f64 i2], .agg #[.float .f64 j1, .float .f64 j2]] W fun r w' => r = .returned (.bool true) ∧ Below W.heap.size W w')
    (z5 : ws = true → vb = true → h = 0 → ∀ W, Below w.heap.size w W → Calls Tryz.prog 4 #[.agg #[.float .f64 l1, .float .f64 l2], .agg #[.float .f64 m1, .float .f64 m2]] W fun r w' => r = .returned (.bool true) ∧ Below W.heap.size W w') :
    Calls Tryz.prog 3 #[.agg #[.float .f64 a, .float .f64 b, .float .f64 x, .float .f64 y, .float .f64 c, .float .f64 d, .int .i64 n]] w fun r w' => r = .returned (.bool true) ∧ Below w.heap.size w w' := by
  have Hkw0 : Hid (∀ W, Below w.heap.size w W → Calls Tryz.prog 4 #[.agg #[.float .f64 a, .float .f64 b], .agg #[.float .f64 c, .float .f64 d]] W fun r w' => r = .returned (.bool ws) ∧ Below W.heap.size W w') := kw0
  have Hkv1 : Hid (∀ W, Below w.heap.size w W → Calls Tryz.prog 5 #[.agg #[.float .f64 x, .float .f64 y]] W fun r w' => r = .returned (.bool vb) ∧ Below W.heap.size W w') := kv1
  have Hkv2 : Hid (ws = true → ∀ W, Below w.heap.size w W → Calls Tryz.prog 5 #[.agg #[.float .f64 c, .float .f64 d]] W fun r w' => r = .returned (.bool true) ∧ Below W.heap.size W w') := kv2
  have Hkv3 : Hid (ws = true → ∀ W, Below w.heap.size w W → Calls Tryz.prog 5 #[.agg #[.float .f64 a, .float .f64 b]] W fun r w' => r = .returned (.bool true) ∧ Below W.heap.size W w') := kv3
  have Hkwk : Hid (∀ W, Below w.heap.size w W → Calls Tryz.prog 6 #[] W fun r w' => r = .returned (.bool true) ∧ Below W.heap.size W w') := kwk
  have Hk1 : Hid (ws = true → vb = true → ∀ W, Below w.heap.size w W → Calls Tryz.prog 7 #[.agg #[.float .f64 a, .float .f64 b], .agg #[.float .f64 x, .float .f64 y]] W fun r w' => r = .returned (.tuple #[.agg #[.float .f64 p1, .float .f64 p2], .int .i64 0]) ∧ Below W.heap.size W w') := k1
  have Hk2 : Hid (ws = true → vb = true → ∀ W, Below w.heap.size w W → Calls Tryz.prog 7 #[.agg #[.float .f64 c, .float .f64 d], .agg #[.float .f64 x, .float .f64 y]] W fun r w' => r = .returned (.tuple #[.agg #[.float .f64 q1, .float .f64 q2], .int .i64 0]) ∧ Below W.heap.size W w') := k2
  have Hk3 : Hid (ws = true → vb = true → ∀ W, Below w.heap.size w W → Calls Tryz.prog 8 #[.agg #[.float .f64 a, .float .f64 b], .agg #[.float .f64 x, .float .f64 y]] W fun r w' => r = .returned (.tuple #[.agg #[.float .f64 r1, .float .f64 r2], .int .i64 0]) ∧ Below W.heap.size W w') := k3
  have Hk4 : Hid (ws = true → vb = true → ∀ W, Below w.heap.size w W → Calls Tryz.prog 8 #[.agg #[.float .f64 c, .float .f64 d], .agg #[.float .f64 x, .float .f64 y]] W fun r w' => r = .returned (.tuple #[.agg #[.float .f64 s1, .float .f64 s2], .int .i64 0]) ∧ Below W.heap.size W w') := k4
  have Hk5 : Hid (ws = true → vb = true → ∀ W, Below w.heap.size w W → Calls Tryz.prog 9 #[.agg #[.float .f64 a, .float .f64 b], .int .i64 M] W fun r w' => r = .returned (.tuple #[.agg #[.float .f64 t1, .float .f64 t2], .int .i64 0]) ∧ Below W.heap.size W w') := k5
  have Hk6 : Hid (ws = true → vb = true → ∀ W, Below w.heap.size w W → Calls Tryz.prog 9 #[.agg #[.float .f64 c, .float .f64 d], .int .i64 M] W fun r w' => r = .returned (.tuple #[.agg #[.float .f64 v1, .float .f64 v2], .int .i64 0]) ∧ Below W.heap.size W w') := k6
  have Hk7 : Hid (ws = true → vb = true → ∀ W, Below w.heap.size w W → Calls Tryz.prog 10 #[.agg #[.float .f64 x, .float .f64 y], .agg #[.float .f64 a, .float .f64 b]] W fun r w' => r = .returned (.tuple #[.agg #[.float .f64 i1, .float .f64 i2], .int .i64 e]) ∧ Below W.heap.size W w') := k7
  have Hk8 : Hid (ws = true → vb = true → ∀ W, Below w.heap.size w W → Calls Tryz.prog 10 #[.agg #[.float .f64 x, .float .f64 y], .agg #[.float .f64 c, .float .f64 d]] W fun r w' => r = .returned (.tuple #[.agg #[.float .f64 j1, .float .f64 j2], .int .i64 f]) ∧ Below W.heap.size W w') := k8
  have Hk9 : Hid (ws = true → vb = true → ∀ W, Below w.heap.size w W → Calls Tryz.prog 11 #[.agg #[.float .f64 a, .float .f64 b]] W fun r w' => r = .returned (.tuple #[.agg #[.float .f64 l1, .float .f64 l2], .int .i64 g]) ∧ Below W.heap.size W w') := k9
  have Hk10 : Hid (ws = true → vb = true → ∀ W, Below w.heap.size w W → Calls Tryz.prog 11 #[.agg #[.float .f64 c, .float .f64 d]] W fun r w' => r = .returned (.tuple #[.agg #[.float .f64 m1, .float .f64 m2], .int .i64 h]) ∧ Below W.heap.size W w') := k10
  have Hz1 : Hid (ws = true → vb = true → ∀ W, Below w.heap.size w W → Calls Tryz.prog 4 #[.agg #[.float .f64 p1, .float .f64 p2], .agg #[.float .f64 q1, .float .f64 q2]] W fun r w' => r = .returned (.bool true) ∧ Below W.heap.size W w') := z1
  have Hz2 : Hid (ws = true → vb = true → ∀ W, Below w.heap.size w W → Calls Tryz.prog 4 #[.agg #[.float .f64 r1, .float .f64 r2], .agg #[.float .f64 s1, .float .f64 s2]] W fun r w' => r = .returned (.bool true) ∧ Below W.heap.size W w') := z2
  have Hz3 : Hid (ws = true → vb = true → ∀ W, Below w.heap.size w W → Calls Tryz.prog 4 #[.agg #[.float .f64 t1, .float .f64 t2], .agg #[.float .f64 v1, .float .f64 v2]] W fun r w' => r = .returned (.bool true) ∧ Below W.heap.size W w') := z3
  have Hz4 : Hid (ws = true → vb = true → f = 0 → ∀ W, Below w.heap.size w W → Calls Tryz.prog 4 #[.agg #[.float .f64 i1, .float .f64 i2], .agg #[.float .f64 j1, .float .f64 j2]] W fun r w' => r = .returned (.bool true) ∧ Below W.heap.size W w') := z4
  have Hz5 : Hid (ws = true → vb = true → h = 0 → ∀ W, Below w.heap.size w W → Calls Tryz.prog 4 #[.agg #[.float .f64 l1, .float .f64 l2], .agg #[.float .f64 m1, .float .f64 m2]] W fun r w' => r = .returned (.bool true) ∧ Below W.heap.size W w') := z5
  clear kw0 kv1 kv2 kv3 kwk k1 k2 k3 k4 k5 k6 k7 k8 k9 k10 z1 z2 z3 z4 z5
  have HM : Hid (max 0 (min n 1024) = M) := hM
  have HFF : Hid ((f = 6 ∨ (f = 0 ∧ e = 0)) ∧ (h = 7 ∨ (h = 0 ∧ g = 0))) := ⟨hf, hh⟩
  clear hM hf hh
  obtain ⟨W, hW⟩ : ∃ W, W = w.alloc (.cells #[.float .f64 a, .float .f64 b, .float .f64 x, .float .f64 y, .float .f64 c, .float .f64 d, .int .i64 n] 26) := ⟨_, rfl⟩
  have A0 : Hid (Below w.heap.size w W) := (by rw [hW]; exact (Below.refl _ _).alloc (Nat.le_refl _) _ : Below w.heap.size w W)
  have HB : Hid (W.heap[w.heap.size]? = some (.cells #[.float .f64 a, .float .f64 b, .float .f64 x, .float .f64 y, .float .f64 c, .float .f64 d, .int .i64 n] 26 (0, 0))) := (by rw [hW]; exact heap_alloc_new _ _ : W.heap[w.heap.size]? = some (.cells #[.float .f64 a, .float .f64 b, .float .f64 x, .float .f64 y, .float .f64 c, .float .f64 d, .int .i64 n] 26 (0, 0)))
  have HCL : Hid (∀ w', Below W.heap.size W w' → w'.heap[w.heap.size]? = some (.cells #[.float .f64 a, .float .f64 b, .float .f64 x, .float .f64 y, .float .f64 c, .float .f64 d, .int .i64 n] 26 (0, 0))) := fun w' hb => box_later HB.out hb (Array.getElem?_eq_some_iff.1 HB.out).1
  go_enter Tryz.func3, Tryz.ntmps3
  go_upto_region 1 with fail
  rw [← hW]
  clear hW
  go_cut [3, 4, 5, 6] from 27 to 34 (fun p q r s wx => ∃ (bA bX bC : Nat), p = .pointer (some ⟨bA, 0, none⟩) ∧ q = .pointer (some ⟨bX, 0, none⟩) ∧ r = .pointer (some ⟨bC, 0, none⟩) ∧ s = .int .i64 n ∧ Hid (Below W.heap.size W wx ∧ IvB wx bA a b ∧ IvB wx bX x y ∧ IvB wx bC c d))
  case first =>
    refine parg_region follows_mixed fourP (fun k => 8 + k) (fun k => 11 + k) 9 3 fourS (fun k => 3 + k) (fun k => 2 * k + 1) fourD 24 #[.float .f64 0, .float .f64 0] W _ (fun j _ u => fourV w.heap.size a b x y c d n j u) ?_ ?_ ?_ ?_ ?_ ?_ ?_ ?_ ?_ ?_ (ordb_of (by kernel_rfl)) (fun _ _ _ _ _ h => h) (fun _ _ _ _ _ _ h => h) ?_ ?_ ?_ ?_ zero_iv iv_info ?_ ?_ ?_ ?_ ?_ ?_ ?_
    · show ∀ i, i < 15 → (∃ j, j < 9 ∧ i = fourP j) ∨ (∃ k, k < 3 ∧ i = 8 + k) ∨ ∃ k, k < 3 ∧ i = 11 + k
      intro i hi
      rcases (show i < 8 ∨ (8 ≤ i ∧ i < 11) ∨ (11 ≤ i ∧ i < 14) ∨ i = 14 by omega) with h | h | h | h
      · exact .inl ⟨i, by omega, by unfold fourP; rw [if_pos h]⟩
      · exact .inr (.inl ⟨i - 8, by omega, by omega⟩)
      · exact .inr (.inr ⟨i - 11, by omega, by omega⟩)
      · exact .inl ⟨8, by omega, h⟩
    · show ∀ j, j < 9 → fourP j < 15
      decide
    · show ∀ k, k < 3 → 8 + k < 15
      decide
    · show ∀ k, k < 3 → 11 + k < 15
      decide
    · intro j k hj hk; unfold fourP; split <;> omega
    · intro j k hj hk; unfold fourP; split <;> omega
    · intro k k' hk hk'; omega
    · intro j j' hj hj' h; unfold fourP at h; split at h <;> split at h <;> omega
    · intro k k' _ _ h; omega
    · intro k k' _ _ h; omega
    · intro k hk w' u hu
      rcases lt3F hk with rfl | rfl | rfl
      · exact ⟨_, hu, rfl, oneIv _ _⟩
      · exact ⟨_, hu, rfl, oneIv _ _⟩
      · exact ⟨_, hu, rfl, oneIv _ _⟩
    · intro j hj j' hj'
      rcases lt9F hj with rfl | rfl | rfl | rfl | rfl | rfl | rfl | rfl | rfl
      · simp [fourD] at hj'
      · obtain rfl : j' = 0 := by simpa [fourD] using hj'
        exact ⟨by omega, fun o ho => by obtain rfl := Option.some.inj (show some _ = some o from ho); exact ⟨_, Array.mem_of_getElem? (i := 0) rfl, rfl, rfl⟩⟩
      · simp [fourD] at hj'
      · obtain rfl : j' = 2 := by simpa [fourD] using hj'
        exact ⟨by omega, fun o ho => by obtain rfl := Option.some.inj (show some _ = some o from ho); exact ⟨_, Array.mem_of_getElem? (i := 0) rfl, rfl, rfl⟩⟩
      · simp [fourD] at hj'
      · obtain rfl : j' = 4 := by simpa [fourD] using hj'
        exact ⟨by omega, fun o ho => by obtain rfl := Option.some.inj (show some _ = some o from ho); exact ⟨_, Array.mem_of_getElem? (i := 0) rfl, rfl, rfl⟩⟩
      · simp [fourD] at hj'
      · obtain rfl : j' = 6 := by simpa [fourD] using hj'
        exact ⟨by omega, fun o ho => by obtain rfl := Option.some.inj (show some _ = some o from ho); exact ⟨_, Array.mem_of_getElem? (i := 0) rfl, rfl, rfl⟩⟩
      · obtain rfl : j' = 7 := by simpa [fourD] using hj'
        exact ⟨by omega, fun o ho => by obtain rfl := Option.some.inj (show some _ = some o from ho); exact ⟨_, Array.mem_of_getElem? (i := 0) rfl, rfl, rfl⟩⟩
    · intro j hj a' w' hb hoth hdep
      have hsrc : a'.tmps[1]? = some (.pointer (some ⟨w.heap.size, 0, none⟩)) := by
        rw [hoth 1 (fun j hj => by rcases lt9F hj with rfl | rfl | rfl | rfl | rfl | rfl | rfl | rfl | rfl <;> decide) (fun k hk => by rcases lt3F hk with rfl | rfl | rfl <;> decide)]; rfl
      have hcl := HCL.out w' hb
      have cell : ∀ i v, (#[.float .f64 a, .float .f64 b, .float .f64 x, .float .f64 y, .float .f64 c, .float .f64 d, .int .i64 n] : Array Value)[i]? = some v → w'.cell? ⟨w.heap.size, i, none⟩ = some v := fun i v hv => by
        simp only [World.cell?, hcl]; exact hv
      rcases lt9F hj with rfl | rfl | rfl | rfl | rfl | rfl | rfl | rfl | rfl
      · exact fstep_field rfl rfl rfl (run_four0 _) hsrc ⟨_, rfl, rfl, Below.refl _ _⟩
      · obtain ⟨u, hu, hv⟩ := hdep 0 (by simp [fourD])
        obtain rfl : u = _ := hv
        exact fstep_load rfl rfl rfl (run_loadIv _ 0 a b w' (cell 0 _ rfl) (cell 1 _ rfl)) hu ⟨_, rfl, rfl, Below.refl _ _⟩
      · exact fstep_field rfl rfl rfl (run_four1 _) hsrc ⟨_, rfl, rfl, Below.refl _ _⟩
      · obtain ⟨u, hu, hv⟩ := hdep 2 (by simp [fourD])
        obtain rfl : u = _ := hv
        exact fstep_load rfl rfl rfl (run_loadIv _ 2 x y w' (cell 2 _ rfl) (cell 3 _ rfl)) hu ⟨_, rfl, rfl, Below.refl _ _⟩
      · exact fstep_field rfl rfl rfl (run_four2 _) hsrc ⟨_, rfl, rfl, Below.refl _ _⟩
      · obtain ⟨u, hu, hv⟩ := hdep 4 (by simp [fourD])
        obtain rfl : u = _ := hv
        exact fstep_load rfl rfl rfl (run_loadIv _ 4 c d w' (cell 4 _ rfl) (cell 5 _ rfl)) hu ⟨_, rfl, rfl, Below.refl _ _⟩
      · exact fstep_field rfl rfl rfl (run_four3 _) hsrc ⟨_, rfl, rfl, Below.refl _ _⟩
      · obtain ⟨u, hu, hv⟩ := hdep 6 (by simp [fourD])
        obtain rfl : u = _ := hv
        exact fstep_load rfl rfl rfl (run_loadInt _ 6 n w' (cell 6 _ rfl)) hu ⟨_, rfl, rfl, Below.refl _ _⟩
      · obtain ⟨u, hu, hv⟩ := hdep 7 (by simp [fourD])
        obtain rfl : u = _ := hv
        exact fstep_assign rfl rfl rfl hu ⟨_, rfl, rfl, Below.refl _ _⟩
    · intro k hk
      rcases lt3F hk with rfl | rfl | rfl <;> exact ⟨_, rfl, rfl, rfl, rfl⟩
    · intro k hk
      rcases lt3F hk with rfl | rfl | rfl <;> exact ⟨by omega, _, rfl, rfl, rfl, rfl, ⟨⟨_, .data⟩, by simp, rfl, rfl⟩, ⟨_, .data⟩, by simp, rfl, rfl⟩
    · show ∀ j, j < 9 → fourS j < 158
      decide
    · show ∀ k, k < 3 → 3 + k < 158
      decide
    · intro j j' hj hj' h
      rcases lt9F hj with rfl | rfl | rfl | rfl | rfl | rfl | rfl | rfl | rfl <;> rcases lt9F hj' with rfl | rfl | rfl | rfl | rfl | rfl | rfl | rfl | rfl <;> first | rfl | exact absurd h (by decide)
    · intro k k' _ _ h
      exact Nat.add_left_cancel h
    · intro j k hj hk
      rcases lt9F hj with rfl | rfl | rfl | rfl | rfl | rfl | rfl | rfl | rfl <;> rcases lt3F hk with rfl | rfl | rfl <;> decide
    · intro u gb a' wx hb hu hg hs' hd' hoth
      have hv : ∀ j, j < 9 → fourV w.heap.size a b x y c d n j (u j) := fun j hj => (hu j hj).2
      have e1 : u 1 = .agg #[.float .f64 a, .float .f64 b] := hv 1 (by omega)
      have e3 : u 3 = .agg #[.float .f64 x, .float .f64 y] := hv 3 (by omega)
      have e5 : u 5 = .agg #[.float .f64 c, .float .f64 d] := hv 5 (by omega)
      have e8 : u 8 = .int .i64 n := hv 8 (by omega)
      have bx : ∀ k z1 z2, k < 3 → u (2 * k + 1) = .agg #[.float .f64 z1, .float .f64 z2] → IvB wx (gb k) z1 z2 := fun k z1 z2 hk he => by
        obtain ⟨-, -, cs, h1, h2⟩ := hg k hk
        rw [he] at h1
        obtain rfl : cs = _ := (Value.agg.inj h1).symm
        exact h2
      have HF : Hid (Below W.heap.size W wx ∧ IvB wx (gb 0) a b ∧ IvB wx (gb 1) x y ∧ IvB wx (gb 2) c d) := ⟨hb, bx 0 _ _ (by omega) e1, bx 1 _ _ (by omega) e3, bx 2 _ _ (by omega) e5⟩
      have h1 : (((List.range 9).map (fun j => ((fourS j, u j) : Tmp × Value)) ++ (List.range 3).map (fun k => (3 + k, Value.pointer (some ⟨gb k, 0, none⟩)))).map (fun p : Tmp × Value => p.1)).Nodup := by
        have e : ((List.range 9).map (fun j => ((fourS j, u j) : Tmp × Value)) ++ (List.range 3).map (fun k => (3 + k, Value.pointer (some ⟨gb k, 0, none⟩)))).map (fun p : Tmp × Value => p.1) = (List.range 9).map fourS ++ (List.range 3).map (fun k => 3 + k) := by simp [Function.comp_def]
        rw [e]; decide
      have h2 : ∀ p ∈ (List.range 9).map (fun j => ((fourS j, u j) : Tmp × Value)) ++ (List.range 3).map (fun k => (3 + k, Value.pointer (some ⟨gb k, 0, none⟩))), a'.tmps[p.1]? = some p.2 := by
        intro p hp
        rcases List.mem_append.1 hp with h | h
        · obtain ⟨j, hj, rfl⟩ := List.mem_map.1 h
          exact (hu j (List.mem_range.1 hj)).1
        · obtain ⟨k, hk, rfl⟩ := List.mem_map.1 h
          exact (hg k (List.mem_range.1 hk)).1
      have ha := act_putL h1 hs' hd' h2 (fun s hsn => hoth s (fun j hj he => hsn (by
          rw [List.map_append]
          exact List.mem_append_left _ (List.mem_map.2 ⟨_, List.mem_map.2 ⟨j, List.mem_range.2 hj, rfl⟩, he.symm⟩))) (fun k hk he => hsn (by
          rw [List.map_append]
          exact List.mem_append_right _ (List.mem_map.2 ⟨_, List.mem_map.2 ⟨k, List.mem_range.2 hk, rfl⟩, he.symm⟩))))
      clear h1 h2
      rw [ha]
      clear ha hu hg hs' hd' hoth hb bx hv
      simp only [putL, fourS, e1, e3, e5, e8, show List.range 9 = [0, 1, 2, 3, 4, 5, 6, 7, 8] from rfl, show List.range 3 = [0, 1, 2] from rfl, List.map_cons, List.map_nil, List.cons_append, List.nil_append, List.foldl_cons, List.foldl_nil, Nat.reduceLT, Nat.reduceMod, Nat.reduceDiv, Nat.reduceMul, Nat.reduceAdd, Nat.reduceEqDiff, reduceIte, Nat.one_ne_zero, Act.put, List.setIfInBounds_toArray, List.set_cons_zero, List.set_cons_succ]
      go_wp2_with fail
      go_meet
      exact ⟨_, _, _, rfl, rfl, rfl, rfl, HF⟩
  case rest =>
    obtain ⟨u0, hu0⟩ : ∃ u0 : World, u0 = wc := ⟨_, rfl⟩
    subst hu0
    obtain ⟨bA, bX, bC, rfl, rfl, rfl, rfl, HF⟩ := hcut
    have A1 : Hid (Below w.heap.size w u0) := A0.out.trans (HF.out.1.mono A0.out.size)
    have IA : Hid (IvB u0 bA a b) := HF.out.2.1
    have IX : Hid (IvB u0 bX x y) := HF.out.2.2.1
    have IC : Hid (IvB u0 bC c d) := HF.out.2.2.2
    clear HF A0 HB HCL
    obtain ⟨ia0, ia1, -, -⟩ := IvB.facts IA.out
    obtain ⟨ic0, ic1, -, -⟩ := IvB.facts IC.out
    have kk := Hkw0.out u0 A1.out
    clear Hkw0
    go_wp2_with fail
    clear ia0 ia1 ic0 ic1
    refine kk.mono ?_
    rintro r u20 ⟨rfl, hb⟩
    clear kk
    have A2 : Hid (Below w.heap.size w u20) := A1.out.trans (hb.mono A1.out.size)
    replace IA : Hid (IvB u20 bA a b) := IA.out.box hb
    replace IX : Hid (IvB u20 bX x y) := IX.out.box hb
    replace IC : Hid (IvB u20 bC c d) := IC.out.box hb
    clear hb A1
    cases ws
    · clear Hkv1 Hkv2 Hkv3 HM HFF Hk1 Hk2 Hk3 Hk4 Hk5 Hk6 Hk7 Hk8 Hk9 Hk10 Hz1 Hz2 Hz3 Hz4 Hz5
      have kk := Hkwk.out u20 A2.out
      clear Hkwk
      go_wp2_with fail
      refine kk.mono ?_
      rintro r u21 ⟨rfl, hb⟩
      clear kk
      have A3 : Hid (Below w.heap.size w u21) := A2.out.trans (hb.mono A2.out.size)
      replace IA : Hid (IvB u21 bA a b) := IA.out.box hb
      replace IX : Hid (IvB u21 bX x y) := IX.out.box hb
      replace IC : Hid (IvB u21 bC c d) := IC.out.box hb
      clear hb A2
      go_wp2_with fail
      go_ret
      exact ⟨rfl, A3.out⟩
    · obtain ⟨ix0, ix1, -, -⟩ := IvB.facts IX.out
      have kk := Hkv1.out u20 A2.out
      clear Hkv1
      go_wp2_with fail
      clear ix0 ix1
      refine kk.mono ?_
      rintro r u22 ⟨rfl, hb⟩
      clear kk
      have A3 : Hid (Below w.heap.size w u22) := A2.out.trans (hb.mono A2.out.size)
      replace IA : Hid (IvB u22 bA a b) := IA.out.box hb
      replace IX : Hid (IvB u22 bX x y) := IX.out.box hb
      replace IC : Hid (IvB u22 bC c d) := IC.out.box hb
      clear hb A2
      cases vb
      · clear Hkv2 Hkv3 HM HFF Hk1 Hk2 Hk3 Hk4 Hk5 Hk6 Hk7 Hk8 Hk9 Hk10 Hz1 Hz2 Hz3 Hz4 Hz5
        have kk := Hkwk.out u22 A3.out
        clear Hkwk
        go_wp2_with fail
        refine kk.mono ?_
        rintro r u23 ⟨rfl, hb⟩
        clear kk
        have A4 : Hid (Below w.heap.size w u23) := A3.out.trans (hb.mono A3.out.size)
        replace IA : Hid (IvB u23 bA a b) := IA.out.box hb
        replace IX : Hid (IvB u23 bX x y) := IX.out.box hb
        replace IC : Hid (IvB u23 bC c d) := IC.out.box hb
        clear hb A3
        go_wp2_with fail
        go_ret
        exact ⟨rfl, A4.out⟩
      · replace Hkv2 : Hid (∀ W, Below w.heap.size w W → Calls Tryz.prog 5 #[.agg #[.float .f64 c, .float .f64 d]] W fun r w' => r = .returned (.bool true) ∧ Below W.heap.size W w') := Hkv2.out (by first | rfl | trivial)
        replace Hkv3 : Hid (∀ W, Below w.heap.size w W → Calls Tryz.prog 5 #[.agg #[.float .f64 a, .float .f64 b]] W fun r w' => r = .returned (.bool true) ∧ Below W.heap.size W w') := Hkv3.out (by first | rfl | trivial)
        replace Hk1 : Hid (∀ W, Below w.heap.size w W → Calls Tryz.prog 7 #[.agg #[.float .f64 a, .float .f64 b], .agg #[.float .f64 x, .float .f64 y]] W fun r w' => r = .returned (.tuple #[.agg #[.float .f64 p1, .float .f64 p2], .int .i64 0]) ∧ Below W.heap.size W w') := Hk1.out (by first | rfl | trivial) (by first | rfl | trivial)
        replace Hk2 : Hid (∀ W, Below w.heap.size w W → Calls Tryz.prog 7 #[.agg #[.float .f64 c, .float .f64 d], .agg #[.float .f64 x, .float .f64 y]] W fun r w' => r = .returned (.tuple #[.agg #[.float .f64 q1, .float .f64 q2], .int .i64 0]) ∧ Below W.heap.size W w') := Hk2.out (by first | rfl | trivial) (by first | rfl | trivial)
        replace Hk3 : Hid (∀ W, Below w.heap.size w W → Calls Tryz.prog 8 #[.agg #[.float .f64 a, .float .f64 b], .agg #[.float .f64 x, .float .f64 y]] W fun r w' => r = .returned (.tuple #[.agg #[.float .f64 r1, .float .f64 r2], .int .i64 0]) ∧ Below W.heap.size W w') := Hk3.out (by first | rfl | trivial) (by first | rfl | trivial)
        replace Hk4 : Hid (∀ W, Below w.heap.size w W → Calls Tryz.prog 8 #[.agg #[.float .f64 c, .float .f64 d], .agg #[.float .f64 x, .float .f64 y]] W fun r w' => r = .returned (.tuple #[.agg #[.float .f64 s1, .float .f64 s2], .int .i64 0]) ∧ Below W.heap.size W w') := Hk4.out (by first | rfl | trivial) (by first | rfl | trivial)
        replace Hk5 : Hid (∀ W, Below w.heap.size w W → Calls Tryz.prog 9 #[.agg #[.float .f64 a, .float .f64 b], .int .i64 M] W fun r w' => r = .returned (.tuple #[.agg #[.float .f64 t1, .float .f64 t2], .int .i64 0]) ∧ Below W.heap.size W w') := Hk5.out (by first | rfl | trivial) (by first | rfl | trivial)
        replace Hk6 : Hid (∀ W, Below w.heap.size w W → Calls Tryz.prog 9 #[.agg #[.float .f64 c, .float .f64 d], .int .i64 M] W fun r w' => r = .returned (.tuple #[.agg #[.float .f64 v1, .float .f64 v2], .int .i64 0]) ∧ Below W.heap.size W w') := Hk6.out (by first | rfl | trivial) (by first | rfl | trivial)
        replace Hk7 : Hid (∀ W, Below w.heap.size w W → Calls Tryz.prog 10 #[.agg #[.float .f64 x, .float .f64 y], .agg #[.float .f64 a, .float .f64 b]] W fun r w' => r = .returned (.tuple #[.agg #[.float .f64 i1, .float .f64 i2], .int .i64 e]) ∧ Below W.heap.size W w') := Hk7.out (by first | rfl | trivial) (by first | rfl | trivial)
        replace Hk8 : Hid (∀ W, Below w.heap.size w W → Calls Tryz.prog 10 #[.agg #[.float .f64 x, .float .f64 y], .agg #[.float .f64 c, .float .f64 d]] W fun r w' => r = .returned (.tuple #[.agg #[.float .f64 j1, .float .f64 j2], .int .i64 f]) ∧ Below W.heap.size W w') := Hk8.out (by first | rfl | trivial) (by first | rfl | trivial)
        replace Hk9 : Hid (∀ W, Below w.heap.size w W → Calls Tryz.prog 11 #[.agg #[.float .f64 a, .float .f64 b]] W fun r w' => r = .returned (.tuple #[.agg #[.float .f64 l1, .float .f64 l2], .int .i64 g]) ∧ Below W.heap.size W w') := Hk9.out (by first | rfl | trivial) (by first | rfl | trivial)
        replace Hk10 : Hid (∀ W, Below w.heap.size w W → Calls Tryz.prog 11 #[.agg #[.float .f64 c, .float .f64 d]] W fun r w' => r = .returned (.tuple #[.agg #[.float .f64 m1, .float .f64 m2], .int .i64 h]) ∧ Below W.heap.size W w') := Hk10.out (by first | rfl | trivial) (by first | rfl | trivial)
        replace Hz1 : Hid (∀ W, Below w.heap.size w W → Calls Tryz.prog 4 #[.agg #[.float .f64 p1, .float .f64 p2], .agg #[.float .f64 q1, .float .f64 q2]] W fun r w' => r = .returned (.bool true) ∧ Below W.heap.size W w') := Hz1.out (by first | rfl | trivial) (by first | rfl | trivial)
        replace Hz2 : Hid (∀ W, Below w.heap.size w W → Calls Tryz.prog 4 #[.agg #[.float .f64 r1, .float .f64 r2], .agg #[.float .f64 s1, .float .f64 s2]] W fun r w' => r = .returned (.bool true) ∧ Below W.heap.size W w') := Hz2.out (by first | rfl | trivial) (by first | rfl | trivial)
        replace Hz3 : Hid (∀ W, Below w.heap.size w W → Calls Tryz.prog 4 #[.agg #[.float .f64 t1, .float .f64 t2], .agg #[.float .f64 v1, .float .f64 v2]] W fun r w' => r = .returned (.bool true) ∧ Below W.heap.size W w') := Hz3.out (by first | rfl | trivial) (by first | rfl | trivial)
        replace Hz4 : Hid (f = 0 → ∀ W, Below w.heap.size w W → Calls Tryz.prog 4 #[.agg #[.float .f64 i1, .float .f64 i2], .agg #[.float .f64 j1, .float .f64 j2]] W fun r w' => r = .returned (.bool true) ∧ Below W.heap.size W w') := Hz4.out (by first | rfl | trivial) (by first | rfl | trivial)
        replace Hz5 : Hid (h = 0 → ∀ W, Below w.heap.size w W → Calls Tryz.prog 4 #[.agg #[.float .f64 l1, .float .f64 l2], .agg #[.float .f64 m1, .float .f64 m2]] W fun r w' => r = .returned (.bool true) ∧ Below W.heap.size W w') := Hz5.out (by first | rfl | trivial) (by first | rfl | trivial)
        obtain ⟨ic0, ic1, -, -⟩ := IvB.facts IC.out
        have kk := Hkv2.out u22 A3.out
        clear Hkv2
        go_wp2_with fail
        clear ic0 ic1
        refine kk.mono ?_
        rintro r u24 ⟨rfl, hb⟩
        clear kk
        have A4 : Hid (Below w.heap.size w u24) := A3.out.trans (hb.mono A3.out.size)
        replace IA : Hid (IvB u24 bA a b) := IA.out.box hb
        replace IX : Hid (IvB u24 bX x y) := IX.out.box hb
        replace IC : Hid (IvB u24 bC c d) := IC.out.box hb
        clear hb A3
        obtain ⟨ia0, ia1, -, -⟩ := IvB.facts IA.out
        have kk := Hkv3.out u24 A4.out
        clear Hkv3
        go_wp2_with fail
        clear ia0 ia1
        refine kk.mono ?_
        rintro r u25 ⟨rfl, hb⟩
        clear kk
        have A5 : Hid (Below w.heap.size w u25) := A4.out.trans (hb.mono A4.out.size)
        replace IA : Hid (IvB u25 bA a b) := IA.out.box hb
        replace IX : Hid (IvB u25 bX x y) := IX.out.box hb
        replace IC : Hid (IvB u25 bC c d) := IC.out.box hb
        clear hb A4
        have hM := HM.out
        clear HM
        obtain ⟨ia0, ia1, -, -⟩ := IvB.facts IA.out
        obtain ⟨ix0, ix1, -, -⟩ := IvB.facts IX.out
        have kk := Hk1.out u25 A5.out
        clear Hk1
        go_wp2_with fail
        clear ia0 ia1 ix0 ix1
        refine kk.mono ?_
        rintro r u1 ⟨rfl, hb⟩
        clear kk
        have A6 : Hid (Below w.heap.size w u1) := A5.out.trans (hb.mono A5.out.size)
        replace IA : Hid (IvB u1 bA a b) := IA.out.box hb
        replace IX : Hid (IvB u1 bX x y) := IX.out.box hb
        replace IC : Hid (IvB u1 bC c d) := IC.out.box hb
        clear hb A5
        obtain ⟨V1, hV⟩ : ∃ V, V = u1.alloc (.cells #[.float .f64 p1, .float .f64 p2] 24) := ⟨_, rfl⟩
        obtain ⟨g1, hg⟩ : ∃ g, g = u1.heap.size := ⟨_, rfl⟩
        have hc : Below u1.heap.size u1 V1 := by rw [hV]; exact (Below.refl _ _).alloc (Nat.le_refl _) _
        have I1 : Hid (IvB V1 g1 p1 p2) := by rw [hV, hg]; exact IvB.new _ _ _
        have A7 : Hid (Below w.heap.size w V1) := A6.out.trans (hc.mono A6.out.size)
        replace IA : Hid (IvB V1 bA a b) := IA.out.box hc
        replace IX : Hid (IvB V1 bX x y) := IX.out.box hc
        replace IC : Hid (IvB V1 bC c d) := IC.out.box hc
        clear hc A6
        obtain ⟨ix0, ix1, -, -⟩ := IvB.facts IX.out
        obtain ⟨ic0, ic1, -, -⟩ := IvB.facts IC.out
        have kk := Hk2.out V1 A7.out
        clear Hk2
        rw [hV] at ix0 ix1 ic0 ic1
        go_wp2_with fail
        rw [← hV, ← hg]
        clear hV hg
        clear ix0 ix1 ic0 ic1
        refine kk.mono ?_
        rintro r u2 ⟨rfl, hb⟩
        clear kk
        have A8 : Hid (Below w.heap.size w u2) := A7.out.trans (hb.mono A7.out.size)
        replace IA : Hid (IvB u2 bA a b) := IA.out.box hb
        replace IX : Hid (IvB u2 bX x y) := IX.out.box hb
        replace IC : Hid (IvB u2 bC c d) := IC.out.box hb
        replace I1 : Hid (IvB u2 g1 p1 p2) := I1.out.box hb
        clear hb A7
        obtain ⟨V2, hV⟩ : ∃ V, V = u2.alloc (.cells #[.float .f64 q1, .float .f64 q2] 24) := ⟨_, rfl⟩
        obtain ⟨g2, hg⟩ : ∃ g, g = u2.heap.size := ⟨_, rfl⟩
        have hc : Below u2.heap.size u2 V2 := by rw [hV]; exact (Below.refl _ _).alloc (Nat.le_refl _) _
        have I2 : Hid (IvB V2 g2 q1 q2) := by rw [hV, hg]; exact IvB.new _ _ _
        have A9 : Hid (Below w.heap.size w V2) := A8.out.trans (hc.mono A8.out.size)
        replace IA : Hid (IvB V2 bA a b) := IA.out.box hc
        replace IX : Hid (IvB V2 bX x y) := IX.out.box hc
        replace IC : Hid (IvB V2 bC c d) := IC.out.box hc
        replace I1 : Hid (IvB V2 g1 p1 p2) := I1.out.box hc
        clear hc A8
        obtain ⟨ia0, ia1, -, -⟩ := IvB.facts IA.out
        obtain ⟨ix0, ix1, -, -⟩ := IvB.facts IX.out
        have kk := Hk3.out V2 A9.out
        clear Hk3
        rw [hV] at ia0 ia1 ix0 ix1
        go_wp2_with fail
        rw [← hV, ← hg]
        clear hV hg
        clear ia0 ia1 ix0 ix1
        refine kk.mono ?_
        rintro r u3 ⟨rfl, hb⟩
        clear kk
        have A10 : Hid (Below w.heap.size w u3) := A9.out.trans (hb.mono A9.out.size)
        replace IA : Hid (IvB u3 bA a b) := IA.out.box hb
        replace IX : Hid (IvB u3 bX x y) := IX.out.box hb
        replace IC : Hid (IvB u3 bC c d) := IC.out.box hb
        replace I1 : Hid (IvB u3 g1 p1 p2) := I1.out.box hb
        replace I2 : Hid (IvB u3 g2 q1 q2) := I2.out.box hb
        clear hb A9
        obtain ⟨V3, hV⟩ : ∃ V, V = u3.alloc (.cells #[.float .f64 r1, .float .f64 r2] 24) := ⟨_, rfl⟩
        obtain ⟨g3, hg⟩ : ∃ g, g = u3.heap.size := ⟨_, rfl⟩
        have hc : Below u3.heap.size u3 V3 := by rw [hV]; exact (Below.refl _ _).alloc (Nat.le_refl _) _
        have I3 : Hid (IvB V3 g3 r1 r2) := by rw [hV, hg]; exact IvB.new _ _ _
        have A11 : Hid (Below w.heap.size w V3) := A10.out.trans (hc.mono A10.out.size)
        replace IA : Hid (IvB V3 bA a b) := IA.out.box hc
        replace IX : Hid (IvB V3 bX x y) := IX.out.box hc
        replace IC : Hid (IvB V3 bC c d) := IC.out.box hc
        replace I1 : Hid (IvB V3 g1 p1 p2) := I1.out.box hc
        replace I2 : Hid (IvB V3 g2 q1 q2) := I2.out.box hc
        clear hc A10
        obtain ⟨ix0, ix1, -, -⟩ := IvB.facts IX.out
        obtain ⟨ic0, ic1, -, -⟩ := IvB.facts IC.out
        have kk := Hk4.out V3 A11.out
        clear Hk4
        rw [hV] at ix0 ix1 ic0 ic1
        go_wp2_with fail
        rw [← hV, ← hg]
        clear hV hg
        clear ix0 ix1 ic0 ic1
        refine kk.mono ?_
        rintro r u4 ⟨rfl, hb⟩
        clear kk
        have A12 : Hid (Below w.heap.size w u4) := A11.out.trans (hb.mono A11.out.size)
        replace IA : Hid (IvB u4 bA a b) := IA.out.box hb
        replace IX : Hid (IvB u4 bX x y) := IX.out.box hb
        replace IC : Hid (IvB u4 bC c d) := IC.out.box hb
        replace I1 : Hid (IvB u4 g1 p1 p2) := I1.out.box hb
        replace I2 : Hid (IvB u4 g2 q1 q2) := I2.out.box hb
        replace I3 : Hid (IvB u4 g3 r1 r2) := I3.out.box hb
        clear hb A11
        obtain ⟨V4, hV⟩ : ∃ V, V = u4.alloc (.cells #[.float .f64 s1, .float .f64 s2] 24) := ⟨_, rfl⟩
        obtain ⟨g4, hg⟩ : ∃ g, g = u4.heap.size := ⟨_, rfl⟩
        have hc : Below u4.heap.size u4 V4 := by rw [hV]; exact (Below.refl _ _).alloc (Nat.le_refl _) _
        have I4 : Hid (IvB V4 g4 s1 s2) := by rw [hV, hg]; exact IvB.new _ _ _
        have A13 : Hid (Below w.heap.size w V4) := A12.out.trans (hc.mono A12.out.size)
        replace IA : Hid (IvB V4 bA a b) := IA.out.box hc
        replace IX : Hid (IvB V4 bX x y) := IX.out.box hc
        replace IC : Hid (IvB V4 bC c d) := IC.out.box hc
        replace I1 : Hid (IvB V4 g1 p1 p2) := I1.out.box hc
        replace I2 : Hid (IvB V4 g2 q1 q2) := I2.out.box hc
        replace I3 : Hid (IvB V4 g3 r1 r2) := I3.out.box hc
        clear hc A12
        obtain ⟨ia0, ia1, -, -⟩ := IvB.facts IA.out
        have kk := Hk5.out V4 A13.out
        clear Hk5
        rw [hV] at ia0 ia1
        go_wp2_with fail
        rw [← hV, ← hg]
        clear hV hg
        clear ia0 ia1
        refine kk.mono ?_
        rintro r u5 ⟨rfl, hb⟩
        clear kk
        have A14 : Hid (Below w.heap.size w u5) := A13.out.trans (hb.mono A13.out.size)
        replace IA : Hid (IvB u5 bA a b) := IA.out.box hb
        replace IX : Hid (IvB u5 bX x y) := IX.out.box hb
        replace IC : Hid (IvB u5 bC c d) := IC.out.box hb
        replace I1 : Hid (IvB u5 g1 p1 p2) := I1.out.box hb
        replace I2 : Hid (IvB u5 g2 q1 q2) := I2.out.box hb
        replace I3 : Hid (IvB u5 g3 r1 r2) := I3.out.box hb
        replace I4 : Hid (IvB u5 g4 s1 s2) := I4.out.box hb
        clear hb A13
        obtain ⟨V5, hV⟩ : ∃ V, V = u5.alloc (.cells #[.float .f64 t1, .float .f64 t2] 24) := ⟨_, rfl⟩
        obtain ⟨g5, hg⟩ : ∃ g, g = u5.heap.size := ⟨_, rfl⟩
        have hc : Below u5.heap.size u5 V5 := by rw [hV]; exact (Below.refl _ _).alloc (Nat.le_refl _) _
        have I5 : Hid (IvB V5 g5 t1 t2) := by rw [hV, hg]; exact IvB.new _ _ _
        have A15 : Hid (Below w.heap.size w V5) := A14.out.trans (hc.mono A14.out.size)
        replace IA : Hid (IvB V5 bA a b) := IA.out.box hc
        replace IX : Hid (IvB V5 bX x y) := IX.out.box hc
        replace IC : Hid (IvB V5 bC c d) := IC.out.box hc
        replace I1 : Hid (IvB V5 g1 p1 p2) := I1.out.box hc
        replace I2 : Hid (IvB V5 g2 q1 q2) := I2.out.box hc
        replace I3 : Hid (IvB V5 g3 r1 r2) := I3.out.box hc
        replace I4 : Hid (IvB V5 g4 s1 s2) := I4.out.box hc
        clear hc A14
        obtain ⟨ic0, ic1, -, -⟩ := IvB.facts IC.out
        have kk := Hk6.out V5 A15.out
        clear Hk6
        rw [hV] at ic0 ic1
        go_wp2_with fail
        rw [← hV, ← hg]
        clear hV hg
        clear ic0 ic1
        refine kk.mono ?_
        rintro r u6 ⟨rfl, hb⟩
        clear kk
        have A16 : Hid (Below w.heap.size w u6) := A15.out.trans (hb.mono A15.out.size)
        replace IA : Hid (IvB u6 bA a b) := IA.out.box hb
        replace IX : Hid (IvB u6 bX x y) := IX.out.box hb
        replace IC : Hid (IvB u6 bC c d) := IC.out.box hb
        replace I1 : Hid (IvB u6 g1 p1 p2) := I1.out.box hb
        replace I2 : Hid (IvB u6 g2 q1 q2) := I2.out.box hb
        replace I3 : Hid (IvB u6 g3 r1 r2) := I3.out.box hb
        replace I4 : Hid (IvB u6 g4 s1 s2) := I4.out.box hb
        replace I5 : Hid (IvB u6 g5 t1 t2) := I5.out.box hb
        clear hb A15
        obtain ⟨V6, hV⟩ : ∃ V, V = u6.alloc (.cells #[.float .f64 v1, .float .f64 v2] 24) := ⟨_, rfl⟩
        obtain ⟨g6, hg⟩ : ∃ g, g = u6.heap.size := ⟨_, rfl⟩
        have hc : Below u6.heap.size u6 V6 := by rw [hV]; exact (Below.refl _ _).alloc (Nat.le_refl _) _
        have I6 : Hid (IvB V6 g6 v1 v2) := by rw [hV, hg]; exact IvB.new _ _ _
        have A17 : Hid (Below w.heap.size w V6) := A16.out.trans (hc.mono A16.out.size)
        replace IA : Hid (IvB V6 bA a b) := IA.out.box hc
        replace IX : Hid (IvB V6 bX x y) := IX.out.box hc
        replace IC : Hid (IvB V6 bC c d) := IC.out.box hc
        replace I1 : Hid (IvB V6 g1 p1 p2) := I1.out.box hc
        replace I2 : Hid (IvB V6 g2 q1 q2) := I2.out.box hc
        replace I3 : Hid (IvB V6 g3 r1 r2) := I3.out.box hc
        replace I4 : Hid (IvB V6 g4 s1 s2) := I4.out.box hc
        replace I5 : Hid (IvB V6 g5 t1 t2) := I5.out.box hc
        clear hc A16
        obtain ⟨ia0, ia1, -, -⟩ := IvB.facts IA.out
        obtain ⟨ix0, ix1, -, -⟩ := IvB.facts IX.out
        have kk := Hk7.out V6 A17.out
        clear Hk7
        rw [hV] at ia0 ia1 ix0 ix1
        go_wp2_with fail
        rw [← hV, ← hg]
        clear hV hg
        clear ia0 ia1 ix0 ix1
        refine kk.mono ?_
        rintro r u7 ⟨rfl, hb⟩
        clear kk
        have A18 : Hid (Below w.heap.size w u7) := A17.out.trans (hb.mono A17.out.size)
        replace IA : Hid (IvB u7 bA a b) := IA.out.box hb
        replace IX : Hid (IvB u7 bX x y) := IX.out.box hb
        replace IC : Hid (IvB u7 bC c d) := IC.out.box hb
        replace I1 : Hid (IvB u7 g1 p1 p2) := I1.out.box hb
        replace I2 : Hid (IvB u7 g2 q1 q2) := I2.out.box hb
        replace I3 : Hid (IvB u7 g3 r1 r2) := I3.out.box hb
        replace I4 : Hid (IvB u7 g4 s1 s2) := I4.out.box hb
        replace I5 : Hid (IvB u7 g5 t1 t2) := I5.out.box hb
        replace I6 : Hid (IvB u7 g6 v1 v2) := I6.out.box hb
        clear hb A17
        obtain ⟨V7, hV⟩ : ∃ V, V = u7.alloc (.cells #[.float .f64 i1, .float .f64 i2] 24) := ⟨_, rfl⟩
        obtain ⟨g7, hg⟩ : ∃ g, g = u7.heap.size := ⟨_, rfl⟩
        have hc : Below u7.heap.size u7 V7 := by rw [hV]; exact (Below.refl _ _).alloc (Nat.le_refl _) _
        have I7 : Hid (IvB V7 g7 i1 i2) := by rw [hV, hg]; exact IvB.new _ _ _
        have A19 : Hid (Below w.heap.size w V7) := A18.out.trans (hc.mono A18.out.size)
        replace IA : Hid (IvB V7 bA a b) := IA.out.box hc
        replace IX : Hid (IvB V7 bX x y) := IX.out.box hc
        replace IC : Hid (IvB V7 bC c d) := IC.out.box hc
        replace I1 : Hid (IvB V7 g1 p1 p2) := I1.out.box hc
        replace I2 : Hid (IvB V7 g2 q1 q2) := I2.out.box hc
        replace I3 : Hid (IvB V7 g3 r1 r2) := I3.out.box hc
        replace I4 : Hid (IvB V7 g4 s1 s2) := I4.out.box hc
        replace I5 : Hid (IvB V7 g5 t1 t2) := I5.out.box hc
        replace I6 : Hid (IvB V7 g6 v1 v2) := I6.out.box hc
        clear hc A18
        obtain ⟨ix0, ix1, -, -⟩ := IvB.facts IX.out
        obtain ⟨ic0, ic1, -, -⟩ := IvB.facts IC.out
        have kk := Hk8.out V7 A19.out
        clear Hk8
        rw [hV] at ix0 ix1 ic0 ic1
        go_wp2_with fail
        rw [← hV, ← hg]
        clear hV hg
        clear ix0 ix1 ic0 ic1
        refine kk.mono ?_
        rintro r u8 ⟨rfl, hb⟩
        clear kk
        have A20 : Hid (Below w.heap.size w u8) := A19.out.trans (hb.mono A19.out.size)
        replace IA : Hid (IvB u8 bA a b) := IA.out.box hb
        replace IX : Hid (IvB u8 bX x y) := IX.out.box hb
        replace IC : Hid (IvB u8 bC c d) := IC.out.box hb
        replace I1 : Hid (IvB u8 g1 p1 p2) := I1.out.box hb
        replace I2 : Hid (IvB u8 g2 q1 q2) := I2.out.box hb
        replace I3 : Hid (IvB u8 g3 r1 r2) := I3.out.box hb
        replace I4 : Hid (IvB u8 g4 s1 s2) := I4.out.box hb
        replace I5 : Hid (IvB u8 g5 t1 t2) := I5.out.box hb
        replace I6 : Hid (IvB u8 g6 v1 v2) := I6.out.box hb
        replace I7 : Hid (IvB u8 g7 i1 i2) := I7.out.box hb
        clear hb A19
        obtain ⟨V8, hV⟩ : ∃ V, V = u8.alloc (.cells #[.float .f64 j1, .float .f64 j2] 24) := ⟨_, rfl⟩
        obtain ⟨g8, hg⟩ : ∃ g, g = u8.heap.size := ⟨_, rfl⟩
        have hc : Below u8.heap.size u8 V8 := by rw [hV]; exact (Below.refl _ _).alloc (Nat.le_refl _) _
        have I8 : Hid (IvB V8 g8 j1 j2) := by rw [hV, hg]; exact IvB.new _ _ _
        have A21 : Hid (Below w.heap.size w V8) := A20.out.trans (hc.mono A20.out.size)
        replace IA : Hid (IvB V8 bA a b) := IA.out.box hc
        replace IX : Hid (IvB V8 bX x y) := IX.out.box hc
        replace IC : Hid (IvB V8 bC c d) := IC.out.box hc
        replace I1 : Hid (IvB V8 g1 p1 p2) := I1.out.box hc
        replace I2 : Hid (IvB V8 g2 q1 q2) := I2.out.box hc
        replace I3 : Hid (IvB V8 g3 r1 r2) := I3.out.box hc
        replace I4 : Hid (IvB V8 g4 s1 s2) := I4.out.box hc
        replace I5 : Hid (IvB V8 g5 t1 t2) := I5.out.box hc
        replace I6 : Hid (IvB V8 g6 v1 v2) := I6.out.box hc
        replace I7 : Hid (IvB V8 g7 i1 i2) := I7.out.box hc
        clear hc A20
        obtain ⟨ia0, ia1, -, -⟩ := IvB.facts IA.out
        have kk := Hk9.out V8 A21.out
        clear Hk9
        rw [hV] at ia0 ia1
        go_wp2_with fail
        rw [← hV, ← hg]
        clear hV hg
        clear ia0 ia1
        refine kk.mono ?_
        rintro r u9 ⟨rfl, hb⟩
        clear kk
        have A22 : Hid (Below w.heap.size w u9) := A21.out.trans (hb.mono A21.out.size)
        replace IA : Hid (IvB u9 bA a b) := IA.out.box hb
        replace IX : Hid (IvB u9 bX x y) := IX.out.box hb
        replace IC : Hid (IvB u9 bC c d) := IC.out.box hb
        replace I1 : Hid (IvB u9 g1 p1 p2) := I1.out.box hb
        replace I2 : Hid (IvB u9 g2 q1 q2) := I2.out.box hb
        replace I3 : Hid (IvB u9 g3 r1 r2) := I3.out.box hb
        replace I4 : Hid (IvB u9 g4 s1 s2) := I4.out.box hb
        replace I5 : Hid (IvB u9 g5 t1 t2) := I5.out.box hb
        replace I6 : Hid (IvB u9 g6 v1 v2) := I6.out.box hb
        replace I7 : Hid (IvB u9 g7 i1 i2) := I7.out.box hb
        replace I8 : Hid (IvB u9 g8 j1 j2) := I8.out.box hb
        clear hb A21
        obtain ⟨V9, hV⟩ : ∃ V, V = u9.alloc (.cells #[.float .f64 l1, .float .f64 l2] 24) := ⟨_, rfl⟩
        obtain ⟨g9, hg⟩ : ∃ g, g = u9.heap.size := ⟨_, rfl⟩
        have hc : Below u9.heap.size u9 V9 := by rw [hV]; exact (Below.refl _ _).alloc (Nat.le_refl _) _
        have I9 : Hid (IvB V9 g9 l1 l2) := by rw [hV, hg]; exact IvB.new _ _ _
        have A23 : Hid (Below w.heap.size w V9) := A22.out.trans (hc.mono A22.out.size)
        replace IA : Hid (IvB V9 bA a b) := IA.out.box hc
        replace IX : Hid (IvB V9 bX x y) := IX.out.box hc
        replace IC : Hid (IvB V9 bC c d) := IC.out.box hc
        replace I1 : Hid (IvB V9 g1 p1 p2) := I1.out.box hc
        replace I2 : Hid (IvB V9 g2 q1 q2) := I2.out.box hc
        replace I3 : Hid (IvB V9 g3 r1 r2) := I3.out.box hc
        replace I4 : Hid (IvB V9 g4 s1 s2) := I4.out.box hc
        replace I5 : Hid (IvB V9 g5 t1 t2) := I5.out.box hc
        replace I6 : Hid (IvB V9 g6 v1 v2) := I6.out.box hc
        replace I7 : Hid (IvB V9 g7 i1 i2) := I7.out.box hc
        replace I8 : Hid (IvB V9 g8 j1 j2) := I8.out.box hc
        clear hc A22
        obtain ⟨ic0, ic1, -, -⟩ := IvB.facts IC.out
        have kk := Hk10.out V9 A23.out
        clear Hk10
        rw [hV] at ic0 ic1
        go_wp2_with fail
        rw [← hV, ← hg]
        clear hV hg
        clear ic0 ic1
        refine kk.mono ?_
        rintro r u10 ⟨rfl, hb⟩
        clear kk
        have A24 : Hid (Below w.heap.size w u10) := A23.out.trans (hb.mono A23.out.size)
        replace IA : Hid (IvB u10 bA a b) := IA.out.box hb
        replace IX : Hid (IvB u10 bX x y) := IX.out.box hb
        replace IC : Hid (IvB u10 bC c d) := IC.out.box hb
        replace I1 : Hid (IvB u10 g1 p1 p2) := I1.out.box hb
        replace I2 : Hid (IvB u10 g2 q1 q2) := I2.out.box hb
        replace I3 : Hid (IvB u10 g3 r1 r2) := I3.out.box hb
        replace I4 : Hid (IvB u10 g4 s1 s2) := I4.out.box hb
        replace I5 : Hid (IvB u10 g5 t1 t2) := I5.out.box hb
        replace I6 : Hid (IvB u10 g6 v1 v2) := I6.out.box hb
        replace I7 : Hid (IvB u10 g7 i1 i2) := I7.out.box hb
        replace I8 : Hid (IvB u10 g8 j1 j2) := I8.out.box hb
        replace I9 : Hid (IvB u10 g9 l1 l2) := I9.out.box hb
        clear hb A23
        obtain ⟨V10, hV⟩ : ∃ V, V = u10.alloc (.cells #[.float .f64 m1, .float .f64 m2] 24) := ⟨_, rfl⟩
        obtain ⟨gx10, hg⟩ : ∃ g, g = u10.heap.size := ⟨_, rfl⟩
        have hc : Below u10.heap.size u10 V10 := by rw [hV]; exact (Below.refl _ _).alloc (Nat.le_refl _) _
        have I10 : Hid (IvB V10 gx10 m1 m2) := by rw [hV, hg]; exact IvB.new _ _ _
        have A25 : Hid (Below w.heap.size w V10) := A24.out.trans (hc.mono A24.out.size)
        replace IA : Hid (IvB V10 bA a b) := IA.out.box hc
        replace IX : Hid (IvB V10 bX x y) := IX.out.box hc
        replace IC : Hid (IvB V10 bC c d) := IC.out.box hc
        replace I1 : Hid (IvB V10 g1 p1 p2) := I1.out.box hc
        replace I2 : Hid (IvB V10 g2 q1 q2) := I2.out.box hc
        replace I3 : Hid (IvB V10 g3 r1 r2) := I3.out.box hc
        replace I4 : Hid (IvB V10 g4 s1 s2) := I4.out.box hc
        replace I5 : Hid (IvB V10 g5 t1 t2) := I5.out.box hc
        replace I6 : Hid (IvB V10 g6 v1 v2) := I6.out.box hc
        replace I7 : Hid (IvB V10 g7 i1 i2) := I7.out.box hc
        replace I8 : Hid (IvB V10 g8 j1 j2) := I8.out.box hc
        replace I9 : Hid (IvB V10 g9 l1 l2) := I9.out.box hc
        clear hc A24
        obtain ⟨i10, i11, -, -⟩ := IvB.facts I1.out
        obtain ⟨i20, i21, -, -⟩ := IvB.facts I2.out
        have kk := Hz1.out V10 A25.out
        clear Hz1
        rw [hV] at i10 i11 i20 i21
        go_wp2_with fail
        rw [← hV, ← hg]
        clear hV hg
        clear i10 i11 i20 i21
        refine kk.mono ?_
        rintro r u30 ⟨rfl, hb⟩
        clear kk
        have A26 : Hid (Below w.heap.size w u30) := A25.out.trans (hb.mono A25.out.size)
        replace IA : Hid (IvB u30 bA a b) := IA.out.box hb
        replace IX : Hid (IvB u30 bX x y) := IX.out.box hb
        replace IC : Hid (IvB u30 bC c d) := IC.out.box hb
        replace I1 : Hid (IvB u30 g1 p1 p2) := I1.out.box hb
        replace I2 : Hid (IvB u30 g2 q1 q2) := I2.out.box hb
        replace I3 : Hid (IvB u30 g3 r1 r2) := I3.out.box hb
        replace I4 : Hid (IvB u30 g4 s1 s2) := I4.out.box hb
        replace I5 : Hid (IvB u30 g5 t1 t2) := I5.out.box hb
        replace I6 : Hid (IvB u30 g6 v1 v2) := I6.out.box hb
        replace I7 : Hid (IvB u30 g7 i1 i2) := I7.out.box hb
        replace I8 : Hid (IvB u30 g8 j1 j2) := I8.out.box hb
        replace I9 : Hid (IvB u30 g9 l1 l2) := I9.out.box hb
        replace I10 : Hid (IvB u30 gx10 m1 m2) := I10.out.box hb
        clear hb A25
        obtain ⟨i30, i31, -, -⟩ := IvB.facts I3.out
        obtain ⟨i40, i41, -, -⟩ := IvB.facts I4.out
        have kk := Hz2.out u30 A26.out
        clear Hz2
        go_wp2_with fail
        clear i30 i31 i40 i41
        refine kk.mono ?_
        rintro r u31 ⟨rfl, hb⟩
        clear kk
        have A27 : Hid (Below w.heap.size w u31) := A26.out.trans (hb.mono A26.out.size)
        replace IA : Hid (IvB u31 bA a b) := IA.out.box hb
        replace IX : Hid (IvB u31 bX x y) := IX.out.box hb
        replace IC : Hid (IvB u31 bC c d) := IC.out.box hb
        replace I1 : Hid (IvB u31 g1 p1 p2) := I1.out.box hb
        replace I2 : Hid (IvB u31 g2 q1 q2) := I2.out.box hb
        replace I3 : Hid (IvB u31 g3 r1 r2) := I3.out.box hb
        replace I4 : Hid (IvB u31 g4 s1 s2) := I4.out.box hb
        replace I5 : Hid (IvB u31 g5 t1 t2) := I5.out.box hb
        replace I6 : Hid (IvB u31 g6 v1 v2) := I6.out.box hb
        replace I7 : Hid (IvB u31 g7 i1 i2) := I7.out.box hb
        replace I8 : Hid (IvB u31 g8 j1 j2) := I8.out.box hb
        replace I9 : Hid (IvB u31 g9 l1 l2) := I9.out.box hb
        replace I10 : Hid (IvB u31 gx10 m1 m2) := I10.out.box hb
        clear hb A26
        obtain ⟨i50, i51, -, -⟩ := IvB.facts I5.out
        obtain ⟨i60, i61, -, -⟩ := IvB.facts I6.out
        have kk := Hz3.out u31 A27.out
        clear Hz3
        go_wp2_with fail
        clear i50 i51 i60 i61
        refine kk.mono ?_
        rintro r u32 ⟨rfl, hb⟩
        clear kk
        have A28 : Hid (Below w.heap.size w u32) := A27.out.trans (hb.mono A27.out.size)
        replace IA : Hid (IvB u32 bA a b) := IA.out.box hb
        replace IX : Hid (IvB u32 bX x y) := IX.out.box hb
        replace IC : Hid (IvB u32 bC c d) := IC.out.box hb
        replace I1 : Hid (IvB u32 g1 p1 p2) := I1.out.box hb
        replace I2 : Hid (IvB u32 g2 q1 q2) := I2.out.box hb
        replace I3 : Hid (IvB u32 g3 r1 r2) := I3.out.box hb
        replace I4 : Hid (IvB u32 g4 s1 s2) := I4.out.box hb
        replace I5 : Hid (IvB u32 g5 t1 t2) := I5.out.box hb
        replace I6 : Hid (IvB u32 g6 v1 v2) := I6.out.box hb
        replace I7 : Hid (IvB u32 g7 i1 i2) := I7.out.box hb
        replace I8 : Hid (IvB u32 g8 j1 j2) := I8.out.box hb
        replace I9 : Hid (IvB u32 g9 l1 l2) := I9.out.box hb
        replace I10 : Hid (IvB u32 gx10 m1 m2) := I10.out.box hb
        clear hb A27
        obtain ⟨h1, h2⟩ := HFF.out
        clear HFF
        rcases h1 with rfl | ⟨rfl, rfl⟩
        · clear Hz4
          rcases h2 with rfl | ⟨rfl, rfl⟩
          · clear Hz5
            have kk := Hkwk.out u32 A28.out
            clear Hkwk
            go_wp2_with fail
            refine kk.mono ?_
            rintro r u40 ⟨rfl, hb⟩
            clear kk
            have A29 : Hid (Below w.heap.size w u40) := A28.out.trans (hb.mono A28.out.size)
            replace IA : Hid (IvB u40 bA a b) := IA.out.box hb
            replace IX : Hid (IvB u40 bX x y) := IX.out.box hb
            replace IC : Hid (IvB u40 bC c d) := IC.out.box hb
            replace I1 : Hid (IvB u40 g1 p1 p2) := I1.out.box hb
            replace I2 : Hid (IvB u40 g2 q1 q2) := I2.out.box hb
            replace I3 : Hid (IvB u40 g3 r1 r2) := I3.out.box hb
            replace I4 : Hid (IvB u40 g4 s1 s2) := I4.out.box hb
            replace I5 : Hid (IvB u40 g5 t1 t2) := I5.out.box hb
            replace I6 : Hid (IvB u40 g6 v1 v2) := I6.out.box hb
            replace I7 : Hid (IvB u40 g7 i1 i2) := I7.out.box hb
            replace I8 : Hid (IvB u40 g8 j1 j2) := I8.out.box hb
            replace I9 : Hid (IvB u40 g9 l1 l2) := I9.out.box hb
            replace I10 : Hid (IvB u40 gx10 m1 m2) := I10.out.box hb
            clear hb A28
            go_wp2_with fail
            go_ret
            exact ⟨rfl, A29.out⟩
          · replace Hz5 : Hid (∀ W, Below w.heap.size w W → Calls Tryz.prog 4 #[.agg #[.float .f64 l1, .float .f64 l2], .agg #[.float .f64 m1, .float .f64 m2]] W fun r w' => r = .returned (.bool true) ∧ Below W.heap.size W w') := Hz5.out (by first | rfl | trivial)
            obtain ⟨i90, i91, -, -⟩ := IvB.facts I9.out
            obtain ⟨i100, i101, -, -⟩ := IvB.facts I10.out
            have kk := Hz5.out u32 A28.out
            clear Hz5
            go_wp2_with fail
            clear i90 i91 i100 i101
            refine kk.mono ?_
            rintro r u41 ⟨rfl, hb⟩
            clear kk
            have A29 : Hid (Below w.heap.size w u41) := A28.out.trans (hb.mono A28.out.size)
            replace IA : Hid (IvB u41 bA a b) := IA.out.box hb
            replace IX : Hid (IvB u41 bX x y) := IX.out.box hb
            replace IC : Hid (IvB u41 bC c d) := IC.out.box hb
            replace I1 : Hid (IvB u41 g1 p1 p2) := I1.out.box hb
            replace I2 : Hid (IvB u41 g2 q1 q2) := I2.out.box hb
            replace I3 : Hid (IvB u41 g3 r1 r2) := I3.out.box hb
            replace I4 : Hid (IvB u41 g4 s1 s2) := I4.out.box hb
            replace I5 : Hid (IvB u41 g5 t1 t2) := I5.out.box hb
            replace I6 : Hid (IvB u41 g6 v1 v2) := I6.out.box hb
            replace I7 : Hid (IvB u41 g7 i1 i2) := I7.out.box hb
            replace I8 : Hid (IvB u41 g8 j1 j2) := I8.out.box hb
            replace I9 : Hid (IvB u41 g9 l1 l2) := I9.out.box hb
            replace I10 : Hid (IvB u41 gx10 m1 m2) := I10.out.box hb
            clear hb A28
            have kk := Hkwk.out u41 A29.out
            clear Hkwk
            go_wp2_with fail
            refine kk.mono ?_
            rintro r u42 ⟨rfl, hb⟩
            clear kk
            have A30 : Hid (Below w.heap.size w u42) := A29.out.trans (hb.mono A29.out.size)
            replace IA : Hid (IvB u42 bA a b) := IA.out.box hb
            replace IX : Hid (IvB u42 bX x y) := IX.out.box hb
            replace IC : Hid (IvB u42 bC c d) := IC.out.box hb
            replace I1 : Hid (IvB u42 g1 p1 p2) := I1.out.box hb
            replace I2 : Hid (IvB u42 g2 q1 q2) := I2.out.box hb
            replace I3 : Hid (IvB u42 g3 r1 r2) := I3.out.box hb
            replace I4 : Hid (IvB u42 g4 s1 s2) := I4.out.box hb
            replace I5 : Hid (IvB u42 g5 t1 t2) := I5.out.box hb
            replace I6 : Hid (IvB u42 g6 v1 v2) := I6.out.box hb
            replace I7 : Hid (IvB u42 g7 i1 i2) := I7.out.box hb
            replace I8 : Hid (IvB u42 g8 j1 j2) := I8.out.box hb
            replace I9 : Hid (IvB u42 g9 l1 l2) := I9.out.box hb
            replace I10 : Hid (IvB u42 gx10 m1 m2) := I10.out.box hb
            clear hb A29
            go_wp2_with fail
            go_ret
            exact ⟨rfl, A30.out⟩
        · replace Hz4 : Hid (∀ W, Below w.heap.size w W → Calls Tryz.prog 4 #[.agg #[.float .f64 i1, .float .f64 i2], .agg #[.float .f64 j1, .float .f64 j2]] W fun r w' => r = .returned (.bool true) ∧ Below W.heap.size W w') := Hz4.out (by first | rfl | trivial)
          obtain ⟨i70, i71, -, -⟩ := IvB.facts I7.out
          obtain ⟨i80, i81, -, -⟩ := IvB.facts I8.out
          have kk := Hz4.out u32 A28.out
          clear Hz4
          go_wp2_with fail
          clear i70 i71 i80 i81
          refine kk.mono ?_
          rintro r u33 ⟨rfl, hb⟩
          clear kk
          have A29 : Hid (Below w.heap.size w u33) := A28.out.trans (hb.mono A28.out.size)
          replace IA : Hid (IvB u33 bA a b) := IA.out.box hb
          replace IX : Hid (IvB u33 bX x y) := IX.out.box hb
          replace IC : Hid (IvB u33 bC c d) := IC.out.box hb
          replace I1 : Hid (IvB u33 g1 p1 p2) := I1.out.box hb
          replace I2 : Hid (IvB u33 g2 q1 q2) := I2.out.box hb
          replace I3 : Hid (IvB u33 g3 r1 r2) := I3.out.box hb
          replace I4 : Hid (IvB u33 g4 s1 s2) := I4.out.box hb
          replace I5 : Hid (IvB u33 g5 t1 t2) := I5.out.box hb
          replace I6 : Hid (IvB u33 g6 v1 v2) := I6.out.box hb
          replace I7 : Hid (IvB u33 g7 i1 i2) := I7.out.box hb
          replace I8 : Hid (IvB u33 g8 j1 j2) := I8.out.box hb
          replace I9 : Hid (IvB u33 g9 l1 l2) := I9.out.box hb
          replace I10 : Hid (IvB u33 gx10 m1 m2) := I10.out.box hb
          clear hb A28
          rcases h2 with rfl | ⟨rfl, rfl⟩
          · clear Hz5
            have kk := Hkwk.out u33 A29.out
            clear Hkwk
            go_wp2_with fail
            refine kk.mono ?_
            rintro r u40 ⟨rfl, hb⟩
            clear kk
            have A30 : Hid (Below w.heap.size w u40) := A29.out.trans (hb.mono A29.out.size)
            replace IA : Hid (IvB u40 bA a b) := IA.out.box hb
            replace IX : Hid (IvB u40 bX x y) := IX.out.box hb
            replace IC : Hid (IvB u40 bC c d) := IC.out.box hb
            replace I1 : Hid (IvB u40 g1 p1 p2) := I1.out.box hb
            replace I2 : Hid (IvB u40 g2 q1 q2) := I2.out.box hb
            replace I3 : Hid (IvB u40 g3 r1 r2) := I3.out.box hb
            replace I4 : Hid (IvB u40 g4 s1 s2) := I4.out.box hb
            replace I5 : Hid (IvB u40 g5 t1 t2) := I5.out.box hb
            replace I6 : Hid (IvB u40 g6 v1 v2) := I6.out.box hb
            replace I7 : Hid (IvB u40 g7 i1 i2) := I7.out.box hb
            replace I8 : Hid (IvB u40 g8 j1 j2) := I8.out.box hb
            replace I9 : Hid (IvB u40 g9 l1 l2) := I9.out.box hb
            replace I10 : Hid (IvB u40 gx10 m1 m2) := I10.out.box hb
            clear hb A29
            go_wp2_with fail
            go_ret
            exact ⟨rfl, A30.out⟩
          · replace Hz5 : Hid (∀ W, Below w.heap.size w W → Calls Tryz.prog 4 #[.agg #[.float .f64 l1, .float .f64 l2], .agg #[.float .f64 m1, .float .f64 m2]] W fun r w' => r = .returned (.bool true) ∧ Below W.heap.size W w') := Hz5.out (by first | rfl | trivial)
            obtain ⟨i90, i91, -, -⟩ := IvB.facts I9.out
            obtain ⟨i100, i101, -, -⟩ := IvB.facts I10.out
            have kk := Hz5.out u33 A29.out
            clear Hz5
            go_wp2_with fail
            clear i90 i91 i100 i101
            refine kk.mono ?_
            rintro r u41 ⟨rfl, hb⟩
            clear kk
            have A30 : Hid (Below w.heap.size w u41) := A29.out.trans (hb.mono A29.out.size)
            replace IA : Hid (IvB u41 bA a b) := IA.out.box hb
            replace IX : Hid (IvB u41 bX x y) := IX.out.box hb
            replace IC : Hid (IvB u41 bC c d) := IC.out.box hb
            replace I1 : Hid (IvB u41 g1 p1 p2) := I1.out.box hb
            replace I2 : Hid (IvB u41 g2 q1 q2) := I2.out.box hb
            replace I3 : Hid (IvB u41 g3 r1 r2) := I3.out.box hb
            replace I4 : Hid (IvB u41 g4 s1 s2) := I4.out.box hb
            replace I5 : Hid (IvB u41 g5 t1 t2) := I5.out.box hb
            replace I6 : Hid (IvB u41 g6 v1 v2) := I6.out.box hb
            replace I7 : Hid (IvB u41 g7 i1 i2) := I7.out.box hb
            replace I8 : Hid (IvB u41 g8 j1 j2) := I8.out.box hb
            replace I9 : Hid (IvB u41 g9 l1 l2) := I9.out.box hb
            replace I10 : Hid (IvB u41 gx10 m1 m2) := I10.out.box hb
            clear hb A29
            have kk := Hkwk.out u41 A30.out
            clear Hkwk
            go_wp2_with fail
            refine kk.mono ?_
            rintro r u42 ⟨rfl, hb⟩
            clear kk
            have A31 : Hid (Below w.heap.size w u42) := A30.out.trans (hb.mono A30.out.size)
            replace IA : Hid (IvB u42 bA a b) := IA.out.box hb
            replace IX : Hid (IvB u42 bX x y) := IX.out.box hb
            replace IC : Hid (IvB u42 bC c d) := IC.out.box hb
            replace I1 : Hid (IvB u42 g1 p1 p2) := I1.out.box hb
            replace I2 : Hid (IvB u42 g2 q1 q2) := I2.out.box hb
            replace I3 : Hid (IvB u42 g3 r1 r2) := I3.out.box hb
            replace I4 : Hid (IvB u42 g4 s1 s2) := I4.out.box hb
            replace I5 : Hid (IvB u42 g5 t1 t2) := I5.out.box hb
            replace I6 : Hid (IvB u42 g6 v1 v2) := I6.out.box hb
            replace I7 : Hid (IvB u42 g7 i1 i2) := I7.out.box hb
            replace I8 : Hid (IvB u42 g8 j1 j2) := I8.out.box hb
            replace I9 : Hid (IvB u42 g9 l1 l2) := I9.out.box hb
            replace I10 : Hid (IvB u42 gx10 m1 m2) := I10.out.box hb
            clear hb A30
            go_wp2_with fail
            go_ret
            exact ⟨rfl, A31.out⟩
end Go.Proofs.YtlicjplmcepbnaaGreatDoor
/- SpanWithin answers true. -/
namespace Go.Proofs.YtlicjplmcepbnaaGreatDoor
set_option linter.unusedVariables false
set_option linter.unusedSimpArgs false
open Go.RowKit Go.Fl64

def qNv (z : Bool) (v : Nat) : Nat := if z then 0 else v
def qEv (z : Bool) : Int := if z then 6 else 0
theorem quoV_is (z : Bool) (p q : Nat) : quoV true z p q = .tuple #[.agg #[.float .f64 (qNv z p), .float .f64 (qNv z q)], .int .i64 (qEv z)] := by
  cases z <;> rfl
theorem orV_is (p q : Nat) (g h : Value) : orV true p q g h = .tuple #[.agg #[.float .f64 p, .float .f64 q], g] := rfl
theorem pw_ltN {a b n : Nat} (ha : a < 18446744073709551616) (hb : b < 18446744073709551616) (hv : vI a b = true) : pwX a b n < 18446744073709551616 ∧ pwY a b n < 18446744073709551616 := by
  obtain ⟨f1, f2, -⟩ := pc_facts (n := n) ha hb hv
  exact ⟨pl_lt (pwF_lt f1 (by omega)), pl_lt (pwF_lt f2 (by omega))⟩
theorem spowN (a b : Nat) (M : Int) (w : World) (ha : a < 18446744073709551616) (hb : b < 18446744073709551616) (hT : Tab32 w) (hJ : Ie.Tab w) (hv : vI a b = true) (h0 : 0 ≤ M) (h1 : M ≤ 1024) :
    Calls Tryz.prog 9 #[.agg #[.float .f64 a, .float .f64 b], .int .i64 M] w fun r w' => r = .returned (.tuple #[.agg #[.float .f64 (pwX a b M.toNat), .float .f64 (pwY a b M.toNat)], .int .i64 0]) ∧ Below w.heap.size w w' := by
  have k := spow a b M w ha hb hT hJ
  have e : pOk a b M = true := by unfold pOk; rw [hv, decide_eq_true h0, decide_eq_true h1]; rfl
  exact k.mono fun r w' ⟨e2, hb⟩ => ⟨by rw [e2, if_pos e, if_pos e, if_pos e], hb⟩
theorem squoN (a b c d : Nat) (ha : a < 18446744073709551616) (hb : b < 18446744073709551616) (hc : c < 18446744073709551616) (hd : d < 18446744073709551616) (w : World) (hT : Tab32 w) (hJ : Ie.Tab w) (v1 : vI a b = true) (v2 : vI c d = true) :
    Calls Tryz.prog 10 #[.agg #[.float .f64 a, .float .f64 b], .agg #[.float .f64 c, .float .f64 d]] w fun r w' => r = .returned (.tuple #[.agg #[.float .f64 (qNv (hI c d 0) (qlo a b c d)), .float .f64 (qNv (hI c d 0) (qhi a b c d))], .int .i64 (qEv (hI c d 0))]) ∧ Below w.heap.size w w' :=
  (squo a b c d ha hb hc hd w hT hJ).mono fun r w' ⟨e, hb⟩ => ⟨by rw [e, v1, v2, Bool.and_self, quoV_is], hb⟩
theorem sqrtN (a b : Nat) (ha : a < 18446744073709551616) (hb : b < 18446744073709551616) : ∃ (l1 l2 : Nat) (g : Int), l1 < 18446744073709551616 ∧ l2 < 18446744073709551616 ∧ (vI a b = true → (stp a < 0 → g = 7) ∧ (0 ≤ stp a → g = 0 ∧ RootIs a 1 l1 ∧ RootIs b 3 l2 ∧ pl l1 = l1 ∧ pl l2 = l2) ∧
    ∀ W, Tab32 W → Ie.Tab W → Calls Tryz.prog 11 #[.agg #[.float .f64 a, .float .f64 b]] W fun r w' => r = .returned (.tuple #[.agg #[.float .f64 l1, .float .f64 l2], .int .i64 g]) ∧ Below W.heap.size W w') := by
  by_cases hv : vI a b = true
  · obtain ⟨s1, s2⟩ := sqrtW a b ha hb hv
    by_cases h : stp a < 0
    · exact ⟨0, 0, 7, by omega, by omega, fun _ => ⟨fun _ => rfl, fun h' => by omega, fun W _ _ => s1 h W⟩⟩
    · obtain ⟨x, y, r1, r3, p2, q2, p1, q1, k⟩ := s2 (by omega)
      exact ⟨x, y, 0, p2, q2, fun _ => ⟨fun h' => absurd h' h, fun _ => ⟨rfl, r1, r3, p1, q1⟩, k⟩⟩
  · exact ⟨0, 0, 0, by omega, by omega, fun h => absurd h hv⟩
theorem spanWithin_ok (a b x y c d : Nat) (n : Int) (w : World) (ha : a < 18446744073709551616) (hb : b < 18446744073709551616) (hx : x < 18446744073709551616) (hy : y < 18446744073709551616) (hc : c < 18446744073709551616) (hd : d < 18446744073709551616) (hT : Tab32 w) (hJ : Ie.Tab w) :
    Calls Tryz.prog 3 #[.agg #[.float .f64 a, .float .f64 b, .float .f64 x, .float .f64 y, .float .f64 c, .float .f64 d, .int .i64 n]] w fun r w' => r = .returned (.bool true) ∧ Below w.heap.size w w' := by
  obtain ⟨l1, l2, g, gl1, gl2, kg⟩ := sqrtN a b ha hb
  obtain ⟨m1, m2, h, gm1, gm2, kh⟩ := sqrtN c d hc hd
  have T : ∀ W, Below w.heap.size w W → Tab32 W := fun W hW => hT.later hW
  have J : ∀ W, Below w.heap.size w W → Ie.Tab W := fun W hW => Tab.later hJ hW
  have ws : wI a b c d = true → vI a b = true ∧ vI c d = true ∧ stp c ≤ stp a ∧ stp b ≤ stp d := fun h => wI_un h
  by_cases hw : wI a b c d = true
  · obtain ⟨v1, v2, s1, s2⟩ := ws hw
    obtain ⟨kg1, kg2, kg3⟩ := kg v1
    obtain ⟨kh1, kh2, kh3⟩ := kh v2
    have hab := (vI_facts v1).2.2.1
    have hz : hI c d 0 = false → hI a b 0 = false := fun h => (hI_zero v1).2 (by have := (hI_zero v2).1 h; omega)
    refine within_1 a b x y c d (pl (fAdM a x 1)) (pl (fAdM b y 3)) (pl (fAdM c x 1)) (pl (fAdM d y 3)) (mlo a b x y) (mhi a b x y) (mlo c d x y) (mhi c d x y) (pwX a b (max 0 (min n 1024)).toNat) (pwY a b (max 0 (min n 1024)).toNat) (pwX c d (max 0 (min n 1024)).toNat) (pwY c d (max 0 (min n 1024)).toNat)
      (qNv (hI a b 0) (qlo x y a b)) (qNv (hI a b 0) (qhi x y a b)) (qNv (hI c d 0) (qlo x y c d)) (qNv (hI c d 0) (qhi x y c d)) l1 l2 m1 m2 n (max 0 (min n 1024)) (qEv (hI a b 0)) (qEv (hI c d 0)) g h (wI a b c d) (vI x y) w rfl ?_ ?_
      (fun W hW => swithin a b c d ha hb hc hd W) (fun W hW => d8valid x y hx hy W) (fun _ W hW => (d8valid c d hc hd W).mono fun r w' ⟨e, hb⟩ => ⟨by rw [e, v2], hb⟩) (fun _ W hW => (d8valid a b ha hb W).mono fun r w' ⟨e, hb⟩ => ⟨by rw [e, v1], hb⟩) (fun W hW => works8 W (T W hW) (J W hW))
      (fun _ hv W hW => (sadd a b x y W ha hb hx hy (T W hW) (J W hW)).mono fun r w' ⟨e, hb⟩ => ⟨by rw [e, v1, hv, Bool.and_self, orV_is], hb⟩)
      (fun _ hv W hW => (sadd c d x y W hc hd hx hy (T W hW) (J W hW)).mono fun r w' ⟨e, hb⟩ => ⟨by rw [e, v2, hv, Bool.and_self, orV_is], hb⟩)
      (fun _ hv W hW => (smul a b x y ha hb hx hy W (T W hW) (J W hW)).mono fun r w' ⟨e, hb⟩ => ⟨by rw [e, v1, hv, Bool.and_self, orV_is], hb⟩)
      (fun _ hv W hW => (smul c d x y hc hd hx hy W (T W hW) (J W hW)).mono fun r w' ⟨e, hb⟩ => ⟨by rw [e, v2, hv, Bool.and_self, orV_is], hb⟩)
      (fun _ _ W hW => spowN a b _ W ha hb (T W hW) (J W hW) v1 (by omega) (by omega))
      (fun _ _ W hW => spowN c d _ W hc hd (T W hW) (J W hW) v2 (by omega) (by omega))
      (fun _ hv W hW => squoN x y a b hx hy ha hb W (T W hW) (J W hW) hv v1)
      (fun _ hv W hW => squoN x y c d hx hy hc hd W (T W hW) (J W hW) hv v2)
      (fun _ _ W hW => kg3 W (T W hW) (J W hW)) (fun _ _ W hW => kh3 W (T W hW) (J W hW))
      (fun _ hv W hW => (swithin (pl (fAdM a x 1)) (pl (fAdM b y 3)) (pl (fAdM c x 1)) (pl (fAdM d y 3)) (pl_lt (fAdM_lt ha hx (by omega))) (pl_lt (fAdM_lt hb hy (by omega))) (pl_lt (fAdM_lt hc hx (by omega))) (pl_lt (fAdM_lt hd hy (by omega))) W).mono fun r w' ⟨e, hbw⟩ => ⟨by rw [e, add_within ha hb hc hd hx hy hw hv], hbw⟩)
      (fun _ hv W hW => (swithin (mlo a b x y) (mhi a b x y) (mlo c d x y) (mhi c d x y) (mlo_ok a b x y).1 (mlo_ok a b x y).2.1 (mlo_ok c d x y).1 (mlo_ok c d x y).2.1 W).mono fun r w' ⟨e, hbw⟩ => ⟨by rw [e, mul_within ha hb hc hd hx hy hw hv], hbw⟩)
      (fun _ _ W hW => (swithin (pwX a b (max 0 (min n 1024)).toNat) (pwY a b (max 0 (min n 1024)).toNat) (pwX c d (max 0 (min n 1024)).toNat) (pwY c d (max 0 (min n 1024)).toNat) (pw_ltN ha hb v1).1 (pw_ltN ha hb v1).2 (pw_ltN hc hd v2).1 (pw_ltN hc hd v2).2 W).mono fun r w' ⟨e, hbw⟩ => ⟨by rw [e, pow_within ha hb hc hd hw], hbw⟩)
      (fun _ hv hf W hW => ?_) (fun _ _ hf W hW => ?_)
    · cases e : hI c d 0
      · right; rw [hz e]; unfold qEv; exact ⟨rfl, rfl⟩
      · left; unfold qEv; rfl
    · by_cases hc0 : stp c < 0
      · exact .inl (kh1 hc0)
      · exact .inr ⟨(kh2 (by omega)).1, (kg2 (by omega)).1⟩
    · have e : hI c d 0 = false := by
        cases e : hI c d 0
        · rfl
        · rw [e] at hf; exact absurd hf (by unfold qEv; decide)
      have k := swithin (qlo x y a b) (qhi x y a b) (qlo x y c d) (qhi x y c d) (qlo_ok x y a b).1 (qlo_ok x y a b).2.1 (qlo_ok x y c d).1 (qlo_ok x y c d).2.1 W
      have e1 : ∀ v, qNv (hI c d 0) v = v := fun v => by rw [e]; rfl
      have e2 : ∀ v, qNv (hI a b 0) v = v := fun v => by rw [hz e]; rfl
      rw [e1, e1, e2, e2]
      exact k.mono fun r w' ⟨e3, hbw⟩ => ⟨by rw [e3, quo_within ha hb hc hd hx hy hw hv ((hI_zero v2).1 e)], hbw⟩
    · have hc0 : 0 ≤ stp c := by
        apply Decidable.byContradiction
        intro hn
        have := kh1 (by omega)
        rw [this] at hf
        exact absurd hf (by decide)
      obtain ⟨-, r1, r2, e1, e2⟩ := kg2 (by omega)
      obtain ⟨-, r3, r4, e3, e4⟩ := kh2 hc0
      have k := swithin l1 l2 m1 m2 gl1 gl2 gm1 gm2 W
      exact k.mono fun r w' ⟨e5, hbw⟩ => ⟨by rw [e5, sqrt_within ha hb hc hd hw hc0 r1 r2 r3 r4 e1 e2 e3 e4], hbw⟩
  · have hw' : wI a b c d = false := by simpa using hw
    have no : ∀ {P : Prop}, wI a b c d = true → P := fun h => absurd h hw
    exact within_1 a b x y c d 0 0 0 0 0 0 0 0 0 0 0 0 0 0 0 0 0 0 0 0 n _ 0 6 0 7 (wI a b c d) (vI x y) w rfl (.inl rfl) (.inl rfl)
      (fun W hW => swithin a b c d ha hb hc hd W) (fun W hW => d8valid x y hx hy W) (fun h => no h) (fun h => no h) (fun W hW => works8 W (T W hW) (J W hW))
      (fun h => no h) (fun h => no h) (fun h => no h) (fun h => no h) (fun h => no h) (fun h => no h) (fun h => no h) (fun h => no h) (fun h => no h) (fun h => no h) (fun h => no h) (fun h => no h) (fun h => no h) (fun h => no h) (fun h => no h)
end Go.Proofs.YtlicjplmcepbnaaGreatDoor
