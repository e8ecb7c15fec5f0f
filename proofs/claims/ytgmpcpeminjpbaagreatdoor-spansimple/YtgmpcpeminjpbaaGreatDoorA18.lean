/- Own work: contracts of the program's functions, part 18: FRG. -/
import Derived.Test.YtgmpcpeminjpbaaGreatDoorA17
import Derived.Test.YtgmpcpeminjpbaaGreatDoorA16

set_option maxHeartbeats 16000000
namespace Go.Proofs.YtgmpcpeminjpbaaGreatDoor
set_option linter.unusedVariables false
set_option linter.unusedSimpArgs false
open Go.RowKit Go.Fl64
theorem lt9S {j : Nat} (h : j < 9) : j = 0 ∨ j = 1 ∨ j = 2 ∨ j = 3 ∨ j = 4 ∨ j = 5 ∨ j = 6 ∨ j = 7 ∨ j = 8 := by omega
theorem lt12S {j : Nat} (h : j < 12) : j = 0 ∨ j = 1 ∨ j = 2 ∨ j = 3 ∨ j = 4 ∨ j = 5 ∨ j = 6 ∨ j = 7 ∨ j = 8 ∨ j = 9 ∨ j = 10 ∨ j = 11 := by omega
theorem lt28S {j : Nat} (h : j < 28) : j = 0 ∨ j = 1 ∨ j = 2 ∨ j = 3 ∨ j = 4 ∨ j = 5 ∨ j = 6 ∨ j = 7 ∨ j = 8 ∨ j = 9 ∨ j = 10 ∨ j = 11 ∨ j = 12 ∨ j = 13 ∨ j = 14 ∨ j = 15 ∨ j = 16 ∨ j = 17 ∨ j = 18 ∨ j = 19 ∨ j = 20 ∨ j = 21 ∨ j = 22 ∨ j = 23 ∨ j = 24 ∨ j = 25 ∨ j = 26 ∨ j = 27 := by omega
structure CX (W : World) (a b : Nat) (P : Int) (Qd : Nat) (g0 g6 g7 : Nat) (s1 : Bool) (ao1 : Option Addr) (n1 cp1 : Nat) (e1 : Int) (s2 : Bool) (ao2 : Option Addr) (n2 cp2 : Nat) (e2 : Int) : Prop where
  ha : a < 18446744073709551616
  hb : b < 18446744073709551616
  m0 : W.heap[g0]? = some (.cells #[.float .f64 a, .float .f64 b] 24 (0, 0))
  m6 : W.heap[g6]? = some (.cells #[.bool s1, .slice ao1 n1 cp1, .int .i64 e1] 27 (0, 0))
  m7 : W.heap[g7]? = some (.cells #[.bool s2, .slice ao2 n2 cp2, .int .i64 e2] 27 (0, 0))
  pP : PN W (.agg #[.bool s1, .slice ao1 n1 cp1, .int .i64 e1]) (un P 0)
  pQ : DN W (.agg #[.bool s2, .slice ao2 n2 cp2, .int .i64 e2]) (un (Qd : Int) 0)
  sv : SV a b P Qd
  tb : Tab32 W ∧ Ie.Tab W
theorem CX.later {W V : World} {a b : Nat} {P : Int} {Qd g0 g6 g7 : Nat} {s1 : Bool} {ao1 : Option Addr} {n1 cp1 : Nat} {e1 : Int} {s2 : Bool} {ao2 : Option Addr} {n2 cp2 : Nat} {e2 : Int} (h : CX W a b P Qd g0 g6 g7 s1 ao1 n1 cp1 e1 s2 ao2 n2 cp2 e2) (hb : Below W.heap.size W V) : CX V a b P Qd g0 g6 g7 s1 ao1 n1 cp1 e1 s2 ao2 n2 cp2 e2 :=
  ⟨h.ha, h.hb, box_later h.m0 hb (lt_of_box h.m0), box_later h.m6 hb (lt_of_box h.m6), box_later h.m7 hb (lt_of_box h.m7), PN.later h.pP hb, DN.later h.pQ hb, h.sv, h.tb.1.later hb, Tab.later h.tb.2 hb⟩
theorem cmpI_lt0 {x y : Int} : decide (cmpI x y < 0) = decide (x < y) := by
  rcases cmpI_cases x y with h | h | h <;> rw [h.2] <;> simp <;> omega
theorem cmpI_gt0 {x y : Int} : decide (0 < cmpI x y) = decide (y < x) := by
  rcases cmpI_cases x y with h | h | h <;> rw [h.2] <;> simp <;> omega
theorem cmpI_le0 {x y : Int} : decide (cmpI x y ≤ 0) = decide (x ≤ y) := by
  rcases cmpI_cases x y with h | h | h <;> rw [h.2] <;> simp <;> omega
theorem cmpI_eq0 {x y : Int} : (cmpI x y == 0) = decide (x = y) := by
  rcases cmpI_cases x y with h | h | h <;> rw [h.2] <;> simp <;> omega
theorem pk_lt {a b : Nat} {P : Int} {Qd : Nat} (h : SV a b P Qd) : (P * kU).natAbs < 2 ^ (bU + bU) := by
  have := abs_mul (b := (kU : Int)) h.pk (by rw [Int.natAbs_natCast]; exact kU_lt)
  exact this
theorem qd_lt {a b : Nat} {P : Int} {Qd : Nat} (h : SV a b P Qd) : ((Qd : Int)).natAbs < 2 ^ bU := by rw [Int.natAbs_natCast]; exact Nat.lt_of_le_of_lt h.qk kU_lt
theorem n_lt {n : Nat} (h : n ≤ 200) : ((n : Int)).natAbs < 2 ^ bU := by
  rw [Int.natAbs_natCast]
  exact Nat.lt_of_le_of_lt h (Nat.lt_of_lt_of_le (by decide : 200 < 2 ^ 8) (Nat.pow_le_pow_right (by decide) (by unfold bU; decide)))
theorem bU_le : bU + bU ≤ 90000 := by unfold bU; decide
theorem bU_le1 : bU ≤ 90000 := by unfold bU; decide
theorem dV {a : Act} {s : Tmp} {L : List (World → Value → Prop)} {j : Nat} {w : World} {x : Value} (h : ∃ u, a.tmps[s]? = some u ∧ vL L j w u) (e : vL L j = isV x) : a.tmps[s]? = some x := by
  obtain ⟨u, h1, h2⟩ := h
  rw [e] at h2
  obtain rfl : u = x := h2
  exact h1
theorem dD {a : Act} {s : Tmp} {L : List (World → Value → Prop)} {j : Nat} {w : World} {t : Bool × Nat × Int} (h : ∃ u, a.tmps[s]? = some u ∧ vL L j w u) (e : vL L j = isD t) : ∃ u, a.tmps[s]? = some u ∧ DN w u t := by
  obtain ⟨u, h1, h2⟩ := h
  rw [e] at h2
  exact ⟨u, h1, h2⟩
theorem owp_lssI {Q : Exit → Act → World → Prop} {o : Oper} {K : Act → World → Prop} {a : Act} {w : World} {s : Tmp} {x c : Int} (hop : o.op = .binOp .lss 3 (.tmp s) (.const (.int .i64 c)) 3) (hs : a.tmps[s]? = some (.int .i64 x)) (h : K (a.put o.dst (.bool (decide (x < c)))) w) : o.wp Tryz.prog a w K Q :=
  owp_run1 (w' := w) (by simp [execOp, hop, Act.eval, hs, go_sem]) h
theorem owp_gtrI {Q : Exit → Act → World → Prop} {o : Oper} {K : Act → World → Prop} {a : Act} {w : World} {s : Tmp} {x c : Int} (hop : o.op = .binOp .gtr 3 (.tmp s) (.const (.int .i64 c)) 3) (hs : a.tmps[s]? = some (.int .i64 x)) (h : K (a.put o.dst (.bool (decide (c < x)))) w) : o.wp Tryz.prog a w K Q :=
  owp_run1 (w' := w) (by simp [execOp, hop, Act.eval, hs, go_sem]) h
theorem owp_leqI {Q : Exit → Act → World → Prop} {o : Oper} {K : Act → World → Prop} {a : Act} {w : World} {s : Tmp} {x c : Int} (hop : o.op = .binOp .leq 3 (.tmp s) (.const (.int .i64 c)) 3) (hs : a.tmps[s]? = some (.int .i64 x)) (h : K (a.put o.dst (.bool (decide (x ≤ c)))) w) : o.wp Tryz.prog a w K Q :=
  owp_run1 (w' := w) (by simp [execOp, hop, Act.eval, hs, go_sem]) h
theorem owp_eqlI {Q : Exit → Act → World → Prop} {o : Oper} {K : Act → World → Prop} {a : Act} {w : World} {s : Tmp} {x c : Int} (hop : o.op = .binOp .eql 3 (.tmp s) (.const (.int .i64 c)) 3) (hs : a.tmps[s]? = some (.int .i64 x)) (h : K (a.put o.dst (.bool (x == c))) w) : o.wp Tryz.prog a w K Q :=
  owp_run1 (w' := w) (by simp [execOp, hop, Act.eval, hs, go_sem]) h
theorem owp_geF {Q : Exit → Act → World → Prop} {o : Oper} {K : Act → World → Prop} {a : Act} {w : World} {s : Tmp} {x c : Nat} (hop : o.op = .binOp .geq 22 (.tmp s) (.const (.float .f64 c)) 22) (hs : a.tmps[s]? = some (.float .f64 x)) (h : K (a.put o.dst (.bool (FloatKind.f64.format.order x c == some Ordering.gt || FloatKind.f64.format.order x c == some Ordering.eq))) w) : o.wp Tryz.prog a w K Q :=
  owp_run1 (w' := w) (by simp [execOp, hop, Act.eval, hs, go_sem]) h
theorem owp_leF {Q : Exit → Act → World → Prop} {o : Oper} {K : Act → World → Prop} {a : Act} {w : World} {s : Tmp} {x c : Nat} (hop : o.op = .binOp .leq 22 (.tmp s) (.const (.float .f64 c)) 22) (hs : a.tmps[s]? = some (.float .f64 x)) (h : K (a.put o.dst (.bool (FloatKind.f64.format.order x c == some Ordering.lt || FloatKind.f64.format.order x c == some Ordering.eq))) w) : o.wp Tryz.prog a w K Q :=
  owp_run1 (w' := w) (by simp [execOp, hop, Act.eval, hs, go_sem]) h
theorem owp_pickA {Q : Exit → Act → World → Prop} {o : Oper} {K : Act → World → Prop} {a : Act} {w : World} {s : Tmp} {t : Tmp} {x : Bool} {v y : Value} (hop : o.op = .pick (.tmp s) (.tmp t) (.const v)) (hs : a.tmps[s]? = some (.bool x)) (ht : a.tmps[t]? = some y) (h : K (a.put o.dst (if x then y else v)) w) : o.wp Tryz.prog a w K Q :=
  owp_run1 (w' := w) (by simp [execOp, hop, Act.eval, hs, ht, go_sem]) h
theorem owp_pickB {Q : Exit → Act → World → Prop} {o : Oper} {K : Act → World → Prop} {a : Act} {w : World} {s : Tmp} {t : Tmp} {x : Bool} {v y : Value} (hop : o.op = .pick (.tmp s) (.const v) (.tmp t)) (hs : a.tmps[s]? = some (.bool x)) (ht : a.tmps[t]? = some y) (h : K (a.put o.dst (if x then v else y)) w) : o.wp Tryz.prog a w K Q :=
  owp_run1 (w' := w) (by simp [execOp, hop, Act.eval, hs, ht, go_sem]) h
theorem owp_fldI0 {Q : Exit → Act → World → Prop} {o : Oper} {K : Act → World → Prop} {a : Act} {w : World} {s : Tmp} {g : Nat} (hop : o.op = .fieldAddr 24 (.tmp s) 0) (hs : a.tmps[s]? = some (.pointer (some ⟨g, 0, none⟩))) (h : K (a.put o.dst (.pointer (some ⟨g, 0, none⟩))) w) : o.wp Tryz.prog a w K Q :=
  owp_run1 (w' := w) (by simp [execOp, hop, eval_get hs, run_fieldI0]) h
theorem owp_fldI1 {Q : Exit → Act → World → Prop} {o : Oper} {K : Act → World → Prop} {a : Act} {w : World} {s : Tmp} {g : Nat} (hop : o.op = .fieldAddr 24 (.tmp s) 1) (hs : a.tmps[s]? = some (.pointer (some ⟨g, 0, none⟩))) (h : K (a.put o.dst (.pointer (some ⟨g, 1, none⟩))) w) : o.wp Tryz.prog a w K Q :=
  owp_run1 (w' := w) (by simp [execOp, hop, eval_get hs, run_fieldI1]) h
theorem owp_ldF {Q : Exit → Act → World → Prop} {o : Oper} {K : Act → World → Prop} {a : Act} {w : World} {s : Tmp} {g f x : Nat} (hop : o.op = .load 22 (.tmp s)) (hs : a.tmps[s]? = some (.pointer (some ⟨g, f, none⟩))) (hc : w.cell? ⟨g, f, none⟩ = some (.float .f64 x)) (h : K (a.put o.dst (.float .f64 x)) w) : o.wp Tryz.prog a w K Q :=
  owp_run1 (w' := w) (by simp [execOp, hop, eval_get hs, run_loadF _ _ _ w hc]) h
theorem owp_ldD {Q : Exit → Act → World → Prop} {o : Oper} {K : Act → World → Prop} {a : Act} {w : World} {s : Tmp} {g : Nat} {s' : Bool} {ao : Option Addr} {n cp : Nat} {e : Int} (hop : o.op = .load 27 (.tmp s)) (hs : a.tmps[s]? = some (.pointer (some ⟨g, 0, none⟩))) (h0 : w.cell? ⟨g, 0, none⟩ = some (.bool s')) (h1 : w.cell? ⟨g, 1, none⟩ = some (.slice ao n cp)) (h2 : w.cell? ⟨g, 2, none⟩ = some (.int .i64 e)) (h : K (a.put o.dst (.agg #[.bool s', .slice ao n cp, .int .i64 e])) w) : o.wp Tryz.prog a w K Q :=
  owp_run1 (w' := w) (by simp [execOp, hop, eval_get hs, run_ldD g 0 s' ao n cp e w h0 h1 h2]) h
theorem map0 {a : Act} : (#[] : Array Operand).map a.eval = #[] := by simp
theorem map1 {a : Act} {s : Tmp} {v : Value} (h : a.tmps[s]? = some v) : #[Operand.tmp s].map a.eval = #[v] := by simp [eval_get h]
theorem map2 {a : Act} {s t : Tmp} {v u : Value} (h : a.tmps[s]? = some v) (h' : a.tmps[t]? = some u) : #[Operand.tmp s, Operand.tmp t].map a.eval = #[v, u] := by simp [eval_get h, eval_get h']
def sops10 : Array Oper := #[{ dst := some 77, op := Op.move (Operand.tmp 8), type := 3, pos := "law.go:176", after := #[], guard := none }, { dst := some 78, op := Op.binOp BinOp.lss 3 (Operand.tmp 77) (Operand.const (Value.int IntKind.i64 200)) 3, type := 4, pos := "law.go:176", after := #[{ on := 0, ground := Ground.data }], guard := none }, { dst := some 79, op := Op.move (Operand.tmp 78), type := 4, pos := "law.go:176", after := #[{ on := 1, ground := Ground.data }], guard := none }, { dst := some 80, op := Op.move (Operand.tmp 8), type := 3, pos := "law.go:176", after := #[{ on := 2, ground := Ground.guard }], guard := some (2, true) }, { dst := some 81, op := Op.call { callee := Callee.value (Operand.func 18), args := #[Operand.tmp 80], argTypes := #[3] }, type := 27, pos := "law.go:176", after := #[{ on := 3, ground := Ground.data }, { on := 2, ground := Ground.chain }, { on := 2, ground := Ground.guard }], guard := some (2, true) }, { dst := some 82, op := Op.load 27 (Operand.tmp 7), type := 27, pos := "law.go:176", after := #[{ on := 2, ground := Ground.guard }], guard := some (2, true) }, { dst := some 83, op := Op.call { callee := Callee.value (Operand.func 15), args := #[Operand.tmp 81, Operand.tmp 82], argTypes := #[27, 27] }, type := 3, pos := "law.go:176", after := #[{ on := 4, ground := Ground.data }, { on := 5, ground := Ground.data }, { on := 4, ground := Ground.chain }, { on := 2, ground := Ground.guard }], guard := some (2, true) }, { dst := some 84, op := Op.binOp BinOp.lss 3 (Operand.tmp 83) (Operand.const (Value.int IntKind.i64 0)) 3, type := 4, pos := "law.go:176", after := #[{ on := 6, ground := Ground.data }, { on := 2, ground := Ground.guard }], guard := some (2, true) }, { dst := some 85, op := Op.pick (Operand.tmp 79) (Operand.tmp 84) (Operand.const (Value.bool false)), type := 4, pos := "law.go:176", after := #[{ on := 2, ground := Ground.data }, { on := 7, ground := Ground.data }], guard := none }]
set_option maxRecDepth 200000 in
theorem rg10_t (a b : Nat) (P : Int) (Qd : Nat) (g0 g6 g7 : Nat) (s1 : Bool) (ao1 : Option Addr) (n1 cp1 : Nat) (e1 : Int) (s2 : Bool) (ao2 : Option Addr) (n2 cp2 : Nat) (e2 : Int) (n : Nat) {Q : Exit → Act → World → Prop} {id : Nat} (W0 : World) (a0 : Act) (hsz : 138 ≤ a0.tmps.size) (h7 : a0.tmps[(7 : Nat)]? = some (.pointer (some ⟨g7, 0, none⟩))) (h8 : a0.tmps[(8 : Nat)]? = some (.int .i64 (n : Int))) (cx : CX W0 a b P Qd g0 g6 g7 s1 ao1 n1 cp1 e1 s2 ao2 n2 cp2 e2) (hn : n < 200)
    (hQ : ∀ (u : Nat → Value) (w : World), Below W0.heap.size W0 w → u 8 = .bool (decide ((n : Int) < (Qd : Int))) → Q .normal (putL a0 ((List.range 9).map (fun j => (([77, 78, 79, 80, 81, 82, 83, 84, 85] : List Nat).getD j 0, u j)))) w) :
    (Code.region id sops10 true).wp Tryz.prog Q a0 W0 := by
  have hnd : decide ((n : Int) < 200) = true := decide_eq_true (by omega)
  refine r_region [0, 1, 2, 3, 4, 5, 6, 7, 8] [77, 78, 79, 80, 81, 82, 83, 84, 85] [[], [0], [1], [2], [3, 2], [2], [4, 5, 2], [6, 2], [2, 7]] W0 a0 [isV (.int .i64 (n : Int)), isV (.bool true), isV (.bool true), isV (.int .i64 (n : Int)), isD (un (n : Int) 0), isV (.agg #[.bool s2, .slice ao2 n2 cp2, .int .i64 e2]), isV (.int .i64 (cmpI (n : Int) (Qd : Int))), isV (.bool (decide ((n : Int) < (Qd : Int)))), isV (.bool (decide ((n : Int) < (Qd : Int))))] (by kernel_rfl) ⟨isV_stays _, isV_stays _, isV_stays _, isV_stays _, isD_stays _, isV_stays _, isV_stays _, isV_stays _, isV_stays _, trivial⟩ ?_ ?_ ?_
  · intro s hs
    have : s < 138 := by
      revert s
      decide
    omega
  · intro j hj o ho act V hb hoth hdep
    have cx := CX.later cx hb
    have c0 : V.cell? ⟨g0, 0, none⟩ = some (.float .f64 a) := by simp [World.cell?, cx.m0]
    have c1 : V.cell? ⟨g0, 1, none⟩ = some (.float .f64 b) := by simp [World.cell?, cx.m0]
    have q6 := (cells3N cx.m6).1
    have q7 := (cells3N cx.m7).1
    have t7 : act.tmps[(7 : Nat)]? = _ := (hoth 7 (by decide)).trans h7
    have t8 : act.tmps[(8 : Nat)]? = _ := (hoth 8 (by decide)).trans h8
    rcases lt9S hj with rfl | rfl | rfl | rfl | rfl | rfl | rfl | rfl | rfl
    · obtain rfl := Option.some.inj ho
      exact .inl ⟨rfl, owp_move rfl t8 ⟨_, rfl, rfl, Below.refl _ _⟩⟩
    · obtain rfl := Option.some.inj ho
      have y0 : act.tmps[(77 : Nat)]? = _ := dV (hdep 0 (by simp [dL])) rfl
      exact .inl ⟨rfl, owp_lssI rfl y0 ⟨_, rfl, congrArg Value.bool hnd, Below.refl _ _⟩⟩
    · obtain rfl := Option.some.inj ho
      have y1 : act.tmps[(78 : Nat)]? = _ := dV (hdep 1 (by simp [dL])) rfl
      exact .inl ⟨rfl, owp_move rfl y1 ⟨_, rfl, rfl, Below.refl _ _⟩⟩
    · obtain rfl := Option.some.inj ho
      have y2 : act.tmps[(79 : Nat)]? = _ := dV (hdep 2 (by simp [dL])) rfl
      exact .inr (wpOp_take rfl rfl rfl rfl y2 (owp_move rfl t8 ⟨_, rfl, rfl, Below.refl _ _⟩))
    · obtain rfl := Option.some.inj ho
      have y2 : act.tmps[(79 : Nat)]? = _ := dV (hdep 2 (by simp [dL])) rfl
      have y3 : act.tmps[(80 : Nat)]? = _ := dV (hdep 3 (by simp [dL])) rfl
      refine .inr (wpOp_take rfl rfl rfl rfl y2 (owp_call rfl (enters Tryz.func18 (by kernel_rfl) (by kernel_rfl)) (map1 y3) ?_))
      refine (dwholeU (by omega) V).mono ?_
      rintro r w' ⟨A, rfl, hA, hb'⟩
      exact ⟨_, rfl, _, rfl, hA, hb'⟩
    · obtain rfl := Option.some.inj ho
      have y2 : act.tmps[(79 : Nat)]? = _ := dV (hdep 2 (by simp [dL])) rfl
      exact .inr (wpOp_take rfl rfl rfl rfl y2 (owp_ldD rfl t7 q7.1 q7.2.1 q7.2.2 ⟨_, rfl, rfl, Below.refl _ _⟩))
    · obtain rfl := Option.some.inj ho
      have y2 : act.tmps[(79 : Nat)]? = _ := dV (hdep 2 (by simp [dL])) rfl
      obtain ⟨u4, y4, v4⟩ := dD (s := 81) (hdep 4 (by simp [dL])) rfl
      have y5 : act.tmps[(82 : Nat)]? = _ := dV (hdep 5 (by simp [dL])) rfl
      refine .inr (wpOp_take rfl rfl rfl rfl y2 (owp_call rfl (enters Tryz.func15 (by kernel_rfl) (by kernel_rfl)) (map2 y4 y5) ?_))
      refine (dorderU (n_lt (by omega)) (qd_lt cx.sv) bU_le1 bU_le1 (by omega) v4 cx.pQ).mono ?_
      rintro r w' ⟨rfl, hb'⟩
      exact ⟨_, rfl, _, rfl, rfl, hb'⟩
    · obtain rfl := Option.some.inj ho
      have y2 : act.tmps[(79 : Nat)]? = _ := dV (hdep 2 (by simp [dL])) rfl
      have y6 : act.tmps[(83 : Nat)]? = _ := dV (hdep 6 (by simp [dL])) rfl
      exact .inr (wpOp_take rfl rfl rfl rfl y2 (owp_lssI rfl y6 ⟨_, rfl, congrArg Value.bool cmpI_lt0, Below.refl _ _⟩))
    · obtain rfl := Option.some.inj ho
      have y2 : act.tmps[(79 : Nat)]? = _ := dV (hdep 2 (by simp [dL])) rfl
      have y7 : act.tmps[(84 : Nat)]? = _ := dV (hdep 7 (by simp [dL])) rfl
      exact .inl ⟨rfl, owp_pickA rfl y2 y7 ⟨_, rfl, rfl, Below.refl _ _⟩⟩
  · intro u w hb hu
    exact hQ u w hb (hu 8 (by show 8 < 9; decide))
set_option maxRecDepth 200000 in
theorem rg10_f (a b : Nat) (P : Int) (Qd : Nat) (g0 g6 g7 : Nat) (s1 : Bool) (ao1 : Option Addr) (n1 cp1 : Nat) (e1 : Int) (s2 : Bool) (ao2 : Option Addr) (n2 cp2 : Nat) (e2 : Int) (n : Nat) {Q : Exit → Act → World → Prop} {id : Nat} (W0 : World) (a0 : Act) (hsz : 138 ≤ a0.tmps.size) (h7 : a0.tmps[(7 : Nat)]? = some (.pointer (some ⟨g7, 0, none⟩))) (h8 : a0.tmps[(8 : Nat)]? = some (.int .i64 (n : Int))) (cx : CX W0 a b P Qd g0 g6 g7 s1 ao1 n1 cp1 e1 s2 ao2 n2 cp2 e2) (hn : n = 200)
    (hQ : ∀ (u : Nat → Value) (w : World), Below W0.heap.size W0 w → u 8 = .bool false → Q .normal (putL a0 ((List.range 9).map (fun j => (([77, 78, 79, 80, 81, 82, 83, 84, 85] : List Nat).getD j 0, u j)))) w) :
    (Code.region id sops10 true).wp Tryz.prog Q a0 W0 := by
  have hnd : decide ((n : Int) < 200) = false := decide_eq_false (by omega)
  refine r_region [0, 1, 2, 3, 4, 5, 6, 7, 8] [77, 78, 79, 80, 81, 82, 83, 84, 85] [[], [0], [1], [2], [3, 2], [2], [4, 5, 2], [6, 2], [2, 7]] W0 a0 [isV (.int .i64 (n : Int)), isV (.bool false), isV (.bool false), isV undef, isV undef, isV undef, isV undef, isV undef, isV (.bool false)] (by kernel_rfl) ⟨isV_stays _, isV_stays _, isV_stays _, isV_stays _, isV_stays _, isV_stays _, isV_stays _, isV_stays _, isV_stays _, trivial⟩ ?_ ?_ ?_
  · intro s hs
    have : s < 138 := by
      revert s
      decide
    omega
  · intro j hj o ho act V hb hoth hdep
    have cx := CX.later cx hb
    have c0 : V.cell? ⟨g0, 0, none⟩ = some (.float .f64 a) := by simp [World.cell?, cx.m0]
    have c1 : V.cell? ⟨g0, 1, none⟩ = some (.float .f64 b) := by simp [World.cell?, cx.m0]
    have q6 := (cells3N cx.m6).1
    have q7 := (cells3N cx.m7).1
    have t7 : act.tmps[(7 : Nat)]? = _ := (hoth 7 (by decide)).trans h7
    have t8 : act.tmps[(8 : Nat)]? = _ := (hoth 8 (by decide)).trans h8
    rcases lt9S hj with rfl | rfl | rfl | rfl | rfl | rfl | rfl | rfl | rfl
    · obtain rfl := Option.some.inj ho
      exact .inl ⟨rfl, owp_move rfl t8 ⟨_, rfl, rfl, Below.refl _ _⟩⟩
    · obtain rfl := Option.some.inj ho
      have y0 : act.tmps[(77 : Nat)]? = _ := dV (hdep 0 (by simp [dL])) rfl
      exact .inl ⟨rfl, owp_lssI rfl y0 ⟨_, rfl, congrArg Value.bool hnd, Below.refl _ _⟩⟩
    · obtain rfl := Option.some.inj ho
      have y1 : act.tmps[(78 : Nat)]? = _ := dV (hdep 1 (by simp [dL])) rfl
      exact .inl ⟨rfl, owp_move rfl y1 ⟨_, rfl, rfl, Below.refl _ _⟩⟩
    · obtain rfl := Option.some.inj ho
      have y2 : act.tmps[(79 : Nat)]? = _ := dV (hdep 2 (by simp [dL])) rfl
      exact .inr (wpOp_skip rfl rfl rfl rfl y2 (by decide) ⟨_, rfl, rfl, Below.refl _ _⟩)
    · obtain rfl := Option.some.inj ho
      have y2 : act.tmps[(79 : Nat)]? = _ := dV (hdep 2 (by simp [dL])) rfl
      exact .inr (wpOp_skip rfl rfl rfl rfl y2 (by decide) ⟨_, rfl, rfl, Below.refl _ _⟩)
    · obtain rfl := Option.some.inj ho
      have y2 : act.tmps[(79 : Nat)]? = _ := dV (hdep 2 (by simp [dL])) rfl
      exact .inr (wpOp_skip rfl rfl rfl rfl y2 (by decide) ⟨_, rfl, rfl, Below.refl _ _⟩)
    · obtain rfl := Option.some.inj ho
      have y2 : act.tmps[(79 : Nat)]? = _ := dV (hdep 2 (by simp [dL])) rfl
      exact .inr (wpOp_skip rfl rfl rfl rfl y2 (by decide) ⟨_, rfl, rfl, Below.refl _ _⟩)
    · obtain rfl := Option.some.inj ho
      have y2 : act.tmps[(79 : Nat)]? = _ := dV (hdep 2 (by simp [dL])) rfl
      exact .inr (wpOp_skip rfl rfl rfl rfl y2 (by decide) ⟨_, rfl, rfl, Below.refl _ _⟩)
    · obtain rfl := Option.some.inj ho
      have y2 : act.tmps[(79 : Nat)]? = _ := dV (hdep 2 (by simp [dL])) rfl
      have y7 : act.tmps[(84 : Nat)]? = _ := dV (hdep 7 (by simp [dL])) rfl
      exact .inl ⟨rfl, owp_pickA rfl y2 y7 ⟨_, rfl, rfl, Below.refl _ _⟩⟩
  · intro u w hb hu
    exact hQ u w hb (hu 8 (by show 8 < 9; decide))
def sops7 : Array Oper := #[{ dst := some 49, op := Op.fieldAddr 24 (Operand.tmp 1) 0, type := 0, pos := "law.go:173", after := #[], guard := none }, { dst := some 50, op := Op.load 22 (Operand.tmp 49), type := 22, pos := "law.go:173", after := #[{ on := 0, ground := Ground.data }], guard := none }, { dst := some 51, op := Op.binOp BinOp.geq 22 (Operand.tmp 50) (Operand.const (Value.float FloatKind.f64 18442240474082181119)) 22, type := 4, pos := "law.go:173", after := #[{ on := 1, ground := Ground.data }], guard := none }, { dst := some 52, op := Op.move (Operand.tmp 51), type := 4, pos := "law.go:173", after := #[{ on := 2, ground := Ground.data }], guard := none }, { dst := some 53, op := Op.load 27 (Operand.tmp 6), type := 27, pos := "law.go:173", after := #[{ on := 3, ground := Ground.guard }], guard := some (3, true) }, { dst := some 54, op := Op.fieldAddr 24 (Operand.tmp 1) 0, type := 0, pos := "law.go:173", after := #[{ on := 3, ground := Ground.guard }], guard := some (3, true) }, { dst := some 55, op := Op.load 22 (Operand.tmp 54), type := 22, pos := "law.go:173", after := #[{ on := 5, ground := Ground.data }, { on := 3, ground := Ground.guard }], guard := some (3, true) }, { dst := some 56, op := Op.call { callee := Callee.value (Operand.func 17), args := #[Operand.tmp 55], argTypes := #[22] }, type := 27, pos := "law.go:173", after := #[{ on := 6, ground := Ground.data }, { on := 3, ground := Ground.chain }, { on := 3, ground := Ground.guard }], guard := some (3, true) }, { dst := some 57, op := Op.load 27 (Operand.tmp 7), type := 27, pos := "law.go:173", after := #[{ on := 3, ground := Ground.guard }], guard := some (3, true) }, { dst := some 58, op := Op.call { callee := Callee.value (Operand.func 16), args := #[Operand.tmp 56, Operand.tmp 57], argTypes := #[27, 27] }, type := 27, pos := "law.go:173", after := #[{ on := 7, ground := Ground.data }, { on := 8, ground := Ground.data }, { on := 7, ground := Ground.chain }, { on := 3, ground := Ground.guard }], guard := some (3, true) }, { dst := some 59, op := Op.call { callee := Callee.value (Operand.func 15), args := #[Operand.tmp 53, Operand.tmp 58], argTypes := #[27, 27] }, type := 3, pos := "law.go:173", after := #[{ on := 4, ground := Ground.data }, { on := 9, ground := Ground.data }, { on := 9, ground := Ground.chain }, { on := 3, ground := Ground.guard }], guard := some (3, true) }, { dst := some 60, op := Op.binOp BinOp.lss 3 (Operand.tmp 59) (Operand.const (Value.int IntKind.i64 0)) 3, type := 4, pos := "law.go:173", after := #[{ on := 10, ground := Ground.data }, { on := 3, ground := Ground.guard }], guard := some (3, true) }, { dst := some 61, op := Op.pick (Operand.tmp 52) (Operand.tmp 60) (Operand.const (Value.bool false)), type := 4, pos := "law.go:173", after := #[{ on := 3, ground := Ground.data }, { on := 11, ground := Ground.data }], guard := none }, { dst := some 62, op := Op.move (Operand.tmp 61), type := 4, pos := "law.go:173", after := #[{ on := 12, ground := Ground.data }, { on := 10, ground := Ground.chain }], guard := none }, { dst := some 63, op := Op.fieldAddr 24 (Operand.tmp 1) 1, type := 0, pos := "law.go:173", after := #[{ on := 13, ground := Ground.guard }], guard := some (13, false) }, { dst := some 64, op := Op.load 22 (Operand.tmp 63), type := 22, pos := "law.go:173", after := #[{ on := 14, ground := Ground.data }, { on := 13, ground := Ground.guard }], guard := some (13, false) }, { dst := some 65, op := Op.binOp BinOp.leq 22 (Operand.tmp 64) (Operand.const (Value.float FloatKind.f64 9218868437227405311)) 22, type := 4, pos := "law.go:173", after := #[{ on := 15, ground := Ground.data }, { on := 13, ground := Ground.guard }], guard := some (13, false) }, { dst := some 66, op := Op.move (Operand.tmp 65), type := 4, pos := "law.go:173", after := #[{ on := 16, ground := Ground.data }, { on := 13, ground := Ground.chain }, { on := 13, ground := Ground.guard }], guard := some (13, false) }, { dst := some 67, op := Op.load 27 (Operand.tmp 6), type := 27, pos := "law.go:173", after := #[{ on := 17, ground := Ground.guard }], guard := some (17, true) }, { dst := some 68, op := Op.fieldAddr 24 (Operand.tmp 1) 1, type := 0, pos := "law.go:173", after := #[{ on := 17, ground := Ground.guard }], guard := some (17, true) }, { dst := some 69, op := Op.load 22 (Operand.tmp 68), type := 22, pos := "law.go:173", after := #[{ on := 19, ground := Ground.data }, { on := 17, ground := Ground.guard }], guard := some (17, true) }, { dst := some 70, op := Op.call { callee := Callee.value (Operand.func 17), args := #[Operand.tmp 69], argTypes := #[22] }, type := 27, pos := "law.go:173", after := #[{ on := 20, ground := Ground.data }, { on := 17, ground := Ground.chain }, { on := 17, ground := Ground.guard }], guard := some (17, true) }, { dst := some 71, op := Op.load 27 (Operand.tmp 7), type := 27, pos := "law.go:173", after := #[{ on := 17, ground := Ground.guard }], guard := some (17, true) }, { dst := some 72, op := Op.call { callee := Callee.value (Operand.func 16), args := #[Operand.tmp 70, Operand.tmp 71], argTypes := #[27, 27] }, type := 27, pos := "law.go:173", after := #[{ on := 21, ground := Ground.data }, { on := 22, ground := Ground.data }, { on := 21, ground := Ground.chain }, { on := 17, ground := Ground.guard }], guard := some (17, true) }, { dst := some 73, op := Op.call { callee := Callee.value (Operand.func 15), args := #[Operand.tmp 67, Operand.tmp 72], argTypes := #[27, 27] }, type := 3, pos := "law.go:173", after := #[{ on := 18, ground := Ground.data }, { on := 23, ground := Ground.data }, { on := 23, ground := Ground.chain }, { on := 17, ground := Ground.guard }], guard := some (17, true) }, { dst := some 74, op := Op.binOp BinOp.gtr 3 (Operand.tmp 73) (Operand.const (Value.int IntKind.i64 0)) 3, type := 4, pos := "law.go:173", after := #[{ on := 24, ground := Ground.data }, { on := 17, ground := Ground.guard }], guard := some (17, true) }, { dst := some 75, op := Op.pick (Operand.tmp 66) (Operand.tmp 74) (Operand.const (Value.bool false)), type := 4, pos := "law.go:173", after := #[{ on := 17, ground := Ground.data }, { on := 25, ground := Ground.data }, { on := 13, ground := Ground.guard }], guard := some (13, false) }, { dst := some 76, op := Op.pick (Operand.tmp 62) (Operand.const (Value.bool true)) (Operand.tmp 75), type := 4, pos := "law.go:173", after := #[{ on := 13, ground := Ground.data }, { on := 26, ground := Ground.data }], guard := none }]
set_option maxRecDepth 200000 in
theorem rg7_tt (a b : Nat) (P : Int) (Qd : Nat) (g0 g6 g7 : Nat) (s1 : Bool) (ao1 : Option Addr) (n1 cp1 : Nat) (e1 : Int) (s2 : Bool) (ao2 : Option Addr) (n2 cp2 : Nat) (e2 : Int) {Q : Exit → Act → World → Prop} {id : Nat} (W0 : World) (a0 : Act) (hsz : 138 ≤ a0.tmps.size) (h1 : a0.tmps[(1 : Nat)]? = some (.pointer (some ⟨g0, 0, none⟩))) (h6 : a0.tmps[(6 : Nat)]? = some (.pointer (some ⟨g6, 0, none⟩))) (h7 : a0.tmps[(7 : Nat)]? = some (.pointer (some ⟨g7, 0, none⟩))) (cx : CX W0 a b P Qd g0 g6 g7 s1 ao1 n1 cp1 e1 s2 ao2 n2 cp2 e2) (hl : le 18442240474082181119 a = true) (hh : le b 9218868437227405311 = true) (ml : mag a < 9218868437227405312) (mh : mag b < 9218868437227405312)
    (hQ : ∀ (u : Nat → Value) (w : World), Below W0.heap.size W0 w → u 27 = .bool false → Q .normal (putL a0 ((List.range 28).map (fun j => (([49, 50, 51, 52, 53, 54, 55, 56, 57, 58, 59, 60, 61, 62, 63, 64, 65, 66, 67, 68, 69, 70, 71, 72, 73, 74, 75, 76] : List Nat).getD j 0, u j)))) w) :
    (Code.region id sops7 true).wp Tryz.prog Q a0 W0 := by
  have og := ord_ge a 18442240474082181119 cx.ha (by omega)
  have ol := ord_le b 9218868437227405311 cx.hb (by omega)
  rw [hl] at og
  rw [hh] at ol
  have k1 : decide (P * (kU : Int) < sU a * (Qd : Int)) = false := decide_eq_false (by have := cx.sv.lo ml; omega)
  have k2 : decide (sU b * (Qd : Int) < P * (kU : Int)) = false := decide_eq_false (by have := cx.sv.hi mh; omega)
  refine r_region [0, 1, 2, 3, 4, 5, 6, 7, 8, 9, 10, 11, 12, 13, 14, 15, 16, 17, 18, 19, 20, 21, 22, 23, 24, 25, 26, 27] [49, 50, 51, 52, 53, 54, 55, 56, 57, 58, 59, 60, 61, 62, 63, 64, 65, 66, 67, 68, 69, 70, 71, 72, 73, 74, 75, 76] [[], [0], [1], [2], [3], [3], [5, 3], [6, 3], [3], [7, 8, 3], [4, 9, 3], [10, 3], [3, 11], [12], [13], [14, 13], [15, 13], [16, 13], [17], [17], [19, 17], [20, 17], [17], [21, 22, 17], [18, 23, 17], [24, 17], [17, 25, 13], [13, 26]] W0 a0 [isV (.pointer (some ⟨g0, 0, none⟩)), isV (.float .f64 a), isV (.bool true), isV (.bool true), isV (.agg #[.bool s1, .slice ao1 n1 cp1, .int .i64 e1]), isV (.pointer (some ⟨g0, 0, none⟩)), isV (.float .f64 a), isD (un (sU a) 1074), isV (.agg #[.bool s2, .slice ao2 n2 cp2, .int .i64 e2]), isD (un (sU a * (Qd : Int)) 1074), isV (.int .i64 (cmpI (P * kU) (sU a * (Qd : Int)))), isV (.bool false), isV (.bool false), isV (.bool false), isV (.pointer (some ⟨g0, 1, none⟩)), isV (.float .f64 b), isV (.bool true), isV (.bool true), isV (.agg #[.bool s1, .slice ao1 n1 cp1, .int .i64 e1]), isV (.pointer (some ⟨g0, 1, none⟩)), isV (.float .f64 b), isD (un (sU b) 1074), isV (.agg #[.bool s2, .slice ao2 n2 cp2, .int .i64 e2]), isD (un (sU b * (Qd : Int)) 1074), isV (.int .i64 (cmpI (P * kU) (sU b * (Qd : Int)))), isV (.bool false), isV (.bool false), isV (.bool false)] (by kernel_rfl) ⟨isV_stays _, isV_stays _, isV_stays _, isV_stays _, isV_stays _, isV_stays _, isV_stays _, isD_stays _, isV_stays _, isD_stays _, isV_stays _, isV_stays _, isV_stays _, isV_stays _, isV_stays _, isV_stays _, isV_stays _, isV_stays _, isV_stays _, isV_stays _, isV_stays _, isD_stays _, isV_stays _, isD_stays _, isV_stays _, isV_stays _, isV_stays _, isV_stays _, trivial⟩ ?_ ?_ ?_
  · intro s hs
    have : s < 138 := by
      revert s
      decide
    omega
  · intro j hj o ho act V hb hoth hdep
    have cx := CX.later cx hb
    have c0 : V.cell? ⟨g0, 0, none⟩ = some (.float .f64 a) := by simp [World.cell?, cx.m0]
    have c1 : V.cell? ⟨g0, 1, none⟩ = some (.float .f64 b) := by simp [World.cell?, cx.m0]
    have q6 := (cells3N cx.m6).1
    have q7 := (cells3N cx.m7).1
    have t1 : act.tmps[(1 : Nat)]? = _ := (hoth 1 (by decide)).trans h1
    have t6 : act.tmps[(6 : Nat)]? = _ := (hoth 6 (by decide)).trans h6
    have t7 : act.tmps[(7 : Nat)]? = _ := (hoth 7 (by decide)).trans h7
    rcases lt28S hj with rfl | rfl | rfl | rfl | rfl | rfl | rfl | rfl | rfl | rfl | rfl | rfl | rfl | rfl | rfl | rfl | rfl | rfl | rfl | rfl | rfl | rfl | rfl | rfl | rfl | rfl | rfl | rfl
    · obtain rfl := Option.some.inj ho
      exact .inl ⟨rfl, owp_fldI0 rfl t1 ⟨_, rfl, rfl, Below.refl _ _⟩⟩
    · obtain rfl := Option.some.inj ho
      have y0 : act.tmps[(49 : Nat)]? = _ := dV (hdep 0 (by simp [dL])) rfl
      exact .inl ⟨rfl, owp_ldF rfl y0 c0 ⟨_, rfl, rfl, Below.refl _ _⟩⟩
    · obtain rfl := Option.some.inj ho
      have y1 : act.tmps[(50 : Nat)]? = _ := dV (hdep 1 (by simp [dL])) rfl
      exact .inl ⟨rfl, owp_geF rfl y1 ⟨_, rfl, congrArg Value.bool og, Below.refl _ _⟩⟩
    · obtain rfl := Option.some.inj ho
      have y2 : act.tmps[(51 : Nat)]? = _ := dV (hdep 2 (by simp [dL])) rfl
      exact .inl ⟨rfl, owp_move rfl y2 ⟨_, rfl, rfl, Below.refl _ _⟩⟩
    · obtain rfl := Option.some.inj ho
      have y3 : act.tmps[(52 : Nat)]? = _ := dV (hdep 3 (by simp [dL])) rfl
      exact .inr (wpOp_take rfl rfl rfl rfl y3 (owp_ldD rfl t6 q6.1 q6.2.1 q6.2.2 ⟨_, rfl, rfl, Below.refl _ _⟩))
    · obtain rfl := Option.some.inj ho
      have y3 : act.tmps[(52 : Nat)]? = _ := dV (hdep 3 (by simp [dL])) rfl
      exact .inr (wpOp_take rfl rfl rfl rfl y3 (owp_fldI0 rfl t1 ⟨_, rfl, rfl, Below.refl _ _⟩))
    · obtain rfl := Option.some.inj ho
      have y3 : act.tmps[(52 : Nat)]? = _ := dV (hdep 3 (by simp [dL])) rfl
      have y5 : act.tmps[(54 : Nat)]? = _ := dV (hdep 5 (by simp [dL])) rfl
      exact .inr (wpOp_take rfl rfl rfl rfl y3 (owp_ldF rfl y5 c0 ⟨_, rfl, rfl, Below.refl _ _⟩))
    · obtain rfl := Option.some.inj ho
      have y3 : act.tmps[(52 : Nat)]? = _ := dV (hdep 3 (by simp [dL])) rfl
      have y6 : act.tmps[(55 : Nat)]? = _ := dV (hdep 6 (by simp [dL])) rfl
      refine .inr (wpOp_take rfl rfl rfl rfl y3 (owp_call rfl (enters Tryz.func17 (by kernel_rfl) (by kernel_rfl)) (map1 y6) ?_))
      refine (dfloatU cx.ha V).mono ?_
      rintro r w' ⟨A, rfl, hA, hb'⟩
      exact ⟨_, rfl, _, rfl, hA, hb'⟩
    · obtain rfl := Option.some.inj ho
      have y3 : act.tmps[(52 : Nat)]? = _ := dV (hdep 3 (by simp [dL])) rfl
      exact .inr (wpOp_take rfl rfl rfl rfl y3 (owp_ldD rfl t7 q7.1 q7.2.1 q7.2.2 ⟨_, rfl, rfl, Below.refl _ _⟩))
    · obtain rfl := Option.some.inj ho
      have y3 : act.tmps[(52 : Nat)]? = _ := dV (hdep 3 (by simp [dL])) rfl
      obtain ⟨u7, y7, v7⟩ := dD (s := 56) (hdep 7 (by simp [dL])) rfl
      have y8 : act.tmps[(57 : Nat)]? = _ := dV (hdep 8 (by simp [dL])) rfl
      refine .inr (wpOp_take rfl rfl rfl rfl y3 (owp_call rfl (enters Tryz.func16 (by kernel_rfl) (by kernel_rfl)) (map2 y7 y8) ?_))
      refine (dtimesU (sU_lt a) (qd_lt cx.sv) bU_le1 bU_le1 v7 cx.pQ).mono ?_
      rintro r w' ⟨A, rfl, hA, hb'⟩
      exact ⟨_, rfl, _, rfl, hA, hb'⟩
    · obtain rfl := Option.some.inj ho
      have y3 : act.tmps[(52 : Nat)]? = _ := dV (hdep 3 (by simp [dL])) rfl
      have y4 : act.tmps[(53 : Nat)]? = _ := dV (hdep 4 (by simp [dL])) rfl
      obtain ⟨u9, y9, v9⟩ := dD (s := 58) (hdep 9 (by simp [dL])) rfl
      refine .inr (wpOp_take rfl rfl rfl rfl y3 (owp_call rfl (enters Tryz.func15 (by kernel_rfl) (by kernel_rfl)) (map2 y4 y9) ?_))
      refine (porderU (pk_lt cx.sv) (abs_mul (sU_lt a) (qd_lt cx.sv)) bU_le bU_le cx.pP v9).mono ?_
      rintro r w' ⟨rfl, hb'⟩
      exact ⟨_, rfl, _, rfl, rfl, hb'⟩
    · obtain rfl := Option.some.inj ho
      have y3 : act.tmps[(52 : Nat)]? = _ := dV (hdep 3 (by simp [dL])) rfl
      have y10 : act.tmps[(59 : Nat)]? = _ := dV (hdep 10 (by simp [dL])) rfl
      exact .inr (wpOp_take rfl rfl rfl rfl y3 (owp_lssI rfl y10 ⟨_, rfl, congrArg Value.bool (cmpI_lt0.trans k1), Below.refl _ _⟩))
    · obtain rfl := Option.some.inj ho
      have y3 : act.tmps[(52 : Nat)]? = _ := dV (hdep 3 (by simp [dL])) rfl
      have y11 : act.tmps[(60 : Nat)]? = _ := dV (hdep 11 (by simp [dL])) rfl
      exact .inl ⟨rfl, owp_pickA rfl y3 y11 ⟨_, rfl, rfl, Below.refl _ _⟩⟩
    · obtain rfl := Option.some.inj ho
      have y12 : act.tmps[(61 : Nat)]? = _ := dV (hdep 12 (by simp [dL])) rfl
      exact .inl ⟨rfl, owp_move rfl y12 ⟨_, rfl, rfl, Below.refl _ _⟩⟩
    · obtain rfl := Option.some.inj ho
      have y13 : act.tmps[(62 : Nat)]? = _ := dV (hdep 13 (by simp [dL])) rfl
      exact .inr (wpOp_take rfl rfl rfl rfl y13 (owp_fldI1 rfl t1 ⟨_, rfl, rfl, Below.refl _ _⟩))
    · obtain rfl := Option.some.inj ho
      have y13 : act.tmps[(62 : Nat)]? = _ := dV (hdep 13 (by simp [dL])) rfl
      have y14 : act.tmps[(63 : Nat)]? = _ := dV (hdep 14 (by simp [dL])) rfl
      exact .inr (wpOp_take rfl rfl rfl rfl y13 (owp_ldF rfl y14 c1 ⟨_, rfl, rfl, Below.refl _ _⟩))
    · obtain rfl := Option.some.inj ho
      have y13 : act.tmps[(62 : Nat)]? = _ := dV (hdep 13 (by simp [dL])) rfl
      have y15 : act.tmps[(64 : Nat)]? = _ := dV (hdep 15 (by simp [dL])) rfl
      exact .inr (wpOp_take rfl rfl rfl rfl y13 (owp_leF rfl y15 ⟨_, rfl, congrArg Value.bool ol, Below.refl _ _⟩))
    · obtain rfl := Option.some.inj ho
      have y13 : act.tmps[(62 : Nat)]? = _ := dV (hdep 13 (by simp [dL])) rfl
      have y16 : act.tmps[(65 : Nat)]? = _ := dV (hdep 16 (by simp [dL])) rfl
      exact .inr (wpOp_take rfl rfl rfl rfl y13 (owp_move rfl y16 ⟨_, rfl, rfl, Below.refl _ _⟩))
    · obtain rfl := Option.some.inj ho
      have y17 : act.tmps[(66 : Nat)]? = _ := dV (hdep 17 (by simp [dL])) rfl
      exact .inr (wpOp_take rfl rfl rfl rfl y17 (owp_ldD rfl t6 q6.1 q6.2.1 q6.2.2 ⟨_, rfl, rfl, Below.refl _ _⟩))
    · obtain rfl := Option.some.inj ho
      have y17 : act.tmps[(66 : Nat)]? = _ := dV (hdep 17 (by simp [dL])) rfl
      exact .inr (wpOp_take rfl rfl rfl rfl y17 (owp_fldI1 rfl t1 ⟨_, rfl, rfl, Below.refl _ _⟩))
    · obtain rfl := Option.some.inj ho
      have y17 : act.tmps[(66 : Nat)]? = _ := dV (hdep 17 (by simp [dL])) rfl
      have y19 : act.tmps[(68 : Nat)]? = _ := dV (hdep 19 (by simp [dL])) rfl
      exact .inr (wpOp_take rfl rfl rfl rfl y17 (owp_ldF rfl y19 c1 ⟨_, rfl, rfl, Below.refl _ _⟩))
    · obtain rfl := Option.some.inj ho
      have y17 : act.tmps[(66 : Nat)]? = _ := dV (hdep 17 (by simp [dL])) rfl
      have y20 : act.tmps[(69 : Nat)]? = _ := dV (hdep 20 (by simp [dL])) rfl
      refine .inr (wpOp_take rfl rfl rfl rfl y17 (owp_call rfl (enters Tryz.func17 (by kernel_rfl) (by kernel_rfl)) (map1 y20) ?_))
      refine (dfloatU cx.hb V).mono ?_
      rintro r w' ⟨A, rfl, hA, hb'⟩
      exact ⟨_, rfl, _, rfl, hA, hb'⟩
    · obtain rfl := Option.some.inj ho
      have y17 : act.tmps[(66 : Nat)]? = _ := dV (hdep 17 (by simp [dL])) rfl
      exact .inr (wpOp_take rfl rfl rfl rfl y17 (owp_ldD rfl t7 q7.1 q7.2.1 q7.2.2 ⟨_, rfl, rfl, Below.refl _ _⟩))
    · obtain rfl := Option.some.inj ho
      have y17 : act.tmps[(66 : Nat)]? = _ := dV (hdep 17 (by simp [dL])) rfl
      obtain ⟨u21, y21, v21⟩ := dD (s := 70) (hdep 21 (by simp [dL])) rfl
      have y22 : act.tmps[(71 : Nat)]? = _ := dV (hdep 22 (by simp [dL])) rfl
      refine .inr (wpOp_take rfl rfl rfl rfl y17 (owp_call rfl (enters Tryz.func16 (by kernel_rfl) (by kernel_rfl)) (map2 y21 y22) ?_))
      refine (dtimesU (sU_lt b) (qd_lt cx.sv) bU_le1 bU_le1 v21 cx.pQ).mono ?_
      rintro r w' ⟨A, rfl, hA, hb'⟩
      exact ⟨_, rfl, _, rfl, hA, hb'⟩
    · obtain rfl := Option.some.inj ho
      have y17 : act.tmps[(66 : Nat)]? = _ := dV (hdep 17 (by simp [dL])) rfl
      have y18 : act.tmps[(67 : Nat)]? = _ := dV (hdep 18 (by simp [dL])) rfl
      obtain ⟨u23, y23, v23⟩ := dD (s := 72) (hdep 23 (by simp [dL])) rfl
      refine .inr (wpOp_take rfl rfl rfl rfl y17 (owp_call rfl (enters Tryz.func15 (by kernel_rfl) (by kernel_rfl)) (map2 y18 y23) ?_))
      refine (porderU (pk_lt cx.sv) (abs_mul (sU_lt b) (qd_lt cx.sv)) bU_le bU_le cx.pP v23).mono ?_
      rintro r w' ⟨rfl, hb'⟩
      exact ⟨_, rfl, _, rfl, rfl, hb'⟩
    · obtain rfl := Option.some.inj ho
      have y17 : act.tmps[(66 : Nat)]? = _ := dV (hdep 17 (by simp [dL])) rfl
      have y24 : act.tmps[(73 : Nat)]? = _ := dV (hdep 24 (by simp [dL])) rfl
      exact .inr (wpOp_take rfl rfl rfl rfl y17 (owp_gtrI rfl y24 ⟨_, rfl, congrArg Value.bool (cmpI_gt0.trans k2), Below.refl _ _⟩))
    · obtain rfl := Option.some.inj ho
      have y13 : act.tmps[(62 : Nat)]? = _ := dV (hdep 13 (by simp [dL])) rfl
      have y17 : act.tmps[(66 : Nat)]? = _ := dV (hdep 17 (by simp [dL])) rfl
      have y25 : act.tmps[(74 : Nat)]? = _ := dV (hdep 25 (by simp [dL])) rfl
      exact .inr (wpOp_take rfl rfl rfl rfl y13 (owp_pickA rfl y17 y25 ⟨_, rfl, rfl, Below.refl _ _⟩))
    · obtain rfl := Option.some.inj ho
      have y13 : act.tmps[(62 : Nat)]? = _ := dV (hdep 13 (by simp [dL])) rfl
      have y26 : act.tmps[(75 : Nat)]? = _ := dV (hdep 26 (by simp [dL])) rfl
      exact .inl ⟨rfl, owp_pickB rfl y13 y26 ⟨_, rfl, rfl, Below.refl _ _⟩⟩
  · intro u w hb hu
    exact hQ u w hb (hu 27 (by show 27 < 28; decide))
set_option maxRecDepth 200000 in
theorem rg7_tf (a b : Nat) (P : Int) (Qd : Nat) (g0 g6 g7 : Nat) (s1 : Bool) (ao1 : Option Addr) (n1 cp1 : Nat) (e1 : Int) (s2 : Bool) (ao2 : Option Addr) (n2 cp2 : Nat) (e2 : Int) {Q : Exit → Act → World → Prop} {id : Nat} (W0 : World) (a0 : Act) (hsz : 138 ≤ a0.tmps.size) (h1 : a0.tmps[(1 : Nat)]? = some (.pointer (some ⟨g0, 0, none⟩))) (h6 : a0.tmps[(6 : Nat)]? = some (.pointer (some ⟨g6, 0, none⟩))) (h7 : a0.tmps[(7 : Nat)]? = some (.pointer (some ⟨g7, 0, none⟩))) (cx : CX W0 a b P Qd g0 g6 g7 s1 ao1 n1 cp1 e1 s2 ao2 n2 cp2 e2) (hl : le 18442240474082181119 a = true) (hh : le b 9218868437227405311 = false) (ml : mag a < 9218868437227405312)
    (hQ : ∀ (u : Nat → Value) (w : World), Below W0.heap.size W0 w → u 27 = .bool false → Q .normal (putL a0 ((List.range 28).map (fun j => (([49, 50, 51, 52, 53, 54, 55, 56, 57, 58, 59, 60, 61, 62, 63, 64, 65, 66, 67, 68, 69, 70, 71, 72, 73, 74, 75, 76] : List Nat).getD j 0, u j)))) w) :
    (Code.region id sops7 true).wp Tryz.prog Q a0 W0 := by
  have og := ord_ge a 18442240474082181119 cx.ha (by omega)
  have ol := ord_le b 9218868437227405311 cx.hb (by omega)
  rw [hl] at og
  rw [hh] at ol
  have k1 : decide (P * (kU : Int) < sU a * (Qd : Int)) = false := decide_eq_false (by have := cx.sv.lo ml; omega)
  refine r_region [0, 1, 2, 3, 4, 5, 6, 7, 8, 9, 10, 11, 12, 13, 14, 15, 16, 17, 18, 19, 20, 21, 22, 23, 24, 25, 26, 27] [49, 50, 51, 52, 53, 54, 55, 56, 57, 58, 59, 60, 61, 62, 63, 64, 65, 66, 67, 68, 69, 70, 71, 72, 73, 74, 75, 76] [[], [0], [1], [2], [3], [3], [5, 3], [6, 3], [3], [7, 8, 3], [4, 9, 3], [10, 3], [3, 11], [12], [13], [14, 13], [15, 13], [16, 13], [17], [17], [19, 17], [20, 17], [17], [21, 22, 17], [18, 23, 17], [24, 17], [17, 25, 13], [13, 26]] W0 a0 [isV (.pointer (some ⟨g0, 0, none⟩)), isV (.float .f64 a), isV (.bool true), isV (.bool true), isV (.agg #[.bool s1, .slice ao1 n1 cp1, .int .i64 e1]), isV (.pointer (some ⟨g0, 0, none⟩)), isV (.float .f64 a), isD (un (sU a) 1074), isV (.agg #[.bool s2, .slice ao2 n2 cp2, .int .i64 e2]), isD (un (sU a * (Qd : Int)) 1074), isV (.int .i64 (cmpI (P * kU) (sU a * (Qd : Int)))), isV (.bool false), isV (.bool false), isV (.bool false), isV (.pointer (some ⟨g0, 1, none⟩)), isV (.float .f64 b), isV (.bool false), isV (.bool false), isV undef, isV undef, isV undef, isV undef, isV undef, isV undef, isV undef, isV undef, isV (.bool false), isV (.bool false)] (by kernel_rfl) ⟨isV_stays _, isV_stays _, isV_stays _, isV_stays _, isV_stays _, isV_stays _, isV_stays _, isD_stays _, isV_stays _, isD_stays _, isV_stays _, isV_stays _, isV_stays _, isV_stays _, isV_stays _, isV_stays _, isV_stays _, isV_stays _, isV_stays _, isV_stays _, isV_stays _, isV_stays _, isV_stays _, isV_stays _, isV_stays _, isV_stays _, isV_stays _, isV_stays _, trivial⟩ ?_ ?_ ?_
  · intro s hs
    have : s < 138 := by
      revert s
      decide
    omega
  · intro j hj o ho act V hb hoth hdep
    have cx := CX.later cx hb
    have c0 : V.cell? ⟨g0, 0, none⟩ = some (.float .f64 a) := by simp [World.cell?, cx.m0]
    have c1 : V.cell? ⟨g0, 1, none⟩ = some (.float .f64 b) := by simp [World.cell?, cx.m0]
    have q6 := (cells3N cx.m6).1
    have q7 := (cells3N cx.m7).1
    have t1 : act.tmps[(1 : Nat)]? = _ := (hoth 1 (by decide)).trans h1
    have t6 : act.tmps[(6 : Nat)]? = _ := (hoth 6 (by decide)).trans h6
    have t7 : act.tmps[(7 : Nat)]? = _ := (hoth 7 (by decide)).trans h7
    rcases lt28S hj with rfl | rfl | rfl | rfl | rfl | rfl | rfl | rfl | rfl | rfl | rfl | rfl | rfl | rfl | rfl | rfl | rfl | rfl | rfl | rfl | rfl | rfl | rfl | rfl | rfl | rfl | rfl | rfl
    · obtain rfl := Option.some.inj ho
      exact .inl ⟨rfl, owp_fldI0 rfl t1 ⟨_, rfl, rfl, Below.refl _ _⟩⟩
    · obtain rfl := Option.some.inj ho
      have y0 : act.tmps[(49 : Nat)]? = _ := dV (hdep 0 (by simp [dL])) rfl
      exact .inl ⟨rfl, owp_ldF rfl y0 c0 ⟨_, rfl, rfl, Below.refl _ _⟩⟩
    · obtain rfl := Option.some.inj ho
      have y1 : act.tmps[(50 : Nat)]? = _ := dV (hdep 1 (by simp [dL])) rfl
      exact .inl ⟨rfl, owp_geF rfl y1 ⟨_, rfl, congrArg Value.bool og, Below.refl _ _⟩⟩
    · obtain rfl := Option.some.inj ho
      have y2 : act.tmps[(51 : Nat)]? = _ := dV (hdep 2 (by simp [dL])) rfl
      exact .inl ⟨rfl, owp_move rfl y2 ⟨_, rfl, rfl, Below.refl _ _⟩⟩
    · obtain rfl := Option.some.inj ho
      have y3 : act.tmps[(52 : Nat)]? = _ := dV (hdep 3 (by simp [dL])) rfl
      exact .inr (wpOp_take rfl rfl rfl rfl y3 (owp_ldD rfl t6 q6.1 q6.2.1 q6.2.2 ⟨_, rfl, rfl, Below.refl _ _⟩))
    · obtain rfl := Option.some.inj ho
      have y3 : act.tmps[(52 : Nat)]? = _ := dV (hdep 3 (by simp [dL])) rfl
      exact .inr (wpOp_take rfl rfl rfl rfl y3 (owp_fldI0 rfl t1 ⟨_, rfl, rfl, Below.refl _ _⟩))
    · obtain rfl := Option.some.inj ho
      have y3 : act.tmps[(52 : Nat)]? = _ := dV (hdep 3 (by simp [dL])) rfl
      have y5 : act.tmps[(54 : Nat)]? = _ := dV (hdep 5 (by simp [dL])) rfl
      exact .inr (wpOp_take rfl rfl rfl rfl y3 (owp_ldF rfl y5 c0 ⟨_, rfl, rfl, Below.refl _ _⟩))
    · obtain rfl := Option.some.inj ho
      have y3 : act.tmps[(52 : Nat)]? = _ := dV (hdep 3 (by simp [dL])) rfl
      have y6 : act.tmps[(55 : Nat)]? = _ := dV (hdep 6 (by simp [dL])) rfl
      refine .inr (wpOp_take rfl rfl rfl rfl y3 (owp_call rfl (enters Tryz.func17 (by kernel_rfl) (by kernel_rfl)) (map1 y6) ?_))
      refine (dfloatU cx.ha V).mono ?_
      rintro r w' ⟨A, rfl, hA, hb'⟩
      exact ⟨_, rfl, _, rfl, hA, hb'⟩
    · obtain rfl := Option.some.inj ho
      have y3 : act.tmps[(52 : Nat)]? = _ := dV (hdep 3 (by simp [dL])) rfl
      exact .inr (wpOp_take rfl rfl rfl rfl y3 (owp_ldD rfl t7 q7.1 q7.2.1 q7.2.2 ⟨_, rfl, rfl, Below.refl _ _⟩))
    · obtain rfl := Option.some.inj ho
      have y3 : act.tmps[(52 : Nat)]? = _ := dV (hdep 3 (by simp [dL])) rfl
      obtain ⟨u7, y7, v7⟩ := dD (s := 56) (hdep 7 (by simp [dL])) rfl
      have y8 : act.tmps[(57 : Nat)]? = _ := dV (hdep 8 (by simp [dL])) rfl
      refine .inr (wpOp_take rfl rfl rfl rfl y3 (owp_call rfl (enters Tryz.func16 (by kernel_rfl) (by kernel_rfl)) (map2 y7 y8) ?_))
      refine (dtimesU (sU_lt a) (qd_lt cx.sv) bU_le1 bU_le1 v7 cx.pQ).mono ?_
      rintro r w' ⟨A, rfl, hA, hb'⟩
      exact ⟨_, rfl, _, rfl, hA, hb'⟩
    · obtain rfl := Option.some.inj ho
      have y3 : act.tmps[(52 : Nat)]? = _ := dV (hdep 3 (by simp [dL])) rfl
      have y4 : act.tmps[(53 : Nat)]? = _ := dV (hdep 4 (by simp [dL])) rfl
      obtain ⟨u9, y9, v9⟩ := dD (s := 58) (hdep 9 (by simp [dL])) rfl
      refine .inr (wpOp_take rfl rfl rfl rfl y3 (owp_call rfl (enters Tryz.func15 (by kernel_rfl) (by kernel_rfl)) (map2 y4 y9) ?_))
      refine (porderU (pk_lt cx.sv) (abs_mul (sU_lt a) (qd_lt cx.sv)) bU_le bU_le cx.pP v9).mono ?_
      rintro r w' ⟨rfl, hb'⟩
      exact ⟨_, rfl, _, rfl, rfl, hb'⟩
    · obtain rfl := Option.some.inj ho
      have y3 : act.tmps[(52 : Nat)]? = _ := dV (hdep 3 (by simp [dL])) rfl
      have y10 : act.tmps[(59 : Nat)]? = _ := dV (hdep 10 (by simp [dL])) rfl
      exact .inr (wpOp_take rfl rfl rfl rfl y3 (owp_lssI rfl y10 ⟨_, rfl, congrArg Value.bool (cmpI_lt0.trans k1), Below.refl _ _⟩))
    · obtain rfl := Option.some.inj ho
      have y3 : act.tmps[(52 : Nat)]? = _ := dV (hdep 3 (by simp [dL])) rfl
      have y11 : act.tmps[(60 : Nat)]? = _ := dV (hdep 11 (by simp [dL])) rfl
      exact .inl ⟨rfl, owp_pickA rfl y3 y11 ⟨_, rfl, rfl, Below.refl _ _⟩⟩
    · obtain rfl := Option.some.inj ho
      have y12 : act.tmps[(61 : Nat)]? = _ := dV (hdep 12 (by simp [dL])) rfl
      exact .inl ⟨rfl, owp_move rfl y12 ⟨_, rfl, rfl, Below.refl _ _⟩⟩
    · obtain rfl := Option.some.inj ho
      have y13 : act.tmps[(62 : Nat)]? = _ := dV (hdep 13 (by simp [dL])) rfl
      exact .inr (wpOp_take rfl rfl rfl rfl y13 (owp_fldI1 rfl t1 ⟨_, rfl, rfl, Below.refl _ _⟩))
    · obtain rfl := Option.some.inj ho
      have y13 : act.tmps[(62 : Nat)]? = _ := dV (hdep 13 (by simp [dL])) rfl
      have y14 : act.tmps[(63 : Nat)]? = _ := dV (hdep 14 (by simp [dL])) rfl
      exact .inr (wpOp_take rfl rfl rfl rfl y13 (owp_ldF rfl y14 c1 ⟨_, rfl, rfl, Below.refl _ _⟩))
    · obtain rfl := Option.some.inj ho
      have y13 : act.tmps[(62 : Nat)]? = _ := dV (hdep 13 (by simp [dL])) rfl
      have y15 : act.tmps[(64 : Nat)]? = _ := dV (hdep 15 (by simp [dL])) rfl
      exact .inr (wpOp_take rfl rfl rfl rfl y13 (owp_leF rfl y15 ⟨_, rfl, congrArg Value.bool ol, Below.refl _ _⟩))
    · obtain rfl := Option.some.inj ho
      have y13 : act.tmps[(62 : Nat)]? = _ := dV (hdep 13 (by simp [dL])) rfl
      have y16 : act.tmps[(65 : Nat)]? = _ := dV (hdep 16 (by simp [dL])) rfl
      exact .inr (wpOp_take rfl rfl rfl rfl y13 (owp_move rfl y16 ⟨_, rfl, rfl, Below.refl _ _⟩))
    · obtain rfl := Option.some.inj ho
      have y17 : act.tmps[(66 : Nat)]? = _ := dV (hdep 17 (by simp [dL])) rfl
      exact .inr (wpOp_skip rfl rfl rfl rfl y17 (by decide) ⟨_, rfl, rfl, Below.refl _ _⟩)
    · obtain rfl := Option.some.inj ho
      have y17 : act.tmps[(66 : Nat)]? = _ := dV (hdep 17 (by simp [dL])) rfl
      exact .inr (wpOp_skip rfl rfl rfl rfl y17 (by decide) ⟨_, rfl, rfl, Below.refl _ _⟩)
    · obtain rfl := Option.some.inj ho
      have y17 : act.tmps[(66 : Nat)]? = _ := dV (hdep 17 (by simp [dL])) rfl
      exact .inr (wpOp_skip rfl rfl rfl rfl y17 (by decide) ⟨_, rfl, rfl, Below.refl _ _⟩)
    · obtain rfl := Option.some.inj ho
      have y17 : act.tmps[(66 : Nat)]? = _ := dV (hdep 17 (by simp [dL])) rfl
      exact .inr (wpOp_skip rfl rfl rfl rfl y17 (by decide) ⟨_, rfl, rfl, Below.refl _ _⟩)
    · obtain rfl := Option.some.inj ho
      have y17 : act.tmps[(66 : Nat)]? = _ := dV (hdep 17 (by simp [dL])) rfl
      exact .inr (wpOp_skip rfl rfl rfl rfl y17 (by decide) ⟨_, rfl, rfl, Below.refl _ _⟩)
    · obtain rfl := Option.some.inj ho
      have y17 : act.tmps[(66 : Nat)]? = _ := dV (hdep 17 (by simp [dL])) rfl
      exact .inr (wpOp_skip rfl rfl rfl rfl y17 (by decide) ⟨_, rfl, rfl, Below.refl _ _⟩)
    · obtain rfl := Option.some.inj ho
      have y17 : act.tmps[(66 : Nat)]? = _ := dV (hdep 17 (by simp [dL])) rfl
      exact .inr (wpOp_skip rfl rfl rfl rfl y17 (by decide) ⟨_, rfl, rfl, Below.refl _ _⟩)
    · obtain rfl := Option.some.inj ho
      have y17 : act.tmps[(66 : Nat)]? = _ := dV (hdep 17 (by simp [dL])) rfl
      exact .inr (wpOp_skip rfl rfl rfl rfl y17 (by decide) ⟨_, rfl, rfl, Below.refl _ _⟩)
    · obtain rfl := Option.some.inj ho
      have y13 : act.tmps[(62 : Nat)]? = _ := dV (hdep 13 (by simp [dL])) rfl
      have y17 : act.tmps[(66 : Nat)]? = _ := dV (hdep 17 (by simp [dL])) rfl
      have y25 : act.tmps[(74 : Nat)]? = _ := dV (hdep 25 (by simp [dL])) rfl
      exact .inr (wpOp_take rfl rfl rfl rfl y13 (owp_pickA rfl y17 y25 ⟨_, rfl, rfl, Below.refl _ _⟩))
    · obtain rfl := Option.some.inj ho
      have y13 : act.tmps[(62 : Nat)]? = _ := dV (hdep 13 (by simp [dL])) rfl
      have y26 : act.tmps[(75 : Nat)]? = _ := dV (hdep 26 (by simp [dL])) rfl
      exact .inl ⟨rfl, owp_pickB rfl y13 y26 ⟨_, rfl, rfl, Below.refl _ _⟩⟩
  · intro u w hb hu
    exact hQ u w hb (hu 27 (by show 27 < 28; decide))
set_option maxRecDepth 200000 in
theorem rg7_ft (a b : Nat) (P : Int) (Qd : Nat) (g0 g6 g7 : Nat) (s1 : Bool) (ao1 : Option Addr) (n1 cp1 : Nat) (e1 : Int) (s2 : Bool) (ao2 : Option Addr) (n2 cp2 : Nat) (e2 : Int) {Q : Exit → Act → World → Prop} {id : Nat} (W0 : World) (a0 : Act) (hsz : 138 ≤ a0.tmps.size) (h1 : a0.tmps[(1 : Nat)]? = some (.pointer (some ⟨g0, 0, none⟩))) (h6 : a0.tmps[(6 : Nat)]? = some (.pointer (some ⟨g6, 0, none⟩))) (h7 : a0.tmps[(7 : Nat)]? = some (.pointer (some ⟨g7, 0, none⟩))) (cx : CX W0 a b P Qd g0 g6 g7 s1 ao1 n1 cp1 e1 s2 ao2 n2 cp2 e2) (hl : le 18442240474082181119 a = false) (hh : le b 9218868437227405311 = true) (mh : mag b < 9218868437227405312)
    (hQ : ∀ (u : Nat → Value) (w : World), Below W0.heap.size W0 w → u 27 = .bool false → Q .normal (putL a0 ((List.range 28).map (fun j => (([49, 50, 51, 52, 53, 54, 55, 56, 57, 58, 59, 60, 61, 62, 63, 64, 65, 66, 67, 68, 69, 70, 71, 72, 73, 74, 75, 76] : List Nat).getD j 0, u j)))) w) :
    (Code.region id sops7 true).wp Tryz.prog Q a0 W0 := by
  have og := ord_ge a 18442240474082181119 cx.ha (by omega)
  have ol := ord_le b 9218868437227405311 cx.hb (by omega)
  rw [hl] at og
  rw [hh] at ol
  have k2 : decide (sU b * (Qd : Int) < P * (kU : Int)) = false := decide_eq_false (by have := cx.sv.hi mh; omega)
  refine r_region [0, 1, 2, 3, 4, 5, 6, 7, 8, 9, 10, 11, 12, 13, 14, 15, 16, 17, 18, 19, 20, 21, 22, 23, 24, 25, 26, 27] [49, 50, 51, 52, 53, 54, 55, 56, 57, 58, 59, 60, 61, 62, 63, 64, 65, 66, 67, 68, 69, 70, 71, 72, 73, 74, 75, 76] [[], [0], [1], [2], [3], [3], [5, 3], [6, 3], [3], [7, 8, 3], [4, 9, 3], [10, 3], [3, 11], [12], [13], [14, 13], [15, 13], [16, 13], [17], [17], [19, 17], [20, 17], [17], [21, 22, 17], [18, 23, 17], [24, 17], [17, 25, 13], [13, 26]] W0 a0 [isV (.pointer (some ⟨g0, 0, none⟩)), isV (.float .f64 a), isV (.bool false), isV (.bool false), isV undef, isV undef, isV undef, isV undef, isV undef, isV undef, isV undef, isV undef, isV (.bool false), isV (.bool false), isV (.pointer (some ⟨g0, 1, none⟩)), isV (.float .f64 b), isV (.bool true), isV (.bool true), isV (.agg #[.bool s1, .slice ao1 n1 cp1, .int .i64 e1]), isV (.pointer (some ⟨g0, 1, none⟩)), isV (.float .f64 b), isD (un (sU b) 1074), isV (.agg #[.bool s2, .slice ao2 n2 cp2, .int .i64 e2]), isD (un (sU b * (Qd : Int)) 1074), isV (.int .i64 (cmpI (P * kU) (sU b * (Qd : Int)))), isV (.bool false), isV (.bool false), isV (.bool false)] (by kernel_rfl) ⟨isV_stays _, isV_stays _, isV_stays _, isV_stays _, isV_stays _, isV_stays _, isV_stays _, isV_stays _, isV_stays _, isV_stays _, isV_stays _, isV_stays _, isV_stays _, isV_stays _, isV_stays _, isV_stays _, isV_stays _, isV_stays _, isV_stays _, isV_stays _, isV_stays _, isD_stays _, isV_stays _, isD_stays _, isV_stays _, isV_stays _, isV_stays _, isV_stays _, trivial⟩ ?_ ?_ ?_
  · intro s hs
    have : s < 138 := by
      revert s
      decide
    omega
  · intro j hj o ho act V hb hoth hdep
    have cx := CX.later cx hb
    have c0 : V.cell? ⟨g0, 0, none⟩ = some (.float .f64 a) := by simp [World.cell?, cx.m0]
    have c1 : V.cell? ⟨g0, 1, none⟩ = some (.float .f64 b) := by simp [World.cell?, cx.m0]
    have q6 := (cells3N cx.m6).1
    have q7 := (cells3N cx.m7).1
    have t1 : act.tmps[(1 : Nat)]? = _ := (hoth 1 (by decide)).trans h1
    have t6 : act.tmps[(6 : Nat)]? = _ := (hoth 6 (by decide)).trans h6
    have t7 : act.tmps[(7 : Nat)]? = _ := (hoth 7 (by decide)).trans h7
    rcases lt28S hj with rfl | rfl | rfl | rfl | rfl | rfl | rfl | rfl | rfl | rfl | rfl | rfl | rfl | rfl | rfl | rfl | rfl | rfl | rfl | rfl | rfl | rfl | rfl | rfl | rfl | rfl | rfl | rfl
    · obtain rfl := Option.some.inj ho
      exact .inl ⟨rfl, owp_fldI0 rfl t1 ⟨_, rfl, rfl, Below.refl _ _⟩⟩
    · obtain rfl := Option.some.inj ho
      have y0 : act.tmps[(49 : Nat)]? = _ := dV (hdep 0 (by simp [dL])) rfl
      exact .inl ⟨rfl, owp_ldF rfl y0 c0 ⟨_, rfl, rfl, Below.refl _ _⟩⟩
    · obtain rfl := Option.some.inj ho
      have y1 : act.tmps[(50 : Nat)]? = _ := dV (hdep 1 (by simp [dL])) rfl
      exact .inl ⟨rfl, owp_geF rfl y1 ⟨_, rfl, congrArg Value.bool og, Below.refl _ _⟩⟩
    · obtain rfl := Option.some.inj ho
      have y2 : act.tmps[(51 : Nat)]? = _ := dV (hdep 2 (by simp [dL])) rfl
      exact .inl ⟨rfl, owp_move rfl y2 ⟨_, rfl, rfl, Below.refl _ _⟩⟩
    · obtain rfl := Option.some.inj ho
      have y3 : act.tmps[(52 : Nat)]? = _ := dV (hdep 3 (by simp [dL])) rfl
      exact .inr (wpOp_skip rfl rfl rfl rfl y3 (by decide) ⟨_, rfl, rfl, Below.refl _ _⟩)
    · obtain rfl := Option.some.inj ho
      have y3 : act.tmps[(52 : Nat)]? = _ := dV (hdep 3 (by simp [dL])) rfl
      exact .inr (wpOp_skip rfl rfl rfl rfl y3 (by decide) ⟨_, rfl, rfl, Below.refl _ _⟩)
    · obtain rfl := Option.some.inj ho
      have y3 : act.tmps[(52 : Nat)]? = _ := dV (hdep 3 (by simp [dL])) rfl
      exact .inr (wpOp_skip rfl rfl rfl rfl y3 (by decide) ⟨_, rfl, rfl, Below.refl _ _⟩)
    · obtain rfl := Option.some.inj ho
      have y3 : act.tmps[(52 : Nat)]? = _ := dV (hdep 3 (by simp [dL])) rfl
      exact .inr (wpOp_skip rfl rfl rfl rfl y3 (by decide) ⟨_, rfl, rfl, Below.refl _ _⟩)
    · obtain rfl := Option.some.inj ho
      have y3 : act.tmps[(52 : Nat)]? = _ := dV (hdep 3 (by simp [dL])) rfl
      exact .inr (wpOp_skip rfl rfl rfl rfl y3 (by decide) ⟨_, rfl, rfl, Below.refl _ _⟩)
    · obtain rfl := Option.some.inj ho
      have y3 : act.tmps[(52 : Nat)]? = _ := dV (hdep 3 (by simp [dL])) rfl
      exact .inr (wpOp_skip rfl rfl rfl rfl y3 (by decide) ⟨_, rfl, rfl, Below.refl _ _⟩)
    · obtain rfl := Option.some.inj ho
      have y3 : act.tmps[(52 : Nat)]? = _ := dV (hdep 3 (by simp [dL])) rfl
      exact .inr (wpOp_skip rfl rfl rfl rfl y3 (by decide) ⟨_, rfl, rfl, Below.refl _ _⟩)
    · obtain rfl := Option.some.inj ho
      have y3 : act.tmps[(52 : Nat)]? = _ := dV (hdep 3 (by simp [dL])) rfl
      exact .inr (wpOp_skip rfl rfl rfl rfl y3 (by decide) ⟨_, rfl, rfl, Below.refl _ _⟩)
    · obtain rfl := Option.some.inj ho
      have y3 : act.tmps[(52 : Nat)]? = _ := dV (hdep 3 (by simp [dL])) rfl
      have y11 : act.tmps[(60 : Nat)]? = _ := dV (hdep 11 (by simp [dL])) rfl
      exact .inl ⟨rfl, owp_pickA rfl y3 y11 ⟨_, rfl, rfl, Below.refl _ _⟩⟩
    · obtain rfl := Option.some.inj ho
      have y12 : act.tmps[(61 : Nat)]? = _ := dV (hdep 12 (by simp [dL])) rfl
      exact .inl ⟨rfl, owp_move rfl y12 ⟨_, rfl, rfl, Below.refl _ _⟩⟩
    · obtain rfl := Option.some.inj ho
      have y13 : act.tmps[(62 : Nat)]? = _ := dV (hdep 13 (by simp [dL])) rfl
      exact .inr (wpOp_take rfl rfl rfl rfl y13 (owp_fldI1 rfl t1 ⟨_, rfl, rfl, Below.refl _ _⟩))
    · obtain rfl := Option.some.inj ho
      have y13 : act.tmps[(62 : Nat)]? = _ := dV (hdep 13 (by simp [dL])) rfl
      have y14 : act.tmps[(63 : Nat)]? = _ := dV (hdep 14 (by simp [dL])) rfl
      exact .inr (wpOp_take rfl rfl rfl rfl y13 (owp_ldF rfl y14 c1 ⟨_, rfl, rfl, Below.refl _ _⟩))
    · obtain rfl := Option.some.inj ho
      have y13 : act.tmps[(62 : Nat)]? = _ := dV (hdep 13 (by simp [dL])) rfl
      have y15 : act.tmps[(64 : Nat)]? = _ := dV (hdep 15 (by simp [dL])) rfl
      exact .inr (wpOp_take rfl rfl rfl rfl y13 (owp_leF rfl y15 ⟨_, rfl, congrArg Value.bool ol, Below.refl _ _⟩))
    · obtain rfl := Option.some.inj ho
      have y13 : act.tmps[(62 : Nat)]? = _ := dV (hdep 13 (by simp [dL])) rfl
      have y16 : act.tmps[(65 : Nat)]? = _ := dV (hdep 16 (by simp [dL])) rfl
      exact .inr (wpOp_take rfl rfl rfl rfl y13 (owp_move rfl y16 ⟨_, rfl, rfl, Below.refl _ _⟩))
    · obtain rfl := Option.some.inj ho
      have y17 : act.tmps[(66 : Nat)]? = _ := dV (hdep 17 (by simp [dL])) rfl
      exact .inr (wpOp_take rfl rfl rfl rfl y17 (owp_ldD rfl t6 q6.1 q6.2.1 q6.2.2 ⟨_, rfl, rfl, Below.refl _ _⟩))
    · obtain rfl := Option.some.inj ho
      have y17 : act.tmps[(66 : Nat)]? = _ := dV (hdep 17 (by simp [dL])) rfl
      exact .inr (wpOp_take rfl rfl rfl rfl y17 (owp_fldI1 rfl t1 ⟨_, rfl, rfl, Below.refl _ _⟩))
    · obtain rfl := Option.some.inj ho
      have y17 : act.tmps[(66 : Nat)]? = _ := dV (hdep 17 (by simp [dL])) rfl
      have y19 : act.tmps[(68 : Nat)]? = _ := dV (hdep 19 (by simp [dL])) rfl
      exact .inr (wpOp_take rfl rfl rfl rfl y17 (owp_ldF rfl y19 c1 ⟨_, rfl, rfl, Below.refl _ _⟩))
    · obtain rfl := Option.some.inj ho
      have y17 : act.tmps[(66 : Nat)]? = _ := dV (hdep 17 (by simp [dL])) rfl
      have y20 : act.tmps[(69 : Nat)]? = _ := dV (hdep 20 (by simp [dL])) rfl
      refine .inr (wpOp_take rfl rfl rfl rfl y17 (owp_call rfl (enters Tryz.func17 (by kernel_rfl) (by kernel_rfl)) (map1 y20) ?_))
      refine (dfloatU cx.hb V).mono ?_
      rintro r w' ⟨A, rfl, hA, hb'⟩
      exact ⟨_, rfl, _, rfl, hA, hb'⟩
    · obtain rfl := Option.some.inj ho
      have y17 : act.tmps[(66 : Nat)]? = _ := dV (hdep 17 (by simp [dL])) rfl
      exact .inr (wpOp_take rfl rfl rfl rfl y17 (owp_ldD rfl t7 q7.1 q7.2.1 q7.2.2 ⟨_, rfl, rfl, Below.refl _ _⟩))
    · obtain rfl := Option.some.inj ho
      have y17 : act.tmps[(66 : Nat)]? = _ := dV (hdep 17 (by simp [dL])) rfl
      obtain ⟨u21, y21, v21⟩ := dD (s := 70) (hdep 21 (by simp [dL])) rfl
      have y22 : act.tmps[(71 : Nat)]? = _ := dV (hdep 22 (by simp [dL])) rfl
      refine .inr (wpOp_take rfl rfl rfl rfl y17 (owp_call rfl (enters Tryz.func16 (by kernel_rfl) (by kernel_rfl)) (map2 y21 y22) ?_))
      refine (dtimesU (sU_lt b) (qd_lt cx.sv) bU_le1 bU_le1 v21 cx.pQ).mono ?_
      rintro r w' ⟨A, rfl, hA, hb'⟩
      exact ⟨_, rfl, _, rfl, hA, hb'⟩
    · obtain rfl := Option.some.inj ho
      have y17 : act.tmps[(66 : Nat)]? = _ := dV (hdep 17 (by simp [dL])) rfl
      have y18 : act.tmps[(67 : Nat)]? = _ := dV (hdep 18 (by simp [dL])) rfl
      obtain ⟨u23, y23, v23⟩ := dD (s := 72) (hdep 23 (by simp [dL])) rfl
      refine .inr (wpOp_take rfl rfl rfl rfl y17 (owp_call rfl (enters Tryz.func15 (by kernel_rfl) (by kernel_rfl)) (map2 y18 y23) ?_))
      refine (porderU (pk_lt cx.sv) (abs_mul (sU_lt b) (qd_lt cx.sv)) bU_le bU_le cx.pP v23).mono ?_
      rintro r w' ⟨rfl, hb'⟩
      exact ⟨_, rfl, _, rfl, rfl, hb'⟩
    · obtain rfl := Option.some.inj ho
      have y17 : act.tmps[(66 : Nat)]? = _ := dV (hdep 17 (by simp [dL])) rfl
      have y24 : act.tmps[(73 : Nat)]? = _ := dV (hdep 24 (by simp [dL])) rfl
      exact .inr (wpOp_take rfl rfl rfl rfl y17 (owp_gtrI rfl y24 ⟨_, rfl, congrArg Value.bool (cmpI_gt0.trans k2), Below.refl _ _⟩))
    · obtain rfl := Option.some.inj ho
      have y13 : act.tmps[(62 : Nat)]? = _ := dV (hdep 13 (by simp [dL])) rfl
      have y17 : act.tmps[(66 : Nat)]? = _ := dV (hdep 17 (by simp [dL])) rfl
      have y25 : act.tmps[(74 : Nat)]? = _ := dV (hdep 25 (by simp [dL])) rfl
      exact .inr (wpOp_take rfl rfl rfl rfl y13 (owp_pickA rfl y17 y25 ⟨_, rfl, rfl, Below.refl _ _⟩))
    · obtain rfl := Option.some.inj ho
      have y13 : act.tmps[(62 : Nat)]? = _ := dV (hdep 13 (by simp [dL])) rfl
      have y26 : act.tmps[(75 : Nat)]? = _ := dV (hdep 26 (by simp [dL])) rfl
      exact .inl ⟨rfl, owp_pickB rfl y13 y26 ⟨_, rfl, rfl, Below.refl _ _⟩⟩
  · intro u w hb hu
    exact hQ u w hb (hu 27 (by show 27 < 28; decide))
set_option maxRecDepth 200000 in
theorem rg7_ff (a b : Nat) (P : Int) (Qd : Nat) (g0 g6 g7 : Nat) (s1 : Bool) (ao1 : Option Addr) (n1 cp1 : Nat) (e1 : Int) (s2 : Bool) (ao2 : Option Addr) (n2 cp2 : Nat) (e2 : Int) {Q : Exit → Act → World → Prop} {id : Nat} (W0 : World) (a0 : Act) (hsz : 138 ≤ a0.tmps.size) (h1 : a0.tmps[(1 : Nat)]? = some (.pointer (some ⟨g0, 0, none⟩))) (h6 : a0.tmps[(6 : Nat)]? = some (.pointer (some ⟨g6, 0, none⟩))) (h7 : a0.tmps[(7 : Nat)]? = some (.pointer (some ⟨g7, 0, none⟩))) (cx : CX W0 a b P Qd g0 g6 g7 s1 ao1 n1 cp1 e1 s2 ao2 n2 cp2 e2) (hl : le 18442240474082181119 a = false) (hh : le b 9218868437227405311 = false)
    (hQ : ∀ (u : Nat → Value) (w : World), Below W0.heap.size W0 w → u 27 = .bool false → Q .normal (putL a0 ((List.range 28).map (fun j => (([49, 50, 51, 52, 53, 54, 55, 56, 57, 58, 59, 60, 61, 62, 63, 64, 65, 66, 67, 68, 69, 70, 71, 72, 73, 74, 75, 76] : List Nat).getD j 0, u j)))) w) :
    (Code.region id sops7 true).wp Tryz.prog Q a0 W0 := by
  have og := ord_ge a 18442240474082181119 cx.ha (by omega)
  have ol := ord_le b 9218868437227405311 cx.hb (by omega)
  rw [hl] at og
  rw [hh] at ol
  refine r_region [0, 1, 2, 3, 4, 5, 6, 7, 8, 9, 10, 11, 12, 13, 14, 15, 16, 17, 18, 19, 20, 21, 22, 23, 24, 25, 26, 27] [49, 50, 51, 52, 53, 54, 55, 56, 57, 58, 59, 60, 61, 62, 63, 64, 65, 66, 67, 68, 69, 70, 71, 72, 73, 74, 75, 76] [[], [0], [1], [2], [3], [3], [5, 3], [6, 3], [3], [7, 8, 3], [4, 9, 3], [10, 3], [3, 11], [12], [13], [14, 13], [15, 13], [16, 13], [17], [17], [19, 17], [20, 17], [17], [21, 22, 17], [18, 23, 17], [24, 17], [17, 25, 13], [13, 26]] W0 a0 [isV (.pointer (some ⟨g0, 0, none⟩)), isV (.float .f64 a), isV (.bool false), isV (.bool false), isV undef, isV undef, isV undef, isV undef, isV undef, isV undef, isV undef, isV undef, isV (.bool false), isV (.bool false), isV (.pointer (some ⟨g0, 1, none⟩)), isV (.float .f64 b), isV (.bool false), isV (.bool false), isV undef, isV undef, isV undef, isV undef, isV undef, isV undef, isV undef, isV undef, isV (.bool false), isV (.bool false)] (by kernel_rfl) ⟨isV_stays _, isV_stays _, isV_stays _, isV_stays _, isV_stays _, isV_stays _, isV_stays _, isV_stays _, isV_stays _, isV_stays _, isV_stays _, isV_stays _, isV_stays _, isV_stays _, isV_stays _, isV_stays _, isV_stays _, isV_stays _, isV_stays _, isV_stays _, isV_stays _, isV_stays _, isV_stays _, isV_stays _, isV_stays _, isV_stays _, isV_stays _, isV_stays _, trivial⟩ ?_ ?_ ?_
  · intro s hs
    have : s < 138 := by
      revert s
      decide
    omega
  · intro j hj o ho act V hb hoth hdep
    have cx := CX.later cx hb
    have c0 : V.cell? ⟨g0, 0, none⟩ = some (.float .f64 a) := by simp [World.cell?, cx.m0]
    have c1 : V.cell? ⟨g0, 1, none⟩ = some (.float .f64 b) := by simp [World.cell?, cx.m0]
    have q6 := (cells3N cx.m6).1
    have q7 := (cells3N cx.m7).1
    have t1 : act.tmps[(1 : Nat)]? = _ := (hoth 1 (by decide)).trans h1
    have t6 : act.tmps[(6 : Nat)]? = _ := (hoth 6 (by decide)).trans h6
    have t7 : act.tmps[(7 : Nat)]? = _ := (hoth 7 (by decide)).trans h7
    rcases lt28S hj with rfl | rfl | rfl | rfl | rfl | rfl | rfl | rfl | rfl | rfl | rfl | rfl | rfl | rfl | rfl | rfl | rfl | rfl | rfl | rfl | rfl | rfl | rfl | rfl | rfl | rfl | rfl | rfl
    · obtain rfl := Option.some.inj ho
      exact .inl ⟨rfl, owp_fldI0 rfl t1 ⟨_, rfl, rfl, Below.refl _ _⟩⟩
    · obtain rfl := Option.some.inj ho
      have y0 : act.tmps[(49 : Nat)]? = _ := dV (hdep 0 (by simp [dL])) rfl
      exact .inl ⟨rfl, owp_ldF rfl y0 c0 ⟨_, rfl, rfl, Below.refl _ _⟩⟩
    · obtain rfl := Option.some.inj ho
      have y1 : act.tmps[(50 : Nat)]? = _ := dV (hdep 1 (by simp [dL])) rfl
      exact .inl ⟨rfl, owp_geF rfl y1 ⟨_, rfl, congrArg Value.bool og, Below.refl _ _⟩⟩
    · obtain rfl := Option.some.inj ho
      have y2 : act.tmps[(51 : Nat)]? = _ := dV (hdep 2 (by simp [dL])) rfl
      exact .inl ⟨rfl, owp_move rfl y2 ⟨_, rfl, rfl, Below.refl _ _⟩⟩
    · obtain rfl := Option.some.inj ho
      have y3 : act.tmps[(52 : Nat)]? = _ := dV (hdep 3 (by simp [dL])) rfl
      exact .inr (wpOp_skip rfl rfl rfl rfl y3 (by decide) ⟨_, rfl, rfl, Below.refl _ _⟩)
    · obtain rfl := Option.some.inj ho
      have y3 : act.tmps[(52 : Nat)]? = _ := dV (hdep 3 (by simp [dL])) rfl
      exact .inr (wpOp_skip rfl rfl rfl rfl y3 (by decide) ⟨_, rfl, rfl, Below.refl _ _⟩)
    · obtain rfl := Option.some.inj ho
      have y3 : act.tmps[(52 : Nat)]? = _ := dV (hdep 3 (by simp [dL])) rfl
      exact .inr (wpOp_skip rfl rfl rfl rfl y3 (by decide) ⟨_, rfl, rfl, Below.refl _ _⟩)
    · obtain rfl := Option.some.inj ho
      have y3 : act.tmps[(52 : Nat)]? = _ := dV (hdep 3 (by simp [dL])) rfl
      exact .inr (wpOp_skip rfl rfl rfl rfl y3 (by decide) ⟨_, rfl, rfl, Below.refl _ _⟩)
    · obtain rfl := Option.some.inj ho
      have y3 : act.tmps[(52 : Nat)]? = _ := dV (hdep 3 (by simp [dL])) rfl
      exact .inr (wpOp_skip rfl rfl rfl rfl y3 (by decide) ⟨_, rfl, rfl, Below.refl _ _⟩)
    · obtain rfl := Option.some.inj ho
      have y3 : act.tmps[(52 : Nat)]? = _ := dV (hdep 3 (by simp [dL])) rfl
      exact .inr (wpOp_skip rfl rfl rfl rfl y3 (by decide) ⟨_, rfl, rfl, Below.refl _ _⟩)
    · obtain rfl := Option.some.inj ho
      have y3 : act.tmps[(52 : Nat)]? = _ := dV (hdep 3 (by simp [dL])) rfl
      exact .inr (wpOp_skip rfl rfl rfl rfl y3 (by decide) ⟨_, rfl, rfl, Below.refl _ _⟩)
    · obtain rfl := Option.some.inj ho
      have y3 : act.tmps[(52 : Nat)]? = _ := dV (hdep 3 (by simp [dL])) rfl
      exact .inr (wpOp_skip rfl rfl rfl rfl y3 (by decide) ⟨_, rfl, rfl, Below.refl _ _⟩)
    · obtain rfl := Option.some.inj ho
      have y3 : act.tmps[(52 : Nat)]? = _ := dV (hdep 3 (by simp [dL])) rfl
      have y11 : act.tmps[(60 : Nat)]? = _ := dV (hdep 11 (by simp [dL])) rfl
      exact .inl ⟨rfl, owp_pickA rfl y3 y11 ⟨_, rfl, rfl, Below.refl _ _⟩⟩
    · obtain rfl := Option.some.inj ho
      have y12 : act.tmps[(61 : Nat)]? = _ := dV (hdep 12 (by simp [dL])) rfl
      exact .inl ⟨rfl, owp_move rfl y12 ⟨_, rfl, rfl, Below.refl _ _⟩⟩
    · obtain rfl := Option.some.inj ho
      have y13 : act.tmps[(62 : Nat)]? = _ := dV (hdep 13 (by simp [dL])) rfl
      exact .inr (wpOp_take rfl rfl rfl rfl y13 (owp_fldI1 rfl t1 ⟨_, rfl, rfl, Below.refl _ _⟩))
    · obtain rfl := Option.some.inj ho
      have y13 : act.tmps[(62 : Nat)]? = _ := dV (hdep 13 (by simp [dL])) rfl
      have y14 : act.tmps[(63 : Nat)]? = _ := dV (hdep 14 (by simp [dL])) rfl
      exact .inr (wpOp_take rfl rfl rfl rfl y13 (owp_ldF rfl y14 c1 ⟨_, rfl, rfl, Below.refl _ _⟩))
    · obtain rfl := Option.some.inj ho
      have y13 : act.tmps[(62 : Nat)]? = _ := dV (hdep 13 (by simp [dL])) rfl
      have y15 : act.tmps[(64 : Nat)]? = _ := dV (hdep 15 (by simp [dL])) rfl
      exact .inr (wpOp_take rfl rfl rfl rfl y13 (owp_leF rfl y15 ⟨_, rfl, congrArg Value.bool ol, Below.refl _ _⟩))
    · obtain rfl := Option.some.inj ho
      have y13 : act.tmps[(62 : Nat)]? = _ := dV (hdep 13 (by simp [dL])) rfl
      have y16 : act.tmps[(65 : Nat)]? = _ := dV (hdep 16 (by simp [dL])) rfl
      exact .inr (wpOp_take rfl rfl rfl rfl y13 (owp_move rfl y16 ⟨_, rfl, rfl, Below.refl _ _⟩))
    · obtain rfl := Option.some.inj ho
      have y17 : act.tmps[(66 : Nat)]? = _ := dV (hdep 17 (by simp [dL])) rfl
      exact .inr (wpOp_skip rfl rfl rfl rfl y17 (by decide) ⟨_, rfl, rfl, Below.refl _ _⟩)
    · obtain rfl := Option.some.inj ho
      have y17 : act.tmps[(66 : Nat)]? = _ := dV (hdep 17 (by simp [dL])) rfl
      exact .inr (wpOp_skip rfl rfl rfl rfl y17 (by decide) ⟨_, rfl, rfl, Below.refl _ _⟩)
    · obtain rfl := Option.some.inj ho
      have y17 : act.tmps[(66 : Nat)]? = _ := dV (hdep 17 (by simp [dL])) rfl
      exact .inr (wpOp_skip rfl rfl rfl rfl y17 (by decide) ⟨_, rfl, rfl, Below.refl _ _⟩)
    · obtain rfl := Option.some.inj ho
      have y17 : act.tmps[(66 : Nat)]? = _ := dV (hdep 17 (by simp [dL])) rfl
      exact .inr (wpOp_skip rfl rfl rfl rfl y17 (by decide) ⟨_, rfl, rfl, Below.refl _ _⟩)
    · obtain rfl := Option.some.inj ho
      have y17 : act.tmps[(66 : Nat)]? = _ := dV (hdep 17 (by simp [dL])) rfl
      exact .inr (wpOp_skip rfl rfl rfl rfl y17 (by decide) ⟨_, rfl, rfl, Below.refl _ _⟩)
    · obtain rfl := Option.some.inj ho
      have y17 : act.tmps[(66 : Nat)]? = _ := dV (hdep 17 (by simp [dL])) rfl
      exact .inr (wpOp_skip rfl rfl rfl rfl y17 (by decide) ⟨_, rfl, rfl, Below.refl _ _⟩)
    · obtain rfl := Option.some.inj ho
      have y17 : act.tmps[(66 : Nat)]? = _ := dV (hdep 17 (by simp [dL])) rfl
      exact .inr (wpOp_skip rfl rfl rfl rfl y17 (by decide) ⟨_, rfl, rfl, Below.refl _ _⟩)
    · obtain rfl := Option.some.inj ho
      have y17 : act.tmps[(66 : Nat)]? = _ := dV (hdep 17 (by simp [dL])) rfl
      exact .inr (wpOp_skip rfl rfl rfl rfl y17 (by decide) ⟨_, rfl, rfl, Below.refl _ _⟩)
    · obtain rfl := Option.some.inj ho
      have y13 : act.tmps[(62 : Nat)]? = _ := dV (hdep 13 (by simp [dL])) rfl
      have y17 : act.tmps[(66 : Nat)]? = _ := dV (hdep 17 (by simp [dL])) rfl
      have y25 : act.tmps[(74 : Nat)]? = _ := dV (hdep 25 (by simp [dL])) rfl
      exact .inr (wpOp_take rfl rfl rfl rfl y13 (owp_pickA rfl y17 y25 ⟨_, rfl, rfl, Below.refl _ _⟩))
    · obtain rfl := Option.some.inj ho
      have y13 : act.tmps[(62 : Nat)]? = _ := dV (hdep 13 (by simp [dL])) rfl
      have y26 : act.tmps[(75 : Nat)]? = _ := dV (hdep 26 (by simp [dL])) rfl
      exact .inl ⟨rfl, owp_pickB rfl y13 y26 ⟨_, rfl, rfl, Below.refl _ _⟩⟩
  · intro u w hb hu
    exact hQ u w hb (hu 27 (by show 27 < 28; decide))
def sops18 : Array Oper := #[{ dst := some 112, op := Op.load 27 (Operand.tmp 10), type := 27, pos := "law.go:185", after := #[], guard := none }, { dst := some 113, op := Op.fieldAddr 24 (Operand.tmp 1) 1, type := 0, pos := "law.go:185", after := #[], guard := none }, { dst := some 114, op := Op.load 22 (Operand.tmp 113), type := 22, pos := "law.go:185", after := #[{ on := 1, ground := Ground.data }], guard := none }, { dst := some 115, op := Op.call { callee := Callee.value (Operand.func 17), args := #[Operand.tmp 114], argTypes := #[22] }, type := 27, pos := "law.go:185", after := #[{ on := 2, ground := Ground.data }], guard := none }, { dst := some 116, op := Op.move (Operand.tmp 8), type := 3, pos := "law.go:185", after := #[], guard := none }, { dst := some 117, op := Op.call { callee := Callee.value (Operand.func 18), args := #[Operand.tmp 116], argTypes := #[3] }, type := 27, pos := "law.go:185", after := #[{ on := 4, ground := Ground.data }, { on := 3, ground := Ground.chain }], guard := none }, { dst := some 118, op := Op.call { callee := Callee.value (Operand.func 16), args := #[Operand.tmp 115, Operand.tmp 117], argTypes := #[27, 27] }, type := 27, pos := "law.go:185", after := #[{ on := 3, ground := Ground.data }, { on := 5, ground := Ground.data }, { on := 5, ground := Ground.chain }], guard := none }, { dst := some 119, op := Op.call { callee := Callee.value (Operand.func 15), args := #[Operand.tmp 112, Operand.tmp 118], argTypes := #[27, 27] }, type := 3, pos := "law.go:185", after := #[{ on := 0, ground := Ground.data }, { on := 6, ground := Ground.data }, { on := 6, ground := Ground.chain }], guard := none }, { dst := some 120, op := Op.binOp BinOp.leq 3 (Operand.tmp 119) (Operand.const (Value.int IntKind.i64 0)) 3, type := 4, pos := "law.go:185", after := #[{ on := 7, ground := Ground.data }], guard := none }]
set_option maxRecDepth 200000 in
theorem rg18 (a b : Nat) (P : Int) (Qd : Nat) (g0 g6 g7 : Nat) (s1 : Bool) (ao1 : Option Addr) (n1 cp1 : Nat) (e1 : Int) (s2 : Bool) (ao2 : Option Addr) (n2 cp2 : Nat) (e2 : Int) (n gm : Nat) (M : Int) (s3 : Bool) (ao3 : Option Addr) (n3 cp3 : Nat) (e3 : Int) {Q : Exit → Act → World → Prop} {id : Nat} (W0 : World) (a0 : Act) (hsz : 138 ≤ a0.tmps.size) (h1 : a0.tmps[(1 : Nat)]? = some (.pointer (some ⟨g0, 0, none⟩))) (h8 : a0.tmps[(8 : Nat)]? = some (.int .i64 (n : Int))) (h10 : a0.tmps[(10 : Nat)]? = some (.pointer (some ⟨gm, 0, none⟩))) (cx : CX W0 a b P Qd g0 g6 g7 s1 ao1 n1 cp1 e1 s2 ao2 n2 cp2 e2) (hn : n ≤ 200) (mm : W0.heap[gm]? = some (.cells #[.bool s3, .slice ao3 n3 cp3, .int .i64 e3] 27 (0, 0))) (dm : DN W0 (.agg #[.bool s3, .slice ao3 n3 cp3, .int .i64 e3]) (un (M * (kU : Int)) 1074)) (hM : (M * (kU : Int)).natAbs < 2 ^ (bU + bU + 1 + bU)) (hlt : sU b * (n : Int) < M * (kU : Int))
    (hQ : ∀ (u : Nat → Value) (w : World), Below W0.heap.size W0 w → u 8 = .bool false → Q .normal (putL a0 ((List.range 9).map (fun j => (([112, 113, 114, 115, 116, 117, 118, 119, 120] : List Nat).getD j 0, u j)))) w) :
    (Code.region id sops18 true).wp Tryz.prog Q a0 W0 := by
  have k1 : decide (M * (kU : Int) ≤ sU b * (n : Int)) = false := decide_eq_false (by omega)
  refine r_region [0, 1, 2, 3, 4, 5, 6, 7, 8] [112, 113, 114, 115, 116, 117, 118, 119, 120] [[], [], [1], [2], [], [4], [3, 5], [0, 6], [7]] W0 a0 [isV (.agg #[.bool s3, .slice ao3 n3 cp3, .int .i64 e3]), isV (.pointer (some ⟨g0, 1, none⟩)), isV (.float .f64 b), isD (un (sU b) 1074), isV (.int .i64 (n : Int)), isD (un (n : Int) 0), isD (un (sU b * (n : Int)) 1074), isV (.int .i64 (cmpI (M * (kU : Int)) (sU b * (n : Int)))), isV (.bool false)] (by kernel_rfl) ⟨isV_stays _, isV_stays _, isV_stays _, isD_stays _, isV_stays _, isD_stays _, isD_stays _, isV_stays _, isV_stays _, trivial⟩ ?_ ?_ ?_
  · intro s hs
    have : s < 138 := by
      revert s
      decide
    omega
  · intro j hj o ho act V hb hoth hdep
    have cx := CX.later cx hb
    have c0 : V.cell? ⟨g0, 0, none⟩ = some (.float .f64 a) := by simp [World.cell?, cx.m0]
    have c1 : V.cell? ⟨g0, 1, none⟩ = some (.float .f64 b) := by simp [World.cell?, cx.m0]
    have q6 := (cells3N cx.m6).1
    have q7 := (cells3N cx.m7).1
    have dm := DN.later dm hb
    have mm : V.heap[gm]? = some (.cells #[.bool s3, .slice ao3 n3 cp3, .int .i64 e3] 27 (0, 0)) := box_later mm hb (lt_of_box mm)
    have qm := (cells3N mm).1
    have t1 : act.tmps[(1 : Nat)]? = _ := (hoth 1 (by decide)).trans h1
    have t8 : act.tmps[(8 : Nat)]? = _ := (hoth 8 (by decide)).trans h8
    have t10 : act.tmps[(10 : Nat)]? = _ := (hoth 10 (by decide)).trans h10
    rcases lt9S hj with rfl | rfl | rfl | rfl | rfl | rfl | rfl | rfl | rfl
    · obtain rfl := Option.some.inj ho
      exact .inl ⟨rfl, owp_ldD rfl t10 qm.1 qm.2.1 qm.2.2 ⟨_, rfl, rfl, Below.refl _ _⟩⟩
    · obtain rfl := Option.some.inj ho
      exact .inl ⟨rfl, owp_fldI1 rfl t1 ⟨_, rfl, rfl, Below.refl _ _⟩⟩
    · obtain rfl := Option.some.inj ho
      have y1 : act.tmps[(113 : Nat)]? = _ := dV (hdep 1 (by simp [dL])) rfl
      exact .inl ⟨rfl, owp_ldF rfl y1 c1 ⟨_, rfl, rfl, Below.refl _ _⟩⟩
    · obtain rfl := Option.some.inj ho
      have y2 : act.tmps[(114 : Nat)]? = _ := dV (hdep 2 (by simp [dL])) rfl
      refine .inl ⟨rfl, owp_call rfl (enters Tryz.func17 (by kernel_rfl) (by kernel_rfl)) (map1 y2) ?_⟩
      refine (dfloatU cx.hb V).mono ?_
      rintro r w' ⟨A, rfl, hA, hb'⟩
      exact ⟨_, rfl, _, rfl, hA, hb'⟩
    · obtain rfl := Option.some.inj ho
      exact .inl ⟨rfl, owp_move rfl t8 ⟨_, rfl, rfl, Below.refl _ _⟩⟩
    · obtain rfl := Option.some.inj ho
      have y4 : act.tmps[(116 : Nat)]? = _ := dV (hdep 4 (by simp [dL])) rfl
      refine .inl ⟨rfl, owp_call rfl (enters Tryz.func18 (by kernel_rfl) (by kernel_rfl)) (map1 y4) ?_⟩
      refine (dwholeU (by omega) V).mono ?_
      rintro r w' ⟨A, rfl, hA, hb'⟩
      exact ⟨_, rfl, _, rfl, hA, hb'⟩
    · obtain rfl := Option.some.inj ho
      obtain ⟨u3, y3, v3⟩ := dD (s := 115) (hdep 3 (by simp [dL])) rfl
      obtain ⟨u5, y5, v5⟩ := dD (s := 117) (hdep 5 (by simp [dL])) rfl
      refine .inl ⟨rfl, owp_call rfl (enters Tryz.func16 (by kernel_rfl) (by kernel_rfl)) (map2 y3 y5) ?_⟩
      refine (dtimesU (sU_lt b) (n_lt hn) bU_le1 bU_le1 v3 v5).mono ?_
      rintro r w' ⟨A, rfl, hA, hb'⟩
      exact ⟨_, rfl, _, rfl, hA, hb'⟩
    · obtain rfl := Option.some.inj ho
      have y0 : act.tmps[(112 : Nat)]? = _ := dV (hdep 0 (by simp [dL])) rfl
      obtain ⟨u6, y6, v6⟩ := dD (s := 118) (hdep 6 (by simp [dL])) rfl
      refine .inl ⟨rfl, owp_call rfl (enters Tryz.func15 (by kernel_rfl) (by kernel_rfl)) (map2 y0 y6) ?_⟩
      refine (dorderU hM (abs_mul (sU_lt b) (n_lt hn)) (by unfold bU; decide) bU_le (by omega) dm v6).mono ?_
      rintro r w' ⟨rfl, hb'⟩
      exact ⟨_, rfl, _, rfl, rfl, hb'⟩
    · obtain rfl := Option.some.inj ho
      have y7 : act.tmps[(119 : Nat)]? = _ := dV (hdep 7 (by simp [dL])) rfl
      exact .inl ⟨rfl, owp_leqI rfl y7 ⟨_, rfl, congrArg Value.bool (cmpI_le0.trans k1), Below.refl _ _⟩⟩
  · intro u w hb hu
    exact hQ u w hb (hu 8 (by show 8 < 9; decide))
def sops21 : Array Oper := #[{ dst := some 126, op := Op.load 27 (Operand.tmp 6), type := 27, pos := "law.go:190", after := #[], guard := none }, { dst := some 127, op := Op.fieldAddr 24 (Operand.tmp 1) 0, type := 0, pos := "law.go:190", after := #[], guard := none }, { dst := some 128, op := Op.load 22 (Operand.tmp 127), type := 22, pos := "law.go:190", after := #[{ on := 1, ground := Ground.data }], guard := none }, { dst := some 129, op := Op.call { callee := Callee.value (Operand.func 17), args := #[Operand.tmp 128], argTypes := #[22] }, type := 27, pos := "law.go:190", after := #[{ on := 2, ground := Ground.data }], guard := none }, { dst := some 130, op := Op.load 27 (Operand.tmp 7), type := 27, pos := "law.go:190", after := #[], guard := none }, { dst := some 131, op := Op.call { callee := Callee.value (Operand.func 16), args := #[Operand.tmp 129, Operand.tmp 130], argTypes := #[27, 27] }, type := 27, pos := "law.go:190", after := #[{ on := 3, ground := Ground.data }, { on := 4, ground := Ground.data }, { on := 3, ground := Ground.chain }], guard := none }, { dst := some 132, op := Op.call { callee := Callee.value (Operand.func 15), args := #[Operand.tmp 126, Operand.tmp 131], argTypes := #[27, 27] }, type := 3, pos := "law.go:190", after := #[{ on := 0, ground := Ground.data }, { on := 5, ground := Ground.data }, { on := 5, ground := Ground.chain }], guard := none }, { dst := some 133, op := Op.binOp BinOp.eql 3 (Operand.tmp 132) (Operand.const (Value.int IntKind.i64 0)) 3, type := 4, pos := "law.go:190", after := #[{ on := 6, ground := Ground.data }], guard := none }, { dst := some 134, op := Op.move (Operand.tmp 133), type := 4, pos := "law.go:190", after := #[{ on := 7, ground := Ground.data }, { on := 6, ground := Ground.chain }], guard := none }, { dst := some 135, op := Op.call { callee := Callee.value (Operand.func 12), args := #[], argTypes := #[] }, type := 4, pos := "law.go:190", after := #[{ on := 8, ground := Ground.chain }, { on := 8, ground := Ground.guard }], guard := some (8, true) }, { dst := some 136, op := Op.pick (Operand.tmp 134) (Operand.tmp 135) (Operand.const (Value.bool false)), type := 4, pos := "law.go:190", after := #[{ on := 8, ground := Ground.data }, { on := 9, ground := Ground.data }], guard := none }, { dst := some 2, op := Op.assign (Operand.tmp 136), type := 4, pos := "law.go:190", after := #[{ on := 10, ground := Ground.data }, { on := 9, ground := Ground.chain }, { on := 0, ground := Ground.phase }, { on := 1, ground := Ground.phase }, { on := 2, ground := Ground.phase }, { on := 3, ground := Ground.phase }, { on := 4, ground := Ground.phase }, { on := 5, ground := Ground.phase }, { on := 6, ground := Ground.phase }, { on := 7, ground := Ground.phase }, { on := 8, ground := Ground.phase }, { on := 9, ground := Ground.phase }, { on := 10, ground := Ground.phase }], guard := none }]
set_option maxRecDepth 200000 in
theorem rg21 (a b : Nat) (P : Int) (Qd : Nat) (g0 g6 g7 : Nat) (s1 : Bool) (ao1 : Option Addr) (n1 cp1 : Nat) (e1 : Int) (s2 : Bool) (ao2 : Option Addr) (n2 cp2 : Nat) (e2 : Int) {Q : Exit → Act → World → Prop} {id : Nat} (W0 : World) (a0 : Act) (hsz : 138 ≤ a0.tmps.size) (h1 : a0.tmps[(1 : Nat)]? = some (.pointer (some ⟨g0, 0, none⟩))) (h6 : a0.tmps[(6 : Nat)]? = some (.pointer (some ⟨g6, 0, none⟩))) (h7 : a0.tmps[(7 : Nat)]? = some (.pointer (some ⟨g7, 0, none⟩))) (cx : CX W0 a b P Qd g0 g6 g7 s1 ao1 n1 cp1 e1 s2 ao2 n2 cp2 e2) (heq : P * (kU : Int) = sU a * (Qd : Int))
    (hQ : ∀ (u : Nat → Value) (w : World), Below W0.heap.size W0 w → u 11 = .bool true → Q .normal (putL a0 ((List.range 12).map (fun j => (([126, 127, 128, 129, 130, 131, 132, 133, 134, 135, 136, 2] : List Nat).getD j 0, u j)))) w) :
    (Code.region id sops21 true).wp Tryz.prog Q a0 W0 := by
  have k1 : decide (P * (kU : Int) = sU a * (Qd : Int)) = true := decide_eq_true heq
  refine r_region [0, 1, 2, 3, 4, 5, 6, 7, 8, 9, 10, 11] [126, 127, 128, 129, 130, 131, 132, 133, 134, 135, 136, 2] [[], [], [1], [2], [], [3, 4], [0, 5], [6], [7], [8], [8, 9], [10]] W0 a0 [isV (.agg #[.bool s1, .slice ao1 n1 cp1, .int .i64 e1]), isV (.pointer (some ⟨g0, 0, none⟩)), isV (.float .f64 a), isD (un (sU a) 1074), isV (.agg #[.bool s2, .slice ao2 n2 cp2, .int .i64 e2]), isD (un (sU a * (Qd : Int)) 1074), isV (.int .i64 (cmpI (P * kU) (sU a * (Qd : Int)))), isV (.bool true), isV (.bool true), isV (.bool true), isV (.bool true), isV (.bool true)] (by kernel_rfl) ⟨isV_stays _, isV_stays _, isV_stays _, isD_stays _, isV_stays _, isD_stays _, isV_stays _, isV_stays _, isV_stays _, isV_stays _, isV_stays _, isV_stays _, trivial⟩ ?_ ?_ ?_
  · intro s hs
    have : s < 138 := by
      revert s
      decide
    omega
  · intro j hj o ho act V hb hoth hdep
    have cx := CX.later cx hb
    have c0 : V.cell? ⟨g0, 0, none⟩ = some (.float .f64 a) := by simp [World.cell?, cx.m0]
    have c1 : V.cell? ⟨g0, 1, none⟩ = some (.float .f64 b) := by simp [World.cell?, cx.m0]
    have q6 := (cells3N cx.m6).1
    have q7 := (cells3N cx.m7).1
    have t1 : act.tmps[(1 : Nat)]? = _ := (hoth 1 (by decide)).trans h1
    have t6 : act.tmps[(6 : Nat)]? = _ := (hoth 6 (by decide)).trans h6
    have t7 : act.tmps[(7 : Nat)]? = _ := (hoth 7 (by decide)).trans h7
    rcases lt12S hj with rfl | rfl | rfl | rfl | rfl | rfl | rfl | rfl | rfl | rfl | rfl | rfl
    · obtain rfl := Option.some.inj ho
      exact .inl ⟨rfl, owp_ldD rfl t6 q6.1 q6.2.1 q6.2.2 ⟨_, rfl, rfl, Below.refl _ _⟩⟩
    · obtain rfl := Option.some.inj ho
      exact .inl ⟨rfl, owp_fldI0 rfl t1 ⟨_, rfl, rfl, Below.refl _ _⟩⟩
    · obtain rfl := Option.some.inj ho
      have y1 : act.tmps[(127 : Nat)]? = _ := dV (hdep 1 (by simp [dL])) rfl
      exact .inl ⟨rfl, owp_ldF rfl y1 c0 ⟨_, rfl, rfl, Below.refl _ _⟩⟩
    · obtain rfl := Option.some.inj ho
      have y2 : act.tmps[(128 : Nat)]? = _ := dV (hdep 2 (by simp [dL])) rfl
      refine .inl ⟨rfl, owp_call rfl (enters Tryz.func17 (by kernel_rfl) (by kernel_rfl)) (map1 y2) ?_⟩
      refine (dfloatU cx.ha V).mono ?_
      rintro r w' ⟨A, rfl, hA, hb'⟩
      exact ⟨_, rfl, _, rfl, hA, hb'⟩
    · obtain rfl := Option.some.inj ho
      exact .inl ⟨rfl, owp_ldD rfl t7 q7.1 q7.2.1 q7.2.2 ⟨_, rfl, rfl, Below.refl _ _⟩⟩
    · obtain rfl := Option.some.inj ho
      obtain ⟨u3, y3, v3⟩ := dD (s := 129) (hdep 3 (by simp [dL])) rfl
      have y4 : act.tmps[(130 : Nat)]? = _ := dV (hdep 4 (by simp [dL])) rfl
      refine .inl ⟨rfl, owp_call rfl (enters Tryz.func16 (by kernel_rfl) (by kernel_rfl)) (map2 y3 y4) ?_⟩
      refine (dtimesU (sU_lt a) (qd_lt cx.sv) bU_le1 bU_le1 v3 cx.pQ).mono ?_
      rintro r w' ⟨A, rfl, hA, hb'⟩
      exact ⟨_, rfl, _, rfl, hA, hb'⟩
    · obtain rfl := Option.some.inj ho
      have y0 : act.tmps[(126 : Nat)]? = _ := dV (hdep 0 (by simp [dL])) rfl
      obtain ⟨u5, y5, v5⟩ := dD (s := 131) (hdep 5 (by simp [dL])) rfl
      refine .inl ⟨rfl, owp_call rfl (enters Tryz.func15 (by kernel_rfl) (by kernel_rfl)) (map2 y0 y5) ?_⟩
      refine (porderU (pk_lt cx.sv) (abs_mul (sU_lt a) (qd_lt cx.sv)) bU_le bU_le cx.pP v5).mono ?_
      rintro r w' ⟨rfl, hb'⟩
      exact ⟨_, rfl, _, rfl, rfl, hb'⟩
    · obtain rfl := Option.some.inj ho
      have y6 : act.tmps[(132 : Nat)]? = _ := dV (hdep 6 (by simp [dL])) rfl
      exact .inl ⟨rfl, owp_eqlI rfl y6 ⟨_, rfl, congrArg Value.bool (cmpI_eq0.trans k1), Below.refl _ _⟩⟩
    · obtain rfl := Option.some.inj ho
      have y7 : act.tmps[(133 : Nat)]? = _ := dV (hdep 7 (by simp [dL])) rfl
      exact .inl ⟨rfl, owp_move rfl y7 ⟨_, rfl, rfl, Below.refl _ _⟩⟩
    · obtain rfl := Option.some.inj ho
      have y8 : act.tmps[(134 : Nat)]? = _ := dV (hdep 8 (by simp [dL])) rfl
      refine .inr (wpOp_take rfl rfl rfl rfl y8 (owp_call rfl (enters Tryz.func12 (by kernel_rfl) (by kernel_rfl)) (map0) ?_))
      refine (works8 V cx.tb.1 cx.tb.2).mono ?_
      rintro r w' ⟨rfl, hb'⟩
      exact ⟨_, rfl, _, rfl, rfl, hb'⟩
    · obtain rfl := Option.some.inj ho
      have y8 : act.tmps[(134 : Nat)]? = _ := dV (hdep 8 (by simp [dL])) rfl
      have y9 : act.tmps[(135 : Nat)]? = _ := dV (hdep 9 (by simp [dL])) rfl
      exact .inl ⟨rfl, owp_pickA rfl y8 y9 ⟨_, rfl, rfl, Below.refl _ _⟩⟩
    · obtain rfl := Option.some.inj ho
      have y10 : act.tmps[(136 : Nat)]? = _ := dV (hdep 10 (by simp [dL])) rfl
      exact .inl ⟨rfl, owp_assign rfl y10 ⟨_, rfl, rfl, Below.refl _ _⟩⟩
  · intro u w hb hu
    exact hQ u w hb (hu 11 (by show 11 < 12; decide))
end Go.Proofs.YtgmpcpeminjpbaaGreatDoor
