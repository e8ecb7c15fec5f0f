/- Own work: contracts of the program's functions, part 19: FRI FRH. -/
import Derived.Test.YtgmpcpeminjpbaaGreatDoorA18
import Derived.Test.YtgmpcpeminjpbaaGreatDoorA15

set_option maxHeartbeats 16000000
namespace Go.Proofs.YtgmpcpeminjpbaaGreatDoor
set_option linter.unusedVariables false
set_option linter.unusedSimpArgs false
open Go.RowKit Go.Fl64
theorem CX.facts {W : World} {a b : Nat} {P : Int} {Qd g0 g6 g7 : Nat} {s1 : Bool} {ao1 : Option Addr} {n1 cp1 : Nat} {e1 : Int} {s2 : Bool} {ao2 : Option Addr} {n2 cp2 : Nat} {e2 : Int} (h : CX W a b P Qd g0 g6 g7 s1 ao1 n1 cp1 e1 s2 ao2 n2 cp2 e2) : s2 = false ∧ n2 ≠ 0 ∧ n2 ≤ 35184372088832 ∧ 0 ≤ e1 ∧ 0 ≤ e2 := by
  obtain ⟨ao, cap, e, -⟩ := h.pP
  obtain ⟨ao', cap', e', i⟩ := h.pQ
  have u1 := (un_e (p := 0) (Nat.lt_two_pow_self (n := P.natAbs))).1
  have u2 := (un_e (p := 0) (Nat.lt_two_pow_self (n := (Qd : Int).natAbs))).1
  have hq0 : (un (Qd : Int) 0).2.1 ≠ 0 := fun h1 => by have := un_sign.2.1 h1; have := h.sv.q0; omega
  have hs : (un (Qd : Int) 0).1 = false := by
    unfold un cn
    rw [decide_eq_false (by omega)]
    split <;> rfl
  have hd := i.small
  simp only [Value.agg.injEq, Array.mk.injEq, List.cons.injEq, Value.bool.injEq, Value.slice.injEq, Value.int.injEq, true_and, and_true] at e e'
  refine ⟨e'.1.trans hs, ?_, ?_, ?_, ?_⟩
  · rw [e'.2.1.2.1]; have := dlen_pos hq0; omega
  · rw [e'.2.1.2.1]; exact hd
  · rw [e.2.2]; omega
  · rw [e'.2.2]; omega
theorem dcutG {x : Int} {k : Nat} {X : Value} {w : World} {K p : Nat} (hp : p ≤ 90000) (hK : pU (p - 0) = K) (hx : x.natAbs < 2 ^ k) (hk : k ≤ 90000) (h1 : DN w X (un x p)) :
    Calls Tryz.prog 19 #[X, .int .i64 0] w fun res w' => ∃ s ao n cap e ex, res = .returned (.tuple #[.agg #[.bool s, .slice ao n cap, .int .i64 e], .bool ex]) ∧ (ex = true → (K : Int) ∣ x) ∧ DN w' (.agg #[.bool s, .slice ao n cap, .int .i64 e]) (un (x / (K : Int)) 0) ∧ Below w.heap.size w w' := by
  have h := gcutE (r := 0) hx hk hp (Nat.zero_le _) h1
  unfold pU at hK
  rw [hK] at h
  refine h.mono ?_
  rintro r w' ⟨A, ex, rfl, h2, h3, h4⟩
  obtain ⟨s, ao, n, cap, e, rfl⟩ := h3.shape
  refine ⟨_, _, _, _, _, _, rfl, fun he => ?_, h3, h4⟩
  exact Decidable.byContradiction fun hn => by rw [h2 hn] at he; cases he
theorem kU_eq : pU (1074 - 0) = kU := congrArg pU (Nat.sub_zero 1074)
theorem dcutU {x : Int} {k : Nat} {X : Value} {w : World} (hx : x.natAbs < 2 ^ k) (hk : k ≤ 90000) (h1 : DN w X (un x 1074)) :
    Calls Tryz.prog 19 #[X, .int .i64 0] w fun res w' => ∃ s ao n cap e ex, res = .returned (.tuple #[.agg #[.bool s, .slice ao n cap, .int .i64 e], .bool ex]) ∧ (ex = true → (kU : Int) ∣ x) ∧ DN w' (.agg #[.bool s, .slice ao n cap, .int .i64 e]) (un (x / (kU : Int)) 0) ∧ Below w.heap.size w w' :=
  dcutG (by omega) kU_eq hx hk h1
theorem ceil_ge {x : Int} : x ≤ (x / (kU : Int) + 1) * (kU : Int) := by
  have h := Int.lt_ediv_add_one_mul_self x (b := (kU : Int)) (by exact_mod_cast kU_pos)
  omega
theorem ceil_eq {x : Int} (h : (kU : Int) ∣ x) : x / (kU : Int) * (kU : Int) = x := Int.ediv_mul_cancel h
theorem div_lt {x : Int} {k : Nat} (h : x.natAbs < 2 ^ k) : (x / (kU : Int)).natAbs < 2 ^ k := by
  refine Nat.lt_of_le_of_lt ?_ h
  exact Int.natAbs_ediv_le_natAbs x (kU : Int)
theorem DN.keepN {W0 V : World} {n : Nat} {gs : Nat → Nat} {B : Nat} {A : Value} {t : Bool × Nat × Int} {T : TypeId} (hK : KeepB n gs B W0 V) (hbox : ∀ k, k < n → ∃ cs, W0.heap[gs k]? = some (.cells cs T (0, 0)) ∧ NC3 cs) (h : DN W0 A t) : DN V A t := by
  obtain ⟨ao, cap, rfl, h1⟩ := h
  obtain ⟨bb, o, h4, h5⟩ := h1.at_
  refine ⟨ao, cap, rfl, h1.nil, ⟨bb, o, h4, fun i hi => ?_⟩, h1.le, h1.small⟩
  have hc := h5 i hi
  have hlt : bb < W0.heap.size := World.block_lt_of_cell? _ _ hc
  have hne : ∀ k, k < n → bb ≠ gs k := by
    rintro k hk rfl
    obtain ⟨cs, hE, _, _, _, _, _, rfl⟩ := hbox k hk
    simp only [World.cell?, hE] at hc
    rcases (show o + i = 0 ∨ o + i = 1 ∨ o + i = 2 ∨ 3 ≤ o + i by omega) with e | e | e | e
    · rw [e] at hc; simp at hc
    · rw [e] at hc; simp at hc
    · rw [e] at hc; simp at hc
    · rw [Array.getElem?_eq_none (by simpa using e)] at hc; cases hc
  have := hK.keep bb hlt hne
  unfold World.cell? at hc ⊢
  rw [this]
  exact hc
theorem DN.row3 {W : World} {A : Value} {t : Bool × Nat × Int} {g : Nat} {T : TypeId} {cs : Array Value} (h : DN W A t) (hE : W.heap[g]? = some (.cells cs T (0, 0))) (hC : NC3 cs) (cs' : Array Value) : DN (W.setRow g cs') A t := by
  obtain ⟨ao, cap, rfl, h1⟩ := h
  obtain ⟨bb, o, h4, h5⟩ := h1.at_
  obtain ⟨_, _, _, _, _, rfl⟩ := hC
  refine ⟨ao, cap, rfl, h1.nil, ⟨bb, o, h4, fun i hi => ?_⟩, h1.le, h1.small⟩
  have hc := h5 i hi
  have hne : bb ≠ g := by
    rintro rfl
    simp only [World.cell?, hE] at hc
    rcases (show o + i = 0 ∨ o + i = 1 ∨ o + i = 2 ∨ 3 ≤ o + i by omega) with e | e | e | e
    · rw [e] at hc; simp at hc
    · rw [e] at hc; simp at hc
    · rw [e] at hc; simp at hc
    · rw [Array.getElem?_eq_none (by simpa using e)] at hc; cases hc
  have hs := setRow_other W g bb cs' hne
  unfold World.cell? at hc ⊢
  rw [hs]
  exact hc
theorem DN.cells3 {W : World} {A : Value} {t : Bool × Nat × Int} (h : DN W A t) : ∃ cs : Array Value, A = .agg cs ∧ cs.size = 3 ∧ NC3 cs ∧ cs.all (·.oneCell') = true := by
  obtain ⟨s, ao, n, cap, e, rfl⟩ := h.shape
  exact ⟨_, rfl, rfl, ⟨_, _, _, _, _, rfl⟩, one3 rfl rfl⟩
theorem lt3S {j : Nat} (h : j < 3) : j = 0 ∨ j = 1 ∨ j = 2 := by omega
set_option maxRecDepth 200000 in
theorem rg17 (a b : Nat) (P : Int) (Qd g0 g6 g7 : Nat) (s1 : Bool) (ao1 : Option Addr) (n1 cp1 : Nat) (e1 : Int) (s2 : Bool) (ao2 : Option Addr) (n2 cp2 : Nat) (e2 : Int) (gm : Nat) (M : Int) (s3 : Bool) (ao3 : Option Addr) (n3 cp3 : Nat) (e3 : Int) {Q : Exit → Act → World → Prop} {id : Nat} (w W0 : World) (a0 : Act) (hsz : 138 ≤ a0.tmps.size) (h10 : a0.tmps[(10 : Nat)]? = some (.pointer (some ⟨gm, 0, none⟩))) (cx : CX W0 a b P Qd g0 g6 g7 s1 ao1 n1 cp1 e1 s2 ao2 n2 cp2 e2) (hg0 : g0 < gm) (hg6 : g6 < gm) (hg7 : g7 < gm) (hw : w.heap.size ≤ gm) (hB : Below w.heap.size w W0) (hT : Tab32 w) (hJ : Ie.Tab w)
    (mm : W0.heap[gm]? = some (.cells #[.bool s3, .slice ao3 n3 cp3, .int .i64 e3] 27 (0, 0))) (dm : DN W0 (.agg #[.bool s3, .slice ao3 n3 cp3, .int .i64 e3]) (un M 0)) (hM : M.natAbs < 2 ^ (bU + bU))
    (hQ : ∀ (u : Nat → Value) (V : World), Below w.heap.size w V → CX V a b P Qd g0 g6 g7 s1 ao1 n1 cp1 e1 s2 ao2 n2 cp2 e2 → (∃ s4 ao4 n4 cp4 e4, V.heap[gm]? = some (.cells #[.bool s4, .slice ao4 n4 cp4, .int .i64 e4] 27 (0, 0)) ∧ DN V (.agg #[.bool s4, .slice ao4 n4 cp4, .int .i64 e4]) (un (M + 1) 0)) → Q .normal (putL a0 ((List.range 3).map (fun j => (([109, 110, 111] : List Nat).getD j 0, u j)))) V) :
    (Code.region id #[{ dst := some 109, op := Op.load 27 (Operand.tmp 10), type := 27, pos := "law.go:183", after := #[], guard := none }, { dst := some 110, op := Op.call { callee := Callee.value (Operand.func 18), args := #[Operand.const (Value.int IntKind.i64 1)], argTypes := #[3] }, type := 27, pos := "law.go:183", after := #[], guard := none }, { dst := some 111, op := Op.call { callee := Callee.value (Operand.func 20), args := #[Operand.tmp 109, Operand.tmp 110], argTypes := #[27, 27] }, type := 27, pos := "law.go:183", after := #[{ on := 0, ground := Ground.data }, { on := 1, ground := Ground.data }, { on := 1, ground := Ground.chain }], guard := none }, { dst := none, op := Op.store 27 (Operand.tmp 10) (Operand.tmp 111), type := 0, pos := "law.go:183", after := #[{ on := 2, ground := Ground.data }, { on := 2, ground := Ground.chain }, { on := 0, ground := Ground.phase }, { on := 1, ground := Ground.phase }, { on := 2, ground := Ground.phase }], guard := none }] true).wp Tryz.prog Q a0 W0 := by
  have h1u : (1 : Int).natAbs < 2 ^ (bU + bU) := Nat.one_lt_two_pow (by unfold bU; decide)
  have hbx : ∀ i, i < 1 → ∃ cs, W0.heap[(fun _ : Nat => gm) i]? = some (.cells cs 27 (0, 0)) ∧ NC3 cs := fun i _ => ⟨_, mm, _, _, _, _, _, rfl⟩
  refine q_region follows_mixed [0, 1, 2] [3] [109, 110, 111] [[], [], [0, 1]] [[2, 0]] [2] (fun _ => 10) (fun _ => gm) w.heap.size 27 NC3 3 W0 a0 [isV (.agg #[.bool s3, .slice ao3 n3 cp3, .int .i64 e3]), isD (un 1 0), isD (un (M + 1) 0)] (by kernel_rfl) ⟨isV_stays _, isD_stays _, isD_stays _, trivial⟩ ⟨fun _ _ _ _ _ _ _ h => h, fun _ _ _ _ _ h hC h2 => DN.row3 h2 h hC _, fun _ _ _ _ _ h hC h2 => DN.row3 h2 h hC _, trivial⟩ ?_ ?_ ?_ Tryz.info27 ?_ ?_ ?_ (fun k k' hk hk' _ => by have hk : k < 1 := hk; have hk' : k' < 1 := hk'; omega) hB.size ?_
  · intro s hs
    have : s < 138 := by
      revert s
      decide
    omega
  · intro k hk V u h
    obtain rfl : k = 0 := by have hk : k < 1 := hk; omega
    exact DN.cells3 (show DN V u (un (M + 1) 0) from h)
  · intro j hj o ho act V hK hoth hdep hrd
    rcases lt3S hj with rfl | rfl | rfl
    · obtain rfl := Option.some.inj ho
      have t10 : act.tmps[(10 : Nat)]? = _ := (hoth 10 (by decide)).trans h10
      have hm : V.heap[gm]? = some (.cells #[.bool s3, .slice ao3 n3 cp3, .int .i64 e3] 27 (0, 0)) := (hrd 0 (by decide) (by simp [dL])).trans mm
      have c := (cells3N hm).1
      exact .inl ⟨rfl, owp_run1 (w' := V) (v := .agg #[.bool s3, .slice ao3 n3 cp3, .int .i64 e3]) (by simp [execOp, eval_get t10, run_ldD _ 0 s3 ao3 n3 cp3 e3 V c.1 c.2.1 c.2.2]) ⟨_, rfl, rfl, Below.refl _ _⟩⟩
    · obtain rfl := Option.some.inj ho
      refine .inl ⟨rfl, owp_call rfl (enters Tryz.func18 (by kernel_rfl) (by kernel_rfl)) (vs := #[.int .i64 1]) (by simp [Act.eval]) ?_⟩
      refine (dwholeU (n := 1) (by omega) V).mono ?_
      rintro r w' ⟨A, rfl, hA, hb'⟩
      exact ⟨_, rfl, _, rfl, hA, hb'⟩
    · obtain rfl := Option.some.inj ho
      obtain ⟨u0, z0, v0⟩ := hdep 0 (by simp [dL])
      obtain rfl : u0 = _ := v0
      obtain ⟨u1, z1, v1⟩ := hdep 1 (by simp [dL])
      have v1' : DN V u1 (un 1 0) := v1
      have y0 : act.tmps[(109 : Nat)]? = _ := z0
      have y1 : act.tmps[(110 : Nat)]? = _ := z1
      refine .inl ⟨rfl, owp_call rfl (enters Tryz.func20 (by kernel_rfl) (by kernel_rfl)) (vs := #[.agg #[.bool s3, .slice ao3 n3 cp3, .int .i64 e3], u1]) (by simp only [List.map_toArray, List.map_cons, List.map_nil]; rw [eval_get y0, eval_get y1]) ?_⟩
      have h := gplus (un_gn hM bU_le (by omega)) (un_gn h1u bU_le (by omega)) (DN.keepN hK hbx dm) v1'
      rw [gS_un] at h
      refine h.mono ?_
      rintro r w' ⟨A, rfl, hA, hb'⟩
      exact ⟨_, rfl, _, rfl, hA, hb'⟩
  · intro k hk
    obtain rfl : k = 0 := by have hk : k < 1 := hk; omega
    exact ⟨_, rfl, rfl⟩
  · intro k hk
    obtain rfl : k = 0 := by have hk : k < 1 := hk; omega
    exact ⟨h10, by decide⟩
  · intro k hk
    obtain rfl : k = 0 := by have hk : k < 1 := hk; omega
    exact ⟨hw, _, mm, rfl, _, _, _, _, _, rfl⟩
  · intro u V hK hu hcs
    obtain ⟨cs, x, z⟩ := hcs 0 (by decide)
    have d2 : DN V (u 2) (un (M + 1) 0) := hu 2 (by decide)
    have x' : u 2 = .agg cs := x
    rw [x'] at d2
    obtain ⟨s4, ao4, n4, cp4, e4, h4⟩ := d2.shape
    obtain rfl := Value.agg.inj h4
    have hBV : Below w.heap.size w V := hB.trans hK.below
    refine hQ u V hBV ⟨cx.ha, cx.hb, (hK.keep g0 (lt_of_box cx.m0) (fun _ _ => Nat.ne_of_lt hg0)).trans cx.m0, (hK.keep g6 (lt_of_box cx.m6) (fun _ _ => Nat.ne_of_lt hg6)).trans cx.m6, (hK.keep g7 (lt_of_box cx.m7) (fun _ _ => Nat.ne_of_lt hg7)).trans cx.m7, PN.keep3 hK hbx cx.pP, DN.keepN hK hbx cx.pQ, cx.sv, hT.later hBV, Tab.later hJ hBV⟩ ⟨s4, ao4, n4, cp4, e4, z, d2⟩
theorem stp_magS (x : Nat) : stp x = if neg x then -(mag x : Int) else (mag x : Int) := by unfold stp sgn; rfl
theorem fin_ofS {x : Nat} (nx : isNaN x = false) (h1 : stp x < 9218868437227405312) (h2 : -9218868437227405312 < stp x) : mag x < 9218868437227405312 := by
  rw [stp_magS] at h1 h2
  split at h1
  · rename_i h; rw [if_pos h] at h2; omega
  · omega
theorem lt2S {j : Nat} (h : j < 2) : j = 0 ∨ j = 1 := by omega
set_option maxRecDepth 200000 in
theorem ssimple_no (a b : Nat) (w : World) (ha : a < 18446744073709551616) (hb : b < 18446744073709551616) (hv : vI a b = false) (hT : Tab32 w) (hJ : Ie.Tab w) :
    Calls Tryz.prog 4 #[.agg #[.float .f64 a, .float .f64 b]] w fun r w' => r = .returned (.bool true) ∧ Below w.heap.size w w' := by
  obtain ⟨W, hW⟩ : ∃ W, W = w.alloc (.cells #[.float .f64 a, .float .f64 b] 24) := ⟨_, rfl⟩
  have hBW : Below w.heap.size w W := by rw [hW]; exact (Below.refl _ _).alloc (Nat.le_refl _) _
  have hF : W.heap[w.heap.size]? = some (.cells #[.float .f64 a, .float .f64 b] 24 (0, 0)) := by rw [hW]; exact heap_alloc_new _ _
  have c0 : W.cell? ⟨w.heap.size, 0, none⟩ = some (.float .f64 a) := by simp [World.cell?, hF]
  have c1 : W.cell? ⟨w.heap.size, 1, none⟩ = some (.float .f64 b) := by simp [World.cell?, hF]
  have HK : Hid (∀ W, Calls Tryz.prog 13 #[.agg #[.float .f64 a, .float .f64 b]] W fun r w' => r = .returned (.bool false) ∧ Below W.heap.size W w') := fun W => by
    have := d8valid a b ha hb W
    rw [hv] at this
    exact this
  have HF : Hid (W.heap[w.heap.size]? = some (.cells #[.float .f64 a, .float .f64 b] 24 (0, 0)) ∧ Below w.heap.size w W ∧ Tab32 w ∧ Ie.Tab w) := ⟨hF, hBW, hT, hJ⟩
  have kk := psimple_no ha hb hv W
  clear hF hBW hT hJ hv
  go_enter Tryz.func4, Tryz.ntmps4
  go_upto_region 1 with fail
  rw [← hW]
  clear hW
  go_wp2_with fail
  refine kk.mono ?_
  rintro r w1 ⟨s1, ao1, n1, cp1, e1, s2, ao2, n2, cp2, e2, rfl, p1, p2, hb1⟩
  clear kk c0 c1
  obtain ⟨V, hV⟩ : ∃ V, V = (w1.alloc (.cells #[.bool s1, .slice ao1 n1 cp1, .int .i64 e1] 28)).alloc (.cells #[.bool s2, .slice ao2 n2 cp2, .int .i64 e2] 28) := ⟨_, rfl⟩
  obtain ⟨y1, y2, y3, y4⟩ := two_new _ _ hV
  have hB1 : Below w.heap.size w w1 := HF.out.2.1.trans (hb1.mono HF.out.2.1.size)
  have hBV : Below w.heap.size w V := hB1.trans (y4.mono hB1.size)
  have hFV : V.heap[w.heap.size]? = some (.cells #[.float .f64 a, .float .f64 b] 24 (0, 0)) := box_later (box_later HF.out.1 hb1 (lt_of_box HF.out.1)) y4 (by have := hb1.size; have := lt_of_box HF.out.1; omega)
  have c0 : V.cell? ⟨w.heap.size, 0, none⟩ = some (.float .f64 a) := by simp [World.cell?, hFV]
  have c1 : V.cell? ⟨w.heap.size, 1, none⟩ = some (.float .f64 b) := by simp [World.cell?, hFV]
  have HX : Hid (Below w.heap.size w V) := hBV
  have kk := HK.out V
  clear y1 y2 y3 y4 hB1 hBV hFV p1 p2 hb1
  go_upto_region 2 with fail
  rw [← hV]
  clear hV
  go_wp2_with fail
  refine kk.mono ?_
  rintro r w2 ⟨rfl, hb2⟩
  clear kk c0 c1
  have HX2 : Hid (Below w.heap.size w w2) := HX.out.trans (hb2.mono HX.out.size)
  clear hb2
  have kk := works8 w2 (HF.out.2.2.1.later HX2.out) (Tab.later HF.out.2.2.2 HX2.out)
  go_wp2_with fail
  refine kk.mono ?_
  rintro r w3 ⟨rfl, hb3⟩
  have HX3 : Hid (Below w.heap.size w w3) := HX2.out.trans (hb3.mono HX2.out.size)
  clear kk hb3
  go_wp2_with fail
  go_ret
  exact ⟨rfl, HX3.out⟩
set_option maxRecDepth 200000 in
theorem ssimple_v (a b : Nat) (P : Int) (Qd : Nat) (w : World) (ha : a < 18446744073709551616) (hb : b < 18446744073709551616) (hv : vI a b = true) (hS : SV a b P Qd) (kS : ∀ W, Tab32 W → Ie.Tab W → Calls Tryz.prog 5 #[.agg #[.float .f64 a, .float .f64 b]] W fun r w' => Out2N W (un P 0) (un (Qd : Int) 0) 0 r w') (hT : Tab32 w) (hJ : Ie.Tab w) :
    Calls Tryz.prog 4 #[.agg #[.float .f64 a, .float .f64 b]] w fun r w' => r = .returned (.bool true) ∧ Below w.heap.size w w' := by
  have HS : Hid (SV a b P Qd ∧ vI a b = true) := ⟨hS, hv⟩
  obtain ⟨W, hW⟩ : ∃ W, W = w.alloc (.cells #[.float .f64 a, .float .f64 b] 24) := ⟨_, rfl⟩
  have hBW : Below w.heap.size w W := by rw [hW]; exact (Below.refl _ _).alloc (Nat.le_refl _) _
  have hF : W.heap[w.heap.size]? = some (.cells #[.float .f64 a, .float .f64 b] 24 (0, 0)) := by rw [hW]; exact heap_alloc_new _ _
  have c0 : W.cell? ⟨w.heap.size, 0, none⟩ = some (.float .f64 a) := by simp [World.cell?, hF]
  have c1 : W.cell? ⟨w.heap.size, 1, none⟩ = some (.float .f64 b) := by simp [World.cell?, hF]
  have HK : Hid (∀ W, Calls Tryz.prog 13 #[.agg #[.float .f64 a, .float .f64 b]] W fun r w' => r = .returned (.bool true) ∧ Below W.heap.size W w') := fun W => by
    have := d8valid a b ha hb W
    rw [hv] at this
    exact this
  have HF : Hid (W.heap[w.heap.size]? = some (.cells #[.float .f64 a, .float .f64 b] 24 (0, 0)) ∧ Below w.heap.size w W ∧ Tab32 w ∧ Ie.Tab w) := ⟨hF, hBW, hT, hJ⟩
  have kk := kS W (hT.later hBW) (Tab.later hJ hBW)
  clear hF hBW hT hJ hv hS kS
  go_enter Tryz.func4, Tryz.ntmps4
  go_upto_region 1 with fail
  rw [← hW]
  clear hW
  go_wp2_with fail
  refine kk.mono ?_
  rintro r w1 ⟨s1, ao1, n1, cp1, e1, s2, ao2, n2, cp2, e2, rfl, p1, p2, hb1⟩
  clear kk c0 c1
  obtain ⟨V, hV⟩ : ∃ V, V = (w1.alloc (.cells #[.bool s1, .slice ao1 n1 cp1, .int .i64 e1] 28)).alloc (.cells #[.bool s2, .slice ao2 n2 cp2, .int .i64 e2] 28) := ⟨_, rfl⟩
  obtain ⟨y1, y2, y3, y4⟩ := two_new _ _ hV
  have hB1 : Below w.heap.size w w1 := HF.out.2.1.trans (hb1.mono HF.out.2.1.size)
  have hBV : Below w.heap.size w V := hB1.trans (y4.mono hB1.size)
  have hFV : V.heap[w.heap.size]? = some (.cells #[.float .f64 a, .float .f64 b] 24 (0, 0)) := box_later (box_later HF.out.1 hb1 (lt_of_box HF.out.1)) y4 (by have := hb1.size; have := lt_of_box HF.out.1; omega)
  have c0 : V.cell? ⟨w.heap.size, 0, none⟩ = some (.float .f64 a) := by simp [World.cell?, hFV]
  have c1 : V.cell? ⟨w.heap.size, 1, none⟩ = some (.float .f64 b) := by simp [World.cell?, hFV]
  have q1 := p1.later y4
  have q2 := p2.later y4
  have HX : Hid (V.heap[w.heap.size]? = some (.cells #[.float .f64 a, .float .f64 b] 24 (0, 0)) ∧ V.heap[w1.heap.size]? = some (.cells #[.bool s1, .slice ao1 n1 cp1, .int .i64 e1] 28 (0, 0)) ∧ V.heap[w1.heap.size + 1]? = some (.cells #[.bool s2, .slice ao2 n2 cp2, .int .i64 e2] 28 (0, 0)) ∧ PN V (.agg #[.bool s1, .slice ao1 n1 cp1, .int .i64 e1]) (un P 0) ∧ PN V (.agg #[.bool s2, .slice ao2 n2 cp2, .int .i64 e2]) (un (Qd : Int) 0) ∧ Below w.heap.size w V) := ⟨hFV, y1, y2, q1, q2, hBV⟩
  have kk := HK.out V
  clear y1 y2 y3 y4 hB1 hBV hFV p1 p2 hb1 q1 q2
  go_upto_region 2 with fail
  rw [← hV]
  clear hV
  generalize w1.heap.size = g3 at *
  go_wp2_with fail
  refine kk.mono ?_
  rintro r w2 ⟨rfl, hb2⟩
  clear kk c0 c1
  obtain ⟨m0, m3, m4, q1, q2, hBV⟩ := HX.out
  have HX2 : Hid (w2.heap[w.heap.size]? = some (.cells #[.float .f64 a, .float .f64 b] 24 (0, 0)) ∧ w2.heap[g3]? = some (.cells #[.bool s1, .slice ao1 n1 cp1, .int .i64 e1] 28 (0, 0)) ∧ w2.heap[g3 + 1]? = some (.cells #[.bool s2, .slice ao2 n2 cp2, .int .i64 e2] 28 (0, 0)) ∧ PN w2 (.agg #[.bool s1, .slice ao1 n1 cp1, .int .i64 e1]) (un P 0) ∧ PN w2 (.agg #[.bool s2, .slice ao2 n2 cp2, .int .i64 e2]) (un (Qd : Int) 0) ∧ Below w.heap.size w w2) := ⟨box_later m0 hb2 (lt_of_box m0), box_later m3 hb2 (lt_of_box m3), box_later m4 hb2 (lt_of_box m4), q1.later hb2, q2.later hb2, hBV.trans (hb2.mono hBV.size)⟩
  clear m0 m3 m4 q1 q2 hBV hb2 HX
  go_upto_region 4 with fail
  go_cut [6, 7] from 12 to 35 (fun p q wx => ∃ g6 g7, p = .pointer (some ⟨g6, 0, none⟩) ∧ q = .pointer (some ⟨g7, 0, none⟩) ∧ Hid (CX wx a b P Qd w.heap.size g6 g7 s1 ao1 n1 cp1 e1 s2 ao2 n2 cp2 e2 ∧ Below w.heap.size w wx))
  case first =>
    obtain ⟨m0, m3, m4, q1, q2, hB2⟩ := HX2.out
    have ld : ∀ {V : World} {g : Nat} {o : Obj}, Below w2.heap.size w2 V → w2.heap[g]? = some o → V.heap[g]? = some o := fun hb h => (hb.block _ (Array.getElem?_eq_some_iff.1 h).1).trans h
    refine zL_region follows_mixed 2 2 34 6 [[], []] [0, 1] 27 #[.bool false, .slice none 0 0, .int .i64 0] w2 _ [isV (.agg #[.bool s1, .slice ao1 n1 cp1, .int .i64 e1]), isV (.agg #[.bool s2, .slice ao2 n2 cp2, .int .i64 e2])] (by kernel_rfl) ⟨isV_stays _, isV_stays _, trivial⟩ ⟨fun _ _ _ _ _ h => h, fun _ _ _ _ _ h => h, trivial⟩ (by show 36 ≤ 138; decide) (by show 8 ≤ 138; decide) (.inl (by decide)) ?_ ?_ ?_ (fun w => Tryz.zeroValue27 w) Tryz.info27 ?_ ?_
    · intro k' hk V u h
      rcases lt2S hk with rfl | rfl
      · obtain rfl : u = _ := h
        exact ⟨_, rfl, rfl, one3 rfl rfl⟩
      · obtain rfl : u = _ := h
        exact ⟨_, rfl, rfl, one3 rfl rfl⟩
    · intro j hj o ho act V hbV hoth hdep
      rcases lt2S hj with rfl | rfl
      · obtain rfl := Option.some.inj ho
        have h0 : act.tmps[(3 : Nat)]? = some (Value.pointer (some ⟨g3, 0, none⟩)) := (hoth 3 (by omega) (by omega)).trans rfl
        have c := (cells3N (ld hbV m3)).1
        exact owp_run1 (w' := V) (v := .agg #[.bool s1, .slice ao1 n1 cp1, .int .i64 e1]) (by simp [execOp, eval_get h0, run_ldN _ 0 s1 ao1 n1 cp1 e1 V c.1 c.2.1 c.2.2]) ⟨_, rfl, rfl, Below.refl _ _⟩
      · obtain rfl := Option.some.inj ho
        have h0 : act.tmps[(4 : Nat)]? = some (Value.pointer (some ⟨g3 + 1, 0, none⟩)) := (hoth 4 (by omega) (by omega)).trans rfl
        have c := (cells3N (ld hbV m4)).1
        exact owp_run1 (w' := V) (v := .agg #[.bool s2, .slice ao2 n2 cp2, .int .i64 e2]) (by simp [execOp, eval_get h0, run_ldN _ 0 s2 ao2 n2 cp2 e2 V c.1 c.2.1 c.2.2]) ⟨_, rfl, rfl, Below.refl _ _⟩
    · intro k' hk
      rcases lt2S hk with rfl | rfl <;> exact ⟨_, rfl, rfl⟩
    · intro k' hk
      rcases lt2S hk with rfl | rfl <;> exact ⟨_, rfl, rfl⟩
    · intro u g V hbV hu hg hap
      obtain ⟨g0, cs0, x0, z0⟩ := hg 0 (by omega)
      obtain ⟨g1, cs1, x1, z1⟩ := hg 1 (by omega)
      have u0 : u 0 = .agg #[.bool s1, .slice ao1 n1 cp1, .int .i64 e1] := hu 0 (by omega)
      have u1 : u 1 = .agg #[.bool s2, .slice ao2 n2 cp2, .int .i64 e2] := hu 1 (by omega)
      have x0' : u 0 = .agg cs0 := x0
      have x1' : u 1 = .agg cs1 := x1
      rw [u0] at x0'
      rw [u1] at x1'
      obtain rfl := Value.agg.inj x0'
      obtain rfl := Value.agg.inj x1'
      have hq0 : (un (Qd : Int) 0).2.1 ≠ 0 := fun h => by have := un_sign.2.1 h; have := HS.out.1.q0; omega
      have hB : Below w.heap.size w V := hB2.trans (hbV.mono hB2.size)
      have HX : Hid (CX V a b P Qd w.heap.size (g 0) (g 1) s1 ao1 n1 cp1 e1 s2 ao2 n2 cp2 e2 ∧ Below w.heap.size w V) := ⟨⟨ha, hb, ld hbV m0, z0, z1, q1.later hbV, (q2.later hbV).dn hq0 (by have := (ok_un (p := 0) (qd_lt HS.out.1) (by unfold bU; omega) (by omega)).facts; omega), HS.out.1, HF.out.2.2.1.later hB, Tab.later HF.out.2.2.2 hB⟩, hB⟩
      clear hu hg hap x0 x1 x0' x1' z0 z1 g0 g1 m0 m3 m4 q1 q2 hB hB2 hq0
      simp only [putL, show List.range 2 = [0, 1] from rfl, show List.range 2 = [0, 1] from rfl, List.length_cons, List.length_nil, List.getD_cons_zero, List.getD_cons_succ, List.map_cons, List.map_nil, List.cons_append, List.nil_append, List.foldl_cons, List.foldl_nil, Nat.reduceLT, Nat.reduceMod, Nat.reduceDiv, Nat.reduceMul, Nat.reduceAdd, Nat.reduceEqDiff, reduceIte, Nat.one_ne_zero, Act.put, List.setIfInBounds_toArray, List.set_cons_zero, List.set_cons_succ]
      rw [u0, u1]
      go_wp2_with fail
      go_meet
      exact ⟨_, _, rfl, rfl, HX⟩
  case rest =>
    obtain ⟨wA, hwA⟩ : ∃ v : World, v = wc := ⟨_, rfl⟩
    subst hwA
    obtain ⟨g6, g7, rfl, rfl, HG⟩ := hcut
    clear HX2
    obtain ⟨hs2, hn2, hn2', he1, he2⟩ := HG.out.1.facts
    subst hs2
    have kk := rsgn (na := false) (ua := ao2) (un := n2) (uc := cp2) (ea := e2) (w := wA) hn2'
    rw [if_neg hn2] at kk
    simp only [Bool.false_eq_true, if_false] at kk
    obtain ⟨x0, x1, x2⟩ := (cells3N HG.out.1.m7).1
    have ne1 : ¬ e1 < 0 := by omega
    have ne2 : ¬ e2 < 0 := by omega
    go_wp2_with fail
    refine kk.mono ?_
    rintro r w3 ⟨rfl, hb3⟩
    clear kk x0 x1 x2
    have HG3 : Hid (CX w3 a b P Qd w.heap.size g6 g7 s1 ao1 n1 cp1 e1 false ao2 n2 cp2 e2 ∧ Below w.heap.size w w3) := ⟨HG.out.1.later hb3, HG.out.2.trans (hb3.mono HG.out.2.size)⟩
    obtain ⟨x0, x1, x2⟩ := (cells3N HG3.out.1.m7).1
    obtain ⟨z0, z1, z2⟩ := (cells3N HG3.out.1.m6).1
    clear hb3 HG
    go_upto_region 7 with fail
    clear x0 x1 x2 z0 z1 z2
    have va := vI_all HS.out.2
    have ml : le 18442240474082181119 a = true → mag a < 9218868437227405312 := fun h => by
      unfold le at h
      rw [show stp 18442240474082181119 = -9218868437227405311 by decide] at h
      simp only [Bool.and_eq_true, Bool.not_eq_true', decide_eq_true_eq] at h
      exact fin_ofS va.1 (by omega) (by omega)
    have mh : le b 9218868437227405311 = true → mag b < 9218868437227405312 := fun h => by
      unfold le at h
      rw [show stp 9218868437227405311 = 9218868437227405311 by decide] at h
      simp only [Bool.and_eq_true, Bool.not_eq_true', decide_eq_true_eq] at h
      exact fin_ofS va.2.1 (by omega) (by omega)
    go_cut [76] from 12 to 76 (fun v wx => v = .bool false ∧ Hid (CX wx a b P Qd w.heap.size g6 g7 s1 ao1 n1 cp1 e1 false ao2 n2 cp2 e2 ∧ Below w.heap.size w wx))
    case first =>
      cases hl : le 18442240474082181119 a <;> cases hh : le b 9218868437227405311
      · refine rg7_ff a b P Qd w.heap.size g6 g7 s1 ao1 n1 cp1 e1 false ao2 n2 cp2 e2 w3 _ (Nat.le_refl _) rfl rfl rfl HG3.out.1 hl hh ?_
        intro u wx hbx h27
        have HX : Hid (CX wx a b P Qd w.heap.size g6 g7 s1 ao1 n1 cp1 e1 false ao2 n2 cp2 e2 ∧ Below w.heap.size w wx) := ⟨HG3.out.1.later hbx, HG3.out.2.trans (hbx.mono HG3.out.2.size)⟩
        clear hbx
        simp only [putL, show List.range 28 = [0, 1, 2, 3, 4, 5, 6, 7, 8, 9, 10, 11, 12, 13, 14, 15, 16, 17, 18, 19, 20, 21, 22, 23, 24, 25, 26, 27] from rfl, show List.range 2 = [0, 1] from rfl, List.length_cons, List.length_nil, List.getD_cons_zero, List.getD_cons_succ, List.map_cons, List.map_nil, List.cons_append, List.nil_append, List.foldl_cons, List.foldl_nil, Nat.reduceLT, Nat.reduceMod, Nat.reduceDiv, Nat.reduceMul, Nat.reduceAdd, Nat.reduceEqDiff, reduceIte, Nat.one_ne_zero, Act.put, List.setIfInBounds_toArray, List.set_cons_zero, List.set_cons_succ]
        rw [h27]
        go_wp2_with fail
        go_meet
        exact ⟨rfl, HX⟩
      · refine rg7_ft a b P Qd w.heap.size g6 g7 s1 ao1 n1 cp1 e1 false ao2 n2 cp2 e2 w3 _ (Nat.le_refl _) rfl rfl rfl HG3.out.1 hl hh (mh hh) ?_
        intro u wx hbx h27
        have HX : Hid (CX wx a b P Qd w.heap.size g6 g7 s1 ao1 n1 cp1 e1 false ao2 n2 cp2 e2 ∧ Below w.heap.size w wx) := ⟨HG3.out.1.later hbx, HG3.out.2.trans (hbx.mono HG3.out.2.size)⟩
        clear hbx
        simp only [putL, show List.range 28 = [0, 1, 2, 3, 4, 5, 6, 7, 8, 9, 10, 11, 12, 13, 14, 15, 16, 17, 18, 19, 20, 21, 22, 23, 24, 25, 26, 27] from rfl, show List.range 2 = [0, 1] from rfl, List.length_cons, List.length_nil, List.getD_cons_zero, List.getD_cons_succ, List.map_cons, List.map_nil, List.cons_append, List.nil_append, List.foldl_cons, List.foldl_nil, Nat.reduceLT, Nat.reduceMod, Nat.reduceDiv, Nat.reduceMul, Nat.reduceAdd, Nat.reduceEqDiff, reduceIte, Nat.one_ne_zero, Act.put, List.setIfInBounds_toArray, List.set_cons_zero, List.set_cons_succ]
        rw [h27]
        go_wp2_with fail
        go_meet
        exact ⟨rfl, HX⟩
      · refine rg7_tf a b P Qd w.heap.size g6 g7 s1 ao1 n1 cp1 e1 false ao2 n2 cp2 e2 w3 _ (Nat.le_refl _) rfl rfl rfl HG3.out.1 hl hh (ml hl) ?_
        intro u wx hbx h27
        have HX : Hid (CX wx a b P Qd w.heap.size g6 g7 s1 ao1 n1 cp1 e1 false ao2 n2 cp2 e2 ∧ Below w.heap.size w wx) := ⟨HG3.out.1.later hbx, HG3.out.2.trans (hbx.mono HG3.out.2.size)⟩
        clear hbx
        simp only [putL, show List.range 28 = [0, 1, 2, 3, 4, 5, 6, 7, 8, 9, 10, 11, 12, 13, 14, 15, 16, 17, 18, 19, 20, 21, 22, 23, 24, 25, 26, 27] from rfl, show List.range 2 = [0, 1] from rfl, List.length_cons, List.length_nil, List.getD_cons_zero, List.getD_cons_succ, List.map_cons, List.map_nil, List.cons_append, List.nil_append, List.foldl_cons, List.foldl_nil, Nat.reduceLT, Nat.reduceMod, Nat.reduceDiv, Nat.reduceMul, Nat.reduceAdd, Nat.reduceEqDiff, reduceIte, Nat.one_ne_zero, Act.put, List.setIfInBounds_toArray, List.set_cons_zero, List.set_cons_succ]
        rw [h27]
        go_wp2_with fail
        go_meet
        exact ⟨rfl, HX⟩
      · refine rg7_tt a b P Qd w.heap.size g6 g7 s1 ao1 n1 cp1 e1 false ao2 n2 cp2 e2 w3 _ (Nat.le_refl _) rfl rfl rfl HG3.out.1 hl hh (ml hl) (mh hh) ?_
        intro u wx hbx h27
        have HX : Hid (CX wx a b P Qd w.heap.size g6 g7 s1 ao1 n1 cp1 e1 false ao2 n2 cp2 e2 ∧ Below w.heap.size w wx) := ⟨HG3.out.1.later hbx, HG3.out.2.trans (hbx.mono HG3.out.2.size)⟩
        clear hbx
        simp only [putL, show List.range 28 = [0, 1, 2, 3, 4, 5, 6, 7, 8, 9, 10, 11, 12, 13, 14, 15, 16, 17, 18, 19, 20, 21, 22, 23, 24, 25, 26, 27] from rfl, show List.range 2 = [0, 1] from rfl, List.length_cons, List.length_nil, List.getD_cons_zero, List.getD_cons_succ, List.map_cons, List.map_nil, List.cons_append, List.nil_append, List.foldl_cons, List.foldl_nil, Nat.reduceLT, Nat.reduceMod, Nat.reduceDiv, Nat.reduceMul, Nat.reduceAdd, Nat.reduceEqDiff, reduceIte, Nat.one_ne_zero, Act.put, List.setIfInBounds_toArray, List.set_cons_zero, List.set_cons_succ]
        rw [h27]
        go_wp2_with fail
        go_meet
        exact ⟨rfl, HX⟩
    case rest =>
      obtain ⟨wB, hwB⟩ : ∃ v : World, v = wc := ⟨_, rfl⟩
      subst hwB
      obtain ⟨rfl, HG⟩ := hcut
      clear HG3 ml mh
      have HVA : Hid (isNaN a = false ∧ isNaN b = false ∧ stp a ≤ stp b ∧ stp a < 9218868437227405312 ∧ -9218868437227405312 < stp b ∧ a ≠ 9223372036854775808 ∧ b ≠ 9223372036854775808) := va
      clear va
      go_wp2_with fail
      go_loopw [8] (fun ct wr => ∃ n : Nat, 1 ≤ n ∧ n ≤ 200 ∧ ct = .int .i64 (n : Int) ∧ Hid (CX wr a b P Qd w.heap.size g6 g7 s1 ao1 n1 cp1 e1 false ao2 n2 cp2 e2 ∧ Below w.heap.size w wr)) (fun ct _ => 200 - (intOf ct).toNat)
      case atStart => exact ⟨1, by omega, by omega, rfl, HG⟩
      case round =>
        obtain ⟨n, hn1, hn200, rfl, HR⟩ := hrel
        obtain ⟨cb, hcb⟩ : ∃ cb, cb = decide (n < 200 ∧ n < Qd) := ⟨_, rfl⟩
        go_upto_region 10 with fail
        go_cut [85] from 77 to 120 (fun v wx => v = .bool cb ∧ Hid (CX wx a b P Qd w.heap.size g6 g7 s1 ao1 n1 cp1 e1 false ao2 n2 cp2 e2 ∧ Below w.heap.size w wx))
        case first =>
          by_cases h2 : n < 200
          · refine rg10_t a b P Qd w.heap.size g6 g7 s1 ao1 n1 cp1 e1 false ao2 n2 cp2 e2 n wr _ (Nat.le_refl _) rfl rfl HR.out.1 h2 ?_
            intro u wx hbx h8
            have HX : Hid (CX wx a b P Qd w.heap.size g6 g7 s1 ao1 n1 cp1 e1 false ao2 n2 cp2 e2 ∧ Below w.heap.size w wx) := ⟨HR.out.1.later hbx, HR.out.2.trans (hbx.mono HR.out.2.size)⟩
            have e : decide ((n : Int) < (Qd : Int)) = cb := by
              rw [hcb]
              exact decide_eq_decide.2 (by omega)
            rw [e] at h8
            clear hbx e
            simp only [putL, show List.range 9 = [0, 1, 2, 3, 4, 5, 6, 7, 8] from rfl, show List.range 2 = [0, 1] from rfl, List.length_cons, List.length_nil, List.getD_cons_zero, List.getD_cons_succ, List.map_cons, List.map_nil, List.cons_append, List.nil_append, List.foldl_cons, List.foldl_nil, Nat.reduceLT, Nat.reduceMod, Nat.reduceDiv, Nat.reduceMul, Nat.reduceAdd, Nat.reduceEqDiff, reduceIte, Nat.one_ne_zero, Act.put, List.setIfInBounds_toArray, List.set_cons_zero, List.set_cons_succ]
            rw [h8]
            go_wp2_with fail
            go_meet
            exact ⟨rfl, HX⟩
          · refine rg10_f a b P Qd w.heap.size g6 g7 s1 ao1 n1 cp1 e1 false ao2 n2 cp2 e2 n wr _ (Nat.le_refl _) rfl rfl HR.out.1 (by omega) ?_
            intro u wx hbx h8
            have HX : Hid (CX wx a b P Qd w.heap.size g6 g7 s1 ao1 n1 cp1 e1 false ao2 n2 cp2 e2 ∧ Below w.heap.size w wx) := ⟨HR.out.1.later hbx, HR.out.2.trans (hbx.mono HR.out.2.size)⟩
            have e : cb = false := by rw [hcb]; exact decide_eq_false (fun h => h2 h.1)
            rw [← e] at h8
            clear hbx
            simp only [putL, show List.range 9 = [0, 1, 2, 3, 4, 5, 6, 7, 8] from rfl, show List.range 2 = [0, 1] from rfl, List.length_cons, List.length_nil, List.getD_cons_zero, List.getD_cons_succ, List.map_cons, List.map_nil, List.cons_append, List.nil_append, List.foldl_cons, List.foldl_nil, Nat.reduceLT, Nat.reduceMod, Nat.reduceDiv, Nat.reduceMul, Nat.reduceAdd, Nat.reduceEqDiff, reduceIte, Nat.one_ne_zero, Act.put, List.setIfInBounds_toArray, List.set_cons_zero, List.set_cons_succ]
            rw [h8]
            go_wp2_with fail
            go_meet
            exact ⟨rfl, HX⟩
        case rest =>
          obtain ⟨wD, hwD⟩ : ∃ v : World, v = wc := ⟨_, rfl⟩
          subst hwD
          obtain ⟨rfl, HD⟩ := hcut
          clear HR
          cases cb
          · clear hcb
            obtain ⟨c0, c1, zi0, zi1⟩ := IvB.later (show IvB wD w.heap.size a b from HD.out.1.m0) (Below.refl _ _)
            have oe := ord_eq a b ha hb
            cases hE : eq a b
            · rw [hE] at oe
              have kk := works8 wD HD.out.1.tb.1 HD.out.1.tb.2
              go_wp2_with fail
              refine kk.mono ?_
              rintro r w9 ⟨rfl, hb9⟩
              have HX : Hid (Below w.heap.size w w9) := HD.out.2.trans (hb9.mono HD.out.2.size)
              clear kk hb9 c0 c1 zi0 zi1
              go_wp2_with fail
              go_ret
              exact ⟨rfl, HX.out⟩
            · rw [hE] at oe
              have heq : P * (kU : Int) = sU a * (Qd : Int) := by
                obtain ⟨na, nb, v1, v2, v3, v4, v5⟩ := HVA.out
                unfold eq at hE
                simp only [Bool.and_eq_true, Bool.not_eq_true', decide_eq_true_eq] at hE
                have hab : a = b := stp_inj ha hb hE.2 v4 v5
                have fa : mag a < 9218868437227405312 := fin_ofS na (by omega) (by omega)
                have l1 := HS.out.1.lo fa
                have l2 := HS.out.1.hi (by rw [← hab]; exact fa)
                rw [← hab] at l2
                omega
              go_upto_region 21 with fail
              refine rg21 a b P Qd w.heap.size g6 g7 s1 ao1 n1 cp1 e1 false ao2 n2 cp2 e2 wD _ (Nat.le_refl _) rfl rfl rfl HD.out.1 heq ?_
              intro u wx hbx h11
              have HX : Hid (Below w.heap.size w wx) := HD.out.2.trans (hbx.mono HD.out.2.size)
              clear hbx heq c0 c1 zi0 zi1
              simp only [putL, show List.range 12 = [0, 1, 2, 3, 4, 5, 6, 7, 8, 9, 10, 11] from rfl, show List.range 2 = [0, 1] from rfl, List.length_cons, List.length_nil, List.getD_cons_zero, List.getD_cons_succ, List.map_cons, List.map_nil, List.cons_append, List.nil_append, List.foldl_cons, List.foldl_nil, Nat.reduceLT, Nat.reduceMod, Nat.reduceDiv, Nat.reduceMul, Nat.reduceAdd, Nat.reduceEqDiff, reduceIte, Nat.one_ne_zero, Act.put, List.setIfInBounds_toArray, List.set_cons_zero, List.set_cons_succ]
              rw [h11]
              go_wp2_with fail
              go_ret
              exact ⟨rfl, HX.out⟩
          · have hnq : n < 200 ∧ n < Qd := of_decide_eq_true hcb.symm
            clear hcb
            obtain ⟨fa, fb, mn⟩ := HS.out.1.mn n hn1 hnq.2
            have HM : Hid (∀ m : Int, sU a * n ≤ m * kU → ¬ m * kU ≤ sU b * n) := mn
            obtain ⟨c0, c1, zi0, zi1⟩ := IvB.later (show IvB wD w.heap.size a b from HD.out.1.m0) (Below.refl _ _)
            have o1 := ord_lt a 18442240474082181119 ha (by omega)
            have o2 := ord_gt b 9218868437227405311 hb (by omega)
            have e1' : lt a 18442240474082181119 = false := by
              unfold lt
              rw [show stp 18442240474082181119 = -9218868437227405311 by decide, stp_magS a, decide_eq_false, Bool.and_false]
              split <;> omega
            have e2' : lt 9218868437227405311 b = false := by
              unfold lt
              rw [show stp 9218868437227405311 = 9218868437227405311 by decide, stp_magS b, decide_eq_false, Bool.and_false]
              split <;> omega
            rw [e1'] at o1
            rw [e2'] at o2
            have kk := dfloatU ha wD
            clear mn e1' e2' fa fb
            go_wp2_with fail
            refine kk.mono ?_
            rintro r w4 ⟨A, rfl, hA, hb4⟩
            obtain ⟨sa, aoa, na, cpa, ea, rfl⟩ := hA.shape
            clear kk c0 c1 zi0 zi1 o1 o2
            have H4 : Hid (DN w4 (.agg #[.bool sa, .slice aoa na cpa, .int .i64 ea]) (un (sU a) 1074) ∧ CX w4 a b P Qd w.heap.size g6 g7 s1 ao1 n1 cp1 e1 false ao2 n2 cp2 e2 ∧ Below w.heap.size w w4) := ⟨hA, HD.out.1.later hb4, HD.out.2.trans (hb4.mono HD.out.2.size)⟩
            clear hA hb4 HD
            have kk := dwholeU (n := (n : Int)) (by omega) w4
            go_wp2_with fail
            refine kk.mono ?_
            rintro r w5 ⟨A, rfl, hA, hb5⟩
            obtain ⟨sb, aob, nb, cpb, eb, rfl⟩ := hA.shape
            clear kk
            have H5 : Hid (CX w5 a b P Qd w.heap.size g6 g7 s1 ao1 n1 cp1 e1 false ao2 n2 cp2 e2 ∧ Below w.heap.size w w5) := ⟨H4.out.2.1.later hb5, H4.out.2.2.trans (hb5.mono H4.out.2.2.size)⟩
            have kk := dtimesU (sU_lt a) (n_lt (n := n) (by omega)) bU_le1 bU_le1 (H4.out.1.later hb5) hA
            clear hA hb5 H4
            go_wp2_with fail
            refine kk.mono ?_
            rintro r w6 ⟨A, rfl, hA, hb6⟩
            obtain ⟨sc, aoc, nc, cpc, ec, rfl⟩ := hA.shape
            clear kk
            obtain ⟨X, hX⟩ : ∃ X : Int, X = sU a * (n : Int) := ⟨_, rfl⟩
            have hXl : X.natAbs < 2 ^ (bU + bU) := by rw [hX]; exact abs_mul (sU_lt a) (n_lt (by omega))
            rw [← hX] at hA
            obtain ⟨V6, hV6⟩ : ∃ V6, V6 = w6.alloc (.cells #[.bool sc, .slice aoc nc cpc, .int .i64 ec] 27) := ⟨_, rfl⟩
            have hbV : Below w6.heap.size w6 V6 := by rw [hV6]; exact (Below.refl _ _).alloc (Nat.le_refl _) _
            have n6 : V6.heap[w6.heap.size]? = some (.cells #[.bool sc, .slice aoc nc cpc, .int .i64 ec] 27 (0, 0)) := by rw [hV6]; exact heap_alloc_new _ _
            obtain ⟨x0, x1, x2⟩ := (cells3N n6).1
            have hb56 : Below w5.heap.size w5 V6 := hb6.trans (hbV.mono hb6.size)
            have H6 : Hid (CX V6 a b P Qd w.heap.size g6 g7 s1 ao1 n1 cp1 e1 false ao2 n2 cp2 e2 ∧ Below w.heap.size w V6 ∧ X = sU a * (n : Int) ∧ X.natAbs < 2 ^ (bU + bU)) := ⟨H5.out.1.later hb56, H5.out.2.trans (hb56.mono H5.out.2.size), hX, hXl⟩
            have kk := dcutU hXl bU_le (hA.later hbV)
            clear hA hb6 H5 hX hXl hbV n6 hb56
            go_upto_region 15 with fail
            rw [← hV6]
            clear hV6
            generalize w6.heap.size = g9 at *
            go_wp2_with fail
            refine kk.mono ?_
            rintro r w7 ⟨s3, ao3, n3, cp3, e3, ex, rfl, hdv, hA, hb7⟩
            clear kk x0 x1 x2
            obtain ⟨V7, hV7⟩ : ∃ V7, V7 = w7.alloc (.cells #[.bool s3, .slice ao3 n3 cp3, .int .i64 e3] 27) := ⟨_, rfl⟩
            have hbV : Below w7.heap.size w7 V7 := by rw [hV7]; exact (Below.refl _ _).alloc (Nat.le_refl _) _
            have mm : V7.heap[w7.heap.size]? = some (.cells #[.bool s3, .slice ao3 n3 cp3, .int .i64 e3] 27 (0, 0)) := by rw [hV7]; exact heap_alloc_new _ _
            have dm := hA.later hbV
            have hb67 : Below V6.heap.size V6 V7 := hb7.trans (hbV.mono hb7.size)
            have cx7 := H6.out.1.later hb7
            have hg0 := lt_of_box cx7.m0
            have hg6 := lt_of_box cx7.m6
            have hg7 := lt_of_box cx7.m7
            have hgw : w.heap.size ≤ w7.heap.size := (H6.out.2.1.trans (hb7.mono H6.out.2.1.size)).size
            have H7 : Hid (CX V7 a b P Qd w.heap.size g6 g7 s1 ao1 n1 cp1 e1 false ao2 n2 cp2 e2 ∧ Below w.heap.size w V7 ∧ X = sU a * (n : Int) ∧ X.natAbs < 2 ^ (bU + bU) ∧ (ex = true → (kU : Int) ∣ X) ∧ V7.heap[w7.heap.size]? = some (.cells #[.bool s3, .slice ao3 n3 cp3, .int .i64 e3] 27 (0, 0)) ∧ DN V7 (.agg #[.bool s3, .slice ao3 n3 cp3, .int .i64 e3]) (un (X / (kU : Int)) 0) ∧ w.heap.size < w7.heap.size ∧ g6 < w7.heap.size ∧ g7 < w7.heap.size ∧ w.heap.size ≤ w7.heap.size) := ⟨H6.out.1.later hb67, H6.out.2.1.trans (hb67.mono H6.out.2.1.size), H6.out.2.2.1, H6.out.2.2.2, hdv, mm, dm, hg0, hg6, hg7, hgw⟩
            clear hdv hA hb7 H6 hbV mm dm hb67 cx7 hg0 hg6 hg7 hgw
            cases ex
            · go_upto_region 17 with fail
              rw [← hV7]
              clear hV7
              generalize w7.heap.size = gm at *
              obtain ⟨cx, BB, hX, hXl, -, mm, dm, hg0, hg6, hg7, hgw⟩ := H7.out
              refine rg17 a b P Qd w.heap.size g6 g7 s1 ao1 n1 cp1 e1 false ao2 n2 cp2 e2 gm (X / (kU : Int)) s3 ao3 n3 cp3 e3 w V7 _ (Nat.le_refl _) rfl cx hg0 hg6 hg7 hgw BB HF.out.2.2.1 HF.out.2.2.2 mm dm (div_lt hXl) ?_
              rintro u V8 BB cx ⟨s4, ao4, n4, cp4, e4, mm, dm⟩
              have HL : sU b * (n : Int) < (X / (kU : Int) + 1) * (kU : Int) := by
                have := HM.out (X / (kU : Int) + 1) (by rw [← hX]; exact ceil_ge)
                omega
              have hMl : ((X / (kU : Int) + 1) * (kU : Int)).natAbs < 2 ^ (bU + bU + 1 + bU) := abs_mul (abs_add (div_lt hXl) (Nat.one_lt_two_pow (by unfold bU; decide))) (by rw [Int.natAbs_natCast]; exact kU_lt)
              rw [un_kU] at dm
              have H8 : Hid (CX V8 a b P Qd w.heap.size g6 g7 s1 ao1 n1 cp1 e1 false ao2 n2 cp2 e2 ∧ Below w.heap.size w V8 ∧ V8.heap[gm]? = some (.cells #[.bool s4, .slice ao4 n4 cp4, .int .i64 e4] 27 (0, 0)) ∧ DN V8 (.agg #[.bool s4, .slice ao4 n4 cp4, .int .i64 e4]) (un ((X / (kU : Int) + 1) * (kU : Int)) 1074) ∧ ((X / (kU : Int) + 1) * (kU : Int)).natAbs < 2 ^ (bU + bU + 1 + bU) ∧ sU b * (n : Int) < (X / (kU : Int) + 1) * (kU : Int)) := ⟨cx, BB, mm, dm, hMl, HL⟩
              clear cx BB mm dm hMl HL hX hXl hg0 hg6 hg7 hgw H7
              simp only [putL, show List.range 3 = [0, 1, 2] from rfl, show List.range 2 = [0, 1] from rfl, List.length_cons, List.length_nil, List.getD_cons_zero, List.getD_cons_succ, List.map_cons, List.map_nil, List.cons_append, List.nil_append, List.foldl_cons, List.foldl_nil, Nat.reduceLT, Nat.reduceMod, Nat.reduceDiv, Nat.reduceMul, Nat.reduceAdd, Nat.reduceEqDiff, reduceIte, Nat.one_ne_zero, Act.put, List.setIfInBounds_toArray, List.set_cons_zero, List.set_cons_succ]
              go_upto_region 18 with fail
              obtain ⟨cx, BB, mm, dm, hMl, HL⟩ := H8.out
              refine rg18 a b P Qd w.heap.size g6 g7 s1 ao1 n1 cp1 e1 false ao2 n2 cp2 e2 n gm (X / (kU : Int) + 1) s4 ao4 n4 cp4 e4 V8 _ (Nat.le_refl _) rfl rfl rfl cx (by omega) mm dm hMl HL ?_
              intro u wx hbx h8
              have HX : Hid (CX wx a b P Qd w.heap.size g6 g7 s1 ao1 n1 cp1 e1 false ao2 n2 cp2 e2 ∧ Below w.heap.size w wx) := ⟨cx.later hbx, BB.trans (hbx.mono BB.size)⟩
              clear hbx BB
              simp only [putL, show List.range 9 = [0, 1, 2, 3, 4, 5, 6, 7, 8] from rfl, show List.range 2 = [0, 1] from rfl, List.length_cons, List.length_nil, List.getD_cons_zero, List.getD_cons_succ, List.map_cons, List.map_nil, List.cons_append, List.nil_append, List.foldl_cons, List.foldl_nil, Nat.reduceLT, Nat.reduceMod, Nat.reduceDiv, Nat.reduceMul, Nat.reduceAdd, Nat.reduceEqDiff, reduceIte, Nat.one_ne_zero, Act.put, List.setIfInBounds_toArray, List.set_cons_zero, List.set_cons_succ]
              rw [h8]
              go_wp2_with fail
              go_roundw
              case rel => exact ⟨n + 1, by omega, by omega, by simp, HX⟩
              case measure => simp [intOf]; omega
              
            · go_upto_region 18 with fail
              rw [← hV7]
              clear hV7
              generalize w7.heap.size = gm at *
              obtain ⟨cx, BB, hX, hXl, hdv, mm, dm, hg0, hg6, hg7, hgw⟩ := H7.out
              have ce := ceil_eq (hdv (by trivial))
              have HL : sU b * (n : Int) < X / (kU : Int) * (kU : Int) := by
                have := HM.out (X / (kU : Int)) (by rw [← hX, ce]; exact Int.le_refl _)
                omega
              rw [un_kU] at dm
              refine rg18 a b P Qd w.heap.size g6 g7 s1 ao1 n1 cp1 e1 false ao2 n2 cp2 e2 n gm (X / (kU : Int)) s3 ao3 n3 cp3 e3 V7 _ (Nat.le_refl _) rfl rfl rfl cx (by omega) mm dm (Nat.lt_of_lt_of_le (by rw [ce]; exact hXl) (Nat.pow_le_pow_right (by decide) (by omega))) HL ?_
              intro u wx hbx h8
              have HX : Hid (CX wx a b P Qd w.heap.size g6 g7 s1 ao1 n1 cp1 e1 false ao2 n2 cp2 e2 ∧ Below w.heap.size w wx) := ⟨cx.later hbx, BB.trans (hbx.mono BB.size)⟩
              clear hbx BB
              simp only [putL, show List.range 9 = [0, 1, 2, 3, 4, 5, 6, 7, 8] from rfl, show List.range 2 = [0, 1] from rfl, List.length_cons, List.length_nil, List.getD_cons_zero, List.getD_cons_succ, List.map_cons, List.map_nil, List.cons_append, List.nil_append, List.foldl_cons, List.foldl_nil, Nat.reduceLT, Nat.reduceMod, Nat.reduceDiv, Nat.reduceMul, Nat.reduceAdd, Nat.reduceEqDiff, reduceIte, Nat.one_ne_zero, Act.put, List.setIfInBounds_toArray, List.set_cons_zero, List.set_cons_succ]
              rw [h8]
              go_wp2_with fail
              go_roundw
              case rel => exact ⟨n + 1, by omega, by omega, by simp, HX⟩
              case measure => simp [intOf]; omega
              
theorem spanSimple_ok (a b : Nat) (w : World) (ha : a < 18446744073709551616) (hb : b < 18446744073709551616) (hT : Tab32 w) (hJ : Ie.Tab w) :
    Calls Tryz.prog 4 #[.agg #[.float .f64 a, .float .f64 b]] w fun r w' => r = .returned (.bool true) ∧ Below w.heap.size w w' := by
  cases hv : vI a b
  · exact ssimple_no a b w ha hb hv hT hJ
  · obtain ⟨P, Q, hS, k⟩ := psimple_ok ha hb hv
    exact ssimple_v a b P Q w ha hb hv hS (fun W h1 h2 => k W h1 h2) hT hJ
end Go.Proofs.YtgmpcpeminjpbaaGreatDoor
