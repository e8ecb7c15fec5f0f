/- Own work: contracts of the program's functions, part 7: CNK CNL CNM CNN CNO. -/
import Derived.Test.YtcepigknibdpeaaA6
import Derived.WalkKit
import Derived.Laws.FloatArith
import Derived.WalkSpells
import Derived.WalkLawsBesides

/- math.Ldexp at two floats. -/
namespace Go.Proofs.Ytcepigknibdpeaa
set_option linter.unusedVariables false
set_option linter.unusedSimpArgs false
open Go.RowKit

theorem run_bitsK (a : Nat) (w : World) : (callFunc 18 #[.float .f64 a]).run Try.prog w = .ok (.value (.int .u64 a)) w :=
  run_callFunc_extern Try.func18 (e := Extern.MathFloatBits.float64bits) (by kernel_rfl) (by kernel_rfl) (by kernel_rfl) (by kernel_rfl) #[.float .f64 a] w
theorem run_fromK (a : Int) (w : World) : (callFunc 40 #[.int .u64 a]).run Try.prog w = .ok (.value (.float .f64 a.toNat)) w :=
  run_callFunc_extern Try.func40 (e := Extern.MathFloatBits.float64frombits) (by kernel_rfl) (by kernel_rfl) (by kernel_rfl) (by kernel_rfl) #[.int .u64 a] w
set_option maxHeartbeats 4000000 in
set_option maxRecDepth 200000 in
theorem abs0 (w : World) : Calls Try.prog 83 #[.float .f64 4843940237547941144] w fun e w' => e = .returned (.float .f64 4843940237547941144) ∧ w' = w := by
  have hb := run_bitsK
  have hf := run_fromK
  have h1 : bits BinOp.andNot IntKind.u64 4843940237547941144 9223372036854775808 = 4843940237547941144 := by decide +kernel
  go_enter Try.func83, Try.ntmps83
  go_wp2
  go_ret
  exact ⟨rfl, rfl⟩
set_option maxHeartbeats 4000000 in
set_option maxRecDepth 200000 in
theorem inf0 (w : World) : Calls Try.prog 66 #[.float .f64 4843940237547941144, .int .i64 0] w fun e w' => e = .returned (.bool false) ∧ w' = w := by
  go_enter Try.func66, Try.ntmps66
  go_wp2_with (go_at_call 83; refine (abs0 _).mono ?_; rintro e w' ⟨rfl, rfl⟩)
  go_ret
  exact ⟨rfl, rfl⟩
set_option maxHeartbeats 4000000 in
set_option maxRecDepth 200000 in
theorem nan0 (w : World) : Calls Try.prog 92 #[.float .f64 4843940237547941144] w fun e w' => e = .returned (.bool false) ∧ w' = w := by
  go_enter Try.func92, Try.ntmps92
  go_wp2
  go_ret
  exact ⟨rfl, rfl⟩
set_option maxHeartbeats 4000000 in
set_option maxRecDepth 200000 in
theorem norm0 (w : World) : Calls Try.prog 93 #[.float .f64 4843940237547941144] w fun e w' => e = .returned (.tuple #[.float .f64 4843940237547941144, .int .i64 0]) ∧ w' = w := by
  go_enter Try.func93, Try.ntmps93
  go_wp2_with (go_at_call 83; refine (abs0 _).mono ?_; rintro e w' ⟨rfl, rfl⟩)
  refine bodyPost_ret (results_tmp2 rfl _ _ _) rfl ?_
  exact ⟨rfl, rfl⟩
set_option maxHeartbeats 4000000 in
set_option maxRecDepth 200000 in
theorem ldx0 (w : World) : Calls Try.prog 82 #[.float .f64 4843940237547941144, .int .i64 (-51)] w fun e w' => e = .returned (.float .f64 4614256656552045848) ∧ w' = w := by
  have hb := run_bitsK
  have hf := run_fromK
  have h1 : bits BinOp.andNot IntKind.u64 4843940237547941144 9218868437227405312 = 2570638124657944 := by decide +kernel
  have h2 : bits BinOp.or IntKind.u64 2570638124657944 4611686018427387904 = 4614256656552045848 := by decide +kernel
  have h3 : bits BinOp.and IntKind.i64 1075 2047 = 1075 := by decide +kernel
  have h4 := fun W : World => run_float_arith (P := Try.prog) (w := W) .mul 22 .f64 4607182418800017408 4614256656552045848 4614256656552045848 (by decide +kernel)
  go_enter Try.func82, Try.ntmps82
  go_wp2_with (first | (go_at_call 66; refine (inf0 _).mono ?_; rintro e w' ⟨rfl, rfl⟩) | (go_at_call 92; refine (nan0 _).mono ?_; rintro e w' ⟨rfl, rfl⟩) | (go_at_call 93; refine (norm0 _).mono ?_; rintro e w' ⟨rfl, rfl⟩) | go_in)
  go_ret
  exact ⟨rfl, rfl⟩
set_option maxHeartbeats 4000000 in
set_option maxRecDepth 200000 in
theorem ldexp0 (w : World) : Calls Try.prog 64 #[.float .f64 4843940237547941144, .int .i64 (-51)] w fun e w' => e = .returned (.float .f64 4614256656552045848) ∧ w' = w := by
  go_enter Try.func64, Try.ntmps64
  go_wp2_with (go_at_call 82; refine (ldx0 _).mono ?_; rintro e w' ⟨rfl, rfl⟩)
  go_ret
  exact ⟨rfl, rfl⟩
set_option maxHeartbeats 4000000 in
set_option maxRecDepth 200000 in
theorem abs1 (w : World) : Calls Try.prog 83 #[.float .f64 4843940237547941145] w fun e w' => e = .returned (.float .f64 4843940237547941145) ∧ w' = w := by
  have hb := run_bitsK
  have hf := run_fromK
  have h1 : bits BinOp.andNot IntKind.u64 4843940237547941145 9223372036854775808 = 4843940237547941145 := by decide +kernel
  go_enter Try.func83, Try.ntmps83
  go_wp2
  go_ret
  exact ⟨rfl, rfl⟩
set_option maxHeartbeats 4000000 in
set_option maxRecDepth 200000 in
theorem inf1 (w : World) : Calls Try.prog 66 #[.float .f64 4843940237547941145, .int .i64 0] w fun e w' => e = .returned (.bool false) ∧ w' = w := by
  go_enter Try.func66, Try.ntmps66
  go_wp2_with (go_at_call 83; refine (abs1 _).mono ?_; rintro e w' ⟨rfl, rfl⟩)
  go_ret
  exact ⟨rfl, rfl⟩
set_option maxHeartbeats 4000000 in
set_option maxRecDepth 200000 in
theorem nan1 (w : World) : Calls Try.prog 92 #[.float .f64 4843940237547941145] w fun e w' => e = .returned (.bool false) ∧ w' = w := by
  go_enter Try.func92, Try.ntmps92
  go_wp2
  go_ret
  exact ⟨rfl, rfl⟩
set_option maxHeartbeats 4000000 in
set_option maxRecDepth 200000 in
theorem norm1 (w : World) : Calls Try.prog 93 #[.float .f64 4843940237547941145] w fun e w' => e = .returned (.tuple #[.float .f64 4843940237547941145, .int .i64 0]) ∧ w' = w := by
  go_enter Try.func93, Try.ntmps93
  go_wp2_with (go_at_call 83; refine (abs1 _).mono ?_; rintro e w' ⟨rfl, rfl⟩)
  refine bodyPost_ret (results_tmp2 rfl _ _ _) rfl ?_
  exact ⟨rfl, rfl⟩
set_option maxHeartbeats 4000000 in
set_option maxRecDepth 200000 in
theorem ldx1 (w : World) : Calls Try.prog 82 #[.float .f64 4843940237547941145, .int .i64 (-51)] w fun e w' => e = .returned (.float .f64 4614256656552045849) ∧ w' = w := by
  have hb := run_bitsK
  have hf := run_fromK
  have h1 : bits BinOp.andNot IntKind.u64 4843940237547941145 9218868437227405312 = 2570638124657945 := by decide +kernel
  have h2 : bits BinOp.or IntKind.u64 2570638124657945 4611686018427387904 = 4614256656552045849 := by decide +kernel
  have h3 : bits BinOp.and IntKind.i64 1075 2047 = 1075 := by decide +kernel
  have h4 := fun W : World => run_float_arith (P := Try.prog) (w := W) .mul 22 .f64 4607182418800017408 4614256656552045849 4614256656552045849 (by decide +kernel)
  go_enter Try.func82, Try.ntmps82
  go_wp2_with (first | (go_at_call 66; refine (inf1 _).mono ?_; rintro e w' ⟨rfl, rfl⟩) | (go_at_call 92; refine (nan1 _).mono ?_; rintro e w' ⟨rfl, rfl⟩) | (go_at_call 93; refine (norm1 _).mono ?_; rintro e w' ⟨rfl, rfl⟩) | go_in)
  go_ret
  exact ⟨rfl, rfl⟩
set_option maxHeartbeats 4000000 in
set_option maxRecDepth 200000 in
theorem ldexp1 (w : World) : Calls Try.prog 64 #[.float .f64 4843940237547941145, .int .i64 (-51)] w fun e w' => e = .returned (.float .f64 4614256656552045849) ∧ w' = w := by
  go_enter Try.func64, Try.ntmps64
  go_wp2_with (go_at_call 82; refine (ldx1 _).mono ?_; rintro e w' ⟨rfl, rfl⟩)
  go_ret
  exact ⟨rfl, rfl⟩
end Go.Proofs.Ytcepigknibdpeaa
/- The least interval around pi. -/
namespace Go.Proofs.Ytcepigknibdpeaa
set_option linter.unusedVariables false
set_option linter.unusedSimpArgs false
open Go.RowKit

theorem run_store_fltK (P : Program) (w : World) (a : Addr) (m : Mode) (k : FloatKind) (n : Nat) : (store a (.float k n) m).run P w = stored P w a (.float k n) m := run_store P w a _ m rfl
attribute [local go_sem] run_store_fltK
def IvK (W : World) (g a b : Nat) : Prop := W.heap[g]? = some (.cells #[.float .f64 a, .float .f64 b] 24 (0, 0))
theorem IvK.lt {W : World} {g a b : Nat} (h : IvK W g a b) : g < W.heap.size := by
  unfold IvK at h
  rcases Nat.lt_or_ge g W.heap.size with h' | h'
  · exact h'
  · rw [Array.getElem?_eq_none h'] at h; cases h
theorem IvK.box {W w' : World} {g a b : Nat} (h : IvK W g a b) (hb : Below W.heap.size W w') : IvK w' g a b := (hb.block g h.lt).trans h
theorem IvK.facts {W : World} {g a b : Nat} (h : IvK W g a b) : (W.cell? ⟨g, 0, none⟩ = some (.float .f64 a) ∧ W.cell? ⟨g, 1, none⟩ = some (.float .f64 b)) ∧ W.frozen? ⟨g, 0, none⟩ = false ∧ W.frozen? ⟨g, 1, none⟩ = false := by
  unfold IvK at h
  simp [World.cell?, World.frozen?, h]
theorem IvK.set {W : World} {g a b : Nat} (h : IvK W g a b) (c d : Nat) : IvK ((W.setCell ⟨g, 0, none⟩ (.float .f64 c)).setCell ⟨g, 1, none⟩ (.float .f64 d)) g c d := by
  unfold IvK at *
  simp [World.setCell, Array.getElem?_modify, h]
theorem IvK.other {W : World} {g k a b : Nat} (h : IvK W k a b) (hk : k ≠ g) (c d : Value) : IvK ((W.setCell ⟨g, 0, none⟩ c).setCell ⟨g, 1, none⟩ d) k a b := by
  unfold IvK at *
  have h' : ¬ g = k := fun e => hk e.symm
  simp [World.setCell, Array.getElem?_modify, h', h]
theorem IvK.new (w : World) (a b : Nat) : IvK (w.alloc (.cells #[.float .f64 a, .float .f64 b] 24)) w.heap.size a b := heap_alloc_new _ _
theorem ivk_info : (Try.prog.info? 24).map (·.size) = some 2 := by kernel_rfl
theorem below_set {w W : World} {g : Nat} (h : Below w.heap.size w W) (hg : w.heap.size ≤ g) (c d : Value) : Below w.heap.size w ((W.setCell ⟨g, 0, none⟩ c).setCell ⟨g, 1, none⟩ d) := by
  refine ⟨h.os, h.tape, h.output, by simpa [World.setCell] using h.size, fun k hk => ?_⟩
  rw [← h.block k hk]
  simp [World.setCell, Array.getElem?_modify, show ¬ g = k by omega]
theorem results_ctK {P : Program} {fn : Func} {p u : Tmp} {ty : TypeId} (h : fn.results = #[.cell p ty, .tmp u]) (tmps : Array Value) (w : World) (g : Nat) (t : TypeId) (cs : Array Value) (fr : Nat × Nat) (d : TypeDesc)
    (hp : tmps.getD p undef = .pointer (some ⟨g, 0, none⟩)) (hg : w.heap[g]? = some (.cells cs t fr))
    (hu : P.underlying ty = some d) (hd : (match d with | .struct _ | .array _ _ => true | _ => false) = true) (hi : (P.info? ty).map (·.size) = some cs.size) :
    (results fn tmps).run P w = .ok (.tuple #[.agg cs, tmps.getD u undef]) w := by
  rw [results_cell_tmp h, hp]
  simp [asAddr, run_loadVar_row w g t ty cs fr d hg hu hd hi, Result.andThen]
set_option maxHeartbeats 4000000 in
set_option maxRecDepth 200000 in
theorem btight {A : Value} {x y : Nat} {w : World} (h : Bd w A x y 128) (hx : dlen x ≤ 1000000) (hy : dlen y ≤ 1000000) (h1 : x / 2 ^ 77 = 7074237752028440) (h2 : y / 2 ^ 77 = 7074237752028440) :
    Calls Try.prog 37 #[A] w fun r w' => r = .returned (.tuple #[.agg #[.float .f64 4614256656552045848, .float .f64 4614256656552045849], .bool true]) ∧ Below w.heap.size w w' := by
  obtain ⟨a1, n1, c1, a2, n2, c2, rfl, i1, i2⟩ := h
  obtain ⟨W, hW⟩ : ∃ W, W = (w.alloc (.cells #[.slice a1 n1 c1, .slice a2 n2 c2, .int .i64 128] 58)).alloc (.cells #[.float .f64 0, .float .f64 0] 24) := ⟨_, rfl⟩
  have hB0 : Below w.heap.size w (w.alloc (.cells #[.slice a1 n1 c1, .slice a2 n2 c2, .int .i64 128] 58)) := (Below.refl _ _).alloc (Nat.le_refl _) _
  have hB1 : Below (w.alloc (.cells #[.slice a1 n1 c1, .slice a2 n2 c2, .int .i64 128] 58)).heap.size (w.alloc (.cells #[.slice a1 n1 c1, .slice a2 n2 c2, .int .i64 128] 58)) W := by rw [hW]; exact (Below.refl _ _).alloc (Nat.le_refl _) _
  have hBW : Below w.heap.size w W := hB0.trans (hB1.mono hB0.size)
  have hA : BdB W w.heap.size a1 n1 c1 a2 n2 c2 128 := (BdB.new _ _ _ _ _ _ _ _).box hB1
  have hV : IvK W (w.heap.size + 1) 0 0 := by rw [hW]; have := IvK.new (w.alloc (.cells #[.slice a1 n1 c1, .slice a2 n2 c2, .int .i64 128] 58)) 0 0; simpa using this
  have HX : Hid (Below w.heap.size w W ∧ BdB W w.heap.size a1 n1 c1 a2 n2 c2 128 ∧ IvK W (w.heap.size + 1) 0 0) := ⟨hBW, hA, hV⟩
  have HI : Hid (Is W (.slice a2 n2 c2) y ∧ y / 2 ^ 77 = 7074237752028440 ∧ dlen y ≤ 1000000) := ⟨i2.later hBW, h2, hy⟩
  have k1 := bhigh (w := W) (d := 77) (i1.later hBW) hx (bl_drop h1 (by decide) (by decide)) h1 (by decide) (by decide)
  obtain ⟨⟨z0, z1, z2⟩, -⟩ := hA.facts
  clear hA hBW i1 i2 h1 h2 hB0 hB1 hV hx hy
  go_enter Try.func37, Try.ntmps37
  go_upto_region 1 with fail
  rw [← hW]
  clear hW
  go_wp2_with fail
  refine k1.mono ?_
  rintro r w2 ⟨rfl, hb2⟩
  have HX2 : Hid (Below w.heap.size w w2 ∧ BdB w2 w.heap.size a1 n1 c1 a2 n2 c2 128 ∧ IvK w2 (w.heap.size + 1) 0 0) := ⟨HX.out.1.trans (hb2.mono HX.out.1.size), HX.out.2.1.box hb2, HX.out.2.2.box hb2⟩
  have k2 := bhigh (w := w2) (d := 77) (HI.out.1.later hb2) HI.out.2.2 (bl_drop HI.out.2.1 (by decide) (by decide)) HI.out.2.1 (by decide) (by decide)
  clear k1 hb2 z0 z1 z2 HX HI
  obtain ⟨⟨z0, z1, z2⟩, -⟩ := HX2.out.2.1.facts
  go_wp2_with fail
  refine k2.mono ?_
  rintro r w3 ⟨rfl, hb3⟩
  have HX3 : Hid (Below w.heap.size w w3 ∧ BdB w3 w.heap.size a1 n1 c1 a2 n2 c2 128 ∧ IvK w3 (w.heap.size + 1) 0 0) := ⟨HX2.out.1.trans (hb3.mono HX2.out.1.size), HX2.out.2.1.box hb3, HX2.out.2.2.box hb3⟩
  clear k2 hb3 z0 z1 z2 HX2
  obtain ⟨⟨z0, z1, z2⟩, -⟩ := HX3.out.2.1.facts
  obtain ⟨⟨y0, y1⟩, y2, y3⟩ := HX3.out.2.2.facts
  have hf0 : floatOfInt .f64 7074237752028440 = 4843940237547941144 := by decide +kernel
  have hf1 : floatOfInt .f64 7074237752028441 = 4843940237547941145 := by decide +kernel
  go_wp2_with fail
  refine (ldexp0 _).mono ?_
  rintro e w' ⟨rfl, hw⟩
  rw [hw]
  clear hw w'
  go_wp2_with fail
  refine (ldexp1 _).mono ?_
  rintro e w' ⟨rfl, hw⟩
  rw [hw]
  clear hw w'
  go_wp2_with fail
  refine bodyPost_ret (results_ctK rfl _ _ (w.heap.size + 1) 24 #[.float .f64 4614256656552045848, .float .f64 4614256656552045849] (0, 0) _ rfl (HX3.out.2.2.set _ _) Try.underlying24 rfl ivk_info) rfl ?_
  exact ⟨rfl, below_set HX3.out.1 (by omega) _ _⟩
end Go.Proofs.Ytcepigknibdpeaa
/- Tight of pi; what must come whatever the input is. -/
namespace Go.Proofs.Ytcepigknibdpeaa
set_option linter.unusedVariables false
set_option linter.unusedSimpArgs false
open Go.RowKit
attribute [local go_sem] run_store_fltK

theorem pi_drop {lo hi : Nat} (h : Brk Z0 128 lo hi (nPI * 1) ((8100 * 16 + 8100 * 4) * 1)) : lo / 2 ^ 77 = 7074237752028440 ∧ hi / 2 ^ 77 = 7074237752028440 :=
  brk_drop h (Nat.le_of_ble_eq_true (by decide +kernel)) (Nat.le_of_ble_eq_true (by decide +kernel))
set_option maxHeartbeats 4000000 in
set_option maxRecDepth 200000 in
theorem ttimes {w : World} : Calls Try.prog 17 #[.int .i64 1, .int .u64 1] w fun r w' => r = .returned (.agg #[.float .f64 4614256656552045848, .float .f64 4614256656552045849]) ∧ Below w.heap.size w w' := by
  obtain ⟨W, hW⟩ : ∃ W, W = w.alloc (.cells #[.float .f64 0, .float .f64 0] 24) := ⟨_, rfl⟩
  have HX : Hid (Below w.heap.size w W ∧ IvK W w.heap.size 0 0) := (by rw [hW]; exact ⟨(Below.refl _ _).alloc (Nat.le_refl _) _, IvK.new _ _ _⟩ : Below w.heap.size w W ∧ IvK W w.heap.size 0 0)
  go_enter Try.func17, Try.ntmps17
  go_upto_region 1 with fail
  rw [← hW]
  clear hW
  go_wp2_with fail
  go_loopw [5] (fun sp wr => sp = .int .i64 128 ∧ wr = W) (fun _ _ => 0)
  case atStart => exact ⟨rfl, rfl⟩
  case round =>
    obtain ⟨rfl, rfl⟩ := hrel
    have k1 : Calls Try.prog 33 #[.int .i64 1, .int .i64 128] wr fun r w' => OutK Z0 128 nPI (8100 * 16 + 8100 * 4) wr 128 r w' := near_k (k := 1) (p := 128) (by omega) (by omega) (by omega) (by omega)
    go_wp2_with fail
    refine k1.mono ?_
    intro r w2 hO
    obtain ⟨b1, m1, d1, b2, m2, d2, rfl, hK, hb2⟩ := hO.arg
    have k2 : Calls Try.prog 36 #[.agg #[.slice b1 m1 d1, .slice b2 m2 d2, .int .i64 128], .int .u64 1] w2 fun r w' => OutK Z0 128 (nPI * 1) ((8100 * 16 + 8100 * 4) * 1) w2 128 r w' := ktimes (n := 1) hK (sm_of (by decide +kernel) (by decide +kernel)) (by decide)
    have HX2 : Hid (Below w.heap.size w w2 ∧ IvK w2 w.heap.size 0 0) := ⟨HX.out.1.trans (hb2.mono HX.out.1.size), HX.out.2.box hb2⟩
    clear k1 hO hK hb2 HX
    go_wp2_with fail
    refine k2.mono ?_
    rintro r w3 ⟨lo, hi, hB, b3, m3, d3, b4, m4, d4, rfl, i3, i4, hb3⟩
    have hdl := hB.dl (K := 131) (Nat.le_of_ble_eq_true (by decide +kernel)) (Nat.le_of_ble_eq_true (by decide +kernel)) (by decide)
    have k3 := btight (w := w3) ⟨b3, m3, d3, b4, m4, d4, rfl, i3, i4⟩ (by omega) (by omega) (pi_drop hB).1 (pi_drop hB).2
    have HX3 : Hid (Below w.heap.size w w3 ∧ IvK w3 w.heap.size 0 0) := ⟨HX2.out.1.trans (hb3.mono HX2.out.1.size), HX2.out.2.box hb3⟩
    clear k2 hB hdl i3 i4 hb3 HX2
    go_wp2_with fail
    refine k3.mono ?_
    rintro r w4 ⟨rfl, hb4⟩
    obtain ⟨W5, hW5⟩ : ∃ W5, W5 = w4.alloc (.cells #[.float .f64 0, .float .f64 0] 24) := ⟨_, rfl⟩
    have hV5 : IvK W5 w4.heap.size 0 0 := by rw [hW5]; exact IvK.new _ _ _
    have hb5 : Below w4.heap.size w4 W5 := by rw [hW5]; exact (Below.refl _ _).alloc (Nat.le_refl _) _
    have hb35 : Below w3.heap.size w3 W5 := hb4.trans (hb5.mono hb4.size)
    have HX5 : Hid (Below w.heap.size w W5 ∧ IvK W5 w.heap.size 0 0 ∧ w.heap.size < w4.heap.size) := ⟨HX3.out.1.trans (hb35.mono HX3.out.1.size), HX3.out.2.box hb35, Nat.lt_of_lt_of_le HX3.out.2.lt hb4.size⟩
    have HV5 : Hid (IvK W5 w4.heap.size 0 0) := hV5
    obtain ⟨⟨y0, y1⟩, y2, y3⟩ := hV5.facts
    clear k3 hb4 hb5 hb35 HX3 hV5
    go_upto_region 4 with (rw [← hW5]; clear hW5)
    obtain ⟨W6, hW6⟩ : ∃ W6, W6 = (W5.setCell ⟨w4.heap.size, 0, none⟩ (.float .f64 4614256656552045848)).setCell ⟨w4.heap.size, 1, none⟩ (.float .f64 4614256656552045849) := ⟨_, rfl⟩
    have HX6 : Hid (Below w.heap.size w W6 ∧ IvK W6 w.heap.size 0 0) := (by rw [hW6]; exact ⟨below_set HX5.out.1 (by have := HX5.out.2.2; omega) _ _, HX5.out.2.1.other (by have := HX5.out.2.2; omega) _ _⟩ : Below w.heap.size w W6 ∧ IvK W6 w.heap.size 0 0)
    have hV6 : IvK W6 w4.heap.size 4614256656552045848 4614256656552045849 := by rw [hW6]; exact HV5.out.set _ _
    rw [← hW6]
    clear hW6 y0 y1 y2 y3 HX5 HV5
    obtain ⟨⟨y0, y1⟩, y2, y3⟩ := hV6.facts
    obtain ⟨⟨x0, x1⟩, x2, x3⟩ := HX6.out.2.facts
    clear hV6
    go_wp2_with fail
    refine bodyPost_ret (results_cell_row rfl _ _ w.heap.size 24 #[.float .f64 4614256656552045848, .float .f64 4614256656552045849] (0, 0) _ rfl (HX6.out.2.set _ _) Try.underlying24 rfl ivk_info) rfl ?_
    exact ⟨rfl, below_set HX6.out.1 (Nat.le_refl _) _ _⟩
set_option maxHeartbeats 4000000 in
set_option maxRecDepth 200000 in
theorem tight_1 {w : World} : Calls Try.prog 5 #[.int .i64 1] w fun r w' => r = .returned (.tuple #[.agg #[.float .f64 4614256656552045848, .float .f64 4614256656552045849], .int .i64 0]) ∧ Below w.heap.size w w' := by
  obtain ⟨W, hW⟩ : ∃ W, W = w.alloc (.cells #[.float .f64 0, .float .f64 0] 24) := ⟨_, rfl⟩
  have HX : Hid (Below w.heap.size w W ∧ IvK W w.heap.size 0 0) := (by rw [hW]; exact ⟨(Below.refl _ _).alloc (Nat.le_refl _) _, IvK.new _ _ _⟩ : Below w.heap.size w W ∧ IvK W w.heap.size 0 0)
  have k1 : Calls Try.prog 16 #[.int .i64 1] W fun r w' => r = .returned (.bool true) ∧ w' = W := isK (k := 1)
  go_enter Try.func5, Try.ntmps5
  go_upto_region 1 with fail
  rw [← hW]
  clear hW
  go_wp2_with (go_at_call 16; refine k1.mono ?_; rintro r wz ⟨rfl, hwz⟩; have hwz := hwz.symm; subst hwz)
  refine (ttimes (w := W)).mono ?_
  rintro r w2 ⟨rfl, hb2⟩
  have HX2 : Hid (Below w.heap.size w w2 ∧ IvK w2 w.heap.size 0 0) := ⟨HX.out.1.trans (hb2.mono HX.out.1.size), HX.out.2.box hb2⟩
  clear k1 hb2 HX
  obtain ⟨⟨x0, x1⟩, x2, x3⟩ := HX2.out.2.facts
  go_wp2_with fail
  refine bodyPost_ret (results_ctK rfl _ _ w.heap.size 24 #[.float .f64 4614256656552045848, .float .f64 4614256656552045849] (0, 0) _ rfl (HX2.out.2.set _ _) Try.underlying24 rfl ivk_info) rfl ?_
  exact ⟨rfl, below_set HX2.out.1 (Nat.le_refl _) _ _⟩
set_option maxHeartbeats 4000000 in
set_option maxRecDepth 200000 in
theorem tight_0 {w : World} : Calls Try.prog 5 #[.int .i64 0] w fun r w' => r = .returned (.tuple #[.agg #[.float .f64 0, .float .f64 0], .int .i64 1]) ∧ Below w.heap.size w w' := by
  obtain ⟨W, hW⟩ : ∃ W, W = w.alloc (.cells #[.float .f64 0, .float .f64 0] 24) := ⟨_, rfl⟩
  have HX : Hid (Below w.heap.size w W ∧ IvK W w.heap.size 0 0) := (by rw [hW]; exact ⟨(Below.refl _ _).alloc (Nat.le_refl _) _, IvK.new _ _ _⟩ : Below w.heap.size w W ∧ IvK W w.heap.size 0 0)
  have k1 : Calls Try.prog 16 #[.int .i64 0] W fun r w' => r = .returned (.bool false) ∧ w' = W := isK (k := 0)
  obtain ⟨⟨x0, x1⟩, x2, x3⟩ := HX.out.2.facts
  go_enter Try.func5, Try.ntmps5
  go_upto_region 1 with fail
  rw [← hW]
  clear hW
  go_wp2_with (go_at_call 16; refine k1.mono ?_; rintro r wz ⟨rfl, hwz⟩; have hwz := hwz.symm; subst hwz)
  refine bodyPost_ret (results_ctK rfl _ _ w.heap.size 24 #[.float .f64 0, .float .f64 0] (0, 0) _ rfl (HX.out.2.set _ _) Try.underlying24 rfl ivk_info) rfl ?_
  exact ⟨rfl, below_set HX.out.1 (Nat.le_refl _) _ _⟩
end Go.Proofs.Ytcepigknibdpeaa
/- What must come whatever the input is. -/
namespace Go.Proofs.Ytcepigknibdpeaa
set_option linter.unusedVariables false
set_option linter.unusedSimpArgs false
open Go.RowKit
attribute [local go_sem] run_store_fltK

theorem dig_pi {w : World} : Calls Try.prog 15 #[.int .i64 1, .int .i64 5] w fun r w' => r = .returned (.tuple #[.string ⟨#[51, 46, 49, 52, 49, 53, 57]⟩, .int .i64 0]) ∧ Below w.heap.size w w' := by
  have := dig_ok (k := 1) (n := 5) (w := w) (by omega) (by omega) (by omega)
  rw [txD_pi5] at this
  exact this
set_option maxHeartbeats 4000000 in
set_option maxRecDepth 200000 in
theorem bsure {w : World} : Calls Try.prog 14 #[] w fun r w' => r = .returned (.bool true) ∧ Below w.heap.size w w' := by
  have ho1 : (FloatKind.f64.format.order 4614256656552045848 4614256656552045848 == some Ordering.eq) = true := by decide +kernel
  have ho2 : (FloatKind.f64.format.order 4614256656552045849 4614256656552045849 == some Ordering.eq) = true := by decide +kernel
  go_enter Try.func14, Try.ntmps14
  go_wp2_with fail
  refine (dig_pi (w := w)).mono ?_
  rintro r w1 ⟨rfl, hb1⟩
  have H1 : Hid (Below w.heap.size w w1) := hb1
  clear hb1
  go_wp2_with fail
  refine (tight_1 (w := w1)).mono ?_
  rintro r w2 ⟨rfl, hb2⟩
  have H2 : Hid (Below w.heap.size w w2) := H1.out.trans (hb2.mono H1.out.size)
  clear hb2 H1
  obtain ⟨W3, hW3⟩ : ∃ W3, W3 = w2.alloc (.cells #[.float .f64 0, .float .f64 0] 24) := ⟨_, rfl⟩
  have HV3 : Hid (IvK W3 w2.heap.size 0 0 ∧ Below w.heap.size w W3) := (by rw [hW3]; exact ⟨IvK.new _ _ _, H2.out.alloc H2.out.size _⟩ : IvK W3 w2.heap.size 0 0 ∧ Below w.heap.size w W3)
  obtain ⟨⟨y0, y1⟩, y2, y3⟩ := HV3.out.1.facts
  go_upto_region 3 with (rw [← hW3]; clear hW3)
  obtain ⟨W4, hW4⟩ : ∃ W4, W4 = (W3.setCell ⟨w2.heap.size, 0, none⟩ (.float .f64 4614256656552045848)).setCell ⟨w2.heap.size, 1, none⟩ (.float .f64 4614256656552045849) := ⟨_, rfl⟩
  have HV4 : Hid (IvK W4 w2.heap.size 4614256656552045848 4614256656552045849 ∧ Below w.heap.size w W4) := (by rw [hW4]; exact ⟨HV3.out.1.set _ _, below_set HV3.out.2 H2.out.size _ _⟩ : IvK W4 w2.heap.size 4614256656552045848 4614256656552045849 ∧ Below w.heap.size w W4)
  rw [← hW4]
  clear hW4 HV3 y0 y1 y2 y3 H2
  go_wp2_with fail
  refine (tight_0 (w := W4)).mono ?_
  rintro r w5 ⟨rfl, hb5⟩
  have HV5 : Hid (IvK w5 w2.heap.size 4614256656552045848 4614256656552045849 ∧ Below w.heap.size w w5) := ⟨HV4.out.1.box hb5, HV4.out.2.trans (hb5.mono HV4.out.2.size)⟩
  clear hb5 HV4
  obtain ⟨W6, hW6⟩ : ∃ W6, W6 = w5.alloc (.cells #[.float .f64 0, .float .f64 0] 24) := ⟨_, rfl⟩
  have hb6 : Below w5.heap.size w5 W6 := by rw [hW6]; exact (Below.refl _ _).alloc (Nat.le_refl _) _
  have HV6 : Hid (IvK W6 w5.heap.size 0 0 ∧ IvK W6 w2.heap.size 4614256656552045848 4614256656552045849 ∧ Below w.heap.size w W6 ∧ w2.heap.size < w5.heap.size ∧ w.heap.size ≤ w5.heap.size) := (by
    refine ⟨?_, HV5.out.1.box hb6, HV5.out.2.trans (hb6.mono HV5.out.2.size), HV5.out.1.lt, HV5.out.2.size⟩
    rw [hW6]; exact IvK.new _ _ _ : IvK W6 w5.heap.size 0 0 ∧ IvK W6 w2.heap.size 4614256656552045848 4614256656552045849 ∧ Below w.heap.size w W6 ∧ w2.heap.size < w5.heap.size ∧ w.heap.size ≤ w5.heap.size)
  obtain ⟨⟨y0, y1⟩, y2, y3⟩ := HV6.out.1.facts
  clear hb6
  go_upto_region 4 with (rw [← hW6]; clear hW6)
  obtain ⟨W7, hW7⟩ : ∃ W7, W7 = (W6.setCell ⟨w5.heap.size, 0, none⟩ (.float .f64 0)).setCell ⟨w5.heap.size, 1, none⟩ (.float .f64 0) := ⟨_, rfl⟩
  have HV7 : Hid (IvK W7 w2.heap.size 4614256656552045848 4614256656552045849 ∧ Below w.heap.size w W7) := (by rw [hW7]; exact ⟨HV6.out.2.1.other (by have := HV6.out.2.2.2.1; omega) _ _, below_set HV6.out.2.2.1 HV6.out.2.2.2.2 _ _⟩ : IvK W7 w2.heap.size 4614256656552045848 4614256656552045849 ∧ Below w.heap.size w W7)
  rw [← hW7]
  clear hW7 HV6 HV5 y0 y1 y2 y3
  obtain ⟨⟨y0, y1⟩, y2, y3⟩ := HV7.out.1.facts
  go_wp2_with fail
  go_ret
  exact ⟨rfl, HV7.out.2⟩
end Go.Proofs.Ytcepigknibdpeaa
/- ConstsCut. -/
namespace Go.Proofs.Ytcepigknibdpeaa
set_option linter.unusedVariables false
set_option linter.unusedSimpArgs false
open Go.RowKit

theorem dig_any {k n : Int} {w : World} : Calls Try.prog 15 #[.int .i64 k, .int .i64 n] w fun r w' => ∃ s e, r = .returned (.tuple #[.string s, .int .i64 e]) ∧ Below w.heap.size w w' := by
  by_cases h : ¬ (1 ≤ k ∧ k ≤ 8) ∨ n < 0 ∨ 1000 < n
  · exact (dig_bad h).mono fun r w' ⟨e, hb⟩ => ⟨_, _, e, hb⟩
  · obtain ⟨k', rfl⟩ : ∃ k' : Nat, k = k' := ⟨k.toNat, by omega⟩
    obtain ⟨n', rfl⟩ : ∃ n' : Nat, n = n' := ⟨n.toNat, by omega⟩
    exact (dig_ok (by omega) (by omega) (by omega)).mono fun r w' ⟨e, hb⟩ => ⟨_, _, e, hb⟩
theorem pre_ext {S T : List UInt8} (h : T.take S.length = S) (hl : S.length ≤ T.length) : (⟨T.toArray⟩ : ByteArray).extract 0 S.length = ⟨S.toArray⟩ := by
  apply ByteArray.ext
  simp [ByteArray.data_extract]
  rw [h]
set_option maxHeartbeats 4000000 in
set_option maxRecDepth 200000 in
theorem cut_le {s t : ByteArray} {k n m : Int} {w : World} (hl : s.size ≤ t.size) (hp : t.extract 0 s.size = s)
    (k1 : ∀ W, Calls Try.prog 15 #[.int .i64 k, .int .i64 n] W fun r w' => r = .returned (.tuple #[.string s, .int .i64 0]) ∧ Below W.heap.size W w')
    (k2 : ∀ W, Calls Try.prog 15 #[.int .i64 k, .int .i64 m] W fun r w' => r = .returned (.tuple #[.string t, .int .i64 0]) ∧ Below W.heap.size W w') :
    Calls Try.prog 4 #[.int .i64 k, .int .i64 n, .int .i64 m] w fun r w' => r = .returned (.bool true) ∧ Below w.heap.size w w' := by
  have hl' : ¬ (t.size : Int) < (s.size : Int) := by omega
  go_enter Try.func4, Try.ntmps4
  go_wp2_with fail
  refine (k1 _).mono ?_
  rintro r w1 ⟨rfl, hb1⟩
  go_wp2_with fail
  refine (k2 _).mono ?_
  rintro r w2 ⟨rfl, hb2⟩
  have H2 : Hid (Below w.heap.size w w2) := hb1.trans (hb2.mono hb1.size)
  clear hb1 hb2
  go_wp2_with (go_at_call 14; refine bsure.mono ?_; rintro r w3 ⟨rfl, hb3⟩)
  go_ret
  exact ⟨rfl, H2.out.trans (hb3.mono H2.out.size)⟩
set_option maxHeartbeats 4000000 in
set_option maxRecDepth 200000 in
theorem cut_gt {s t : ByteArray} {k n m : Int} {w : World} (hl : t.size < s.size) (hp : s.extract 0 t.size = t)
    (k1 : ∀ W, Calls Try.prog 15 #[.int .i64 k, .int .i64 n] W fun r w' => r = .returned (.tuple #[.string s, .int .i64 0]) ∧ Below W.heap.size W w')
    (k2 : ∀ W, Calls Try.prog 15 #[.int .i64 k, .int .i64 m] W fun r w' => r = .returned (.tuple #[.string t, .int .i64 0]) ∧ Below W.heap.size W w') :
    Calls Try.prog 4 #[.int .i64 k, .int .i64 n, .int .i64 m] w fun r w' => r = .returned (.bool true) ∧ Below w.heap.size w w' := by
  have hl' : (t.size : Int) < (s.size : Int) := by omega
  have hl2 : (t.size : Int) ≤ (s.size : Int) := by omega
  go_enter Try.func4, Try.ntmps4
  go_wp2_with fail
  refine (k1 _).mono ?_
  rintro r w1 ⟨rfl, hb1⟩
  go_wp2_with fail
  refine (k2 _).mono ?_
  rintro r w2 ⟨rfl, hb2⟩
  have H2 : Hid (Below w.heap.size w w2) := hb1.trans (hb2.mono hb1.size)
  clear hb1 hb2
  go_wp2_with (go_at_call 14; refine bsure.mono ?_; rintro r w3 ⟨rfl, hb3⟩)
  go_ret
  exact ⟨rfl, H2.out.trans (hb3.mono H2.out.size)⟩
set_option maxHeartbeats 4000000 in
set_option maxRecDepth 200000 in
theorem cut_k0 {k n m : Int} {w : World} (h : k < 1)
    (k1 : ∀ W, Calls Try.prog 15 #[.int .i64 k, .int .i64 n] W fun r w' => (∃ s, r = .returned (.tuple #[.string s, .int .i64 1])) ∧ Below W.heap.size W w')
    (k2 : ∀ W, Calls Try.prog 15 #[.int .i64 k, .int .i64 m] W fun r w' => (∃ s e, r = .returned (.tuple #[.string s, .int .i64 e])) ∧ Below W.heap.size W w') :
    Calls Try.prog 4 #[.int .i64 k, .int .i64 n, .int .i64 m] w fun r w' => r = .returned (.bool true) ∧ Below w.heap.size w w' := by
  go_enter Try.func4, Try.ntmps4
  go_wp2_with fail
  refine (k1 _).mono ?_
  rintro r w1 ⟨⟨s1, rfl⟩, hb1⟩
  go_wp2_with fail
  refine (k2 _).mono ?_
  rintro r w2 ⟨⟨s2, e2, rfl⟩, hb2⟩
  have H2 : Hid (Below w.heap.size w w2) := hb1.trans (hb2.mono hb1.size)
  clear hb1 hb2 k1 k2
  go_wp2_with (go_at_call 14; refine bsure.mono ?_; rintro r w3 ⟨rfl, hb3⟩)
  all_goals go_ret
  all_goals exact ⟨rfl, H2.out.trans (hb3.mono H2.out.size)⟩
set_option maxHeartbeats 4000000 in
set_option maxRecDepth 200000 in
theorem cut_k9 {k n m : Int} {w : World} (h : 8 < k)
    (k1 : ∀ W, Calls Try.prog 15 #[.int .i64 k, .int .i64 n] W fun r w' => (∃ s, r = .returned (.tuple #[.string s, .int .i64 1])) ∧ Below W.heap.size W w')
    (k2 : ∀ W, Calls Try.prog 15 #[.int .i64 k, .int .i64 m] W fun r w' => (∃ s e, r = .returned (.tuple #[.string s, .int .i64 e])) ∧ Below W.heap.size W w') :
    Calls Try.prog 4 #[.int .i64 k, .int .i64 n, .int .i64 m] w fun r w' => r = .returned (.bool true) ∧ Below w.heap.size w w' := by
  have h0 : ¬ k < 1 := by omega
  go_enter Try.func4, Try.ntmps4
  go_wp2_with fail
  refine (k1 _).mono ?_
  rintro r w1 ⟨⟨s1, rfl⟩, hb1⟩
  go_wp2_with fail
  refine (k2 _).mono ?_
  rintro r w2 ⟨⟨s2, e2, rfl⟩, hb2⟩
  have H2 : Hid (Below w.heap.size w w2) := hb1.trans (hb2.mono hb1.size)
  clear hb1 hb2 k1 k2
  go_wp2_with (go_at_call 14; refine bsure.mono ?_; rintro r w3 ⟨rfl, hb3⟩)
  all_goals go_ret
  all_goals exact ⟨rfl, H2.out.trans (hb3.mono H2.out.size)⟩
set_option maxHeartbeats 4000000 in
set_option maxRecDepth 200000 in
theorem cut_neg_n {k n m : Int} {w : World} (hk : 1 ≤ k ∧ k ≤ 8) (hmn : min n m < 0)
    (k1 : ∀ W, Calls Try.prog 15 #[.int .i64 k, .int .i64 n] W fun r w' => (∃ s, r = .returned (.tuple #[.string s, .int .i64 1])) ∧ Below W.heap.size W w')
    (k2 : ∀ W, Calls Try.prog 15 #[.int .i64 k, .int .i64 m] W fun r w' => (∃ s e, r = .returned (.tuple #[.string s, .int .i64 e])) ∧ Below W.heap.size W w') :
    Calls Try.prog 4 #[.int .i64 k, .int .i64 n, .int .i64 m] w fun r w' => r = .returned (.bool true) ∧ Below w.heap.size w w' := by
  have g1 : ¬ k < 1 := by omega
  have g2 : ¬ 8 < k := by omega
  go_enter Try.func4, Try.ntmps4
  go_wp2_with fail
  refine (k1 _).mono ?_
  rintro r w1 ⟨⟨s1, rfl⟩, hb1⟩
  go_wp2_with fail
  refine (k2 _).mono ?_
  rintro r w2 ⟨⟨s2, e2, rfl⟩, hb2⟩
  have H2 : Hid (Below w.heap.size w w2) := hb1.trans (hb2.mono hb1.size)
  clear hb1 hb2 k1 k2
  go_wp2_with (go_at_call 14; refine bsure.mono ?_; rintro r w3 ⟨rfl, hb3⟩)
  all_goals go_ret
  all_goals exact ⟨rfl, H2.out.trans (hb3.mono H2.out.size)⟩
set_option maxHeartbeats 4000000 in
set_option maxRecDepth 200000 in
theorem cut_big_n {k n m : Int} {w : World} (hk : 1 ≤ k ∧ k ≤ 8) (hmn : 0 ≤ min n m) (hmx : 1000 < max n m)
    (k1 : ∀ W, Calls Try.prog 15 #[.int .i64 k, .int .i64 n] W fun r w' => (∃ s, r = .returned (.tuple #[.string s, .int .i64 1])) ∧ Below W.heap.size W w')
    (k2 : ∀ W, Calls Try.prog 15 #[.int .i64 k, .int .i64 m] W fun r w' => (∃ s e, r = .returned (.tuple #[.string s, .int .i64 e])) ∧ Below W.heap.size W w') :
    Calls Try.prog 4 #[.int .i64 k, .int .i64 n, .int .i64 m] w fun r w' => r = .returned (.bool true) ∧ Below w.heap.size w w' := by
  have g1 : ¬ k < 1 := by omega
  have g2 : ¬ 8 < k := by omega
  go_enter Try.func4, Try.ntmps4
  go_wp2_with fail
  refine (k1 _).mono ?_
  rintro r w1 ⟨⟨s1, rfl⟩, hb1⟩
  go_wp2_with fail
  refine (k2 _).mono ?_
  rintro r w2 ⟨⟨s2, e2, rfl⟩, hb2⟩
  have H2 : Hid (Below w.heap.size w w2) := hb1.trans (hb2.mono hb1.size)
  clear hb1 hb2 k1 k2
  go_wp2_with (go_at_call 14; refine bsure.mono ?_; rintro r w3 ⟨rfl, hb3⟩)
  all_goals go_ret
  all_goals exact ⟨rfl, H2.out.trans (hb3.mono H2.out.size)⟩
set_option maxHeartbeats 4000000 in
set_option maxRecDepth 200000 in
theorem cut_neg_m {k n m : Int} {w : World} (hk : 1 ≤ k ∧ k ≤ 8) (hmn : min n m < 0)
    (k1 : ∀ W, Calls Try.prog 15 #[.int .i64 k, .int .i64 n] W fun r w' => (∃ s, r = .returned (.tuple #[.string s, .int .i64 0])) ∧ Below W.heap.size W w')
    (k2 : ∀ W, Calls Try.prog 15 #[.int .i64 k, .int .i64 m] W fun r w' => (∃ s, r = .returned (.tuple #[.string s, .int .i64 1])) ∧ Below W.heap.size W w') :
    Calls Try.prog 4 #[.int .i64 k, .int .i64 n, .int .i64 m] w fun r w' => r = .returned (.bool true) ∧ Below w.heap.size w w' := by
  have g1 : ¬ k < 1 := by omega
  have g2 : ¬ 8 < k := by omega
  go_enter Try.func4, Try.ntmps4
  go_wp2_with fail
  refine (k1 _).mono ?_
  rintro r w1 ⟨⟨s1, rfl⟩, hb1⟩
  go_wp2_with fail
  refine (k2 _).mono ?_
  rintro r w2 ⟨⟨s2, rfl⟩, hb2⟩
  have H2 : Hid (Below w.heap.size w w2) := hb1.trans (hb2.mono hb1.size)
  clear hb1 hb2 k1 k2
  go_wp2_with (go_at_call 14; refine bsure.mono ?_; rintro r w3 ⟨rfl, hb3⟩)
  all_goals go_ret
  all_goals exact ⟨rfl, H2.out.trans (hb3.mono H2.out.size)⟩
set_option maxHeartbeats 4000000 in
set_option maxRecDepth 200000 in
theorem cut_big_m {k n m : Int} {w : World} (hk : 1 ≤ k ∧ k ≤ 8) (hmn : 0 ≤ min n m) (hmx : 1000 < max n m)
    (k1 : ∀ W, Calls Try.prog 15 #[.int .i64 k, .int .i64 n] W fun r w' => (∃ s, r = .returned (.tuple #[.string s, .int .i64 0])) ∧ Below W.heap.size W w')
    (k2 : ∀ W, Calls Try.prog 15 #[.int .i64 k, .int .i64 m] W fun r w' => (∃ s, r = .returned (.tuple #[.string s, .int .i64 1])) ∧ Below W.heap.size W w') :
    Calls Try.prog 4 #[.int .i64 k, .int .i64 n, .int .i64 m] w fun r w' => r = .returned (.bool true) ∧ Below w.heap.size w w' := by
  have g1 : ¬ k < 1 := by omega
  have g2 : ¬ 8 < k := by omega
  go_enter Try.func4, Try.ntmps4
  go_wp2_with fail
  refine (k1 _).mono ?_
  rintro r w1 ⟨⟨s1, rfl⟩, hb1⟩
  go_wp2_with fail
  refine (k2 _).mono ?_
  rintro r w2 ⟨⟨s2, rfl⟩, hb2⟩
  have H2 : Hid (Below w.heap.size w w2) := hb1.trans (hb2.mono hb1.size)
  clear hb1 hb2 k1 k2
  go_wp2_with (go_at_call 14; refine bsure.mono ?_; rintro r w3 ⟨rfl, hb3⟩)
  all_goals go_ret
  all_goals exact ⟨rfl, H2.out.trans (hb3.mono H2.out.size)⟩
theorem constsCut_ok (k n m : Int) (w : World) : Calls Try.prog 4 #[.int .i64 k, .int .i64 n, .int .i64 m] w fun r w' => r = .returned (.bool true) ∧ Below w.heap.size w w' := by
  have kb : ∀ {n : Int} W, (¬ (1 ≤ k ∧ k ≤ 8) ∨ n < 0 ∨ 1000 < n) → Calls Try.prog 15 #[.int .i64 k, .int .i64 n] W fun r w' => (∃ s, r = .returned (.tuple #[.string s, .int .i64 1])) ∧ Below W.heap.size W w' := fun W h => (dig_bad h).mono fun r w' ⟨e, hb⟩ => ⟨⟨_, e⟩, hb⟩
  have ka : ∀ {n : Int} W, Calls Try.prog 15 #[.int .i64 k, .int .i64 n] W fun r w' => (∃ s e, r = .returned (.tuple #[.string s, .int .i64 e])) ∧ Below W.heap.size W w' := fun W => dig_any.mono fun r w' ⟨s, e, h, hb⟩ => ⟨⟨s, e, h⟩, hb⟩
  by_cases hk : 1 ≤ k ∧ k ≤ 8
  · by_cases hn : n < 0 ∨ 1000 < n
    · by_cases hmn : min n m < 0
      · exact cut_neg_n hk hmn (fun W => kb W (.inr hn)) ka
      · exact cut_big_n hk (by omega) (by omega) (fun W => kb W (.inr hn)) ka
    · obtain ⟨k', rfl⟩ : ∃ k' : Nat, k = k' := ⟨k.toNat, by omega⟩
      obtain ⟨n', rfl⟩ : ∃ n' : Nat, n = n' := ⟨n.toNat, by omega⟩
      have k1 := fun W => dig_ok (k := k') (n := n') (w := W) (by omega) (by omega) (by omega)
      by_cases hm : m < 0 ∨ 1000 < m
      · have k0 : ∀ W, Calls Try.prog 15 #[.int .i64 (k' : Int), .int .i64 (n' : Int)] W fun r w' => (∃ s, r = .returned (.tuple #[.string s, .int .i64 0])) ∧ Below W.heap.size W w' := fun W => (k1 W).mono fun r w' ⟨e, hb⟩ => ⟨⟨_, e⟩, hb⟩
        by_cases hmn : min (n' : Int) m < 0
        · exact cut_neg_m hk hmn k0 (fun W => kb W (.inr hm))
        · exact cut_big_m hk (by omega) (by omega) k0 (fun W => kb W (.inr hm))
      · obtain ⟨m', rfl⟩ : ∃ m' : Nat, m = m' := ⟨m.toNat, by omega⟩
        have k2 := fun W => dig_ok (k := k') (n := m') (w := W) (by omega) (by omega) (by omega)
        rcases Nat.lt_or_ge m' n' with h | h
        · obtain ⟨t1, t2, t3⟩ := txD_take (k := k') (Nat.le_of_lt h)
          have t4 := t3 (by omega)
          exact cut_gt (by simpa [ByteArray.size] using t4) (by have := pre_ext t1 t2; simpa [ByteArray.size] using this) k1 k2
        · obtain ⟨t1, t2, t3⟩ := txD_take (k := k') h
          exact cut_le (by simpa [ByteArray.size] using t2) (by have := pre_ext t1 t2; simpa [ByteArray.size] using this) k1 k2
  · rcases (show k < 1 ∨ 8 < k by omega) with h | h
    · exact cut_k0 h (fun W => kb W (.inl hk)) ka
    · exact cut_k9 h (fun W => kb W (.inl hk)) ka
end Go.Proofs.Ytcepigknibdpeaa
