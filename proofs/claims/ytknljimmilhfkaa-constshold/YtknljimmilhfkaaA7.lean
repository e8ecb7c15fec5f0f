/- Own work: contracts of the program's functions, part 7: CNK CNL CNM CNN CNO CNQ CNP. -/
import Derived.Test.YtknljimmilhfkaaA6
import Derived.WalkKit
import Derived.Laws.FloatArith
import Derived.WalkSpells
import Derived.WalkLawsBesides

/- math.Ldexp at two floats. -/
namespace Go.Proofs.Ytknljimmilhfkaa
set_option linter.unusedVariables false
set_option linter.unusedSimpArgs false
open Go.RowKit

theorem run_bitsK (a : Nat) (w : World) : (callFunc 16 #[.float .f64 a]).run Try.prog w = .ok (.value (.int .u64 a)) w :=
  run_callFunc_extern Try.func16 (e := Extern.MathFloatBits.float64bits) (by kernel_rfl) (by kernel_rfl) (by kernel_rfl) (by kernel_rfl) #[.float .f64 a] w
theorem run_fromK (a : Int) (w : World) : (callFunc 36 #[.int .u64 a]).run Try.prog w = .ok (.value (.float .f64 a.toNat)) w :=
  run_callFunc_extern Try.func36 (e := Extern.MathFloatBits.float64frombits) (by kernel_rfl) (by kernel_rfl) (by kernel_rfl) (by kernel_rfl) #[.int .u64 a] w
set_option maxHeartbeats 4000000 in
set_option maxRecDepth 200000 in
theorem abs0 (w : World) : Calls Try.prog 80 #[.float .f64 4843940237547941144] w fun e w' => e = .returned (.float .f64 4843940237547941144) ∧ w' = w := by
  have hb := run_bitsK
  have hf := run_fromK
  have h1 : bits BinOp.andNot IntKind.u64 4843940237547941144 9223372036854775808 = 4843940237547941144 := by decide +kernel
  go_enter Try.func80, Try.ntmps80
  go_wp2
  go_ret
  exact ⟨rfl, rfl⟩
set_option maxHeartbeats 4000000 in
set_option maxRecDepth 200000 in
theorem inf0 (w : World) : Calls Try.prog 61 #[.float .f64 4843940237547941144, .int .i64 0] w fun e w' => e = .returned (.bool false) ∧ w' = w := by
  go_enter Try.func61, Try.ntmps61
  go_wp2_with (go_at_call 80; refine (abs0 _).mono ?_; rintro e w' ⟨rfl, rfl⟩)
  go_ret
  exact ⟨rfl, rfl⟩
set_option maxHeartbeats 4000000 in
set_option maxRecDepth 200000 in
theorem nan0 (w : World) : Calls Try.prog 89 #[.float .f64 4843940237547941144] w fun e w' => e = .returned (.bool false) ∧ w' = w := by
  go_enter Try.func89, Try.ntmps89
  go_wp2
  go_ret
  exact ⟨rfl, rfl⟩
set_option maxHeartbeats 4000000 in
set_option maxRecDepth 200000 in
theorem norm0 (w : World) : Calls Try.prog 90 #[.float .f64 4843940237547941144] w fun e w' => e = .returned (.tuple #[.float .f64 4843940237547941144, .int .i64 0]) ∧ w' = w := by
  go_enter Try.func90, Try.ntmps90
  go_wp2_with (go_at_call 80; refine (abs0 _).mono ?_; rintro e w' ⟨rfl, rfl⟩)
  refine bodyPost_ret (results_tmp2 rfl _ _ _) rfl ?_
  exact ⟨rfl, rfl⟩
set_option maxHeartbeats 4000000 in
set_option maxRecDepth 200000 in
theorem ldx0 (w : World) : Calls Try.prog 79 #[.float .f64 4843940237547941144, .int .i64 (-51)] w fun e w' => e = .returned (.float .f64 4614256656552045848) ∧ w' = w := by
  have hb := run_bitsK
  have hf := run_fromK
  have h1 : bits BinOp.andNot IntKind.u64 4843940237547941144 9218868437227405312 = 2570638124657944 := by decide +kernel
  have h2 : bits BinOp.or IntKind.u64 2570638124657944 4611686018427387904 = 4614256656552045848 := by decide +kernel
  have h3 : bits BinOp.and IntKind.i64 1075 2047 = 1075 := by decide +kernel
  have h4 := fun W : World => run_float_arith (P := Try.prog) (w := W) .mul 22 .f64 4607182418800017408 4614256656552045848 4614256656552045848 (by decide +kernel)
  go_enter Try.func79, Try.ntmps79
  go_wp2_with (first | (go_at_call 61; refine (inf0 _).mono ?_; rintro e w' ⟨rfl, rfl⟩) | (go_at_call 89; refine (nan0 _).mono ?_; rintro e w' ⟨rfl, rfl⟩) | (go_at_call 90; refine (norm0 _).mono ?_; rintro e w' ⟨rfl, rfl⟩) | go_in)
  go_ret
  exact ⟨rfl, rfl⟩
set_option maxHeartbeats 4000000 in
set_option maxRecDepth 200000 in
theorem ldexp0 (w : World) : Calls Try.prog 59 #[.float .f64 4843940237547941144, .int .i64 (-51)] w fun e w' => e = .returned (.float .f64 4614256656552045848) ∧ w' = w := by
  go_enter Try.func59, Try.ntmps59
  go_wp2_with (go_at_call 79; refine (ldx0 _).mono ?_; rintro e w' ⟨rfl, rfl⟩)
  go_ret
  exact ⟨rfl, rfl⟩
set_option maxHeartbeats 4000000 in
set_option maxRecDepth 200000 in
theorem abs1 (w : World) : Calls Try.prog 80 #[.float .f64 4843940237547941145] w fun e w' => e = .returned (.float .f64 4843940237547941145) ∧ w' = w := by
  have hb := run_bitsK
  have hf := run_fromK
  have h1 : bits BinOp.andNot IntKind.u64 4843940237547941145 9223372036854775808 = 4843940237547941145 := by decide +kernel
  go_enter Try.func80, Try.ntmps80
  go_wp2
  go_ret
  exact ⟨rfl, rfl⟩
set_option maxHeartbeats 4000000 in
set_option maxRecDepth 200000 in
theorem inf1 (w : World) : Calls Try.prog 61 #[.float .f64 4843940237547941145, .int .i64 0] w fun e w' => e = .returned (.bool false) ∧ w' = w := by
  go_enter Try.func61, Try.ntmps61
  go_wp2_with (go_at_call 80; refine (abs1 _).mono ?_; rintro e w' ⟨rfl, rfl⟩)
  go_ret
  exact ⟨rfl, rfl⟩
set_option maxHeartbeats 4000000 in
set_option maxRecDepth 200000 in
theorem nan1 (w : World) : Calls Try.prog 89 #[.float .f64 4843940237547941145] w fun e w' => e = .returned (.bool false) ∧ w' = w := by
  go_enter Try.func89, Try.ntmps89
  go_wp2
  go_ret
  exact ⟨rfl, rfl⟩
set_option maxHeartbeats 4000000 in
set_option maxRecDepth 200000 in
theorem norm1 (w : World) : Calls Try.prog 90 #[.float .f64 4843940237547941145] w fun e w' => e = .returned (.tuple #[.float .f64 4843940237547941145, .int .i64 0]) ∧ w' = w := by
  go_enter Try.func90, Try.ntmps90
  go_wp2_with (go_at_call 80; refine (abs1 _).mono ?_; rintro e w' ⟨rfl, rfl⟩)
  refine bodyPost_ret (results_tmp2 rfl _ _ _) rfl ?_
  exact ⟨rfl, rfl⟩
set_option maxHeartbeats 4000000 in
set_option maxRecDepth 200000 in
theorem ldx1 (w : World) : Calls Try.prog 79 #[.float .f64 4843940237547941145, .int .i64 (-51)] w fun e w' => e = .returned (.float .f64 4614256656552045849) ∧ w' = w := by
  have hb := run_bitsK
  have hf := run_fromK
  have h1 : bits BinOp.andNot IntKind.u64 4843940237547941145 9218868437227405312 = 2570638124657945 := by decide +kernel
  have h2 : bits BinOp.or IntKind.u64 2570638124657945 4611686018427387904 = 4614256656552045849 := by decide +kernel
  have h3 : bits BinOp.and IntKind.i64 1075 2047 = 1075 := by decide +kernel
  have h4 := fun W : World => run_float_arith (P := Try.prog) (w := W) .mul 22 .f64 4607182418800017408 4614256656552045849 4614256656552045849 (by decide +kernel)
  go_enter Try.func79, Try.ntmps79
  go_wp2_with (first | (go_at_call 61; refine (inf1 _).mono ?_; rintro e w' ⟨rfl, rfl⟩) | (go_at_call 89; refine (nan1 _).mono ?_; rintro e w' ⟨rfl, rfl⟩) | (go_at_call 90; refine (norm1 _).mono ?_; rintro e w' ⟨rfl, rfl⟩) | go_in)
  go_ret
  exact ⟨rfl, rfl⟩
set_option maxHeartbeats 4000000 in
set_option maxRecDepth 200000 in
theorem ldexp1 (w : World) : Calls Try.prog 59 #[.float .f64 4843940237547941145, .int .i64 (-51)] w fun e w' => e = .returned (.float .f64 4614256656552045849) ∧ w' = w := by
  go_enter Try.func59, Try.ntmps59
  go_wp2_with (go_at_call 79; refine (ldx1 _).mono ?_; rintro e w' ⟨rfl, rfl⟩)
  go_ret
  exact ⟨rfl, rfl⟩
end Go.Proofs.Ytknljimmilhfkaa
/- The least interval around pi. -/
namespace Go.Proofs.Ytknljimmilhfkaa
set_option linter.unusedVariables false
set_option linter.unusedSimpArgs false
open Go.RowKit

theorem run_store_fltK (P : Program) (w : World) (a : Addr) (m : Mode) (k : FloatKind) (n : Nat) : (store a (.float k n) m).run P w = stored P w a (.float k n) m := run_store P w a _ m rfl
attribute [local go_sem] run_store_fltK
def IvK (W : World) (g a b : Nat) : Prop := W.heap[g]? = some (.cells #[.float .f64 a, .float .f64 b] 24 (0, 0))
theorem IvK.lt {W : World} {g a b : Nat} (h : IvK W g a b) : g < W.heap.size := by
  unfold IvK at h
  rcases Nat.lt_or_ge g W.heap.size with h' | h'
  · exact h'
  · rw [Array.getElem?_eq_none h'] at h; cases h
theorem IvK.box {W w' : World} {g a b : Nat} (h : IvK W g a b) (hb : Below W.heap.size W w') : IvK w' g a b := (hb.block g h.lt).trans h
theorem IvK.facts {W : World} {g a b : Nat} (h : IvK W g a b) : (W.cell? ⟨g, 0, none⟩ = some (.float .f64 a) ∧ W.cell? ⟨g, 1, none⟩ = some (.float .f64 b)) ∧ W.frozen? ⟨g, 0, none⟩ = false ∧ W.frozen? ⟨g, 1, none⟩ = false := by
  unfold IvK at h
  simp [World.cell?, World.frozen?, h]
theorem IvK.set {W : World} {g a b : Nat} (h : IvK W g a b) (c d : Nat) : IvK ((W.setCell ⟨g, 0, none⟩ (.float .f64 c)).setCell ⟨g, 1, none⟩ (.float .f64 d)) g c d := by
  unfold IvK at *
  simp [World.setCell, Array.getElem?_modify, h]
theorem IvK.other {W : World} {g k a b : Nat} (h : IvK W k a b) (hk : k ≠ g) (c d : Value) : IvK ((W.setCell ⟨g, 0, none⟩ c).setCell ⟨g, 1, none⟩ d) k a b := by
  unfold IvK at *
  have h' : ¬ g = k := fun e => hk e.symm
  simp [World.setCell, Array.getElem?_modify, h', h]
theorem IvK.new (w : World) (a b : Nat) : IvK (w.alloc (.cells #[.float .f64 a, .float .f64 b] 24)) w.heap.size a b := heap_alloc_new _ _
theorem ivk_info : (Try.prog.info? 24).map (·.size) = some 2 := by kernel_rfl
theorem below_set {w W : World} {g : Nat} (h : Below w.heap.size w W) (hg : w.heap.size ≤ g) (c d : Value) : Below w.heap.size w ((W.setCell ⟨g, 0, none⟩ c).setCell ⟨g, 1, none⟩ d) := by
  refine ⟨h.os, h.tape, h.output, by simpa [World.setCell] using h.size, fun k hk => ?_⟩
  rw [← h.block k hk]
  simp [World.setCell, Array.getElem?_modify, show ¬ g = k by omega]
theorem results_ctK {P : Program} {fn : Func} {p u : Tmp} {ty : TypeId} (h : fn.results = #[.cell p ty, .tmp u]) (tmps : Array Value) (w : World) (g : Nat) (t : TypeId) (cs : Array Value) (fr : Nat × Nat) (d : TypeDesc)
    (hp : tmps.getD p undef = .pointer (some ⟨g, 0, none⟩)) (hg : w.heap[g]? = some (.cells cs t fr))
    (hu : P.underlying ty = some d) (hd : (match d with | .struct _ | .array _ _ => true | _ => false) = true) (hi : (P.info? ty).map (·.size) = some cs.size) :
    (results fn tmps).run P w = .ok (.tuple #[.agg cs, tmps.getD u undef]) w := by
  rw [results_cell_tmp h, hp]
  simp [asAddr, run_loadVar_row w g t ty cs fr d hg hu hd hi, Result.andThen]
set_option maxHeartbeats 4000000 in
set_option maxRecDepth 200000 in
theorem btight {A : Value} {x y : Nat} {w : World} (h : Bd w A x y 128) (hx : dlen x ≤ 1000000) (hy : dlen y ≤ 1000000) (h1 : x / 2 ^ 77 = 7074237752028440) (h2 : y / 2 ^ 77 = 7074237752028440) :
    Calls Try.prog 33 #[A] w fun r w' => r = .returned (.tuple #[.agg #[.float .f64 4614256656552045848, .float .f64 4614256656552045849], .bool true]) ∧ Below w.heap.size w w' := by
  obtain ⟨a1, n1, c1, a2, n2, c2, rfl, i1, i2⟩ := h
  obtain ⟨W, hW⟩ : ∃ W, W = (w.alloc (.cells #[.slice a1 n1 c1, .slice a2 n2 c2, .int .i64 128] 56)).alloc (.cells #[.float .f64 0, .float .f64 0] 24) := ⟨_, rfl⟩
  have hB0 : Below w.heap.size w (w.alloc (.cells #[.slice a1 n1 c1, .slice a2 n2 c2, .int .i64 128] 56)) := (Below.refl _ _).alloc (Nat.le_refl _) _
  have hB1 : Below (w.alloc (.cells #[.slice a1 n1 c1, .slice a2 n2 c2, .int .i64 128] 56)).heap.size (w.alloc (.cells #[.slice a1 n1 c1, .slice a2 n2 c2, .int .i64 128] 56)) W := by rw [hW]; exact (Below.refl _ _).alloc (Nat.le_refl _) _
  have hBW : Below w.heap.size w W := hB0.trans (hB1.mono hB0.size)
  have hA : BdB W w.heap.size a1 n1 c1 a2 n2 c2 128 := (BdB.new _ _ _ _ _ _ _ _).box hB1
  have hV : IvK W (w.heap.size + 1) 0 0 := by rw [hW]; have := IvK.new (w.alloc (.cells #[.slice a1 n1 c1, .slice a2 n2 c2, .int .i64 128] 56)) 0 0; simpa using this
  have HX : Hid (Below w.heap.size w W ∧ BdB W w.heap.size a1 n1 c1 a2 n2 c2 128 ∧ IvK W (w.heap.size + 1) 0 0) := ⟨hBW, hA, hV⟩
  have HI : Hid (Is W (.slice a2 n2 c2) y ∧ y / 2 ^ 77 = 7074237752028440 ∧ dlen y ≤ 1000000) := ⟨i2.later hBW, h2, hy⟩
  have k1 := bhigh (w := W) (d := 77) (i1.later hBW) hx (bl_drop h1 (by decide) (by decide)) h1 (by decide) (by decide)
  obtain ⟨⟨z0, z1, z2⟩, -⟩ := hA.facts
  clear hA hBW i1 i2 h1 h2 hB0 hB1 hV hx hy
  go_enter Try.func33, Try.ntmps33
  go_upto_region 1 with fail
  rw [← hW]
  clear hW
  go_wp2_with fail
  refine k1.mono ?_
  rintro r w2 ⟨rfl, hb2⟩
  have HX2 : Hid (Below w.heap.size w w2 ∧ BdB w2 w.heap.size a1 n1 c1 a2 n2 c2 128 ∧ IvK w2 (w.heap.size + 1) 0 0) := ⟨HX.out.1.trans (hb2.mono HX.out.1.size), HX.out.2.1.box hb2, HX.out.2.2.box hb2⟩
  have k2 := bhigh (w := w2) (d := 77) (HI.out.1.later hb2) HI.out.2.2 (bl_drop HI.out.2.1 (by decide) (by decide)) HI.out.2.1 (by decide) (by decide)
  clear k1 hb2 z0 z1 z2 HX HI
  obtain ⟨⟨z0, z1, z2⟩, -⟩ := HX2.out.2.1.facts
  go_wp2_with fail
  refine k2.mono ?_
  rintro r w3 ⟨rfl, hb3⟩
  have HX3 : Hid (Below w.heap.size w w3 ∧ BdB w3 w.heap.size a1 n1 c1 a2 n2 c2 128 ∧ IvK w3 (w.heap.size + 1) 0 0) := ⟨HX2.out.1.trans (hb3.mono HX2.out.1.size), HX2.out.2.1.box hb3, HX2.out.2.2.box hb3⟩
  clear k2 hb3 z0 z1 z2 HX2
  obtain ⟨⟨z0, z1, z2⟩, -⟩ := HX3.out.2.1.facts
  obtain ⟨⟨y0, y1⟩, y2, y3⟩ := HX3.out.2.2.facts
  have hf0 : floatOfInt .f64 7074237752028440 = 4843940237547941144 := by decide +kernel
  have hf1 : floatOfInt .f64 7074237752028441 = 4843940237547941145 := by decide +kernel
  go_wp2_with fail
  refine (ldexp0 _).mono ?_
  rintro e w' ⟨rfl, hw⟩
  rw [hw]
  clear hw w'
  go_wp2_with fail
  refine (ldexp1 _).mono ?_
  rintro e w' ⟨rfl, hw⟩
  rw [hw]
  clear hw w'
  go_wp2_with fail
  refine bodyPost_ret (results_ctK rfl _ _ (w.heap.size + 1) 24 #[.float .f64 4614256656552045848, .float .f64 4614256656552045849] (0, 0) _ rfl (HX3.out.2.2.set _ _) Try.underlying24 rfl ivk_info) rfl ?_
  exact ⟨rfl, below_set HX3.out.1 (by omega) _ _⟩
end Go.Proofs.Ytknljimmilhfkaa
/- Tight of pi; what must come whatever the input is. -/
namespace Go.Proofs.Ytknljimmilhfkaa
set_option linter.unusedVariables false
set_option linter.unusedSimpArgs false
open Go.RowKit
attribute [local go_sem] run_store_fltK

theorem pi_drop {lo hi : Nat} (h : Brk Z0 128 lo hi (nPI * 1) ((8100 * 16 + 8100 * 4) * 1)) : lo / 2 ^ 77 = 7074237752028440 ∧ hi / 2 ^ 77 = 7074237752028440 :=
  brk_drop h (Nat.le_of_ble_eq_true (by decide +kernel)) (Nat.le_of_ble_eq_true (by decide +kernel))
set_option maxHeartbeats 4000000 in
set_option maxRecDepth 200000 in
theorem ttimes {w : World} : Calls Try.prog 15 #[.int .i64 1, .int .u64 1] w fun r w' => r = .returned (.agg #[.float .f64 4614256656552045848, .float .f64 4614256656552045849]) ∧ Below w.heap.size w w' := by
  obtain ⟨W, hW⟩ : ∃ W, W = w.alloc (.cells #[.float .f64 0, .float .f64 0] 24) := ⟨_, rfl⟩
  have HX : Hid (Below w.heap.size w W ∧ IvK W w.heap.size 0 0) := (by rw [hW]; exact ⟨(Below.refl _ _).alloc (Nat.le_refl _) _, IvK.new _ _ _⟩ : Below w.heap.size w W ∧ IvK W w.heap.size 0 0)
  go_enter Try.func15, Try.ntmps15
  go_upto_region 1 with fail
  rw [← hW]
  clear hW
  go_wp2_with fail
  go_loopw [5] (fun sp wr => sp = .int .i64 128 ∧ wr = W) (fun _ _ => 0)
  case atStart => exact ⟨rfl, rfl⟩
  case round =>
    obtain ⟨rfl, rfl⟩ := hrel
    have k1 : Calls Try.prog 31 #[.int .i64 1, .int .i64 128] wr fun r w' => OutK Z0 128 nPI (8100 * 16 + 8100 * 4) wr 128 r w' := near_k (k := 1) (p := 128) (by omega) (by omega) (by omega) (by omega)
    go_wp2_with fail
    refine k1.mono ?_
    intro r w2 hO
    obtain ⟨b1, m1, d1, b2, m2, d2, rfl, hK, hb2⟩ := hO.arg
    have k2 : Calls Try.prog 32 #[.agg #[.slice b1 m1 d1, .slice b2 m2 d2, .int .i64 128], .int .u64 1] w2 fun r w' => OutK Z0 128 (nPI * 1) ((8100 * 16 + 8100 * 4) * 1) w2 128 r w' := ktimes (n := 1) hK (sm_of (by decide +kernel) (by decide +kernel)) (by decide)
    have HX2 : Hid (Below w.heap.size w w2 ∧ IvK w2 w.heap.size 0 0) := ⟨HX.out.1.trans (hb2.mono HX.out.1.size), HX.out.2.box hb2⟩
    clear k1 hO hK hb2 HX
    go_wp2_with fail
    refine k2.mono ?_
    rintro r w3 ⟨lo, hi, hB, b3, m3, d3, b4, m4, d4, rfl, i3, i4, hb3⟩
    have hdl := hB.dl (K := 131) (Nat.le_of_ble_eq_true (by decide +kernel)) (Nat.le_of_ble_eq_true (by decide +kernel)) (by decide)
    have k3 := btight (w := w3) ⟨b3, m3, d3, b4, m4, d4, rfl, i3, i4⟩ (by omega) (by omega) (pi_drop hB).1 (pi_drop hB).2
    have HX3 : Hid (Below w.heap.size w w3 ∧ IvK w3 w.heap.size 0 0) := ⟨HX2.out.1.trans (hb3.mono HX2.out.1.size), HX2.out.2.box hb3⟩
    clear k2 hB hdl i3 i4 hb3 HX2
    go_wp2_with fail
    refine k3.mono ?_
    rintro r w4 ⟨rfl, hb4⟩
    obtain ⟨W5, hW5⟩ : ∃ W5, W5 = w4.alloc (.cells #[.float .f64 0, .float .f64 0] 24) := ⟨_, rfl⟩
    have hV5 : IvK W5 w4.heap.size 0 0 := by rw [hW5]; exact IvK.new _ _ _
    have hb5 : Below w4.heap.size w4 W5 := by rw [hW5]; exact (Below.refl _ _).alloc (Nat.le_refl _) _
    have hb35 : Below w3.heap.size w3 W5 := hb4.trans (hb5.mono hb4.size)
    have HX5 : Hid (Below w.heap.size w W5 ∧ IvK W5 w.heap.size 0 0 ∧ w.heap.size < w4.heap.size) := ⟨HX3.out.1.trans (hb35.mono HX3.out.1.size), HX3.out.2.box hb35, Nat.lt_of_lt_of_le HX3.out.2.lt hb4.size⟩
    have HV5 : Hid (IvK W5 w4.heap.size 0 0) := hV5
    obtain ⟨⟨y0, y1⟩, y2, y3⟩ := hV5.facts
    clear k3 hb4 hb5 hb35 HX3 hV5
    go_upto_region 4 with (rw [← hW5]; clear hW5)
    obtain ⟨W6, hW6⟩ : ∃ W6, W6 = (W5.setCell ⟨w4.heap.size, 0, none⟩ (.float .f64 4614256656552045848)).setCell ⟨w4.heap.size, 1, none⟩ (.float .f64 4614256656552045849) := ⟨_, rfl⟩
    have HX6 : Hid (Below w.heap.size w W6 ∧ IvK W6 w.heap.size 0 0) := (by rw [hW6]; exact ⟨below_set HX5.out.1 (by have := HX5.out.2.2; omega) _ _, HX5.out.2.1.other (by have := HX5.out.2.2; omega) _ _⟩ : Below w.heap.size w W6 ∧ IvK W6 w.heap.size 0 0)
    have hV6 : IvK W6 w4.heap.size 4614256656552045848 4614256656552045849 := by rw [hW6]; exact HV5.out.set _ _
    rw [← hW6]
    clear hW6 y0 y1 y2 y3 HX5 HV5
    obtain ⟨⟨y0, y1⟩, y2, y3⟩ := hV6.facts
    obtain ⟨⟨x0, x1⟩, x2, x3⟩ := HX6.out.2.facts
    clear hV6
    go_wp2_with fail
    refine bodyPost_ret (results_cell_row rfl _ _ w.heap.size 24 #[.float .f64 4614256656552045848, .float .f64 4614256656552045849] (0, 0) _ rfl (HX6.out.2.set _ _) Try.underlying24 rfl ivk_info) rfl ?_
    exact ⟨rfl, below_set HX6.out.1 (Nat.le_refl _) _ _⟩
set_option maxHeartbeats 4000000 in
set_option maxRecDepth 200000 in
theorem tight_1 {w : World} : Calls Try.prog 4 #[.int .i64 1] w fun r w' => r = .returned (.tuple #[.agg #[.float .f64 4614256656552045848, .float .f64 4614256656552045849], .int .i64 0]) ∧ Below w.heap.size w w' := by
  obtain ⟨W, hW⟩ : ∃ W, W = w.alloc (.cells #[.float .f64 0, .float .f64 0] 24) := ⟨_, rfl⟩
  have HX : Hid (Below w.heap.size w W ∧ IvK W w.heap.size 0 0) := (by rw [hW]; exact ⟨(Below.refl _ _).alloc (Nat.le_refl _) _, IvK.new _ _ _⟩ : Below w.heap.size w W ∧ IvK W w.heap.size 0 0)
  have k1 : Calls Try.prog 14 #[.int .i64 1] W fun r w' => r = .returned (.bool true) ∧ w' = W := isK (k := 1)
  go_enter Try.func4, Try.ntmps4
  go_upto_region 1 with fail
  rw [← hW]
  clear hW
  go_wp2_with (go_at_call 14; refine k1.mono ?_; rintro r wz ⟨rfl, hwz⟩; have hwz := hwz.symm; subst hwz)
  refine (ttimes (w := W)).mono ?_
  rintro r w2 ⟨rfl, hb2⟩
  have HX2 : Hid (Below w.heap.size w w2 ∧ IvK w2 w.heap.size 0 0) := ⟨HX.out.1.trans (hb2.mono HX.out.1.size), HX.out.2.box hb2⟩
  clear k1 hb2 HX
  obtain ⟨⟨x0, x1⟩, x2, x3⟩ := HX2.out.2.facts
  go_wp2_with fail
  refine bodyPost_ret (results_ctK rfl _ _ w.heap.size 24 #[.float .f64 4614256656552045848, .float .f64 4614256656552045849] (0, 0) _ rfl (HX2.out.2.set _ _) Try.underlying24 rfl ivk_info) rfl ?_
  exact ⟨rfl, below_set HX2.out.1 (Nat.le_refl _) _ _⟩
set_option maxHeartbeats 4000000 in
set_option maxRecDepth 200000 in
theorem tight_0 {w : World} : Calls Try.prog 4 #[.int .i64 0] w fun r w' => r = .returned (.tuple #[.agg #[.float .f64 0, .float .f64 0], .int .i64 1]) ∧ Below w.heap.size w w' := by
  obtain ⟨W, hW⟩ : ∃ W, W = w.alloc (.cells #[.float .f64 0, .float .f64 0] 24) := ⟨_, rfl⟩
  have HX : Hid (Below w.heap.size w W ∧ IvK W w.heap.size 0 0) := (by rw [hW]; exact ⟨(Below.refl _ _).alloc (Nat.le_refl _) _, IvK.new _ _ _⟩ : Below w.heap.size w W ∧ IvK W w.heap.size 0 0)
  have k1 : Calls Try.prog 14 #[.int .i64 0] W fun r w' => r = .returned (.bool false) ∧ w' = W := isK (k := 0)
  obtain ⟨⟨x0, x1⟩, x2, x3⟩ := HX.out.2.facts
  go_enter Try.func4, Try.ntmps4
  go_upto_region 1 with fail
  rw [← hW]
  clear hW
  go_wp2_with (go_at_call 14; refine k1.mono ?_; rintro r wz ⟨rfl, hwz⟩; have hwz := hwz.symm; subst hwz)
  refine bodyPost_ret (results_ctK rfl _ _ w.heap.size 24 #[.float .f64 0, .float .f64 0] (0, 0) _ rfl (HX.out.2.set _ _) Try.underlying24 rfl ivk_info) rfl ?_
  exact ⟨rfl, below_set HX.out.1 (Nat.le_refl _) _ _⟩
end Go.Proofs.Ytknljimmilhfkaa
/- What must come whatever the input is. -/
namespace Go.Proofs.Ytknljimmilhfkaa
set_option linter.unusedVariables false
set_option linter.unusedSimpArgs false
open Go.RowKit
attribute [local go_sem] run_store_fltK

theorem dig_pi {w : World} : Calls Try.prog 30 #[.int .i64 1, .int .i64 5] w fun r w' => r = .returned (.tuple #[.string ⟨#[51, 46, 49, 52, 49, 53, 57]⟩, .int .i64 0]) ∧ Below w.heap.size w w' := by
  have := dig_ok (k := 1) (n := 5) (w := w) (by omega) (by omega) (by omega)
  rw [txD_pi5] at this
  exact this
set_option maxHeartbeats 4000000 in
set_option maxRecDepth 200000 in
theorem bsure {w : World} : Calls Try.prog 13 #[] w fun r w' => r = .returned (.bool true) ∧ Below w.heap.size w w' := by
  have ho1 : (FloatKind.f64.format.order 4614256656552045848 4614256656552045848 == some Ordering.eq) = true := by decide +kernel
  have ho2 : (FloatKind.f64.format.order 4614256656552045849 4614256656552045849 == some Ordering.eq) = true := by decide +kernel
  go_enter Try.func13, Try.ntmps13
  go_wp2_with fail
  refine (dig_pi (w := w)).mono ?_
  rintro r w1 ⟨rfl, hb1⟩
  have H1 : Hid (Below w.heap.size w w1) := hb1
  clear hb1
  go_wp2_with fail
  refine (tight_1 (w := w1)).mono ?_
  rintro r w2 ⟨rfl, hb2⟩
  have H2 : Hid (Below w.heap.size w w2) := H1.out.trans (hb2.mono H1.out.size)
  clear hb2 H1
  obtain ⟨W3, hW3⟩ : ∃ W3, W3 = w2.alloc (.cells #[.float .f64 0, .float .f64 0] 24) := ⟨_, rfl⟩
  have HV3 : Hid (IvK W3 w2.heap.size 0 0 ∧ Below w.heap.size w W3) := (by rw [hW3]; exact ⟨IvK.new _ _ _, H2.out.alloc H2.out.size _⟩ : IvK W3 w2.heap.size 0 0 ∧ Below w.heap.size w W3)
  obtain ⟨⟨y0, y1⟩, y2, y3⟩ := HV3.out.1.facts
  go_upto_region 3 with (rw [← hW3]; clear hW3)
  obtain ⟨W4, hW4⟩ : ∃ W4, W4 = (W3.setCell ⟨w2.heap.size, 0, none⟩ (.float .f64 4614256656552045848)).setCell ⟨w2.heap.size, 1, none⟩ (.float .f64 4614256656552045849) := ⟨_, rfl⟩
  have HV4 : Hid (IvK W4 w2.heap.size 4614256656552045848 4614256656552045849 ∧ Below w.heap.size w W4) := (by rw [hW4]; exact ⟨HV3.out.1.set _ _, below_set HV3.out.2 H2.out.size _ _⟩ : IvK W4 w2.heap.size 4614256656552045848 4614256656552045849 ∧ Below w.heap.size w W4)
  rw [← hW4]
  clear hW4 HV3 y0 y1 y2 y3 H2
  go_wp2_with fail
  refine (tight_0 (w := W4)).mono ?_
  rintro r w5 ⟨rfl, hb5⟩
  have HV5 : Hid (IvK w5 w2.heap.size 4614256656552045848 4614256656552045849 ∧ Below w.heap.size w w5) := ⟨HV4.out.1.box hb5, HV4.out.2.trans (hb5.mono HV4.out.2.size)⟩
  clear hb5 HV4
  obtain ⟨W6, hW6⟩ : ∃ W6, W6 = w5.alloc (.cells #[.float .f64 0, .float .f64 0] 24) := ⟨_, rfl⟩
  have hb6 : Below w5.heap.size w5 W6 := by rw [hW6]; exact (Below.refl _ _).alloc (Nat.le_refl _) _
  have HV6 : Hid (IvK W6 w5.heap.size 0 0 ∧ IvK W6 w2.heap.size 4614256656552045848 4614256656552045849 ∧ Below w.heap.size w W6 ∧ w2.heap.size < w5.heap.size ∧ w.heap.size ≤ w5.heap.size) := (by
    refine ⟨?_, HV5.out.1.box hb6, HV5.out.2.trans (hb6.mono HV5.out.2.size), HV5.out.1.lt, HV5.out.2.size⟩
    rw [hW6]; exact IvK.new _ _ _ : IvK W6 w5.heap.size 0 0 ∧ IvK W6 w2.heap.size 4614256656552045848 4614256656552045849 ∧ Below w.heap.size w W6 ∧ w2.heap.size < w5.heap.size ∧ w.heap.size ≤ w5.heap.size)
  obtain ⟨⟨y0, y1⟩, y2, y3⟩ := HV6.out.1.facts
  clear hb6
  go_upto_region 4 with (rw [← hW6]; clear hW6)
  obtain ⟨W7, hW7⟩ : ∃ W7, W7 = (W6.setCell ⟨w5.heap.size, 0, none⟩ (.float .f64 0)).setCell ⟨w5.heap.size, 1, none⟩ (.float .f64 0) := ⟨_, rfl⟩
  have HV7 : Hid (IvK W7 w2.heap.size 4614256656552045848 4614256656552045849 ∧ Below w.heap.size w W7) := (by rw [hW7]; exact ⟨HV6.out.2.1.other (by have := HV6.out.2.2.2.1; omega) _ _, below_set HV6.out.2.2.1 HV6.out.2.2.2.2 _ _⟩ : IvK W7 w2.heap.size 4614256656552045848 4614256656552045849 ∧ Below w.heap.size w W7)
  rw [← hW7]
  clear hW7 HV6 HV5 y0 y1 y2 y3
  obtain ⟨⟨y0, y1⟩, y2, y3⟩ := HV7.out.1.facts
  go_wp2_with fail
  go_ret
  exact ⟨rfl, HV7.out.2⟩
end Go.Proofs.Ytknljimmilhfkaa
/- ConstsCut. -/
namespace Go.Proofs.Ytknljimmilhfkaa
set_option linter.unusedVariables false
set_option linter.unusedSimpArgs false
open Go.RowKit

end Go.Proofs.Ytknljimmilhfkaa
/- Multiples of pi lie apart from floats. -/
namespace Go.Proofs.Ytknljimmilhfkaa
set_option linter.unusedVariables false
set_option linter.unusedSimpArgs false
open Go.RowKit

theorem sep {S M Q0 P0 c T Q P : Nat} (hg : Nat.gcd P0 Q0 = 1) (hQ : 0 < Q) (hQ0 : Q < Q0) (h1 : M * Q0 ≤ P0 * S + c) (h2 : P0 * S ≤ M * Q0 + c) (hT : T * Q0 + Q * c ≤ S) :
    Q * M + T ≤ P * S ∨ P * S + T ≤ Q * M := by
  have hp : 0 < Q0 := by omega
  have hne : Q * P0 ≠ P * Q0 := fun e => by
    have hd : Q0 ∣ Q * P0 := ⟨P, by rw [e, Nat.mul_comm]⟩
    have hd2 : Q0 ∣ Q := Nat.Coprime.dvd_of_dvd_mul_right (show Nat.Coprime Q0 P0 by unfold Nat.Coprime; rw [Nat.gcd_comm]; exact hg) hd
    have := Nat.le_of_dvd hQ hd2
    omega
  have a1 : Q * M * Q0 ≤ Q * P0 * S + Q * c := by
    have := Nat.mul_le_mul_left Q h1
    rw [Nat.mul_add, ← Nat.mul_assoc, ← Nat.mul_assoc] at this
    exact this
  have a2 : Q * P0 * S ≤ Q * M * Q0 + Q * c := by
    have := Nat.mul_le_mul_left Q h2
    rw [Nat.mul_add, ← Nat.mul_assoc, ← Nat.mul_assoc] at this
    exact this
  rcases Nat.lt_or_gt_of_ne hne with h | h
  · refine .inl (Nat.le_of_mul_le_mul_right ?_ hp)
    have h3 : (Q * P0 + 1) * S ≤ P * Q0 * S := Nat.mul_le_mul_right _ h
    rw [Nat.add_mul, Nat.one_mul] at h3
    rw [Nat.add_mul, Nat.mul_right_comm P S Q0]
    omega
  · refine .inr (Nat.le_of_mul_le_mul_right ?_ hp)
    have h3 : (P * Q0 + 1) * S ≤ Q * P0 * S := Nat.mul_le_mul_right _ h
    rw [Nat.add_mul, Nat.one_mul] at h3
    rw [Nat.add_mul, Nat.mul_right_comm P S Q0]
    omega
theorem bl_lo {X : Nat} (h : X ≠ 0) : 2 ^ (bl X - 1) ≤ X := by
  rcases Nat.lt_or_ge X (2 ^ (bl X - 1)) with h' | h'
  · have := (bl_le X (bl X - 1)).2 h'
    have h0 : bl X ≠ 0 := fun e => by have := (bl_le X 0).1 (by omega); omega
    omega
  · exact h'
theorem pi_apart {Z M Q0 P0 c N G : Nat} (hZ : 256 ≤ Z) (hM1 : 2 ^ (Z + 1) ≤ M) (hg : Nat.gcd P0 Q0 = 1) (hQ0 : 2 ^ 64 < Q0) (h1 : M * Q0 ≤ P0 * 2 ^ Z + c) (h2 : P0 * 2 ^ Z ≤ M * Q0 + c)
    (hT : 2 ^ (Z - 100) * Q0 + 2 ^ 64 * c ≤ 2 ^ Z) (hN : 0 < N) (hN2 : N ≤ 2 ^ 63) (hG : G ≤ 2 ^ 18) :
    Z ≤ bl (M * N) - 53 + 51 ∧ ∃ a, M * N / 2 ^ (bl (M * N) - 53) = a ∧ 2 ^ 52 ≤ a ∧ a < 2 ^ 53 ∧ a * 2 ^ (bl (M * N) - 53) + G * N * 2 ^ (Z - 256) ≤ M * N ∧ M * N + G * N * 2 ^ (Z - 256) < (a + 1) * 2 ^ (bl (M * N) - 53) := by
  obtain ⟨X, hX⟩ : ∃ X, X = M * N := ⟨_, rfl⟩
  rw [← hX]
  have hZp := Nat.two_pow_pos Z
  have hX1 : 2 ^ (Z + 1) * N ≤ X := by rw [hX]; exact Nat.mul_le_mul_right _ hM1
  have hX2 : 2 ^ (Z + 1) ≤ X := Nat.le_trans (Nat.le_mul_of_pos_right _ hN) hX1
  have hX0 : X ≠ 0 := by have := Nat.two_pow_pos (Z + 1); omega
  have hb : Z + 2 ≤ bl X := by
    rcases Nat.lt_or_ge (Z + 1) (bl X) with h | h
    · omega
    · have := (bl_le X (Z + 1)).1 h; omega
  obtain ⟨D, hD⟩ : ∃ D, bl X = D + 53 := ⟨bl X - 53, by omega⟩
  rw [hD, Nat.add_sub_cancel]
  have hDp := Nat.two_pow_pos D
  have u1 : X < 2 ^ (D + 53) := (bl_le X (D + 53)).1 (by omega)
  have u2 : 2 ^ (D + 52) ≤ X := by have := bl_lo hX0; rw [hD] at this; exact this
  rw [Nat.pow_add] at u1 u2
  obtain ⟨a, ha⟩ : ∃ a, X / 2 ^ D = a := ⟨_, rfl⟩
  have e := Nat.div_add_mod X (2 ^ D)
  have hm := Nat.mod_lt X hDp
  rw [ha] at e
  have v1 : 2 ^ 52 ≤ a := by rw [← ha]; exact (Nat.le_div_iff_mul_le hDp).2 (by rw [Nat.mul_comm]; exact u2)
  have v2 : a < 2 ^ 53 := by rw [← ha]; exact (Nat.div_lt_iff_lt_mul hDp).2 (by rw [Nat.mul_comm]; exact u1)
  have w1 : a * 2 ^ D ≤ X := by rw [Nat.mul_comm]; omega
  have w2 : X < (a + 1) * 2 ^ D := by rw [Nat.add_mul, Nat.one_mul, Nat.mul_comm]; omega
  have hTp := Nat.two_pow_pos (Z - 100)
  have hE : ∀ Q, Q ≤ 2 ^ 64 → G * Q * 2 ^ (Z - 256) < 2 ^ (Z - 100) := fun Q hQ => by
    have t1 : G * Q ≤ 2 ^ 18 * 2 ^ 64 := Nat.mul_le_mul hG hQ
    have t2 : 2 ^ (Z - 100) = 2 ^ 156 * 2 ^ (Z - 256) := (congrArg (fun k => 2 ^ k) (show Z - 100 = 156 + (Z - 256) by omega)).trans (Nat.pow_add 2 156 (Z - 256))
    rw [t2]
    exact Nat.mul_lt_mul_of_lt_of_le (Nat.lt_of_le_of_lt t1 (by decide)) (Nat.le_refl _) (Nat.two_pow_pos _)
  refine ⟨by omega, a, ha, v1, v2, ?_⟩
  have hTQ : ∀ Q, Q ≤ 2 ^ 64 → 2 ^ (Z - 100) * Q0 + Q * c ≤ 2 ^ Z := fun Q hQ => Nat.le_trans (Nat.add_le_add_left (Nat.mul_le_mul_right _ hQ) _) hT
  rcases Nat.lt_or_ge D Z with hDZ | hDZ
  · obtain ⟨j, hj⟩ : ∃ j, Z = D + j := ⟨Z - D, by omega⟩
    have hjp := Nat.two_pow_pos j
    have hQ : N * 2 ^ j ≤ 2 ^ 64 := by
      have t1 : 2 ^ D * (2 ^ (j + 1) * N) < 2 ^ D * 2 ^ 53 := by
        refine Nat.lt_of_le_of_lt ?_ u1
        rw [← Nat.mul_assoc, ← Nat.pow_add, show D + (j + 1) = Z + 1 by omega]
        exact hX1
      have t2 := Nat.lt_of_mul_lt_mul_left t1
      rw [Nat.pow_succ, Nat.mul_right_comm] at t2
      rw [Nat.mul_comm]
      have t3 : (2 : Nat) ^ 53 ≤ 2 ^ 64 := by decide
      omega
    have hQp : 0 < N * 2 ^ j := Nat.mul_pos hN hjp
    have eX : N * 2 ^ j * M = X * 2 ^ j := by rw [hX, Nat.mul_right_comm, Nat.mul_comm N M]
    have eP : ∀ P, P * 2 ^ Z = P * 2 ^ D * 2 ^ j := fun P => by rw [hj, Nat.pow_add, Nat.mul_assoc]
    have s1 := sep (P := a) hg hQp (by omega) h1 h2 (hTQ _ hQ)
    have s2 := sep (P := a + 1) hg hQp (by omega) h1 h2 (hTQ _ hQ)
    rw [eX, eP] at s1 s2
    have hE1 := hE _ hQ
    have eE : G * (N * 2 ^ j) * 2 ^ (Z - 256) = G * N * 2 ^ (Z - 256) * 2 ^ j := by rw [← Nat.mul_assoc, Nat.mul_right_comm]
    rw [eE] at hE1
    have w1' : a * 2 ^ D * 2 ^ j ≤ X * 2 ^ j := Nat.mul_le_mul_right _ w1
    have w2' : X * 2 ^ j ≤ (a + 1) * 2 ^ D * 2 ^ j := Nat.mul_le_mul_right _ (Nat.le_of_lt w2)
    refine ⟨Nat.le_of_mul_le_mul_right ?_ hjp, Nat.lt_of_mul_lt_mul_right (a := 2 ^ j) ?_⟩
    · rw [Nat.add_mul]; omega
    · rw [Nat.add_mul]; omega
  · obtain ⟨k, hk⟩ : ∃ k, D = Z + k := ⟨D - Z, by omega⟩
    have hN64 : N ≤ 2 ^ 64 := Nat.le_trans hN2 (by decide)
    have eX : N * M = X := by rw [hX, Nat.mul_comm]
    have eP : ∀ P, P * 2 ^ k * 2 ^ Z = P * 2 ^ D := fun P => by rw [hk, Nat.add_comm Z k, Nat.pow_add, Nat.mul_assoc]
    have s1 := sep (P := a * 2 ^ k) hg hN (by omega) h1 h2 (hTQ _ hN64)
    have s2 := sep (P := (a + 1) * 2 ^ k) hg hN (by omega) h1 h2 (hTQ _ hN64)
    rw [eX, eP] at s1 s2
    have hE1 := hE _ hN64
    exact ⟨by omega, by omega⟩
end Go.Proofs.Ytknljimmilhfkaa
/- The least interval around a number whose first digits are known. -/
namespace Go.Proofs.Ytknljimmilhfkaa
set_option linter.unusedVariables false
set_option linter.unusedSimpArgs false
open Go.RowKit
attribute [local go_sem] run_store_fltK

set_option maxHeartbeats 4000000 in
set_option maxRecDepth 200000 in
theorem btightG {A : Value} {x y q d a b F0 F1 R0 R1 : Nat} {s : Bool} {d2 : Nat} {w : World} (h : Bd w A x y q) (hx : dlen x ≤ 1000000) (hy : dlen y ≤ 1000000) (h1 : x / 2 ^ d = a) (ha1 : 2 ^ 52 ≤ a) (ha2 : a < 2 ^ 53)
    (h2 : y / 2 ^ d2 = b) (hb1 : 2 ^ 52 ≤ b) (hb2 : b < 2 ^ 53) (hd : d ≤ 1000000) (hd2 : d2 ≤ 1000000) (hq : q ≤ 1000000) (hs : s = decide (a = b ∧ d = d2))
    (hf0 : floatOfInt .f64 (a : Int) = F0) (hf1 : floatOfInt .f64 ((a : Int) + 1) = F1)
    (l0 : ∀ W, Calls Try.prog 59 #[.float .f64 F0, .int .i64 ((d : Int) - q)] W fun e w' => e = .returned (.float .f64 R0) ∧ w' = W)
    (l1 : ∀ W, Calls Try.prog 59 #[.float .f64 F1, .int .i64 ((d : Int) - q)] W fun e w' => e = .returned (.float .f64 R1) ∧ w' = W) :
    Calls Try.prog 33 #[A] w fun r w' => r = .returned (.tuple #[.agg #[.float .f64 R0, .float .f64 R1], .bool s]) ∧ Below w.heap.size w w' := by
  obtain ⟨a1, n1, c1, a2, n2, c2, rfl, i1, i2⟩ := h
  obtain ⟨W, hW⟩ : ∃ W, W = (w.alloc (.cells #[.slice a1 n1 c1, .slice a2 n2 c2, .int .i64 q] 56)).alloc (.cells #[.float .f64 0, .float .f64 0] 24) := ⟨_, rfl⟩
  have hB0 : Below w.heap.size w (w.alloc (.cells #[.slice a1 n1 c1, .slice a2 n2 c2, .int .i64 q] 56)) := (Below.refl _ _).alloc (Nat.le_refl _) _
  have hB1 : Below (w.alloc (.cells #[.slice a1 n1 c1, .slice a2 n2 c2, .int .i64 q] 56)).heap.size (w.alloc (.cells #[.slice a1 n1 c1, .slice a2 n2 c2, .int .i64 q] 56)) W := by rw [hW]; exact (Below.refl _ _).alloc (Nat.le_refl _) _
  have hBW : Below w.heap.size w W := hB0.trans (hB1.mono hB0.size)
  have hA : BdB W w.heap.size a1 n1 c1 a2 n2 c2 q := (BdB.new _ _ _ _ _ _ _ _).box hB1
  have hV : IvK W (w.heap.size + 1) 0 0 := by rw [hW]; have := IvK.new (w.alloc (.cells #[.slice a1 n1 c1, .slice a2 n2 c2, .int .i64 q] 56)) 0 0; simpa using this
  have HX : Hid (Below w.heap.size w W ∧ BdB W w.heap.size a1 n1 c1 a2 n2 c2 q ∧ IvK W (w.heap.size + 1) 0 0) := ⟨hBW, hA, hV⟩
  have HI : Hid (Is W (.slice a2 n2 c2) y ∧ y / 2 ^ d2 = b ∧ dlen y ≤ 1000000 ∧ 2 ^ 52 ≤ b ∧ b < 2 ^ 53) := ⟨i2.later hBW, h2, hy, hb1, hb2⟩
  have k1 := bhigh (w := W) (d := d) (i1.later hBW) hx (bl_drop h1 ha1 ha2) h1 ha2 hd
  obtain ⟨⟨z0, z1, z2⟩, -⟩ := hA.facts
  have ha3 : (a : Int) < 9007199254740992 := by have : a < 9007199254740992 := ha2; omega
  have HS : Hid (s = decide (a = b ∧ d = d2)) := hs
  clear hA hBW i1 i2 h1 h2 hB0 hB1 hV hx hy ha1 ha2 hb1 hb2 hs
  go_enter Try.func33, Try.ntmps33
  go_upto_region 1 with fail
  rw [← hW]
  clear hW
  go_wp2_with fail
  refine k1.mono ?_
  rintro r w2 ⟨rfl, hb2⟩
  have HX2 : Hid (Below w.heap.size w w2 ∧ BdB w2 w.heap.size a1 n1 c1 a2 n2 c2 q ∧ IvK w2 (w.heap.size + 1) 0 0) := ⟨HX.out.1.trans (hb2.mono HX.out.1.size), HX.out.2.1.box hb2, HX.out.2.2.box hb2⟩
  have k2 := bhigh (w := w2) (d := d2) (HI.out.1.later hb2) HI.out.2.2.1 (bl_drop HI.out.2.1 HI.out.2.2.2.1 HI.out.2.2.2.2) HI.out.2.1 HI.out.2.2.2.2 hd2
  clear k1 hb2 z0 z1 z2 HX HI
  obtain ⟨⟨z0, z1, z2⟩, -⟩ := HX2.out.2.1.facts
  go_wp2_with fail
  refine k2.mono ?_
  rintro r w3 ⟨rfl, hb3⟩
  have HX3 : Hid (Below w.heap.size w w3 ∧ BdB w3 w.heap.size a1 n1 c1 a2 n2 c2 q ∧ IvK w3 (w.heap.size + 1) 0 0) := ⟨HX2.out.1.trans (hb3.mono HX2.out.1.size), HX2.out.2.1.box hb3, HX2.out.2.2.box hb3⟩
  clear k2 hb3 z0 z1 z2 HX2
  obtain ⟨⟨z0, z1, z2⟩, -⟩ := HX3.out.2.1.facts
  obtain ⟨⟨y0, y1⟩, y2, y3⟩ := HX3.out.2.2.facts
  go_wp2_with fail
  refine (l0 _).mono ?_
  rintro e w' ⟨rfl, hw⟩
  rw [hw]
  clear hw w'
  go_wp2_with fail
  refine (l1 _).mono ?_
  rintro e w' ⟨rfl, hw⟩
  rw [hw]
  clear hw w'
  have HY : Hid (w3.cell? ⟨w.heap.size + 1, 0, none⟩ = some (.float .f64 0)) := y0
  by_cases hab : a = b
  · by_cases hdd : d = d2
    · have hab1 : ((a : Int) == (b : Int)) = true := by simp [hab]
      have hdd1 : ((d : Int) == (d2 : Int)) = true := by simp [hdd]
      have hs : s = true := by rw [HS.out]; simp [hab, hdd]
      subst hs
      clear hab hdd HS
      go_wp2_with fail
      refine bodyPost_ret (results_ctK rfl _ _ (w.heap.size + 1) 24 #[.float .f64 R0, .float .f64 R1] (0, 0) _ rfl (HX3.out.2.2.set _ _) Try.underlying24 rfl ivk_info) rfl ?_
      exact ⟨rfl, below_set HX3.out.1 (by omega) _ _⟩
    · have hab1 : ((a : Int) == (b : Int)) = true := by simp [hab]
      have hdd1 : ((d : Int) == (d2 : Int)) = false := by simp; omega
      have hs : s = false := by rw [HS.out]; simp [hdd]
      subst hs
      clear hab hdd HS
      go_wp2_with fail
      refine bodyPost_ret (results_ctK rfl _ _ (w.heap.size + 1) 24 #[.float .f64 R0, .float .f64 R1] (0, 0) _ rfl (HX3.out.2.2.set _ _) Try.underlying24 rfl ivk_info) rfl ?_
      exact ⟨rfl, below_set HX3.out.1 (by omega) _ _⟩
  · have hab1 : ((a : Int) == (b : Int)) = false := by simp; omega
    have hs : s = false := by rw [HS.out]; simp [hab]
    subst hs
    clear hab HS
    go_wp2_with fail
    refine bodyPost_ret (results_ctK rfl _ _ (w.heap.size + 1) 24 #[.float .f64 R0, .float .f64 R1] (0, 0) _ rfl (HX3.out.2.2.set _ _) Try.underlying24 rfl ivk_info) rfl ?_
    exact ⟨rfl, below_set HX3.out.1 (by omega) _ _⟩
end Go.Proofs.Ytknljimmilhfkaa
