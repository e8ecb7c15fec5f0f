/- Own work: contracts of the program's functions, part A10. -/
import Derived.Test.YtceoeiojoffnnaaGreatDoorA9
import Derived.Laws.IdiomStrings

/- math.Abs, math.IsInf. -/
namespace Go.Proofs.YtceoeiojoffnnaaGreatDoor
set_option linter.unusedVariables false
set_option linter.unusedSimpArgs false
open Go.RowKit Go.Fl64

theorem c159 (a : Nat) (ha : a < 18446744073709551616) (w : World) :
    Calls Tryz.prog 89 #[.float .f64 a] w fun e w' => e = .returned (.float .f64 (mag a)) ∧ w' = w := by
  have hb := Ie.run_bits
  have hf := Ie.run_frombits
  go_enter Tryz.func89, Tryz.ntmps89
  go_wp2
  go_ret
  refine ⟨?_, rfl⟩
  show Ending.returned (.float .f64 (bits .andNot .u64 a 9223372036854775808).toNat) = _
  rw [andNot_sign a ha]
  simp

theorem mag_lt' (a : Nat) (ha : a < 18446744073709551616) : mag a < 18446744073709551616 := by unfold mag; omega

theorem c123 (a : Nat) (ha : a < 18446744073709551616) (w : World) :
    Calls Tryz.prog 66 #[.float .f64 a, .int .i64 0] w fun e w' => e = .returned (.bool (lt 9218868437227405311 (mag a))) ∧ w' = w := by
  have k := c159 a ha
  have h := ord_gt (mag a) 9218868437227405311 (mag_lt' a ha) (by omega)
  generalize mag a = m at *
  have H : Hid ((FloatKind.f64.format.order m 9218868437227405311 == some Ordering.gt) = lt 9218868437227405311 m) := h
  clear h
  go_enter Tryz.func66, Tryz.ntmps66
  go_wp2_with (first | (go_at_call 89; refine (k _).mono ?_; rintro e w' ⟨rfl, rfl⟩))
  go_ret
  exact ⟨congrArg Ending.returned (congrArg Value.bool H.out), rfl⟩

theorem c185 (w : World) : Calls Tryz.prog 126 #[.int .i64 16] w fun e w' => e = .returned (.bool true) ∧ w' = w := by
  have h : (bits .and .i64 16 15 == 0) = true := by decide +kernel
  have H : Hid ((bits .and .i64 16 15 == 0) = true) := h
  clear h
  go_enter Tryz.func126, Tryz.ntmps126
  go_wp2
  go_ret
  exact ⟨congrArg Ending.returned (congrArg Value.bool H.out), rfl⟩
theorem c186 (w : World) (hT : Ie.Tab w) : Calls Tryz.prog 127 #[.int .u64 16] w fun e w' => e = .returned (.int .i64 4) ∧ w' = w := by
  have k := Ie.c51 16 (by omega) (by omega) w hT
  have e : Lib.ctz 64 16 = 4 := by decide
  rw [e] at k
  clear e
  go_enter Tryz.func127, Tryz.ntmps127
  go_wp2_with fail
  refine k.mono ?_
  rintro r w1 ⟨rfl, rfl⟩
  go_wp2
  go_ret
  exact ⟨rfl, rfl⟩

/-- the digits' signs in base 16, as the library writes them -/
def hx (d : Nat) : Nat := if d < 10 then 48 + d else 87 + d

end Go.Proofs.YtceoeiojoffnnaaGreatDoor

/- formatBits at base 16. -/
namespace Go.Proofs.YtceoeiojoffnnaaGreatDoor
set_option linter.unusedVariables false
set_option linter.unusedSimpArgs false
open Go.RowKit Go.Fl64

theorem z147 : Tryz.zeroCells147 = Array.replicate 65 (.int .u8 0) := by kernel_rfl

/-- the array of 65 bytes that the call lays, its bytes f -/
structure Bt (w wr : World) (f : Nat → Nat) : Prop where
  below : Below w.heap.size w wr
  row : ∃ c : Array Value, wr.heap[w.heap.size]? = some (.cells c 147 (0, 0)) ∧ c.size = 65 ∧ ∀ t, t < 65 → c[t]? = some (.int .u8 (f t : Nat))
theorem Bt.start (w : World) : Bt w (w.alloc (.cells Tryz.zeroCells147 147)) (fun _ => 0) :=
  ⟨(Below.refl _ _).alloc (Nat.le_refl _) _, _, heap_alloc_new _ _, by rw [z147]; simp, fun t ht => by rw [z147]; simp [ht]⟩
theorem Bt.cell {w wr : World} {f : Nat → Nat} (h : Bt w wr f) {i : Nat} (hi : i < 65) : wr.cell? ⟨w.heap.size, i, none⟩ = some (.int .u8 (f i : Nat)) := by
  obtain ⟨c, h1, h2, h3⟩ := h.row
  simp [World.cell?, h1, h3 i hi]
theorem Bt.frozen {w wr : World} {f : Nat → Nat} (h : Bt w wr f) (i : Nat) : wr.frozen? ⟨w.heap.size, i, none⟩ = false := by
  obtain ⟨c, h1, _, _⟩ := h.row
  simp [World.frozen?, h1]

theorem Bt.set {w wr : World} {f : Nat → Nat} (h : Bt w wr f) (i d : Nat) : Bt w (wr.setCell ⟨w.heap.size, i, none⟩ (.int .u8 (d : Nat))) (fun t => if t = i then d else f t) := by
  obtain ⟨c, h1, h2, h3⟩ := h.row
  refine ⟨h.below.setCell (Nat.le_refl _) _, c.setIfInBounds i (.int .u8 (d : Nat)), ?_, by simpa using h2, fun t ht => ?_⟩
  · simp [World.setCell, Array.getElem?_modify, h1]
  · rw [Array.getElem?_setIfInBounds]
    by_cases e : t = i
    · subst e; simp [h2, ht]
    · rw [if_neg (fun h => e h.symm), h3 t ht]; simp [e]
theorem Bt.congr {w wr : World} {f g : Nat → Nat} (h : Bt w wr f) (e : ∀ t, t < 65 → f t = g t) : Bt w wr g := by
  obtain ⟨c, h1, h2, h3⟩ := h.row
  exact ⟨h.below, c, h1, h2, fun t ht => by rw [h3 t ht, e t ht]⟩
theorem hex_get (m : Nat) (hm : m < 16) (h : m < (⟨#[48, 49, 50, 51, 52, 53, 54, 55, 56, 57, 97, 98, 99, 100, 101, 102, 103, 104, 105, 106, 107, 108, 109, 110, 111, 112, 113, 114, 115, 116, 117, 118, 119, 120, 121, 122]⟩ : ByteArray).size) : ((⟨#[48, 49, 50, 51, 52, 53, 54, 55, 56, 57, 97, 98, 99, 100, 101, 102, 103, 104, 105, 106, 107, 108, 109, 110, 111, 112, 113, 114, 115, 116, 117, 118, 119, 120, 121, 122]⟩ : ByteArray)[m]'h).toNat = hx m := by
  have : m = 0 ∨ m = 1 ∨ m = 2 ∨ m = 3 ∨ m = 4 ∨ m = 5 ∨ m = 6 ∨ m = 7 ∨ m = 8 ∨ m = 9 ∨ m = 10 ∨ m = 11 ∨ m = 12 ∨ m = 13 ∨ m = 14 ∨ m = 15 := by omega
  rcases this with rfl | rfl | rfl | rfl | rfl | rfl | rfl | rfl | rfl | rfl | rfl | rfl | rfl | rfl | rfl | rfl <;> rfl
/-- one sign more -/
theorem hex_step {w wr : World} {u j k d : Nat} (hM : Bt w wr (fun t => if 65 - j ≤ t then hx (u / 16 ^ (64 - t) % 16) else 0)) (hk : 65 - j = k + 1) (hd : d = hx (u / 16 ^ j % 16)) (hj : j ≤ 8) :
    Bt w (wr.setCell ⟨w.heap.size, k, none⟩ (.int .u8 (d : Nat))) (fun t => if 65 - (j + 1) ≤ t then hx (u / 16 ^ (64 - t) % 16) else 0) := by
  refine (hM.set k d).congr fun t ht => ?_
  by_cases e : t = k
  · subst e
    rw [if_pos rfl, if_pos (by omega), hd, show 64 - t = j by omega]
  · rw [if_neg e]
    by_cases e2 : 65 - j ≤ t
    · rw [if_pos e2, if_pos (by omega)]
    · rw [if_neg e2, if_neg (by omega)]

/-- the signs of u in base 16, j + 1 of them, the highest first -/
def hexL (u j : Nat) : List UInt8 := (List.range (j + 1)).map fun i => UInt8.ofNat (hx (u / 16 ^ (j - i) % 16))
theorem hexL_length (u j : Nat) : (hexL u j).length = j + 1 := by simp [hexL]
theorem hx_lt (d : Nat) (h : d < 16) : hx d < 256 := by unfold hx; split <;> omega
theorem hexL_get {u j i : Nat} (h : i < (hexL u j).length) : ((hexL u j)[i].toNat : Int) = (hx (u / 16 ^ (j - i) % 16) : Nat) := by
  simp only [hexL, List.getElem_map, List.getElem_range]
  have := hx_lt (u / 16 ^ (j - i) % 16) (Nat.mod_lt _ (by omega))
  rw [UInt8.toNat_ofNat_of_lt' this]
theorem arr147 (W : World) (g k : Nat) (hk : k < 65) : (Instr.sliceAt 147 (.pointer (some ⟨g, 0, none⟩)) (some (.int .i64 (k : Int))) none none).run Tryz.prog W = .ok (.slice (some ⟨g, k, none⟩) (65 - k) (65 - k)) W := by
  have hal : Tryz.prog.arrayLen 147 = 65 := by kernel_rfl
  rw [run_sliceAt_array_l W 147 ⟨g, 0, none⟩ (by kernel_rfl) .i64 (k : Int) (by omega) (by rw [hal]; omega)]
  have hs : ∀ W, (sizeOf (Tryz.prog.elem 147)).run Tryz.prog W = .ok 1 W := fun W => by kernel_rfl
  rw [hs, hal]
  show Result.ok (slicedAt ⟨g, 0, none⟩ (k : Int).toNat 65 65 1) W = _
  unfold slicedAt
  rw [Int.toNat_natCast, if_neg (by omega), Nat.mul_one]
  have : (⟨g, 0, none⟩ : Addr).add k = ⟨g, k, none⟩ := by simp [Addr.add]; omega
  rw [this]

set_option maxRecDepth 200000 in
theorem c168_1 (u : Nat) (w : World) (hT : Ie.Tab w) (hu : u < 4294967296) :
    Calls Tryz.prog 113 #[.slice none 0 0, .int .u64 u, .int .i64 16, .bool false, .bool false] w fun e w' => ∃ j : Nat, u / 16 ^ j < 16 ∧ (j = 0 ∨ 16 ≤ u / 16 ^ (j - 1)) ∧ e = .returned (.tuple #[.slice none 0 0, .string ⟨(hexL u j).toArray⟩]) ∧ Below w.heap.size w w' := by
  have h0 := Bt.start w
  have k186 := c186 _ (Tab.later hT h0.below)
  generalize hW : w.alloc (.cells Tryz.zeroCells147 147) = W at *
  have HW : Hid (w.alloc (.cells Tryz.zeroCells147 147) = W) := hW
  have H0 : Hid (Bt w W (fun _ => 0)) := h0
  clear h0 hT
  go_enter Tryz.func113, Tryz.ntmps113
  go_wp2_with fail
  clear hW
  refine (c185 _).mono ?_
  rintro r w1 ⟨rfl, rfl⟩
  go_wp2_with fail
  refine k186.mono ?_
  rintro r w1' ⟨rfl, rfl⟩
  clear k186
  go_wp2
  go_loopw [1, 13] (fun a b wr => ∃ j v : Nat, a = .int .u64 v ∧ b = .int .i64 ((65 - j : Nat) : Int) ∧ Hid (u / 16 ^ j = v ∧ (j = 0 ∨ 16 ≤ u / 16 ^ (j - 1))) ∧ v < 4294967296 ∧ j ≤ 8 ∧ Bt w wr (fun t => if 65 - j ≤ t then hx (u / 16 ^ (64 - t) % 16) else 0)) (fun a _ _ => (intOf a).toNat)
  case atStart => exact ⟨0, u, rfl, rfl, ⟨(by simp : u / 16 ^ 0 = u), .inl rfl⟩, hu, by omega, H0.out.congr fun t ht => by rw [if_neg (by omega)]⟩
  case round =>
    obtain ⟨j, v, rfl, rfl, hv, hvl, hj8, hM⟩ := hrel
    by_cases hge : 16 ≤ v
    · have hgi : (16 : Int) ≤ (v : Int) := by omega
      have hj7 : j < 7 := by
        refine Nat.lt_of_not_le fun h7 => ?_
        have h1 : 16 * 16 ^ j ≤ u := by
          have := hv.out.1
          rw [← this] at hge
          exact (Nat.le_div_iff_mul_le (Nat.pow_pos (by omega))).1 hge
        have h2 : 16 ^ 7 ≤ 16 ^ j := Nat.pow_le_pow_right (by omega) h7
        omega
      have g2 := hM.cell (i := 65 - j - 1) (by omega)
      have g3 := hM.frozen (65 - j - 1)
      have HM : Hid (Bt w wr (fun t => if 65 - j ≤ t then hx (u / 16 ^ (64 - t) % 16) else 0)) := hM
      clear hM
      obtain ⟨k, hk⟩ : ∃ k, 65 - j = k + 1 := ⟨64 - j, by omega⟩
      rw [hk] at g2 g3 ⊢
      rw [Nat.add_sub_cancel] at g2 g3
      generalize (if 65 - j ≤ k then hx (u / 16 ^ (64 - k) % 16) else 0) = old at *
      have hkb : k < 65 := by omega
      have hki : (k : Int) < 65 := by omega
      have hand : bits .and .u64 (v : Int) 15 = ((v % 16 : Nat) : Int) := by
        rw [show (15 : Int) = ((15 : Nat) : Int) from rfl, u64_and_nat v 15 (by omega) (by omega), show (15 : Nat) = 2 ^ 4 - 1 from rfl, Nat.and_two_pow_sub_one_eq_mod]
      have hml : v % 16 < 16 := Nat.mod_lt _ (by omega)
      generalize hm : v % 16 = m at *
      have HMM : Hid (v % 16 = m) := hm
      have HK : Hid (65 - j = k + 1) := hk
      clear hm hk
      go_wp2
      refine ⟨⟨j + 1, v / 16, by simp, ?_, ?_, by omega, by omega, ?_⟩, by simp [intOf]; omega⟩
      · have := HK.out
        congr 1
        omega
      · refine ⟨?_, .inr (by rw [Nat.add_sub_cancel, hv.out.1]; exact hge)⟩
        rw [Nat.pow_succ, ← Nat.div_div_eq_div_mul, hv.out.1]
      · exact hex_step HM.out HK.out (by rw [hex_get m hml, hv.out.1, HMM.out]) (by omega)
    · have hgi : ¬ (16 : Int) ≤ (v : Int) := by omega
      have g2 := hM.cell (i := 65 - j - 1) (by omega)
      have g3 := hM.frozen (65 - j - 1)
      have HM : Hid (Bt w wr (fun t => if 65 - j ≤ t then hx (u / 16 ^ (64 - t) % 16) else 0)) := hM
      clear hM
      obtain ⟨k, hk⟩ : ∃ k, 65 - j = k + 1 := ⟨64 - j, by omega⟩
      rw [hk] at g2 g3 ⊢
      rw [Nat.add_sub_cancel] at g2 g3
      have hkb : k < 65 := by omega
      have hki : (k : Int) < 65 := by omega
      have hvi : (v : Int) < 36 := by omega
      have HK : Hid (65 - j = k + 1) := hk
      clear hk
      have hsl := fun W => arr147 W w.heap.size k hkb
      go_wp2
      rw [hex_get v (by omega)]
      have hE := hex_step HM.out HK.out (d := hx v) (by rw [hv.out.1, Nat.mod_eq_of_lt (by omega)]) hj8
      generalize wr.setCell ⟨w.heap.size, k, none⟩ (.int .u8 (hx v : Nat)) = wf at *
      have hkj : k = 64 - j := by have := HK.out; omega
      have hcv := run_convert_bytes_back (P := Tryz.prog) wf 94 9 5 ⟨w.heap.size, k, none⟩ (65 - k) (hexL u j) Tryz.underlying94 Tryz.underlying5 Tryz.underlying9 (fun i hi => by
        rw [hexL_length] at hi
        have ea : (⟨w.heap.size, k, none⟩ : Addr).add i = ⟨w.heap.size, k + i, none⟩ := by simp [Addr.add]
        rw [ea]
        rw [hE.cell (by omega), if_pos (by omega), hexL_get, show 64 - (k + i) = j - i by omega])
      rw [hexL_length, show j + 1 = 65 - k by omega] at hcv
      have HF : Hid (Below w.heap.size w wf ∧ u / 16 ^ j < 16 ∧ (j = 0 ∨ 16 ≤ u / 16 ^ (j - 1))) := ⟨hE.below, by rw [hv.out.1]; omega, hv.out.2⟩
      clear hE hkj g2 g3 HM hsl
      rw [hcv]
      go_wp2
      go_ret2
      exact ⟨j, HF.out.2.1, HF.out.2.2, rfl, HF.out.1⟩

set_option maxRecDepth 200000 in
theorem c132 (u : Nat) (w : World) (hT : Ie.Tab w) (hu : u < 4294967296) :
    Calls Tryz.prog 93 #[.int .u64 u, .int .i64 16] w fun e w' => ∃ j : Nat, u / 16 ^ j < 16 ∧ (j = 0 ∨ 16 ≤ u / 16 ^ (j - 1)) ∧ e = .returned (.string ⟨(hexL u j).toArray⟩) ∧ Below w.heap.size w w' := by
  have k := c168_1 u w hT hu
  clear hT hu
  go_enter Tryz.func93, Tryz.ntmps93
  go_wp2_with fail
  refine k.mono ?_
  rintro r w1 ⟨j, h1, h2, rfl, hb⟩
  have HF : Hid (u / 16 ^ j < 16 ∧ (j = 0 ∨ 16 ≤ u / 16 ^ (j - 1)) ∧ Below w.heap.size w w1) := ⟨h1, h2, hb⟩
  clear k h1 h2 hb
  generalize hl : hexL u j = l at *
  have HL : Hid (hexL u j = l) := hl
  clear hl
  go_wp2
  go_ret
  exact ⟨j, HF.out.1, HF.out.2.1, by rw [HL.out]; rfl, HF.out.2.2⟩
set_option maxRecDepth 200000 in
theorem c81 (u : Nat) (w : World) (hT : Ie.Tab w) (hu : u < 4294967296) :
    Calls Tryz.prog 72 #[.int .u64 u, .int .i64 16] w fun e w' => ∃ j : Nat, u / 16 ^ j < 16 ∧ (j = 0 ∨ 16 ≤ u / 16 ^ (j - 1)) ∧ e = .returned (.string ⟨(hexL u j).toArray⟩) ∧ Below w.heap.size w w' := by
  have k := c132 u w hT hu
  clear hT hu
  go_enter Tryz.func72, Tryz.ntmps72
  go_wp2_with fail
  refine k.mono ?_
  rintro r w1 ⟨j, h1, h2, rfl, hb⟩
  have HF : Hid (u / 16 ^ j < 16 ∧ (j = 0 ∨ 16 ≤ u / 16 ^ (j - 1)) ∧ Below w.heap.size w w1) := ⟨h1, h2, hb⟩
  clear k h1 h2 hb
  generalize hl : hexL u j = l at *
  have HL : Hid (hexL u j = l) := hl
  clear hl
  go_wp2
  go_ret
  exact ⟨j, HF.out.1, HF.out.2.1, by rw [HL.out]; rfl, HF.out.2.2⟩
end Go.Proofs.YtceoeiojoffnnaaGreatDoor
