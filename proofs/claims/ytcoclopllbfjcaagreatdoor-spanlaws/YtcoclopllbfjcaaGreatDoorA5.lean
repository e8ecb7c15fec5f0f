/- Own work: contracts of the program's functions, part 5: R3 W38 W39 W40 W34 W28 W29 W35 W41. -/
import Derived.Test.YtcoclopllbfjcaaGreatDoorA4
import Derived.Deep.RegionHeld3
import Derived.Laws.AppendOwnNone
import Derived.Lib.SliceRun
import Derived.Laws.IdiomStrings
import Derived.Deep.CutRange

/- The document's norm. -/
namespace Go.Proofs.YtcoclopllbfjcaaGreatDoor
set_option linter.unusedVariables false
set_option linter.unusedSimpArgs false
open Go.RowKit

theorem Tryz.info45 : (Tryz.prog.info? 45).map (·.size) = some 3 := by kernel_rfl
theorem r64 {ao : Option Addr} {n cap x : Nat} {w : World} (hn : dlen x = n) (hc : n ≤ cap) (h : At w ao n x) (k : Nat) (hx : dlen x ≤ 17592186044416) (hk : k / 32 < dlen x) (hk2 : k ≤ 1099511627776) :
    Calls Tryz.prog 112 #[.slice ao n cap, .int .i64 k] w fun e w' => ∃ ao cap' bb, e = .returned (.tuple #[.slice ao (dlen (x / 2 ^ k)) cap', .bool bb]) ∧ At w' ao (dlen (x / 2 ^ k)) (x / 2 ^ k) ∧ dlen (x / 2 ^ k) ≤ cap' ∧ Below w.heap.size w w' := by
  obtain ⟨b, o, hb, hcell⟩ := h
  subst hn
  obtain rfl := hb (by omega)
  obtain ⟨m, hm⟩ : ∃ m, dlen x = k / 32 + m := ⟨dlen x - k / 32, by omega⟩
  rw [hm] at hcell hc ⊢
  exact r64_1 b o cap m _ _ x k w (by omega) (by omega) hk2 hc rfl rfl hm hcell
theorem store3_29 {w : World} {g : Nat} {a b c : Value} (a' b' c' : Value) (h : w.heap[g]? = some (.cells #[a, b, c] 45 (0, 0))) :
    (((w.setCell ⟨g, 0, none⟩ a').setCell ⟨g, 1, none⟩ b').setCell ⟨g, 2, none⟩ c').heap[g]? = some (.cells #[a', b', c'] 45 (0, 0)) := by
  simp [World.setCell, Array.getElem?_modify, h]
theorem box_cells29 {w : World} {g : Nat} {a b c : Value} (h : w.heap[g]? = some (.cells #[a, b, c] 45 (0, 0))) :
    (w.cell? ⟨g, 0, none⟩ = some a ∧ w.cell? ⟨g, 1, none⟩ = some b ∧ w.cell? ⟨g, 2, none⟩ = some c) ∧ (w.frozen? ⟨g, 0, none⟩ = false ∧ w.frozen? ⟨g, 1, none⟩ = false ∧ w.frozen? ⟨g, 2, none⟩ = false) := by
  simp [World.cell?, World.frozen?, h]
/-- what the document's norm makes -/
def Nr (w' : World) (base : Nat) (a : Value) (neg : Bool) (x : Nat) (e : Int) : Prop :=
  (x = 0 ∧ a = NumV false (.slice none 0 0) 0) ∨ (x ≠ 0 ∧ ∃ g cap, a = NumV neg (.slice (some ⟨g, 0, none⟩) (dlen (x / 2 ^ tz x)) cap) (e + tz x) ∧ base ≤ g ∧ At w' (some ⟨g, 0, none⟩) (dlen (x / 2 ^ tz x)) (x / 2 ^ tz x))

set_option maxHeartbeats 2000000 in
set_option maxRecDepth 200000 in
theorem r34_0 (neg : Bool) (ao : Option Addr) (n cap : Nat) (e : Int) (w : World) (h : At w ao n 0) (hn : n ≤ cap) (hc : n ≤ 70368744177664) :
    Calls Tryz.prog 64 #[.bool neg, .slice ao n cap, .int .i64 e] w fun e w' => e = .returned (.agg #[.bool false, .slice none 0 0, .int .i64 0]) ∧ Below w.heap.size w w' := by
  have HB : Hid (Below w.heap.size w (w.alloc (.cells #[.bool false, .slice none 0 0, .int .i64 0] 45))) := (Below.refl _ _).alloc (Nat.le_refl _) _
  have k := r40 ao n cap 0 (w.alloc (.cells #[.bool false, .slice none 0 0, .int .i64 0] 45)) (by rw [dlen_zero]; omega) hn hc (h.later HB.out)
  rw [dlen_zero] at k
  clear h
  go_enter Tryz.func64, Tryz.ntmps64
  go_wp2_with fail
  refine k.mono ?_
  rintro e w1 ⟨rfl, rfl⟩
  go_wp2
  refine bodyPost_ret (results_cell_row rfl _ _ w.heap.size 45 #[.bool false, .slice none 0 0, .int .i64 0] (0, 0) _ rfl (heap_alloc_new _ _) Tryz.underlying45 rfl Tryz.info45) rfl ?_
  exact ⟨rfl, HB.out⟩

theorem and_one32 (a : Nat) (h : a < 4294967296) : bits .and .u32 (a : Int) 1 = ((a % 2 : Nat) : Int) := by
  have e := u32_and_nat a 1 h (by decide)
  rw [show ((1 : Nat) : Int) = 1 from rfl] at e
  rw [e, Nat.and_one_is_mod]
theorem bit_tz {x t i p d T : Nat} (hT : tz x = T) (hx : x ≠ 0) (ht : t ≤ T) (h : t / 32 = i ∧ t % 32 = p ∧ dg x i = d) : (bits BinOp.and IntKind.u32 ((d : Int) / 2 ^ p) 1 == 0) = decide (t < T) := by
  obtain ⟨rfl, rfl, rfl⟩ := h
  subst hT
  have hl := dg_lt x (t / 32)
  have e1 : ((dg x (t / 32) : Nat) : Int) / 2 ^ (t % 32) = ((dg x (t / 32) / 2 ^ (t % 32) : Nat) : Int) := by simp
  have hl2 : dg x (t / 32) / 2 ^ (t % 32) < 4294967296 := Nat.lt_of_le_of_lt (Nat.div_le_self ..) hl
  rw [e1, and_one32 _ hl2]
  have e2 : dg x (t / 32) / 2 ^ (t % 32) % 2 = x / 2 ^ t % 2 := by
    unfold dg
    rw [two_split (k := t), ← Nat.div_div_eq_div_mul]
    generalize x / B ^ (t / 32) = y
    have hp : t % 32 < 32 := Nat.mod_lt _ (by omega)
    generalize t % 32 = p at *
    have e3 : B = 2 ^ p * 2 ^ (32 - p) := by rw [← Nat.pow_add]; unfold B; have : p + (32 - p) = 32 := by omega
                                             rw [this]
    have e4 : 2 ^ (32 - p) = 2 * 2 ^ (31 - p) := by have : 32 - p = (31 - p) + 1 := by omega
                                                    rw [this, Nat.pow_succ, Nat.mul_comm]
    rw [e3, Nat.mod_mul_right_div_self, e4, Nat.mod_mul_right_mod]
  rw [e2]
  obtain ⟨h1, h2⟩ := tz_spec _ x (Nat.le_refl _) hx
  by_cases ht2 : t < tz x
  · have e5 : x / 2 ^ t % 2 = 0 := by
      obtain ⟨k, hk⟩ : ∃ k, tz x = t + (k + 1) := ⟨tz x - t - 1, by omega⟩
      rw [← h1]
      generalize x / 2 ^ tz x = y
      rw [hk, Nat.pow_add, Nat.mul_assoc, Nat.mul_div_cancel_left _ (Nat.two_pow_pos t), Nat.pow_succ, Nat.mul_comm (2 ^ k) 2, Nat.mul_assoc, Nat.mul_mod_right]
    rw [e5]; simp [ht2]
  · have : t = tz x := by omega
    subst this
    rw [h2]; simp

end Go.Proofs.YtcoclopllbfjcaaGreatDoor
/- slices.Clone, negated. -/
namespace Go.Proofs.YtcoclopllbfjcaaGreatDoor
set_option linter.unusedVariables false
set_option linter.unusedSimpArgs false
open Go.RowKit

theorem own_of_row {w : World} {base n x : Nat} {v : Value} (h : w.ownsRow base 85 1 v n (cells x n)) (hn : dlen x = n) : Own w base v x := by
  rcases h.2 with ⟨rfl, h0⟩ | ⟨g, cap, c, rfl, hb, hc, h1, h2, h3, h4⟩
  · exact .inl ⟨rfl, dlen_eq_zero.1 (by omega)⟩
  · refine .inr ⟨g, cap, fun i => c.getD i undef, by rw [hn], hb, by omega, by unfold maxLen at h2; omega, ⟨c, hc, by omega, fun i hi => ?_⟩, fun i hi => ?_⟩
    · have : i < c.size := by omega
      simp [Array.getD_eq_getD_getElem?, Array.getElem?_eq_getElem this]
    · have h5 : (cells x n)[i]? = c[i]? := by
        rw [← h4, Nat.mul_one, List.getElem?_take, if_pos (by omega), Array.getElem?_toList]
      rw [cells_get (by omega)] at h5
      simp [Array.getD_eq_getD_getElem?, ← h5]

set_option maxHeartbeats 4000000 in
set_option maxRecDepth 200000 in
theorem clone_1 (b o n cap x : Nat) (w : World) (hn0 : 0 < n) (hn : n ≤ 1000000000) (hx : dlen x = n) (hcell : ∀ i, i < n → w.cell? ⟨b, o + i, none⟩ = some (.int .u32 (dg x i : Nat))) :
    Calls Tryz.prog 135 #[.slice (some ⟨b, o, none⟩) n cap] w fun r w' => ∃ v, r = .returned v ∧ Own w' w.heap.size v x ∧ Below w.heap.size w w' := by
  have HX : Hid (dlen x = n) := hx
  have hnil := Lib.run_eql_slice_nil (P := Tryz.prog) w 43 85 (some ⟨b, o, none⟩) n cap 0 0 Tryz.underlying43
  have HN : Hid (∀ j u, (cells x n)[j]? = some u → (w.alloc (Obj.cells #[] 85)).cell? ((⟨b, o, none⟩ : Addr).add j) = some u) := fun j u hj => by
    have hjl : j < n := by
      have := (List.getElem?_eq_some_iff.1 hj).1
      rwa [cells_length] at this
    rw [cells_get hjl] at hj
    have hcl := hcell j hjl
    rw [show (⟨b, o, none⟩ : Addr).add j = ⟨b, o + j, none⟩ by simp [Addr.add]]
    rw [World.cell?_alloc_old _ _ _ (by have := World.block_lt_of_cell? _ _ hcl; show b ≠ w.heap.size; simp at this; omega)]
    rw [← hj]; exact hcl
  have hOM : (w.alloc (Obj.cells #[] 85)).ownsRow w.heap.size 85 1 (.slice (some ⟨w.heap.size, 0, none⟩) 0 0) 0 [] := ⟨rfl, .inr ⟨w.heap.size, 0, #[], rfl, Nat.le_refl _, heap_alloc_new _ _, Nat.le_refl _, by unfold maxLen; omega, rfl, rfl⟩⟩
  obtain ⟨i0, hi0, hz0, hz1, hz2⟩ := info_parts Tryz.info85
  clear hx hcell
  go_enter Tryz.func135, Tryz.ntmps135
  go_wp2_with (at_builtin; refine wpList_append_own _ rfl _ _ 43 rfl w.heap.size 85 i0 (.int .u32 0) 1 4 Tryz.underlying43 hi0 hz0 hz1 hz2 rfl (by decide) _ 0 [] rfl hOM ⟨b, o, none⟩ n cap (cells x n) rfl (by rw [cells_length, Nat.mul_one]) HN.out (by intro u hu; simp [cells] at hu; obtain ⟨j, -, rfl⟩ := hu; rfl) (by unfold maxLen; omega) (by omega) (by simp) ?_)
  intro v' w2 hown hgrow _
  have HG : Hid (Below w.heap.size w w2 ∧ w2.ownsRow w.heap.size 85 1 v' n (cells x n)) := ⟨Below.grown ((Below.refl w.heap.size w).alloc (Nat.le_refl _) _) hgrow (by simp) (fun k hk => by simp [Value.ownBlock] at hk; omega), hown⟩
  clear hown hgrow hnil HN hOM hi0 hz0 hz1 hz2
  go_wp2
  go_ret
  exact ⟨v', rfl, own_of_row HG.out.2 HX.out, HG.out.1⟩

set_option maxHeartbeats 4000000 in
set_option maxRecDepth 200000 in
theorem clone_nil (cap : Nat) (w : World) :
    Calls Tryz.prog 135 #[.slice none 0 cap] w fun r w' => r = .returned (.slice none 0 0) ∧ w' = w := by
  have hnil := Lib.run_eql_slice_nil (P := Tryz.prog) w 43 85 none 0 cap 0 0 Tryz.underlying43
  go_enter Tryz.func135, Tryz.ntmps135
  go_wp2
  go_ret
  exact ⟨rfl, rfl⟩

set_option maxHeartbeats 4000000 in
set_option maxRecDepth 200000 in
theorem clone_0 (ad : Addr) (cap : Nat) (w : World) :
    Calls Tryz.prog 135 #[.slice (some ad) 0 cap] w fun r w' => ∃ v, r = .returned v ∧ Own w' w.heap.size v 0 ∧ Below w.heap.size w w' := by
  have hnil := Lib.run_eql_slice_nil (P := Tryz.prog) w 43 85 (some ad) 0 cap 0 0 Tryz.underlying43
  have HG : Hid (Below w.heap.size w (w.alloc (Obj.cells #[] 85)) ∧ (w.alloc (Obj.cells #[] 85)).heap[w.heap.size]? = some (.cells #[] 85 (0, 0))) := ⟨(Below.refl _ _).alloc (Nat.le_refl _) _, heap_alloc_new _ _⟩
  go_enter Tryz.func135, Tryz.ntmps135
  go_wp2
  go_ret
  refine ⟨.slice (some ⟨w.heap.size, 0, none⟩) 0 0, rfl, .inr ⟨w.heap.size, 0, fun _ => undef, by rw [dlen_zero], Nat.le_refl _, by rw [dlen_zero]; omega, by omega, ⟨#[], HG.out.2, rfl, fun i hi => by omega⟩, fun i hi => by rw [dlen_zero] at hi; omega⟩, HG.out.1⟩

theorem clone_ok {v : Value} {x : Nat} {w : World} (h : Is w v x) (hx : dlen x ≤ 1000000000) :
    Calls Tryz.prog 135 #[v] w fun r w' => ∃ v, r = .returned v ∧ Own w' w.heap.size v x ∧ Below w.heap.size w w' := by
  obtain ⟨ao, cap, rfl, h1, h2, h3⟩ := h
  by_cases h0 : x = 0
  · subst h0
    rw [dlen_zero]
    cases ao with
    | none =>
      refine (clone_nil cap w).mono ?_
      rintro r w' ⟨rfl, rfl⟩
      exact ⟨_, rfl, .inl ⟨rfl, rfl⟩, Below.refl _ _⟩
    | some ad => exact clone_0 ad cap w
  · have hl : 0 < dlen x := Nat.pos_of_ne_zero fun e => h0 (dlen_eq_zero.1 e)
    obtain ⟨b, o, g1, g2⟩ := h3
    obtain rfl := g1 hl
    exact clone_1 b o _ cap x w hl hx rfl g2
end Go.Proofs.YtcoclopllbfjcaaGreatDoor
/- negated, of a number below nought. -/
namespace Go.Proofs.YtcoclopllbfjcaaGreatDoor
set_option linter.unusedVariables false
set_option linter.unusedSimpArgs false
open Go.RowKit

end Go.Proofs.YtcoclopllbfjcaaGreatDoor
/- negated. -/
namespace Go.Proofs.YtcoclopllbfjcaaGreatDoor
set_option linter.unusedVariables false
set_option linter.unusedSimpArgs false
open Go.RowKit

end Go.Proofs.YtcoclopllbfjcaaGreatDoor
/- Up, refused. -/
namespace Go.Proofs.YtcoclopllbfjcaaGreatDoor
set_option linter.unusedVariables false
set_option linter.unusedSimpArgs false
open Go.RowKit

end Go.Proofs.YtcoclopllbfjcaaGreatDoor
/- math.Abs, math.IsInf. -/
namespace Go.Proofs.YtcoclopllbfjcaaGreatDoor
set_option linter.unusedVariables false
set_option linter.unusedSimpArgs false
open Go.RowKit Go.Fl64

theorem c159 (a : Nat) (ha : a < 18446744073709551616) (w : World) :
    Calls Tryz.prog 21 #[.float .f64 a] w fun e w' => e = .returned (.float .f64 (mag a)) ∧ w' = w := by
  have hb := Ie.run_bits
  have hf := Ie.run_frombits
  go_enter Tryz.func21, Tryz.ntmps21
  go_wp2
  go_ret
  refine ⟨?_, rfl⟩
  show Ending.returned (.float .f64 (bits .andNot .u64 a 9223372036854775808).toNat) = _
  rw [andNot_sign a ha]
  simp

theorem mag_lt' (a : Nat) (ha : a < 18446744073709551616) : mag a < 18446744073709551616 := by unfold mag; omega

theorem c123 (a : Nat) (ha : a < 18446744073709551616) (w : World) :
    Calls Tryz.prog 74 #[.float .f64 a, .int .i64 0] w fun e w' => e = .returned (.bool (lt 9218868437227405311 (mag a))) ∧ w' = w := by
  have k := c159 a ha
  have h := ord_gt (mag a) 9218868437227405311 (mag_lt' a ha) (by omega)
  generalize mag a = m at *
  have H : Hid ((FloatKind.f64.format.order m 9218868437227405311 == some Ordering.gt) = lt 9218868437227405311 m) := h
  clear h
  go_enter Tryz.func74, Tryz.ntmps74
  go_wp2_with (first | (go_at_call 21; refine (k _).mono ?_; rintro e w' ⟨rfl, rfl⟩))
  go_ret
  exact ⟨congrArg Ending.returned (congrArg Value.bool H.out), rfl⟩

/-- the digits' signs in base 16, as the library writes them -/
def hx (d : Nat) : Nat := if d < 10 then 48 + d else 87 + d

end Go.Proofs.YtcoclopllbfjcaaGreatDoor
/- formatBits at base 16. -/
namespace Go.Proofs.YtcoclopllbfjcaaGreatDoor
set_option linter.unusedVariables false
set_option linter.unusedSimpArgs false
open Go.RowKit Go.Fl64

end Go.Proofs.YtcoclopllbfjcaaGreatDoor
/- Up. -/
namespace Go.Proofs.YtcoclopllbfjcaaGreatDoor
set_option linter.unusedVariables false
set_option linter.unusedSimpArgs false
open Go.RowKit Go.Fl64

theorem Nrm.later {w w' : World} {base : Nat} {a : Value} {neg : Bool} {x : Nat} {e : Int} (h : Nrm w base a neg x e) (hb : Below w.heap.size w w') : Nrm w' base a neg x e := by
  rcases h with h | ⟨h0, v, h1, ho⟩
  · exact .inl h
  · exact .inr ⟨h0, v, h1, ho.later hb⟩

/-- a number in a box of its own, made behind w3 -/
def Bx (w3 wc : World) (g : Nat) (s : Bool) (ao : Option Addr) (n cap : Nat) (ex : Int) (sL : Bool) (zL : Nat) (eL : Int) : Prop :=
  wc.heap[g]? = some (.cells #[.bool s, .slice ao n cap, .int .i64 ex] 96 (0, 0)) ∧ w3.heap.size ≤ g ∧ Below w3.heap.size w3 wc ∧ Nrm wc w3.heap.size (.agg #[.bool s, .slice ao n cap, .int .i64 ex]) sL zL eL
theorem Bx.new {w3 w7 : World} {base : Nat} {s : Bool} {ao : Option Addr} {n cap : Nat} {ex : Int} {sL : Bool} {zL : Nat} {eL : Int} (hn : Nrm w7 base (.agg #[.bool s, .slice ao n cap, .int .i64 ex]) sL zL eL) (hb : Below w3.heap.size w3 w7) (hs : w3.heap.size ≤ base) :
    Bx w3 (w7.alloc (.cells #[.bool s, .slice ao n cap, .int .i64 ex] 96)) w7.heap.size s ao n cap ex sL zL eL :=
  ⟨heap_alloc_new _ _, hb.size, hb.alloc hb.size _, (hn.later ((Below.refl _ _).alloc (Nat.le_refl _) _)).mono hs⟩
theorem lt_of_box {w : World} {g : Nat} {o : Obj} (h : w.heap[g]? = some o) : g < w.heap.size := (Array.getElem?_eq_some_iff.1 h).1
theorem Bx.put {w3 w7 : World} {base g : Nat} {s : Bool} {ao : Option Addr} {n cap : Nat} {ex : Int} {sL : Bool} {zL : Nat} {eL : Int} {p q r : Value} (hn : Nrm w7 base (.agg #[.bool s, .slice ao n cap, .int .i64 ex]) sL zL eL) (hb : Below w3.heap.size w3 w7) (hs : w3.heap.size ≤ base) (hg : w3.heap.size ≤ g) (hlt : g < base) (hbx : w7.heap[g]? = some (.cells #[p, q, r] 96 (0, 0))) :
    Bx w3 (((w7.setCell ⟨g, 0, none⟩ (.bool s)).setCell ⟨g, 1, none⟩ (.slice ao n cap)).setCell ⟨g, 2, none⟩ (.int .i64 ex)) g s ao n cap ex sL zL eL :=
  ⟨store3 _ _ _ hbx, hg, below_store3 hb hg _ _ _, (hn.store hlt _ _ _).mono hs⟩

theorem same_self (a : Nat) : same a a = true := by simp [same]
end Go.Proofs.YtcoclopllbfjcaaGreatDoor
/- Sub. -/
namespace Go.Proofs.YtcoclopllbfjcaaGreatDoor
set_option linter.unusedVariables false
set_option linter.unusedSimpArgs false
open Go.RowKit

theorem dlen_sumN (na : Bool) (x : Nat) (ea : Int) (nb : Bool) (y : Nat) (eb : Int) (hx : dlen x ≤ 500000) (hy : dlen y ≤ 500000) (ha : -4000000 ≤ ea ∧ ea ≤ 4000000) (hb : -4000000 ≤ eb ∧ eb ≤ 4000000) : dlen (sumN na x ea nb y eb).2.1 ≤ 1000000 := by
  unfold sumN
  have l1 : dlen (x * 2 ^ (ea - min ea eb).toNat) ≤ 760000 := by have := shl_len (x := x) (k := (ea - min ea eb).toNat) rfl; omega
  have l2 : dlen (y * 2 ^ (eb - min ea eb).toNat) ≤ 760000 := by have := shl_len (x := y) (k := (eb - min ea eb).toNat) rfl; omega
  have l3 := dlen_add_le (x * 2 ^ (ea - min ea eb).toNat) (y * 2 ^ (eb - min ea eb).toNat)
  split
  · show dlen y ≤ _; omega
  · split
    · show dlen x ≤ _; omega
    · split
      · show dlen (_ + _) ≤ _; omega
      · split
        · have := dlen_mono (Nat.sub_le (y * 2 ^ (eb - min ea eb).toNat) (x * 2 ^ (ea - min ea eb).toNat)); show dlen (_ - _) ≤ _; omega
        · have := dlen_mono (Nat.sub_le (x * 2 ^ (ea - min ea eb).toNat) (y * 2 ^ (eb - min ea eb).toNat)); show dlen (_ - _) ≤ _; omega

end Go.Proofs.YtcoclopllbfjcaaGreatDoor
