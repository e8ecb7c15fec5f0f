/- Own work: contracts of the program's functions, part A3. -/
import Derived.Test.YtceoeiojoffnnaaGreatDoorA2
import Derived.Test.YtceoeiojoffnnaaGreatDoorA1

/- subDigits. -/
namespace Go.Proofs.YtceoeiojoffnnaaGreatDoor
set_option linter.unusedVariables false
set_option linter.unusedSimpArgs false
open Go.RowKit

theorem sub_round {w wr : World} {n x y j r s : Nat} (hM : Mk w wr n (fun t => if t < j then dg (x - y) t else 0)) (hr : r = dg (x - y) j) (hs : s = subb x y (j + 1)) (hj : j < n) :
    (∃ j_1 : Nat, j_1 ≤ n ∧ Value.int .u32 (s : Nat) = Value.int .u32 (subb x y j_1 : Nat) ∧ Value.int .i64 ((j : Int) + 1) = Value.int .i64 (j_1 : Int) ∧
      Mk w (wr.setCell ⟨w.heap.size, j, none⟩ (Value.int .u32 (r : Nat))) n fun t => if t < j_1 then dg (x - y) t else 0) ∧
    n - (intOf (Value.int .i64 ((j : Int) + 1))).toNat < n - (intOf (Value.int .i64 (j : Int))).toNat := by
  subst hr hs
  refine ⟨⟨j + 1, by omega, rfl, by simp, (hM.set j _).congr fun i hi => ?_⟩, by simp [intOf]; omega⟩
  by_cases e : i = j
  · subst e
    rw [if_pos rfl, if_pos (by omega)]
  · rw [if_neg e]
    by_cases e2 : i < j
    · rw [if_pos e2, if_pos (by omega)]
    · rw [if_neg e2, if_neg (by omega)]

theorem c138_1 (ao bo : Option Addr) (ba oa bb ob na nb ca cb x y : Nat) (w : World) (ha : 0 < na → ao = some ⟨ba, oa, none⟩) (hb : 0 < nb → bo = some ⟨bb, ob, none⟩) (hna : na ≤ 35184372088832) (hx : dlen x = na) (hy : dlen y = nb) (hle : y ≤ x)
    (hca : ∀ i, i < na → w.cell? ⟨ba, oa + i, none⟩ = some (.int .u32 (dg x i : Nat))) (hcb : ∀ i, i < nb → w.cell? ⟨bb, ob + i, none⟩ = some (.int .u32 (dg y i : Nat))) :
    Calls Tryz.prog 77 #[.slice ao na ca, .slice bo nb cb] w fun e w' => ∃ v, e = .returned v ∧ Own w' w.heap.size v (x - y) ∧ Below w.heap.size w w' := by
  have hmk := run_make_row' (P := Tryz.prog) 23 39 (.int .u32 0) 4 Tryz.underlying23 Tryz.info39 rfl .i64 .i64 na (by omega) (by omega)
  have HX : Hid (dlen x = na) := hx
  have HY : Hid (dlen y = nb) := hy
  have HLE : Hid (y ≤ x) := hle
  have hnb : nb ≤ na := by have := dlen_mono hle; omega
  have HWS : Hid (wsub x y na = x - y) := wsub_of_le (by rw [← hx]; exact lt_dlen x) hle
  clear hx hy hle
  go_enter Tryz.func77, Tryz.ntmps77
  go_wp2
  clear hmk
  go_loopw [6, 15] (fun c i wr => ∃ j : Nat, j ≤ na ∧ c = .int .u32 (subb x y j : Nat) ∧ i = .int .i64 j ∧ Mk w wr na (fun t => if t < j then dg (x - y) t else 0)) (fun _ i _ => na - (intOf i).toNat)
  case atStart => exact ⟨0, Nat.zero_le _, by rw [subb_zero]; rfl, rfl, (Mk.start w _).congr fun i hi => by rw [if_neg (by omega)]⟩
  case round =>
    obtain ⟨j, hj, rfl, rfl, hM⟩ := hrel
    by_cases hja : j < na
    · obtain rfl := ha (by omega)
      have g1 := hM.old (hca j hja)
      have g2 := hM.cell (i := j) (by omega)
      have g3 := hM.frozen j
      rw [if_neg (by omega)] at g2
      have hji : (j : Int) < (na : Int) := by omega
      have HM : Hid (Mk w wr na (fun t => if t < j then dg (x - y) t else 0)) := hM
      have k174 := fun w => c174 (dg_lt x j) (dg_lt y j) (subb_le x y j) w
      have e1 : (dg x j + B + B - dg y j - subb x y j) % B = dg (x - y) j := by rw [← HWS.out, dg_wsub hja]
      have e2 := (subb_succ x y j).symm
      rw [e1, e2] at k174
      by_cases hjb : j < nb
      · obtain rfl := hb (by omega)
        have g4 := hM.old (hcb j hjb)
        have hji2 : (j : Int) < (nb : Int) := by omega
        generalize dg x j = d at *
        generalize dg y j = d1 at *
        generalize subb x y j = c at *
        generalize hr : dg (x - y) j = r at *
        generalize hs : subb x y (j + 1) = s at *
        have HD : Hid (r = dg (x - y) j ∧ s = subb x y (j + 1)) := ⟨hr.symm, hs.symm⟩
        clear hM hca hcb hr hs e1 e2
        go_wp2_with (first | (go_at_call 100; refine (k174 _).mono ?_; rintro e w' ⟨rfl, rfl⟩))
        exact sub_round HM.out HD.out.1 HD.out.2 hja
      · have hji2 : ¬ (j : Int) < (nb : Int) := by omega
        rw [dg_past (x := y) (i := j) (by rw [HY.out]; omega)] at k174
        generalize dg x j = d at *
        generalize subb x y j = c at *
        generalize hr : dg (x - y) j = r at *
        generalize hs : subb x y (j + 1) = s at *
        have HD : Hid (r = dg (x - y) j ∧ s = subb x y (j + 1)) := ⟨hr.symm, hs.symm⟩
        clear hM hca hcb hr hs e1 e2
        go_wp2_with (first | (go_at_call 100; refine (k174 _).mono ?_; rintro e w' ⟨rfl, rfl⟩))
        exact sub_round HM.out HD.out.1 HD.out.2 hja
    · obtain rfl : j = na := by omega
      have hE : Mk w wr j (dg (x - y)) := hM.congr fun i hi => if_pos hi
      have hA := hE.at
      have hL : dlen (x - y) ≤ j := by rw [← HX.out]; exact dlen_mono (Nat.sub_le ..)
      have HC : Hid (Mk w wr j (dg (x - y))) := hE
      clear hM hca hcb hE
      generalize subb x y j = c at *
      go_wp2_with (first | (go_at_call 38; refine (c62 _ _ _ (x - y) _ hL (Nat.le_refl _) (by omega) hA).mono ?_; rintro e w' ⟨rfl, rfl⟩))
      go_ret
      exact ⟨_, rfl, HC.out.own hL (by omega), HC.out.below⟩
theorem c138 {u v : Value} {x y : Nat} {w : World} (h1 : Is w u x) (h2 : Is w v y) (hx : dlen x ≤ 35184372088832) (hle : y ≤ x) :
    Calls Tryz.prog 77 #[u, v] w fun e w' => ∃ v, e = .returned v ∧ Own w' w.heap.size v (x - y) ∧ Below w.heap.size w w' := by
  obtain ⟨ao, ca, rfl, a1, a2, ba, oa, a3, a4⟩ := h1
  obtain ⟨bo, cb, rfl, b1, b2, bb, ob, b3, b4⟩ := h2
  exact c138_1 ao bo ba oa bb ob _ _ ca cb x y w a3 b3 hx rfl rfl hle a4 b4
end Go.Proofs.YtceoeiojoffnnaaGreatDoor

/- cmp.Compare, compareDigits. -/
namespace Go.Proofs.YtceoeiojoffnnaaGreatDoor
set_option linter.unusedVariables false
set_option linter.unusedSimpArgs false
open Go.RowKit

def cmpI (x y : Int) : Int := if x < y then -1 else if y < x then 1 else 0

theorem c162 (x : Int) (w : World) : Calls Tryz.prog 103 #[.int .i64 x] w fun e w' => e = .returned (.bool false) ∧ w' = w := by
  go_enter Tryz.func103, Tryz.ntmps103
  go_wp2
  go_ret
  exact ⟨by simp, rfl⟩
theorem c182 (x : Int) (w : World) : Calls Tryz.prog 119 #[.int .u32 x] w fun e w' => e = .returned (.bool false) ∧ w' = w := by
  go_enter Tryz.func119, Tryz.ntmps119
  go_wp2
  go_ret
  exact ⟨by simp, rfl⟩
theorem c128 (x y : Int) (w : World) : Calls Tryz.prog 80 #[.int .i64 x, .int .i64 y] w fun e w' => e = .returned (.int .i64 (cmpI x y)) ∧ w' = w := by
  go_enter Tryz.func80, Tryz.ntmps80
  go_wp2_with (first | (go_at_call 103; refine (c162 _ _).mono ?_; rintro e w' ⟨rfl, rfl⟩))
  all_goals go_ret
  all_goals refine ⟨congrArg Ending.returned (congrArg (Value.int IntKind.i64) ?_), rfl⟩
  all_goals unfold cmpI
  · rw [if_pos (by assumption)]
  · rw [if_neg (by omega), if_pos (by omega)]
  · rw [if_neg (by omega), if_neg (by omega)]
theorem c163 (x y : Int) (w : World) : Calls Tryz.prog 99 #[.int .u32 x, .int .u32 y] w fun e w' => e = .returned (.int .i64 (cmpI x y)) ∧ w' = w := by
  go_enter Tryz.func99, Tryz.ntmps99
  go_wp2_with (first | (go_at_call 119; refine (c182 _ _).mono ?_; rintro e w' ⟨rfl, rfl⟩))
  all_goals go_ret
  all_goals refine ⟨congrArg Ending.returned (congrArg (Value.int IntKind.i64) ?_), rfl⟩
  all_goals unfold cmpI
  · rw [if_pos (by assumption)]
  · rw [if_neg (by omega), if_pos (by omega)]
  · rw [if_neg (by omega), if_neg (by omega)]

theorem c129_1 (ao bo : Option Addr) (na nb ca cb : Nat) (w : World) (h : na ≠ nb) :
    Calls Tryz.prog 76 #[.slice ao na ca, .slice bo nb cb] w fun e w' => e = .returned (.int .i64 (cmpI na nb)) ∧ w' = w := by
  have h' : ((na : Int) == (nb : Int)) = false := by simp; omega
  have h'' : ((na : Int) != (nb : Int)) = true := by simp; omega
  have k := c128 na nb
  generalize cmpI na nb = r at *
  go_enter Tryz.func76, Tryz.ntmps76
  go_wp2_with (first | (go_at_call 80; refine (k _).mono ?_; rintro e w' ⟨rfl, rfl⟩))
  go_ret
  exact ⟨rfl, rfl⟩

theorem c129_2 (ao bo : Option Addr) (ba oa bb ob n ca cb x y : Nat) (w : World) (ha : 0 < n → ao = some ⟨ba, oa, none⟩) (hb : 0 < n → bo = some ⟨bb, ob, none⟩) (hn : n ≤ 35184372088832) (hx : dlen x = n) (hy : dlen y = n)
    (hca : ∀ i, i < n → w.cell? ⟨ba, oa + i, none⟩ = some (.int .u32 (dg x i : Nat))) (hcb : ∀ i, i < n → w.cell? ⟨bb, ob + i, none⟩ = some (.int .u32 (dg y i : Nat))) :
    Calls Tryz.prog 76 #[.slice ao n ca, .slice bo n cb] w fun e w' => e = .returned (.int .i64 (cmpI x y)) ∧ ∃ d, w' = w.drewN d := by
  have h'' : ((n : Int) != (n : Int)) = false := by simp
  have HXY : Hid (dlen x = n ∧ dlen y = n) := ⟨hx, hy⟩
  clear hx hy
  go_enter Tryz.func76, Tryz.ntmps76
  go_wp2
  go_loopw [5] (fun i wr => ∃ (j d : Nat), j ≤ n ∧ i = .int .i64 ((j : Int) - 1) ∧ wr = w.drewN d ∧ Hid (x / B ^ j = y / B ^ j)) (fun i _ => (intOf i + 1).toNat)
  case atStart => exact ⟨n, 0, Nat.le_refl _, rfl, rfl, (by rw [Nat.div_eq_of_lt ((dlen_le n x).1 (by rw [HXY.out.1]; omega)), Nat.div_eq_of_lt ((dlen_le n y).1 (by rw [HXY.out.2]; omega))] : x / B ^ n = y / B ^ n)⟩
  case round =>
    obtain ⟨j, d, hj, rfl, rfl, hh⟩ := hrel
    by_cases hj0 : j = 0
    · subst hj0
      have e : x = y := by have := hh.out; simpa using this
      have HE : Hid (cmpI x y = 0) := (by subst e; unfold cmpI; simp : cmpI x y = 0)
      clear hh e hca hcb
      go_wp2
      go_ret
      rw [HE.out]
      exact ⟨rfl, d, rfl⟩
    · obtain ⟨i, rfl⟩ : ∃ i, j = i + 1 := ⟨j - 1, by omega⟩
      have hi : i < n := by omega
      obtain rfl := ha (by omega)
      obtain rfl := hb (by omega)
      have g1 : (w.drewN d).cell? ⟨ba, oa + i, none⟩ = some (.int .u32 (dg x i : Nat)) := hca i hi
      have g2 : (w.drewN d).cell? ⟨bb, ob + i, none⟩ = some (.int .u32 (dg y i : Nat)) := hcb i hi
      have hii : (i : Int) < (n : Int) := by omega
      have ei : ((i + 1 : Nat) : Int) - 1 = (i : Int) := by omega
      rw [ei]
      have k163 := c163 (dg x i : Nat) (dg y i : Nat)
      generalize hdx : dg x i = dx at *
      generalize hdy : dg y i = dy at *
      have HD : Hid (dg x i = dx ∧ dg y i = dy) := ⟨hdx, hdy⟩
      clear hca hcb hdx hdy ei
      have HW : Hid (∃ d', w.drewN d = w.drewN d') := ⟨d, rfl⟩
      generalize w.drewN d = wd at *
      by_cases hne : dx = dy
      · subst hne
        have t1 : ((dx : Int) != (dx : Int)) = false := by simp
        clear k163
        go_wp2
        go_quiet (fail)
        go_wp2
        obtain ⟨d', rfl⟩ := HW.out
        exact ⟨⟨i, _, by omega, rfl, World.drewN_drewN .., (top_step hh.out (HD.out.1.trans HD.out.2.symm) : x / B ^ i = y / B ^ i)⟩, by simp [intOf]⟩
      · have t1 : ((dx : Int) != (dy : Int)) = true := by simp; omega
        have HC : Hid (cmpI x y = cmpI dx dy) := by
          have h1 := HD.out
          show cmpI x y = cmpI dx dy
          rcases Nat.lt_or_gt_of_ne hne with h2 | h2
          · have := lt_of_top (i := i) hh.out (by omega)
            unfold cmpI
            rw [if_pos (by omega), if_pos (by omega)]
          · have := lt_of_top (i := i) hh.out.symm (by omega)
            unfold cmpI
            rw [if_neg (by omega), if_pos (by omega), if_neg (by omega), if_pos (by omega)]
        generalize cmpI dx dy = r at *
        go_wp2
        go_quiet (fail)
        go_wp2
        have HV : Hid (∃ d', wd.drewN nq = w.drewN d') := by
          obtain ⟨d', e⟩ := HW.out
          exact ⟨_, by rw [e]; exact World.drewN_drewN ..⟩
        have g1' : (wd.drewN nq).cell? ⟨ba, oa + i, none⟩ = some (.int .u32 (dx : Nat)) := g1
        have g2' : (wd.drewN nq).cell? ⟨bb, ob + i, none⟩ = some (.int .u32 (dy : Nat)) := g2
        generalize wd.drewN nq = wq at *
        go_quiet ((go_at_call 99; exact Calls.quiet_of_same (k163 _)))
        go_wp2
        go_ret
        obtain ⟨d', e⟩ := HV.out
        rw [HC.out, e]
        exact ⟨rfl, _, World.drewN_drewN ..⟩

theorem c129 {u v : Value} {x y : Nat} {w : World} (h1 : Is w u x) (h2 : Is w v y) (hx : dlen x ≤ 35184372088832) (hy : dlen y ≤ 35184372088832) :
    Calls Tryz.prog 76 #[u, v] w fun e w' => e = .returned (.int .i64 (cmpI x y)) ∧ ∃ d, w' = w.drewN d := by
  obtain ⟨ao, ca, rfl, a1, a2, ba, oa, a3, a4⟩ := h1
  obtain ⟨bo, cb, rfl, b1, b2, bb, ob, b3, b4⟩ := h2
  by_cases h : dlen x = dlen y
  · rw [← h] at b3 b4 ⊢
    exact c129_2 ao bo ba oa bb ob _ ca cb x y w a3 b3 hx rfl h.symm a4 b4
  · refine (c129_1 ao bo _ _ ca cb w h).mono ?_
    rintro e w' ⟨rfl, rfl⟩
    refine ⟨congrArg Ending.returned (congrArg (Value.int IntKind.i64) ?_), 0, rfl⟩
    unfold cmpI
    rcases Nat.lt_or_gt_of_ne h with h2 | h2
    · have := lt_of_dlen h2
      rw [if_pos (by omega), if_pos (by omega)]
    · have := lt_of_dlen h2
      rw [if_neg (by omega), if_pos (by omega), if_neg (by omega), if_pos (by omega)]
end Go.Proofs.YtceoeiojoffnnaaGreatDoor

/- mulDigits. -/
namespace Go.Proofs.YtceoeiojoffnnaaGreatDoor
set_option linter.unusedVariables false
set_option linter.unusedSimpArgs false
open Go.RowKit

/-- the digits in the midst of row i, j of them done -/
def mid (x y i j : Nat) : Nat → Nat := fun t => if t < i + j then dg (x % B ^ (i + 1) * y) t else dg (x % B ^ i * y) t

theorem mul_word {c f d e : Nat} (hc : c < B) (hf : f < B) (hd : d < B) (he : e < B) :
    IntKind.u64.wrap ((c : Int) + IntKind.u64.wrap (IntKind.u64.wrap (IntKind.u64.wrap (d : Int) * IntKind.u64.wrap (e : Int)) + IntKind.u64.wrap (f : Int))) = ((c + f + e * d : Nat) : Int) := by
  obtain ⟨h1, h2, h3⟩ := mac_fits hc hf hd he
  rw [wrap_d hd, wrap_d he, wrap_d hf, ← Int.natCast_mul, Nat.mul_comm d e]
  generalize e * d = m at *
  rw [IntKind.wrap_u64, IntKind.wrap_u64, IntKind.wrap_u64]
  omega

theorem mul_round {w wr : World} {n nb x y i j f e c d : Nat} {q : Int} (hM : Mk w wr n (mid x y i j)) (hq : q = (c + f + e * d : Nat)) (hd : dg x i = d)
    (hE : dg (x % B ^ i * y) (i + j) = f ∧ dg y j = e ∧ macc (x % B ^ i * y / B ^ i) y d j = c) (hj : j < nb) :
    (∃ j_1 : Nat, j_1 ≤ nb ∧ Value.int .u64 (q / 4294967296) = Value.int .u64 (macc (x % B ^ i * y / B ^ i) y d j_1 : Nat) ∧ Value.int .i64 ((j : Int) + 1) = Value.int .i64 (j_1 : Int) ∧
      Mk w (wr.setCell ⟨w.heap.size, i + j, none⟩ (Value.int .u32 (q % 4294967296))) n (mid x y i j_1)) ∧
    nb - (intOf (Value.int .i64 ((j : Int) + 1))).toNat < nb - (intOf (Value.int .i64 (j : Int))).toNat := by
  obtain ⟨e1, e2, e3⟩ := hE
  have h1 : q / 4294967296 = (macc (x % B ^ i * y / B ^ i) y d (j + 1) : Nat) := by rw [macc_succ, dg_div, e1, e2, e3, hq]; unfold B; omega
  have h2 : q % 4294967296 = (dg (x % B ^ (i + 1) * y) (i + j) : Nat) := by rw [prod_mid, hd, e1, e2, e3, hq]; unfold B; omega
  rw [h1, h2]
  refine ⟨⟨j + 1, by omega, rfl, by simp, (hM.set (i + j) _).congr fun t ht => ?_⟩, by simp [intOf]; omega⟩
  unfold mid
  by_cases e : t = i + j
  · subst e
    rw [if_pos rfl, if_pos (by omega)]
  · rw [if_neg e]
    by_cases e2 : t < i + j
    · rw [if_pos e2, if_pos (by omega)]
    · rw [if_neg e2, if_neg (by omega)]

theorem mul_row {w wr : World} {na nb x y i d : Nat} {q : Int} (hM : Mk w wr (na + nb) (mid x y i nb)) (hy : dlen y = nb) (hd : dg x i = d) (hdl : d < B) (hq : q = (macc (x % B ^ i * y / B ^ i) y d nb : Nat) % 4294967296) (hi : i < na) :
    (∃ i_1 : Nat, i_1 ≤ na ∧ Value.int .i64 ((i : Int) + 1) = Value.int .i64 (i_1 : Int) ∧ Mk w (wr.setCell ⟨w.heap.size, i + nb, none⟩ (Value.int .u32 q)) (na + nb) (dg (x % B ^ i_1 * y))) ∧
    na - (intOf (Value.int .i64 ((i : Int) + 1))).toNat < na - (intOf (Value.int .i64 (i : Int))).toNat := by
  have hl := macc_le (x % B ^ i * y / B ^ i) y d nb
  have h2 : q = (dg (x % B ^ (i + 1) * y) (i + nb) : Nat) := by
    rw [prod_mid, hd, prod_high (by omega), dg_past (x := y) (by omega), hq, Nat.zero_mul]
    unfold B at *
    omega
  rw [h2]
  refine ⟨⟨i + 1, by omega, by simp, (hM.set (i + nb) _).congr fun t ht => ?_⟩, by simp [intOf]; omega⟩
  unfold mid
  by_cases e : t = i + nb
  · subst e
    rw [if_pos rfl]
  · rw [if_neg e]
    by_cases e2 : t < i + nb
    · rw [if_pos e2]
    · rw [if_neg e2, prod_high (by omega), prod_high (by omega)]

theorem c143_1 (ao bo : Option Addr) (ba oa bb ob na nb ca cb x y : Nat) (w : World) (ha : 0 < na → ao = some ⟨ba, oa, none⟩) (hb : 0 < nb → bo = some ⟨bb, ob, none⟩) (hna : na ≤ 35184372088832) (hnb : nb ≤ 35184372088832) (hx : dlen x = na) (hy : dlen y = nb)
    (hca : ∀ i, i < na → w.cell? ⟨ba, oa + i, none⟩ = some (.int .u32 (dg x i : Nat))) (hcb : ∀ i, i < nb → w.cell? ⟨bb, ob + i, none⟩ = some (.int .u32 (dg y i : Nat))) :
    Calls Tryz.prog 78 #[.slice ao na ca, .slice bo nb cb] w fun e w' => ∃ v, e = .returned v ∧ Own w' w.heap.size v (x * y) ∧ Below w.heap.size w w' := by
  have hmk := run_make_row' (P := Tryz.prog) 23 39 (.int .u32 0) 4 Tryz.underlying23 Tryz.info39 rfl .i64 .i64 (na + nb) (by omega) (by omega)
  rw [show ((na + nb : Nat) : Int) = (na : Int) + nb by omega] at hmk
  have HX : Hid (dlen x = na) := hx
  have HY : Hid (dlen y = nb) := hy
  clear hx hy
  go_enter Tryz.func78, Tryz.ntmps78
  go_wp2
  clear hmk
  go_loopw [19] (fun c wr => ∃ i : Nat, i ≤ na ∧ c = .int .i64 i ∧ Mk w wr (na + nb) (dg (x % B ^ i * y))) (fun c _ => na - (intOf c).toNat)
  case atStart => exact ⟨0, Nat.zero_le _, rfl, (Mk.start w _).congr fun t ht => by simp [Nat.mod_one, dg]⟩
  case round =>
    obtain ⟨i, hi, rfl, hO⟩ := hrel
    by_cases hia : i < na
    · obtain rfl := ha (by omega)
      have g1 := hO.old (hca i hia)
      have hii : (i : Int) < (na : Int) := by omega
      have HO : Hid (Mk w wr (na + nb) (dg (x % B ^ i * y))) := hO
      generalize hd : dg x i = d at *
      have HD : Hid (dg x i = d) := hd
      have HDL : Hid (d < B) := hd ▸ dg_lt _ _
      clear hd hO
      go_wp2
      go_loopw [8, 26] (fun c s wi => ∃ j : Nat, j ≤ nb ∧ c = .int .u64 (macc (x % B ^ i * y / B ^ i) y d j : Nat) ∧ s = .int .i64 j ∧ Mk w wi (na + nb) (mid x y i j)) (fun _ s _ => nb - (intOf s).toNat)
      case atStart => exact ⟨0, Nat.zero_le _, by rw [macc_zero]; rfl, rfl, HO.out.congr fun t ht => by
          unfold mid
          by_cases e : t < i + 0
          · rw [if_pos e, prod_low (by omega)]
          · rw [if_neg e]⟩
      case round =>
        obtain ⟨j, hj, rfl, rfl, hM⟩ := hrel
        by_cases hjb : j < nb
        · obtain rfl := hb (by omega)
          have g4 := hM.old (hcb j hjb)
          have hji : (j : Int) < (nb : Int) := by omega
          have g2 := hM.cell (i := i + j) (by omega)
          have g3 := hM.frozen (i + j)
          have hcl := macc_le (x % B ^ i * y / B ^ i) y d j
          have ef : mid x y i j (i + j) = dg (x % B ^ i * y) (i + j) := if_neg (by omega)
          rw [ef] at g2
          generalize hf : dg (x % B ^ i * y) (i + j) = f at *
          generalize he : dg y j = e at *
          generalize hc : macc (x % B ^ i * y / B ^ i) y d j = c at *
          have HE : Hid (dg (x % B ^ i * y) (i + j) = f ∧ dg y j = e ∧ macc (x % B ^ i * y / B ^ i) y d j = c) := ⟨hf, he, hc⟩
          have HL : Hid (c < B ∧ f < B ∧ e < B) := ⟨by have := HDL.out; omega, hf ▸ dg_lt _ _, he ▸ dg_lt _ _⟩
          have HM : Hid (Mk w wr (na + nb) (mid x y i j)) := hM
          clear hf he hc hcl hM hca hcb ef
          go_wp2
          exact mul_round HM.out (mul_word HL.out.1 HL.out.2.1 HDL.out HL.out.2.2) HD.out HE.out hjb
        · obtain rfl : j = nb := by omega
          have g2 := hM.cell (i := i + j) (by omega)
          have g3 := hM.frozen (i + j)
          have HM : Hid (Mk w wr (na + j) (mid x y i j)) := hM
          generalize hf : mid x y i j (i + j) = f at *
          generalize hc : macc (x % B ^ i * y / B ^ i) y d j = c at *
          have HC : Hid (macc (x % B ^ i * y / B ^ i) y d j = c) := hc
          clear hf hc hM hca hcb
          go_wp2
          exact mul_row HM.out HY.out HD.out HDL.out (by rw [HC.out]) hia
    · obtain rfl : i = na := by omega
      have hE : Mk w wr (i + nb) (dg (x * y)) := by
        have e : x % B ^ i = x := Nat.mod_eq_of_lt (by rw [← HX.out]; exact lt_dlen x)
        rw [e] at hO
        exact hO
      have hA := hE.at
      have hL : dlen (x * y) ≤ i + nb := by
        have h1 := prod_lt x y i
        rw [Nat.mod_eq_of_lt (by rw [← HX.out]; exact lt_dlen x), HY.out] at h1
        exact (dlen_le _ _).2 h1
      have HC : Hid (Mk w wr (i + nb) (dg (x * y))) := hE
      clear hO hca hcb hE
      go_wp2_with (first | (go_at_call 38; refine (c62 _ _ _ (x * y) _ hL (Nat.le_refl _) (by omega) hA).mono ?_; rintro e w' ⟨rfl, rfl⟩))
      go_ret
      exact ⟨_, rfl, HC.out.own hL (by omega), HC.out.below⟩
theorem c143 {u v : Value} {x y : Nat} {w : World} (h1 : Is w u x) (h2 : Is w v y) (hx : dlen x ≤ 35184372088832) (hy : dlen y ≤ 35184372088832) :
    Calls Tryz.prog 78 #[u, v] w fun e w' => ∃ v, e = .returned v ∧ Own w' w.heap.size v (x * y) ∧ Below w.heap.size w w' := by
  obtain ⟨ao, ca, rfl, a1, a2, ba, oa, a3, a4⟩ := h1
  obtain ⟨bo, cb, rfl, b1, b2, bb, ob, b3, b4⟩ := h2
  exact c143_1 ao bo ba oa bb ob _ _ ca cb x y w a3 b3 hx hy rfl rfl a4 b4
end Go.Proofs.YtceoeiojoffnnaaGreatDoor

/- Rows that are written in place: lessTimes, giveBack. -/
namespace Go.Proofs.YtceoeiojoffnnaaGreatDoor
set_option linter.unusedVariables false
set_option linter.unusedSimpArgs false
open Go.RowKit

/-- of w to w' only block g has been written -/
structure Only (g : Nat) (w w' : World) : Prop where
  os : w'.os = w.os
  tape : w'.tape = w.tape
  output : w'.output = w.output
  size : w'.heap.size = w.heap.size
  block : ∀ k, k ≠ g → w'.heap[k]? = w.heap[k]?
theorem Only.refl (g : Nat) (w : World) : Only g w w := ⟨rfl, rfl, rfl, rfl, fun _ _ => rfl⟩
theorem Only.trans {g : Nat} {a b c : World} (h : Only g a b) (k : Only g b c) : Only g a c := ⟨k.os.trans h.os, k.tape.trans h.tape, k.output.trans h.output, k.size.trans h.size, fun i hi => (k.block i hi).trans (h.block i hi)⟩
theorem Only.drewN (g : Nat) (w : World) (n : Nat) : Only g w (w.drewN n) := ⟨rfl, rfl, rfl, rfl, fun _ _ => rfl⟩
theorem Only.set {g : Nat} {w wr : World} (h : Only g w wr) (o : Nat) (u : Value) : Only g w (wr.setCell ⟨g, o, none⟩ u) :=
  h.trans ⟨rfl, rfl, rfl, by simp [World.setCell], fun k hk => Below.heap_setCell _ _ _ _ hk⟩
theorem Only.cell {g : Nat} {w wr : World} (h : Only g w wr) {p : Addr} {u : Value} (hp : p.block ≠ g) (hc : w.cell? p = some u) : wr.cell? p = some u := (World.cell?_of_block (w := w) (h.block p.block hp)).trans hc
theorem Only.below {g B : Nat} {w wr : World} (h : Only g w wr) (hg : B ≤ g) : Below B w wr := ⟨h.os, h.tape, h.output, by rw [h.size]; exact Nat.le_refl _, fun k hk => h.block k (by omega)⟩

/-- block b is a row whose first N cells hold f -/
def RowGe (w : World) (b N : Nat) (f : Nat → Value) : Prop := ∃ c : Array Value, w.heap[b]? = some (.cells c 39 (0, 0)) ∧ N ≤ c.size ∧ ∀ i, i < N → c[i]? = some (f i)
theorem RowGe.cell {w : World} {b N : Nat} {f : Nat → Value} (h : RowGe w b N f) {i : Nat} (hi : i < N) : w.cell? ⟨b, i, none⟩ = some (f i) := by
  obtain ⟨c, hb, _, hc⟩ := h
  simp [World.cell?, hb, hc i hi]
theorem RowGe.frozen {w : World} {b N : Nat} {f : Nat → Value} (h : RowGe w b N f) (i : Nat) : w.frozen? ⟨b, i, none⟩ = false := by
  obtain ⟨c, hb, _, _⟩ := h
  simp [World.frozen?, hb]
theorem RowGe.congr {w : World} {b N : Nat} {f g : Nat → Value} (h : RowGe w b N f) (e : ∀ i, i < N → f i = g i) : RowGe w b N g := by
  obtain ⟨c, hb, hn, hc⟩ := h
  exact ⟨c, hb, hn, fun i hi => by rw [hc i hi, e i hi]⟩
theorem RowGe.of_block {w w' : World} {b N : Nat} {f : Nat → Value} (h : RowGe w b N f) (e : w'.heap[b]? = w.heap[b]?) : RowGe w' b N f := by
  obtain ⟨c, hb, hn, hc⟩ := h
  exact ⟨c, e.trans hb, hn, hc⟩
theorem RowGe.lt {w : World} {b N : Nat} {f : Nat → Value} (h : RowGe w b N f) : b < w.heap.size := by
  obtain ⟨c, hb, _, _⟩ := h
  obtain ⟨hlt, _⟩ := Array.getElem?_eq_some_iff.1 hb
  exact hlt
theorem RowGe.of {w : World} {b n N : Nat} {f : Nat → Value} (h : w.rowIs b 39 n f) (hN : N ≤ n) : RowGe w b N f := by
  obtain ⟨c, hb, hn, hc⟩ := h
  exact ⟨c, hb, by omega, fun i hi => hc i (by omega)⟩
theorem RowGe.set {w : World} {b N : Nat} {f : Nat → Value} (h : RowGe w b N f) (i : Nat) (v : Value) : RowGe (w.setCell ⟨b, i, none⟩ v) b N (fun j => if j = i then v else f j) := by
  obtain ⟨c, hb, hn, hc⟩ := h
  refine ⟨c.setIfInBounds i v, ?_, by simpa using hn, fun j hj => ?_⟩
  · simp [World.setCell, Array.getElem?_modify, hb]
  · rw [Array.getElem?_setIfInBounds]
    by_cases e : j = i
    · subst e
      simp
      omega
    · rw [if_neg (fun h => e h.symm)]
      show c[j]? = some (if j = i then v else f j)
      rw [if_neg e]
      exact hc j hj

/-- block g is a row of N digits f, and nothing else has been written -/
structure In (g : Nat) (w wr : World) (N : Nat) (f : Nat → Nat) : Prop where
  only : Only g w wr
  row : RowGe wr g N (fun i => .int .u32 (f i : Nat))
theorem In.cell {g : Nat} {w wr : World} {N : Nat} {f : Nat → Nat} (h : In g w wr N f) {i : Nat} (hi : i < N) : wr.cell? ⟨g, i, none⟩ = some (.int .u32 (f i : Nat)) := h.row.cell hi
theorem In.frozen {g : Nat} {w wr : World} {N : Nat} {f : Nat → Nat} (h : In g w wr N f) (i : Nat) : wr.frozen? ⟨g, i, none⟩ = false := h.row.frozen i
theorem In.set {g : Nat} {w wr : World} {N : Nat} {f : Nat → Nat} (h : In g w wr N f) (i d : Nat) : In g w (wr.setCell ⟨g, i, none⟩ (.int .u32 (d : Nat))) N (fun j => if j = i then d else f j) :=
  ⟨h.only.set _ _, (h.row.set i _).congr (fun j _ => by split <;> rfl)⟩
theorem In.congr {g : Nat} {w wr : World} {N : Nat} {f f' : Nat → Nat} (h : In g w wr N f) (e : ∀ i, i < N → f i = f' i) : In g w wr N f' := ⟨h.only, h.row.congr (fun i hi => by rw [e i hi])⟩
/-- j digits from off on are those of z -/
def put (off j z : Nat) (f : Nat → Nat) : Nat → Nat := fun s => if off ≤ s ∧ s < off + j then dg z (s - off) else f s
theorem put_zero (off z : Nat) (f : Nat → Nat) (s : Nat) : put off 0 z f s = f s := if_neg (by omega)
theorem In.put {g : Nat} {w wr : World} {N off j z : Nat} {f : Nat → Nat} (h : In g w wr N (put off j z f)) {q : Int} (hq : q = (dg z j : Nat)) : In g w (wr.setCell ⟨g, off + j, none⟩ (.int .u32 q)) N (put off (j + 1) z f) := by
  subst hq
  refine (h.set (off + j) _).congr fun s hs => ?_
  unfold YtceoeiojoffnnaaGreatDoor.put
  by_cases e : s = off + j
  · subst e
    rw [if_pos rfl, if_pos (by omega), Nat.add_sub_cancel_left]
  · rw [if_neg e]
    by_cases e2 : off ≤ s ∧ s < off + j
    · rw [if_pos e2, if_pos (by omega)]
    · rw [if_neg e2, if_neg (by omega)]
theorem put_past {off j z s : Nat} {f : Nat → Nat} (h : off + j ≤ s) : put off j z f s = f s := if_neg (by omega)

theorem c177_1 (g off cap N n r d bb ob cb : Nat) (bo : Option Addr) (f : Nat → Nat) (w : World) (hn : n ≤ 35184372088832) (hb : 0 < n → bo = some ⟨bb, ob, none⟩) (hbg : bb ≠ g) (hd : d < B ^ n)
    (hcb : ∀ i, i < n → w.cell? ⟨bb, ob + i, none⟩ = some (.int .u32 (dg d i : Nat))) (hN : off + n + 1 ≤ N) (hI : In g w w N f) (hf : ∀ j, j ≤ n → f (off + j) = dg r j) :
    Calls Tryz.prog 107 #[.slice (some ⟨g, off, none⟩) (n + 1 : Nat) cap, .slice bo n cb] w fun e w' => e = .returned (.tuple #[]) ∧ In g w w' N (put off (n + 1) (r + d) f) := by
  have HD : Hid (d < B ^ n) := hd
  clear hd
  go_enter Tryz.func107, Tryz.ntmps107
  go_wp2
  go_loopw [4, 9] (fun c i wr => ∃ j : Nat, j ≤ n ∧ c = .int .u32 (addc r d j : Nat) ∧ i = .int .i64 j ∧ In g w wr N (put off j (r + d) f)) (fun _ i _ => n - (intOf i).toNat)
  case atStart => exact ⟨0, Nat.zero_le _, by rw [addc_zero]; rfl, rfl, hI.congr fun s _ => (put_zero ..).symm⟩
  case round =>
    obtain ⟨j, hj, rfl, rfl, hM⟩ := hrel
    have g2 := hM.cell (i := off + j) (by omega)
    have g3 := hM.frozen (off + j)
    rw [put_past (by omega), hf j hj] at g2
    by_cases hjn : j < n
    · obtain rfl := hb (by omega)
      have g1 := hM.only.cell hbg (hcb j hjn)
      have hji : (j : Int) < (n : Int) := by omega
      have k188 := fun w => c188 (dg_lt r j) (dg_lt d j) (addc_le r d j) w
      have e1 : (dg r j + dg d j + addc r d j) % B = dg (r + d) j := by rw [dg_add]; congr 1; omega
      have e2 : (dg r j + dg d j + addc r d j) / B = addc r d (j + 1) := by rw [addc_succ]; congr 1; omega
      rw [e1, e2] at k188
      have HM : Hid (In g w wr N (put off j (r + d) f)) := hM
      generalize dg r j = x at *
      generalize dg d j = y at *
      generalize addc r d j = c at *
      generalize hs : dg (r + d) j = s at *
      generalize hc : addc r d (j + 1) = c' at *
      have HS : Hid (dg (r + d) j = s ∧ addc r d (j + 1) = c') := ⟨hs, hc⟩
      clear hM hcb hI hf e1 e2 hs hc
      go_wp2_with (first | (go_at_call 122; refine (k188 _).mono ?_; rintro e w' ⟨rfl, rfl⟩))
      exact ⟨⟨j + 1, by omega, by rw [HS.out.2], by simp, HM.out.put (by rw [HS.out.1])⟩, by simp [intOf]; omega⟩
    · obtain rfl : j = n := by omega
      have hx := dg_lt r j
      have hc := addc_le r d j
      have HM : Hid (In g w wr N (put off j (r + d) f)) := hM
      have HE : Hid (dg (r + d) j = (dg r j + addc r d j) % B) := (by rw [dg_add, dg_of_lt HD.out]; congr 1; omega : dg (r + d) j = (dg r j + addc r d j) % B)
      generalize dg r j = x at *
      generalize addc r d j = c at *
      clear hM hcb hI hf hx
      go_wp2
      go_end0
      exact ⟨rfl, HM.out.put (by rw [HE.out]; unfold B; omega)⟩

theorem c176_1 (g off cap N n r d t bb ob cb : Nat) (bo : Option Addr) (f : Nat → Nat) (w : World) (hn : n ≤ 35184372088832) (hb : 0 < n → bo = some ⟨bb, ob, none⟩) (hbg : bb ≠ g) (hd : d < B ^ n) (ht : t < B) (hr : r < B ^ (n + 1))
    (hcb : ∀ i, i < n → w.cell? ⟨bb, ob + i, none⟩ = some (.int .u32 (dg d i : Nat))) (hN : off + n + 1 ≤ N) (hI : In g w w N f) (hf : ∀ j, j ≤ n → f (off + j) = dg r j) :
    Calls Tryz.prog 106 #[.slice (some ⟨g, off, none⟩) (n + 1 : Nat) cap, .slice bo n cb, .int .u32 t] w fun e w' => e = .returned (.bool (decide (r < d * t))) ∧ In g w w' N (put off (n + 1) (wsub r (d * t) (n + 1)) f) := by
  have HD : Hid (d < B ^ n ∧ t < B ∧ r < B ^ (n + 1)) := ⟨hd, ht, hr⟩
  clear hd ht hr
  go_enter Tryz.func106, Tryz.ntmps106
  go_wp2
  go_loopw [7, 8, 13] (fun c b i wr => ∃ j : Nat, j ≤ n ∧ c = .int .u64 (mulc d t j : Nat) ∧ b = .int .u32 (subb r (d * t) j : Nat) ∧ i = .int .i64 j ∧ In g w wr N (put off j (wsub r (d * t) (n + 1)) f)) (fun _ _ i _ => n - (intOf i).toNat)
  case atStart => exact ⟨0, Nat.zero_le _, by rw [mulc_zero]; rfl, by rw [subb_zero]; rfl, rfl, hI.congr fun s _ => (put_zero ..).symm⟩
  case round =>
    obtain ⟨j, hj, rfl, rfl, rfl, hM⟩ := hrel
    have g2 := hM.cell (i := off + j) (by omega)
    have g3 := hM.frozen (off + j)
    rw [put_past (by omega), hf j hj] at g2
    have k174 := fun w => c174 (dg_lt r j) (dg_lt (d * t) j) (subb_le r (d * t) j) w
    have e1 : (dg r j + B + B - dg (d * t) j - subb r (d * t) j) % B = dg (wsub r (d * t) (n + 1)) j := (dg_wsub (by omega)).symm
    have e2 := (subb_succ r (d * t) j).symm
    rw [e1, e2] at k174
    have HM : Hid (In g w wr N (put off j (wsub r (d * t) (n + 1)) f)) := hM
    have hcl := mulc_le d t j
    by_cases hjn : j < n
    · obtain rfl := hb (by omega)
      have g1 := hM.only.cell hbg (hcb j hjn)
      have hji : (j : Int) < (n : Int) := by omega
      have hw : IntKind.u64.wrap ((mulc d t j : Nat) + IntKind.u64.wrap (IntKind.u64.wrap ((dg d j : Nat) : Int) * IntKind.u64.wrap (t : Int))) = ((mulc d t j + dg d j * t : Nat) : Int) := by
        have := mac_fits (c := mulc d t j) (f := 0) (d := t) (e := dg d j) (by have := HD.out.2.1; omega) (by unfold B; omega) HD.out.2.1 (dg_lt _ _)
        rw [wrap_d (dg_lt _ _), wrap_d HD.out.2.1, ← Int.natCast_mul]
        generalize dg d j * t = m at *
        rw [IntKind.wrap_u64, IntKind.wrap_u64]
        omega
      have h1 : ((mulc d t j + dg d j * t : Nat) : Int) % 4294967296 = (dg (d * t) j : Nat) := by rw [dg_mul]; unfold B; omega
      have h2 : ((mulc d t j + dg d j * t : Nat) : Int) / 4294967296 = (mulc d t (j + 1) : Nat) := by rw [mulc_succ]; unfold B; omega
      generalize hQ : mulc d t j + dg d j * t = Q at *
      generalize dg r j = x at *
      generalize dg (d * t) j = y at *
      generalize dg d j = dj at *
      generalize mulc d t j = c at *
      generalize subb r (d * t) j = b at *
      generalize hs : dg (wsub r (d * t) (n + 1)) j = s at *
      generalize hc : subb r (d * t) (j + 1) = b' at *
      generalize hc2 : mulc d t (j + 1) = c' at *
      have HS : Hid (dg (wsub r (d * t) (n + 1)) j = s ∧ subb r (d * t) (j + 1) = b' ∧ mulc d t (j + 1) = c') := ⟨hs, hc, hc2⟩
      clear hM hcb hI hf e1 e2 hs hc hc2 hQ hcl
      go_wp2_with (first | (go_at_call 100; simp only [hw, h1]; refine (k174 _).mono ?_; rintro e w' ⟨rfl, rfl⟩))
      exact ⟨⟨j + 1, by omega, by rw [HS.out.2.2], by rw [HS.out.2.1], by simp, HM.out.put (by rw [HS.out.1])⟩, by simp [intOf]; omega⟩
    · obtain rfl : j = n := by omega
      have h1 : ((mulc d t j : Nat) : Int) % 4294967296 = (dg (d * t) j : Nat) := by rw [dg_mul, dg_of_lt HD.out.1]; unfold B; omega
      have hfin : subb r (d * t) (j + 1) = if r < d * t then 1 else 0 := by
        unfold subb
        have hm : d * t < B ^ (j + 1) := by rw [Bpow_succ]; exact Nat.mul_lt_mul_of_lt_of_le HD.out.1 (Nat.le_of_lt HD.out.2.1) B_pos
        rw [Nat.mod_eq_of_lt HD.out.2.2, Nat.mod_eq_of_lt hm]
      have hfin2 : (((subb r (d * t) (j + 1) : Nat) : Int) != 0) = decide (r < d * t) := by rw [hfin]; by_cases h : r < d * t <;> simp [h]
      generalize dg r j = x at *
      generalize dg (d * t) j = y at *
      generalize mulc d t j = c at *
      generalize subb r (d * t) j = b at *
      generalize hs : dg (wsub r (d * t) (j + 1)) j = s at *
      generalize subb r (d * t) (j + 1) = b' at *
      have HS : Hid (dg (wsub r (d * t) (j + 1)) j = s) := hs
      have HB : Hid (((b' : Int) != 0) = decide (r < d * t)) := hfin2
      clear hM hcb hI hf e1 e2 hs hcl hfin hfin2
      go_wp2_with (first | (go_at_call 100; simp only [h1]; refine (k174 _).mono ?_; rintro e w' ⟨rfl, rfl⟩))
      go_ret
      exact ⟨congrArg Ending.returned (congrArg Value.bool HB.out), HM.out.put (by rw [HS.out])⟩
end Go.Proofs.YtceoeiojoffnnaaGreatDoor

/- guess, takeOut. -/
namespace Go.Proofs.YtceoeiojoffnnaaGreatDoor
set_option linter.unusedVariables false
set_option linter.unusedSimpArgs false
open Go.RowKit

theorem two_digits' {d0 d1 : Nat} (h0 : d0 < B) (h1 : d1 < B) : bits .or .u64 (IntKind.u64.wrap (IntKind.u64.wrap (d1 : Int) * 4294967296)) (IntKind.u64.wrap (d0 : Int)) = ((d0 + d1 * B : Nat) : Int) := by
  have e : IntKind.u64.wrap (IntKind.u64.wrap (d1 : Int) * 4294967296) = ((d1 * B : Nat) : Int) := by
    rw [wrap_d h1, IntKind.wrap_u64]; unfold B at *; omega
  rw [wrap_d h0, e, u64_or_nat _ _ (by unfold B at *; omega) (by unfold B at *; omega), or_add (p := 32) (by rw [← B_two]; exact Nat.mul_mod_left ..) h0, Nat.add_comm]

theorem wrap_quo {H d : Nat} (h : H < 18446744073709551616) : IntKind.u64.wrap ((H : Int) / (d : Int)) = ((H / d : Nat) : Int) := by
  have h2 := Nat.div_le_self H d
  rw [← Int.natCast_ediv]
  generalize H / d = T at *
  rw [IntKind.wrap_u64]
  omega
theorem min_end {T : Nat} (h : 4294967295 < (T : Int)) : (4294967295 : Int) = ((min T 4294967295 : Nat) : Int) := by omega
theorem min_end3 {T : Nat} (h : (T : Int) ≤ 4294967295) : (T : Int) = ((min T 4294967295 : Nat) : Int) := by omega
theorem min_end2 {T : Nat} (h : (T : Int) ≤ 4294967295) : (T : Int) % 4294967296 = ((min T 4294967295 : Nat) : Int) := by omega
theorem c175_1 (g off cap bb ob cb r1 r0 d0 : Nat) (w : World) (h0 : r0 < B) (h1 : r1 < B) (hd : d0 < B) (hd0 : d0 ≠ 0)
    (g1 : w.cell? ⟨g, off + 1, none⟩ = some (.int .u32 (r1 : Nat))) (g0 : w.cell? ⟨g, off, none⟩ = some (.int .u32 (r0 : Nat))) (gd : w.cell? ⟨bb, ob, none⟩ = some (.int .u32 (d0 : Nat))) :
    Calls Tryz.prog 105 #[.slice (some ⟨g, off, none⟩) 2 cap, .slice (some ⟨bb, ob, none⟩) 1 cb] w fun e w' => e = .returned (.int .u32 (min ((r0 + r1 * B) / d0) 4294967295 : Nat)) ∧ ∃ n, w' = w.drewN n := by
  have e1 := two_digits' h0 h1
  have e2 := wrap_d hd
  have hdz : ((d0 : Int) == 0) = false := by simp; exact hd0
  have hHb : r0 + r1 * B < 18446744073709551616 := by unfold B at *; omega
  generalize hH : r0 + r1 * B = H at *
  have e3 : IntKind.u64.wrap ((H : Int) / (d0 : Int)) = ((H / d0 : Nat) : Int) := wrap_quo hHb
  generalize H / d0 = T at *
  clear hH h0 h1 hHb hd
  go_enter Tryz.func105, Tryz.ntmps105
  go_wp2
  go_quiet (fail)
  go_wp2
  · go_ret
    exact ⟨congrArg Ending.returned (congrArg (Value.int IntKind.u32) (min_end (by assumption))), nq, rfl⟩
  · go_ret
    exact ⟨congrArg Ending.returned (congrArg (Value.int IntKind.u32) (min_end3 (by assumption))), nq, rfl⟩

/-- what the loop of guess keeps -/
def Gu (H d1 d0 r0 q t l : Nat) : Prop := t * d1 + l = H ∧ q ≤ t ∧ t < B ∧ q * (d1 * B + d0) ≤ H * B + r0
theorem gu_more {H d1 d0 r0 q t l : Nat} (h : Gu H d1 d0 r0 q t l) (hc : r0 + l * B < t * d0) : Gu H d1 d0 r0 q (t - 1) (l + d1) ∧ 0 < t := by
  obtain ⟨h1, h2, h3, h4⟩ := h
  have ht : 0 < t := Nat.pos_of_ne_zero fun e => by subst e; simp at hc
  have hlt : q * (d1 * B + d0) < t * (d1 * B + d0) := by
    have : t * (d1 * B + d0) = t * d1 * B + t * d0 := by grind
    rw [← h1] at h4
    have e : (t * d1 + l) * B = t * d1 * B + l * B := by grind
    omega
  have hq : q < t := Nat.lt_of_mul_lt_mul_right hlt
  refine ⟨⟨?_, by omega, by omega, h4⟩, ht⟩
  have : t * d1 = (t - 1) * d1 + d1 := by
    have := Nat.add_mul (t - 1) 1 d1
    rw [show t - 1 + 1 = t by omega, Nat.one_mul] at this
    exact this
  omega
theorem gu_end {H d1 d0 r0 q t l : Nat} (h : Gu H d1 d0 r0 q t l) (hc : t * d0 ≤ r0 + l * B) : q ≤ t ∧ t < B ∧ t * (d1 * B + d0) ≤ H * B + r0 := by
  obtain ⟨h1, h2, h3, h4⟩ := h
  refine ⟨h2, h3, ?_⟩
  have : t * (d1 * B + d0) = t * d1 * B + t * d0 := by grind
  rw [← h1]
  have e : (t * d1 + l) * B = t * d1 * B + l * B := by grind
  omega

set_option maxRecDepth 100000 in
theorem c175_2 (g off cap bb ob cb k r2 r1 r0 d1 d0 q T : Nat) (w : World) (hk : k ≤ 35184372088832) (h2 : r2 < B) (h1 : r1 < B) (h0 : r0 < B) (hd1 : d1 < B) (hd1z : d1 ≠ 0) (hd0 : d0 < B)
    (hT : (r1 + r2 * B) / d1 = T) (hTT : T ≤ 4294967295) (hG : Gu (r1 + r2 * B) d1 d0 r0 q T (r1 + r2 * B - T * d1))
    (g2 : w.cell? ⟨g, off + (k + 2), none⟩ = some (.int .u32 (r2 : Nat))) (g1 : w.cell? ⟨g, off + (k + 1), none⟩ = some (.int .u32 (r1 : Nat))) (g0 : w.cell? ⟨g, off + k, none⟩ = some (.int .u32 (r0 : Nat)))
    (f1 : w.cell? ⟨bb, ob + (k + 1), none⟩ = some (.int .u32 (d1 : Nat))) (f0 : w.cell? ⟨bb, ob + k, none⟩ = some (.int .u32 (d0 : Nat))) :
    Calls Tryz.prog 105 #[.slice (some ⟨g, off, none⟩) (k + 3 : Nat) cap, .slice (some ⟨bb, ob, none⟩) (k + 2 : Nat) cb] w fun e w' => (∃ t : Nat, e = .returned (.int .u32 t) ∧ q ≤ t ∧ t < B ∧ t * (d1 * B + d0) ≤ (r1 + r2 * B) * B + r0) ∧ ∃ n, w' = w.drewN n := by
  have e1 := two_digits' h1 h2
  have e2 := wrap_d hd1
  have hdz : ((d1 : Int) == 0) = false := by simp; exact hd1z
  have hHb : r1 + r2 * B < 18446744073709551616 := by unfold B at *; omega
  generalize hH : r1 + r2 * B = H at *
  have e3 : IntKind.u64.wrap ((H : Int) / (d1 : Int)) = ((H / d1 : Nat) : Int) := wrap_quo hHb
  rw [hT] at e3
  have hm : T * d1 ≤ H := by have := hG.1; omega
  have e4 : IntKind.u64.wrap ((T : Int) * (d1 : Int)) = ((T * d1 : Nat) : Int) := by
    rw [IntKind.wrap_u64]
    generalize hg : T * d1 = m at *
    have : (T : Int) * (d1 : Int) = (m : Int) := by rw [← hg]; exact (Int.natCast_mul _ _).symm
    rw [this]; omega
  have e5 : IntKind.u64.wrap ((H : Int) - ((T * d1 : Nat) : Int)) = ((H - T * d1 : Nat) : Int) := by
    rw [IntKind.wrap_u64]; omega
  have HB : Hid (r0 < B ∧ d0 < B ∧ d1 < B ∧ H < 18446744073709551616) := ⟨h0, hd0, hd1, hHb⟩
  have HG : Hid (Gu H d1 d0 r0 q T (H - T * d1)) := hG
  have htt : (T : Int) ≤ 4294967295 := by omega
  have hk1 : ((k : Int) + 2 == 1) = false := by simp; omega
  generalize T * d1 = M at *
  generalize hL : H - M = L at *
  clear hH h0 h1 h2 hHb hd1 hd0 hT hG hm hL
  go_enter Tryz.func105, Tryz.ntmps105
  go_wp2
  go_quiet (fail)
  go_wp2
  clear e1 e2 e3 e4 e5
  go_loopw [8, 9] (fun a b wr => ∃ t l n : Nat, a = .int .u64 t ∧ b = .int .u64 l ∧ wr = w.drewN n ∧ Hid (Gu H d1 d0 r0 q t l)) (fun a _ _ => (intOf a).toNat)
  case atStart => exact ⟨_, L, nq, rfl, rfl, rfl, HG⟩
  case round =>
    obtain ⟨t, l, n, rfl, rfl, rfl, hg⟩ := hrel
    obtain ⟨b1, b2, b3, b4⟩ := HB.out
    have hl : l ≤ H := by have := hg.out.1; omega
    have HW : Hid (∃ d', w.drewN n = w.drewN d') := ⟨n, rfl⟩
    have x0 : (w.drewN n).cell? ⟨g, off + k, none⟩ = some (.int .u32 (r0 : Nat)) := g0
    have y0 : (w.drewN n).cell? ⟨bb, ob + k, none⟩ = some (.int .u32 (d0 : Nat)) := f0
    generalize w.drewN n = wd at *
    have i1 : (l : Int) < 4294967296 → bits .or .u64 (IntKind.u64.wrap ((l : Int) * 4294967296)) (IntKind.u64.wrap (r0 : Int)) = ((r0 + l * B : Nat) : Int) := fun h => by
      have := two_digits' (d1 := l) b1 (by unfold B; omega)
      rw [wrap_d (by unfold B; omega)] at this
      exact this
    have i2 : IntKind.u64.wrap ((t : Int) * IntKind.u64.wrap (d0 : Int)) = ((t * d0 : Nat) : Int) := by
      have := mac_fits (c := 0) (f := 0) (d := d0) (e := t) (by unfold B; omega) (by unfold B; omega) b2 hg.out.2.2.1
      rw [wrap_d b2, ← Int.natCast_mul, IntKind.wrap_u64]
      generalize t * d0 = m at *
      omega
    by_cases hlB : (l : Int) < 4294967296
    · have i1 := i1 hlB
      have i3 : bits .or .u64 ((l : Int) * 4294967296) (IntKind.u64.wrap (r0 : Int)) = ((r0 + l * B : Nat) : Int) := by
        rw [← i1, show IntKind.u64.wrap ((l : Int) * 4294967296) = (l : Int) * 4294967296 by rw [IntKind.wrap_u64]; omega]
      have HC : Hid (r0 + l * B < t * d0 ∨ ¬ r0 + l * B < t * d0) := Nat.lt_or_ge _ _ |>.imp id Nat.not_lt.2
      have hgm := fun h => gu_more hg.out h
      have hge := fun h => gu_end hg.out h
      generalize r0 + l * B = P2 at *
      generalize t * d0 = P1 at *
      have HGM : Hid (P2 < P1 → Gu H d1 d0 r0 q (t - 1) (l + d1) ∧ 0 < t) := hgm
      have HGE : Hid (P1 ≤ P2 → q ≤ t ∧ t < B ∧ t * (d1 * B + d0) ≤ H * B + r0) := hge
      have s1 : IntKind.u64.wrap ((l : Int) + (d1 : Int)) = ((l + d1 : Nat) : Int) := by rw [IntKind.wrap_u64]; unfold B at *; omega
      have s2 : t < B := hg.out.2.2.1
      have HS : Hid (t < B) := s2
      have HS1 : Hid (IntKind.u64.wrap ((l : Int) + (d1 : Int)) = ((l + d1 : Nat) : Int)) := s1
      clear hgm hge g0 g1 g2 f0 f1 HG s1 s2 b1 b2 b3 b4 hl hg
      by_cases hc : P2 < P1
      · have hci : (P2 : Int) < (P1 : Int) := by omega
        go_wp2
        go_quiet (fail)
        have HC2 : Hid (P2 < P1) := hc
        clear hlB i1 i2 i3 hci hc
        go_wp2
        obtain ⟨d', e⟩ := HW.out
        obtain ⟨hg, ht0⟩ := HGM.out HC2.out
        have hts := HS.out
        rw [HS1.out]
        refine ⟨⟨t - 1, l + d1, _, ?_, rfl, by rw [e]; exact World.drewN_drewN .., hg⟩, ?_⟩
        · congr 1
          unfold B at hts
          first | omega | (rw [IntKind.wrap_u64]; omega)
        · unfold B at hts
          simp only [intOf]
          first | omega | (rw [IntKind.wrap_u64]; omega)
      · have hci : ¬ (P2 : Int) < (P1 : Int) := by omega
        go_wp2
        go_quiet (fail)
        have HC2 : Hid (¬ P2 < P1) := hc
        clear hlB i1 i2 i3 hci hc
        go_wp2
        go_ret
        obtain ⟨d', e⟩ := HW.out
        have HE := HGE.out (by have := HC2.out; omega)
        have ht := HE.2.1
        refine ⟨⟨t, congrArg Ending.returned (congrArg (Value.int IntKind.u32) ?_), HE⟩, _, by rw [e]; exact World.drewN_drewN ..⟩
        unfold B at ht
        omega
    · have hlB' : decide ((l : Int) < 4294967296) = false := by simpa using hlB
      have HE : Hid (q ≤ t ∧ t < B ∧ t * (d1 * B + d0) ≤ H * B + r0) := gu_end hg.out (by
        have h5 : t * d0 ≤ B * B := Nat.mul_le_mul (Nat.le_of_lt hg.out.2.2.1) (Nat.le_of_lt b2)
        have h6 : B * B ≤ l * B := Nat.mul_le_mul_right _ (by unfold B; omega)
        omega)
      clear i1 b1 b2 b3 b4 hl hg
      go_wp2
      go_quiet (fail)
      go_wp2
      go_ret
      obtain ⟨d', e⟩ := HW.out
      have ht := HE.out.2.1
      refine ⟨⟨t, congrArg Ending.returned (congrArg (Value.int IntKind.u32) ?_), HE.out⟩, _, by rw [e]; exact World.drewN_drewN ..⟩
      unfold B at ht
      omega

set_option maxRecDepth 100000 in
theorem c175_3 (g off cap bb ob cb k r2 r1 r0 d1 d0 q T : Nat) (w : World) (hk : k ≤ 35184372088832) (h2 : r2 < B) (h1 : r1 < B) (h0 : r0 < B) (hd1 : d1 < B) (hd1z : d1 ≠ 0) (hd0 : d0 < B)
    (hT : (r1 + r2 * B) / d1 = T) (hTT : 4294967295 < T) (hG : Gu (r1 + r2 * B) d1 d0 r0 q 4294967295 (r1 + r2 * B - 4294967295 * d1))
    (g2 : w.cell? ⟨g, off + (k + 2), none⟩ = some (.int .u32 (r2 : Nat))) (g1 : w.cell? ⟨g, off + (k + 1), none⟩ = some (.int .u32 (r1 : Nat))) (g0 : w.cell? ⟨g, off + k, none⟩ = some (.int .u32 (r0 : Nat)))
    (f1 : w.cell? ⟨bb, ob + (k + 1), none⟩ = some (.int .u32 (d1 : Nat))) (f0 : w.cell? ⟨bb, ob + k, none⟩ = some (.int .u32 (d0 : Nat))) :
    Calls Tryz.prog 105 #[.slice (some ⟨g, off, none⟩) (k + 3 : Nat) cap, .slice (some ⟨bb, ob, none⟩) (k + 2 : Nat) cb] w fun e w' => (∃ t : Nat, e = .returned (.int .u32 t) ∧ q ≤ t ∧ t < B ∧ t * (d1 * B + d0) ≤ (r1 + r2 * B) * B + r0) ∧ ∃ n, w' = w.drewN n := by
  have e1 := two_digits' h1 h2
  have e2 := wrap_d hd1
  have hdz : ((d1 : Int) == 0) = false := by simp; exact hd1z
  have hHb : r1 + r2 * B < 18446744073709551616 := by unfold B at *; omega
  generalize hH : r1 + r2 * B = H at *
  have e3 : IntKind.u64.wrap ((H : Int) / (d1 : Int)) = ((H / d1 : Nat) : Int) := wrap_quo hHb
  rw [hT] at e3
  have hm : 4294967295 * d1 ≤ H := by have := hG.1; omega
  have e4 : IntKind.u64.wrap ((4294967295 : Int) * (d1 : Int)) = ((4294967295 * d1 : Nat) : Int) := by
    rw [IntKind.wrap_u64]
    generalize hg : 4294967295 * d1 = m at *
    have : (4294967295 : Int) * (d1 : Int) = (m : Int) := by rw [← hg]; exact (Int.natCast_mul _ _).symm
    rw [this]; omega
  have e5 : IntKind.u64.wrap ((H : Int) - ((4294967295 * d1 : Nat) : Int)) = ((H - 4294967295 * d1 : Nat) : Int) := by
    rw [IntKind.wrap_u64]; omega
  have HB : Hid (r0 < B ∧ d0 < B ∧ d1 < B ∧ H < 18446744073709551616) := ⟨h0, hd0, hd1, hHb⟩
  have HG : Hid (Gu H d1 d0 r0 q 4294967295 (H - 4294967295 * d1)) := hG
  have htt : (4294967295 : Int) < (T : Int) := by omega
  have hk1 : ((k : Int) + 2 == 1) = false := by simp; omega
  generalize 4294967295 * d1 = M at *
  generalize hL : H - M = L at *
  clear hH h0 h1 h2 hHb hd1 hd0 hT hG hm hL
  go_enter Tryz.func105, Tryz.ntmps105
  go_wp2
  go_quiet (fail)
  go_wp2
  clear e1 e2 e3 e4 e5
  go_loopw [8, 9] (fun a b wr => ∃ t l n : Nat, a = .int .u64 t ∧ b = .int .u64 l ∧ wr = w.drewN n ∧ Hid (Gu H d1 d0 r0 q t l)) (fun a _ _ => (intOf a).toNat)
  case atStart => exact ⟨_, L, nq, rfl, rfl, rfl, HG⟩
  case round =>
    obtain ⟨t, l, n, rfl, rfl, rfl, hg⟩ := hrel
    obtain ⟨b1, b2, b3, b4⟩ := HB.out
    have hl : l ≤ H := by have := hg.out.1; omega
    have HW : Hid (∃ d', w.drewN n = w.drewN d') := ⟨n, rfl⟩
    have x0 : (w.drewN n).cell? ⟨g, off + k, none⟩ = some (.int .u32 (r0 : Nat)) := g0
    have y0 : (w.drewN n).cell? ⟨bb, ob + k, none⟩ = some (.int .u32 (d0 : Nat)) := f0
    generalize w.drewN n = wd at *
    have i1 : (l : Int) < 4294967296 → bits .or .u64 (IntKind.u64.wrap ((l : Int) * 4294967296)) (IntKind.u64.wrap (r0 : Int)) = ((r0 + l * B : Nat) : Int) := fun h => by
      have := two_digits' (d1 := l) b1 (by unfold B; omega)
      rw [wrap_d (by unfold B; omega)] at this
      exact this
    have i2 : IntKind.u64.wrap ((t : Int) * IntKind.u64.wrap (d0 : Int)) = ((t * d0 : Nat) : Int) := by
      have := mac_fits (c := 0) (f := 0) (d := d0) (e := t) (by unfold B; omega) (by unfold B; omega) b2 hg.out.2.2.1
      rw [wrap_d b2, ← Int.natCast_mul, IntKind.wrap_u64]
      generalize t * d0 = m at *
      omega
    by_cases hlB : (l : Int) < 4294967296
    · have i1 := i1 hlB
      have i3 : bits .or .u64 ((l : Int) * 4294967296) (IntKind.u64.wrap (r0 : Int)) = ((r0 + l * B : Nat) : Int) := by
        rw [← i1, show IntKind.u64.wrap ((l : Int) * 4294967296) = (l : Int) * 4294967296 by rw [IntKind.wrap_u64]; omega]
      have HC : Hid (r0 + l * B < t * d0 ∨ ¬ r0 + l * B < t * d0) := Nat.lt_or_ge _ _ |>.imp id Nat.not_lt.2
      have hgm := fun h => gu_more hg.out h
      have hge := fun h => gu_end hg.out h
      generalize r0 + l * B = P2 at *
      generalize t * d0 = P1 at *
      have HGM : Hid (P2 < P1 → Gu H d1 d0 r0 q (t - 1) (l + d1) ∧ 0 < t) := hgm
      have HGE : Hid (P1 ≤ P2 → q ≤ t ∧ t < B ∧ t * (d1 * B + d0) ≤ H * B + r0) := hge
      have s1 : IntKind.u64.wrap ((l : Int) + (d1 : Int)) = ((l + d1 : Nat) : Int) := by rw [IntKind.wrap_u64]; unfold B at *; omega
      have s2 : t < B := hg.out.2.2.1
      have HS : Hid (t < B) := s2
      have HS1 : Hid (IntKind.u64.wrap ((l : Int) + (d1 : Int)) = ((l + d1 : Nat) : Int)) := s1
      clear hgm hge g0 g1 g2 f0 f1 HG s1 s2 b1 b2 b3 b4 hl hg
      by_cases hc : P2 < P1
      · have hci : (P2 : Int) < (P1 : Int) := by omega
        go_wp2
        go_quiet (fail)
        have HC2 : Hid (P2 < P1) := hc
        clear hlB i1 i2 i3 hci hc
        go_wp2
        obtain ⟨d', e⟩ := HW.out
        obtain ⟨hg, ht0⟩ := HGM.out HC2.out
        have hts := HS.out
        rw [HS1.out]
        refine ⟨⟨t - 1, l + d1, _, ?_, rfl, by rw [e]; exact World.drewN_drewN .., hg⟩, ?_⟩
        · congr 1
          unfold B at hts
          first | omega | (rw [IntKind.wrap_u64]; omega)
        · unfold B at hts
          simp only [intOf]
          first | omega | (rw [IntKind.wrap_u64]; omega)
      · have hci : ¬ (P2 : Int) < (P1 : Int) := by omega
        go_wp2
        go_quiet (fail)
        have HC2 : Hid (¬ P2 < P1) := hc
        clear hlB i1 i2 i3 hci hc
        go_wp2
        go_ret
        obtain ⟨d', e⟩ := HW.out
        have HE := HGE.out (by have := HC2.out; omega)
        have ht := HE.2.1
        refine ⟨⟨t, congrArg Ending.returned (congrArg (Value.int IntKind.u32) ?_), HE⟩, _, by rw [e]; exact World.drewN_drewN ..⟩
        unfold B at ht
        omega
    · have hlB' : decide ((l : Int) < 4294967296) = false := by simpa using hlB
      have HE : Hid (q ≤ t ∧ t < B ∧ t * (d1 * B + d0) ≤ H * B + r0) := gu_end hg.out (by
        have h5 : t * d0 ≤ B * B := Nat.mul_le_mul (Nat.le_of_lt hg.out.2.2.1) (Nat.le_of_lt b2)
        have h6 : B * B ≤ l * B := Nat.mul_le_mul_right _ (by unfold B; omega)
        omega)
      clear i1 b1 b2 b3 b4 hl hg
      go_wp2
      go_quiet (fail)
      go_wp2
      go_ret
      obtain ⟨d', e⟩ := HW.out
      have ht := HE.out.2.1
      refine ⟨⟨t, congrArg Ending.returned (congrArg (Value.int IntKind.u32) ?_), HE.out⟩, _, by rw [e]; exact World.drewN_drewN ..⟩
      unfold B at ht
      omega
end Go.Proofs.YtceoeiojoffnnaaGreatDoor
