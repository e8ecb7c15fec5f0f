/- Own work: contracts of the program's functions, part 14: SP1 SP2 SP3 SP4 SQ4 SQ5 SR1 SR2 SNM SO5 SO6 SO7 SO8. -/
import Derived.Test.YtcoclopllbfjcaaGreatDoorA12
import Derived.Test.YtcoclopllbfjcaaGreatDoorA2
import Derived.Test.YtcoclopllbfjcaaGreatDoorA11
import Derived.Test.YtcoclopllbfjcaaGreatDoorA9
import Derived.Test.YtcoclopllbfjcaaGreatDoorA10
import Derived.Test.YtcoclopllbfjcaaGreatDoorA6
import Derived.Test.YtcoclopllbfjcaaGreatDoorA13
import Derived.Test.YtcoclopllbfjcaaGreatDoorA7

/- The program's powers of numbers. -/
namespace Go.Proofs.YtcoclopllbfjcaaGreatDoor
set_option linter.unusedVariables false
set_option linter.unusedSimpArgs false
open Go.RowKit Go.Fl64

theorem pn_storeP {w : World} {A : Value} {t : Bool × Nat × Int} {g : Nat} {s : Bool} {ao : Option Addr} {n cap : Nat} {e : Int} (h : PN w A t) (hg : w.heap[g]? = some (.cells #[.bool s, .slice ao n cap, .int .i64 e] 96 (0, 0))) (a b c : Value) : PN (((w.setCell ⟨g, 0, none⟩ a).setCell ⟨g, 1, none⟩ b).setCell ⟨g, 2, none⟩ c) A t := by
  obtain ⟨oo, cc, h1, ao', cap', h2, h3, h4, h5⟩ := h
  exact ⟨oo, cc, h1, ao', cap', h2, h3, h4, at_boxP h5 hg (by simp) (by simp) (by simp) a b c⟩
theorem store3_other {w : World} {g k : Nat} (a b c : Value) (h : k ≠ g) : (((w.setCell ⟨g, 0, none⟩ a).setCell ⟨g, 1, none⟩ b).setCell ⟨g, 2, none⟩ c).heap[k]? = w.heap[k]? := by
  have h' : ¬ g = k := fun e => h e.symm
  simp [World.setCell, Array.getElem?_modify, h']
def NBx (W : World) (g : Nat) (s : Bool) (ao : Option Addr) (m cap : Nat) (e : Int) : Prop := W.heap[g]? = some (.cells #[.bool s, .slice ao m cap, .int .i64 e] 96 (0, 0))
/-- what holds between two rounds: the number's box, the answer's, the argument's -/
def RdP (w : World) (g : Nat) (t p : Bool × Nat × Int) (s0 : Bool) (ao0 : Option Addr) (m0 c0 : Nat) (e0 : Int) (wr : World) (s : Bool) (ao : Option Addr) (m cap : Nat) (e : Int) : Prop :=
  NBx wr g s ao m cap e ∧ NBx wr w.heap.size s0 ao0 m0 c0 e0 ∧ NBx wr (w.heap.size + 1) false none 0 0 0 ∧ PN wr (.agg #[.bool s, .slice ao m cap, .int .i64 e]) p ∧ Below w.heap.size w wr ∧ w.heap.size + 1 < g ∧ g < wr.heap.size
theorem RdP.next {w : World} {g : Nat} {t p q : Bool × Nat × Int} {s0 : Bool} {ao0 : Option Addr} {m0 c0 : Nat} {e0 : Int} {wr w' : World} {s s' : Bool} {ao ao' : Option Addr} {m cap m' cap' : Nat} {e e' : Int}
    (h : RdP w g t p s0 ao0 m0 c0 e0 wr s ao m cap e) (hb : Below wr.heap.size wr w') (hp : PN w' (.agg #[.bool s', .slice ao' m' cap', .int .i64 e']) q) :
    RdP w g t q s0 ao0 m0 c0 e0 (((w'.setCell ⟨g, 0, none⟩ (.bool s')).setCell ⟨g, 1, none⟩ (.slice ao' m' cap')).setCell ⟨g, 2, none⟩ (.int .i64 e')) s' ao' m' cap' e' := by
  obtain ⟨h1, h2, h3, h4, h5, h6, h7⟩ := h
  have hs := hb.size
  have b1 := box_later h1 hb h7
  refine ⟨store3 _ _ _ b1, ?_, ?_, pn_storeP hp b1 _ _ _, below_store3 (h5.trans (hb.mono h5.size)) (by omega) _ _ _, h6, by simp [World.setCell]; omega⟩
  · show _ = _
    rw [store3_other _ _ _ (by omega)]; exact box_later h2 hb (by omega)
  · show _ = _
    rw [store3_other _ _ _ (by omega)]; exact box_later h3 hb (by omega)

theorem bit_tab : ∀ k : Fin 1025, (bits BinOp.and IntKind.i64 ((k.val : Nat) : Int) 1 == 1) = (k.val % 2 == 1) := by decide +kernel
theorem bit_i64 {n q : Nat} (h : n ≤ 1024) : (bits BinOp.and IntKind.i64 ((n : Int) / 2 ^ q) 1 == 1) = (n / 2 ^ q % 2 == 1) := by
  have h1 := Nat.div_le_self n (2 ^ q)
  have h2 := bit_tab ⟨n / 2 ^ q, by omega⟩
  rw [show (n : Int) / 2 ^ q = ((n / 2 ^ q : Nat) : Int) by simp]
  exact h2
theorem two_half (n q : Nat) : n / 2 ^ (q + 1) + n / 2 ^ (q + 1) + n / 2 ^ q % 2 = n / 2 ^ q := by
  rw [Nat.pow_succ, ← Nat.div_div_eq_div_mul]; omega

set_option maxHeartbeats 4000000 in
set_option maxRecDepth 200000 in
theorem smult_1 (t : Bool × Nat × Int) (P : Nat → Bool × Nat × Int) (n L : Nat) (s0 : Bool) (ao0 : Option Addr) (m0 c0 : Nat) (e0 : Int) (w : World) (hn : n ≤ 1024) (hL : Hid (bl n = L)) (hL2 : L ≤ 11)
    (hA : PN w (.agg #[.bool s0, .slice ao0 m0 c0, .int .i64 e0]) (P 1))
    (kW : ∀ W, Below w.heap.size w W → Calls Tryz.prog 136 #[.int .i64 1] W fun r w' => OutA W (P 0) r w')
    (kM : ∀ W X Y a b, Below w.heap.size w W → PN W X (P a) → PN W Y (P b) → a + b ≤ n → Calls Tryz.prog 119 #[X, Y] W fun r w' => OutN8 W (P (a + b)) r w')
    (kL : ∀ W, Calls Tryz.prog 137 #[.int .u64 n] W fun r w' => r = .returned (.int .i64 L) ∧ w' = W) :
    Calls Tryz.prog 101 #[.agg #[.bool s0, .slice ao0 m0 c0, .int .i64 e0], .int .i64 n] w fun r w' => OutA w (P n) r w' := by
  obtain ⟨W, hW⟩ : ∃ W, W = (w.alloc (.cells #[.bool s0, .slice ao0 m0 c0, .int .i64 e0] 96)).alloc (.cells #[.bool false, .slice none 0 0, .int .i64 0] 96) := ⟨_, rfl⟩
  have hsz : W.heap.size = w.heap.size + 1 + 1 := by rw [hW]; simp
  have hBW : Below w.heap.size w W := by rw [hW]; exact ((Below.refl _ _).alloc (Nat.le_refl _) _).alloc (by simp) _
  have hA1 : NBx W w.heap.size s0 ao0 m0 c0 e0 := by
    show W.heap[w.heap.size]? = _
    rw [hW, Below.heap_alloc _ _ _ (by simp)]; exact heap_alloc_new _ _
  have hA2 : NBx W (w.heap.size + 1) false none 0 0 0 := by
    show W.heap[w.heap.size + 1]? = _
    have h := heap_alloc_new (w.alloc (.cells #[.bool s0, .slice ao0 m0 c0, .int .i64 e0] 96)) (.cells #[.bool false, .slice none 0 0, .int .i64 0] 96)
    rw [hW]; simpa using h
  have k1 := kW W hBW
  have HH : Hid (NBx W w.heap.size s0 ao0 m0 c0 e0 ∧ NBx W (w.heap.size + 1) false none 0 0 0 ∧ Below w.heap.size w W ∧ W.heap.size = w.heap.size + 1 + 1) := ⟨hA1, hA2, hBW, hsz⟩
  clear hA1 hA2 hBW hsz kW
  go_enter Tryz.func101, Tryz.ntmps101
  go_wp2_with fail
  rw [← hW]
  clear hW
  refine k1.mono ?_
  rintro r w1 ⟨s, ao, m, cap, e, rfl, hp, hb⟩
  clear k1
  obtain ⟨V, hV⟩ : ∃ V, V = w1.alloc (.cells #[.bool s, .slice ao m cap, .int .i64 e] 96) := ⟨_, rfl⟩
  obtain ⟨g, hg⟩ : ∃ g, g = w1.heap.size := ⟨_, rfl⟩
  have HR : Hid (RdP w g (P 1) (P 0) s0 ao0 m0 c0 e0 V s ao m cap e) := by
    obtain ⟨h1, h2, h3, h4⟩ := HH.out
    have hs := hb.size
    have hc : Below w1.heap.size w1 V := by rw [hV]; exact (Below.refl _ _).alloc (Nat.le_refl _) _
    refine ⟨by rw [hg, hV]; exact heap_alloc_new _ _, ?_, ?_, hp.later hc, (h3.trans (hb.mono h3.size)).trans (hc.mono (by omega)), by omega, by rw [hV, hg]; simp⟩
    · exact box_later (box_later h1 hb (by omega)) hc (by omega)
    · exact box_later (box_later h2 hb (by omega)) hc (by omega)
  go_wp2_with fail
  rw [← hV, ← hg]
  clear hV hg HH hp hb
  refine (kL _).mono ?_
  rintro r w2 ⟨rfl, rfl⟩
  go_wp2
  go_loopw [6] (fun v wr => ∃ (p : Nat) (s : Bool) (ao : Option Addr) (m cap : Nat) (e : Int), p ≤ L ∧ v = .int .i64 ((p : Int) - 1) ∧ Hid (RdP w g (P 1) (P (n / 2 ^ p)) s0 ao0 m0 c0 e0 wr s ao m cap e)) (fun v _ => (intOf v + 1).toNat)
  case atStart => exact ⟨L, s, ao, m, cap, e, Nat.le_refl _, rfl, by rw [← hL.out, Nat.div_eq_of_lt (lt_bl n)]; exact HR⟩
  case round =>
    obtain ⟨p, s, ao, m, cap, e, hp, rfl, HI⟩ := hrel
    clear HR
    by_cases h0 : 0 < p
    · obtain ⟨q, rfl⟩ : ∃ q, p = q + 1 := ⟨p - 1, by omega⟩
      have e1 : ((q + 1 : Nat) : Int) - 1 = (q : Int) := by omega
      have hq0 : (0 : Int) ≤ (q : Int) := by omega
      have hq1 : (q : Int) < 64 := by omega
      rw [e1]
      obtain ⟨⟨a0, a1, a2⟩, -⟩ := box_cells HI.out.1
      have k1 := kM wr _ _ (n / 2 ^ (q + 1)) (n / 2 ^ (q + 1)) HI.out.2.2.2.2.1 HI.out.2.2.2.1 HI.out.2.2.2.1 (by have := two_half n q; have := Nat.div_le_self n (2 ^ q); omega)
      go_wp2_with fail
      refine k1.mono ?_
      rintro r w3 ⟨s1, ao1, m1, cap1, e2, rfl, hp1, hb1⟩
      have HB3 : Hid (Below wr.heap.size wr w3) := hb1
      have HI3 : Hid (RdP w g (P 1) (P (n / 2 ^ (q + 1) + n / 2 ^ (q + 1))) s0 ao0 m0 c0 e0 (((w3.setCell ⟨g, 0, none⟩ (.bool s1)).setCell ⟨g, 1, none⟩ (.slice ao1 m1 cap1)).setCell ⟨g, 2, none⟩ (.int .i64 e2)) s1 ao1 m1 cap1 e2) := HI.out.next hb1 hp1
      clear k1 a0 a1 a2
      obtain ⟨⟨a0, a1, a2⟩, f0, f1, f2⟩ := box_cells (box_later HI.out.1 hb1 HI.out.2.2.2.2.2.2)
      clear hp1 hb1 HI HB3
      go_upto_region 6 with fail
      obtain ⟨U, hU⟩ : ∃ U, U = (((w3.setCell ⟨g, 0, none⟩ (.bool s1)).setCell ⟨g, 1, none⟩ (.slice ao1 m1 cap1)).setCell ⟨g, 2, none⟩ (.int .i64 e2)) := ⟨_, rfl⟩
      rw [← hU] at HI3 ⊢
      clear hU a0 a1 a2 f0 f1 f2
      have hbit := bit_i64 (q := q) hn
      have h2 := two_half n q
      by_cases hodd : n / 2 ^ q % 2 = 1
      · rw [show (n / 2 ^ q % 2 == 1) = true by simp [hodd]] at hbit
        obtain ⟨⟨a0, a1, a2⟩, -⟩ := box_cells HI3.out.1
        obtain ⟨⟨b0, b1, b2⟩, -⟩ := box_cells HI3.out.2.1
        have k2 := kM U _ _ (n / 2 ^ (q + 1) + n / 2 ^ (q + 1)) 1 HI3.out.2.2.2.2.1 HI3.out.2.2.2.1 (hA.later HI3.out.2.2.2.2.1) (by have := Nat.div_le_self n (2 ^ q); omega)
        rw [show n / 2 ^ (q + 1) + n / 2 ^ (q + 1) + 1 = n / 2 ^ q by omega] at k2
        clear h2
        go_wp2_with fail
        refine k2.mono ?_
        rintro r w4 ⟨s3, ao3, m3, cap3, e3, rfl, hp4, hb4⟩
        have HI4 : Hid (RdP w g (P 1) (P (n / 2 ^ q)) s0 ao0 m0 c0 e0 (((w4.setCell ⟨g, 0, none⟩ (.bool s3)).setCell ⟨g, 1, none⟩ (.slice ao3 m3 cap3)).setCell ⟨g, 2, none⟩ (.int .i64 e3)) s3 ao3 m3 cap3 e3) := HI3.out.next hb4 hp4
        clear k2 a0 a1 a2 b0 b1 b2
        obtain ⟨⟨a0, a1, a2⟩, f0, f1, f2⟩ := box_cells (box_later HI3.out.1 hb4 HI3.out.2.2.2.2.2.2)
        clear hp4 hb4 HI3 hbit hodd
        go_wp2_with fail
        exact ⟨⟨q, s3, ao3, m3, cap3, e3, by omega, rfl, HI4⟩, by simp [intOf]⟩
      · rw [show (n / 2 ^ q % 2 == 1) = false by simp [hodd]] at hbit
        rw [show n / 2 ^ (q + 1) + n / 2 ^ (q + 1) = n / 2 ^ q by omega] at HI3
        clear h2 hodd
        go_wp2_with fail
        exact ⟨⟨q, s1, ao1, m1, cap1, e2, by omega, rfl, HI3⟩, by simp [intOf]⟩
    · obtain rfl : p = 0 := by omega
      rw [Nat.pow_zero, Nat.div_one] at HI
      obtain ⟨⟨a0, a1, a2⟩, -⟩ := box_cells HI.out.1
      obtain ⟨⟨b0, b1, b2⟩, f0, f1, f2⟩ := box_cells HI.out.2.2.1
      go_wp2_with fail
      refine bodyPost_ret (results_cell_row rfl _ _ (w.heap.size + 1) 96 #[.bool s, .slice ao m cap, .int .i64 e] (0, 0) _ rfl (store3 _ _ _ HI.out.2.2.1) Tryz.underlying96 rfl Tryz.info96) rfl ?_
      exact ⟨s, ao, m, cap, e, rfl, pn_storeP HI.out.2.2.2.1 HI.out.2.2.1 _ _ _, below_store3 HI.out.2.2.2.2.1 (by omega) _ _ _⟩
end Go.Proofs.YtcoclopllbfjcaaGreatDoor
/- Powers in numbers. -/
namespace Go.Proofs.YtcoclopllbfjcaaGreatDoor
set_option linter.unusedVariables false
set_option linter.unusedSimpArgs false
open Go.RowKit Go.Fl64

/-- a number to the n -/
def pw (t : Bool × Nat × Int) (n : Nat) : Bool × Nat × Int := if t.2.1 = 0 then (false, if n = 0 then 1 else 0, 0) else (t.1 && n % 2 == 1, t.2.1 ^ n, t.2.2 * n)
theorem pow_odd {x : Nat} (h : x % 2 = 1) (n : Nat) : x ^ n % 2 = 1 := by rw [Nat.pow_mod, h, Nat.one_pow]
theorem pw_mul {t : Bool × Nat × Int} (ho : t.2.1 ≠ 0 → t.2.1 % 2 = 1) (a b : Nat) : tM (pw t a) (pw t b) = pw t (a + b) := by
  unfold pw tM
  by_cases h0 : t.2.1 = 0
  · simp only [if_pos h0]
    by_cases ha : a = 0 <;> by_cases hb : b = 0 <;> simp [ha, hb, cn, tz_odd]
  · simp only [if_neg h0]
    rw [← Nat.pow_add, cn_odd (pow_odd (ho h0) _)]
    have h1 : (!((t.1 && a % 2 == 1) == (t.1 && b % 2 == 1))) = (t.1 && (a + b) % 2 == 1) := by
      cases t.1
      · rfl
      · rcases Nat.mod_two_eq_zero_or_one a with h | h <;> rcases Nat.mod_two_eq_zero_or_one b with h' | h' <;> rw [h, h', Nat.add_mod, h, h'] <;> rfl
    have h2 : t.2.2 * (a : Int) + t.2.2 * (b : Int) = t.2.2 * ((a + b : Nat) : Int) := by rw [← Int.mul_add]; rfl
    rw [h1, h2]
theorem pw_zero (t : Bool × Nat × Int) : pw t 0 = (false, 1, 0) := by
  unfold pw
  by_cases h0 : t.2.1 = 0 <;> simp [h0]
theorem pw_one {t : Bool × Nat × Int} (h : t.2.1 = 0 → t = (false, 0, 0)) : pw t 1 = t := by
  unfold pw
  by_cases h0 : t.2.1 = 0
  · rw [if_pos h0, h h0]; rfl
  · rw [if_neg h0]; simp
theorem pw_ltk {x n k : Nat} (h : x < 9007199254740992) (hp : 0 < n) (hk : 53 * n ≤ 32 * k) : x ^ n < B ^ k := by
  have h1 : x ^ n < (2 ^ 53) ^ n := Nat.pow_lt_pow_left (by omega) (by omega)
  refine Nat.lt_of_lt_of_le h1 ?_
  rw [← Nat.pow_mul, B_two, ← Nat.pow_mul]
  exact Nat.pow_le_pow_right (by decide) hk
theorem dlen_one1 : dlen 1 ≤ 1 := (dlen_le 1 1).2 (by decide)
theorem pw_ltd {x n k : Nat} (h : x < 9007199254740992) (hp : 0 < n) (hk : 53 * n ≤ 32 * k) : dlen (x ^ n) ≤ k := (dlen_le _ _).2 (pw_ltk h hp hk)
theorem pw_lt {x n : Nat} (h : x < 9007199254740992) (hn : n ≤ 1024) : dlen (x ^ n) ≤ 1696 := by
  rcases Nat.eq_zero_or_pos n with rfl | hp
  · rw [Nat.pow_zero]; exact Nat.le_trans dlen_one1 (by decide)
  · exact pw_ltd h hp (by omega)
theorem ok_mk {s : Bool} {x : Nat} {e : Int} (ho : x % 2 = 1) (hd : dlen x ≤ 2048) (h1 : -65536 ≤ e) (h2 : e ≤ 65536) : Ok (s, x, e) := by
  unfold Ok okN
  have hx : x ≠ 0 := by omega
  rw [if_neg (fun e0 => hx (dlen_eq_zero.1 e0))]
  have g1 : (dg x (dlen x - 1) != 0) = true := by simp; exact dg_top hx
  have g2 : (dg x 0 % 2 == 1) = true := by
    have : dg x 0 % 2 = 1 := by
      unfold dg
      simp only [Nat.pow_zero, Nat.div_one]
      unfold B
      omega
    simp [this]
  show (decide (dlen x ≤ 2048) && (dg x (dlen x - 1) != 0) && (dg x 0 % 2 == 1) && decide (-65536 ≤ e) && decide (e ≤ 65536)) = true
  rw [g1, g2]
  simp [hd, h1, h2]
theorem pw_ok {s : Bool} {x n : Nat} (ho : x ≠ 0 → x % 2 = 1) (h : x < 9007199254740992) (hn : n ≤ 1024) : Ok (pw (s, x, 0) n) := by
  unfold pw
  by_cases h0 : x = 0
  · rw [if_pos h0]
    by_cases hn0 : n = 0
    · rw [if_pos hn0]; exact ok_mk rfl (Nat.le_trans dlen_one1 (by decide)) (by decide) (by decide)
    · rw [if_neg hn0]; unfold Ok; rw [dlen_zero]; rfl
  · rw [if_neg h0]
    exact ok_mk (pow_odd (ho h0) n) (Nat.le_trans (pw_lt h hn) (by decide)) (by simp) (by simp)
end Go.Proofs.YtcoclopllbfjcaaGreatDoor
/- The program's powers of floats, rounded. -/
namespace Go.Proofs.YtcoclopllbfjcaaGreatDoor
set_option linter.unusedVariables false
set_option linter.unusedSimpArgs false
open Go.RowKit Go.Fl64

set_option maxRecDepth 200000 in
theorem spower_0 (a : Nat) (m : Int) (M E : Int) (s fi : Bool) (w : World)
    (kS : Calls Tryz.prog 98 #[.float .f64 a] w fun r w' => r = .returned (.tuple #[.int .u64 M, .int .i64 E, .bool s, .bool fi]) ∧ ∃ n, w' = w.drewN n) :
    Calls Tryz.prog 55 #[.float .f64 a, .int .i64 0, .int .i64 m] w fun r w' => r = .returned (.float .f64 4607182418800017408) ∧ Below w.heap.size w w' := by
  have k := kS
  clear kS
  go_enter Tryz.func55, Tryz.ntmps55
  go_wp2_with fail
  refine k.mono ?_
  rintro r w1 ⟨rfl, d, rfl⟩
  clear k
  go_wp2
  go_ret
  exact ⟨rfl, below_drewN (Below.refl _ _) _⟩
set_option maxRecDepth 200000 in
theorem spower_i (a : Nat) (n m : Int) (M E : Int) (s : Bool) (w : World) (hn : (n == 0) = false)
    (kS : Calls Tryz.prog 98 #[.float .f64 a] w fun r w' => r = .returned (.tuple #[.int .u64 M, .int .i64 E, .bool s, .bool false]) ∧ ∃ n, w' = w.drewN n) :
    Calls Tryz.prog 55 #[.float .f64 a, .int .i64 n, .int .i64 m] w fun r w' => r = .returned (.float .f64 a) ∧ Below w.heap.size w w' := by
  have k := kS
  clear kS
  go_enter Tryz.func55, Tryz.ntmps55
  go_wp2_with fail
  refine k.mono ?_
  rintro r w1 ⟨rfl, d, rfl⟩
  clear k
  go_wp2
  go_ret
  exact ⟨rfl, below_drewN (Below.refl _ _) _⟩

set_option maxHeartbeats 4000000 in
set_option maxRecDepth 200000 in
theorem spower_1 (a n M F : Nat) (m E K d0 d1 : Int) (s : Bool) (t p q : Bool × Nat × Int) (w : World) (hn0 : ((n : Int) == 0) = false) (hM : M < 18446744073709551616)
    (hd0 : (M : Int) % 4294967296 = d0) (hd1 : (M : Int) / 4294967296 = d1) (hE1 : -4000000 ≤ E) (hE2 : E ≤ 4000000) (hn : n ≤ 1024) (hK : max (-65536) (min (E * n) 65536) = K) (hEn : IntKind.i64.wrap (E * n) = E * n)
    (kS : Calls Tryz.prog 98 #[.float .f64 a] w fun r w' => r = .returned (.tuple #[.int .u64 M, .int .i64 E, .bool s, .bool true]) ∧ ∃ n, w' = w.drewN n)
    (kK : ∀ W g, Below w.heap.size w W → W.heap[g]? = some (.cells #[.int .u32 d0, .int .u32 d1] 85 (0, 0)) → Calls Tryz.prog 99 #[.bool s, .slice (some ⟨g, 0, none⟩) 2 2, .int .i64 0] W fun r w' => OutN8 W t r w')
    (kM : ∀ W X, Below w.heap.size w W → PN W X t → Calls Tryz.prog 101 #[X, .int .i64 n] W fun r w' => OutA W p r w')
    (kH : ∀ W X, Below w.heap.size w W → PN W X p → Calls Tryz.prog 100 #[X, .int .i64 K] W fun r w' => OutN8 W q r w')
    (kR : ∀ W X, Below w.heap.size w W → PN W X q → Calls Tryz.prog 102 #[X, .int .i64 m] W fun r w' => r = .returned (.tuple #[.float .f64 F, .int .i64 0]) ∧ Below W.heap.size W w') :
    Calls Tryz.prog 55 #[.float .f64 a, .int .i64 n, .int .i64 m] w fun r w' => r = .returned (.float .f64 F) ∧ Below w.heap.size w w' := by
  have k := kS
  clear kS
  go_enter Tryz.func55, Tryz.ntmps55
  go_wp2_with fail
  refine k.mono ?_
  rintro r w1 ⟨rfl, d, hd⟩
  have HB1 : Hid (Below w.heap.size w w1) := by rw [hd]; exact below_drewN (Below.refl _ _) _
  clear k hd
  obtain ⟨W, hW⟩ : ∃ W, W = w1.alloc (.cells #[.int .u32 d0, .int .u32 d1] 85) := ⟨_, rfl⟩
  have HBW : Hid (Below w.heap.size w W) := by rw [hW]; exact HB1.out.alloc HB1.out.size _
  have k1 := kK W w1.heap.size HBW.out (by rw [hW]; exact heap_alloc_new _ _)
  clear kK
  go_wp2_with fail
  rw [← hW]
  clear hW
  refine k1.mono ?_
  rintro r w2 ⟨s2, ao2, m2, cap2, e2, rfl, hp2, hb2⟩
  have HB2 : Hid (Below w.heap.size w w2) := HBW.out.trans (hb2.mono HBW.out.size)
  clear k1 hb2 HBW HB1
  obtain ⟨V, hV⟩ : ∃ V, V = w2.alloc (.cells #[.bool s2, .slice ao2 m2 cap2, .int .i64 e2] 96) := ⟨_, rfl⟩
  have HBV : Hid (Below w.heap.size w V) := by rw [hV]; exact HB2.out.alloc HB2.out.size _
  obtain ⟨⟨a0, a1, a2⟩, -⟩ := box_cells (w := V) (g := w2.heap.size) (by rw [hV]; exact heap_alloc_new _ _)
  have k2 := kM V _ HBV.out (hp2.later (by rw [hV]; exact (Below.refl _ _).alloc (Nat.le_refl _) _))
  clear kM hp2 HB2
  go_wp2_with fail
  rw [← hV]
  clear hV
  refine k2.mono ?_
  rintro r w3 ⟨s3, ao3, m3, cap3, e3, rfl, hp3, hb3⟩
  have HB3 : Hid (Below w.heap.size w w3) := HBV.out.trans (hb3.mono HBV.out.size)
  have k3 := kH w3 _ HB3.out hp3
  clear k2 kH hp3 hb3 HBV a0 a1 a2
  go_wp2_with fail
  refine k3.mono ?_
  rintro r w4 ⟨s4, ao4, m4, cap4, e4, rfl, hp4, hb4⟩
  have HB4 : Hid (Below w.heap.size w w4) := HB3.out.trans (hb4.mono HB3.out.size)
  obtain ⟨U, hU⟩ : ∃ U, U = w4.alloc (.cells #[.bool s4, .slice ao4 m4 cap4, .int .i64 e4] 96) := ⟨_, rfl⟩
  have HBU : Hid (Below w.heap.size w U) := by rw [hU]; exact HB4.out.alloc HB4.out.size _
  obtain ⟨⟨a0, a1, a2⟩, -⟩ := box_cells (w := U) (g := w4.heap.size) (by rw [hU]; exact heap_alloc_new _ _)
  have k4 := kR U _ HBU.out (hp4.later (by rw [hU]; exact (Below.refl _ _).alloc (Nat.le_refl _) _))
  clear k3 kR hp4 hb4 HB4 HB3
  go_wp2_with fail
  rw [← hU]
  clear hU
  refine k4.mono ?_
  rintro r w5 ⟨rfl, hb5⟩
  have HB5 : Hid (Below w.heap.size w w5) := HBU.out.trans (hb5.mono HBU.out.size)
  clear k4 hb5
  go_wp2_with fail
  go_ret
  exact ⟨rfl, HB5.out⟩
end Go.Proofs.YtcoclopllbfjcaaGreatDoor
/- The program's powers of floats, joined. -/
namespace Go.Proofs.YtcoclopllbfjcaaGreatDoor
set_option linter.unusedVariables false
set_option linter.unusedSimpArgs false
open Go.RowKit Go.Fl64

theorem sM_odd {a m : Nat} (ha : a < 18446744073709551616) (hf : mag a < 9218868437227405312) (hm : Ie.sM a = (m : Int)) (h : m ≠ 0) : m % 2 = 1 ∧ m < 9007199254740992 := by
  unfold Ie.sM at hm
  rw [if_neg (by omega)] at hm
  by_cases h0 : mag a = 0
  · rw [if_pos h0] at hm; omega
  · rw [if_neg h0] at hm
    have hb := Ie.mant_bound a
    have hne := Ie.mant_ne h0
    have hct : Lib.ctz 64 (Ie.mant a) = tz (Ie.mant a) := tz_ctz hne (by omega)
    rw [hct] at hm
    have e1 : m = Ie.mant a / 2 ^ tz (Ie.mant a) := by
      have : ((Ie.mant a / 2 ^ tz (Ie.mant a) : Nat) : Int) = (m : Int) := by rw [← hm]; simp
      omega
    obtain ⟨h1, h2⟩ := tz_spec _ (Ie.mant a) (Nat.le_refl _) hne
    rw [← e1] at h2
    refine ⟨h2, ?_⟩
    have := Nat.div_le_self (Ie.mant a) (2 ^ tz (Ie.mant a))
    omega
theorem tfF_big {s : Bool} {x : Nat} {e e' m : Int} (h0 : x ≠ 0) (h1 : 1024 < (bl x : Int) + e) (h2 : 1024 < (bl x : Int) + e') (hm : 1 ≤ m ∧ m ≤ 3) : tfF s true x e m = tfF s true x e' m := by
  have hw : wyN s m = 0 ∨ wyN s m = 1 ∨ wyN s m = 2 := by unfold wyN; split <;> (try split) <;> simp
  rw [tf_bdy hm, tf_bdy hm, bdy_big h0 h1 hw, bdy_big h0 h2 hw]
theorem tfF_tiny {s : Bool} {x : Nat} {e e' m : Int} (h0 : x ≠ 0) (h1 : (bl x : Int) + e < -1075) (h2 : (bl x : Int) + e' < -1075) (hm : 1 ≤ m ∧ m ≤ 3) : tfF s true x e m = tfF s true x e' m := by
  have hw : wyN s m = 0 ∨ wyN s m = 1 ∨ wyN s m = 2 := by unfold wyN; split <;> (try split) <;> simp
  rw [tf_bdy hm, tf_bdy hm, bdy_tiny h0 h1 hw, bdy_tiny h0 h2 hw]
theorem tfF_nought {s : Bool} {e m : Int} (hm : 1 ≤ m ∧ m ≤ 3) : tfF s true 0 e m = sig s 0 := by
  rw [tf_bdy hm]; unfold bdy; rw [if_pos rfl]

/-- the power of a float, rounded -/
def pwF (a n : Nat) (m : Int) : Nat := if n = 0 then 4607182418800017408 else if fin a then toD (pw (tF a) n) m else a
theorem pw_clamp {s : Bool} {x n : Nat} {E K m : Int} (ho : x ≠ 0 → x % 2 = 1) (hx : x < 9007199254740992) (hn1 : 1 ≤ n) (hn : n ≤ 1024) (hK : max (-65536) (min (E * n) 65536) = K) (hm : 1 ≤ m ∧ m ≤ 3) :
    tfF (tSh (pw (cn s x 0) n) K).1 true (tSh (pw (cn s x 0) n) K).2.1 (tSh (pw (cn s x 0) n) K).2.2 m = toD (pw (cn s x E) n) m := by
  by_cases h0 : x = 0
  · subst h0
    have e1 : pw (cn s 0 0) n = (false, 0, 0) := by unfold pw cn; simp; omega
    have e2 : pw (cn s 0 E) n = (false, 0, 0) := by unfold pw cn; simp; omega
    rw [e1, e2]
    show tfF false true 0 0 m = 0
    rw [tfF_nought hm]; rfl
  · rw [cn_odd (ho h0), cn_odd (ho h0)]
    have hp : x ^ n ≠ 0 := by have := pow_odd (ho h0) n; omega
    unfold pw toD tSh
    simp only [if_neg h0, if_neg hp]
    rw [show (0 : Int) * (n : Int) + K = K by omega]
    have hb := pw_lt hx hn
    have hb2 := bl_le_dlen (x ^ n)
    have hb3 := bl_ne hp
    by_cases hg : 65536 < E * n
    · exact tfF_big hp (by omega) (by omega) hm
    · by_cases hl : E * n < -65536
      · exact tfF_tiny hp (by omega) (by omega) hm
      · rw [show K = E * n by omega]
theorem spower {a n : Nat} {m : Int} {w : World} (ha : a < 18446744073709551616) (hn : n ≤ 1024) (hm : 1 ≤ m ∧ m ≤ 3) (hT : Tab32 w) (hJ : Ie.Tab w) :
    Calls Tryz.prog 55 #[.float .f64 a, .int .i64 n, .int .i64 m] w fun r w' => r = .returned (.float .f64 (pwF a n m)) ∧ Below w.heap.size w w' := by
  have kS := Ie.c22 a ha w hJ
  unfold pwF
  by_cases h0 : n = 0
  · subst h0
    rw [if_pos rfl]
    exact spower_0 a m _ _ _ _ w kS
  · rw [if_neg h0]
    have hn0 : ((n : Int) == 0) = false := by simp; omega
    by_cases hf : mag a < 9218868437227405312
    · rw [show fin a = true by unfold fin; simp [hf], if_pos rfl]
      obtain ⟨x, hx, hx64⟩ := sM_lt a ha
      have hso : Ie.sO a = true := by unfold Ie.sO; rw [if_neg (by omega)]
      have hsn : Ie.sN a = neg a := by unfold Ie.sN; rw [if_neg (by omega)]
      rw [hx, hso, hsn] at kS
      have ho : x ≠ 0 → x % 2 = 1 := fun h => (sM_odd ha hf hx h).1
      have hx53 : x < 9007199254740992 := by
        by_cases h : x = 0
        · omega
        · exact (sM_odd ha hf hx h).2
      obtain ⟨hE1, hE2⟩ := sE_le a
      obtain ⟨K, hK⟩ : ∃ K, max (-65536) (min (Ie.sE a * n) 65536) = K := ⟨_, rfl⟩
      have hT1 : cn (neg a) x (Ie.sE a) = tF a := cn_parts a x ha hf hx
      have hcn : cn (neg a) x 0 = (if x = 0 then (false, 0, 0) else (neg a, x, 0)) := by
        by_cases h : x = 0
        · rw [h]; rfl
        · rw [if_neg h, cn_odd (ho h)]
      have hok : ∀ k, k ≤ 1024 → Ok (pw (cn (neg a) x 0) k) := by
        intro k hk
        rw [hcn]
        by_cases h : x = 0
        · rw [if_pos h]; exact pw_ok (fun h => absurd rfl h) (by omega) hk
        · rw [if_neg h]; exact pw_ok ho hx53 hk
      have hodd : (cn (neg a) x 0).2.1 ≠ 0 → (cn (neg a) x 0).2.1 % 2 = 1 := by
        rw [hcn]
        by_cases h : x = 0
        · rw [if_pos h]; intro h; exact absurd rfl h
        · rw [if_neg h]; exact ho
      have hz : (cn (neg a) x 0).2.1 = 0 → cn (neg a) x 0 = (false, 0, 0) := by
        rw [hcn]
        by_cases h : x = 0
        · rw [if_pos h]; intro _; rfl
        · rw [if_neg h]; intro h'; exact absurd h' h
      have h22 : (pw (cn (neg a) x 0) n).2.2 = 0 := by
        rw [hcn]; unfold pw
        by_cases h : x = 0
        · rw [if_pos h]; rfl
        · rw [if_neg h]; simp [h]
      rw [← hT1, ← pw_clamp (s := neg a) ho hx53 (by omega) hn hK hm]
      have hbE : -4096000000 ≤ Ie.sE a * n ∧ Ie.sE a * n ≤ 4096000000 := by
        have h1 : (n : Int) ≤ 1024 := by omega
        have h2 : (0 : Int) ≤ n := by omega
        constructor
        · have := Int.mul_le_mul_of_nonneg_right hE1 h2; omega
        · have := Int.mul_le_mul_of_nonneg_right hE2 h2; omega
      refine spower_1 a n x _ m (Ie.sE a) K _ _ (neg a) (cn (neg a) x 0) (pw (cn (neg a) x 0) n) (tSh (pw (cn (neg a) x 0) n) K) w hn0 hx64 rfl rfl hE1 hE2 hn hK (by rw [IntKind.wrap_i64]; omega) kS ?_ ?_ ?_ ?_
      · intro W g hW hg
        have hcell : ∀ i, i < 2 → W.cell? ⟨g, 0 + i, none⟩ = some (.int .u32 (dg x i : Nat)) := by
          intro i hi
          rcases (show i = 0 ∨ i = 1 by omega) with rfl | rfl
          · rw [show (dg x 0 : Nat) = x % 4294967296 by unfold dg B; simp]
            simp [World.cell?, hg]
          · rw [show (dg x 1 : Nat) = x / 4294967296 by unfold dg B; rw [Nat.pow_one, Nat.mod_eq_of_lt (by omega)]]
            simp [World.cell?, hg]
        have hR : okR (neg a) x 0 = true := by
          by_cases h : x = 0
          · unfold okR; rw [if_pos h]
          · exact okR_odd (ho h) (by have := hok 1 (by omega); rw [pw_one hz, hcn, if_neg h] at this; exact this)
        have key : Calls Tryz.prog 99 #[.bool (neg a), .slice (some ⟨g, 0, none⟩) 2 2, .int .i64 0] W fun r w' => Mk25 W w' (neg a) x 0 r ∧ Below W.heap.size W w' := by
          by_cases h : x = 0
          · subst h
            exact c15_0 (neg a) (some ⟨g, 0, none⟩) 2 2 0 W ⟨g, 0, fun _ => rfl, hcell⟩ (by omega) (by omega)
          · exact c15_1 (neg a) g 0 2 2 x 0 W hcell ((dlen_le 2 x).2 (by unfold B; omega)) (by omega) (by omega) (by omega) h (by omega) (hT.later hW)
        refine key.mono ?_
        rintro r w' ⟨⟨-, A, rfl, hN⟩ | ⟨h, -⟩, hb⟩
        · have hp := hN.pn
          obtain ⟨s, ao, n, cap, e, rfl⟩ := hp.shape
          exact ⟨s, ao, n, cap, e, rfl, hp, hb⟩
        · rw [hR] at h; cases h
      · intro W X hW hX
        obtain ⟨s, ao, k, cap, e, rfl⟩ := hX.shape
        refine smult_1 (cn (neg a) x 0) (pw (cn (neg a) x 0)) n (bl n) s ao k cap e W hn rfl ((bl_le _ _).2 (by omega)) (by rw [pw_one hz]; exact hX) ?_ ?_ ?_
        · intro V hV
          refine (c12 (n := 1) ((hT.later hW).later hV) (by omega)).mono ?_
          rintro r w' ⟨A, rfl, hN, hb⟩
          have hp := hN.pn
          obtain ⟨s, ao, n, cap, e, rfl⟩ := hp.shape
          rw [show (decide ((1 : Int) < 0)) = false from rfl, show Int.natAbs 1 = 1 from rfl, cn_odd rfl] at hp
          rw [pw_zero]
          exact ⟨s, ao, n, cap, e, rfl, hp, hb⟩
        · intro V X Y i j hV hX hY hij
          have ho1 := hok (i + j) (by omega)
          rw [← pw_mul hodd] at ho1 ⊢
          refine (mul_op (hok i (by omega)) (hok j (by omega)) (by rw [okR_cn]; exact ho1) V X Y ((hT.later hW).later hV) hX hY).mono ?_
          rintro r w' ⟨s, ao, n, cap, e, rfl, hp, hb⟩
          exact ⟨s, ao, n, cap, e, rfl, hp, hb⟩
        · intro V
          exact c156 n (by omega) V
      · intro W X hW hX
        exact pshift (hok n hn) hX (by rw [h22]; omega) (by rw [h22]; omega)
      · intro W X hW hX
        exact pround (hT.later hW) (tSh_ok (hok n hn) (fun _ => by rw [h22]; omega)) hX hm
    · rw [show fin a = false by unfold fin; simp; omega]
      have hso : Ie.sO a = false := by unfold Ie.sO; rw [if_pos (by omega)]
      rw [hso] at kS
      exact spower_i a n m _ _ _ w hn0 kS
end Go.Proofs.YtcoclopllbfjcaaGreatDoor
/- The document's powers of ends, joined. -/
namespace Go.Proofs.YtcoclopllbfjcaaGreatDoor
set_option linter.unusedVariables false
set_option linter.unusedSimpArgs false
open Go.RowKit Go.Fl64

theorem fin_ofW {f : Nat} (hf : f < 18446744073709551616) (hn : isNaN f = false) (h1 : f ≠ 9218868437227405312) (h2 : f ≠ 18442240474082181120) : fin f = true := by
  unfold isNaN mag at hn
  unfold fin mag
  simp only [decide_eq_false_iff_not, decide_eq_true_eq] at hn ⊢
  omega
/-- a number that is not too long for the document's ways -/
def Wd (t : Bool × Nat × Int) : Prop := dlen t.2.1 ≤ 2048 ∧ -2000000 ≤ t.2.2 ∧ t.2.2 ≤ 2000000 ∧ (t.2.1 ≠ 0 → t.2.1 % 2 = 1)
theorem dtoW {t : Bool × Nat × Int} {m : Int} (o : Wd t) (hm : 1 ≤ m ∧ m ≤ 3) {W : World} {A : Value} (h : DN W A t) : Calls Tryz.prog 66 #[A, .int .i64 m] W fun r w' => r = .returned (.float .f64 (toD t m)) ∧ Below W.heap.size W w' := by
  obtain ⟨f1, f2, f3, f5⟩ := o
  obtain ⟨ao, cap, rfl, hA⟩ := h
  unfold toD
  by_cases h0 : t.2.1 = 0
  · rw [if_pos h0, dlen_eq_zero.2 h0]
    exact rto_0 _ _ _ _ _ _
  · rw [if_neg h0, tf_bdy hm]
    exact rto hA.at_ hA.le (f5 h0) (by omega) (by omega) (by omega) hm
theorem wd_zero : Wd (false, 0, 0) := ⟨by rw [dlen_zero]; omega, by decide, by decide, fun h => absurd rfl h⟩
theorem wd_one : Wd (false, 1, 0) := ⟨Nat.le_trans dlen_one1 (by decide), by decide, by decide, fun _ => rfl⟩
theorem pw_wd {a n : Nat} (hn : n ≤ 1024) : Wd (pw (tF a) n) := by
  unfold pw
  by_cases h0 : (tF a).2.1 = 0
  · rw [if_pos h0]
    by_cases hn0 : n = 0
    · rw [if_pos hn0]; exact wd_one
    · rw [if_neg hn0]; exact wd_zero
  · rw [if_neg h0]
    obtain ⟨-, -, -, -, f5⟩ := (tF_ok a).facts
    have hb : (tF a).2.1 < 9007199254740992 ∧ -1074 ≤ (tF a).2.2 ∧ (tF a).2.2 ≤ 1025 := by
      refine ⟨?_, ?_⟩
      · unfold tF cn
        split
        · decide
        · have := Ie.mant_bound a
          exact Nat.lt_of_le_of_lt (Nat.div_le_self _ _) (by omega)
      · rcases tF_fits a with h | ⟨h1, h2, -⟩
        · exact absurd h h0
        · exact ⟨h1, h2⟩
    have h2 : (0 : Int) ≤ n := by omega
    have h1 := Int.mul_le_mul_of_nonneg_right hb.2.1 h2
    have h3 := Int.mul_le_mul_of_nonneg_right hb.2.2 h2
    exact ⟨Nat.le_trans (pw_lt hb.1 hn) (by decide), by show -2000000 ≤ (tF a).2.2 * (n : Int); omega, by show (tF a).2.2 * (n : Int) ≤ 2000000; omega, fun _ => pow_odd (f5 h0) n⟩
end Go.Proofs.YtcoclopllbfjcaaGreatDoor
/- SpanPowers. -/
namespace Go.Proofs.YtcoclopllbfjcaaGreatDoor
set_option linter.unusedVariables false
set_option linter.unusedSimpArgs false
open Go.RowKit Go.Fl64
attribute [local go_sem] run_store_flt

/-- the interval whose powers are taken -/
def pcX (a b n : Nat) : Nat := if n % 2 = 0 then mgX a b else a
def pcY (a b n : Nat) : Nat := if n % 2 = 0 then mgY a b else b
def pwX (a b n : Nat) : Nat := pl (pwF (pcX a b n) n 1)
def pwY (a b n : Nat) : Nat := pl (pwF (pcY a b n) n 3)
/-- whether an interval and a power are such -/
def pOk (a b : Nat) (n : Int) : Bool := vI a b && decide (0 ≤ n) && decide (n ≤ 1024)
theorem pwF_lt {f n : Nat} {m : Int} (hf : f < 18446744073709551616) (hm : 1 ≤ m ∧ m ≤ 3) : pwF f n m < 18446744073709551616 := by
  unfold pwF
  split
  · omega
  · split
    · exact toD_lt hm
    · exact hf
theorem mg_facts {a b : Nat} (ha : a < 18446744073709551616) (hb : b < 18446744073709551616) (h : vI a b = true) :
    mgX a b < 18446744073709551616 ∧ mgY a b < 18446744073709551616 ∧ isNaN (mgX a b) = false ∧ isNaN (mgY a b) = false ∧ mgX a b ≠ 18442240474082181120 ∧ mgY a b ≠ 18442240474082181120 := by
  obtain ⟨na, nb⟩ := vI_nn h
  unfold vI at h
  simp only [Bool.and_eq_true, decide_eq_true_eq] at h
  obtain ⟨⟨⟨⟨h1, h2⟩, h3⟩, h4⟩, h5⟩ := h
  have ai : a ≠ 9218868437227405312 := by rintro rfl; revert h2; decide
  have bi : b ≠ 18442240474082181120 := by rintro rfl; revert h3; decide
  have pln : ∀ x, isNaN x = false → isNaN (pl x) = false := fun x hx => by unfold pl; split; decide; exact hx
  have pli : ∀ x, x ≠ 18442240474082181120 → pl x ≠ 18442240474082181120 := fun x hx => by unfold pl; split; decide; exact hx
  have ngi : ∀ x, x < 18446744073709551616 → x ≠ 9218868437227405312 → ngt x ≠ 18442240474082181120 := fun x hx h0 => by
    unfold ngt neg
    split
    · rename_i hh; simp only [decide_eq_true_eq] at hh; omega
    · omega
  unfold mgX mgY
  by_cases c1 : le 0 a = true
  · rw [if_pos c1, if_pos c1]
    exact ⟨ha, hb, na, nb, by rintro rfl; revert c1; decide, bi⟩
  · rw [if_neg c1, if_neg c1]
    by_cases c2 : le b 0 = true
    · rw [if_pos c2, if_pos c2]
      exact ⟨pl_lt (ngt_lt hb), pl_lt (ngt_lt ha), pln _ (by rw [ngt_nan8 hb]; exact nb), pln _ (by rw [ngt_nan8 ha]; exact na), pli _ (ngi b hb (by rintro rfl; revert c2; decide)), pli _ (ngi a ha ai)⟩
    · rw [if_neg c2, if_neg c2]
      have fm : fMax (ngt a) b = ngt a ∨ fMax (ngt a) b = b := by
        unfold fMax
        split
        · exact .inr rfl
        · split
          · exact .inl rfl
          · split
            · exact .inr rfl
            · exact .inl rfl
      refine ⟨by omega, ?_, by decide, ?_, by decide, ?_⟩
      · rcases fm with e | e <;> rw [e]
        · exact ngt_lt ha
        · exact hb
      · rcases fm with e | e <;> rw [e]
        · rw [ngt_nan8 ha]; exact na
        · exact nb
      · rcases fm with e | e <;> rw [e]
        · exact ngi a ha ai
        · exact bi
theorem pc_facts {a b n : Nat} (ha : a < 18446744073709551616) (hb : b < 18446744073709551616) (h : vI a b = true) :
    pcX a b n < 18446744073709551616 ∧ pcY a b n < 18446744073709551616 ∧ isNaN (pcX a b n) = false ∧ isNaN (pcY a b n) = false ∧ (pcX a b n = 18442240474082181120 → n % 2 = 1) ∧ (pcY a b n = 18442240474082181120 → n % 2 = 1) := by
  obtain ⟨h1, h2, h3, h4, h5, h6⟩ := mg_facts ha hb h
  obtain ⟨na, nb⟩ := vI_nn h
  unfold pcX pcY
  rcases Nat.mod_two_eq_zero_or_one n with hp | hp
  · rw [if_pos hp, if_pos hp]
    exact ⟨h1, h2, h3, h4, fun h => absurd h h5, fun h => absurd h h6⟩
  · rw [if_neg (by omega), if_neg (by omega)]
    exact ⟨ha, hb, na, nb, fun _ => hp, fun _ => hp⟩
/-- the program's Pow -/
theorem spow (a b : Nat) (n : Int) (w : World) (ha : a < 18446744073709551616) (hb : b < 18446744073709551616) (hT : Tab32 w) (hJ : Ie.Tab w) :
    Calls Tryz.prog 14 #[.agg #[.float .f64 a, .float .f64 b], .int .i64 n] w fun r w' => r = .returned (.tuple #[.agg #[.float .f64 (if pOk a b n then pwX a b n.toNat else 0), .float .f64 (if pOk a b n then pwY a b n.toNat else 0)], .int .i64 (if pOk a b n then 0 else 1)]) ∧ Below w.heap.size w w' := by
  by_cases hok : pOk a b n = true
  · rw [hok]
    unfold pOk at hok
    simp only [Bool.and_eq_true, decide_eq_true_eq] at hok
    obtain ⟨⟨hv, h0⟩, h1⟩ := hok
    obtain ⟨k, rfl⟩ : ∃ k : Nat, n = (k : Int) := ⟨n.toNat, by omega⟩
    rw [Int.toNat_natCast]
    obtain ⟨f1, f2, f3, f4, f5, f6⟩ := pc_facts (n := k) ha hb hv
    obtain ⟨na, nb⟩ := vI_nn hv
    refine spow_1 a b (pcX a b k) (pcY a b k) k (pwF (pcX a b k) k 1) (pwF (pcY a b k) k 3) (pwX a b k) (pwY a b k) w (by omega) (fun W => by have := svalid a b ha hb W; rw [hv] at this; exact this) ?_ ?_ ?_ ?_ ?_
    · intro hp W hW
      unfold pcX pcY
      rw [if_pos hp, if_pos hp]
      exact smag a b W ha hb na nb
    · intro hp
      unfold pcX pcY
      rw [if_neg (by omega), if_neg (by omega)]
      exact ⟨rfl, rfl⟩
    · exact fun W hW => spower f1 (by omega) (by omega) (hT.later hW) (Tab.later hJ hW)
    · exact fun W hW => spower f2 (by omega) (by omega) (hT.later hW) (Tab.later hJ hW)
    · exact fun W hW => sbetween _ _ W (pwF_lt f1 (by omega)) (pwF_lt f2 (by omega))
  · have hok' : pOk a b n = false := by cases h : pOk a b n <;> simp_all
    rw [hok']
    refine spow_no a b n (vI a b) w ?_ (fun W => svalid a b ha hb W)
    unfold pOk at hok'
    cases hv : vI a b
    · exact .inl rfl
    · rw [hv] at hok'
      by_cases h0 : n < 0
      · exact .inr (.inl h0)
      · refine .inr (.inr ?_)
        rw [decide_eq_true (show 0 ≤ n by omega)] at hok'
        simp at hok'
        omega
end Go.Proofs.YtcoclopllbfjcaaGreatDoor
/- SpanPoints: what holds a number alone. -/
namespace Go.Proofs.YtcoclopllbfjcaaGreatDoor
set_option linter.unusedVariables false
set_option linter.unusedSimpArgs false
open Go.RowKit Go.Fl64

theorem add_inf0 : FloatKind.f64.format.add 9218868437227405312 0 = some 9218868437227405312 ∧ FloatKind.f64.format.add 18442240474082181120 0 = some 18442240474082181120 := by decide +kernel
theorem run_add0 {P : Program} (w : World) (t : TypeId) (a : Nat) (h : a < 18446744073709551616) (hn : isNaN a = false) :
    (binOp .add t (.float .f64 a) (.float .f64 0)).run P w = .ok (.float .f64 (pl a)) w := by
  have key : FloatKind.f64.format.add a 0 = some (pl a) := by
    by_cases h1 : a = 9218868437227405312
    · subst h1; exact add_inf0.1
    · by_cases h2 : a = 18442240474082181120
      · subst h2; exact add_inf0.2
      · have hf := fin_ofW h hn h1 h2
        unfold fin at hf
        simp only [decide_eq_true_eq] at hf
        rw [add_nought a h hf]
        unfold pl
        by_cases h0 : mag a = 0
        · rw [if_pos h0]
          unfold mag at h0
          split
          · rfl
          · rw [show a = 0 by omega]
        · rw [if_neg h0]
          unfold mag at h0
          rw [if_neg (by omega)]
  exact run_float_arith w .add t .f64 a 0 _ key

set_option maxHeartbeats 4000000 in
set_option maxRecDepth 200000 in
theorem holds_1 (x y X Y : Nat) (s : Bool) (ao : Option Addr) (n cap : Nat) (e : Int) (w : World)
    (r1 : ∀ W, (binOp .add 22 (.float .f64 x) (.float .f64 0)).run Tryz.prog W = .ok (.float .f64 x) W)
    (r2 : ∀ W, (binOp .add 22 (.float .f64 X) (.float .f64 0)).run Tryz.prog W = .ok (.float .f64 x) W)
    (r3 : ∀ W, (binOp .add 22 (.float .f64 y) (.float .f64 0)).run Tryz.prog W = .ok (.float .f64 y) W)
    (r4 : ∀ W, (binOp .add 22 (.float .f64 Y) (.float .f64 0)).run Tryz.prog W = .ok (.float .f64 y) W)
    (k1 : ∀ W, Below w.heap.size w W → Calls Tryz.prog 66 #[.agg #[.bool s, .slice ao n cap, .int .i64 e], .int .i64 1] W fun r w' => r = .returned (.float .f64 X) ∧ Below W.heap.size W w')
    (k2 : ∀ W, Below w.heap.size w W → Calls Tryz.prog 66 #[.agg #[.bool s, .slice ao n cap, .int .i64 e], .int .i64 3] W fun r w' => r = .returned (.float .f64 Y) ∧ Below W.heap.size W w')
    (k3 : ∀ W, Calls Tryz.prog 49 #[.float .f64 x, .float .f64 x] W fun r w' => r = .returned (.bool true) ∧ Below W.heap.size W w')
    (k4 : ∀ W, Calls Tryz.prog 49 #[.float .f64 y, .float .f64 y] W fun r w' => r = .returned (.bool true) ∧ Below W.heap.size W w') :
    Calls Tryz.prog 25 #[.agg #[.float .f64 x, .float .f64 y], .agg #[.bool s, .slice ao n cap, .int .i64 e]] w fun r w' => r = .returned (.bool true) ∧ Below w.heap.size w w' := by
  obtain ⟨W, hW⟩ : ∃ W, W = (w.alloc (.cells #[.float .f64 x, .float .f64 y] 24)).alloc (.cells #[.bool s, .slice ao n cap, .int .i64 e] 45) := ⟨_, rfl⟩
  have hBW : Below w.heap.size w W := by rw [hW]; exact ((Below.refl _ _).alloc (Nat.le_refl _) _).alloc (by simp) _
  have hA : IvB W w.heap.size x y := by rw [hW]; exact (IvB.new _ _ _).box ((Below.refl _ _).alloc (Nat.le_refl _) _)
  have hB : W.heap[w.heap.size + 1]? = some (.cells #[.bool s, .slice ao n cap, .int .i64 e] 45 (0, 0)) := by
    have h := heap_alloc_new (w.alloc (.cells #[.float .f64 x, .float .f64 y] 24)) (.cells #[.bool s, .slice ao n cap, .int .i64 e] 45)
    rw [show (w.alloc (.cells #[.float .f64 x, .float .f64 y] 24)).heap.size = w.heap.size + 1 by simp] at h
    rw [hW]; exact h
  have HX : Hid (Below w.heap.size w W) := hBW
  have HK : Hid (∀ w', Below W.heap.size W w' → (w'.cell? ⟨w.heap.size, 0, none⟩ = some (.float .f64 x) ∧ w'.cell? ⟨w.heap.size, 1, none⟩ = some (.float .f64 y)) ∧ (w'.cell? ⟨w.heap.size + 1, 0, none⟩ = some (.bool s) ∧ w'.cell? ⟨w.heap.size + 1, 1, none⟩ = some (.slice ao n cap) ∧ w'.cell? ⟨w.heap.size + 1, 2, none⟩ = some (.int .i64 e))) := fun w' hb => ⟨⟨(hA.later hb).1, (hA.later hb).2.1⟩, (box_cells29 (box_later hB hb (lt_of_box hB))).1⟩
  have q1 : ∀ W', Below W.heap.size W W' → Calls Tryz.prog 66 #[.agg #[.bool s, .slice ao n cap, .int .i64 e], .int .i64 1] W' fun r w' => r = .returned (.float .f64 X) ∧ Below W.heap.size W w' := fun W' h => (k1 W' (hBW.trans (h.mono hBW.size))).mono fun r w' ⟨e1, e2⟩ => ⟨e1, h.trans (e2.mono h.size)⟩
  have q2 : ∀ W', Below W.heap.size W W' → Calls Tryz.prog 66 #[.agg #[.bool s, .slice ao n cap, .int .i64 e], .int .i64 3] W' fun r w' => r = .returned (.float .f64 Y) ∧ Below W.heap.size W w' := fun W' h => (k2 W' (hBW.trans (h.mono hBW.size))).mono fun r w' ⟨e1, e2⟩ => ⟨e1, h.trans (e2.mono h.size)⟩
  have q3 : ∀ W', Below W.heap.size W W' → Calls Tryz.prog 49 #[.float .f64 x, .float .f64 x] W' fun r w' => r = .returned (.bool true) ∧ Below W.heap.size W w' := fun W' h => (k3 W').mono fun r w' ⟨e1, e2⟩ => ⟨e1, h.trans (e2.mono h.size)⟩
  have q4 : ∀ W', Below W.heap.size W W' → Calls Tryz.prog 49 #[.float .f64 y, .float .f64 y] W' fun r w' => r = .returned (.bool true) ∧ Below W.heap.size W w' := fun W' h => (k4 W').mono fun r w' ⟨e1, e2⟩ => ⟨e1, h.trans (e2.mono h.size)⟩
  have hR : Below W.heap.size W W.drew := (Below.refl _ _).drew
  obtain ⟨⟨c0, c1⟩, c2, c3, c4⟩ := HK.out W (Below.refl _ _)
  clear k1 k2 k3 k4 hA hB hBW
  go_enter Tryz.func25, Tryz.ntmps25
  go_upto_region 1 with fail
  rw [← hW]
  clear hW
  go_region_held3 (fun w' => (w'.cell? ⟨w.heap.size, 0, none⟩ = some (.float .f64 x) ∧ w'.cell? ⟨w.heap.size, 1, none⟩ = some (.float .f64 y)) ∧ (w'.cell? ⟨w.heap.size + 1, 0, none⟩ = some (.bool s) ∧ w'.cell? ⟨w.heap.size + 1, 1, none⟩ = some (.slice ao n cap) ∧ w'.cell? ⟨w.heap.size + 1, 2, none⟩ = some (.int .i64 e))) (first | (with_reducible assumption) | exact HK.out _ hR | (refine HK.out _ ?_; with_reducible assumption))
    (first | (go_at_call 66; with_reducible refine (q1 _ (by first | (with_reducible assumption) | exact hR)).mono ?_; rintro r w5 ⟨rfl, hb5⟩)
           | (go_at_call 66; with_reducible refine (q2 _ (by first | (with_reducible assumption) | exact hR)).mono ?_; rintro r w6 ⟨rfl, hb6⟩)
           | (go_at_call 49; with_reducible refine (q3 _ (by first | (with_reducible assumption) | exact hR)).mono ?_; rintro r w7 ⟨rfl, hb7⟩)
           | (go_at_call 49; with_reducible refine (q4 _ (by first | (with_reducible assumption) | exact hR)).mono ?_; rintro r w8 ⟨rfl, hb8⟩))
  have HB : Hid (Below w.heap.size w w8) := HX.out.trans (hb8.mono HX.out.size)
  clear q1 q2 q3 q4 hR HK HX hb5 hb6 hb7 hb8 c0 c1 c2 c3 c4
  go_wp2_with fail
  go_ret
  exact ⟨rfl, HB.out⟩
end Go.Proofs.YtcoclopllbfjcaaGreatDoor
/- SpanPoints, walked. -/
namespace Go.Proofs.YtcoclopllbfjcaaGreatDoor
set_option linter.unusedVariables false
set_option linter.unusedSimpArgs false
open Go.RowKit Go.Fl64
attribute [local go_sem] run_store_flt

set_option maxRecDepth 200000 in
theorem points_no (f g fa ga : Nat) (p q : Bool) (w : World) (hpq : (p && q) = false) (ka : ∀ W, Calls Tryz.prog 21 #[.float .f64 f] W fun r w' => r = .returned (.float .f64 fa) ∧ w' = W) (kb : ∀ W, Calls Tryz.prog 21 #[.float .f64 g] W fun r w' => r = .returned (.float .f64 ga) ∧ w' = W)
    (o1 : (FloatKind.f64.format.order fa 9218868437227405311 == some Ordering.lt || FloatKind.f64.format.order fa 9218868437227405311 == some Ordering.eq) = p) (o2 : (FloatKind.f64.format.order ga 9218868437227405311 == some Ordering.lt || FloatKind.f64.format.order ga 9218868437227405311 == some Ordering.eq) = q)
    (kw : ∀ W, Below w.heap.size w W → Calls Tryz.prog 13 #[] W fun r w' => r = .returned (.bool true) ∧ Below W.heap.size W w') :
    Calls Tryz.prog 6 #[.float .f64 f, .float .f64 g] w fun r w' => r = .returned (.bool true) ∧ Below w.heap.size w w' := by
  have kk := kw w (Below.refl _ _)
  clear kw
  cases p
  · go_enter Tryz.func6, Tryz.ntmps6
    go_wp2_with (first | (go_at_call 21; refine (ka _).mono ?_; rintro r w1 ⟨rfl, rfl⟩))
    refine kk.mono ?_
    rintro r w2 ⟨rfl, hb⟩
    have HB : Hid (Below w1.heap.size w1 w2) := hb
    clear kk hb
    go_wp2
    go_ret
    exact ⟨rfl, HB.out⟩
  · cases q
    · go_enter Tryz.func6, Tryz.ntmps6
      go_wp2_with (first | (go_at_call 21; first | (with_reducible refine (ka _).mono ?_; rintro r w1 ⟨rfl, rfl⟩) | (with_reducible refine (kb _).mono ?_; rintro r w1 ⟨rfl, rfl⟩)))
      refine kk.mono ?_
      rintro r w2 ⟨rfl, hb⟩
      have HB : Hid (Below w1.heap.size w1 w2) := hb
      clear kk hb
      go_wp2
      go_ret
      exact ⟨rfl, HB.out⟩
    · cases hpq

set_option maxHeartbeats 16000000 in
set_option maxRecDepth 200000 in
theorem points_1 (f g fa ga a b x1 y1 x2 y2 x3 y3 x4 y4 : Nat) (z1 z2 : Int) (t u t1 t2 t3 t4 t5 : Bool × Nat × Int) (w : World) (ka : ∀ W, Calls Tryz.prog 21 #[.float .f64 f] W fun r w' => r = .returned (.float .f64 fa) ∧ w' = W) (kb : ∀ W, Calls Tryz.prog 21 #[.float .f64 g] W fun r w' => r = .returned (.float .f64 ga) ∧ w' = W)
    (o1 : (FloatKind.f64.format.order fa 9218868437227405311 == some Ordering.lt || FloatKind.f64.format.order fa 9218868437227405311 == some Ordering.eq) = true) (o2 : (FloatKind.f64.format.order ga 9218868437227405311 == some Ordering.lt || FloatKind.f64.format.order ga 9218868437227405311 == some Ordering.eq) = true)
    (k1 : ∀ W, Below w.heap.size w W → Calls Tryz.prog 22 #[.float .f64 f, .float .f64 f] W fun r w' => r = .returned (.tuple #[.agg #[.float .f64 a, .float .f64 a], .int .i64 z1]) ∧ Below W.heap.size W w')
    (k2 : ∀ W, Below w.heap.size w W → Calls Tryz.prog 22 #[.float .f64 g, .float .f64 g] W fun r w' => r = .returned (.tuple #[.agg #[.float .f64 b, .float .f64 b], .int .i64 z2]) ∧ Below W.heap.size W w')
    (k3 : ∀ W, Below w.heap.size w W → Calls Tryz.prog 23 #[.float .f64 f] W fun r w' => ∃ A, r = .returned A ∧ DN w' A t ∧ Below W.heap.size W w')
    (k4 : ∀ W, Below w.heap.size w W → Calls Tryz.prog 23 #[.float .f64 g] W fun r w' => ∃ A, r = .returned A ∧ DN w' A u ∧ Below W.heap.size W w')
    (k5 : ∀ W, Below w.heap.size w W → Calls Tryz.prog 20 #[.agg #[.float .f64 a, .float .f64 a], .agg #[.float .f64 b, .float .f64 b]] W fun r w' => r = .returned (.tuple #[.agg #[.float .f64 x1, .float .f64 y1], .int .i64 0]) ∧ Below W.heap.size W w')
    (k6 : ∀ W, Below w.heap.size w W → Calls Tryz.prog 24 #[.agg #[.float .f64 a, .float .f64 a], .agg #[.float .f64 b, .float .f64 b]] W fun r w' => r = .returned (.tuple #[.agg #[.float .f64 x2, .float .f64 y2], .int .i64 0]) ∧ Below W.heap.size W w')
    (k7 : ∀ W, Below w.heap.size w W → Calls Tryz.prog 8 #[.agg #[.float .f64 a, .float .f64 a], .agg #[.float .f64 b, .float .f64 b]] W fun r w' => r = .returned (.tuple #[.agg #[.float .f64 x3, .float .f64 y3], .int .i64 0]) ∧ Below W.heap.size W w')
    (k8 : ∀ W, Below w.heap.size w W → Calls Tryz.prog 14 #[.agg #[.float .f64 a, .float .f64 a], .int .i64 3] W fun r w' => r = .returned (.tuple #[.agg #[.float .f64 x4, .float .f64 y4], .int .i64 0]) ∧ Below W.heap.size W w')
    (m1 : ∀ W X Y, DN W X t → DN W Y u → Calls Tryz.prog 26 #[X, Y] W fun r w' => ∃ s ao n cap e, r = .returned (.agg #[.bool s, .slice ao n cap, .int .i64 e]) ∧ DN w' (.agg #[.bool s, .slice ao n cap, .int .i64 e]) t1 ∧ Below W.heap.size W w')
    (m2 : ∀ W X Y, DN W X t → DN W Y u → Calls Tryz.prog 27 #[X, Y] W fun r w' => ∃ s ao n cap e, r = .returned (.agg #[.bool s, .slice ao n cap, .int .i64 e]) ∧ DN w' (.agg #[.bool s, .slice ao n cap, .int .i64 e]) t2 ∧ Below W.heap.size W w')
    (m3 : ∀ W X Y, DN W X t → DN W Y u → Calls Tryz.prog 28 #[X, Y] W fun r w' => ∃ s ao n cap e, r = .returned (.agg #[.bool s, .slice ao n cap, .int .i64 e]) ∧ DN w' (.agg #[.bool s, .slice ao n cap, .int .i64 e]) t3 ∧ Below W.heap.size W w')
    (m4 : ∀ W X Y, DN W X t → DN W Y t → Calls Tryz.prog 28 #[X, Y] W fun r w' => ∃ s ao n cap e, r = .returned (.agg #[.bool s, .slice ao n cap, .int .i64 e]) ∧ DN w' (.agg #[.bool s, .slice ao n cap, .int .i64 e]) t4 ∧ Below W.heap.size W w')
    (m5 : ∀ W X Y, DN W X t → DN W Y t4 → Calls Tryz.prog 28 #[X, Y] W fun r w' => ∃ s ao n cap e, r = .returned (.agg #[.bool s, .slice ao n cap, .int .i64 e]) ∧ DN w' (.agg #[.bool s, .slice ao n cap, .int .i64 e]) t5 ∧ Below W.heap.size W w')
    (h1 : ∀ W X, DN W X t1 → Calls Tryz.prog 25 #[.agg #[.float .f64 x1, .float .f64 y1], X] W fun r w' => r = .returned (.bool true) ∧ Below W.heap.size W w')
    (h2 : ∀ W X, DN W X t2 → Calls Tryz.prog 25 #[.agg #[.float .f64 x2, .float .f64 y2], X] W fun r w' => r = .returned (.bool true) ∧ Below W.heap.size W w')
    (h3 : ∀ W X, DN W X t3 → Calls Tryz.prog 25 #[.agg #[.float .f64 x3, .float .f64 y3], X] W fun r w' => r = .returned (.bool true) ∧ Below W.heap.size W w')
    (h4 : ∀ W X, DN W X t5 → Calls Tryz.prog 25 #[.agg #[.float .f64 x4, .float .f64 y4], X] W fun r w' => r = .returned (.bool true) ∧ Below W.heap.size W w')
    (kw : ∀ W, Below w.heap.size w W → Calls Tryz.prog 13 #[] W fun r w' => r = .returned (.bool true) ∧ Below W.heap.size W w') :
    Calls Tryz.prog 6 #[.float .f64 f, .float .f64 g] w fun r w' => r = .returned (.bool true) ∧ Below w.heap.size w w' := by
  have Hk1 : Hid (∀ W, Below w.heap.size w W → Calls Tryz.prog 22 #[.float .f64 f, .float .f64 f] W fun r w' => r = .returned (.tuple #[.agg #[.float .f64 a, .float .f64 a], .int .i64 z1]) ∧ Below W.heap.size W w') := k1
  have Hk2 : Hid (∀ W, Below w.heap.size w W → Calls Tryz.prog 22 #[.float .f64 g, .float .f64 g] W fun r w' => r = .returned (.tuple #[.agg #[.float .f64 b, .float .f64 b], .int .i64 z2]) ∧ Below W.heap.size W w') := k2
  have Hk3 : Hid (∀ W, Below w.heap.size w W → Calls Tryz.prog 23 #[.float .f64 f] W fun r w' => ∃ A, r = .returned A ∧ DN w' A t ∧ Below W.heap.size W w') := k3
  have Hk4 : Hid (∀ W, Below w.heap.size w W → Calls Tryz.prog 23 #[.float .f64 g] W fun r w' => ∃ A, r = .returned A ∧ DN w' A u ∧ Below W.heap.size W w') := k4
  have Hk5 : Hid (∀ W, Below w.heap.size w W → Calls Tryz.prog 20 #[.agg #[.float .f64 a, .float .f64 a], .agg #[.float .f64 b, .float .f64 b]] W fun r w' => r = .returned (.tuple #[.agg #[.float .f64 x1, .float .f64 y1], .int .i64 0]) ∧ Below W.heap.size W w') := k5
  have Hk6 : Hid (∀ W, Below w.heap.size w W → Calls Tryz.prog 24 #[.agg #[.float .f64 a, .float .f64 a], .agg #[.float .f64 b, .float .f64 b]] W fun r w' => r = .returned (.tuple #[.agg #[.float .f64 x2, .float .f64 y2], .int .i64 0]) ∧ Below W.heap.size W w') := k6
  have Hk7 : Hid (∀ W, Below w.heap.size w W → Calls Tryz.prog 8 #[.agg #[.float .f64 a, .float .f64 a], .agg #[.float .f64 b, .float .f64 b]] W fun r w' => r = .returned (.tuple #[.agg #[.float .f64 x3, .float .f64 y3], .int .i64 0]) ∧ Below W.heap.size W w') := k7
  have Hk8 : Hid (∀ W, Below w.heap.size w W → Calls Tryz.prog 14 #[.agg #[.float .f64 a, .float .f64 a], .int .i64 3] W fun r w' => r = .returned (.tuple #[.agg #[.float .f64 x4, .float .f64 y4], .int .i64 0]) ∧ Below W.heap.size W w') := k8
  have Hm1 : Hid (∀ W X Y, DN W X t → DN W Y u → Calls Tryz.prog 26 #[X, Y] W fun r w' => ∃ s ao n cap e, r = .returned (.agg #[.bool s, .slice ao n cap, .int .i64 e]) ∧ DN w' (.agg #[.bool s, .slice ao n cap, .int .i64 e]) t1 ∧ Below W.heap.size W w') := m1
  have Hm2 : Hid (∀ W X Y, DN W X t → DN W Y u → Calls Tryz.prog 27 #[X, Y] W fun r w' => ∃ s ao n cap e, r = .returned (.agg #[.bool s, .slice ao n cap, .int .i64 e]) ∧ DN w' (.agg #[.bool s, .slice ao n cap, .int .i64 e]) t2 ∧ Below W.heap.size W w') := m2
  have Hm3 : Hid (∀ W X Y, DN W X t → DN W Y u → Calls Tryz.prog 28 #[X, Y] W fun r w' => ∃ s ao n cap e, r = .returned (.agg #[.bool s, .slice ao n cap, .int .i64 e]) ∧ DN w' (.agg #[.bool s, .slice ao n cap, .int .i64 e]) t3 ∧ Below W.heap.size W w') := m3
  have Hm4 : Hid (∀ W X Y, DN W X t → DN W Y t → Calls Tryz.prog 28 #[X, Y] W fun r w' => ∃ s ao n cap e, r = .returned (.agg #[.bool s, .slice ao n cap, .int .i64 e]) ∧ DN w' (.agg #[.bool s, .slice ao n cap, .int .i64 e]) t4 ∧ Below W.heap.size W w') := m4
  have Hm5 : Hid (∀ W X Y, DN W X t → DN W Y t4 → Calls Tryz.prog 28 #[X, Y] W fun r w' => ∃ s ao n cap e, r = .returned (.agg #[.bool s, .slice ao n cap, .int .i64 e]) ∧ DN w' (.agg #[.bool s, .slice ao n cap, .int .i64 e]) t5 ∧ Below W.heap.size W w') := m5
  have Hh1 : Hid (∀ W X, DN W X t1 → Calls Tryz.prog 25 #[.agg #[.float .f64 x1, .float .f64 y1], X] W fun r w' => r = .returned (.bool true) ∧ Below W.heap.size W w') := h1
  have Hh2 : Hid (∀ W X, DN W X t2 → Calls Tryz.prog 25 #[.agg #[.float .f64 x2, .float .f64 y2], X] W fun r w' => r = .returned (.bool true) ∧ Below W.heap.size W w') := h2
  have Hh3 : Hid (∀ W X, DN W X t3 → Calls Tryz.prog 25 #[.agg #[.float .f64 x3, .float .f64 y3], X] W fun r w' => r = .returned (.bool true) ∧ Below W.heap.size W w') := h3
  have Hh4 : Hid (∀ W X, DN W X t5 → Calls Tryz.prog 25 #[.agg #[.float .f64 x4, .float .f64 y4], X] W fun r w' => r = .returned (.bool true) ∧ Below W.heap.size W w') := h4
  have Hkw : Hid (∀ W, Below w.heap.size w W → Calls Tryz.prog 13 #[] W fun r w' => r = .returned (.bool true) ∧ Below W.heap.size W w') := kw
  clear k1 k2 k3 k4 k5 k6 k7 k8 m1 m2 m3 m4 m5 h1 h2 h3 h4 kw
  go_enter Tryz.func6, Tryz.ntmps6
  go_upto_region 3 with (first | (go_at_call 21; first | (with_reducible refine (ka _).mono ?_; rintro r v1 ⟨rfl, rfl⟩) | (with_reducible refine (kb _).mono ?_; rintro r v1 ⟨rfl, rfl⟩)))
  clear ka kb o1 o2
  have A0 : Hid (Below v1.heap.size v1 v1) := Below.refl _ _
  have kk := Hk1.out v1 A0.out
  clear Hk1
  go_wp2_with fail
  refine kk.mono ?_
  rintro r u1 ⟨rfl, hb⟩
  clear kk
  have A1 : Hid (Below v1.heap.size v1 u1) := A0.out.trans (hb.mono A0.out.size)
  clear hb A0
  obtain ⟨V1, hV⟩ : ∃ V, V = u1.alloc (.cells #[.float .f64 a, .float .f64 a] 24) := ⟨_, rfl⟩
  obtain ⟨g1, hg⟩ : ∃ g, g = u1.heap.size := ⟨_, rfl⟩
  have hc : Below u1.heap.size u1 V1 := by rw [hV]; exact (Below.refl _ _).alloc (Nat.le_refl _) _
  have I1 : Hid (IvB V1 g1 a a) := by rw [hV, hg]; exact IvB.new _ _ _
  have A2 : Hid (Below v1.heap.size v1 V1) := A1.out.trans (hc.mono A1.out.size)
  clear hc A1
  obtain ⟨i10, i11, -, -⟩ := IvB.facts I1.out
  have kk := Hk2.out V1 A2.out
  clear Hk2
  rw [hV] at i10 i11
  go_wp2_with fail
  rw [← hV, ← hg]
  clear hV hg
  clear i10 i11
  refine kk.mono ?_
  rintro r u2 ⟨rfl, hb⟩
  clear kk
  have A3 : Hid (Below v1.heap.size v1 u2) := A2.out.trans (hb.mono A2.out.size)
  replace I1 : Hid (IvB u2 g1 a a) := I1.out.box hb
  clear hb A2
  obtain ⟨V2, hV⟩ : ∃ V, V = u2.alloc (.cells #[.float .f64 b, .float .f64 b] 24) := ⟨_, rfl⟩
  obtain ⟨g2, hg⟩ : ∃ g, g = u2.heap.size := ⟨_, rfl⟩
  have hc : Below u2.heap.size u2 V2 := by rw [hV]; exact (Below.refl _ _).alloc (Nat.le_refl _) _
  have I2 : Hid (IvB V2 g2 b b) := by rw [hV, hg]; exact IvB.new _ _ _
  have A4 : Hid (Below v1.heap.size v1 V2) := A3.out.trans (hc.mono A3.out.size)
  replace I1 : Hid (IvB V2 g1 a a) := I1.out.box hc
  clear hc A3
  have kk := Hk3.out V2 A4.out
  clear Hk3
  go_wp2_with fail
  rw [← hV, ← hg]
  clear hV hg
  refine kk.mono ?_
  rintro r u3 ⟨X3, rfl, hd, hb⟩
  clear kk
  have A5 : Hid (Below v1.heap.size v1 u3) := A4.out.trans (hb.mono A4.out.size)
  replace I1 : Hid (IvB u3 g1 a a) := I1.out.box hb
  replace I2 : Hid (IvB u3 g2 b b) := I2.out.box hb
  clear hb A4
  have D3 : Hid (DN u3 X3 t) := hd
  clear hd
  have kk := Hk4.out u3 A5.out
  clear Hk4
  go_wp2_with fail
  refine kk.mono ?_
  rintro r u4 ⟨X4, rfl, hd, hb⟩
  clear kk
  have A6 : Hid (Below v1.heap.size v1 u4) := A5.out.trans (hb.mono A5.out.size)
  replace I1 : Hid (IvB u4 g1 a a) := I1.out.box hb
  replace I2 : Hid (IvB u4 g2 b b) := I2.out.box hb
  replace D3 : Hid (DN u4 X3 t) := D3.out.later hb
  clear hb A5
  have D4 : Hid (DN u4 X4 u) := hd
  clear hd
  have d3 := D3.out
  have d4 := D4.out
  obtain ⟨oa3, cp3, rfl, -⟩ := d3
  obtain ⟨oa4, cp4, rfl, -⟩ := d4
  obtain ⟨V4, hV⟩ : ∃ V, V = (u4.alloc (.cells #[.bool t.1, .slice oa3 (dlen t.2.1) cp3, .int .i64 t.2.2] 45)).alloc (.cells #[.bool u.1, .slice oa4 (dlen u.2.1) cp4, .int .i64 u.2.2] 45) := ⟨_, rfl⟩
  obtain ⟨g3, hg⟩ : ∃ g, g = u4.heap.size := ⟨_, rfl⟩
  have hc : Below u4.heap.size u4 V4 := by rw [hV]; exact ((Below.refl _ _).alloc (Nat.le_refl _) _).alloc (by simp) _
  have N3 : Hid (V4.heap[g3]? = some (.cells #[.bool t.1, .slice oa3 (dlen t.2.1) cp3, .int .i64 t.2.2] 45 (0, 0))) := by
    rw [hV, hg]; exact box_later (heap_alloc_new _ _) ((Below.refl _ _).alloc (Nat.le_refl _) _) (by simp)
  have N4 : Hid (V4.heap[g3 + 1]? = some (.cells #[.bool u.1, .slice oa4 (dlen u.2.1) cp4, .int .i64 u.2.2] 45 (0, 0))) := by
    have h := heap_alloc_new (u4.alloc (.cells #[.bool t.1, .slice oa3 (dlen t.2.1) cp3, .int .i64 t.2.2] 45)) (.cells #[.bool u.1, .slice oa4 (dlen u.2.1) cp4, .int .i64 u.2.2] 45)
    rw [show (u4.alloc (.cells #[.bool t.1, .slice oa3 (dlen t.2.1) cp3, .int .i64 t.2.2] 45)).heap.size = u4.heap.size + 1 by simp] at h
    rw [hV, hg]; exact h
  have A7 : Hid (Below v1.heap.size v1 V4) := A6.out.trans (hc.mono A6.out.size)
  replace I1 : Hid (IvB V4 g1 a a) := I1.out.box hc
  replace I2 : Hid (IvB V4 g2 b b) := I2.out.box hc
  replace D3 : Hid (DN V4 (.agg #[.bool t.1, .slice oa3 (dlen t.2.1) cp3, .int .i64 t.2.2]) t) := D3.out.later hc
  replace D4 : Hid (DN V4 (.agg #[.bool u.1, .slice oa4 (dlen u.2.1) cp4, .int .i64 u.2.2]) u) := D4.out.later hc
  clear hc A6
  obtain ⟨i10, i11, -, -⟩ := IvB.facts I1.out
  obtain ⟨i20, i21, -, -⟩ := IvB.facts I2.out
  have kk := Hk5.out V4 A7.out
  clear Hk5
  rw [hV] at i10 i11 i20 i21
  go_wp2_with fail
  rw [← hV, ← hg]
  clear hV hg
  clear i10 i11
  clear i20 i21
  refine kk.mono ?_
  rintro r u5 ⟨rfl, hb⟩
  clear kk
  have A8 : Hid (Below v1.heap.size v1 u5) := A7.out.trans (hb.mono A7.out.size)
  replace I1 : Hid (IvB u5 g1 a a) := I1.out.box hb
  replace I2 : Hid (IvB u5 g2 b b) := I2.out.box hb
  replace D3 : Hid (DN u5 (.agg #[.bool t.1, .slice oa3 (dlen t.2.1) cp3, .int .i64 t.2.2]) t) := D3.out.later hb
  replace D4 : Hid (DN u5 (.agg #[.bool u.1, .slice oa4 (dlen u.2.1) cp4, .int .i64 u.2.2]) u) := D4.out.later hb
  replace N3 : Hid (u5.heap[g3]? = some (.cells #[.bool t.1, .slice oa3 (dlen t.2.1) cp3, .int .i64 t.2.2] 45 (0, 0))) := box_later N3.out hb (lt_of_box N3.out)
  replace N4 : Hid (u5.heap[g3 + 1]? = some (.cells #[.bool u.1, .slice oa4 (dlen u.2.1) cp4, .int .i64 u.2.2] 45 (0, 0))) := box_later N4.out hb (lt_of_box N4.out)
  clear hb A7
  obtain ⟨V5, hV⟩ : ∃ V, V = u5.alloc (.cells #[.float .f64 x1, .float .f64 y1] 24) := ⟨_, rfl⟩
  obtain ⟨g5, hg⟩ : ∃ g, g = u5.heap.size := ⟨_, rfl⟩
  have hc : Below u5.heap.size u5 V5 := by rw [hV]; exact (Below.refl _ _).alloc (Nat.le_refl _) _
  have I5 : Hid (IvB V5 g5 x1 y1) := by rw [hV, hg]; exact IvB.new _ _ _
  have A9 : Hid (Below v1.heap.size v1 V5) := A8.out.trans (hc.mono A8.out.size)
  replace I1 : Hid (IvB V5 g1 a a) := I1.out.box hc
  replace I2 : Hid (IvB V5 g2 b b) := I2.out.box hc
  replace D3 : Hid (DN V5 (.agg #[.bool t.1, .slice oa3 (dlen t.2.1) cp3, .int .i64 t.2.2]) t) := D3.out.later hc
  replace D4 : Hid (DN V5 (.agg #[.bool u.1, .slice oa4 (dlen u.2.1) cp4, .int .i64 u.2.2]) u) := D4.out.later hc
  replace N3 : Hid (V5.heap[g3]? = some (.cells #[.bool t.1, .slice oa3 (dlen t.2.1) cp3, .int .i64 t.2.2] 45 (0, 0))) := box_later N3.out hc (lt_of_box N3.out)
  replace N4 : Hid (V5.heap[g3 + 1]? = some (.cells #[.bool u.1, .slice oa4 (dlen u.2.1) cp4, .int .i64 u.2.2] 45 (0, 0))) := box_later N4.out hc (lt_of_box N4.out)
  clear hc A8
  obtain ⟨i10, i11, -, -⟩ := IvB.facts I1.out
  obtain ⟨i20, i21, -, -⟩ := IvB.facts I2.out
  obtain ⟨i50, i51, -, -⟩ := IvB.facts I5.out
  have kk := Hk6.out V5 A9.out
  clear Hk6
  rw [hV] at i10 i11 i20 i21 i50 i51
  go_wp2_with fail
  rw [← hV, ← hg]
  clear hV hg
  clear i10 i11
  clear i20 i21
  clear i50 i51
  refine kk.mono ?_
  rintro r u6 ⟨rfl, hb⟩
  clear kk
  have A10 : Hid (Below v1.heap.size v1 u6) := A9.out.trans (hb.mono A9.out.size)
  replace I1 : Hid (IvB u6 g1 a a) := I1.out.box hb
  replace I2 : Hid (IvB u6 g2 b b) := I2.out.box hb
  replace D3 : Hid (DN u6 (.agg #[.bool t.1, .slice oa3 (dlen t.2.1) cp3, .int .i64 t.2.2]) t) := D3.out.later hb
  replace D4 : Hid (DN u6 (.agg #[.bool u.1, .slice oa4 (dlen u.2.1) cp4, .int .i64 u.2.2]) u) := D4.out.later hb
  replace N3 : Hid (u6.heap[g3]? = some (.cells #[.bool t.1, .slice oa3 (dlen t.2.1) cp3, .int .i64 t.2.2] 45 (0, 0))) := box_later N3.out hb (lt_of_box N3.out)
  replace N4 : Hid (u6.heap[g3 + 1]? = some (.cells #[.bool u.1, .slice oa4 (dlen u.2.1) cp4, .int .i64 u.2.2] 45 (0, 0))) := box_later N4.out hb (lt_of_box N4.out)
  replace I5 : Hid (IvB u6 g5 x1 y1) := I5.out.box hb
  clear hb A9
  obtain ⟨V6, hV⟩ : ∃ V, V = u6.alloc (.cells #[.float .f64 x2, .float .f64 y2] 24) := ⟨_, rfl⟩
  obtain ⟨g6, hg⟩ : ∃ g, g = u6.heap.size := ⟨_, rfl⟩
  have hc : Below u6.heap.size u6 V6 := by rw [hV]; exact (Below.refl _ _).alloc (Nat.le_refl _) _
  have I6 : Hid (IvB V6 g6 x2 y2) := by rw [hV, hg]; exact IvB.new _ _ _
  have A11 : Hid (Below v1.heap.size v1 V6) := A10.out.trans (hc.mono A10.out.size)
  replace I1 : Hid (IvB V6 g1 a a) := I1.out.box hc
  replace I2 : Hid (IvB V6 g2 b b) := I2.out.box hc
  replace D3 : Hid (DN V6 (.agg #[.bool t.1, .slice oa3 (dlen t.2.1) cp3, .int .i64 t.2.2]) t) := D3.out.later hc
  replace D4 : Hid (DN V6 (.agg #[.bool u.1, .slice oa4 (dlen u.2.1) cp4, .int .i64 u.2.2]) u) := D4.out.later hc
  replace N3 : Hid (V6.heap[g3]? = some (.cells #[.bool t.1, .slice oa3 (dlen t.2.1) cp3, .int .i64 t.2.2] 45 (0, 0))) := box_later N3.out hc (lt_of_box N3.out)
  replace N4 : Hid (V6.heap[g3 + 1]? = some (.cells #[.bool u.1, .slice oa4 (dlen u.2.1) cp4, .int .i64 u.2.2] 45 (0, 0))) := box_later N4.out hc (lt_of_box N4.out)
  replace I5 : Hid (IvB V6 g5 x1 y1) := I5.out.box hc
  clear hc A10
  obtain ⟨i10, i11, -, -⟩ := IvB.facts I1.out
  obtain ⟨i20, i21, -, -⟩ := IvB.facts I2.out
  obtain ⟨i50, i51, -, -⟩ := IvB.facts I5.out
  obtain ⟨i60, i61, -, -⟩ := IvB.facts I6.out
  have kk := Hk7.out V6 A11.out
  clear Hk7
  rw [hV] at i10 i11 i20 i21 i50 i51 i60 i61
  go_wp2_with fail
  rw [← hV, ← hg]
  clear hV hg
  clear i10 i11
  clear i20 i21
  clear i50 i51
  clear i60 i61
  refine kk.mono ?_
  rintro r u7 ⟨rfl, hb⟩
  clear kk
  have A12 : Hid (Below v1.heap.size v1 u7) := A11.out.trans (hb.mono A11.out.size)
  replace I1 : Hid (IvB u7 g1 a a) := I1.out.box hb
  replace I2 : Hid (IvB u7 g2 b b) := I2.out.box hb
  replace D3 : Hid (DN u7 (.agg #[.bool t.1, .slice oa3 (dlen t.2.1) cp3, .int .i64 t.2.2]) t) := D3.out.later hb
  replace D4 : Hid (DN u7 (.agg #[.bool u.1, .slice oa4 (dlen u.2.1) cp4, .int .i64 u.2.2]) u) := D4.out.later hb
  replace N3 : Hid (u7.heap[g3]? = some (.cells #[.bool t.1, .slice oa3 (dlen t.2.1) cp3, .int .i64 t.2.2] 45 (0, 0))) := box_later N3.out hb (lt_of_box N3.out)
  replace N4 : Hid (u7.heap[g3 + 1]? = some (.cells #[.bool u.1, .slice oa4 (dlen u.2.1) cp4, .int .i64 u.2.2] 45 (0, 0))) := box_later N4.out hb (lt_of_box N4.out)
  replace I5 : Hid (IvB u7 g5 x1 y1) := I5.out.box hb
  replace I6 : Hid (IvB u7 g6 x2 y2) := I6.out.box hb
  clear hb A11
  obtain ⟨V7, hV⟩ : ∃ V, V = u7.alloc (.cells #[.float .f64 x3, .float .f64 y3] 24) := ⟨_, rfl⟩
  obtain ⟨g7, hg⟩ : ∃ g, g = u7.heap.size := ⟨_, rfl⟩
  have hc : Below u7.heap.size u7 V7 := by rw [hV]; exact (Below.refl _ _).alloc (Nat.le_refl _) _
  have I7 : Hid (IvB V7 g7 x3 y3) := by rw [hV, hg]; exact IvB.new _ _ _
  have A13 : Hid (Below v1.heap.size v1 V7) := A12.out.trans (hc.mono A12.out.size)
  replace I1 : Hid (IvB V7 g1 a a) := I1.out.box hc
  replace I2 : Hid (IvB V7 g2 b b) := I2.out.box hc
  replace D3 : Hid (DN V7 (.agg #[.bool t.1, .slice oa3 (dlen t.2.1) cp3, .int .i64 t.2.2]) t) := D3.out.later hc
  replace D4 : Hid (DN V7 (.agg #[.bool u.1, .slice oa4 (dlen u.2.1) cp4, .int .i64 u.2.2]) u) := D4.out.later hc
  replace N3 : Hid (V7.heap[g3]? = some (.cells #[.bool t.1, .slice oa3 (dlen t.2.1) cp3, .int .i64 t.2.2] 45 (0, 0))) := box_later N3.out hc (lt_of_box N3.out)
  replace N4 : Hid (V7.heap[g3 + 1]? = some (.cells #[.bool u.1, .slice oa4 (dlen u.2.1) cp4, .int .i64 u.2.2] 45 (0, 0))) := box_later N4.out hc (lt_of_box N4.out)
  replace I5 : Hid (IvB V7 g5 x1 y1) := I5.out.box hc
  replace I6 : Hid (IvB V7 g6 x2 y2) := I6.out.box hc
  clear hc A12
  obtain ⟨i10, i11, -, -⟩ := IvB.facts I1.out
  obtain ⟨i20, i21, -, -⟩ := IvB.facts I2.out
  obtain ⟨i50, i51, -, -⟩ := IvB.facts I5.out
  obtain ⟨i60, i61, -, -⟩ := IvB.facts I6.out
  obtain ⟨i70, i71, -, -⟩ := IvB.facts I7.out
  have kk := Hk8.out V7 A13.out
  clear Hk8
  rw [hV] at i10 i11 i20 i21 i50 i51 i60 i61 i70 i71
  go_wp2_with fail
  rw [← hV, ← hg]
  clear hV hg
  clear i10 i11
  clear i20 i21
  clear i50 i51
  clear i60 i61
  clear i70 i71
  refine kk.mono ?_
  rintro r u8 ⟨rfl, hb⟩
  clear kk
  have A14 : Hid (Below v1.heap.size v1 u8) := A13.out.trans (hb.mono A13.out.size)
  replace I1 : Hid (IvB u8 g1 a a) := I1.out.box hb
  replace I2 : Hid (IvB u8 g2 b b) := I2.out.box hb
  replace D3 : Hid (DN u8 (.agg #[.bool t.1, .slice oa3 (dlen t.2.1) cp3, .int .i64 t.2.2]) t) := D3.out.later hb
  replace D4 : Hid (DN u8 (.agg #[.bool u.1, .slice oa4 (dlen u.2.1) cp4, .int .i64 u.2.2]) u) := D4.out.later hb
  replace N3 : Hid (u8.heap[g3]? = some (.cells #[.bool t.1, .slice oa3 (dlen t.2.1) cp3, .int .i64 t.2.2] 45 (0, 0))) := box_later N3.out hb (lt_of_box N3.out)
  replace N4 : Hid (u8.heap[g3 + 1]? = some (.cells #[.bool u.1, .slice oa4 (dlen u.2.1) cp4, .int .i64 u.2.2] 45 (0, 0))) := box_later N4.out hb (lt_of_box N4.out)
  replace I5 : Hid (IvB u8 g5 x1 y1) := I5.out.box hb
  replace I6 : Hid (IvB u8 g6 x2 y2) := I6.out.box hb
  replace I7 : Hid (IvB u8 g7 x3 y3) := I7.out.box hb
  clear hb A13
  obtain ⟨V8, hV⟩ : ∃ V, V = u8.alloc (.cells #[.float .f64 x4, .float .f64 y4] 24) := ⟨_, rfl⟩
  obtain ⟨g8, hg⟩ : ∃ g, g = u8.heap.size := ⟨_, rfl⟩
  have hc : Below u8.heap.size u8 V8 := by rw [hV]; exact (Below.refl _ _).alloc (Nat.le_refl _) _
  have I8 : Hid (IvB V8 g8 x4 y4) := by rw [hV, hg]; exact IvB.new _ _ _
  have A15 : Hid (Below v1.heap.size v1 V8) := A14.out.trans (hc.mono A14.out.size)
  replace I1 : Hid (IvB V8 g1 a a) := I1.out.box hc
  replace I2 : Hid (IvB V8 g2 b b) := I2.out.box hc
  replace D3 : Hid (DN V8 (.agg #[.bool t.1, .slice oa3 (dlen t.2.1) cp3, .int .i64 t.2.2]) t) := D3.out.later hc
  replace D4 : Hid (DN V8 (.agg #[.bool u.1, .slice oa4 (dlen u.2.1) cp4, .int .i64 u.2.2]) u) := D4.out.later hc
  replace N3 : Hid (V8.heap[g3]? = some (.cells #[.bool t.1, .slice oa3 (dlen t.2.1) cp3, .int .i64 t.2.2] 45 (0, 0))) := box_later N3.out hc (lt_of_box N3.out)
  replace N4 : Hid (V8.heap[g3 + 1]? = some (.cells #[.bool u.1, .slice oa4 (dlen u.2.1) cp4, .int .i64 u.2.2] 45 (0, 0))) := box_later N4.out hc (lt_of_box N4.out)
  replace I5 : Hid (IvB V8 g5 x1 y1) := I5.out.box hc
  replace I6 : Hid (IvB V8 g6 x2 y2) := I6.out.box hc
  replace I7 : Hid (IvB V8 g7 x3 y3) := I7.out.box hc
  clear hc A14
  go_upto_region 10 with fail
  rw [← hV, ← hg]
  clear hV hg
  have HK : Hid (∀ w', Below V8.heap.size V8 w' → (w'.cell? ⟨g5, 0, none⟩ = some (.float .f64 x1) ∧ w'.cell? ⟨g5, 1, none⟩ = some (.float .f64 y1)) ∧ (w'.cell? ⟨g6, 0, none⟩ = some (.float .f64 x2) ∧ w'.cell? ⟨g6, 1, none⟩ = some (.float .f64 y2)) ∧ (w'.cell? ⟨g7, 0, none⟩ = some (.float .f64 x3) ∧ w'.cell? ⟨g7, 1, none⟩ = some (.float .f64 y3)) ∧ (w'.cell? ⟨g8, 0, none⟩ = some (.float .f64 x4) ∧ w'.cell? ⟨g8, 1, none⟩ = some (.float .f64 y4)) ∧ (w'.cell? ⟨g3, 0, none⟩ = some (.bool t.1) ∧ w'.cell? ⟨g3, 1, none⟩ = some (.slice oa3 (dlen t.2.1) cp3) ∧ w'.cell? ⟨g3, 2, none⟩ = some (.int .i64 t.2.2)) ∧ (w'.cell? ⟨g3 + 1, 0, none⟩ = some (.bool u.1) ∧ w'.cell? ⟨g3 + 1, 1, none⟩ = some (.slice oa4 (dlen u.2.1) cp4) ∧ w'.cell? ⟨g3 + 1, 2, none⟩ = some (.int .i64 u.2.2))) := fun w' hb => ⟨⟨(I5.out.later hb).1, (I5.out.later hb).2.1⟩, ⟨(I6.out.later hb).1, (I6.out.later hb).2.1⟩, ⟨(I7.out.later hb).1, (I7.out.later hb).2.1⟩, ⟨(I8.out.later hb).1, (I8.out.later hb).2.1⟩, (box_cells29 (box_later N3.out hb (lt_of_box N3.out))).1, (box_cells29 (box_later N4.out hb (lt_of_box N4.out))).1⟩
  have hR : Below V8.heap.size V8 V8.drew := (Below.refl _ _).drew
  obtain ⟨⟨c0, c1⟩, ⟨c2, c3⟩, ⟨c4, c5⟩, ⟨c6, c7⟩, ⟨cx0, cx1, cx2⟩, cx3, cx4, cx5⟩ := HK.out V8 (Below.refl _ _)
  have q1 : ∀ W', Below V8.heap.size V8 W' → Calls Tryz.prog 26 #[(.agg #[.bool t.1, .slice oa3 (dlen t.2.1) cp3, .int .i64 t.2.2]), (.agg #[.bool u.1, .slice oa4 (dlen u.2.1) cp4, .int .i64 u.2.2])] W' fun r w' => ∃ s ao n cap e, r = .returned (.agg #[.bool s, .slice ao n cap, .int .i64 e]) ∧ Hid (DN w' (.agg #[.bool s, .slice ao n cap, .int .i64 e]) t1) ∧ Below V8.heap.size V8 w' := fun W' h => (Hm1.out W' _ _ (D3.out.later h) (D4.out.later h)).mono fun r w' ⟨s, ao, n, cap, e, h1, h2, h3⟩ => ⟨s, ao, n, cap, e, h1, h2, h.trans (h3.mono h.size)⟩
  have q2 : ∀ W', Below V8.heap.size V8 W' → Calls Tryz.prog 27 #[(.agg #[.bool t.1, .slice oa3 (dlen t.2.1) cp3, .int .i64 t.2.2]), (.agg #[.bool u.1, .slice oa4 (dlen u.2.1) cp4, .int .i64 u.2.2])] W' fun r w' => ∃ s ao n cap e, r = .returned (.agg #[.bool s, .slice ao n cap, .int .i64 e]) ∧ Hid (DN w' (.agg #[.bool s, .slice ao n cap, .int .i64 e]) t2) ∧ Below V8.heap.size V8 w' := fun W' h => (Hm2.out W' _ _ (D3.out.later h) (D4.out.later h)).mono fun r w' ⟨s, ao, n, cap, e, h1, h2, h3⟩ => ⟨s, ao, n, cap, e, h1, h2, h.trans (h3.mono h.size)⟩
  have q3 : ∀ W', Below V8.heap.size V8 W' → Calls Tryz.prog 28 #[(.agg #[.bool t.1, .slice oa3 (dlen t.2.1) cp3, .int .i64 t.2.2]), (.agg #[.bool u.1, .slice oa4 (dlen u.2.1) cp4, .int .i64 u.2.2])] W' fun r w' => ∃ s ao n cap e, r = .returned (.agg #[.bool s, .slice ao n cap, .int .i64 e]) ∧ Hid (DN w' (.agg #[.bool s, .slice ao n cap, .int .i64 e]) t3) ∧ Below V8.heap.size V8 w' := fun W' h => (Hm3.out W' _ _ (D3.out.later h) (D4.out.later h)).mono fun r w' ⟨s, ao, n, cap, e, h1, h2, h3⟩ => ⟨s, ao, n, cap, e, h1, h2, h.trans (h3.mono h.size)⟩
  have q4 : ∀ W', Below V8.heap.size V8 W' → Calls Tryz.prog 28 #[(.agg #[.bool t.1, .slice oa3 (dlen t.2.1) cp3, .int .i64 t.2.2]), (.agg #[.bool t.1, .slice oa3 (dlen t.2.1) cp3, .int .i64 t.2.2])] W' fun r w' => ∃ s ao n cap e, r = .returned (.agg #[.bool s, .slice ao n cap, .int .i64 e]) ∧ Hid (DN w' (.agg #[.bool s, .slice ao n cap, .int .i64 e]) t4) ∧ Below V8.heap.size V8 w' := fun W' h => (Hm4.out W' _ _ (D3.out.later h) (D3.out.later h)).mono fun r w' ⟨s, ao, n, cap, e, h1, h2, h3⟩ => ⟨s, ao, n, cap, e, h1, h2, h.trans (h3.mono h.size)⟩
  have q5 : ∀ W' Y, Below V8.heap.size V8 W' → DN W' Y t4 → Calls Tryz.prog 28 #[(.agg #[.bool t.1, .slice oa3 (dlen t.2.1) cp3, .int .i64 t.2.2]), Y] W' fun r w' => ∃ s ao n cap e, r = .returned (.agg #[.bool s, .slice ao n cap, .int .i64 e]) ∧ Hid (DN w' (.agg #[.bool s, .slice ao n cap, .int .i64 e]) t5) ∧ Below V8.heap.size V8 w' := fun W' Y h hy => (Hm5.out W' _ _ (D3.out.later h) hy).mono fun r w' ⟨s, ao, n, cap, e, h1, h2, h3⟩ => ⟨s, ao, n, cap, e, h1, h2, h.trans (h3.mono h.size)⟩
  have p1 : ∀ W' X, Below V8.heap.size V8 W' → DN W' X t1 → Calls Tryz.prog 25 #[.agg #[.float .f64 x1, .float .f64 y1], X] W' fun r w' => r = .returned (.bool true) ∧ Below V8.heap.size V8 w' := fun W' X h hx => (Hh1.out W' X hx).mono fun r w' ⟨h1, h3⟩ => ⟨h1, h.trans (h3.mono h.size)⟩
  have p2 : ∀ W' X, Below V8.heap.size V8 W' → DN W' X t2 → Calls Tryz.prog 25 #[.agg #[.float .f64 x2, .float .f64 y2], X] W' fun r w' => r = .returned (.bool true) ∧ Below V8.heap.size V8 w' := fun W' X h hx => (Hh2.out W' X hx).mono fun r w' ⟨h1, h3⟩ => ⟨h1, h.trans (h3.mono h.size)⟩
  have p3 : ∀ W' X, Below V8.heap.size V8 W' → DN W' X t3 → Calls Tryz.prog 25 #[.agg #[.float .f64 x3, .float .f64 y3], X] W' fun r w' => r = .returned (.bool true) ∧ Below V8.heap.size V8 w' := fun W' X h hx => (Hh3.out W' X hx).mono fun r w' ⟨h1, h3⟩ => ⟨h1, h.trans (h3.mono h.size)⟩
  have p4 : ∀ W' X, Below V8.heap.size V8 W' → DN W' X t5 → Calls Tryz.prog 25 #[.agg #[.float .f64 x4, .float .f64 y4], X] W' fun r w' => r = .returned (.bool true) ∧ Below V8.heap.size V8 w' := fun W' X h hx => (Hh4.out W' X hx).mono fun r w' ⟨h1, h3⟩ => ⟨h1, h.trans (h3.mono h.size)⟩
  have qw : ∀ W', Below V8.heap.size V8 W' → Calls Tryz.prog 13 #[] W' fun r w' => r = .returned (.bool true) ∧ Below V8.heap.size V8 w' := fun W' h => (Hkw.out W' (A15.out.trans (h.mono A15.out.size))).mono fun r w' ⟨h1, h3⟩ => ⟨h1, h.trans (h3.mono h.size)⟩
  clear Hm1 Hm2 Hm3 Hm4 Hm5 Hh1 Hh2 Hh3 Hh4 Hkw D3 D4 N3 N4 I1 I2 I5 I6 I7 I8
  go_region_held3 (fun w' => (w'.cell? ⟨g5, 0, none⟩ = some (.float .f64 x1) ∧ w'.cell? ⟨g5, 1, none⟩ = some (.float .f64 y1)) ∧ (w'.cell? ⟨g6, 0, none⟩ = some (.float .f64 x2) ∧ w'.cell? ⟨g6, 1, none⟩ = some (.float .f64 y2)) ∧ (w'.cell? ⟨g7, 0, none⟩ = some (.float .f64 x3) ∧ w'.cell? ⟨g7, 1, none⟩ = some (.float .f64 y3)) ∧ (w'.cell? ⟨g8, 0, none⟩ = some (.float .f64 x4) ∧ w'.cell? ⟨g8, 1, none⟩ = some (.float .f64 y4)) ∧ (w'.cell? ⟨g3, 0, none⟩ = some (.bool t.1) ∧ w'.cell? ⟨g3, 1, none⟩ = some (.slice oa3 (dlen t.2.1) cp3) ∧ w'.cell? ⟨g3, 2, none⟩ = some (.int .i64 t.2.2)) ∧ (w'.cell? ⟨g3 + 1, 0, none⟩ = some (.bool u.1) ∧ w'.cell? ⟨g3 + 1, 1, none⟩ = some (.slice oa4 (dlen u.2.1) cp4) ∧ w'.cell? ⟨g3 + 1, 2, none⟩ = some (.int .i64 u.2.2))) (first | (with_reducible assumption) | exact HK.out _ hR | (refine HK.out _ ?_; with_reducible assumption))
    (first | (go_at_call 26; with_reducible refine (q1 _ hR).mono ?_; rintro r b1 ⟨s1, ao1, n1, cc1, e1, rfl, E1, B1⟩)
           | (go_at_call 25; with_reducible refine (p1 _ _ B1 E1.out).mono ?_; rintro r b2 ⟨rfl, B2⟩)
           | (go_at_call 27; with_reducible refine (q2 _ B2).mono ?_; rintro r b3 ⟨s3, ao3, n3, cc3, e3, rfl, E3, B3⟩)
           | (go_at_call 25; with_reducible refine (p2 _ _ B3 E3.out).mono ?_; rintro r b4 ⟨rfl, B4⟩)
           | (go_at_call 28; with_reducible refine (q3 _ B4).mono ?_; rintro r b5 ⟨s5, ao5, n5, cc5, e5, rfl, E5, B5⟩)
           | (go_at_call 25; with_reducible refine (p3 _ _ B5 E5.out).mono ?_; rintro r b6 ⟨rfl, B6⟩)
           | (go_at_call 28; with_reducible refine (q4 _ B6).mono ?_; rintro r b7 ⟨s7, ao7, n7, cc7, e7, rfl, E7, B7⟩)
           | (go_at_call 28; with_reducible refine (q5 _ _ B7 E7.out).mono ?_; rintro r b8 ⟨s8, ao8, n8, cc8, e8, rfl, E8, B8⟩)
           | (go_at_call 25; with_reducible refine (p4 _ _ B8 E8.out).mono ?_; rintro r b9 ⟨rfl, B9⟩)
           | (go_at_call 13; with_reducible refine (qw _ B9).mono ?_; rintro r b10 ⟨rfl, B10⟩))
  have HB : Hid (Below v1.heap.size v1 b10) := A15.out.trans (B10.mono A15.out.size)
  clear q1 q2 q3 q4 q5 p1 p2 p3 p4 qw hR HK
  go_wp2_with fail
  go_ret
  exact ⟨rfl, HB.out⟩
end Go.Proofs.YtcoclopllbfjcaaGreatDoor
/- SpanMakes. -/
namespace Go.Proofs.YtcoclopllbfjcaaGreatDoor
set_option linter.unusedVariables false
set_option linter.unusedSimpArgs false
open Go.RowKit Go.Fl64
attribute [local go_sem] run_store_flt

/-- the interval of two floats, or an error -/
def ofV (n v : Bool) (x y : Nat) : Value := if n then .tuple #[.agg #[.float .f64 0, .float .f64 0], .int .i64 4] else if v then .tuple #[.agg #[.float .f64 x, .float .f64 y], .int .i64 0] else .tuple #[.agg #[.float .f64 0, .float .f64 0], .int .i64 1]
set_option maxHeartbeats 4000000 in
theorem sof_n (lo hi x y : Nat) (n p v : Bool) (w : World) (o1 : (FloatKind.f64.format.order lo lo != some Ordering.eq) = n) (o2 : (FloatKind.f64.format.order hi hi != some Ordering.eq) = p) (hnp : (n || p) = true) :
    Calls Tryz.prog 22 #[.float .f64 lo, .float .f64 hi] w fun r w' => r = .returned (ofV (n || p) v x y) ∧ Below w.heap.size w w' := by
  rw [hnp]
  cases n
  · cases p
    · cases hnp
    · go_enter Tryz.func22, Tryz.ntmps22
      go_wp2
      refine bodyPost_ret (results_cell_tmp_row rfl _ _ (w.heap.size) 24 #[.float .f64 0, .float .f64 0] (0, 0) _ rfl (heap_alloc_new _ _) Tryz.underlying24 rfl iv_info) rfl ?_
      exact ⟨rfl, (Below.refl _ _).alloc (Nat.le_refl _) _⟩
  · go_enter Tryz.func22, Tryz.ntmps22
    go_wp2
    refine bodyPost_ret (results_cell_tmp_row rfl _ _ (w.heap.size) 24 #[.float .f64 0, .float .f64 0] (0, 0) _ rfl (heap_alloc_new _ _) Tryz.underlying24 rfl iv_info) rfl ?_
    exact ⟨rfl, (Below.refl _ _).alloc (Nat.le_refl _) _⟩
set_option maxHeartbeats 4000000 in
theorem sof_1 (lo hi x y : Nat) (v : Bool) (w : World) (o1 : (FloatKind.f64.format.order lo lo != some Ordering.eq) = false) (o2 : (FloatKind.f64.format.order hi hi != some Ordering.eq) = false)
    (k1 : ∀ W, Calls Tryz.prog 54 #[.float .f64 lo, .float .f64 hi] W fun r w' => r = .returned (.agg #[.float .f64 x, .float .f64 y]) ∧ Below W.heap.size W w')
    (k2 : ∀ W, Calls Tryz.prog 52 #[.agg #[.float .f64 x, .float .f64 y]] W fun r w' => r = .returned (.bool v) ∧ Below W.heap.size W w') :
    Calls Tryz.prog 22 #[.float .f64 lo, .float .f64 hi] w fun r w' => r = .returned (ofV false v x y) ∧ Below w.heap.size w w' := by
  obtain ⟨W, hW⟩ : ∃ W, W = w.alloc (.cells #[.float .f64 0, .float .f64 0] 24) := ⟨_, rfl⟩
  have HX : Hid (Below w.heap.size w W ∧ IvB W w.heap.size 0 0) := by rw [hW]; exact ⟨bxs1_0 w 0 0, bxs1_1 w 0 0⟩
  have kk := k1 W
  have H2 : Hid (∀ W, Calls Tryz.prog 52 #[.agg #[.float .f64 x, .float .f64 y]] W fun r w' => r = .returned (.bool v) ∧ Below W.heap.size W w') := k2
  clear k1 k2
  go_enter Tryz.func22, Tryz.ntmps22
  go_upto_region 1 with fail
  rw [← hW]
  clear hW
  go_wp2_with fail
  refine kk.mono ?_
  rintro r w1 ⟨rfl, hb1⟩
  obtain ⟨V, hV⟩ : ∃ V, V = w1.alloc (.cells #[.float .f64 x, .float .f64 y] 24) := ⟨_, rfl⟩
  have hbV : Below W.heap.size W V := by rw [hV]; exact hb1.alloc hb1.size _
  have XV : Hid (IvB V w1.heap.size x y) := by rw [hV]; exact IvB.new _ _ _
  have HBV : Hid (Below W.heap.size W V) := hbV
  have kk2 := H2.out V
  obtain ⟨c0, c1, z0, z1⟩ := XV.out.facts
  rw [hV] at c0 c1
  clear kk hb1 hbV H2
  go_wp2_with fail
  rw [← hV]
  clear hV c0 c1 z0 z1
  generalize w1.heap.size = g at *
  refine kk2.mono ?_
  rintro r w2 ⟨rfl, hb2⟩
  obtain ⟨c0, c1, z0, z1⟩ := XV.out.later hb2
  have hb3 : Below W.heap.size W w2 := HBV.out.trans (hb2.mono HBV.out.size)
  obtain ⟨d0, d1, y0, y1⟩ := HX.out.2.later hb3
  have HR : Hid (IvB w2 w.heap.size 0 0) := HX.out.2.box hb3
  have HB : Hid (Below w.heap.size w w2) := HX.out.1.trans (hb3.mono HX.out.1.size)
  clear kk2 hb2 hb3 HBV HX XV
  cases v
  · go_wp2
    refine bodyPost_ret (results_cell_tmp_row rfl _ _ (w.heap.size) 24 #[.float .f64 0, .float .f64 0] (0, 0) _ rfl (HR.out.set _ _) Tryz.underlying24 rfl iv_info) rfl ?_
    exact ⟨rfl, below_store2 HB.out (by omega) _ _⟩
  · go_wp2
    refine bodyPost_ret (results_cell_tmp_row rfl _ _ (w.heap.size) 24 #[.float .f64 x, .float .f64 y] (0, 0) _ rfl (HR.out.set _ _) Tryz.underlying24 rfl iv_info) rfl ?_
    exact ⟨rfl, below_store2 HB.out (by omega) _ _⟩
theorem sof (lo hi : Nat) (h1 : lo < 18446744073709551616) (h2 : hi < 18446744073709551616) (w : World) :
    Calls Tryz.prog 22 #[.float .f64 lo, .float .f64 hi] w fun r w' => r = .returned (ofV (isNaN lo || isNaN hi) (vI (pl lo) (pl hi)) (pl lo) (pl hi)) ∧ Below w.heap.size w w' := by
  have o1 := self_ne lo h1
  have o2 := self_ne hi h2
  cases hn : isNaN lo || isNaN hi
  · rw [Bool.or_eq_false_iff] at hn
    rw [hn.1] at o1
    rw [hn.2] at o2
    exact sof_1 lo hi _ _ _ w o1 o2 (fun W => sbetween lo hi W h1 h2) (fun W => svalid _ _ (pl_lt h1) (pl_lt h2) W)
  · have k := sof_n lo hi (pl lo) (pl hi) _ _ (vI (pl lo) (pl hi)) w o1 o2 hn
    rw [hn] at k
    exact k
end Go.Proofs.YtcoclopllbfjcaaGreatDoor
/- The least and the greatest of ends. -/
namespace Go.Proofs.YtcoclopllbfjcaaGreatDoor
set_option linter.unusedVariables false
set_option linter.unusedSimpArgs false
open Go.RowKit Go.Fl64
attribute [local go_sem] run_store_flt

theorem EnB.other {W : World} {g h : Nat} {a b c d : Value} (hE : EnB W g a b c d) (hn : g ≠ h) (a' b' c' d' : Value) : EnB ((((W.setCell ⟨h, 0, none⟩ a').setCell ⟨h, 1, none⟩ b').setCell ⟨h, 2, none⟩ c').setCell ⟨h, 3, none⟩ d') g a b c d := by
  unfold EnB at *
  simp [World.setCell, Array.getElem?_modify, hE, Ne.symm hn]
end Go.Proofs.YtcoclopllbfjcaaGreatDoor
/- The document's Mul. -/
namespace Go.Proofs.YtcoclopllbfjcaaGreatDoor
set_option linter.unusedVariables false
set_option linter.unusedSimpArgs false
open Go.RowKit Go.Fl64
attribute [local go_sem] run_store_flt

theorem lt48 {k : Nat} (h : k < 4) : k = 0 ∨ k = 1 ∨ k = 2 ∨ k = 3 := by omega
end Go.Proofs.YtcoclopllbfjcaaGreatDoor
/- Products of ends in numbers. -/
namespace Go.Proofs.YtcoclopllbfjcaaGreatDoor
set_option linter.unusedVariables false
set_option linter.unusedSimpArgs false
open Go.RowKit Go.Fl64
attribute [local go_sem] run_store_flt

theorem mag_le8 {x : Nat} (nx : isNaN x = false) : mag x ≤ 9218868437227405312 := by
  have n' : ¬ 9218868437227405312 < mag x := of_decide_eq_false nx
  omega
theorem sgn8 {x : Nat} (hx : x < 18446744073709551616) (nx : isNaN x = false) : sgE (eI x) (eT x) = if mag x = 0 then 0 else if neg x then -1 else 1 := by
  rcases inf_or hx nx with ⟨f, e, t⟩ | ⟨rfl, e⟩ | ⟨rfl, e⟩
  · rw [e, t]
    unfold sgE
    rw [if_pos rfl]
    by_cases h0 : mag x = 0
    · rw [if_pos h0, tF_zero8 h0]; rfl
    · have k := tF_val8 f h0
      have h1 : (tF x).2.1 ≠ 0 := by
        intro h
        rw [h, Nat.zero_mul] at k
        have := (val_eq_zero (mag x)).1 k.2.1
        exact h0 this
      rw [if_neg h0, if_neg h1, k.1]
  · rw [e]; decide
  · rw [e]; decide
theorem fin_iff8 {x : Nat} (hx : x < 18446744073709551616) (nx : isNaN x = false) : eI x = 0 ↔ mag x < 9218868437227405312 := eI_zero_fin hx nx
theorem onF_nn {x : Nat} (h : isNaN x = false) : onF x = x := by unfold onF; rw [h]; rfl
theorem mul_zero8 {x y : Nat} (hx : x < 18446744073709551616) (hy : y < 18446744073709551616) (nx : isNaN x = false) (ny : isNaN y = false) {m : Int} (hm : 1 ≤ m ∧ m ≤ 3) (h : mag x = 0 ∨ mag y = 0) : pl (onF (fMul x y m)) = 0 := by
  have hM : isM m = true := by unfold isM; rcases (show m = 1 ∨ m = 2 ∨ m = 3 by omega) with rfl | rfl | rfl <;> rfl
  have hp : pln x = false ∨ pln y = false := by
    unfold pln
    rcases h with h | h
    · left; rw [h]; rfl
    · right; rw [h]; rfl
  unfold fMul
  rw [hM, if_neg (by simp), if_pos hp]
  unfold mulX
  rw [nx, ny, if_neg (by simp)]
  split
  · first | decide | (rw [if_pos h]; decide)
  · cases (neg x != neg y) <;> decide
theorem enF_times {x y : Nat} (hx : x < 18446744073709551616) (hy : y < 18446744073709551616) (nx : isNaN x = false) (ny : isNaN y = false) {m : Int} (hm : 1 ≤ m ∧ m ≤ 3) : enF (tmI (eI x) (eI y) (eT x) (eT y)) (tmT (eI x) (eI y) (eT x) (eT y)) m = pl (onF (fMul x y m)) := by
  have hM : isM m = true := by unfold isM; rcases (show m = 1 ∨ m = 2 ∨ m = 3 by omega) with rfl | rfl | rfl <;> rfl
  have sx := sgn8 hx nx
  have sy := sgn8 hy ny
  unfold tmI tmT
  by_cases h0 : mag x = 0 ∨ mag y = 0
  · have hz : sgE (eI x) (eT x) = 0 ∨ sgE (eI y) (eT y) = 0 := by
      rw [sx, sy]
      rcases h0 with h | h
      · left; rw [if_pos h]
      · right; rw [if_pos h]
    rw [if_pos hz, if_pos hz, enF_0, mul_zero8 hx hy nx ny hm h0]
  have x0 : mag x ≠ 0 := by omega
  have y0 : mag y ≠ 0 := by omega
  rw [if_neg x0] at sx
  rw [if_neg y0] at sy
  have hz : ¬ (sgE (eI x) (eT x) = 0 ∨ sgE (eI y) (eT y) = 0) := by
    rw [sx, sy]
    cases neg x <;> cases neg y <;> simp
  rw [if_neg hz, if_neg hz]
  have ex := fin_iff8 hx nx
  have ey := fin_iff8 hy ny
  have mx := mag_le8 nx
  have my := mag_le8 ny
  by_cases hi : eI x ≠ 0 ∨ eI y ≠ 0
  · rw [if_pos hi, if_pos hi]
    have hin : mag x = 9218868437227405312 ∨ mag y = 9218868437227405312 := by
      rcases hi with h | h
      · left; have : ¬ mag x < 9218868437227405312 := fun h' => h (ex.2 h'); omega
      · right; have : ¬ mag y < 9218868437227405312 := fun h' => h (ey.2 h'); omega
    have hp : pln x = false ∨ pln y = false := by
      unfold pln
      rcases hin with h | h
      · left; rw [h]; rfl
      · right; rw [h]; rfl
    unfold fMul
    rw [hM, if_neg (by simp), if_pos hp]
    unfold mulX
    rw [nx, ny, if_neg (by simp), if_pos hin, if_neg h0, sx, sy]
    unfold enF
    generalize pl (toD (false, 0, 0) m) = q
    cases neg x <;> cases neg y <;> rfl
  · rw [if_neg hi, if_neg hi]
    have x1 : eI x = 0 := by omega
    have y1 : eI y = 0 := by omega
    have tx : eT x = tF x := by unfold eT; rw [if_pos x1]
    have ty : eT y = tF y := by unfold eT; rw [if_pos y1]
    have px : pln x = true := by unfold pln; rw [decide_eq_true (ex.1 x1), decide_eq_true x0]; rfl
    have py : pln y = true := by unfold pln; rw [decide_eq_true (ey.1 y1), decide_eq_true y0]; rfl
    have o : Ok (tM (tF x) (tF y)) := tM_ok (tM_okR x y)
    have e : fMul x y m = toD (tM (tF x) (tF y)) m := by
      unfold fMul
      rw [hM, if_neg (by simp), if_neg (by rw [px, py]; simp), toD_tf o hm]
    have k := enF_nn 0 (tM (tF x) (tF y)) hm
    have e2 : enF 0 (tM (tF x) (tF y)) m = pl (toD (tM (tF x) (tF y)) m) := by unfold enF; rw [if_pos rfl]
    rw [e2, pl_nan] at k
    rw [tx, ty, e2, e, onF_nn k]
end Go.Proofs.YtcoclopllbfjcaaGreatDoor
/- Mul joined. -/
namespace Go.Proofs.YtcoclopllbfjcaaGreatDoor
set_option linter.unusedVariables false
set_option linter.unusedSimpArgs false
open Go.RowKit Go.Fl64
attribute [local go_sem] run_store_flt

theorem pl_nZ (x : Nat) : pl x ≠ 9223372036854775808 := by
  unfold pl
  split
  · decide
  · assumption
end Go.Proofs.YtcoclopllbfjcaaGreatDoor
