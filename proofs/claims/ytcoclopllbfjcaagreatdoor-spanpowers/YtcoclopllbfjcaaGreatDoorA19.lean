/- Own work: contracts of the program's functions, part 19: SP1 SP2 SP3 SP4 SQ4 SQ5 SQ6. -/
import Derived.Test.YtcoclopllbfjcaaGreatDoorA16
import Derived.Test.YtcoclopllbfjcaaGreatDoorA3
import Derived.Test.YtcoclopllbfjcaaGreatDoorA12
import Derived.Test.YtcoclopllbfjcaaGreatDoorA10
import Derived.Test.YtcoclopllbfjcaaGreatDoorA11
import Derived.Test.YtcoclopllbfjcaaGreatDoorA6
import Derived.Test.YtcoclopllbfjcaaGreatDoorA9
import Derived.Test.YtcoclopllbfjcaaGreatDoorA17
import Derived.Test.YtcoclopllbfjcaaGreatDoorA18

set_option maxHeartbeats 16000000
namespace Go.Proofs.YtcoclopllbfjcaaGreatDoor
set_option linter.unusedVariables false
set_option linter.unusedSimpArgs false
open Go.RowKit Go.Fl64
theorem pn_storeP {w : World} {A : Value} {t : Bool × Nat × Int} {g : Nat} {s : Bool} {ao : Option Addr} {n cap : Nat} {e : Int} (h : PN w A t) (hg : w.heap[g]? = some (.cells #[.bool s, .slice ao n cap, .int .i64 e] 96 (0, 0))) (a b c : Value) : PN (((w.setCell ⟨g, 0, none⟩ a).setCell ⟨g, 1, none⟩ b).setCell ⟨g, 2, none⟩ c) A t := by
  obtain ⟨oo, cc, h1, ao', cap', h2, h3, h4, h5⟩ := h
  exact ⟨oo, cc, h1, ao', cap', h2, h3, h4, at_boxP h5 hg (by simp) (by simp) (by simp) a b c⟩
theorem store3_other {w : World} {g k : Nat} (a b c : Value) (h : k ≠ g) : (((w.setCell ⟨g, 0, none⟩ a).setCell ⟨g, 1, none⟩ b).setCell ⟨g, 2, none⟩ c).heap[k]? = w.heap[k]? := by
  have h' : ¬ g = k := fun e => h e.symm
  simp [World.setCell, Array.getElem?_modify, h']
def NBx (W : World) (g : Nat) (s : Bool) (ao : Option Addr) (m cap : Nat) (e : Int) : Prop := W.heap[g]? = some (.cells #[.bool s, .slice ao m cap, .int .i64 e] 96 (0, 0))
def RdP (w : World) (g : Nat) (t p : Bool × Nat × Int) (s0 : Bool) (ao0 : Option Addr) (m0 c0 : Nat) (e0 : Int) (wr : World) (s : Bool) (ao : Option Addr) (m cap : Nat) (e : Int) : Prop :=
  NBx wr g s ao m cap e ∧ NBx wr w.heap.size s0 ao0 m0 c0 e0 ∧ NBx wr (w.heap.size + 1) false none 0 0 0 ∧ PN wr (.agg #[.bool s, .slice ao m cap, .int .i64 e]) p ∧ Below w.heap.size w wr ∧ w.heap.size + 1 < g ∧ g < wr.heap.size
theorem RdP.next {w : World} {g : Nat} {t p q : Bool × Nat × Int} {s0 : Bool} {ao0 : Option Addr} {m0 c0 : Nat} {e0 : Int} {wr w' : World} {s s' : Bool} {ao ao' : Option Addr} {m cap m' cap' : Nat} {e e' : Int}
    (h : RdP w g t p s0 ao0 m0 c0 e0 wr s ao m cap e) (hb : Below wr.heap.size wr w') (hp : PN w' (.agg #[.bool s', .slice ao' m' cap', .int .i64 e']) q) :
    RdP w g t q s0 ao0 m0 c0 e0 (((w'.setCell ⟨g, 0, none⟩ (.bool s')).setCell ⟨g, 1, none⟩ (.slice ao' m' cap')).setCell ⟨g, 2, none⟩ (.int .i64 e')) s' ao' m' cap' e' := by
  obtain ⟨h1, h2, h3, h4, h5, h6, h7⟩ := h
  have hs := hb.size
  have b1 := box_later h1 hb h7
  refine ⟨store3 _ _ _ b1, ?_, ?_, pn_storeP hp b1 _ _ _, below_store3 (h5.trans (hb.mono h5.size)) (by omega) _ _ _, h6, by simp [World.setCell]; omega⟩
  · show _ = _
    rw [store3_other _ _ _ (by omega)]; exact box_later h2 hb (by omega)
  · show _ = _
    rw [store3_other _ _ _ (by omega)]; exact box_later h3 hb (by omega)
theorem bit_tab : ∀ k : Fin 1025, (bits BinOp.and IntKind.i64 ((k.val : Nat) : Int) 1 == 1) = (k.val % 2 == 1) := by decide +kernel
theorem bit_i64 {n q : Nat} (h : n ≤ 1024) : (bits BinOp.and IntKind.i64 ((n : Int) / 2 ^ q) 1 == 1) = (n / 2 ^ q % 2 == 1) := by
  have h1 := Nat.div_le_self n (2 ^ q)
  have h2 := bit_tab ⟨n / 2 ^ q, by omega⟩
  rw [show (n : Int) / 2 ^ q = ((n / 2 ^ q : Nat) : Int) by simp]
  exact h2
theorem two_half (n q : Nat) : n / 2 ^ (q + 1) + n / 2 ^ (q + 1) + n / 2 ^ q % 2 = n / 2 ^ q := by
  rw [Nat.pow_succ, ← Nat.div_div_eq_div_mul]; omega
set_option maxRecDepth 200000 in
theorem smult_1 (t : Bool × Nat × Int) (P : Nat → Bool × Nat × Int) (n L : Nat) (s0 : Bool) (ao0 : Option Addr) (m0 c0 : Nat) (e0 : Int) (w : World) (hn : n ≤ 1024) (hL : Hid (bl n = L)) (hL2 : L ≤ 11)
    (hA : PN w (.agg #[.bool s0, .slice ao0 m0 c0, .int .i64 e0]) (P 1))
    (kW : ∀ W, Below w.heap.size w W → Calls Tryz.prog 136 #[.int .i64 1] W fun r w' => OutA W (P 0) r w')
    (kM : ∀ W X Y a b, Below w.heap.size w W → PN W X (P a) → PN W Y (P b) → a + b ≤ n → Calls Tryz.prog 119 #[X, Y] W fun r w' => OutN8 W (P (a + b)) r w')
    (kL : ∀ W, Calls Tryz.prog 137 #[.int .u64 n] W fun r w' => r = .returned (.int .i64 L) ∧ w' = W) :
    Calls Tryz.prog 101 #[.agg #[.bool s0, .slice ao0 m0 c0, .int .i64 e0], .int .i64 n] w fun r w' => OutA w (P n) r w' := by
  obtain ⟨W, hW⟩ : ∃ W, W = (w.alloc (.cells #[.bool s0, .slice ao0 m0 c0, .int .i64 e0] 96)).alloc (.cells #[.bool false, .slice none 0 0, .int .i64 0] 96) := ⟨_, rfl⟩
  have hsz : W.heap.size = w.heap.size + 1 + 1 := by rw [hW]; simp
  have hBW : Below w.heap.size w W := by rw [hW]; exact ((Below.refl _ _).alloc (Nat.le_refl _) _).alloc (by simp) _
  have hA1 : NBx W w.heap.size s0 ao0 m0 c0 e0 := by
    show W.heap[w.heap.size]? = _
    rw [hW, Below.heap_alloc _ _ _ (by simp)]; exact heap_alloc_new _ _
  have hA2 : NBx W (w.heap.size + 1) false none 0 0 0 := by
    show W.heap[w.heap.size + 1]? = _
    have h := heap_alloc_new (w.alloc (.cells #[.bool s0, .slice ao0 m0 c0, .int .i64 e0] 96)) (.cells #[.bool false, .slice none 0 0, .int .i64 0] 96)
    rw [hW]; simpa using h
  have k1 := kW W hBW
  have HH : Hid (NBx W w.heap.size s0 ao0 m0 c0 e0 ∧ NBx W (w.heap.size + 1) false none 0 0 0 ∧ Below w.heap.size w W ∧ W.heap.size = w.heap.size + 1 + 1) := ⟨hA1, hA2, hBW, hsz⟩
  clear hA1 hA2 hBW hsz kW
  go_enter Tryz.func101, Tryz.ntmps101
  go_wp2_with fail
  rw [← hW]
  clear hW
  refine k1.mono ?_
  rintro r w1 ⟨s, ao, m, cap, e, rfl, hp, hb⟩
  clear k1
  obtain ⟨V, hV⟩ : ∃ V, V = w1.alloc (.cells #[.bool s, .slice ao m cap, .int .i64 e] 96) := ⟨_, rfl⟩
  obtain ⟨g, hg⟩ : ∃ g, g = w1.heap.size := ⟨_, rfl⟩
  have HR : Hid (RdP w g (P 1) (P 0) s0 ao0 m0 c0 e0 V s ao m cap e) := by
    obtain ⟨h1, h2, h3, h4⟩ := HH.out
    have hs := hb.size
    have hc : Below w1.heap.size w1 V := by rw [hV]; exact (Below.refl _ _).alloc (Nat.le_refl _) _
    refine ⟨by rw [hg, hV]; exact heap_alloc_new _ _, ?_, ?_, hp.later hc, (h3.trans (hb.mono h3.size)).trans (hc.mono (by omega)), by omega, by rw [hV, hg]; simp⟩
    · exact box_later (box_later h1 hb (by omega)) hc (by omega)
    · exact box_later (box_later h2 hb (by omega)) hc (by omega)
  go_wp2_with fail
  rw [← hV, ← hg]
  clear hV hg HH hp hb
  refine (kL _).mono ?_
  rintro r w2 ⟨rfl, rfl⟩
  go_wp2
  go_loopw [6] (fun v wr => ∃ (p : Nat) (s : Bool) (ao : Option Addr) (m cap : Nat) (e : Int), p ≤ L ∧ v = .int .i64 ((p : Int) - 1) ∧ Hid (RdP w g (P 1) (P (n / 2 ^ p)) s0 ao0 m0 c0 e0 wr s ao m cap e)) (fun v _ => (intOf v + 1).toNat)
  case atStart => exact ⟨L, s, ao, m, cap, e, Nat.le_refl _, rfl, by rw [← hL.out, Nat.div_eq_of_lt (lt_bl n)]; exact HR⟩
  case round =>
    obtain ⟨p, s, ao, m, cap, e, hp, rfl, HI⟩ := hrel
    clear HR
    by_cases h0 : 0 < p
    · obtain ⟨q, rfl⟩ : ∃ q, p = q + 1 := ⟨p - 1, by omega⟩
      have e1 : ((q + 1 : Nat) : Int) - 1 = (q : Int) := by omega
      have hq0 : (0 : Int) ≤ (q : Int) := by omega
      have hq1 : (q : Int) < 64 := by omega
      rw [e1]
      obtain ⟨⟨a0, a1, a2⟩, -⟩ := box_cells HI.out.1
      have k1 := kM wr _ _ (n / 2 ^ (q + 1)) (n / 2 ^ (q + 1)) HI.out.2.2.2.2.1 HI.out.2.2.2.1 HI.out.2.2.2.1 (by have := two_half n q; have := Nat.div_le_self n (2 ^ q); omega)
      go_wp2_with fail
      refine k1.mono ?_
      rintro r w3 ⟨s1, ao1, m1, cap1, e2, rfl, hp1, hb1⟩
      have HB3 : Hid (Below wr.heap.size wr w3) := hb1
      have HI3 : Hid (RdP w g (P 1) (P (n / 2 ^ (q + 1) + n / 2 ^ (q + 1))) s0 ao0 m0 c0 e0 (((w3.setCell ⟨g, 0, none⟩ (.bool s1)).setCell ⟨g, 1, none⟩ (.slice ao1 m1 cap1)).setCell ⟨g, 2, none⟩ (.int .i64 e2)) s1 ao1 m1 cap1 e2) := HI.out.next hb1 hp1
      clear k1 a0 a1 a2
      obtain ⟨⟨a0, a1, a2⟩, f0, f1, f2⟩ := box_cells (box_later HI.out.1 hb1 HI.out.2.2.2.2.2.2)
      clear hp1 hb1 HI HB3
      go_upto_region 6 with fail
      obtain ⟨U, hU⟩ : ∃ U, U = (((w3.setCell ⟨g, 0, none⟩ (.bool s1)).setCell ⟨g, 1, none⟩ (.slice ao1 m1 cap1)).setCell ⟨g, 2, none⟩ (.int .i64 e2)) := ⟨_, rfl⟩
      rw [← hU] at HI3 ⊢
      clear hU a0 a1 a2 f0 f1 f2
      have hbit := bit_i64 (q := q) hn
      have h2 := two_half n q
      by_cases hodd : n / 2 ^ q % 2 = 1
      · rw [show (n / 2 ^ q % 2 == 1) = true by simp [hodd]] at hbit
        obtain ⟨⟨a0, a1, a2⟩, -⟩ := box_cells HI3.out.1
        obtain ⟨⟨b0, b1, b2⟩, -⟩ := box_cells HI3.out.2.1
        have k2 := kM U _ _ (n / 2 ^ (q + 1) + n / 2 ^ (q + 1)) 1 HI3.out.2.2.2.2.1 HI3.out.2.2.2.1 (hA.later HI3.out.2.2.2.2.1) (by have := Nat.div_le_self n (2 ^ q); omega)
        rw [show n / 2 ^ (q + 1) + n / 2 ^ (q + 1) + 1 = n / 2 ^ q by omega] at k2
        clear h2
        go_wp2_with fail
        refine k2.mono ?_
        rintro r w4 ⟨s3, ao3, m3, cap3, e3, rfl, hp4, hb4⟩
        have HI4 : Hid (RdP w g (P 1) (P (n / 2 ^ q)) s0 ao0 m0 c0 e0 (((w4.setCell ⟨g, 0, none⟩ (.bool s3)).setCell ⟨g, 1, none⟩ (.slice ao3 m3 cap3)).setCell ⟨g, 2, none⟩ (.int .i64 e3)) s3 ao3 m3 cap3 e3) := HI3.out.next hb4 hp4
        clear k2 a0 a1 a2 b0 b1 b2
        obtain ⟨⟨a0, a1, a2⟩, f0, f1, f2⟩ := box_cells (box_later HI3.out.1 hb4 HI3.out.2.2.2.2.2.2)
        clear hp4 hb4 HI3 hbit hodd
        go_wp2_with fail
        exact ⟨⟨q, s3, ao3, m3, cap3, e3, by omega, rfl, HI4⟩, by simp [intOf]⟩
      · rw [show (n / 2 ^ q % 2 == 1) = false by simp [hodd]] at hbit
        rw [show n / 2 ^ (q + 1) + n / 2 ^ (q + 1) = n / 2 ^ q by omega] at HI3
        clear h2 hodd
        go_wp2_with fail
        exact ⟨⟨q, s1, ao1, m1, cap1, e2, by omega, rfl, HI3⟩, by simp [intOf]⟩
    · obtain rfl : p = 0 := by omega
      rw [Nat.pow_zero, Nat.div_one] at HI
      obtain ⟨⟨a0, a1, a2⟩, -⟩ := box_cells HI.out.1
      obtain ⟨⟨b0, b1, b2⟩, f0, f1, f2⟩ := box_cells HI.out.2.2.1
      go_wp2_with fail
      refine bodyPost_ret (results_cell_row rfl _ _ (w.heap.size + 1) 96 #[.bool s, .slice ao m cap, .int .i64 e] (0, 0) _ rfl (store3 _ _ _ HI.out.2.2.1) Tryz.underlying96 rfl Tryz.info96) rfl ?_
      exact ⟨s, ao, m, cap, e, rfl, pn_storeP HI.out.2.2.2.1 HI.out.2.2.1 _ _ _, below_store3 HI.out.2.2.2.2.1 (by omega) _ _ _⟩
def pw (t : Bool × Nat × Int) (n : Nat) : Bool × Nat × Int := if t.2.1 = 0 then (false, if n = 0 then 1 else 0, 0) else (t.1 && n % 2 == 1, t.2.1 ^ n, t.2.2 * n)
theorem pow_odd {x : Nat} (h : x % 2 = 1) (n : Nat) : x ^ n % 2 = 1 := by rw [Nat.pow_mod, h, Nat.one_pow]
theorem pw_mul {t : Bool × Nat × Int} (ho : t.2.1 ≠ 0 → t.2.1 % 2 = 1) (a b : Nat) : tM (pw t a) (pw t b) = pw t (a + b) := by
  unfold pw tM
  by_cases h0 : t.2.1 = 0
  · simp only [if_pos h0]
    by_cases ha : a = 0 <;> by_cases hb : b = 0 <;> simp [ha, hb, cn, tz_odd]
  · simp only [if_neg h0]
    rw [← Nat.pow_add, cn_odd (pow_odd (ho h0) _)]
    have h1 : (!((t.1 && a % 2 == 1) == (t.1 && b % 2 == 1))) = (t.1 && (a + b) % 2 == 1) := by
      cases t.1
      · rfl
      · rcases Nat.mod_two_eq_zero_or_one a with h | h <;> rcases Nat.mod_two_eq_zero_or_one b with h' | h' <;> rw [h, h', Nat.add_mod, h, h'] <;> rfl
    have h2 : t.2.2 * (a : Int) + t.2.2 * (b : Int) = t.2.2 * ((a + b : Nat) : Int) := by rw [← Int.mul_add]; rfl
    rw [h1, h2]
theorem pw_zero (t : Bool × Nat × Int) : pw t 0 = (false, 1, 0) := by
  unfold pw
  by_cases h0 : t.2.1 = 0 <;> simp [h0]
theorem pw_one {t : Bool × Nat × Int} (h : t.2.1 = 0 → t = (false, 0, 0)) : pw t 1 = t := by
  unfold pw
  by_cases h0 : t.2.1 = 0
  · rw [if_pos h0, h h0]; rfl
  · rw [if_neg h0]; simp
theorem pw_ltk {x n k : Nat} (h : x < 9007199254740992) (hp : 0 < n) (hk : 53 * n ≤ 32 * k) : x ^ n < B ^ k := by
  have h1 : x ^ n < (2 ^ 53) ^ n := Nat.pow_lt_pow_left (by omega) (by omega)
  refine Nat.lt_of_lt_of_le h1 ?_
  rw [← Nat.pow_mul, B_two, ← Nat.pow_mul]
  exact Nat.pow_le_pow_right (by decide) hk
theorem dlen_one1 : dlen 1 ≤ 1 := (dlen_le 1 1).2 (by decide)
theorem pw_ltd {x n k : Nat} (h : x < 9007199254740992) (hp : 0 < n) (hk : 53 * n ≤ 32 * k) : dlen (x ^ n) ≤ k := (dlen_le _ _).2 (pw_ltk h hp hk)
theorem pw_lt {x n : Nat} (h : x < 9007199254740992) (hn : n ≤ 1024) : dlen (x ^ n) ≤ 1696 := by
  rcases Nat.eq_zero_or_pos n with rfl | hp
  · rw [Nat.pow_zero]; exact Nat.le_trans dlen_one1 (by decide)
  · exact pw_ltd h hp (by omega)
theorem ok_mk {s : Bool} {x : Nat} {e : Int} (ho : x % 2 = 1) (hd : dlen x ≤ 2048) (h1 : -65536 ≤ e) (h2 : e ≤ 65536) : Ok (s, x, e) := by
  unfold Ok okN
  have hx : x ≠ 0 := by omega
  rw [if_neg (fun e0 => hx (dlen_eq_zero.1 e0))]
  have g1 : (dg x (dlen x - 1) != 0) = true := by simp; exact dg_top hx
  have g2 : (dg x 0 % 2 == 1) = true := by
    have : dg x 0 % 2 = 1 := by
      unfold dg
      simp only [Nat.pow_zero, Nat.div_one]
      unfold B
      omega
    simp [this]
  show (decide (dlen x ≤ 2048) && (dg x (dlen x - 1) != 0) && (dg x 0 % 2 == 1) && decide (-65536 ≤ e) && decide (e ≤ 65536)) = true
  rw [g1, g2]
  simp [hd, h1, h2]
theorem pw_ok {s : Bool} {x n : Nat} (ho : x ≠ 0 → x % 2 = 1) (h : x < 9007199254740992) (hn : n ≤ 1024) : Ok (pw (s, x, 0) n) := by
  unfold pw
  by_cases h0 : x = 0
  · rw [if_pos h0]
    by_cases hn0 : n = 0
    · rw [if_pos hn0]; exact ok_mk rfl (Nat.le_trans dlen_one1 (by decide)) (by decide) (by decide)
    · rw [if_neg hn0]; unfold Ok; rw [dlen_zero]; rfl
  · rw [if_neg h0]
    exact ok_mk (pow_odd (ho h0) n) (Nat.le_trans (pw_lt h hn) (by decide)) (by simp) (by simp)
end Go.Proofs.YtcoclopllbfjcaaGreatDoor
namespace Go.Proofs.YtcoclopllbfjcaaGreatDoor
set_option linter.unusedVariables false
set_option linter.unusedSimpArgs false
open Go.RowKit Go.Fl64
set_option maxRecDepth 200000 in
theorem spower_0 (a : Nat) (m : Int) (M E : Int) (s fi : Bool) (w : World)
    (kS : Calls Tryz.prog 98 #[.float .f64 a] w fun r w' => r = .returned (.tuple #[.int .u64 M, .int .i64 E, .bool s, .bool fi]) ∧ ∃ n, w' = w.drewN n) :
    Calls Tryz.prog 55 #[.float .f64 a, .int .i64 0, .int .i64 m] w fun r w' => r = .returned (.float .f64 4607182418800017408) ∧ Below w.heap.size w w' := by
  have k := kS
  clear kS
  go_enter Tryz.func55, Tryz.ntmps55
  go_wp2_with fail
  refine k.mono ?_
  rintro r w1 ⟨rfl, d, rfl⟩
  clear k
  go_wp2
  go_ret
  exact ⟨rfl, below_drewN (Below.refl _ _) _⟩
set_option maxRecDepth 200000 in
theorem spower_i (a : Nat) (n m : Int) (M E : Int) (s : Bool) (w : World) (hn : (n == 0) = false)
    (kS : Calls Tryz.prog 98 #[.float .f64 a] w fun r w' => r = .returned (.tuple #[.int .u64 M, .int .i64 E, .bool s, .bool false]) ∧ ∃ n, w' = w.drewN n) :
    Calls Tryz.prog 55 #[.float .f64 a, .int .i64 n, .int .i64 m] w fun r w' => r = .returned (.float .f64 a) ∧ Below w.heap.size w w' := by
  have k := kS
  clear kS
  go_enter Tryz.func55, Tryz.ntmps55
  go_wp2_with fail
  refine k.mono ?_
  rintro r w1 ⟨rfl, d, rfl⟩
  clear k
  go_wp2
  go_ret
  exact ⟨rfl, below_drewN (Below.refl _ _) _⟩
set_option maxRecDepth 200000 in
theorem spower_1 (a n M F : Nat) (m E K d0 d1 : Int) (s : Bool) (t p q : Bool × Nat × Int) (w : World) (hn0 : ((n : Int) == 0) = false) (hM : M < 18446744073709551616)
    (hd0 : (M : Int) % 4294967296 = d0) (hd1 : (M : Int) / 4294967296 = d1) (hE1 : -4000000 ≤ E) (hE2 : E ≤ 4000000) (hn : n ≤ 1024) (hK : max (-65536) (min (E * n) 65536) = K) (hEn : IntKind.i64.wrap (E * n) = E * n)
    (kS : Calls Tryz.prog 98 #[.float .f64 a] w fun r w' => r = .returned (.tuple #[.int .u64 M, .int .i64 E, .bool s, .bool true]) ∧ ∃ n, w' = w.drewN n)
    (kK : ∀ W g, Below w.heap.size w W → W.heap[g]? = some (.cells #[.int .u32 d0, .int .u32 d1] 85 (0, 0)) → Calls Tryz.prog 99 #[.bool s, .slice (some ⟨g, 0, none⟩) 2 2, .int .i64 0] W fun r w' => OutN8 W t r w')
    (kM : ∀ W X, Below w.heap.size w W → PN W X t → Calls Tryz.prog 101 #[X, .int .i64 n] W fun r w' => OutA W p r w')
    (kH : ∀ W X, Below w.heap.size w W → PN W X p → Calls Tryz.prog 100 #[X, .int .i64 K] W fun r w' => OutN8 W q r w')
    (kR : ∀ W X, Below w.heap.size w W → PN W X q → Calls Tryz.prog 102 #[X, .int .i64 m] W fun r w' => r = .returned (.tuple #[.float .f64 F, .int .i64 0]) ∧ Below W.heap.size W w') :
    Calls Tryz.prog 55 #[.float .f64 a, .int .i64 n, .int .i64 m] w fun r w' => r = .returned (.float .f64 F) ∧ Below w.heap.size w w' := by
  have k := kS
  clear kS
  go_enter Tryz.func55, Tryz.ntmps55
  go_wp2_with fail
  refine k.mono ?_
  rintro r w1 ⟨rfl, d, hd⟩
  have HB1 : Hid (Below w.heap.size w w1) := by rw [hd]; exact below_drewN (Below.refl _ _) _
  clear k hd
  obtain ⟨W, hW⟩ : ∃ W, W = w1.alloc (.cells #[.int .u32 d0, .int .u32 d1] 85) := ⟨_, rfl⟩
  have HBW : Hid (Below w.heap.size w W) := by rw [hW]; exact HB1.out.alloc HB1.out.size _
  have k1 := kK W w1.heap.size HBW.out (by rw [hW]; exact heap_alloc_new _ _)
  clear kK
  go_wp2_with fail
  rw [← hW]
  clear hW
  refine k1.mono ?_
  rintro r w2 ⟨s2, ao2, m2, cap2, e2, rfl, hp2, hb2⟩
  have HB2 : Hid (Below w.heap.size w w2) := HBW.out.trans (hb2.mono HBW.out.size)
  clear k1 hb2 HBW HB1
  obtain ⟨V, hV⟩ : ∃ V, V = w2.alloc (.cells #[.bool s2, .slice ao2 m2 cap2, .int .i64 e2] 96) := ⟨_, rfl⟩
  have HBV : Hid (Below w.heap.size w V) := by rw [hV]; exact HB2.out.alloc HB2.out.size _
  obtain ⟨⟨a0, a1, a2⟩, -⟩ := box_cells (w := V) (g := w2.heap.size) (by rw [hV]; exact heap_alloc_new _ _)
  have k2 := kM V _ HBV.out (hp2.later (by rw [hV]; exact (Below.refl _ _).alloc (Nat.le_refl _) _))
  clear kM hp2 HB2
  go_wp2_with fail
  rw [← hV]
  clear hV
  refine k2.mono ?_
  rintro r w3 ⟨s3, ao3, m3, cap3, e3, rfl, hp3, hb3⟩
  have HB3 : Hid (Below w.heap.size w w3) := HBV.out.trans (hb3.mono HBV.out.size)
  have k3 := kH w3 _ HB3.out hp3
  clear k2 kH hp3 hb3 HBV a0 a1 a2
  go_wp2_with fail
  refine k3.mono ?_
  rintro r w4 ⟨s4, ao4, m4, cap4, e4, rfl, hp4, hb4⟩
  have HB4 : Hid (Below w.heap.size w w4) := HB3.out.trans (hb4.mono HB3.out.size)
  obtain ⟨U, hU⟩ : ∃ U, U = w4.alloc (.cells #[.bool s4, .slice ao4 m4 cap4, .int .i64 e4] 96) := ⟨_, rfl⟩
  have HBU : Hid (Below w.heap.size w U) := by rw [hU]; exact HB4.out.alloc HB4.out.size _
  obtain ⟨⟨a0, a1, a2⟩, -⟩ := box_cells (w := U) (g := w4.heap.size) (by rw [hU]; exact heap_alloc_new _ _)
  have k4 := kR U _ HBU.out (hp4.later (by rw [hU]; exact (Below.refl _ _).alloc (Nat.le_refl _) _))
  clear k3 kR hp4 hb4 HB4 HB3
  go_wp2_with fail
  rw [← hU]
  clear hU
  refine k4.mono ?_
  rintro r w5 ⟨rfl, hb5⟩
  have HB5 : Hid (Below w.heap.size w w5) := HBU.out.trans (hb5.mono HBU.out.size)
  clear k4 hb5
  go_wp2_with fail
  go_ret
  exact ⟨rfl, HB5.out⟩
end Go.Proofs.YtcoclopllbfjcaaGreatDoor
namespace Go.Proofs.YtcoclopllbfjcaaGreatDoor
set_option linter.unusedVariables false
set_option linter.unusedSimpArgs false
open Go.RowKit Go.Fl64
theorem sM_odd {a m : Nat} (ha : a < 18446744073709551616) (hf : mag a < 9218868437227405312) (hm : Ie.sM a = (m : Int)) (h : m ≠ 0) : m % 2 = 1 ∧ m < 9007199254740992 := by
  unfold Ie.sM at hm
  rw [if_neg (by omega)] at hm
  by_cases h0 : mag a = 0
  · rw [if_pos h0] at hm; omega
  · rw [if_neg h0] at hm
    have hb := Ie.mant_bound a
    have hne := Ie.mant_ne h0
    have hct : Lib.ctz 64 (Ie.mant a) = tz (Ie.mant a) := tz_ctz hne (by omega)
    rw [hct] at hm
    have e1 : m = Ie.mant a / 2 ^ tz (Ie.mant a) := by
      have : ((Ie.mant a / 2 ^ tz (Ie.mant a) : Nat) : Int) = (m : Int) := by rw [← hm]; simp
      omega
    obtain ⟨h1, h2⟩ := tz_spec _ (Ie.mant a) (Nat.le_refl _) hne
    rw [← e1] at h2
    refine ⟨h2, ?_⟩
    have := Nat.div_le_self (Ie.mant a) (2 ^ tz (Ie.mant a))
    omega
theorem tfF_big {s : Bool} {x : Nat} {e e' m : Int} (h0 : x ≠ 0) (h1 : 1024 < (bl x : Int) + e) (h2 : 1024 < (bl x : Int) + e') (hm : 1 ≤ m ∧ m ≤ 3) : tfF s true x e m = tfF s true x e' m := by
  have hw : wyN s m = 0 ∨ wyN s m = 1 ∨ wyN s m = 2 := by unfold wyN; split <;> (try split) <;> simp
  rw [tf_bdy hm, tf_bdy hm, bdy_big h0 h1 hw, bdy_big h0 h2 hw]
theorem tfF_tiny {s : Bool} {x : Nat} {e e' m : Int} (h0 : x ≠ 0) (h1 : (bl x : Int) + e < -1075) (h2 : (bl x : Int) + e' < -1075) (hm : 1 ≤ m ∧ m ≤ 3) : tfF s true x e m = tfF s true x e' m := by
  have hw : wyN s m = 0 ∨ wyN s m = 1 ∨ wyN s m = 2 := by unfold wyN; split <;> (try split) <;> simp
  rw [tf_bdy hm, tf_bdy hm, bdy_tiny h0 h1 hw, bdy_tiny h0 h2 hw]
theorem tfF_nought {s : Bool} {e m : Int} (hm : 1 ≤ m ∧ m ≤ 3) : tfF s true 0 e m = sig s 0 := by
  rw [tf_bdy hm]; unfold bdy; rw [if_pos rfl]
def pwF (a n : Nat) (m : Int) : Nat := if n = 0 then 4607182418800017408 else if fin a then toD (pw (tF a) n) m else a
theorem pw_clamp {s : Bool} {x n : Nat} {E K m : Int} (ho : x ≠ 0 → x % 2 = 1) (hx : x < 9007199254740992) (hn1 : 1 ≤ n) (hn : n ≤ 1024) (hK : max (-65536) (min (E * n) 65536) = K) (hm : 1 ≤ m ∧ m ≤ 3) :
    tfF (tSh (pw (cn s x 0) n) K).1 true (tSh (pw (cn s x 0) n) K).2.1 (tSh (pw (cn s x 0) n) K).2.2 m = toD (pw (cn s x E) n) m := by
  by_cases h0 : x = 0
  · subst h0
    have e1 : pw (cn s 0 0) n = (false, 0, 0) := by unfold pw cn; simp; omega
    have e2 : pw (cn s 0 E) n = (false, 0, 0) := by unfold pw cn; simp; omega
    rw [e1, e2]
    show tfF false true 0 0 m = 0
    rw [tfF_nought hm]; rfl
  · rw [cn_odd (ho h0), cn_odd (ho h0)]
    have hp : x ^ n ≠ 0 := by have := pow_odd (ho h0) n; omega
    unfold pw toD tSh
    simp only [if_neg h0, if_neg hp]
    rw [show (0 : Int) * (n : Int) + K = K by omega]
    have hb := pw_lt hx hn
    have hb2 := bl_le_dlen (x ^ n)
    have hb3 := bl_ne hp
    by_cases hg : 65536 < E * n
    · exact tfF_big hp (by omega) (by omega) hm
    · by_cases hl : E * n < -65536
      · exact tfF_tiny hp (by omega) (by omega) hm
      · rw [show K = E * n by omega]
theorem spower {a n : Nat} {m : Int} {w : World} (ha : a < 18446744073709551616) (hn : n ≤ 1024) (hm : 1 ≤ m ∧ m ≤ 3) (hT : Tab32 w) (hJ : Ie.Tab w) :
    Calls Tryz.prog 55 #[.float .f64 a, .int .i64 n, .int .i64 m] w fun r w' => r = .returned (.float .f64 (pwF a n m)) ∧ Below w.heap.size w w' := by
  have kS := Ie.c22 a ha w hJ
  unfold pwF
  by_cases h0 : n = 0
  · subst h0
    rw [if_pos rfl]
    exact spower_0 a m _ _ _ _ w kS
  · rw [if_neg h0]
    have hn0 : ((n : Int) == 0) = false := by simp; omega
    by_cases hf : mag a < 9218868437227405312
    · rw [show fin a = true by unfold fin; simp [hf], if_pos rfl]
      obtain ⟨x, hx, hx64⟩ := sM_lt a ha
      have hso : Ie.sO a = true := by unfold Ie.sO; rw [if_neg (by omega)]
      have hsn : Ie.sN a = neg a := by unfold Ie.sN; rw [if_neg (by omega)]
      rw [hx, hso, hsn] at kS
      have ho : x ≠ 0 → x % 2 = 1 := fun h => (sM_odd ha hf hx h).1
      have hx53 : x < 9007199254740992 := by
        by_cases h : x = 0
        · omega
        · exact (sM_odd ha hf hx h).2
      obtain ⟨hE1, hE2⟩ := sE_le a
      obtain ⟨K, hK⟩ : ∃ K, max (-65536) (min (Ie.sE a * n) 65536) = K := ⟨_, rfl⟩
      have hT1 : cn (neg a) x (Ie.sE a) = tF a := cn_parts a x ha hf hx
      have hcn : cn (neg a) x 0 = (if x = 0 then (false, 0, 0) else (neg a, x, 0)) := by
        by_cases h : x = 0
        · rw [h]; rfl
        · rw [if_neg h, cn_odd (ho h)]
      have hok : ∀ k, k ≤ 1024 → Ok (pw (cn (neg a) x 0) k) := by
        intro k hk
        rw [hcn]
        by_cases h : x = 0
        · rw [if_pos h]; exact pw_ok (fun h => absurd rfl h) (by omega) hk
        · rw [if_neg h]; exact pw_ok ho hx53 hk
      have hodd : (cn (neg a) x 0).2.1 ≠ 0 → (cn (neg a) x 0).2.1 % 2 = 1 := by
        rw [hcn]
        by_cases h : x = 0
        · rw [if_pos h]; intro h; exact absurd rfl h
        · rw [if_neg h]; exact ho
      have hz : (cn (neg a) x 0).2.1 = 0 → cn (neg a) x 0 = (false, 0, 0) := by
        rw [hcn]
        by_cases h : x = 0
        · rw [if_pos h]; intro _; rfl
        · rw [if_neg h]; intro h'; exact absurd h' h
      have h22 : (pw (cn (neg a) x 0) n).2.2 = 0 := by
        rw [hcn]; unfold pw
        by_cases h : x = 0
        · rw [if_pos h]; rfl
        · rw [if_neg h]; simp [h]
      rw [← hT1, ← pw_clamp (s := neg a) ho hx53 (by omega) hn hK hm]
      have hbE : -4096000000 ≤ Ie.sE a * n ∧ Ie.sE a * n ≤ 4096000000 := by
        have h1 : (n : Int) ≤ 1024 := by omega
        have h2 : (0 : Int) ≤ n := by omega
        constructor
        · have := Int.mul_le_mul_of_nonneg_right hE1 h2; omega
        · have := Int.mul_le_mul_of_nonneg_right hE2 h2; omega
      refine spower_1 a n x _ m (Ie.sE a) K _ _ (neg a) (cn (neg a) x 0) (pw (cn (neg a) x 0) n) (tSh (pw (cn (neg a) x 0) n) K) w hn0 hx64 rfl rfl hE1 hE2 hn hK (by rw [IntKind.wrap_i64]; omega) kS ?_ ?_ ?_ ?_
      · intro W g hW hg
        have hcell : ∀ i, i < 2 → W.cell? ⟨g, 0 + i, none⟩ = some (.int .u32 (dg x i : Nat)) := by
          intro i hi
          rcases (show i = 0 ∨ i = 1 by omega) with rfl | rfl
          · rw [show (dg x 0 : Nat) = x % 4294967296 by unfold dg B; simp]
            simp [World.cell?, hg]
          · rw [show (dg x 1 : Nat) = x / 4294967296 by unfold dg B; rw [Nat.pow_one, Nat.mod_eq_of_lt (by omega)]]
            simp [World.cell?, hg]
        have hR : okR (neg a) x 0 = true := by
          by_cases h : x = 0
          · unfold okR; rw [if_pos h]
          · exact okR_odd (ho h) (by have := hok 1 (by omega); rw [pw_one hz, hcn, if_neg h] at this; exact this)
        have key : Calls Tryz.prog 99 #[.bool (neg a), .slice (some ⟨g, 0, none⟩) 2 2, .int .i64 0] W fun r w' => Mk25 W w' (neg a) x 0 r ∧ Below W.heap.size W w' := by
          by_cases h : x = 0
          · subst h
            exact c15_0 (neg a) (some ⟨g, 0, none⟩) 2 2 0 W ⟨g, 0, fun _ => rfl, hcell⟩ (by omega) (by omega)
          · exact c15_1 (neg a) g 0 2 2 x 0 W hcell ((dlen_le 2 x).2 (by unfold B; omega)) (by omega) (by omega) (by omega) h (by omega) (hT.later hW)
        refine key.mono ?_
        rintro r w' ⟨⟨-, A, rfl, hN⟩ | ⟨h, -⟩, hb⟩
        · have hp := hN.pn
          obtain ⟨s, ao, n, cap, e, rfl⟩ := hp.shape
          exact ⟨s, ao, n, cap, e, rfl, hp, hb⟩
        · rw [hR] at h; cases h
      · intro W X hW hX
        obtain ⟨s, ao, k, cap, e, rfl⟩ := hX.shape
        refine smult_1 (cn (neg a) x 0) (pw (cn (neg a) x 0)) n (bl n) s ao k cap e W hn rfl ((bl_le _ _).2 (by omega)) (by rw [pw_one hz]; exact hX) ?_ ?_ ?_
        · intro V hV
          refine (c12 (n := 1) ((hT.later hW).later hV) (by omega)).mono ?_
          rintro r w' ⟨A, rfl, hN, hb⟩
          have hp := hN.pn
          obtain ⟨s, ao, n, cap, e, rfl⟩ := hp.shape
          rw [show (decide ((1 : Int) < 0)) = false from rfl, show Int.natAbs 1 = 1 from rfl, cn_odd rfl] at hp
          rw [pw_zero]
          exact ⟨s, ao, n, cap, e, rfl, hp, hb⟩
        · intro V X Y i j hV hX hY hij
          have ho1 := hok (i + j) (by omega)
          rw [← pw_mul hodd] at ho1 ⊢
          refine (mul_op (hok i (by omega)) (hok j (by omega)) (by rw [okR_cn]; exact ho1) V X Y ((hT.later hW).later hV) hX hY).mono ?_
          rintro r w' ⟨s, ao, n, cap, e, rfl, hp, hb⟩
          exact ⟨s, ao, n, cap, e, rfl, hp, hb⟩
        · intro V
          exact c156 n (by omega) V
      · intro W X hW hX
        exact pshift (hok n hn) hX (by rw [h22]; omega) (by rw [h22]; omega)
      · intro W X hW hX
        exact pround (hT.later hW) (tSh_ok (hok n hn) (fun _ => by rw [h22]; omega)) hX hm
    · rw [show fin a = false by unfold fin; simp; omega]
      have hso : Ie.sO a = false := by unfold Ie.sO; rw [if_pos (by omega)]
      rw [hso] at kS
      exact spower_i a n m _ _ _ w hn0 kS
end Go.Proofs.YtcoclopllbfjcaaGreatDoor
namespace Go.Proofs.YtcoclopllbfjcaaGreatDoor
set_option linter.unusedVariables false
set_option linter.unusedSimpArgs false
open Go.RowKit Go.Fl64
set_option maxRecDepth 200000 in
theorem whole1W (w : World) : Calls Tryz.prog 104 #[.int .i64 1] w fun r w' => ∃ A, r = .returned A ∧ DN w' A (false, 1, 0) ∧ Below w.heap.size w w' := by
  have hnn : ¬ (1 : Int) < 0 := by omega
  have hwr : IntKind.u64.wrap 1 = ((1 : Nat) : Int) := by decide
  obtain ⟨W, hW⟩ : ∃ W, W = w.alloc (.cells #[.bool false, .slice none 0 0, .int .i64 0] 45) := ⟨_, rfl⟩
  have k34 := xnorm_two (ng := false) (m := 1) (e := 0) (W := W) (by omega) (by omega)
  have HB0 : Hid (Below w.heap.size w W ∧ W.heap[w.heap.size]? = some (.cells #[.bool false, .slice none 0 0, .int .i64 0] 45 (0, 0)) ∧ W.heap.size = w.heap.size + 1) := ⟨by rw [hW]; exact (Below.refl _ _).alloc (Nat.le_refl _) _, by rw [hW]; exact heap_alloc_new _ _, by rw [hW]; simp⟩
  rw [HB0.out.2.2] at k34
  go_enter Tryz.func104, Tryz.ntmps104
  go_wp2_with fail
  rw [← hW]
  clear hW
  refine k34.mono ?_
  rintro r w3 ⟨s, ao, n, cap, ex, rfl, hn, hb⟩
  have hs := HB0.out.2.2
  have HC3 : Hid (w3.heap[w.heap.size]? = some (.cells #[.bool false, .slice none 0 0, .int .i64 0] 45 (0, 0))) := box_later HB0.out.2.1 hb (by omega)
  obtain ⟨⟨a1, a2, a3⟩, a4, a5, a6⟩ := box_cells29 HC3.out
  have HN : Hid (NC w3 (w.heap.size + 1) (.agg #[.bool s, .slice ao n cap, .int .i64 ex]) false 1 0 ∧ Below (w.heap.size + 1) W w3) := ⟨hn.mono (by omega), hb⟩
  clear hn hb k34 hs
  go_wp2
  refine bodyPost_ret (results_cell_row rfl _ _ w.heap.size 45 #[.bool s, .slice ao n cap, .int .i64 ex] (0, 0) _ rfl (store3_29 _ _ _ HC3.out) Tryz.underlying45 rfl Tryz.info45) rfl ?_
  have hs := HB0.out.2.2
  have e : cn false 1 0 = (false, 1, 0) := by decide +kernel
  exact ⟨_, rfl, e ▸ (HN.out.1.store (by omega) _ _ _).dn, below_store3 (HB0.out.1.trans (HN.out.2.mono (by omega))) (Nat.le_refl _) _ _ _⟩
theorem fin_ofW {f : Nat} (hf : f < 18446744073709551616) (hn : isNaN f = false) (h1 : f ≠ 9218868437227405312) (h2 : f ≠ 18442240474082181120) : fin f = true := by
  unfold isNaN mag at hn
  unfold fin mag
  simp only [decide_eq_false_iff_not, decide_eq_true_eq] at hn ⊢
  omega
def Wd (t : Bool × Nat × Int) : Prop := dlen t.2.1 ≤ 2048 ∧ -2000000 ≤ t.2.2 ∧ t.2.2 ≤ 2000000 ∧ (t.2.1 ≠ 0 → t.2.1 % 2 = 1)
theorem times_wd {t1 t2 : Bool × Nat × Int} {X Y : Value} {w : World} (o1 : Wd t1) (o2 : Wd t2) (h1 : DN w X t1) (h2 : DN w Y t2) : Calls Tryz.prog 28 #[X, Y] w fun r w' => ∃ A, r = .returned A ∧ DN w' A (tM t1 t2) ∧ Below w.heap.size w w' := by
  obtain ⟨ao, cap, rfl, a1⟩ := h1
  obtain ⟨ao', cap', rfl, a2⟩ := h2
  obtain ⟨f1, f2, f3, -⟩ := o1
  obtain ⟨g1, g2, g3, -⟩ := o2
  exact (xtimes_1 t1.1 t2.1 _ ao ao' _ cap _ cap' t1.2.1 t2.2.1 t1.2.2 t2.2.2 w ⟨ao, cap, rfl, a1.le, a1.at_⟩ ⟨ao', cap', rfl, a2.le, a2.at_⟩ (by omega) (by omega) (by omega) (by omega) (by omega) (by omega) rfl).mono fun r w' ⟨A, e, h, hb⟩ => ⟨A, e, h.dn, hb⟩
theorem dtimesW {i j : Int} {t u : Bool × Nat × Int} {A B : Value} {w : World} (hi : -1 ≤ i ∧ i ≤ 1) (hj : -1 ≤ j ∧ j ≤ 1) (o1 : Wd t) (o2 : Wd u) (h1 : EN w A i t) (h2 : EN w B j u) :
    Calls Tryz.prog 38 #[A, B] w fun r w' => ∃ C, r = .returned C ∧ EN w' C (tmI i j t u) (tmT i j t u) ∧ Below w.heap.size w w' := by
  have h1' := h1
  have h2' := h2
  obtain ⟨sA, aoA, nA, capA, eA, rfl, d1⟩ := h1'
  obtain ⟨sB, aoB, nB, capB, eB, rfl, d2⟩ := h2'
  have ka : ∀ W, Below w.heap.size w W → _ := fun W hW => dsignE (h1.later hW)
  have kb : ∀ W, Below w.heap.size w W → _ := fun W hW => dsignE (h2.later hW)
  have hb := mul_b (sgE_b t hi) (sgE_b u hj)
  have hw : IntKind.i64.wrap (sgE i t * sgE j u) = sgE i t * sgE j u := by rw [IntKind.wrap_i64]; omega
  have zz : ∀ w' : World, EN w' (.agg #[.int .i64 0, .bool false, .slice none 0 0, .int .i64 0]) 0 (false, 0, 0) := fun w' => ⟨_, _, _, _, _, rfl, dn_nil _⟩
  unfold tmI tmT
  by_cases z1 : sgE i t = 0
  · rw [if_pos (.inl z1), if_pos (.inl z1)]
    exact (dtimes_z1 i j eA eB sA sB aoA aoB nA capA nB capB _ _ w ka kb z1).mono fun r w' ⟨e, h⟩ => ⟨_, e, zz _, h⟩
  by_cases z2 : sgE j u = 0
  · rw [if_pos (.inr z2), if_pos (.inr z2)]
    exact (dtimes_z2 i j eA eB sA sB aoA aoB nA capA nB capB _ _ w ka kb z1 z2).mono fun r w' ⟨e, h⟩ => ⟨_, e, zz _, h⟩
  have nz : ¬ (sgE i t = 0 ∨ sgE j u = 0) := by omega
  rw [if_neg nz, if_neg nz]
  by_cases i0 : i = 0
  · by_cases j0 : j = 0
    · rw [if_neg (by omega), if_neg (by omega)]
      exact dtimes_0 i j eA eB sA sB aoA aoB nA capA nB capB _ _ _ w ka kb (fun W hW => times_wd o1 o2 (d1.later hW) (d2.later hW)) z1 z2 i0 j0
    · rw [if_pos (.inr j0), if_pos (.inr j0)]
      exact (dtimes_i2 i j eA eB sA sB aoA aoB nA capA nB capB _ _ _ w ka kb z1 z2 hw j0 i0).mono fun r w' ⟨e, h⟩ => ⟨_, e, ⟨_, _, _, _, _, rfl, dn_nil _⟩, h⟩
  · rw [if_pos (.inl i0), if_pos (.inl i0)]
    exact (dtimes_i1 i j eA eB sA sB aoA aoB nA capA nB capB _ _ _ w ka kb z1 z2 hw i0).mono fun r w' ⟨e, h⟩ => ⟨_, e, ⟨_, _, _, _, _, rfl, dn_nil _⟩, h⟩
theorem dtoW {t : Bool × Nat × Int} {m : Int} (o : Wd t) (hm : 1 ≤ m ∧ m ≤ 3) {W : World} {A : Value} (h : DN W A t) : Calls Tryz.prog 66 #[A, .int .i64 m] W fun r w' => r = .returned (.float .f64 (toD t m)) ∧ Below W.heap.size W w' := by
  obtain ⟨f1, f2, f3, f5⟩ := o
  obtain ⟨ao, cap, rfl, hA⟩ := h
  unfold toD
  by_cases h0 : t.2.1 = 0
  · rw [if_pos h0, dlen_eq_zero.2 h0]
    exact rto_0 _ _ _ _ _ _
  · rw [if_neg h0, tf_bdy hm]
    exact rto hA.at_ hA.le (f5 h0) (by omega) (by omega) (by omega) hm
theorem dfloatW {i m : Int} {t : Bool × Nat × Int} {A : Value} {w : World} (o : Wd t) (hm : 1 ≤ m ∧ m ≤ 3) (h : EN w A i t) : Calls Tryz.prog 87 #[A, .int .i64 m] w fun r w' => r = .returned (.float .f64 (enF i t m)) ∧ Below w.heap.size w w' := by
  obtain ⟨s, ao, n, cap, e, rfl, hD⟩ := h
  unfold enF
  by_cases h0 : i = 0
  · subst h0
    rw [if_pos rfl]
    exact dfloat_0 m e s ao n cap _ _ w (fun W hW => dtoW o hm (hD.later hW)) (fun W => dpl _ (toD_lt hm) W)
  · rw [if_neg h0]
    by_cases h1 : 0 < i
    · rw [if_pos h1]
      exact dfloat_i i m e s ao n cap _ w (by simp [h0]) (fun W => cinf_ge i W h1)
    · rw [if_neg h1]
      exact dfloat_i i m e s ao n cap _ w (by simp [h0]) (fun W => cinf_le i W (by omega))
theorem dTightW {i j : Int} {t u : Bool × Nat × Int} {A B : Value} {w : World} (o1 : Wd t) (o2 : Wd u) (h1 : EN w A i t) (h2 : EN w B j u) :
    Calls Tryz.prog 39 #[A, B] w fun r w' => r = .returned (.agg #[.float .f64 (enF i t 1), .float .f64 (enF j u 3)]) ∧ Below w.heap.size w w' := by
  have h1' := h1
  have h2' := h2
  obtain ⟨sA, aoA, nA, capA, eA, rfl, d1⟩ := h1
  obtain ⟨sB, aoB, nB, capB, eB, rfl, d2⟩ := h2
  exact dTight_1 i j eA eB sA sB aoA aoB nA capA nB capB _ _ w (fun W hW => dfloatW o1 (by omega) (h1'.later hW)) (fun W hW => dfloatW o2 (by omega) (h2'.later hW))
def peI (i : Int) (n : Nat) : Int := if i = 0 ∨ n = 0 then 0 else if n % 2 = 0 then 1 else i
def peT (i : Int) (t : Bool × Nat × Int) (n : Nat) : Bool × Nat × Int := if i = 0 then pw t n else if n = 0 then (false, 1, 0) else (false, 0, 0)
theorem peI_0 (i : Int) : peI i 0 = 0 := by unfold peI; simp
theorem peI_n {i : Int} {n : Nat} (hi : i ≠ 0) (hn : n ≠ 0) : peI i n = if n % 2 = 0 then 1 else i := by unfold peI; rw [if_neg (by omega)]
theorem peI_b {i : Int} (h : -1 ≤ i ∧ i ≤ 1) (n : Nat) : -1 ≤ peI i n ∧ peI i n ≤ 1 := by
  unfold peI
  split
  · omega
  · split <;> omega
theorem wd_zero : Wd (false, 0, 0) := ⟨by rw [dlen_zero]; omega, by decide, by decide, fun h => absurd rfl h⟩
theorem wd_one : Wd (false, 1, 0) := ⟨Nat.le_trans dlen_one1 (by decide), by decide, by decide, fun _ => rfl⟩
theorem pw_wd {a n : Nat} (hn : n ≤ 1024) : Wd (pw (tF a) n) := by
  unfold pw
  by_cases h0 : (tF a).2.1 = 0
  · rw [if_pos h0]
    by_cases hn0 : n = 0
    · rw [if_pos hn0]; exact wd_one
    · rw [if_neg hn0]; exact wd_zero
  · rw [if_neg h0]
    obtain ⟨-, -, -, -, f5⟩ := (tF_ok a).facts
    have hb : (tF a).2.1 < 9007199254740992 ∧ -1074 ≤ (tF a).2.2 ∧ (tF a).2.2 ≤ 1025 := by
      refine ⟨?_, ?_⟩
      · unfold tF cn
        split
        · decide
        · have := Ie.mant_bound a
          exact Nat.lt_of_le_of_lt (Nat.div_le_self _ _) (by omega)
      · rcases tF_fits a with h | ⟨h1, h2, -⟩
        · exact absurd h h0
        · exact ⟨h1, h2⟩
    have h2 : (0 : Int) ≤ n := by omega
    have h1 := Int.mul_le_mul_of_nonneg_right hb.2.1 h2
    have h3 := Int.mul_le_mul_of_nonneg_right hb.2.2 h2
    exact ⟨Nat.le_trans (pw_lt hb.1 hn) (by decide), by show -2000000 ≤ (tF a).2.2 * (n : Int); omega, by show (tF a).2.2 * (n : Int) ≤ 2000000; omega, fun _ => pow_odd (f5 h0) n⟩
theorem pw_nz {t : Bool × Nat × Int} {n : Nat} : (pw t n).2.1 = 0 ↔ t.2.1 = 0 ∧ n ≠ 0 := by
  unfold pw
  by_cases h0 : t.2.1 = 0
  · rw [if_pos h0]; by_cases hn : n = 0 <;> simp [hn, h0]
  · rw [if_neg h0]; simp only [Nat.pow_eq_zero]
theorem sg_pw {t : Bool × Nat × Int} {n : Nat} : sgE 0 (pw t n) = 0 ↔ (pw t n).2.1 = 0 := by
  unfold sgE
  rw [if_pos rfl]
  by_cases h : (pw t n).2.1 = 0
  · simp [h]
  · rw [if_neg h]; constructor
    · intro h'; split at h' <;> omega
    · intro h'; exact absurd h' h
theorem tm_pw {t : Bool × Nat × Int} (ho : t.2.1 ≠ 0 → t.2.1 % 2 = 1) (a b : Nat) : tmI 0 0 (pw t a) (pw t b) = 0 ∧ tmT 0 0 (pw t a) (pw t b) = pw t (a + b) := by
  unfold tmI tmT
  by_cases h : sgE 0 (pw t a) = 0 ∨ sgE 0 (pw t b) = 0
  · rw [if_pos h, if_pos h]
    refine ⟨rfl, ?_⟩
    rw [sg_pw, sg_pw, pw_nz, pw_nz] at h
    unfold pw
    rw [if_pos (by omega), if_neg (by omega)]
  · rw [if_neg h, if_neg h, if_neg (by omega), if_neg (by omega)]
    exact ⟨rfl, pw_mul ho a b⟩
theorem tm_inf {i : Int} (hi : i = 1 ∨ i = -1) (t : Bool × Nat × Int) (a b : Nat) : tmI (peI i a) (peI i b) (peT i t a) (peT i t b) = peI i (a + b) ∧ tmT (peI i a) (peI i b) (peT i t a) (peT i t b) = peT i t (a + b) := by
  have hi0 : i ≠ 0 := by omega
  unfold peT
  simp only [if_neg hi0]
  by_cases ha : a = 0
  · subst ha
    by_cases hb : b = 0
    · subst hb
      rcases hi with rfl | rfl <;> decide +kernel
    · rw [if_pos rfl, if_neg hb, if_neg (show 0 + b ≠ 0 by omega), Nat.zero_add]
      rw [peI_0, peI_n hi0 hb]
      rcases hi with rfl | rfl <;> (split <;> decide)
  · by_cases hb : b = 0
    · subst hb
      rw [if_neg ha, if_pos rfl, if_neg (show a + 0 ≠ 0 by omega), Nat.add_zero]
      rw [peI_0, peI_n hi0 ha]
      rcases hi with rfl | rfl <;> (split <;> decide)
    · rw [if_neg ha, if_neg hb, if_neg (show a + b ≠ 0 by omega)]
      rw [peI_n hi0 ha, peI_n hi0 hb, peI_n hi0 (show a + b ≠ 0 by omega)]
      rcases hi with rfl | rfl <;> rcases Nat.mod_two_eq_zero_or_one a with h | h <;> rcases Nat.mod_two_eq_zero_or_one b with h' | h' <;> rw [Nat.add_mod, h, h'] <;> decide
theorem peT_wd (f : Nat) {k : Nat} (hk : k ≤ 1024) : Wd (peT (eI f) (eT f) k) := by
  unfold peT
  by_cases h0 : eI f = 0
  · rw [if_pos h0]; unfold eT; rw [if_pos h0]; exact pw_wd hk
  · rw [if_neg h0]; split
    · exact wd_one
    · exact wd_zero
theorem dpowerE {f n : Nat} {A : Value} {w : World} (hn : n ≤ 1024) (h : EN w A (eI f) (eT f)) :
    Calls Tryz.prog 57 #[A, .int .i64 n] w fun r w' => ∃ B, r = .returned B ∧ EN w' B (peI (eI f) n) (peT (eI f) (eT f) n) ∧ Below w.heap.size w w' := by
  have h' := h
  obtain ⟨s, ao, m, cap, e, rfl, -⟩ := h'
  have hz : (eT f).2.1 = 0 → eT f = (false, 0, 0) := (eT_ok f).facts.2.2.2.1
  have ho : (eT f).2.1 ≠ 0 → (eT f).2.1 % 2 = 1 := (eT_ok f).facts.2.2.2.2
  have hb := eI_b f
  have hwd : ∀ k, k ≤ 1024 → Wd (peT (eI f) (eT f) k) := fun k hk => peT_wd f hk
  refine (dpower_1 (fun k => (peI (eI f) k, peT (eI f) (eT f) k)) n (eI f) s ao m cap e w hn ?_ ?_ ?_ ?_).mono ?_
  · have e1 : peI (eI f) 1 = eI f := by unfold peI; by_cases h0 : eI f = 0 <;> simp [h0]
    have e2 : peT (eI f) (eT f) 1 = eT f := by
      unfold peT
      by_cases h0 : eI f = 0
      · rw [if_pos h0, pw_one hz]
      · rw [if_neg h0, if_neg (by decide)]; unfold eT; rw [if_neg h0]
    show EN w _ (peI (eI f) 1) (peT (eI f) (eT f) 1)
    rw [e1, e2]; exact h
  · show (peI (eI f) 0, peT (eI f) (eT f) 0) = _
    unfold peI peT
    rw [if_pos (.inr rfl), pw_zero]
    simp
  · intro W hW
    refine (whole1W W).mono ?_
    rintro r w' ⟨A, rfl, hD, hb⟩
    have hD' := hD
    obtain ⟨ao, cap, rfl, -⟩ := hD'
    exact ⟨_, _, _, _, _, rfl, hD, hb⟩
  · intro W X Y a b hW hX hY hab
    have key : tmI (peI (eI f) a) (peI (eI f) b) (peT (eI f) (eT f) a) (peT (eI f) (eT f) b) = peI (eI f) (a + b) ∧ tmT (peI (eI f) a) (peI (eI f) b) (peT (eI f) (eT f) a) (peT (eI f) (eT f) b) = peT (eI f) (eT f) (a + b) := by
      by_cases h0 : eI f = 0
      · unfold peI peT
        simp only [h0, true_or, if_true]
        exact tm_pw ho a b
      · exact tm_inf (by omega) _ a b
    refine (dtimesW (peI_b hb a) (peI_b hb b) (hwd a (by omega)) (hwd b (by omega)) hX hY).mono ?_
    rintro r w' ⟨C, rfl, hE, hb'⟩
    rw [key.1, key.2] at hE
    have hE' := hE
    obtain ⟨s, ao, m, cap, e, rfl, -⟩ := hE'
    exact ⟨_, _, _, _, _, _, rfl, hE, hb'⟩
  · rintro r w' ⟨i, s, ao, m, cap, e, rfl, hE, hb'⟩
    exact ⟨_, rfl, hE, hb'⟩
theorem enF_pow {f n : Nat} {m : Int} (hf : f < 18446744073709551616) (hnn : isNaN f = false) (hn : 1 ≤ n) (hm : 1 ≤ m ∧ m ≤ 3) (hi : f = 18442240474082181120 → n % 2 = 1) :
    enF (peI (eI f) n) (peT (eI f) (eT f) n) m = pl (pwF f n m) := by
  unfold pwF
  rw [if_neg (by omega)]
  by_cases h1 : f = 9218868437227405312
  · subst h1
    have e1 : eI 9218868437227405312 = 1 := rfl
    rw [e1]
    have e2 : peI 1 n = 1 := by unfold peI; rw [if_neg (by omega)]; split <;> rfl
    rw [e2]
    rfl
  · by_cases h2 : f = 18442240474082181120
    · have hp := hi h2
      subst h2
      have e1 : eI 18442240474082181120 = -1 := rfl
      rw [e1]
      have e2 : peI (-1) n = -1 := by unfold peI; rw [if_neg (by omega), if_neg (by omega)]
      rw [e2]
      rfl
    · have e1 : eI f = 0 := by unfold eI; rw [if_neg h1, if_neg h2]
      have hfin : fin f = true := fin_ofW hf hnn h1 h2
      rw [hfin, if_pos rfl, e1]
      have e2 : peI 0 n = 0 := by unfold peI; rw [if_pos (.inl rfl)]
      have e3 : peT 0 (eT f) n = pw (tF f) n := by unfold peT eT; rw [if_pos rfl, e1, if_pos rfl]
      rw [e2, e3]
      rfl
end Go.Proofs.YtcoclopllbfjcaaGreatDoor
namespace Go.Proofs.YtcoclopllbfjcaaGreatDoor
set_option linter.unusedVariables false
set_option linter.unusedSimpArgs false
open Go.RowKit Go.Fl64
attribute [local go_sem] run_store_flt
def pcX (a b n : Nat) : Nat := if n % 2 = 0 then mgX a b else a
def pcY (a b n : Nat) : Nat := if n % 2 = 0 then mgY a b else b
def pwX (a b n : Nat) : Nat := pl (pwF (pcX a b n) n 1)
def pwY (a b n : Nat) : Nat := pl (pwF (pcY a b n) n 3)
def pOk (a b : Nat) (n : Int) : Bool := vI a b && decide (0 ≤ n) && decide (n ≤ 1024)
theorem pwF_lt {f n : Nat} {m : Int} (hf : f < 18446744073709551616) (hm : 1 ≤ m ∧ m ≤ 3) : pwF f n m < 18446744073709551616 := by
  unfold pwF
  split
  · omega
  · split
    · exact toD_lt hm
    · exact hf
theorem mg_facts {a b : Nat} (ha : a < 18446744073709551616) (hb : b < 18446744073709551616) (h : vI a b = true) :
    mgX a b < 18446744073709551616 ∧ mgY a b < 18446744073709551616 ∧ isNaN (mgX a b) = false ∧ isNaN (mgY a b) = false ∧ mgX a b ≠ 18442240474082181120 ∧ mgY a b ≠ 18442240474082181120 := by
  obtain ⟨na, nb⟩ := vI_nn h
  unfold vI at h
  simp only [Bool.and_eq_true, decide_eq_true_eq] at h
  obtain ⟨⟨⟨⟨h1, h2⟩, h3⟩, h4⟩, h5⟩ := h
  have ai : a ≠ 9218868437227405312 := by rintro rfl; revert h2; decide
  have bi : b ≠ 18442240474082181120 := by rintro rfl; revert h3; decide
  have pln : ∀ x, isNaN x = false → isNaN (pl x) = false := fun x hx => by unfold pl; split; decide; exact hx
  have pli : ∀ x, x ≠ 18442240474082181120 → pl x ≠ 18442240474082181120 := fun x hx => by unfold pl; split; decide; exact hx
  have ngi : ∀ x, x < 18446744073709551616 → x ≠ 9218868437227405312 → ngt x ≠ 18442240474082181120 := fun x hx h0 => by
    unfold ngt neg
    split
    · rename_i hh; simp only [decide_eq_true_eq] at hh; omega
    · omega
  unfold mgX mgY
  by_cases c1 : le 0 a = true
  · rw [if_pos c1, if_pos c1]
    exact ⟨ha, hb, na, nb, by rintro rfl; revert c1; decide, bi⟩
  · rw [if_neg c1, if_neg c1]
    by_cases c2 : le b 0 = true
    · rw [if_pos c2, if_pos c2]
      exact ⟨pl_lt (ngt_lt hb), pl_lt (ngt_lt ha), pln _ (by rw [ngt_nan8 hb]; exact nb), pln _ (by rw [ngt_nan8 ha]; exact na), pli _ (ngi b hb (by rintro rfl; revert c2; decide)), pli _ (ngi a ha ai)⟩
    · rw [if_neg c2, if_neg c2]
      have fm : fMax (ngt a) b = ngt a ∨ fMax (ngt a) b = b := by
        unfold fMax
        split
        · exact .inr rfl
        · split
          · exact .inl rfl
          · split
            · exact .inr rfl
            · exact .inl rfl
      refine ⟨by omega, ?_, by decide, ?_, by decide, ?_⟩
      · rcases fm with e | e <;> rw [e]
        · exact ngt_lt ha
        · exact hb
      · rcases fm with e | e <;> rw [e]
        · rw [ngt_nan8 ha]; exact na
        · exact nb
      · rcases fm with e | e <;> rw [e]
        · exact ngi a ha ai
        · exact bi
theorem pc_facts {a b n : Nat} (ha : a < 18446744073709551616) (hb : b < 18446744073709551616) (h : vI a b = true) :
    pcX a b n < 18446744073709551616 ∧ pcY a b n < 18446744073709551616 ∧ isNaN (pcX a b n) = false ∧ isNaN (pcY a b n) = false ∧ (pcX a b n = 18442240474082181120 → n % 2 = 1) ∧ (pcY a b n = 18442240474082181120 → n % 2 = 1) := by
  obtain ⟨h1, h2, h3, h4, h5, h6⟩ := mg_facts ha hb h
  obtain ⟨na, nb⟩ := vI_nn h
  unfold pcX pcY
  rcases Nat.mod_two_eq_zero_or_one n with hp | hp
  · rw [if_pos hp, if_pos hp]
    exact ⟨h1, h2, h3, h4, fun h => absurd h h5, fun h => absurd h h6⟩
  · rw [if_neg (by omega), if_neg (by omega)]
    exact ⟨ha, hb, na, nb, fun _ => hp, fun _ => hp⟩
theorem spow (a b : Nat) (n : Int) (w : World) (ha : a < 18446744073709551616) (hb : b < 18446744073709551616) (hT : Tab32 w) (hJ : Ie.Tab w) :
    Calls Tryz.prog 14 #[.agg #[.float .f64 a, .float .f64 b], .int .i64 n] w fun r w' => r = .returned (.tuple #[.agg #[.float .f64 (if pOk a b n then pwX a b n.toNat else 0), .float .f64 (if pOk a b n then pwY a b n.toNat else 0)], .int .i64 (if pOk a b n then 0 else 1)]) ∧ Below w.heap.size w w' := by
  by_cases hok : pOk a b n = true
  · rw [hok]
    unfold pOk at hok
    simp only [Bool.and_eq_true, decide_eq_true_eq] at hok
    obtain ⟨⟨hv, h0⟩, h1⟩ := hok
    obtain ⟨k, rfl⟩ : ∃ k : Nat, n = (k : Int) := ⟨n.toNat, by omega⟩
    rw [Int.toNat_natCast]
    obtain ⟨f1, f2, f3, f4, f5, f6⟩ := pc_facts (n := k) ha hb hv
    obtain ⟨na, nb⟩ := vI_nn hv
    refine spow_1 a b (pcX a b k) (pcY a b k) k (pwF (pcX a b k) k 1) (pwF (pcY a b k) k 3) (pwX a b k) (pwY a b k) w (by omega) (fun W => by have := svalid a b ha hb W; rw [hv] at this; exact this) ?_ ?_ ?_ ?_ ?_
    · intro hp W hW
      unfold pcX pcY
      rw [if_pos hp, if_pos hp]
      exact smag a b W ha hb na nb
    · intro hp
      unfold pcX pcY
      rw [if_neg (by omega), if_neg (by omega)]
      exact ⟨rfl, rfl⟩
    · exact fun W hW => spower f1 (by omega) (by omega) (hT.later hW) (Tab.later hJ hW)
    · exact fun W hW => spower f2 (by omega) (by omega) (hT.later hW) (Tab.later hJ hW)
    · exact fun W hW => sbetween _ _ W (pwF_lt f1 (by omega)) (pwF_lt f2 (by omega))
  · have hok' : pOk a b n = false := by cases h : pOk a b n <;> simp_all
    rw [hok']
    refine spow_no a b n (vI a b) w ?_ (fun W => svalid a b ha hb W)
    unfold pOk at hok'
    cases hv : vI a b
    · exact .inl rfl
    · rw [hv] at hok'
      by_cases h0 : n < 0
      · exact .inr (.inl h0)
      · refine .inr (.inr ?_)
        rw [decide_eq_true (show 0 ≤ n by omega)] at hok'
        simp at hok'
        omega
theorem dpow (a b : Nat) (n : Int) (w : World) (ha : a < 18446744073709551616) (hb : b < 18446744073709551616) :
    Calls Tryz.prog 15 #[.agg #[.float .f64 a, .float .f64 b], .int .i64 n] w fun r w' => r = .returned (.tuple #[.agg #[.float .f64 (if pOk a b n then pwX a b n.toNat else 0), .float .f64 (if pOk a b n then pwY a b n.toNat else 0)], .int .i64 (if pOk a b n then 0 else 1)]) ∧ Below w.heap.size w w' := by
  by_cases hok : pOk a b n = true
  · rw [hok]
    unfold pOk at hok
    simp only [Bool.and_eq_true, decide_eq_true_eq] at hok
    obtain ⟨⟨hv, h0⟩, h1⟩ := hok
    obtain ⟨k, rfl⟩ : ∃ k : Nat, n = (k : Int) := ⟨n.toNat, by omega⟩
    rw [Int.toNat_natCast]
    obtain ⟨f1, f2, f3, f4, f5, f6⟩ := pc_facts (n := k) ha hb hv
    have kv : ∀ W, Calls Tryz.prog 19 #[.agg #[.float .f64 a, .float .f64 b]] W fun r w' => r = .returned (.bool true) ∧ Below W.heap.size W w' := fun W => by have := d8valid a b ha hb W; rw [hv] at this; exact this
    by_cases hk : k = 0
    · subst hk
      exact dpow_0 a b w kv
    · have e1 := enF_pow f1 f3 (show 1 ≤ k by omega) (show 1 ≤ (1 : Int) ∧ (1 : Int) ≤ 3 by omega) f5
      have e2 := enF_pow f2 f4 (show 1 ≤ k by omega) (show 1 ≤ (3 : Int) ∧ (3 : Int) ≤ 3 by omega) f6
      refine dpow_1 a b (pcX a b k) (pcY a b k) k (pwX a b k) (pwY a b k) (eI (pcX a b k)) (peI (eI (pcX a b k)) k) (eI (pcY a b k)) (peI (eI (pcY a b k)) k) (eT (pcX a b k)) (peT (eI (pcX a b k)) (eT (pcX a b k)) k) (eT (pcY a b k)) (peT (eI (pcY a b k)) (eT (pcY a b k)) k) w (by omega) hk kv ?_ ?_ ?_ ?_ ?_ ?_ ?_
      · intro hp W hW
        unfold pcX pcY
        rw [if_pos hp, if_pos hp]
        have := dabs8 a b W ha hb
        rw [hv] at this
        exact this
      · intro hp
        unfold pcX pcY
        rw [if_neg (by omega), if_neg (by omega)]
        exact ⟨rfl, rfl⟩
      · exact fun W hW => dend _ f1 f3 W
      · exact fun W X hW hX => dpowerE (by omega) hX
      · exact fun W hW => dend _ f2 f4 W
      · exact fun W X hW hX => dpowerE (by omega) hX
      · intro W X Y hW hX hY
        have k := dTightW (peT_wd _ (by omega)) (peT_wd _ (by omega)) hX hY
        rw [e1, e2] at k
        exact k
  · have hok' : pOk a b n = false := by cases h : pOk a b n <;> simp_all
    rw [hok']
    refine dpow_no a b n (vI a b) w ?_ (fun W => d8valid a b ha hb W)
    unfold pOk at hok'
    cases hv : vI a b
    · exact .inl rfl
    · rw [hv] at hok'
      by_cases h0 : n < 0
      · exact .inr (.inl h0)
      · refine .inr (.inr ?_)
        rw [decide_eq_true (show 0 ≤ n by omega)] at hok'
        simp at hok'
        omega
theorem tfF_pl {ex : Bool} {x : Nat} {e m : Int} (hm : 1 ≤ m ∧ m ≤ 3) : pl (tfF false ex x e m) = tfF false ex x e m := by
  have h : tfF false ex x e m < 9223372036854775808 := by
    unfold tfF Ie.mk
    rw [if_pos (by omega)]
    unfold sig
    rw [if_neg (by decide)]
    split
    · omega
    · rename_i h0
      have := Ie.bod_bounds (tfM ex x) (e + (tfD x : Int)) (Ie.wy false m) (tfM_lt ex x) h0
      generalize Ie.bod (tfM ex x) (e + (tfD x : Int)) (Ie.wy false m) = z at *
      omega
  unfold pl
  rw [if_neg (by omega)]
theorem join_root8 (t : Bool × Nat × Int) (m : Int) (ok : Ok t) (hs : t.1 = false) (hm : 1 ≤ m ∧ m ≤ 3) :
    ∃ F, pl F = F ∧ F < 18446744073709551616 ∧ (t.2.1 = 0 → F = 0) ∧
      (∀ W X, Tab32 W → PN W X t → Calls Tryz.prog 105 #[X, .int .i64 m] W fun r w' => r = .returned (.tuple #[.float .f64 F, .int .i64 0]) ∧ Below W.heap.size W w') ∧
      (t.2.1 ≠ 0 → ∀ W X, DN W X t → Calls Tryz.prog 59 #[X, .int .i64 m] W fun r w' => r = .returned (.float .f64 F) ∧ Below W.heap.size W w') := by
  obtain ⟨q, a1, a2⟩ := rootEx (t.2.1 * 2 ^ sqK t)
  refine ⟨tfF false (decide (q * q = t.2.1 * 2 ^ sqK t)) q ((t.2.2 - (sqK t : Int)).tdiv 2) m, tfF_pl hm, tfF_lt' hm, fun h0 => ?_, fun W X hT h => ?_, fun h0 W X h => ?_⟩
  · rw [h0, Nat.zero_mul] at a1 a2 ⊢
    have hq : q = 0 := by
      rcases Nat.eq_zero_or_pos q with h | h
      · exact h
      · have := Nat.mul_pos h h; omega
    subst hq
    rw [decide_eq_true (by rfl)]
    exact tf_zero hm
  · refine (psqrt hT ok h hs hm).mono ?_
    rintro r w' ⟨q', ⟨c1, c2⟩, rfl, hb⟩
    obtain rfl := root_only a1 a2 c1 c2
    exact ⟨rfl, hb⟩
  · obtain ⟨ao, cap, rfl, hA⟩ := h
    have f := ok.facts
    exact rsqrtto hA f.1 ⟨by omega, by omega⟩ h0 hm (sqK_even t) a1 a2 (sqK_big t)
theorem sq1 (a : Nat) (m : Int) (ha : a < 18446744073709551616) (hn : isNaN a = false) (hz : a ≠ 9223372036854775808) (hm : 1 ≤ m ∧ m ≤ 3) (hl : (FloatKind.f64.format.order a 0 == some Ordering.lt) = false) : ∃ F, pl F = F ∧ F < 18446744073709551616 ∧ (a = 9218868437227405312 → F = a) ∧
    (∀ W, Tab32 W → Ie.Tab W → Calls Tryz.prog 58 #[.float .f64 a, .int .i64 m] W fun r w' => r = .returned (.float .f64 F) ∧ Below W.heap.size W w') ∧
    (a ≠ 9218868437227405312 → ∀ W X, DN W X (tF a) → Calls Tryz.prog 59 #[X, .int .i64 m] W fun r w' => r = .returned (.float .f64 F) ∧ Below W.heap.size W w') := by
  have hl0 := hl
  rw [lt_nought ha, hn] at hl0
  have hmm : isM m = true := isM_iff.2 hm
  by_cases hp : pln a = true
  · obtain ⟨p1, p2⟩ := pln_true.1 hp
    have hng : neg a = false := by
      rw [decide_eq_true p2] at hl0
      simpa using hl0
    obtain ⟨F, e0, e1, -, e3, e4⟩ := join_root8 (tF a) m (tF_ok a) (tF_pos hng) hm
    refine ⟨F, e0, e1, fun h => ?_, fun W hT hJ => ?_, fun _ W X hX => e4 (tF_ne p2) W X hX⟩
    · subst h; exact absurd p1 (by decide)
    · exact psq_r a F m (tF a) W hmm hl (pplain_t a ha hp) (exact_ok a ha p1 W hT hJ) (fun V X hV hX => e3 V X (hT.later hV) hX)
  · have hp' : pln a = false := by cases h : pln a <;> simp_all
    have key : a = 9218868437227405312 ∨ a = 0 := by
      rcases pln_false.1 hp' with h | h
      · unfold isNaN at hn
        simp only [decide_eq_false_iff_not] at hn
        have hm2 : mag a = 9218868437227405312 := by omega
        rw [decide_eq_true (show mag a ≠ 0 by omega)] at hl0
        have hng : neg a = false := by simpa using hl0
        left
        unfold mag at hm2
        unfold neg at hng
        simp only [decide_eq_false_iff_not] at hng
        omega
      · right
        unfold mag at h
        omega
    refine ⟨a, by unfold pl; rw [if_neg hz], ha, fun _ => rfl, fun W hT hJ => psq_np a m W hmm hl (pplain_f a ha hp'), fun h W X hX => ?_⟩
    rcases key with h' | h'
    · exact absurd h' h
    · subst h'
      obtain ⟨ao, cap, rfl, hA⟩ := hX
      rw [show tF 0 = (false, 0, 0) by decide +kernel]
      have k := rsqrtto_0 false ao cap 0 m W
      rw [dlen_zero]
      exact k
theorem sqrt8 (a b : Nat) (ha : a < 18446744073709551616) (hb : b < 18446744073709551616) : ∃ (x y : Nat) (f : Int), x < 18446744073709551616 ∧ y < 18446744073709551616 ∧
    (∀ W, Tab32 W → Ie.Tab W → Calls Tryz.prog 16 #[.agg #[.float .f64 a, .float .f64 b]] W fun r w' => r = .returned (.tuple #[.agg #[.float .f64 x, .float .f64 y], .int .i64 f]) ∧ Below W.heap.size W w') ∧
    (∀ W, Calls Tryz.prog 17 #[.agg #[.float .f64 a, .float .f64 b]] W fun r w' => r = .returned (.tuple #[.agg #[.float .f64 x, .float .f64 y], .int .i64 f]) ∧ Below W.heap.size W w') := by
  by_cases hno : vI a b = true → (FloatKind.f64.format.order a 0 == some Ordering.lt) = true
  · exact ⟨0, 0, _, by omega, by omega, fun W _ _ => ssqrt_no a b (vI a b) W hno (fun V => svalid a b ha hb V), fun W => dsqrt8_no a b (vI a b) W hno (fun V => d8valid a b ha hb V)⟩
  · have hv : vI a b = true := by
      cases h : vI a b
      · exact absurd (fun h' => by rw [h] at h'; cases h') hno
      · rfl
    have hl : (FloatKind.f64.format.order a 0 == some Ordering.lt) = false := by
      cases h : (FloatKind.f64.format.order a 0 == some Ordering.lt)
      · rfl
      · exact absurd (fun _ => h) hno
    obtain ⟨na, nb⟩ := vI_nn hv
    have hv' := hv
    unfold vI at hv'
    simp only [Bool.and_eq_true, decide_eq_true_eq] at hv'
    obtain ⟨⟨⟨⟨g1, g2⟩, g3⟩, g4⟩, g5⟩ := hv'
    have ai : a ≠ 9218868437227405312 := by rintro rfl; revert g2; decide
    have hlb : (FloatKind.f64.format.order b 0 == some Ordering.lt) = false := by
      have o1 := ord_lt a 0 ha (by omega)
      have o2 := ord_lt b 0 hb (by omega)
      unfold le at g1
      simp only [Bool.and_eq_true, Bool.not_eq_true', decide_eq_true_eq] at g1
      rw [o1] at hl
      rw [o2]
      unfold lt at hl ⊢
      rw [na] at hl
      rw [nb]
      simp only [show isNaN 0 = false by decide, Bool.not_false, Bool.true_and, decide_eq_false_iff_not] at hl ⊢
      omega
    obtain ⟨p, p1, p2, p3, p4, p5⟩ := sq1 a 1 ha na g4 (by omega) hl
    obtain ⟨q, q1, q2, q3, q4, q5⟩ := sq1 b 3 hb nb g5 (by omega) hlb
    refine ⟨p, q, 0, p2, q2, fun W hT hJ => ?_, fun W => ?_⟩
    · exact ssqrt_1 a b p q p q W hl (fun V => by have := svalid a b ha hb V; rw [hv] at this; exact this) (fun V hV => p4 V (hT.later hV) (Tab.later hJ hV)) (fun V hV => q4 V (hT.later hV) (Tab.later hJ hV)) (fun V hV => by have := sbetween p q V p2 q2; rw [p1, q1] at this; exact this)
    · refine dsqrt8_1 a b p q (lt b 9218868437227405312) (tF a) (tF b) W hl (ord_lt b _ hb (by omega)) (fun V => by have := d8valid a b ha hb V; rw [hv] at this; exact this) (fun _ V hV => float_dn b hb V) (fun hlt V X hV hX => q5 (by rintro rfl; revert hlt; decide) V X hX) (fun hlt => ?_) (fun V hV => float_dn a ha V) (fun V X hV hX => p5 ai V X hX)
      by_cases hbi : b = 9218868437227405312
      · rw [q3 hbi, hbi]
      · exfalso
        have hf := fin_ofW hb nb hbi (by rintro rfl; revert g3; decide)
        unfold fin at hf
        simp only [decide_eq_true_eq] at hf
        unfold lt at hlt
        rw [nb] at hlt
        simp only [show isNaN 9218868437227405312 = false by decide, Bool.not_false, Bool.true_and, decide_eq_false_iff_not] at hlt
        have : stp b < stp 9218868437227405312 := by
          rw [show stp 9218868437227405312 = 9218868437227405312 by decide]
          unfold stp sgn
          split <;> omega
        omega
attribute [local go_sem] run_store_flt
set_option maxRecDepth 200000 in
theorem pows8_1 (a b x1 y1 x2 y2 : Nat) (n f1 f2 : Int) (w : World)
    (k1 : ∀ W, Below w.heap.size w W → Calls Tryz.prog 14 #[.agg #[.float .f64 a, .float .f64 b], .int .i64 n] W fun r w' => r = .returned (.tuple #[.agg #[.float .f64 x1, .float .f64 y1], .int .i64 f1]) ∧ Below W.heap.size W w')
    (k2 : ∀ W, Below w.heap.size w W → Calls Tryz.prog 15 #[.agg #[.float .f64 a, .float .f64 b], .int .i64 n] W fun r w' => r = .returned (.tuple #[.agg #[.float .f64 x1, .float .f64 y1], .int .i64 f1]) ∧ Below W.heap.size W w')
    (k3 : ∀ W, Below w.heap.size w W → Calls Tryz.prog 16 #[.agg #[.float .f64 a, .float .f64 b]] W fun r w' => r = .returned (.tuple #[.agg #[.float .f64 x2, .float .f64 y2], .int .i64 f2]) ∧ Below W.heap.size W w')
    (k4 : ∀ W, Below w.heap.size w W → Calls Tryz.prog 17 #[.agg #[.float .f64 a, .float .f64 b]] W fun r w' => r = .returned (.tuple #[.agg #[.float .f64 x2, .float .f64 y2], .int .i64 f2]) ∧ Below W.heap.size W w')
    (m1 : ∀ W, Below w.heap.size w W → Calls Tryz.prog 12 #[.agg #[.float .f64 x1, .float .f64 y1], .agg #[.float .f64 x1, .float .f64 y1]] W fun r w' => r = .returned (.bool true) ∧ Below W.heap.size W w')
    (m2 : ∀ W, Below w.heap.size w W → Calls Tryz.prog 12 #[.agg #[.float .f64 x2, .float .f64 y2], .agg #[.float .f64 x2, .float .f64 y2]] W fun r w' => r = .returned (.bool true) ∧ Below W.heap.size W w')
    (m3 : ∀ W, Below w.heap.size w W → Calls Tryz.prog 13 #[] W fun r w' => r = .returned (.bool true) ∧ Below W.heap.size W w') :
    Calls Tryz.prog 4 #[.agg #[.float .f64 a, .float .f64 b], .int .i64 n] w fun r w' => r = .returned (.bool true) ∧ Below w.heap.size w w' := by
  have fe1 : (f1 == f1) = true := by simp
  have fe2 : (f2 == f2) = true := by simp
  have Hk1 : Hid _ := k1
  have Hk2 : Hid _ := k2
  have Hk3 : Hid _ := k3
  have Hk4 : Hid _ := k4
  have Hm1 : Hid _ := m1
  have Hm2 : Hid _ := m2
  have Hm3 : Hid _ := m3
  obtain ⟨W, hW⟩ : ∃ W, W = (w.alloc (.cells #[.float .f64 a, .float .f64 b] 24)) := ⟨_, rfl⟩
  have HX : Hid (Below w.heap.size w W ∧ IvB W (w.heap.size) a b) := by
    rw [hW]
    exact ⟨bxs1_0 w a b, bxs1_1 w a b⟩
  have HK : Hid (∀ w', Below W.heap.size W w' → IvF w' (w.heap.size) a b) := fun w' hb => (HX.out.2).later hb
  have AW : Hid (Below w.heap.size w W) := HX.out.1
  have BW_W : Hid (Below W.heap.size W W) := Below.refl _ _
  clear k1 k2 k3 k4 m1 m2 m3
  go_enter Tryz.func4, Tryz.ntmps4
  go_upto_region 1 with fail
  rw [← hW]
  clear hW
  obtain ⟨c0, c1, z0, z1⟩ := HK.out W BW_W.out
  clear z0 z1
  have kk := Hk1.out W AW.out
  clear Hk1
  go_wp2_with fail
  clear c0 c1
  refine kk.mono ?_
  rintro r w1 ⟨rfl, hb⟩
  clear kk
  have Aw1 : Hid (Below w.heap.size w w1) := AW.out.trans (hb.mono AW.out.size)
  have BW_w1 : Hid (Below W.heap.size W w1) := BW_W.out.trans (hb.mono BW_W.out.size)
  clear hb AW BW_W 
  obtain ⟨V1, hV1⟩ : ∃ V, V = w1.alloc (.cells #[.float .f64 x1, .float .f64 y1] 24) := ⟨_, rfl⟩
  have AV1 : Hid (Below w.heap.size w V1) := by rw [hV1]; exact Aw1.out.alloc Aw1.out.size _
  have BW_V1 : Hid (Below W.heap.size W V1) := by rw [hV1]; exact BW_w1.out.alloc BW_w1.out.size _
  have XV1 : Hid (IvB V1 w1.heap.size x1 y1) := by rw [hV1]; exact IvB.new _ _ _
  have BV1_V1 : Hid (Below V1.heap.size V1 V1) := Below.refl _ _
  clear Aw1 BW_w1 
  obtain ⟨c0, c1, z0, z1⟩ := HK.out V1 BW_V1.out
  rw [hV1] at c0 c1
  clear z0 z1
  have kk := Hk2.out V1 AV1.out
  clear Hk2
  go_wp2_with fail
  rw [← hV1]
  clear hV1
  generalize hgV1 : w1.heap.size = gV1 at *
  clear hgV1
  clear c0 c1
  refine kk.mono ?_
  rintro r w2 ⟨rfl, hb⟩
  clear kk
  have Aw2 : Hid (Below w.heap.size w w2) := AV1.out.trans (hb.mono AV1.out.size)
  have BW_w2 : Hid (Below W.heap.size W w2) := BW_V1.out.trans (hb.mono BW_V1.out.size)
  have BV1_w2 : Hid (Below V1.heap.size V1 w2) := BV1_V1.out.trans (hb.mono BV1_V1.out.size)
  clear hb AV1 BW_V1 BV1_V1
  obtain ⟨V2, hV2⟩ : ∃ V, V = w2.alloc (.cells #[.float .f64 x1, .float .f64 y1] 24) := ⟨_, rfl⟩
  have AV2 : Hid (Below w.heap.size w V2) := by rw [hV2]; exact Aw2.out.alloc Aw2.out.size _
  have BW_V2 : Hid (Below W.heap.size W V2) := by rw [hV2]; exact BW_w2.out.alloc BW_w2.out.size _
  have XV2 : Hid (IvB V2 w2.heap.size x1 y1) := by rw [hV2]; exact IvB.new _ _ _
  have BV1_V2 : Hid (Below V1.heap.size V1 V2) := by rw [hV2]; exact BV1_w2.out.alloc BV1_w2.out.size _
  have BV2_V2 : Hid (Below V2.heap.size V2 V2) := Below.refl _ _
  clear Aw2 BW_w2 BV1_w2
  obtain ⟨c0, c1, z0, z1⟩ := HK.out V2 BW_V2.out
  rw [hV2] at c0 c1
  clear z0 z1
  have kk := Hk3.out V2 AV2.out
  clear Hk3
  go_wp2_with fail
  rw [← hV2]
  clear hV2
  generalize hgV2 : w2.heap.size = gV2 at *
  clear hgV2
  clear c0 c1
  refine kk.mono ?_
  rintro r w3 ⟨rfl, hb⟩
  clear kk
  have Aw3 : Hid (Below w.heap.size w w3) := AV2.out.trans (hb.mono AV2.out.size)
  have BW_w3 : Hid (Below W.heap.size W w3) := BW_V2.out.trans (hb.mono BW_V2.out.size)
  have BV1_w3 : Hid (Below V1.heap.size V1 w3) := BV1_V2.out.trans (hb.mono BV1_V2.out.size)
  have BV2_w3 : Hid (Below V2.heap.size V2 w3) := BV2_V2.out.trans (hb.mono BV2_V2.out.size)
  clear hb AV2 BW_V2 BV1_V2 BV2_V2
  obtain ⟨V3, hV3⟩ : ∃ V, V = w3.alloc (.cells #[.float .f64 x2, .float .f64 y2] 24) := ⟨_, rfl⟩
  have AV3 : Hid (Below w.heap.size w V3) := by rw [hV3]; exact Aw3.out.alloc Aw3.out.size _
  have BW_V3 : Hid (Below W.heap.size W V3) := by rw [hV3]; exact BW_w3.out.alloc BW_w3.out.size _
  have XV3 : Hid (IvB V3 w3.heap.size x2 y2) := by rw [hV3]; exact IvB.new _ _ _
  have BV1_V3 : Hid (Below V1.heap.size V1 V3) := by rw [hV3]; exact BV1_w3.out.alloc BV1_w3.out.size _
  have BV2_V3 : Hid (Below V2.heap.size V2 V3) := by rw [hV3]; exact BV2_w3.out.alloc BV2_w3.out.size _
  have BV3_V3 : Hid (Below V3.heap.size V3 V3) := Below.refl _ _
  clear Aw3 BW_w3 BV1_w3 BV2_w3
  obtain ⟨c0, c1, z0, z1⟩ := HK.out V3 BW_V3.out
  rw [hV3] at c0 c1
  clear z0 z1
  have kk := Hk4.out V3 AV3.out
  clear Hk4
  go_wp2_with fail
  rw [← hV3]
  clear hV3
  generalize hgV3 : w3.heap.size = gV3 at *
  clear hgV3
  clear c0 c1
  refine kk.mono ?_
  rintro r w4 ⟨rfl, hb⟩
  clear kk
  have Aw4 : Hid (Below w.heap.size w w4) := AV3.out.trans (hb.mono AV3.out.size)
  have BW_w4 : Hid (Below W.heap.size W w4) := BW_V3.out.trans (hb.mono BW_V3.out.size)
  have BV1_w4 : Hid (Below V1.heap.size V1 w4) := BV1_V3.out.trans (hb.mono BV1_V3.out.size)
  have BV2_w4 : Hid (Below V2.heap.size V2 w4) := BV2_V3.out.trans (hb.mono BV2_V3.out.size)
  have BV3_w4 : Hid (Below V3.heap.size V3 w4) := BV3_V3.out.trans (hb.mono BV3_V3.out.size)
  clear hb AV3 BW_V3 BV1_V3 BV2_V3 BV3_V3
  obtain ⟨V4, hV4⟩ : ∃ V, V = w4.alloc (.cells #[.float .f64 x2, .float .f64 y2] 24) := ⟨_, rfl⟩
  have AV4 : Hid (Below w.heap.size w V4) := by rw [hV4]; exact Aw4.out.alloc Aw4.out.size _
  have BW_V4 : Hid (Below W.heap.size W V4) := by rw [hV4]; exact BW_w4.out.alloc BW_w4.out.size _
  have XV4 : Hid (IvB V4 w4.heap.size x2 y2) := by rw [hV4]; exact IvB.new _ _ _
  have BV1_V4 : Hid (Below V1.heap.size V1 V4) := by rw [hV4]; exact BV1_w4.out.alloc BV1_w4.out.size _
  have BV2_V4 : Hid (Below V2.heap.size V2 V4) := by rw [hV4]; exact BV2_w4.out.alloc BV2_w4.out.size _
  have BV3_V4 : Hid (Below V3.heap.size V3 V4) := by rw [hV4]; exact BV3_w4.out.alloc BV3_w4.out.size _
  have BV4_V4 : Hid (Below V4.heap.size V4 V4) := Below.refl _ _
  clear Aw4 BW_w4 BV1_w4 BV2_w4 BV3_w4
  go_upto_region 5 with fail
  rw [← hV4]
  clear hV4
  generalize hgV4 : w4.heap.size = gV4 at *
  clear hgV4
  have HKK : Hid (∀ w', Below V4.heap.size V4 w' → w'.cell? ⟨w.heap.size, 0, none⟩ = some (.float .f64 a) ∧ w'.cell? ⟨w.heap.size, 1, none⟩ = some (.float .f64 b) ∧ w'.cell? ⟨gV1, 0, none⟩ = some (.float .f64 x1) ∧ w'.cell? ⟨gV1, 1, none⟩ = some (.float .f64 y1) ∧ w'.cell? ⟨gV2, 0, none⟩ = some (.float .f64 x1) ∧ w'.cell? ⟨gV2, 1, none⟩ = some (.float .f64 y1) ∧ w'.cell? ⟨gV3, 0, none⟩ = some (.float .f64 x2) ∧ w'.cell? ⟨gV3, 1, none⟩ = some (.float .f64 y2) ∧ w'.cell? ⟨gV4, 0, none⟩ = some (.float .f64 x2) ∧ w'.cell? ⟨gV4, 1, none⟩ = some (.float .f64 y2) ∧ Below V4.heap.size V4 w') := fun w' hb => ⟨(HK.out w' (BW_V4.out.trans (hb.mono BW_V4.out.size))).1, (HK.out w' (BW_V4.out.trans (hb.mono BW_V4.out.size))).2.1, (XV1.out.later (BV1_V4.out.trans (hb.mono BV1_V4.out.size))).1, (XV1.out.later (BV1_V4.out.trans (hb.mono BV1_V4.out.size))).2.1, (XV2.out.later (BV2_V4.out.trans (hb.mono BV2_V4.out.size))).1, (XV2.out.later (BV2_V4.out.trans (hb.mono BV2_V4.out.size))).2.1, (XV3.out.later (BV3_V4.out.trans (hb.mono BV3_V4.out.size))).1, (XV3.out.later (BV3_V4.out.trans (hb.mono BV3_V4.out.size))).2.1, (XV4.out.later (BV4_V4.out.trans (hb.mono BV4_V4.out.size))).1, (XV4.out.later (BV4_V4.out.trans (hb.mono BV4_V4.out.size))).2.1, hb⟩
  have hBR : Below V4.heap.size V4 V4.drew := (Below.refl _ _).drew
  have q1 : ∀ W, Below V4.heap.size V4 W → Calls Tryz.prog 12 #[.agg #[.float .f64 x1, .float .f64 y1], .agg #[.float .f64 x1, .float .f64 y1]] W fun r w' => r = .returned (.bool true) ∧ Below V4.heap.size V4 w' := fun W h => (Hm1.out W (AV4.out.trans (h.mono AV4.out.size))).mono fun r w' ⟨e1, e2⟩ => ⟨e1, h.trans (e2.mono h.size)⟩
  have q2 : ∀ W, Below V4.heap.size V4 W → Calls Tryz.prog 12 #[.agg #[.float .f64 x2, .float .f64 y2], .agg #[.float .f64 x2, .float .f64 y2]] W fun r w' => r = .returned (.bool true) ∧ Below V4.heap.size V4 w' := fun W h => (Hm2.out W (AV4.out.trans (h.mono AV4.out.size))).mono fun r w' ⟨e1, e2⟩ => ⟨e1, h.trans (e2.mono h.size)⟩
  have q3 : ∀ W, Below V4.heap.size V4 W → Calls Tryz.prog 13 #[] W fun r w' => r = .returned (.bool true) ∧ Below V4.heap.size V4 w' := fun W h => (Hm3.out W (AV4.out.trans (h.mono AV4.out.size))).mono fun r w' ⟨e1, e2⟩ => ⟨e1, h.trans (e2.mono h.size)⟩
  clear Hm1 Hm2 Hm3 XV1 BV1_V4 XV2 BV2_V4 XV3 BV3_V4 XV4 BV4_V4 HX HK BW_V4
  obtain ⟨a0, a1, a2, a3, a4, a5, a6, a7, a8, a9, -⟩ := HKK.out V4 (Below.refl _ _)
  have D0 : Hid (Below V4.heap.size V4 V4) := Below.refl _ _
  have kk := q1 V4 D0.out
  go_wp2_with fail
  refine kk.mono ?_
  rintro r z_1 ⟨rfl, hb⟩
  have D1 : Hid (Below V4.heap.size V4 z_1) := hb
  clear kk hb D0
  clear a0 a1 a2 a3 a4 a5 a6 a7 a8 a9
  obtain ⟨a0, a1, a2, a3, a4, a5, a6, a7, a8, a9, -⟩ := HKK.out z_1 D1.out
  have kk := q2 z_1 D1.out
  go_wp2_with fail
  refine kk.mono ?_
  rintro r z_2 ⟨rfl, hb⟩
  have D2 : Hid (Below V4.heap.size V4 z_2) := hb
  clear kk hb D1
  clear a0 a1 a2 a3 a4 a5 a6 a7 a8 a9
  obtain ⟨a0, a1, a2, a3, a4, a5, a6, a7, a8, a9, -⟩ := HKK.out z_2 D2.out
  have kk := q3 z_2 D2.out
  go_wp2_with fail
  refine kk.mono ?_
  rintro r wz ⟨rfl, hb⟩
  have D3 : Hid (Below V4.heap.size V4 wz) := hb
  clear kk hb D2
  clear a0 a1 a2 a3 a4 a5 a6 a7 a8 a9
  obtain ⟨a0, a1, a2, a3, a4, a5, a6, a7, a8, a9, -⟩ := HKK.out wz D3.out
  have hbz := D3.out
  have HF : Hid (Below w.heap.size w wz) := AV4.out.trans (hbz.mono AV4.out.size)
  clear q1 q2 q3 HKK hBR a0 a1 a2 a3 a4 a5 a6 a7 a8 a9 hbz
  go_wp2_with fail
  go_ret
  exact ⟨rfl, HF.out⟩
theorem pw_lt8 {a b : Nat} {n : Int} (ha : a < 18446744073709551616) (hb : b < 18446744073709551616) : (if pOk a b n then pwX a b n.toNat else 0) < 18446744073709551616 ∧ (if pOk a b n then pwY a b n.toNat else 0) < 18446744073709551616 := by
  cases h : pOk a b n
  · exact ⟨by rw [if_neg (by decide)]; omega, by rw [if_neg (by decide)]; omega⟩
  · have hv : vI a b = true := by
      unfold pOk at h
      simp only [Bool.and_eq_true] at h
      exact h.1.1
    obtain ⟨f1, f2, -⟩ := pc_facts (n := n.toNat) ha hb hv
    exact ⟨pl_lt (pwF_lt f1 (by omega)), pl_lt (pwF_lt f2 (by omega))⟩
theorem spanPowers_ok (a b : Nat) (n : Int) (w : World) (ha : a < 18446744073709551616) (hb : b < 18446744073709551616) (hT : Tab32 w) (hJ : Ie.Tab w) :
    Calls Tryz.prog 4 #[.agg #[.float .f64 a, .float .f64 b], .int .i64 n] w fun r w' => r = .returned (.bool true) ∧ Below w.heap.size w w' := by
  obtain ⟨x, y, f, hx, hy, k1, k2⟩ := sqrt8 a b ha hb
  obtain ⟨l1, l2⟩ := pw_lt8 (n := n) ha hb
  exact pows8_1 a b _ _ x y n _ f w
    (fun W h => spow a b n W ha hb (hT.later h) (Tab.later hJ h))
    (fun W _ => dpow a b n W ha hb)
    (fun W h => k1 W (hT.later h) (Tab.later hJ h))
    (fun W _ => k2 W)
    (fun W _ => isame _ _ l1 l2 W)
    (fun W _ => isame _ _ hx hy W)
    (fun W h => works8 W (hT.later h) (Tab.later hJ h))
end Go.Proofs.YtcoclopllbfjcaaGreatDoor
