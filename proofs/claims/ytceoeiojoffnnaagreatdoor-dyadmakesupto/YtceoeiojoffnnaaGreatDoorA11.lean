/- Own work: contracts of the program's functions, part A11. -/
import Derived.Test.YtceoeiojoffnnaaGreatDoorA9

/- Of, joined with Split. -/
namespace Go.Proofs.YtceoeiojoffnnaaGreatDoor
set_option linter.unusedVariables false
open Go.RowKit Go.Fl64

theorem sE_le (a : Nat) : -4000000 ≤ Ie.sE a ∧ Ie.sE a ≤ 4000000 := by
  unfold Ie.sE
  split
  · omega
  · split
    · omega
    · rename_i h1 h2
      have hm := Ie.mant_ne h2
      have hb := Ie.mant_bound a
      have hl := Ie.lp_bound a
      obtain ⟨_, hk⟩ := Lib.lowest_bit 64 (Ie.mant a) hm (by omega)
      omega

theorem k55_at (a : Nat) (ha : a < 18446744073709551616) (w : World) (hI : Ie.Tab w) :
    ∀ W, Below w.heap.size w W → Calls Tryz.prog 30 #[.float .f64 a] W fun r w' => r = .returned (.tuple #[.int .u64 (Ie.sM a), .int .i64 (Ie.sE a), .bool (Ie.sN a), .bool (Ie.sO a)]) ∧ ∃ n, w' = W.drewN n :=
  fun W hW => Ie.c22 a ha W (Tab.later hI hW)

/-- Of a finite number -/
theorem of_fin (a m : Nat) (ha : a < 18446744073709551616) (w : World) (hT : Tab32 w) (hI : Ie.Tab w) (hf : mag a < 9218868437227405312)
    (hm : Ie.sM a = (m : Int)) :
    Calls Tryz.prog 9 #[.float .f64 a] w fun r w' => ∃ A, r = .returned (.tuple #[A, .int .i64 0]) ∧ Nrm w' w.heap.size A (neg a) m (Ie.sE a) ∧ Below w.heap.size w w' := by
  have k := k55_at a ha w hI
  have hnn : (FloatKind.f64.format.order a a != some Ordering.eq) = false := by rw [self_ne a ha]; unfold isNaN; exact decide_eq_false (by omega)
  have hN : Ie.sN a = neg a := if_neg (by omega)
  have hO : Ie.sO a = true := if_neg (by omega)
  rw [hm, hN, hO] at k
  obtain ⟨m', h1, h2⟩ := sM_lt a ha
  have : m = m' := by omega
  exact c9_1 a m (Ie.sE a) (neg a) w hT (by omega) (sE_le a).1 (sE_le a).2 hnn k

/-- Of a NaN -/
theorem of_nan (a : Nat) (ha : a < 18446744073709551616) (w : World) (hI : Ie.Tab w) (hf : 9218868437227405312 < mag a) :
    Calls Tryz.prog 9 #[.float .f64 a] w fun r w' => r = .returned (.tuple #[.agg #[.bool false, .slice none 0 0, .int .i64 0], .int .i64 4]) ∧ Below w.heap.size w w' := by
  have k := k55_at a ha w hI
  have hnn : (FloatKind.f64.format.order a a != some Ordering.eq) = true := by rw [self_ne a ha]; unfold isNaN; exact decide_eq_true hf
  obtain ⟨m, h1, h2⟩ := sM_lt a ha
  rw [h1] at k
  exact c9_2 a m (Ie.sE a) (Ie.sN a) (Ie.sO a) w hnn k

/-- Of an infinity -/
theorem of_inf (a : Nat) (ha : a < 18446744073709551616) (w : World) (hI : Ie.Tab w) (hf : mag a = 9218868437227405312) :
    Calls Tryz.prog 9 #[.float .f64 a] w fun r w' => r = .returned (.tuple #[.agg #[.bool false, .slice none 0 0, .int .i64 0], .int .i64 5]) ∧ Below w.heap.size w w' := by
  have k := k55_at a ha w hI
  obtain ⟨m, h1, h2⟩ := sM_lt a ha
  have hnn : (FloatKind.f64.format.order a a != some Ordering.eq) = false := by rw [self_ne a ha]; unfold isNaN; exact decide_eq_false (by omega)
  have hO : Ie.sO a = false := if_pos (by omega)
  rw [h1, hO] at k
  exact c9_3 a m (Ie.sE a) (Ie.sN a) w hnn k
end Go.Proofs.YtceoeiojoffnnaaGreatDoor

/- toFloat, rounded and rootAt, joined. -/
namespace Go.Proofs.YtceoeiojoffnnaaGreatDoor
set_option linter.unusedVariables false
open Go.RowKit Go.Fl64

/-- how many binary digits toFloat leaves out -/
def tfD (x : Nat) : Nat := bl x - 64
/-- the digits that it keeps, the last one odd where something was left out -/
def tfM (exact : Bool) (x : Nat) : Nat := if exact && !(decide (tz x < tfD x)) then x / 2 ^ tfD x else x / 2 ^ tfD x ||| 1
/-- toFloat's answer -/
def tfF (neg exact : Bool) (x : Nat) (e mode : Int) : Nat := Ie.mk neg (tfM exact x) (e + (tfD x : Int)) mode 9221120237041090561

theorem bl_le_dlen (x : Nat) : bl x ≤ 32 * dlen x := by
  have h := (dlen_le (dlen x) x).1 (Nat.le_refl _)
  refine (bl_le x _).2 ?_
  rw [Nat.pow_mul]
  exact h

theorem dlen_div_tfD (x : Nat) : dlen (x / 2 ^ tfD x) ≤ 2 := by
  refine (dlen_le 2 _).2 ?_
  have h1 : x < 2 ^ (tfD x + 64) := Nat.lt_of_lt_of_le (lt_bl x) (Nat.pow_le_pow_right (by decide) (by unfold tfD; omega))
  have h2 : B ^ 2 = 2 ^ 64 := by unfold B; decide
  rw [h2]
  rw [Nat.pow_add] at h1
  exact Nat.div_lt_of_lt_mul h1

theorem c110 {neg exact : Bool} {v : Value} {x : Nat} {e mode : Int} {w : World} (hT : Tab32 w) (h : Is w v x) (hx : dlen x ≤ 1000000) (he1 : -4000000 ≤ e) (he2 : e ≤ 4000000) :
    Calls Tryz.prog 79 #[.bool neg, v, .int .i64 e, .bool exact, .int .i64 mode] w fun r w' => r = .returned (.float .f64 (tfF neg exact x e mode)) ∧ Below w.heap.size w w' := by
  have hz := dlen_div_tfD x
  have hbd := bl_le_dlen x
  by_cases hb : bl x ≤ 64
  · have hd : tfD x = 0 := by unfold tfD; omega
    have e1 : tfF neg exact x e mode = Ie.mk neg (if exact then x else x ||| 1) e mode 9221120237041090561 := by
      unfold tfF tfM
      rw [hd, Nat.pow_zero, Nat.div_one, decide_eq_false (Nat.not_lt_zero _), Bool.not_false, Bool.and_true]
      simp
    rw [hd, Nat.pow_zero, Nat.div_one] at hz
    rw [e1]
    exact c110_A neg exact v x (bl x) (dlen x) 0 e mode w h hz rfl (by omega) rfl hz he1 he2
  · have hx0 : x ≠ 0 := by
      intro h0
      apply hb
      rw [h0]
      decide
    exact c110_B neg exact v x (x / 2 ^ tfD x) (tfD x) (tz x) (dlen (x / 2 ^ tfD x)) e mode w hT h hx hx0 (show bl x = tfD x + 64 by unfold tfD; omega) (by unfold tfD; omega) (by unfold tfD; omega) rfl rfl hz rfl (tfM exact x) rfl he1 he2

theorem c106 {neg : Bool} {v : Value} {x : Nat} {e mode : Int} {w : World} (hT : Tab32 w) (h : Is w v x) (hx : dlen x ≤ 1000000) (he1 : -4000000 ≤ e) (he2 : e ≤ 4000000) :
    Calls Tryz.prog 49 #[NumV neg v e, .int .i64 mode] w fun r w' => r = .returned (.float .f64 (tfF neg true x e mode)) ∧ Below w.heap.size w w' := by
  have h' := h
  obtain ⟨ua, uc, rfl, -, -, -⟩ := h'
  exact c106_1 neg ua _ uc _ e mode w fun W hW => c110 (hT.later hW) (h.later hW) hx he1 he2

/-- the scaled number of which rootAt takes the root -/
def rtQ (x : Nat) (ea place : Int) : Nat := if 0 ≤ ea + 2 * place then x * 2 ^ (ea + 2 * place).toNat else x / 2 ^ (-(ea + 2 * place)).toNat

theorem c102 {neg : Bool} {u : Value} {x : Nat} {ea place : Int} {w : World} (h : Is w u x) (hx : dlen x ≤ 1000000) (hq : dlen (rtQ x ea place) ≤ 1000000) (he : -2000000 ≤ ea ∧ ea ≤ 2000000) (hp : -1000000 ≤ place ∧ place ≤ 1000000) :
    Calls Tryz.prog 57 #[NumV neg u ea, .int .i64 place] w fun r w' => ∃ v m, r = .returned (.tuple #[v, .bool (decide (0 ≤ ea + 2 * place ∨ x = 0) && decide (m * m = rtQ x ea place))]) ∧ Own w' w.heap.size v m ∧ m * m ≤ rtQ x ea place ∧ rtQ x ea place < (m + 1) * (m + 1) ∧ Below w.heap.size w w' := by
  have h' := h
  obtain ⟨ua, uc, rfl, -, -, -⟩ := h'
  exact c102_1 neg ua _ uc x _ _ ea place w hq hp.1 hp.2 fun W hW => c95 (h.later hW) hx he (by omega)
end Go.Proofs.YtceoeiojoffnnaaGreatDoor

/- mayBe of one and of three. -/
namespace Go.Proofs.YtceoeiojoffnnaaGreatDoor
set_option linter.unusedVariables false
set_option linter.unusedSimpArgs false
open Go.RowKit

theorem maybe1 {na : Bool} {ua : Option Addr} {uc x g : Nat} {ea : Int} {W : World} (hg : W.heap[g]? = some (.cells #[.bool na, .slice ua (dlen x) uc, .int .i64 ea] 25 (0, 0)))
    (h1 : Is W (.slice ua (dlen x) uc) x) (hx : dlen x ≤ 35184372088832) :
    Calls Tryz.prog 43 #[.slice (some ⟨g, 0, none⟩) 1 1] W fun r w' => r = .returned (.bool (okN na (dlen x) x ea)) ∧ Below W.heap.size W w' := by
  obtain ⟨ao1, c1, e1, -, -, a1⟩ := h1
  simp only [Value.slice.injEq] at e1
  obtain ⟨rfl, -, rfl⟩ := e1
  have k := c67 g 1 (fun _ => na) (fun _ => ua) (fun _ => dlen x) (fun _ => uc) (fun _ => x) (fun _ => ea) W (by omega)
    (fun i hi => by obtain rfl : i = 0 := by omega
                    simp [World.cell?, hg])
    (fun i hi => by obtain rfl : i = 0 := by omega
                    simp [World.cell?, hg])
    (fun i hi => by obtain rfl : i = 0 := by omega
                    simp [World.cell?, hg])
    (fun i hi => a1) (fun i hi => hx)
  refine k.mono ?_
  rintro r w' ⟨rfl, hb⟩
  refine ⟨congrArg Ending.returned (congrArg Value.bool ?_), hb⟩
  rw [Bool.eq_iff_iff]
  simp only [decide_eq_true_eq]
  exact ⟨fun h => h 0 (by omega), fun h i hi => h⟩

theorem maybe3 {na nb nc : Bool} {ua va wa : Option Addr} {uc vc wc x y z g : Nat} {ea eb ec : Int} {W : World} (hg : W.heap[g]? = some (.cells #[.bool na, .slice ua (dlen x) uc, .int .i64 ea, .bool nb, .slice va (dlen y) vc, .int .i64 eb, .bool nc, .slice wa (dlen z) wc, .int .i64 ec] 25 (0, 0)))
    (h1 : Is W (.slice ua (dlen x) uc) x) (h2 : Is W (.slice va (dlen y) vc) y) (h3 : Is W (.slice wa (dlen z) wc) z) (hx : dlen x ≤ 35184372088832) (hy : dlen y ≤ 35184372088832) (hz : dlen z ≤ 35184372088832) :
    Calls Tryz.prog 43 #[.slice (some ⟨g, 0, none⟩) 3 3] W fun r w' => r = .returned (.bool (okN na (dlen x) x ea && okN nb (dlen y) y eb && okN nc (dlen z) z ec)) ∧ Below W.heap.size W w' := by
  obtain ⟨ao1, c1, e1, -, -, a1⟩ := h1
  obtain ⟨ao2, c2, e2, -, -, a2⟩ := h2
  obtain ⟨ao3, c3, e3, -, -, a3⟩ := h3
  simp only [Value.slice.injEq] at e1 e2 e3
  obtain ⟨rfl, -, rfl⟩ := e1
  obtain ⟨rfl, -, rfl⟩ := e2
  obtain ⟨rfl, -, rfl⟩ := e3
  have k := c67 g 3 (fun i => if i = 0 then na else if i = 1 then nb else nc) (fun i => if i = 0 then ua else if i = 1 then va else wa) (fun i => if i = 0 then dlen x else if i = 1 then dlen y else dlen z) (fun i => if i = 0 then uc else if i = 1 then vc else wc) (fun i => if i = 0 then x else if i = 1 then y else z) (fun i => if i = 0 then ea else if i = 1 then eb else ec) W (by omega)
    (fun i hi => by rcases (show i = 0 ∨ i = 1 ∨ i = 2 by omega) with rfl | rfl | rfl <;> simp [World.cell?, hg])
    (fun i hi => by rcases (show i = 0 ∨ i = 1 ∨ i = 2 by omega) with rfl | rfl | rfl <;> simp [World.cell?, hg])
    (fun i hi => by rcases (show i = 0 ∨ i = 1 ∨ i = 2 by omega) with rfl | rfl | rfl <;> simp [World.cell?, hg])
    (fun i hi => by rcases (show i = 0 ∨ i = 1 ∨ i = 2 by omega) with rfl | rfl | rfl <;> simp <;> assumption)
    (fun i hi => by rcases (show i = 0 ∨ i = 1 ∨ i = 2 by omega) with rfl | rfl | rfl <;> simp <;> omega)
  refine k.mono ?_
  rintro r w' ⟨rfl, hb⟩
  refine ⟨congrArg Ending.returned (congrArg Value.bool ?_), hb⟩
  rw [Bool.eq_iff_iff]
  simp only [decide_eq_true_eq, Bool.and_eq_true]
  constructor
  · intro h
    have h0 := h 0 (by omega)
    have h1 := h 1 (by omega)
    have h2 := h 2 (by omega)
    simp at h0 h1 h2
    exact ⟨⟨h0, h1⟩, h2⟩
  · rintro ⟨⟨h0, h1⟩, h2⟩ i hi
    rcases (show i = 0 ∨ i = 1 ∨ i = 2 by omega) with rfl | rfl | rfl
    · simpa using h0
    · simpa using h1
    · simpa using h2
end Go.Proofs.YtceoeiojoffnnaaGreatDoor

/- Add and Up, refused. -/
namespace Go.Proofs.YtceoeiojoffnnaaGreatDoor
set_option linter.unusedVariables false
set_option linter.unusedSimpArgs false
open Go.RowKit

set_option maxRecDepth 200000 in
theorem c34_2 (na nb : Bool) (ua va : Option Addr) (un uc vn vc : Nat) (ea eb : Int) (w : World)
    (k67 : ∀ W g, Below w.heap.size w W → W.heap[g]? = some (.cells #[.bool na, .slice ua un uc, .int .i64 ea, .bool nb, .slice va vn vc, .int .i64 eb] 25 (0, 0)) → Calls Tryz.prog 43 #[.slice (some ⟨g, 0, none⟩) 2 2] W fun r w' => r = .returned (.bool false) ∧ Below W.heap.size W w') :
    Calls Tryz.prog 19 #[NumV na (.slice ua un uc) ea, NumV nb (.slice va vn vc) eb] w fun r w' => r = .returned (.tuple #[Nil, .int .i64 1]) ∧ Below w.heap.size w w' := by
  obtain ⟨W, hW⟩ : ∃ W, W = ((w.alloc (.cells #[.bool na, .slice ua un uc, .int .i64 ea] 25)).alloc (.cells #[.bool nb, .slice va vn vc, .int .i64 eb] 25)).alloc (.cells #[.bool false, .slice none 0 0, .int .i64 0] 25) := ⟨_, rfl⟩
  obtain ⟨hA, hBb, hC, hsz, hBW⟩ := boxes3 _ _ _ hW
  have hB4 : Below w.heap.size w (W.alloc (.cells #[.bool na, .slice ua un uc, .int .i64 ea, .bool nb, .slice va vn vc, .int .i64 eb] 25)) := hBW.alloc hBW.size _
  have k1 := k67 (W.alloc (.cells #[.bool na, .slice ua un uc, .int .i64 ea, .bool nb, .slice va vn vc, .int .i64 eb] 25)) (w.heap.size + 1 + 1 + 1) hB4 (by rw [← hsz]; exact heap_alloc_new _ _)
  have HH : Hid (W.heap[w.heap.size + 1 + 1]? = some (.cells #[.bool false, .slice none 0 0, .int .i64 0] 25 (0, 0)) ∧ W.heap.size = w.heap.size + 1 + 1 + 1 ∧ Below w.heap.size w W ∧ Below W.heap.size W (W.alloc (.cells #[.bool na, .slice ua un uc, .int .i64 ea, .bool nb, .slice va vn vc, .int .i64 eb] 25))) := ⟨hC, hsz, hBW, (Below.refl _ _).alloc (Nat.le_refl _) _⟩
  unfold NumV
  clear hA hBb hC hsz hBW hB4 k67
  go_enter Tryz.func19, Tryz.ntmps19
  go_wp2_with fail
  rw [← hW]
  clear hW
  refine k1.mono ?_
  rintro r w1 ⟨rfl, hB1⟩
  clear k1
  have hBW1 : Below W.heap.size W w1 := HH.out.2.2.2.trans (hB1.mono HH.out.2.2.2.size)
  have HC3 : Hid (w1.heap[w.heap.size + 1 + 1]? = some (.cells #[.bool false, .slice none 0 0, .int .i64 0] 25 (0, 0))) := box_later HH.out.1 hBW1 (by have := HH.out.2.1; omega)
  have HB1 : Hid (Below W.heap.size W w1) := hBW1
  obtain ⟨⟨x1, x2, x3⟩, x4, x5, x6⟩ := box_cells HC3.out
  clear hB1 hBW1
  go_wp2
  refine bodyPost_ret (results_cell_tmp_row rfl _ _ (w.heap.size + 1 + 1) 25 #[.bool false, .slice none 0 0, .int .i64 0] (0, 0) _ rfl (store3 _ _ _ HC3.out) Tryz.underlying25 rfl Tryz.info25) rfl ?_
  obtain ⟨b1, b2, b3, b4⟩ := HH.out
  exact ⟨rfl, below_store3 (b3.trans (HB1.out.mono b3.size)) (by omega) _ _ _⟩
end Go.Proofs.YtceoeiojoffnnaaGreatDoor

/- Up, refused. -/
namespace Go.Proofs.YtceoeiojoffnnaaGreatDoor
set_option linter.unusedVariables false
set_option linter.unusedSimpArgs false
open Go.RowKit

set_option maxRecDepth 200000 in
theorem c60_ref (na nb nc : Bool) (ua va wa : Option Addr) (un uc vn vc wn wc : Nat) (ea eb ec : Int) (w : World)
    (k67 : ∀ W g, Below w.heap.size w W → W.heap[g]? = some (.cells #[.bool na, .slice ua un uc, .int .i64 ea, .bool nb, .slice va vn vc, .int .i64 eb, .bool nc, .slice wa wn wc, .int .i64 ec] 25 (0, 0)) → Calls Tryz.prog 43 #[.slice (some ⟨g, 0, none⟩) 3 3] W fun r w' => r = .returned (.bool false) ∧ Below W.heap.size W w') :
    Calls Tryz.prog 35 #[NumV na (.slice ua un uc) ea, NumV nb (.slice va vn vc) eb, NumV nc (.slice wa wn wc) ec] w fun r w' => r = .returned (.tuple #[.float .f64 0, .int .i64 1]) ∧ Below w.heap.size w w' := by
  obtain ⟨W, hW⟩ : ∃ W, W = ((w.alloc (.cells #[.bool na, .slice ua un uc, .int .i64 ea] 25)).alloc (.cells #[.bool nb, .slice va vn vc, .int .i64 eb] 25)).alloc (.cells #[.bool nc, .slice wa wn wc, .int .i64 ec] 25) := ⟨_, rfl⟩
  obtain ⟨hA, hBb, hC, hsz, hBW⟩ := boxes3 _ _ _ hW
  have hB4 : Below w.heap.size w (W.alloc (.cells #[.bool na, .slice ua un uc, .int .i64 ea, .bool nb, .slice va vn vc, .int .i64 eb, .bool nc, .slice wa wn wc, .int .i64 ec] 25)) := hBW.alloc hBW.size _
  have k1 := k67 (W.alloc (.cells #[.bool na, .slice ua un uc, .int .i64 ea, .bool nb, .slice va vn vc, .int .i64 eb, .bool nc, .slice wa wn wc, .int .i64 ec] 25)) (w.heap.size + 1 + 1 + 1) hB4 (by rw [← hsz]; exact heap_alloc_new _ _)
  have HH : Hid (Below w.heap.size w (W.alloc (.cells #[.bool na, .slice ua un uc, .int .i64 ea, .bool nb, .slice va vn vc, .int .i64 eb, .bool nc, .slice wa wn wc, .int .i64 ec] 25))) := hB4
  unfold NumV
  clear hA hBb hC hsz hBW hB4 k67
  go_enter Tryz.func35, Tryz.ntmps35
  go_wp2_with fail
  rw [← hW]
  clear hW
  refine k1.mono ?_
  rintro r w1 ⟨rfl, hB1⟩
  clear k1
  have HB1 : Hid (Below w.heap.size w w1) := HH.out.trans (hB1.mono HH.out.size)
  clear hB1
  go_wp2
  refine bodyPost_ret (results_tmp2 rfl _ _ _) rfl ?_
  exact ⟨rfl, HB1.out⟩

/-- a root of a number below nought -/
theorem c60_dom (na nb nc : Bool) (ua va wa : Option Addr) (un uc vn vc wn wc : Nat) (ea eb ec : Int) (w : World) (hd : nb = true ∨ nc = true)
    (k67 : ∀ W g, Below w.heap.size w W → W.heap[g]? = some (.cells #[.bool na, .slice ua un uc, .int .i64 ea, .bool nb, .slice va vn vc, .int .i64 eb, .bool nc, .slice wa wn wc, .int .i64 ec] 25 (0, 0)) → Calls Tryz.prog 43 #[.slice (some ⟨g, 0, none⟩) 3 3] W fun r w' => r = .returned (.bool true) ∧ Below W.heap.size W w') :
    Calls Tryz.prog 35 #[NumV na (.slice ua un uc) ea, NumV nb (.slice va vn vc) eb, NumV nc (.slice wa wn wc) ec] w fun r w' => r = .returned (.tuple #[.float .f64 0, .int .i64 7]) ∧ Below w.heap.size w w' := by
  obtain ⟨W, hW⟩ : ∃ W, W = ((w.alloc (.cells #[.bool na, .slice ua un uc, .int .i64 ea] 25)).alloc (.cells #[.bool nb, .slice va vn vc, .int .i64 eb] 25)).alloc (.cells #[.bool nc, .slice wa wn wc, .int .i64 ec] 25) := ⟨_, rfl⟩
  obtain ⟨hA, hBb, hC, hsz, hBW⟩ := boxes3 _ _ _ hW
  have hB4 : Below w.heap.size w (W.alloc (.cells #[.bool na, .slice ua un uc, .int .i64 ea, .bool nb, .slice va vn vc, .int .i64 eb, .bool nc, .slice wa wn wc, .int .i64 ec] 25)) := hBW.alloc hBW.size _
  have k1 := k67 (W.alloc (.cells #[.bool na, .slice ua un uc, .int .i64 ea, .bool nb, .slice va vn vc, .int .i64 eb, .bool nc, .slice wa wn wc, .int .i64 ec] 25)) (w.heap.size + 1 + 1 + 1) hB4 (by rw [← hsz]; exact heap_alloc_new _ _)
  have HH : Hid (Below w.heap.size w W ∧ Below W.heap.size W (W.alloc (.cells #[.bool na, .slice ua un uc, .int .i64 ea, .bool nb, .slice va vn vc, .int .i64 eb, .bool nc, .slice wa wn wc, .int .i64 ec] 25)) ∧ W.heap.size = w.heap.size + 1 + 1 + 1 ∧ W.heap[w.heap.size + 1]? = some (.cells #[.bool nb, .slice va vn vc, .int .i64 eb] 25 (0, 0)) ∧ W.heap[w.heap.size + 1 + 1]? = some (.cells #[.bool nc, .slice wa wn wc, .int .i64 ec] 25 (0, 0))) := ⟨hBW, (Below.refl _ _).alloc (Nat.le_refl _) _, hsz, hBb, hC⟩
  have HD : Hid (nb = true ∨ nc = true) := hd
  unfold NumV
  clear hA hBb hC hsz hBW hB4 k67 hd
  go_enter Tryz.func35, Tryz.ntmps35
  go_wp2_with fail
  rw [← hW]
  clear hW
  refine k1.mono ?_
  rintro r w1 ⟨rfl, hB1⟩
  clear k1
  have HB1 : Hid (Below W.heap.size W w1) := HH.out.2.1.trans (hB1.mono HH.out.2.1.size)
  clear hB1
  obtain ⟨⟨b0, b1, b2⟩, -⟩ := box_cells (box_later HH.out.2.2.2.1 HB1.out (by have := HH.out.2.2.1; omega))
  obtain ⟨⟨c0, c1, c2⟩, -⟩ := box_cells (box_later HH.out.2.2.2.2 HB1.out (by have := HH.out.2.2.1; omega))
  cases nb
  · obtain rfl : nc = true := by rcases HD.out with h | h <;> simp_all
    go_wp2
    refine bodyPost_ret (results_tmp2 rfl _ _ _) rfl ?_
    exact ⟨rfl, HH.out.1.trans (HB1.out.mono HH.out.1.size)⟩
  · go_wp2
    refine bodyPost_ret (results_tmp2 rfl _ _ _) rfl ?_
    exact ⟨rfl, HH.out.1.trans (HB1.out.mono HH.out.1.size)⟩
end Go.Proofs.YtceoeiojoffnnaaGreatDoor
