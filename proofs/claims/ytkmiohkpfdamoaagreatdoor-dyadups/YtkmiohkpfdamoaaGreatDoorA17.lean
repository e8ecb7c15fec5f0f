/- Own work: contracts of the program's functions, part 17: VU2 RE1 RE3 RE4 VU3 UB5. -/
import Derived.Test.YtkmiohkpfdamoaaGreatDoorA16
import Derived.Test.YtkmiohkpfdamoaaGreatDoorA12
import Derived.Test.YtkmiohkpfdamoaaGreatDoorA10

set_option maxHeartbeats 16000000
namespace Go.Proofs.YtkmiohkpfdamoaaGreatDoor
set_option linter.unusedVariables false
set_option linter.unusedSimpArgs false
open Go.RowKit Go.Fl64
def agI (C P Q X : Int) : Int := if X - C < 0 then 1 else if (X - C) * (X - C) - (P + Q) < 0 then 1 else cmpI (4 * (P * Q)) (((X - C) * (X - C) - (P + Q)) * ((X - C) * (X - C) - (P + Q)))
theorem cmpI_gt {a b : Int} : 0 < cmpI a b ↔ b < a := by unfold cmpI; split <;> (try split) <;> omega
theorem cmpI_lt {a b : Int} : cmpI a b < 0 ↔ a < b := by unfold cmpI; split <;> (try split) <;> omega
theorem cmpI_eq {a b : Int} : cmpI a b = 0 ↔ a = b := by unfold cmpI; split <;> (try split) <;> omega
theorem agI_cases (C P Q X : Int) : (X - C < 0 ∧ agI C P Q X = 1) ∨ (0 ≤ X - C ∧ (X - C) * (X - C) - (P + Q) < 0 ∧ agI C P Q X = 1) ∨ (0 ≤ X - C ∧ 0 ≤ (X - C) * (X - C) - (P + Q) ∧ agI C P Q X = cmpI (4 * (P * Q)) (((X - C) * (X - C) - (P + Q)) * ((X - C) * (X - C) - (P + Q)))) := by
  unfold agI
  by_cases h1 : X - C < 0
  · exact .inl ⟨h1, if_pos h1⟩
  · right
    rw [if_neg h1]
    by_cases h2 : (X - C) * (X - C) - (P + Q) < 0
    · exact .inl ⟨by omega, h2, if_pos h2⟩
    · exact .inr ⟨by omega, by omega, if_neg h2⟩
theorem sq_le {a b : Int} (h0 : 0 ≤ a) (h : a ≤ b) : a * a ≤ b * b := Int.mul_le_mul h h h0 (by omega)
theorem sq_lt {a b : Int} (h0 : 0 ≤ a) (h : a < b) : a * a < b * b := by
  have h1 : a * a ≤ a * b := Int.mul_le_mul_of_nonneg_left (by omega) h0
  have h2 : a * b < b * b := Int.mul_lt_mul_of_pos_right h (by omega)
  omega
theorem agI_mono {C P Q X Y : Int} (h : X ≤ Y) (hp : 0 < agI C P Q Y) : 0 < agI C P Q X := by
  rcases agI_cases C P Q X with ⟨-, e⟩ | ⟨-, -, e⟩ | ⟨a1, a2, e⟩
  · omega
  · omega
  · rw [e, cmpI_gt]
    have hs := sq_le a1 (show X - C ≤ Y - C by omega)
    rcases agI_cases C P Q Y with ⟨b1, -⟩ | ⟨b1, b2, -⟩ | ⟨b1, b2, e'⟩
    · omega
    · omega
    · rw [e', cmpI_gt] at hp
      have := sq_le a2 (show (X - C) * (X - C) - (P + Q) ≤ (Y - C) * (Y - C) - (P + Q) by omega)
      omega
theorem agI_high {C P Q X a b : Int} (ha : 0 < a) (hb : 0 < b) (hP0 : 0 ≤ P) (hQ0 : 0 ≤ Q) (hP : P < a * a) (hQ : Q < b * b) (h : C + (a + b) ≤ X) : agI C P Q X < 0 := by
  have hd := sq_le (show (0 : Int) ≤ a + b by omega) (show a + b ≤ X - C by omega)
  have e1 : (a + b) * (a + b) = a * a + 2 * (a * b) + b * b := by rw [Int.add_mul, Int.mul_add, Int.mul_add, Int.mul_comm b a]; omega
  have hab : 0 < a * b := Int.mul_pos ha hb
  rcases agI_cases C P Q X with ⟨b1, -⟩ | ⟨b1, b2, -⟩ | ⟨b1, b2, e'⟩
  · omega
  · omega
  · rw [e', cmpI_lt]
    have h1 := sq_lt (show (0 : Int) ≤ 2 * (a * b) by omega) (show 2 * (a * b) < (X - C) * (X - C) - (P + Q) by omega)
    have h2 : P * Q ≤ (a * a) * (b * b) := Int.mul_le_mul (by omega) (by omega) hQ0 (Int.le_of_lt (Int.mul_pos ha ha))
    have e2 : 2 * (a * b) * (2 * (a * b)) = 4 * ((a * a) * (b * b)) := by grind
    omega
theorem agI_low {C P Q X a b : Int} (ha : 0 ≤ a) (hb : 0 ≤ b) (hP : a * a ≤ P) (hQ : b * b ≤ Q) (h : X < C + (a + b)) : 0 < agI C P Q X := by
  have e1 : (a + b) * (a + b) = a * a + 2 * (a * b) + b * b := by rw [Int.add_mul, Int.mul_add, Int.mul_add, Int.mul_comm b a]; omega
  have hab : 0 ≤ a * b := Int.mul_nonneg ha hb
  rcases agI_cases C P Q X with ⟨b1, e⟩ | ⟨b1, b2, e⟩ | ⟨b1, b2, e'⟩
  · omega
  · omega
  · have hd := sq_lt b1 (show X - C < a + b by omega)
    rw [e', cmpI_gt]
    have h1 := sq_lt b2 (show (X - C) * (X - C) - (P + Q) < 2 * (a * b) by omega)
    have h2 : (a * a) * (b * b) ≤ P * Q := Int.mul_le_mul hP hQ (Int.mul_nonneg hb hb) (by have := Int.mul_nonneg ha ha; omega)
    have e2 : 2 * (a * b) * (2 * (a * b)) = 4 * ((a * a) * (b * b)) := by grind
    omega
theorem agI_at {C P Q X a b : Int} (ha : 0 ≤ a) (hb : 0 ≤ b) (hP : a * a ≤ P) (hQ : b * b ≤ Q) (h : X ≤ C + (a + b)) : 0 ≤ agI C P Q X := by
  have e1 : (a + b) * (a + b) = a * a + 2 * (a * b) + b * b := by rw [Int.add_mul, Int.mul_add, Int.mul_add, Int.mul_comm b a]; omega
  have hab : 0 ≤ a * b := Int.mul_nonneg ha hb
  rcases agI_cases C P Q X with ⟨b1, e⟩ | ⟨b1, b2, e⟩ | ⟨b1, b2, e'⟩
  · omega
  · omega
  · have hd := sq_le b1 (show X - C ≤ a + b by omega)
    rw [e']
    have h1 := sq_le b2 (show (X - C) * (X - C) - (P + Q) ≤ 2 * (a * b) by omega)
    have h2 : (a * a) * (b * b) ≤ P * Q := Int.mul_le_mul hP hQ (Int.mul_nonneg hb hb) (by have := Int.mul_nonneg ha ha; omega)
    have e2 : 2 * (a * b) * (2 * (a * b)) = 4 * ((a * a) * (b * b)) := by grind
    apply Decidable.byContradiction
    intro hc
    have := cmpI_lt.1 (show cmpI (4 * (P * Q)) (((X - C) * (X - C) - (P + Q)) * ((X - C) * (X - C) - (P + Q))) < 0 by omega)
    omega
theorem agI_root {C P Q X a b : Int} (ha : 0 ≤ a) (hb : 0 ≤ b) (hP : a * a = P) (hQ : b * b = Q) : (C + (a + b) = X → agI C P Q X = 0) ∧ (C + (a + b) < X → agI C P Q X < 0) := by
  have e1 : (a + b) * (a + b) = a * a + 2 * (a * b) + b * b := by rw [Int.add_mul, Int.mul_add, Int.mul_add, Int.mul_comm b a]; omega
  have hab : 0 ≤ a * b := Int.mul_nonneg ha hb
  have e2 : 2 * (a * b) * (2 * (a * b)) = 4 * ((a * a) * (b * b)) := by grind
  have e3 : (a * a) * (b * b) = P * Q := by rw [hP, hQ]
  constructor
  · intro h
    have hd : X - C = a + b := by omega
    rcases agI_cases C P Q X with ⟨b1, e⟩ | ⟨b1, b2, e⟩ | ⟨b1, b2, e'⟩
    · omega
    · rw [hd] at b2; omega
    · rw [e', cmpI_eq, hd, show (a + b) * (a + b) - (P + Q) = 2 * (a * b) by omega]; omega
  · intro h
    have hd := sq_lt (show (0 : Int) ≤ a + b by omega) (show a + b < X - C by omega)
    rcases agI_cases C P Q X with ⟨b1, e⟩ | ⟨b1, b2, e⟩ | ⟨b1, b2, e'⟩
    · omega
    · omega
    · rw [e', cmpI_lt]
      have h1 := sq_lt (show (0 : Int) ≤ 2 * (a * b) by omega) (show 2 * (a * b) < (X - C) * (X - C) - (P + Q) by omega)
      omega
structure Bg (t : Bool × Nat × Int) (lo hi : Int) : Prop where
  cn : cn t.1 t.2.1 t.2.2 = t
  fits : Fits lo hi t.2.1 t.2.2
theorem cn_idem (s : Bool) (z : Nat) (e : Int) : Go.Proofs.YtkmiohkpfdamoaaGreatDoor.cn (cn s z e).1 (cn s z e).2.1 (cn s z e).2.2 = Go.Proofs.YtkmiohkpfdamoaaGreatDoor.cn s z e := by
  by_cases h0 : z = 0
  · subst h0; rfl
  · have h1 : Go.Proofs.YtkmiohkpfdamoaaGreatDoor.cn s z e = (s, z / 2 ^ tz z, e + tz z) := by unfold Go.Proofs.YtkmiohkpfdamoaaGreatDoor.cn; rw [if_neg h0]
    obtain ⟨p1, p2⟩ := tz_spec _ z (Nat.le_refl _) h0
    rw [h1]
    show Go.Proofs.YtkmiohkpfdamoaaGreatDoor.cn s (z / 2 ^ tz z) (e + tz z) = _
    generalize z / 2 ^ tz z = y at *
    unfold Go.Proofs.YtkmiohkpfdamoaaGreatDoor.cn
    rw [if_neg (by omega), tz_odd p2]
    simp
theorem Bg.bounds {t : Bool × Nat × Int} {lo hi : Int} (h : Bg t lo hi) (h1 : lo ≤ 0) (h2 : 0 ≤ hi) : lo ≤ t.2.2 ∧ t.2.2 ≤ hi := by
  rcases h.fits with h0 | ⟨a, b, -⟩
  · have e := h.cn
    unfold Go.Proofs.YtkmiohkpfdamoaaGreatDoor.cn at e
    rw [if_pos h0] at e
    rw [← e]
    exact ⟨h1, h2⟩
  · exact ⟨a, b⟩
theorem Fits.dlenG {lo hi : Int} {x : Nat} {e : Int} (h : Fits lo hi x e) {n : Nat} (hb : hi - lo ≤ 32 * n) : Go.Proofs.YtkmiohkpfdamoaaGreatDoor.dlen x ≤ n := by
  rcases h with rfl | ⟨h1, h2, h3⟩
  · rw [dlen_zero]; omega
  · refine (dlen_le _ _).2 (Nat.lt_of_lt_of_le h3 ?_)
    have hB : ∀ n, B ^ n = 2 ^ (32 * n) := fun n => by
      have : (B : Nat) = 2 ^ 32 := by decide
      rw [this, ← Nat.pow_mul]
    have hn : (hi - e).toNat ≤ 32 * n := by omega
    rw [hB]
    exact Nat.pow_le_pow_right (by omega) hn
theorem Bg.mono {t : Bool × Nat × Int} {lo hi lo' hi' : Int} (h : Bg t lo hi) (h1 : lo' ≤ lo) (h2 : hi ≤ hi') : Bg t lo' hi' := ⟨h.cn, h.fits.mono h1 h2⟩
theorem Ok.fits {t : Bool × Nat × Int} (h : Ok t) : Fits (-65536) 131072 t.2.1 t.2.2 := by
  obtain ⟨f1, f2, f3, -, -⟩ := h.facts
  refine .inr ⟨by omega, by omega, Nat.lt_of_lt_of_le ((dlen_le _ _).1 f1) ?_⟩
  have hB : ∀ n, B ^ n = 2 ^ (32 * n) := fun n => by
    have : (B : Nat) = 2 ^ 32 := by decide
    rw [this, ← Nat.pow_mul]
  have hn : 32 * 2048 ≤ (131072 - t.2.2).toNat := by omega
  generalize 2048 = n at *
  rw [hB]
  exact Nat.pow_le_pow_right (by omega) hn
theorem Ok.bg {t : Bool × Nat × Int} (h : Ok t) : Bg t (-65536) 131072 := ⟨cn_ok h, h.fits⟩
theorem Bg.add {t u : Bool × Nat × Int} {lo hi : Int} (h1 : Bg t lo hi) (h2 : Bg u lo hi) : Bg (tS t u) lo (hi + 1) := ⟨cn_idem _ _ _, tS_fits h1.fits h2.fits⟩
theorem Bg.sub {t u : Bool × Nat × Int} {lo hi : Int} (h1 : Bg t lo hi) (h2 : Bg u lo hi) : Bg (tD t u) lo (hi + 1) := ⟨cn_idem _ _ _, tD_fits h1.fits h2.fits⟩
theorem Bg.mul {t u : Bool × Nat × Int} {lo hi lo' hi' : Int} (h1 : Bg t lo hi) (h2 : Bg u lo' hi') : Bg (tM t u) (lo + lo') (hi + hi') := ⟨cn_idem _ _ _, Fits.cn (Fits.mul h1.fits h2.fits)⟩
theorem Bg.vadd {K : Nat} {t u : Bool × Nat × Int} {lo hi : Int} (h1 : Bg t lo hi) (h2 : Bg u lo hi) (hl : lo ≤ 0) (hh : 0 ≤ hi) (hK : 0 ≤ lo + K) : vz K (tS t u).1 (tS t u).2.1 (tS t u).2.2 = vz K t.1 t.2.1 t.2.2 + vz K u.1 u.2.1 u.2.2 :=
  vz_tS h1.fits h2.fits (by have := h1.bounds hl hh; omega) (by have := h2.bounds hl hh; omega) hK
theorem Bg.vsub {K : Nat} {t u : Bool × Nat × Int} {lo hi : Int} (h1 : Bg t lo hi) (h2 : Bg u lo hi) (hl : lo ≤ 0) (hh : 0 ≤ hi) (hK : 0 ≤ lo + K) : vz K (tD t u).1 (tD t u).2.1 (tD t u).2.2 = vz K t.1 t.2.1 t.2.2 - vz K u.1 u.2.1 u.2.2 :=
  vz_tD h1.fits h2.fits (by have := h1.bounds hl hh; omega) (by have := h2.bounds hl hh; omega) hK
theorem Bg.vmul {K L : Nat} {t u : Bool × Nat × Int} {lo hi lo' hi' : Int} (h1 : Bg t lo hi) (h2 : Bg u lo' hi') (hl : lo ≤ 0) (hh : 0 ≤ hi) (hK : 0 ≤ lo + K) (hl' : lo' ≤ 0) (hh' : 0 ≤ hi') (hL : 0 ≤ lo' + L) : vz (K + L) (tM t u).1 (tM t u).2.1 (tM t u).2.2 = vz K t.1 t.2.1 t.2.2 * vz L u.1 u.2.1 u.2.2 := by
  have b1 := h1.bounds hl hh
  have b2 := h2.bounds hl' hh'
  unfold tM
  rw [vz_cn (by omega), vz_mul (by omega) (by omega)]
theorem Bg.neg {t : Bool × Nat × Int} {lo hi : Int} {K : Nat} (h : Bg t lo hi) : t.1 = decide (vz K t.1 t.2.1 t.2.2 < 0) := by
  have hp : 0 < 2 ^ (t.2.2 + K).toNat := Nat.two_pow_pos _
  by_cases h0 : t.2.1 = 0
  · have e := h.cn
    unfold Go.Proofs.YtkmiohkpfdamoaaGreatDoor.cn at e
    rw [if_pos h0] at e
    rw [← e, vz_zero]
    rfl
  · unfold vz sv
    have h1 : (0 : Int) < (t.2.1 : Int) * ((2 ^ (t.2.2 + K).toNat : Nat) : Int) := Int.mul_pos (by omega) (by omega)
    cases ht : t.1
    · rw [if_neg (by decide), decide_eq_false (by omega)]
    · rw [if_pos rfl, Int.neg_mul, decide_eq_true (by omega)]
theorem Bg.order {K : Nat} {t u : Bool × Nat × Int} {lo hi : Int} (h1 : Bg t lo hi) (h2 : Bg u lo hi) (hl : lo ≤ 0) (hh : 0 ≤ hi) (hK : 0 ≤ lo + K) : ordN t.1 t.2.1 t.2.2 u.1 u.2.1 u.2.2 = cmpI (vz K t.1 t.2.1 t.2.2) (vz K u.1 u.2.1 u.2.2) :=
  ordN_vz (by have := h1.bounds hl hh; omega) (by have := h2.bounds hl hh; omega)
def agT (c p q x : Bool × Nat × Int) : Int := agI (vz 70000 c.1 c.2.1 c.2.2) (vz (70000 + 70000) p.1 p.2.1 p.2.2) (vz (70000 + 70000) q.1 q.2.1 q.2.2) (vz 70000 x.1 x.2.1 x.2.2)
def gT (c p q x : Bool × Nat × Int) : Bool × Nat × Int := tD (tM (tD x c) (tD x c)) (tS p q)
theorem d_bg {c x : Bool × Nat × Int} (hc : Ok c) (hx : Bg x (-65536) 131072) : Bg (tD x c) (-65536) 131073 := hx.sub hc.bg
theorem dd_bg {c x : Bool × Nat × Int} (hc : Ok c) (hx : Bg x (-65536) 131072) : Bg (tM (tD x c) (tD x c)) (-131072) 262146 := (d_bg hc hx).mul (d_bg hc hx)
theorem pq_bg {p q : Bool × Nat × Int} (hp : Ok p) (hq : Ok q) : Bg (tS p q) (-65536) 131073 := hp.bg.add hq.bg
theorem g_bg {c p q x : Bool × Nat × Int} (hc : Ok c) (hp : Ok p) (hq : Ok q) (hx : Bg x (-65536) 131072) : Bg (gT c p q x) (-131072) 262147 := (dd_bg hc hx).sub ((pq_bg hp hq).mono (by omega) (by omega))
theorem gg_bg {c p q x : Bool × Nat × Int} (hc : Ok c) (hp : Ok p) (hq : Ok q) (hx : Bg x (-65536) 131072) : Bg (tM (gT c p q x) (gT c p q x)) (-262144) 524294 := (g_bg hc hp hq hx).mul (g_bg hc hp hq hx)
theorem p4_bg {p q : Bool × Nat × Int} (hp : Ok p) (hq : Ok q) : Bg (tM p q) (-131072) 262144 := hp.bg.mul hq.bg
theorem d_val {c x : Bool × Nat × Int} (hc : Ok c) (hx : Bg x (-65536) 131072) : vz 70000 (tD x c).1 (tD x c).2.1 (tD x c).2.2 = vz 70000 x.1 x.2.1 x.2.2 - vz 70000 c.1 c.2.1 c.2.2 := hx.vsub hc.bg (by omega) (by omega) (by omega)
theorem g_val {c p q x : Bool × Nat × Int} (hc : Ok c) (hp : Ok p) (hq : Ok q) (hx : Bg x (-65536) 131072) : vz (70000 + 70000) (gT c p q x).1 (gT c p q x).2.1 (gT c p q x).2.2 = (vz 70000 x.1 x.2.1 x.2.2 - vz 70000 c.1 c.2.1 c.2.2) * (vz 70000 x.1 x.2.1 x.2.2 - vz 70000 c.1 c.2.1 c.2.2) - (vz (70000 + 70000) p.1 p.2.1 p.2.2 + vz (70000 + 70000) q.1 q.2.1 q.2.2) := by
  unfold gT
  rw [(dd_bg hc hx).vsub ((pq_bg hp hq).mono (by omega) (by omega)) (by omega) (by omega) (by omega), (d_bg hc hx).vmul (K := 70000) (L := 70000) (d_bg hc hx) (by omega) (by omega) (by omega) (by omega) (by omega) (by omega), d_val hc hx, hp.bg.vadd hq.bg (by omega) (by omega) (by omega)]
theorem agT_eq {c p q x u : Bool × Nat × Int} (hc : Ok c) (hp : Ok p) (hq : Ok q) (hx : Bg x (-65536) 131072) (hu : Bg u (-262144) 524294) (hv : vz (70000 + 70000 + (70000 + 70000)) u.1 u.2.1 u.2.2 = 4 * (vz (70000 + 70000) p.1 p.2.1 p.2.2 * vz (70000 + 70000) q.1 q.2.1 q.2.2)) :
    agT c p q x = if (tD x c).1 then 1 else if (gT c p q x).1 then 1 else ordN u.1 u.2.1 u.2.2 (tM (gT c p q x) (gT c p q x)).1 (tM (gT c p q x) (gT c p q x)).2.1 (tM (gT c p q x) (gT c p q x)).2.2 := by
  unfold agT agI
  rw [hu.order (K := 70000 + 70000 + (70000 + 70000)) (gg_bg hc hp hq hx) (by omega) (by omega) (by omega), hv, (g_bg hc hp hq hx).vmul (K := 70000 + 70000) (L := 70000 + 70000) (g_bg hc hp hq hx) (by omega) (by omega) (by omega) (by omega) (by omega) (by omega), g_val hc hp hq hx,
    (d_bg hc hx).neg (K := 70000), d_val hc hx, (g_bg hc hp hq hx).neg (K := 70000 + 70000), g_val hc hp hq hx]
  simp only [decide_eq_true_eq]
end Go.Proofs.YtkmiohkpfdamoaaGreatDoor
namespace Go.Proofs.YtkmiohkpfdamoaaGreatDoor
set_option linter.unusedVariables false
set_option linter.unusedSimpArgs false
open Go.RowKit
set_option maxRecDepth 200000 in
theorem rmag_1 (na nb : Bool) (ua va : Option Addr) (un uc vn vc : Nat) (ea eb ha hb : Int) (w : World) (hn1 : ((un : Int) == 0) = false) (hn2 : ((vn : Int) == 0) = false)
    (hh1 : -64000000000 ≤ ha) (hh2 : ha ≤ 64000000000) (hh3 : -64000000000 ≤ hb) (hh4 : hb ≤ 64000000000) (hne : ha ≠ hb)
    (kA : ∀ W, Below w.heap.size w W → Calls Tryz.prog 97 #[.agg #[.bool na, .slice ua un uc, .int .i64 ea]] W fun r w' => r = .returned (.int .i64 ha) ∧ Below W.heap.size W w')
    (kB : ∀ W, Below w.heap.size w W → Calls Tryz.prog 97 #[.agg #[.bool nb, .slice va vn vc, .int .i64 eb]] W fun r w' => r = .returned (.int .i64 hb) ∧ Below W.heap.size W w') :
    Calls Tryz.prog 143 #[.agg #[.bool na, .slice ua un uc, .int .i64 ea], .agg #[.bool nb, .slice va vn vc, .int .i64 eb]] w fun r w' => r = .returned (.int .i64 (ha - hb)) ∧ Below w.heap.size w w' := by
  obtain ⟨W, hW⟩ : ∃ W, W = (w.alloc (.cells #[.bool na, .slice ua un uc, .int .i64 ea] 24)).alloc (.cells #[.bool nb, .slice va vn vc, .int .i64 eb] 24) := ⟨_, rfl⟩
  obtain ⟨hA, hBb, hsz, hBW⟩ := two29 _ _ hW
  have HX : Hid (Below w.heap.size w W) := hBW
  have kA' : ∀ w4, Below W.heap.size W w4 → Calls Tryz.prog 97 #[.agg #[.bool na, .slice ua un uc, .int .i64 ea]] w4 fun r w' => r = .returned (.int .i64 ha) ∧ Below W.heap.size W w' := fun w4 h4 => (kA w4 (hBW.trans (h4.mono hBW.size))).mono fun r w' ⟨e1, o2⟩ => ⟨e1, h4.trans (o2.mono h4.size)⟩
  have kB' : ∀ w4, Below W.heap.size W w4 → Calls Tryz.prog 97 #[.agg #[.bool nb, .slice va vn vc, .int .i64 eb]] w4 fun r w' => r = .returned (.int .i64 hb) ∧ Below W.heap.size W w' := fun w4 h4 => (kB w4 (hBW.trans (h4.mono hBW.size))).mono fun r w' ⟨e1, o2⟩ => ⟨e1, h4.trans (o2.mono h4.size)⟩
  have HKA : Hid (∀ w4, Below W.heap.size W w4 → Calls Tryz.prog 97 #[.agg #[.bool na, .slice ua un uc, .int .i64 ea]] w4 fun r w' => r = .returned (.int .i64 ha) ∧ Below W.heap.size W w') := kA'
  have HKB : Hid (∀ w4, Below W.heap.size W w4 → Calls Tryz.prog 97 #[.agg #[.bool nb, .slice va vn vc, .int .i64 eb]] w4 fun r w' => r = .returned (.int .i64 hb) ∧ Below W.heap.size W w') := kB'
  obtain ⟨⟨a0, a1, a2⟩, -⟩ := box_cells29 hA
  obtain ⟨⟨b0, b1, b2⟩, -⟩ := box_cells29 hBb
  have HK : Hid (∀ w', Below W.heap.size W w' → ((w'.cell? ⟨w.heap.size, 0, none⟩ = some (.bool na) ∧ w'.cell? ⟨w.heap.size, 1, none⟩ = some (.slice ua un uc) ∧ w'.cell? ⟨w.heap.size, 2, none⟩ = some (.int .i64 ea)) ∧ (w'.cell? ⟨w.heap.size + 1, 0, none⟩ = some (.bool nb) ∧ w'.cell? ⟨w.heap.size + 1, 1, none⟩ = some (.slice va vn vc) ∧ w'.cell? ⟨w.heap.size + 1, 2, none⟩ = some (.int .i64 eb)))) := fun w' hb => ⟨(box_cells29 (box_later hA hb (by omega))).1, (box_cells29 (box_later hBb hb (by omega))).1⟩
  have HRD : Hid (∀ w', Below W.heap.size W w' → Below W.heap.size W w'.drew) := fun w' h => h.trans ⟨rfl, rfl, rfl, Nat.le_refl _, fun _ _ => rfl⟩
  have hBR : Below W.heap.size W W.drew := (Below.refl _ _).drew
  have HZ : Hid (IntKind.i64.wrap (ha - hb) = ha - hb) := (by rw [IntKind.wrap_i64]; omega : IntKind.i64.wrap (ha - hb) = ha - hb)
  have hne' : (ha == hb) = false := by simpa using hne
  clear kA kB hA hBb hsz hBW hne hh1 hh2 hh3 hh4
  go_enter Tryz.func143, Tryz.ntmps143
  go_upto_region 3 with fail
  rw [← hW]
  clear hW
  go_cut [24] from 25 to 29 (fun v w' => v = .bool true ∧ Hid (Below W.heap.size W w'))
  case first =>
    go_region_held3 (fun w' => ((w'.cell? ⟨w.heap.size, 0, none⟩ = some (.bool na) ∧ w'.cell? ⟨w.heap.size, 1, none⟩ = some (.slice ua un uc) ∧ w'.cell? ⟨w.heap.size, 2, none⟩ = some (.int .i64 ea)) ∧ (w'.cell? ⟨w.heap.size + 1, 0, none⟩ = some (.bool nb) ∧ w'.cell? ⟨w.heap.size + 1, 1, none⟩ = some (.slice va vn vc) ∧ w'.cell? ⟨w.heap.size + 1, 2, none⟩ = some (.int .i64 eb)))) (first | (with_reducible assumption) | exact ⟨⟨a0, a1, a2⟩, b0, b1, b2⟩ | (refine HK.out _ ?_; with_reducible assumption) | go_keep)
      (first | (go_at_call 97; first | (with_reducible refine (kA' _ (by first | (with_reducible assumption) | exact hBR)).mono ?_; rintro r w5 ⟨rfl, hb5⟩) | (with_reducible refine (kB' _ (by first | (with_reducible assumption) | exact hBR)).mono ?_; rintro r w6 ⟨rfl, hb6⟩)))
    all_goals go_wp2_with fail
    all_goals go_meet
    all_goals exact ⟨by rw [bne, hne']; rfl, by first | exact hb6 | exact hb5⟩
  case rest =>
    obtain ⟨rfl, hc⟩ := hcut
    obtain ⟨W2, rfl⟩ : ∃ W2 : World, W2 = wc := ⟨_, rfl⟩
    clear a0 a1 a2 b0 b1 b2 kA' kB' hBR
    obtain ⟨⟨a0, a1, a2⟩, b0, b1, b2⟩ := HK.out W2 hc.out
    have hBR : Below W.heap.size W W2.drew := HRD.out _ hc.out
    have kA' := HKA.out
    have kB' := HKB.out
    go_upto_region 4 with fail
    go_region_held3 (fun w' => ((w'.cell? ⟨w.heap.size, 0, none⟩ = some (.bool na) ∧ w'.cell? ⟨w.heap.size, 1, none⟩ = some (.slice ua un uc) ∧ w'.cell? ⟨w.heap.size, 2, none⟩ = some (.int .i64 ea)) ∧ (w'.cell? ⟨w.heap.size + 1, 0, none⟩ = some (.bool nb) ∧ w'.cell? ⟨w.heap.size + 1, 1, none⟩ = some (.slice va vn vc) ∧ w'.cell? ⟨w.heap.size + 1, 2, none⟩ = some (.int .i64 eb)))) (first | (with_reducible assumption) | exact ⟨⟨a0, a1, a2⟩, b0, b1, b2⟩ | (refine HK.out _ ?_; with_reducible assumption) | go_keep)
      (first | (go_at_call 97; first | (with_reducible refine (kA' _ (by first | (with_reducible assumption) | exact hBR)).mono ?_; rintro r w5 ⟨rfl, hb5⟩) | (with_reducible refine (kB' _ (by first | (with_reducible assumption) | exact hBR)).mono ?_; rintro r w6 ⟨rfl, hb6⟩)))
    all_goals (have HL5 : Hid (Below W.heap.size W w5) := hb5; have HL6 : Hid (Below W.heap.size W w6) := hb6; clear kA' kB' HK HKA HKB a0 a1 a2 b0 b1 b2 hBR hb5 hb6; go_wp2; go_ret; first | exact ⟨by rw [HZ.out]; rfl, HX.out.trans (HL6.out.mono HX.out.size)⟩ | exact ⟨by rw [HZ.out]; rfl, HX.out.trans (HL5.out.mono HX.out.size)⟩)
set_option maxRecDepth 200000 in
theorem rmag_2 (na nb : Bool) (ua va : Option Addr) (un uc vn vc X Y : Nat) (ea eb ha : Int) (w : World) (hn1 : ((un : Int) == 0) = false) (hn2 : ((vn : Int) == 0) = false) (hX : dlen X ≤ 1000000) (hY : dlen Y ≤ 1000000)
    (he1 : -4000000 ≤ ea) (he2 : ea ≤ 4000000) (he3 : -4000000 ≤ eb) (he4 : eb ≤ 4000000)
    (kA : ∀ W, Below w.heap.size w W → Calls Tryz.prog 97 #[.agg #[.bool na, .slice ua un uc, .int .i64 ea]] W fun r w' => r = .returned (.int .i64 ha) ∧ Below W.heap.size W w')
    (kB : ∀ W, Below w.heap.size w W → Calls Tryz.prog 97 #[.agg #[.bool nb, .slice va vn vc, .int .i64 eb]] W fun r w' => r = .returned (.int .i64 ha) ∧ Below W.heap.size W w')
    (ku : ∀ W i, Below w.heap.size w W → i = ea - min ea eb → Calls Tryz.prog 42 #[.slice ua un uc, .int .i64 i] W fun r w' => ∃ v, r = .returned v ∧ Ir w' v X ∧ Below W.heap.size W w')
    (kv : ∀ W i, Below w.heap.size w W → i = eb - min ea eb → Calls Tryz.prog 42 #[.slice va vn vc, .int .i64 i] W fun r w' => ∃ v, r = .returned v ∧ Ir w' v Y ∧ Below W.heap.size W w') :
    Calls Tryz.prog 143 #[.agg #[.bool na, .slice ua un uc, .int .i64 ea], .agg #[.bool nb, .slice va vn vc, .int .i64 eb]] w fun r w' => r = .returned (.int .i64 (cmpI X Y)) ∧ Below w.heap.size w w' := by
  obtain ⟨W, hW⟩ : ∃ W, W = (w.alloc (.cells #[.bool na, .slice ua un uc, .int .i64 ea] 24)).alloc (.cells #[.bool nb, .slice va vn vc, .int .i64 eb] 24) := ⟨_, rfl⟩
  obtain ⟨hA, hBb, hsz, hBW⟩ := two29 _ _ hW
  have HX : Hid (Below w.heap.size w W) := hBW
  have kA' : ∀ w4, Below W.heap.size W w4 → Calls Tryz.prog 97 #[.agg #[.bool na, .slice ua un uc, .int .i64 ea]] w4 fun r w' => r = .returned (.int .i64 ha) ∧ Below W.heap.size W w' := fun w4 h4 => (kA w4 (hBW.trans (h4.mono hBW.size))).mono fun r w' ⟨e1, o2⟩ => ⟨e1, h4.trans (o2.mono h4.size)⟩
  have kB' : ∀ w4, Below W.heap.size W w4 → Calls Tryz.prog 97 #[.agg #[.bool nb, .slice va vn vc, .int .i64 eb]] w4 fun r w' => r = .returned (.int .i64 ha) ∧ Below W.heap.size W w' := fun w4 h4 => (kB w4 (hBW.trans (h4.mono hBW.size))).mono fun r w' ⟨e1, o2⟩ => ⟨e1, h4.trans (o2.mono h4.size)⟩
  obtain ⟨i1, hi1⟩ : ∃ i1, i1 = ea - min ea eb := ⟨_, rfl⟩
  obtain ⟨i2, hi2⟩ : ∃ i2, i2 = eb - min ea eb := ⟨_, rfl⟩
  have HKU : Hid (∀ w4, Below W.heap.size W w4 → Calls Tryz.prog 42 #[.slice ua un uc, .int .i64 i1] w4 fun r w' => ∃ v, r = .returned v ∧ Ir w' v X ∧ Below W.heap.size W w' ∧ Below w4.heap.size w4 w') := (fun w4 h4 => (ku w4 i1 (hBW.trans (h4.mono hBW.size)) hi1).mono fun r w' ⟨v, e1, o1, o2⟩ => ⟨v, e1, o1, h4.trans (o2.mono h4.size), o2⟩ : ∀ w4, Below W.heap.size W w4 → Calls Tryz.prog 42 #[.slice ua un uc, .int .i64 i1] w4 fun r w' => ∃ v, r = .returned v ∧ Ir w' v X ∧ Below W.heap.size W w' ∧ Below w4.heap.size w4 w')
  have HKV : Hid (∀ w4, Below W.heap.size W w4 → Calls Tryz.prog 42 #[.slice va vn vc, .int .i64 i2] w4 fun r w' => ∃ v, r = .returned v ∧ Ir w' v Y ∧ Below W.heap.size W w' ∧ Below w4.heap.size w4 w') := (fun w4 h4 => (kv w4 i2 (hBW.trans (h4.mono hBW.size)) hi2).mono fun r w' ⟨v, e1, o1, o2⟩ => ⟨v, e1, o1, h4.trans (o2.mono h4.size), o2⟩ : ∀ w4, Below W.heap.size W w4 → Calls Tryz.prog 42 #[.slice va vn vc, .int .i64 i2] w4 fun r w' => ∃ v, r = .returned v ∧ Ir w' v Y ∧ Below W.heap.size W w' ∧ Below w4.heap.size w4 w')
  have kO : ∀ w4 p q, Ir w4 p X → Ir w4 q Y → Below W.heap.size W w4 → Calls Tryz.prog 103 #[p, q] w4 fun r w' => r = .returned (.int .i64 (cmpI X Y)) ∧ Below W.heap.size W w' := fun w4 p q hp hq h4 => (rord hp hq (by omega) (by omega)).mono fun r w' ⟨e1, d, e2⟩ => ⟨e1, by rw [e2]; exact h4.trans ⟨rfl, rfl, rfl, Nat.le_refl _, fun _ _ => rfl⟩⟩
  have HKO : Hid _ := kO
  obtain ⟨⟨a0, a1, a2⟩, -⟩ := box_cells29 hA
  obtain ⟨⟨b0, b1, b2⟩, -⟩ := box_cells29 hBb
  have HK : Hid (∀ w', Below W.heap.size W w' → ((w'.cell? ⟨w.heap.size, 0, none⟩ = some (.bool na) ∧ w'.cell? ⟨w.heap.size, 1, none⟩ = some (.slice ua un uc) ∧ w'.cell? ⟨w.heap.size, 2, none⟩ = some (.int .i64 ea)) ∧ (w'.cell? ⟨w.heap.size + 1, 0, none⟩ = some (.bool nb) ∧ w'.cell? ⟨w.heap.size + 1, 1, none⟩ = some (.slice va vn vc) ∧ w'.cell? ⟨w.heap.size + 1, 2, none⟩ = some (.int .i64 eb)))) := fun w' hb => ⟨(box_cells29 (box_later hA hb (by omega))).1, (box_cells29 (box_later hBb hb (by omega))).1⟩
  have HRD : Hid (∀ w', Below W.heap.size W w' → Below W.heap.size W w'.drew) := fun w' h => h.trans ⟨rfl, rfl, rfl, Nat.le_refl _, fun _ _ => rfl⟩
  have hBR : Below W.heap.size W W.drew := (Below.refl _ _).drew
  have HI : Hid (∀ i, (i = ea - min ea eb ∨ i = IntKind.i64.wrap (ea - min ea eb)) → i = i1) := (fun i h => by rw [IntKind.wrap_i64] at h; omega : ∀ i, (i = ea - min ea eb ∨ i = IntKind.i64.wrap (ea - min ea eb)) → i = i1)
  have HJ : Hid (∀ i, (i = eb - min ea eb ∨ i = IntKind.i64.wrap (eb - min ea eb)) → i = i2) := (fun i h => by rw [IntKind.wrap_i64] at h; omega : ∀ i, (i = eb - min ea eb ∨ i = IntKind.i64.wrap (eb - min ea eb)) → i = i2)
  obtain ⟨c, hc⟩ : ∃ c, c = cmpI X Y := ⟨_, rfl⟩
  rw [← hc] at HKO ⊢
  clear kA kB ku kv kO hA hBb hsz hBW hX hY hi1 hi2 hc
  go_enter Tryz.func143, Tryz.ntmps143
  go_upto_region 3 with fail
  rw [← hW]
  clear hW
  go_cut [24] from 25 to 29 (fun v w' => v = .bool false ∧ Hid (Below W.heap.size W w'))
  case first =>
    go_region_held3 (fun w' => ((w'.cell? ⟨w.heap.size, 0, none⟩ = some (.bool na) ∧ w'.cell? ⟨w.heap.size, 1, none⟩ = some (.slice ua un uc) ∧ w'.cell? ⟨w.heap.size, 2, none⟩ = some (.int .i64 ea)) ∧ (w'.cell? ⟨w.heap.size + 1, 0, none⟩ = some (.bool nb) ∧ w'.cell? ⟨w.heap.size + 1, 1, none⟩ = some (.slice va vn vc) ∧ w'.cell? ⟨w.heap.size + 1, 2, none⟩ = some (.int .i64 eb)))) (first | (with_reducible assumption) | exact ⟨⟨a0, a1, a2⟩, b0, b1, b2⟩ | (refine HK.out _ ?_; with_reducible assumption) | go_keep)
      (first | (go_at_call 97; first | (with_reducible refine (kA' _ (by first | (with_reducible assumption) | exact hBR)).mono ?_; rintro r w5 ⟨rfl, hb5⟩) | (with_reducible refine (kB' _ (by first | (with_reducible assumption) | exact hBR)).mono ?_; rintro r w6 ⟨rfl, hb6⟩)))
    all_goals go_wp2_with fail
    all_goals go_meet
    all_goals exact ⟨by first | rfl | simp, by first | exact hb6 | exact hb5⟩
  case rest =>
    obtain ⟨rfl, hc⟩ := hcut
    obtain ⟨W2, rfl⟩ : ∃ W2 : World, W2 = wc := ⟨_, rfl⟩
    clear a0 a1 a2 b0 b1 b2 kA' kB' hBR
    obtain ⟨⟨a0, a1, a2⟩, b0, b1, b2⟩ := HK.out W2 hc.out
    have hBR : Below W.heap.size W W2.drew := HRD.out _ hc.out
    have kU : ∀ i w4, (i = ea - min ea eb ∨ i = IntKind.i64.wrap (ea - min ea eb)) → Below W.heap.size W w4 → Calls Tryz.prog 42 #[.slice ua un uc, .int .i64 i] w4 fun r w' => ∃ v, r = .returned v ∧ Ir w' v X ∧ Below W.heap.size W w' ∧ Below w4.heap.size w4 w' := fun i w4 hi => by rw [HI.out i hi]; exact HKU.out w4
    have kV : ∀ i w4, (i = eb - min ea eb ∨ i = IntKind.i64.wrap (eb - min ea eb)) → Below W.heap.size W w4 → Calls Tryz.prog 42 #[.slice va vn vc, .int .i64 i] w4 fun r w' => ∃ v, r = .returned v ∧ Ir w' v Y ∧ Below W.heap.size W w' ∧ Below w4.heap.size w4 w' := fun i w4 hi => by rw [HJ.out i hi]; exact HKV.out w4
    have kO := HKO.out
    go_upto_region 6 with fail
    go_region_held3 (fun w' => ((w'.cell? ⟨w.heap.size, 0, none⟩ = some (.bool na) ∧ w'.cell? ⟨w.heap.size, 1, none⟩ = some (.slice ua un uc) ∧ w'.cell? ⟨w.heap.size, 2, none⟩ = some (.int .i64 ea)) ∧ (w'.cell? ⟨w.heap.size + 1, 0, none⟩ = some (.bool nb) ∧ w'.cell? ⟨w.heap.size + 1, 1, none⟩ = some (.slice va vn vc) ∧ w'.cell? ⟨w.heap.size + 1, 2, none⟩ = some (.int .i64 eb)))) (first | (with_reducible assumption) | exact ⟨⟨a0, a1, a2⟩, b0, b1, b2⟩ | (refine HK.out _ ?_; with_reducible assumption) | go_keep)
      (first | (go_at_call 42; first | (with_reducible refine (kU _ _ (by first | exact .inl rfl | exact .inr rfl) (by first | (with_reducible assumption) | exact hBR)).mono ?_; rintro r w5 ⟨p5, rfl, hp5, hb5, hc5⟩) | (with_reducible refine (kV _ _ (by first | exact .inl rfl | exact .inr rfl) (by first | (with_reducible assumption) | exact hBR)).mono ?_; rintro r w6 ⟨p6, rfl, hp6, hb6, hc6⟩)) | (go_at_call 103; first | (with_reducible refine (kO _ _ _ (hp5.later hc6) hp6 hb6).mono ?_; rintro r w7 ⟨rfl, hb7⟩) | (with_reducible refine (kO _ _ _ hp5 (hp6.later hc5) hb5).mono ?_; rintro r w7 ⟨rfl, hb7⟩)))
    all_goals (have HL7 : Hid (Below W.heap.size W w7) := hb7; clear kU kV kO HK HKU HKV HKO a0 a1 a2 b0 b1 b2 hBR hb5 hb6 hb7 hp5 hp6 hc5 hc6; go_wp2; go_ret; exact ⟨rfl, HX.out.trans (HL7.out.mono HX.out.size)⟩)
set_option maxRecDepth 200000 in
theorem rmag_0 (na nb : Bool) (ua va : Option Addr) (un uc vn vc : Nat) (ea eb : Int) (w : World) (h0 : un = 0 ∨ vn = 0) (hn1 : un ≤ 35184372088832) (hn2 : vn ≤ 35184372088832) :
    Calls Tryz.prog 143 #[.agg #[.bool na, .slice ua un uc, .int .i64 ea], .agg #[.bool nb, .slice va vn vc, .int .i64 eb]] w fun r w' => r = .returned (.int .i64 ((un : Int) - vn)) ∧ Below w.heap.size w w' := by
  obtain ⟨W, hW⟩ : ∃ W, W = (w.alloc (.cells #[.bool na, .slice ua un uc, .int .i64 ea] 24)).alloc (.cells #[.bool nb, .slice va vn vc, .int .i64 eb] 24) := ⟨_, rfl⟩
  obtain ⟨hA, hBb, hsz, hBW⟩ := two29 _ _ hW
  have HX : Hid (Below w.heap.size w W) := hBW
  obtain ⟨⟨a0, a1, a2⟩, -⟩ := box_cells29 hA
  obtain ⟨⟨b0, b1, b2⟩, -⟩ := box_cells29 hBb
  rw [hW] at a0 a1 a2 b0 b1 b2
  have hw : IntKind.i64.wrap ((un : Int) - vn) = (un : Int) - vn := by rw [IntKind.wrap_i64]; omega
  have HD : Hid ((un : Int) - vn = (un : Int) - vn) := rfl
  clear hA hBb hsz hBW
  by_cases hu : un = 0
  · subst hu
    clear h0
    go_enter Tryz.func143, Tryz.ntmps143
    go_wp2
    go_ret
    exact ⟨by simp, hW ▸ HX.out⟩
  · obtain rfl : vn = 0 := by omega
    have hu1 : ((un : Int) == 0) = false := by simp; omega
    clear h0 hu
    go_enter Tryz.func143, Tryz.ntmps143
    go_wp2
    go_ret
    exact ⟨by simp, hW ▸ HX.out⟩
end Go.Proofs.YtkmiohkpfdamoaaGreatDoor
namespace Go.Proofs.YtkmiohkpfdamoaaGreatDoor
set_option linter.unusedVariables false
set_option linter.unusedSimpArgs false
open Go.RowKit
def magI (x : Nat) (ea : Int) (y : Nat) (eb : Int) : Int := if x = 0 ∨ y = 0 then (dlen x : Int) - dlen y else if (bl x : Int) + ea = bl y + eb then cmpI (x * 2 ^ (ea - min ea eb).toNat : Nat) (y * 2 ^ (eb - min ea eb).toNat : Nat) else (bl x : Int) + ea - (bl y + eb)
theorem rmag {na nb : Bool} {ua va : Option Addr} {uc vc x y : Nat} {ea eb : Int} {w : World} (h1 : Arg w ua (dlen x) uc x) (h2 : Arg w va (dlen y) vc y) (hx : dlen x ≤ 400000) (hy : dlen y ≤ 400000) (ha : -2000000 ≤ ea ∧ ea ≤ 2000000) (hb : -2000000 ≤ eb ∧ eb ≤ 2000000) :
    Calls Tryz.prog 143 #[.agg #[.bool na, .slice ua (dlen x) uc, .int .i64 ea], .agg #[.bool nb, .slice va (dlen y) vc, .int .i64 eb]] w fun r w' => r = .returned (.int .i64 (magI x ea y eb)) ∧ Below w.heap.size w w' := by
  unfold magI
  by_cases h0 : x = 0 ∨ y = 0
  · rw [if_pos h0]
    exact rmag_0 na nb ua va _ uc _ vc ea eb w (h0.imp (fun h => by rw [h, dlen_zero]) (fun h => by rw [h, dlen_zero])) (by omega) (by omega)
  · rw [if_neg h0]
    have hx0 : x ≠ 0 := fun e => h0 (.inl e)
    have hy0 : y ≠ 0 := fun e => h0 (.inr e)
    have b1 := bl_le_dlen x
    have b2 := bl_le_dlen y
    have kA : ∀ W, Below w.heap.size w W → Calls Tryz.prog 97 #[.agg #[.bool na, .slice ua (dlen x) uc, .int .i64 ea]] W fun r w' => r = .returned (.int .i64 (bl x + ea)) ∧ Below W.heap.size W w' := fun W hW => rhigh (h1.later hW).at_ hx0 (by omega) (by omega)
    have kB : ∀ W, Below w.heap.size w W → Calls Tryz.prog 97 #[.agg #[.bool nb, .slice va (dlen y) vc, .int .i64 eb]] W fun r w' => r = .returned (.int .i64 (bl y + eb)) ∧ Below W.heap.size W w' := fun W hW => rhigh (h2.later hW).at_ hy0 (by omega) (by omega)
    by_cases ht : (bl x : Int) + ea = bl y + eb
    · rw [if_pos ht]
      rw [← ht] at kB
      have l1 : dlen (x * 2 ^ (ea - min ea eb).toNat) ≤ 760000 := by have := shl_len (x := x) (k := (ea - min ea eb).toNat) rfl; omega
      have l2 : dlen (y * 2 ^ (eb - min ea eb).toNat) ≤ 760000 := by have := shl_len (x := y) (k := (eb - min ea eb).toNat) rfl; omega
      refine rmag_2 na nb ua va _ uc _ vc _ _ ea eb _ w (len_ne (n := 0) hx0) (len_ne (n := 0) hy0) (by omega) (by omega) (by omega) (by omega) (by omega) (by omega) kA kB (fun W i hW hi => ?_) (fun W i hW hi => ?_)
      · have hik : i = (((ea - min ea eb).toNat : Nat) : Int) := by omega
        rw [hik]
        exact rup ⟨ua, uc, rfl, h1.le, (h1.later hW).at_⟩ _ (by omega) (by omega)
      · have hik : i = (((eb - min ea eb).toNat : Nat) : Int) := by omega
        rw [hik]
        exact rup ⟨va, vc, rfl, h2.le, (h2.later hW).at_⟩ _ (by omega) (by omega)
    · rw [if_neg ht]
      exact rmag_1 na nb ua va _ uc _ vc ea eb _ _ w (len_ne (n := 0) hx0) (len_ne (n := 0) hy0) (by omega) (by omega) (by omega) (by omega) ht kA kB
set_option maxRecDepth 200000 in
theorem rorder_lt (na nb : Bool) (ua va : Option Addr) (un uc vn vc : Nat) (ea eb sa sb c : Int) (w : World) (hs : sa < sb)
    (kA : ∀ W, Below w.heap.size w W → Calls Tryz.prog 142 #[.agg #[.bool na, .slice ua un uc, .int .i64 ea]] W fun r w' => r = .returned (.int .i64 sa) ∧ Below W.heap.size W w')
    (kB : ∀ W, Below w.heap.size w W → Calls Tryz.prog 142 #[.agg #[.bool nb, .slice va vn vc, .int .i64 eb]] W fun r w' => r = .returned (.int .i64 sb) ∧ Below W.heap.size W w') :
    Calls Tryz.prog 108 #[.agg #[.bool na, .slice ua un uc, .int .i64 ea], .agg #[.bool nb, .slice va vn vc, .int .i64 eb]] w fun r w' => r = .returned (.int .i64 (-1)) ∧ Below w.heap.size w w' := by
  obtain ⟨W, hW⟩ : ∃ W, W = (w.alloc (.cells #[.bool na, .slice ua un uc, .int .i64 ea] 24)).alloc (.cells #[.bool nb, .slice va vn vc, .int .i64 eb] 24) := ⟨_, rfl⟩
  obtain ⟨hA, hBb, hsz, hBW⟩ := two29 _ _ hW
  have HX : Hid (Below w.heap.size w W) := hBW
  have kA' : ∀ w4, Below W.heap.size W w4 → Calls Tryz.prog 142 #[.agg #[.bool na, .slice ua un uc, .int .i64 ea]] w4 fun r w' => r = .returned (.int .i64 sa) ∧ Below W.heap.size W w' := fun w4 h4 => (kA w4 (hBW.trans (h4.mono hBW.size))).mono fun r w' ⟨e1, o2⟩ => ⟨e1, h4.trans (o2.mono h4.size)⟩
  have kB' : ∀ w4, Below W.heap.size W w4 → Calls Tryz.prog 142 #[.agg #[.bool nb, .slice va vn vc, .int .i64 eb]] w4 fun r w' => r = .returned (.int .i64 sb) ∧ Below W.heap.size W w' := fun w4 h4 => (kB w4 (hBW.trans (h4.mono hBW.size))).mono fun r w' ⟨e1, o2⟩ => ⟨e1, h4.trans (o2.mono h4.size)⟩
  obtain ⟨⟨a0, a1, a2⟩, -⟩ := box_cells29 hA
  obtain ⟨⟨b0, b1, b2⟩, -⟩ := box_cells29 hBb
  have HK : Hid (∀ w', Below W.heap.size W w' → ((w'.cell? ⟨w.heap.size, 0, none⟩ = some (.bool na) ∧ w'.cell? ⟨w.heap.size, 1, none⟩ = some (.slice ua un uc) ∧ w'.cell? ⟨w.heap.size, 2, none⟩ = some (.int .i64 ea)) ∧ (w'.cell? ⟨w.heap.size + 1, 0, none⟩ = some (.bool nb) ∧ w'.cell? ⟨w.heap.size + 1, 1, none⟩ = some (.slice va vn vc) ∧ w'.cell? ⟨w.heap.size + 1, 2, none⟩ = some (.int .i64 eb)))) := fun w' hb => ⟨(box_cells29 (box_later hA hb (by omega))).1, (box_cells29 (box_later hBb hb (by omega))).1⟩
  have HRD : Hid (∀ w', Below W.heap.size W w' → Below W.heap.size W w'.drew) := fun w' h => h.trans ⟨rfl, rfl, rfl, Nat.le_refl _, fun _ _ => rfl⟩
  have hBR : Below W.heap.size W W.drew := (Below.refl _ _).drew
  have hne : (sa == sb) = false := by simp; omega
  have hne2 : (sa != sb) = true := by simp; omega
  clear kA kB hA hBb hsz hBW 
  go_enter Tryz.func108, Tryz.ntmps108
  go_upto_region 1 with fail
  rw [← hW]
  clear hW
  go_cut [5, 6] from 8 to 11 (fun u v w' => u = .int .i64 sa ∧ v = .int .i64 sb ∧ Hid (Below W.heap.size W w'))
  case first =>
    go_region_held3 (fun w' => ((w'.cell? ⟨w.heap.size, 0, none⟩ = some (.bool na) ∧ w'.cell? ⟨w.heap.size, 1, none⟩ = some (.slice ua un uc) ∧ w'.cell? ⟨w.heap.size, 2, none⟩ = some (.int .i64 ea)) ∧ (w'.cell? ⟨w.heap.size + 1, 0, none⟩ = some (.bool nb) ∧ w'.cell? ⟨w.heap.size + 1, 1, none⟩ = some (.slice va vn vc) ∧ w'.cell? ⟨w.heap.size + 1, 2, none⟩ = some (.int .i64 eb)))) (first | (with_reducible assumption) | exact ⟨⟨a0, a1, a2⟩, b0, b1, b2⟩ | (refine HK.out _ ?_; with_reducible assumption) | go_keep)
      (first | (go_at_call 142; first | (with_reducible refine (kA' _ (by first | (with_reducible assumption) | exact hBR)).mono ?_; rintro r w5 ⟨rfl, hb5⟩) | (with_reducible refine (kB' _ (by first | (with_reducible assumption) | exact hBR)).mono ?_; rintro r w6 ⟨rfl, hb6⟩)))
    all_goals go_wp2_with fail
    all_goals go_meet
    all_goals exact ⟨rfl, rfl, by first | exact hb6 | exact hb5⟩
  case rest =>
    obtain ⟨rfl, rfl, hc⟩ := hcut
    obtain ⟨W2, rfl⟩ : ∃ W2 : World, W2 = wc := ⟨_, rfl⟩
    clear a0 a1 a2 b0 b1 b2 kA' kB' hBR
    go_wp2
    go_ret; exact ⟨rfl, HX.out.trans (hc.out.mono HX.out.size)⟩
set_option maxRecDepth 200000 in
theorem rorder_gt (na nb : Bool) (ua va : Option Addr) (un uc vn vc : Nat) (ea eb sa sb c : Int) (w : World) (hs : ¬ sa < sb) (hn : sa ≠ sb)
    (kA : ∀ W, Below w.heap.size w W → Calls Tryz.prog 142 #[.agg #[.bool na, .slice ua un uc, .int .i64 ea]] W fun r w' => r = .returned (.int .i64 sa) ∧ Below W.heap.size W w')
    (kB : ∀ W, Below w.heap.size w W → Calls Tryz.prog 142 #[.agg #[.bool nb, .slice va vn vc, .int .i64 eb]] W fun r w' => r = .returned (.int .i64 sb) ∧ Below W.heap.size W w') :
    Calls Tryz.prog 108 #[.agg #[.bool na, .slice ua un uc, .int .i64 ea], .agg #[.bool nb, .slice va vn vc, .int .i64 eb]] w fun r w' => r = .returned (.int .i64 (1)) ∧ Below w.heap.size w w' := by
  obtain ⟨W, hW⟩ : ∃ W, W = (w.alloc (.cells #[.bool na, .slice ua un uc, .int .i64 ea] 24)).alloc (.cells #[.bool nb, .slice va vn vc, .int .i64 eb] 24) := ⟨_, rfl⟩
  obtain ⟨hA, hBb, hsz, hBW⟩ := two29 _ _ hW
  have HX : Hid (Below w.heap.size w W) := hBW
  have kA' : ∀ w4, Below W.heap.size W w4 → Calls Tryz.prog 142 #[.agg #[.bool na, .slice ua un uc, .int .i64 ea]] w4 fun r w' => r = .returned (.int .i64 sa) ∧ Below W.heap.size W w' := fun w4 h4 => (kA w4 (hBW.trans (h4.mono hBW.size))).mono fun r w' ⟨e1, o2⟩ => ⟨e1, h4.trans (o2.mono h4.size)⟩
  have kB' : ∀ w4, Below W.heap.size W w4 → Calls Tryz.prog 142 #[.agg #[.bool nb, .slice va vn vc, .int .i64 eb]] w4 fun r w' => r = .returned (.int .i64 sb) ∧ Below W.heap.size W w' := fun w4 h4 => (kB w4 (hBW.trans (h4.mono hBW.size))).mono fun r w' ⟨e1, o2⟩ => ⟨e1, h4.trans (o2.mono h4.size)⟩
  obtain ⟨⟨a0, a1, a2⟩, -⟩ := box_cells29 hA
  obtain ⟨⟨b0, b1, b2⟩, -⟩ := box_cells29 hBb
  have HK : Hid (∀ w', Below W.heap.size W w' → ((w'.cell? ⟨w.heap.size, 0, none⟩ = some (.bool na) ∧ w'.cell? ⟨w.heap.size, 1, none⟩ = some (.slice ua un uc) ∧ w'.cell? ⟨w.heap.size, 2, none⟩ = some (.int .i64 ea)) ∧ (w'.cell? ⟨w.heap.size + 1, 0, none⟩ = some (.bool nb) ∧ w'.cell? ⟨w.heap.size + 1, 1, none⟩ = some (.slice va vn vc) ∧ w'.cell? ⟨w.heap.size + 1, 2, none⟩ = some (.int .i64 eb)))) := fun w' hb => ⟨(box_cells29 (box_later hA hb (by omega))).1, (box_cells29 (box_later hBb hb (by omega))).1⟩
  have HRD : Hid (∀ w', Below W.heap.size W w' → Below W.heap.size W w'.drew) := fun w' h => h.trans ⟨rfl, rfl, rfl, Nat.le_refl _, fun _ _ => rfl⟩
  have hBR : Below W.heap.size W W.drew := (Below.refl _ _).drew
  have hne : (sa == sb) = false := by simp; omega
  have hne2 : (sa != sb) = true := by simp; omega
  clear kA kB hA hBb hsz hBW hn
  go_enter Tryz.func108, Tryz.ntmps108
  go_upto_region 1 with fail
  rw [← hW]
  clear hW
  go_cut [5, 6] from 8 to 11 (fun u v w' => u = .int .i64 sa ∧ v = .int .i64 sb ∧ Hid (Below W.heap.size W w'))
  case first =>
    go_region_held3 (fun w' => ((w'.cell? ⟨w.heap.size, 0, none⟩ = some (.bool na) ∧ w'.cell? ⟨w.heap.size, 1, none⟩ = some (.slice ua un uc) ∧ w'.cell? ⟨w.heap.size, 2, none⟩ = some (.int .i64 ea)) ∧ (w'.cell? ⟨w.heap.size + 1, 0, none⟩ = some (.bool nb) ∧ w'.cell? ⟨w.heap.size + 1, 1, none⟩ = some (.slice va vn vc) ∧ w'.cell? ⟨w.heap.size + 1, 2, none⟩ = some (.int .i64 eb)))) (first | (with_reducible assumption) | exact ⟨⟨a0, a1, a2⟩, b0, b1, b2⟩ | (refine HK.out _ ?_; with_reducible assumption) | go_keep)
      (first | (go_at_call 142; first | (with_reducible refine (kA' _ (by first | (with_reducible assumption) | exact hBR)).mono ?_; rintro r w5 ⟨rfl, hb5⟩) | (with_reducible refine (kB' _ (by first | (with_reducible assumption) | exact hBR)).mono ?_; rintro r w6 ⟨rfl, hb6⟩)))
    all_goals go_wp2_with fail
    all_goals go_meet
    all_goals exact ⟨rfl, rfl, by first | exact hb6 | exact hb5⟩
  case rest =>
    obtain ⟨rfl, rfl, hc⟩ := hcut
    obtain ⟨W2, rfl⟩ : ∃ W2 : World, W2 = wc := ⟨_, rfl⟩
    clear a0 a1 a2 b0 b1 b2 kA' kB' hBR
    go_wp2
    go_ret; exact ⟨rfl, HX.out.trans (hc.out.mono HX.out.size)⟩
set_option maxRecDepth 200000 in
theorem rorder_pl (na nb : Bool) (ua va : Option Addr) (un uc vn vc : Nat) (ea eb sa sb c : Int) (w : World) (hse0 : sa = sb) (hs : 0 ≤ sa) (hc : c < 0) (hc3 : -90000000000 ≤ c) (hc4 : c ≤ 90000000000)
    (kA : ∀ W, Below w.heap.size w W → Calls Tryz.prog 142 #[.agg #[.bool na, .slice ua un uc, .int .i64 ea]] W fun r w' => r = .returned (.int .i64 sa) ∧ Below W.heap.size W w')
    (kB : ∀ W, Below w.heap.size w W → Calls Tryz.prog 142 #[.agg #[.bool nb, .slice va vn vc, .int .i64 eb]] W fun r w' => r = .returned (.int .i64 sb) ∧ Below W.heap.size W w')
    (kM : ∀ W, Below w.heap.size w W → Calls Tryz.prog 143 #[.agg #[.bool na, .slice ua un uc, .int .i64 ea], .agg #[.bool nb, .slice va vn vc, .int .i64 eb]] W fun r w' => r = .returned (.int .i64 c) ∧ Below W.heap.size W w') :
    Calls Tryz.prog 108 #[.agg #[.bool na, .slice ua un uc, .int .i64 ea], .agg #[.bool nb, .slice va vn vc, .int .i64 eb]] w fun r w' => r = .returned (.int .i64 (-1)) ∧ Below w.heap.size w w' := by
  obtain ⟨W, hW⟩ : ∃ W, W = (w.alloc (.cells #[.bool na, .slice ua un uc, .int .i64 ea] 24)).alloc (.cells #[.bool nb, .slice va vn vc, .int .i64 eb] 24) := ⟨_, rfl⟩
  obtain ⟨hA, hBb, hsz, hBW⟩ := two29 _ _ hW
  have HX : Hid (Below w.heap.size w W) := hBW
  have kA' : ∀ w4, Below W.heap.size W w4 → Calls Tryz.prog 142 #[.agg #[.bool na, .slice ua un uc, .int .i64 ea]] w4 fun r w' => r = .returned (.int .i64 sa) ∧ Below W.heap.size W w' := fun w4 h4 => (kA w4 (hBW.trans (h4.mono hBW.size))).mono fun r w' ⟨e1, o2⟩ => ⟨e1, h4.trans (o2.mono h4.size)⟩
  have kB' : ∀ w4, Below W.heap.size W w4 → Calls Tryz.prog 142 #[.agg #[.bool nb, .slice va vn vc, .int .i64 eb]] w4 fun r w' => r = .returned (.int .i64 sb) ∧ Below W.heap.size W w' := fun w4 h4 => (kB w4 (hBW.trans (h4.mono hBW.size))).mono fun r w' ⟨e1, o2⟩ => ⟨e1, h4.trans (o2.mono h4.size)⟩
  have kM' : ∀ w4, Below W.heap.size W w4 → Calls Tryz.prog 143 #[.agg #[.bool na, .slice ua un uc, .int .i64 ea], .agg #[.bool nb, .slice va vn vc, .int .i64 eb]] w4 fun r w' => r = .returned (.int .i64 c) ∧ Below W.heap.size W w' := fun w4 h4 => (kM w4 (hBW.trans (h4.mono hBW.size))).mono fun r w' ⟨e1, o2⟩ => ⟨e1, h4.trans (o2.mono h4.size)⟩
  have HKM : Hid (∀ w4, Below W.heap.size W w4 → Calls Tryz.prog 143 #[.agg #[.bool na, .slice ua un uc, .int .i64 ea], .agg #[.bool nb, .slice va vn vc, .int .i64 eb]] w4 fun r w' => r = .returned (.int .i64 c) ∧ Below W.heap.size W w') := kM'
  obtain ⟨⟨a0, a1, a2⟩, -⟩ := box_cells29 hA
  obtain ⟨⟨b0, b1, b2⟩, -⟩ := box_cells29 hBb
  have HK : Hid (∀ w', Below W.heap.size W w' → ((w'.cell? ⟨w.heap.size, 0, none⟩ = some (.bool na) ∧ w'.cell? ⟨w.heap.size, 1, none⟩ = some (.slice ua un uc) ∧ w'.cell? ⟨w.heap.size, 2, none⟩ = some (.int .i64 ea)) ∧ (w'.cell? ⟨w.heap.size + 1, 0, none⟩ = some (.bool nb) ∧ w'.cell? ⟨w.heap.size + 1, 1, none⟩ = some (.slice va vn vc) ∧ w'.cell? ⟨w.heap.size + 1, 2, none⟩ = some (.int .i64 eb)))) := fun w' hb => ⟨(box_cells29 (box_later hA hb (by omega))).1, (box_cells29 (box_later hBb hb (by omega))).1⟩
  have HRD : Hid (∀ w', Below W.heap.size W w' → Below W.heap.size W w'.drew) := fun w' h => h.trans ⟨rfl, rfl, rfl, Nat.le_refl _, fun _ _ => rfl⟩
  have hBR : Below W.heap.size W W.drew := (Below.refl _ _).drew
  have hse : (sa == sb) = true := by simp; omega
  have hse2 : (sa != sb) = false := by simp; omega
  have hs1 : ¬ sa < 0 := by omega
  clear kA kB kM kM' hA hBb hsz hBW hc3 hc4 hse0
  go_enter Tryz.func108, Tryz.ntmps108
  go_upto_region 1 with fail
  rw [← hW]
  clear hW
  go_cut [5, 6] from 8 to 11 (fun u v w' => u = .int .i64 sa ∧ v = .int .i64 sb ∧ Hid (Below W.heap.size W w'))
  case first =>
    go_region_held3 (fun w' => ((w'.cell? ⟨w.heap.size, 0, none⟩ = some (.bool na) ∧ w'.cell? ⟨w.heap.size, 1, none⟩ = some (.slice ua un uc) ∧ w'.cell? ⟨w.heap.size, 2, none⟩ = some (.int .i64 ea)) ∧ (w'.cell? ⟨w.heap.size + 1, 0, none⟩ = some (.bool nb) ∧ w'.cell? ⟨w.heap.size + 1, 1, none⟩ = some (.slice va vn vc) ∧ w'.cell? ⟨w.heap.size + 1, 2, none⟩ = some (.int .i64 eb)))) (first | (with_reducible assumption) | exact ⟨⟨a0, a1, a2⟩, b0, b1, b2⟩ | (refine HK.out _ ?_; with_reducible assumption) | go_keep)
      (first | (go_at_call 142; first | (with_reducible refine (kA' _ (by first | (with_reducible assumption) | exact hBR)).mono ?_; rintro r w5 ⟨rfl, hb5⟩) | (with_reducible refine (kB' _ (by first | (with_reducible assumption) | exact hBR)).mono ?_; rintro r w6 ⟨rfl, hb6⟩)))
    all_goals go_wp2_with fail
    all_goals go_meet
    all_goals exact ⟨rfl, rfl, by first | exact hb6 | exact hb5⟩
  case rest =>
    obtain ⟨rfl, rfl, hc⟩ := hcut
    obtain ⟨W2, rfl⟩ : ∃ W2 : World, W2 = wc := ⟨_, rfl⟩
    clear a0 a1 a2 b0 b1 b2 kA' kB' hBR
    have kM' := HKM.out W2 hc.out
    obtain ⟨⟨a0, a1, a2⟩, b0, b1, b2⟩ := HK.out W2 hc.out
    go_wp2_with fail
    refine kM'.mono ?_
    rintro r w7 ⟨rfl, hb7⟩
    have HL7 : Hid (Below W.heap.size W w7) := hb7
    clear kM' HK HKM a0 a1 a2 b0 b1 b2 hb7
    go_wp2
    go_ret
    exact ⟨rfl, HX.out.trans (HL7.out.mono HX.out.size)⟩
set_option maxRecDepth 200000 in
theorem rorder_pg (na nb : Bool) (ua va : Option Addr) (un uc vn vc : Nat) (ea eb sa sb c : Int) (w : World) (hse0 : sa = sb) (hs : 0 ≤ sa) (hc : 0 < c) (hc3 : -90000000000 ≤ c) (hc4 : c ≤ 90000000000)
    (kA : ∀ W, Below w.heap.size w W → Calls Tryz.prog 142 #[.agg #[.bool na, .slice ua un uc, .int .i64 ea]] W fun r w' => r = .returned (.int .i64 sa) ∧ Below W.heap.size W w')
    (kB : ∀ W, Below w.heap.size w W → Calls Tryz.prog 142 #[.agg #[.bool nb, .slice va vn vc, .int .i64 eb]] W fun r w' => r = .returned (.int .i64 sb) ∧ Below W.heap.size W w')
    (kM : ∀ W, Below w.heap.size w W → Calls Tryz.prog 143 #[.agg #[.bool na, .slice ua un uc, .int .i64 ea], .agg #[.bool nb, .slice va vn vc, .int .i64 eb]] W fun r w' => r = .returned (.int .i64 c) ∧ Below W.heap.size W w') :
    Calls Tryz.prog 108 #[.agg #[.bool na, .slice ua un uc, .int .i64 ea], .agg #[.bool nb, .slice va vn vc, .int .i64 eb]] w fun r w' => r = .returned (.int .i64 (1)) ∧ Below w.heap.size w w' := by
  obtain ⟨W, hW⟩ : ∃ W, W = (w.alloc (.cells #[.bool na, .slice ua un uc, .int .i64 ea] 24)).alloc (.cells #[.bool nb, .slice va vn vc, .int .i64 eb] 24) := ⟨_, rfl⟩
  obtain ⟨hA, hBb, hsz, hBW⟩ := two29 _ _ hW
  have HX : Hid (Below w.heap.size w W) := hBW
  have kA' : ∀ w4, Below W.heap.size W w4 → Calls Tryz.prog 142 #[.agg #[.bool na, .slice ua un uc, .int .i64 ea]] w4 fun r w' => r = .returned (.int .i64 sa) ∧ Below W.heap.size W w' := fun w4 h4 => (kA w4 (hBW.trans (h4.mono hBW.size))).mono fun r w' ⟨e1, o2⟩ => ⟨e1, h4.trans (o2.mono h4.size)⟩
  have kB' : ∀ w4, Below W.heap.size W w4 → Calls Tryz.prog 142 #[.agg #[.bool nb, .slice va vn vc, .int .i64 eb]] w4 fun r w' => r = .returned (.int .i64 sb) ∧ Below W.heap.size W w' := fun w4 h4 => (kB w4 (hBW.trans (h4.mono hBW.size))).mono fun r w' ⟨e1, o2⟩ => ⟨e1, h4.trans (o2.mono h4.size)⟩
  have kM' : ∀ w4, Below W.heap.size W w4 → Calls Tryz.prog 143 #[.agg #[.bool na, .slice ua un uc, .int .i64 ea], .agg #[.bool nb, .slice va vn vc, .int .i64 eb]] w4 fun r w' => r = .returned (.int .i64 c) ∧ Below W.heap.size W w' := fun w4 h4 => (kM w4 (hBW.trans (h4.mono hBW.size))).mono fun r w' ⟨e1, o2⟩ => ⟨e1, h4.trans (o2.mono h4.size)⟩
  have HKM : Hid (∀ w4, Below W.heap.size W w4 → Calls Tryz.prog 143 #[.agg #[.bool na, .slice ua un uc, .int .i64 ea], .agg #[.bool nb, .slice va vn vc, .int .i64 eb]] w4 fun r w' => r = .returned (.int .i64 c) ∧ Below W.heap.size W w') := kM'
  obtain ⟨⟨a0, a1, a2⟩, -⟩ := box_cells29 hA
  obtain ⟨⟨b0, b1, b2⟩, -⟩ := box_cells29 hBb
  have HK : Hid (∀ w', Below W.heap.size W w' → ((w'.cell? ⟨w.heap.size, 0, none⟩ = some (.bool na) ∧ w'.cell? ⟨w.heap.size, 1, none⟩ = some (.slice ua un uc) ∧ w'.cell? ⟨w.heap.size, 2, none⟩ = some (.int .i64 ea)) ∧ (w'.cell? ⟨w.heap.size + 1, 0, none⟩ = some (.bool nb) ∧ w'.cell? ⟨w.heap.size + 1, 1, none⟩ = some (.slice va vn vc) ∧ w'.cell? ⟨w.heap.size + 1, 2, none⟩ = some (.int .i64 eb)))) := fun w' hb => ⟨(box_cells29 (box_later hA hb (by omega))).1, (box_cells29 (box_later hBb hb (by omega))).1⟩
  have HRD : Hid (∀ w', Below W.heap.size W w' → Below W.heap.size W w'.drew) := fun w' h => h.trans ⟨rfl, rfl, rfl, Nat.le_refl _, fun _ _ => rfl⟩
  have hBR : Below W.heap.size W W.drew := (Below.refl _ _).drew
  have hse : (sa == sb) = true := by simp; omega
  have hse2 : (sa != sb) = false := by simp; omega
  have hs1 : ¬ sa < 0 := by omega
  have hc1 : ¬ c < 0 := by omega
  clear kA kB kM kM' hA hBb hsz hBW hc3 hc4 hse0
  go_enter Tryz.func108, Tryz.ntmps108
  go_upto_region 1 with fail
  rw [← hW]
  clear hW
  go_cut [5, 6] from 8 to 11 (fun u v w' => u = .int .i64 sa ∧ v = .int .i64 sb ∧ Hid (Below W.heap.size W w'))
  case first =>
    go_region_held3 (fun w' => ((w'.cell? ⟨w.heap.size, 0, none⟩ = some (.bool na) ∧ w'.cell? ⟨w.heap.size, 1, none⟩ = some (.slice ua un uc) ∧ w'.cell? ⟨w.heap.size, 2, none⟩ = some (.int .i64 ea)) ∧ (w'.cell? ⟨w.heap.size + 1, 0, none⟩ = some (.bool nb) ∧ w'.cell? ⟨w.heap.size + 1, 1, none⟩ = some (.slice va vn vc) ∧ w'.cell? ⟨w.heap.size + 1, 2, none⟩ = some (.int .i64 eb)))) (first | (with_reducible assumption) | exact ⟨⟨a0, a1, a2⟩, b0, b1, b2⟩ | (refine HK.out _ ?_; with_reducible assumption) | go_keep)
      (first | (go_at_call 142; first | (with_reducible refine (kA' _ (by first | (with_reducible assumption) | exact hBR)).mono ?_; rintro r w5 ⟨rfl, hb5⟩) | (with_reducible refine (kB' _ (by first | (with_reducible assumption) | exact hBR)).mono ?_; rintro r w6 ⟨rfl, hb6⟩)))
    all_goals go_wp2_with fail
    all_goals go_meet
    all_goals exact ⟨rfl, rfl, by first | exact hb6 | exact hb5⟩
  case rest =>
    obtain ⟨rfl, rfl, hc⟩ := hcut
    obtain ⟨W2, rfl⟩ : ∃ W2 : World, W2 = wc := ⟨_, rfl⟩
    clear a0 a1 a2 b0 b1 b2 kA' kB' hBR
    have kM' := HKM.out W2 hc.out
    obtain ⟨⟨a0, a1, a2⟩, b0, b1, b2⟩ := HK.out W2 hc.out
    go_wp2_with fail
    refine kM'.mono ?_
    rintro r w7 ⟨rfl, hb7⟩
    have HL7 : Hid (Below W.heap.size W w7) := hb7
    clear kM' HK HKM a0 a1 a2 b0 b1 b2 hb7
    go_wp2
    go_ret
    exact ⟨rfl, HX.out.trans (HL7.out.mono HX.out.size)⟩
set_option maxRecDepth 200000 in
theorem rorder_pe (na nb : Bool) (ua va : Option Addr) (un uc vn vc : Nat) (ea eb sa sb c : Int) (w : World) (hse0 : sa = sb) (hs : 0 ≤ sa) (hc : c = 0) (hc3 : -90000000000 ≤ c) (hc4 : c ≤ 90000000000)
    (kA : ∀ W, Below w.heap.size w W → Calls Tryz.prog 142 #[.agg #[.bool na, .slice ua un uc, .int .i64 ea]] W fun r w' => r = .returned (.int .i64 sa) ∧ Below W.heap.size W w')
    (kB : ∀ W, Below w.heap.size w W → Calls Tryz.prog 142 #[.agg #[.bool nb, .slice va vn vc, .int .i64 eb]] W fun r w' => r = .returned (.int .i64 sb) ∧ Below W.heap.size W w')
    (kM : ∀ W, Below w.heap.size w W → Calls Tryz.prog 143 #[.agg #[.bool na, .slice ua un uc, .int .i64 ea], .agg #[.bool nb, .slice va vn vc, .int .i64 eb]] W fun r w' => r = .returned (.int .i64 c) ∧ Below W.heap.size W w') :
    Calls Tryz.prog 108 #[.agg #[.bool na, .slice ua un uc, .int .i64 ea], .agg #[.bool nb, .slice va vn vc, .int .i64 eb]] w fun r w' => r = .returned (.int .i64 (0)) ∧ Below w.heap.size w w' := by
  obtain ⟨W, hW⟩ : ∃ W, W = (w.alloc (.cells #[.bool na, .slice ua un uc, .int .i64 ea] 24)).alloc (.cells #[.bool nb, .slice va vn vc, .int .i64 eb] 24) := ⟨_, rfl⟩
  obtain ⟨hA, hBb, hsz, hBW⟩ := two29 _ _ hW
  have HX : Hid (Below w.heap.size w W) := hBW
  have kA' : ∀ w4, Below W.heap.size W w4 → Calls Tryz.prog 142 #[.agg #[.bool na, .slice ua un uc, .int .i64 ea]] w4 fun r w' => r = .returned (.int .i64 sa) ∧ Below W.heap.size W w' := fun w4 h4 => (kA w4 (hBW.trans (h4.mono hBW.size))).mono fun r w' ⟨e1, o2⟩ => ⟨e1, h4.trans (o2.mono h4.size)⟩
  have kB' : ∀ w4, Below W.heap.size W w4 → Calls Tryz.prog 142 #[.agg #[.bool nb, .slice va vn vc, .int .i64 eb]] w4 fun r w' => r = .returned (.int .i64 sb) ∧ Below W.heap.size W w' := fun w4 h4 => (kB w4 (hBW.trans (h4.mono hBW.size))).mono fun r w' ⟨e1, o2⟩ => ⟨e1, h4.trans (o2.mono h4.size)⟩
  have kM' : ∀ w4, Below W.heap.size W w4 → Calls Tryz.prog 143 #[.agg #[.bool na, .slice ua un uc, .int .i64 ea], .agg #[.bool nb, .slice va vn vc, .int .i64 eb]] w4 fun r w' => r = .returned (.int .i64 c) ∧ Below W.heap.size W w' := fun w4 h4 => (kM w4 (hBW.trans (h4.mono hBW.size))).mono fun r w' ⟨e1, o2⟩ => ⟨e1, h4.trans (o2.mono h4.size)⟩
  have HKM : Hid (∀ w4, Below W.heap.size W w4 → Calls Tryz.prog 143 #[.agg #[.bool na, .slice ua un uc, .int .i64 ea], .agg #[.bool nb, .slice va vn vc, .int .i64 eb]] w4 fun r w' => r = .returned (.int .i64 c) ∧ Below W.heap.size W w') := kM'
  obtain ⟨⟨a0, a1, a2⟩, -⟩ := box_cells29 hA
  obtain ⟨⟨b0, b1, b2⟩, -⟩ := box_cells29 hBb
  have HK : Hid (∀ w', Below W.heap.size W w' → ((w'.cell? ⟨w.heap.size, 0, none⟩ = some (.bool na) ∧ w'.cell? ⟨w.heap.size, 1, none⟩ = some (.slice ua un uc) ∧ w'.cell? ⟨w.heap.size, 2, none⟩ = some (.int .i64 ea)) ∧ (w'.cell? ⟨w.heap.size + 1, 0, none⟩ = some (.bool nb) ∧ w'.cell? ⟨w.heap.size + 1, 1, none⟩ = some (.slice va vn vc) ∧ w'.cell? ⟨w.heap.size + 1, 2, none⟩ = some (.int .i64 eb)))) := fun w' hb => ⟨(box_cells29 (box_later hA hb (by omega))).1, (box_cells29 (box_later hBb hb (by omega))).1⟩
  have HRD : Hid (∀ w', Below W.heap.size W w' → Below W.heap.size W w'.drew) := fun w' h => h.trans ⟨rfl, rfl, rfl, Nat.le_refl _, fun _ _ => rfl⟩
  have hBR : Below W.heap.size W W.drew := (Below.refl _ _).drew
  have hse : (sa == sb) = true := by simp; omega
  have hse2 : (sa != sb) = false := by simp; omega
  have hs1 : ¬ sa < 0 := by omega
  have hc1 : ¬ c < 0 := by omega
  have hc2 : ¬ 0 < c := by omega
  clear kA kB kM kM' hA hBb hsz hBW hc3 hc4 hc hse0
  go_enter Tryz.func108, Tryz.ntmps108
  go_upto_region 1 with fail
  rw [← hW]
  clear hW
  go_cut [5, 6] from 8 to 11 (fun u v w' => u = .int .i64 sa ∧ v = .int .i64 sb ∧ Hid (Below W.heap.size W w'))
  case first =>
    go_region_held3 (fun w' => ((w'.cell? ⟨w.heap.size, 0, none⟩ = some (.bool na) ∧ w'.cell? ⟨w.heap.size, 1, none⟩ = some (.slice ua un uc) ∧ w'.cell? ⟨w.heap.size, 2, none⟩ = some (.int .i64 ea)) ∧ (w'.cell? ⟨w.heap.size + 1, 0, none⟩ = some (.bool nb) ∧ w'.cell? ⟨w.heap.size + 1, 1, none⟩ = some (.slice va vn vc) ∧ w'.cell? ⟨w.heap.size + 1, 2, none⟩ = some (.int .i64 eb)))) (first | (with_reducible assumption) | exact ⟨⟨a0, a1, a2⟩, b0, b1, b2⟩ | (refine HK.out _ ?_; with_reducible assumption) | go_keep)
      (first | (go_at_call 142; first | (with_reducible refine (kA' _ (by first | (with_reducible assumption) | exact hBR)).mono ?_; rintro r w5 ⟨rfl, hb5⟩) | (with_reducible refine (kB' _ (by first | (with_reducible assumption) | exact hBR)).mono ?_; rintro r w6 ⟨rfl, hb6⟩)))
    all_goals go_wp2_with fail
    all_goals go_meet
    all_goals exact ⟨rfl, rfl, by first | exact hb6 | exact hb5⟩
  case rest =>
    obtain ⟨rfl, rfl, hc⟩ := hcut
    obtain ⟨W2, rfl⟩ : ∃ W2 : World, W2 = wc := ⟨_, rfl⟩
    clear a0 a1 a2 b0 b1 b2 kA' kB' hBR
    have kM' := HKM.out W2 hc.out
    obtain ⟨⟨a0, a1, a2⟩, b0, b1, b2⟩ := HK.out W2 hc.out
    go_wp2_with fail
    refine kM'.mono ?_
    rintro r w7 ⟨rfl, hb7⟩
    have HL7 : Hid (Below W.heap.size W w7) := hb7
    clear kM' HK HKM a0 a1 a2 b0 b1 b2 hb7
    go_wp2
    go_ret
    exact ⟨rfl, HX.out.trans (HL7.out.mono HX.out.size)⟩
set_option maxRecDepth 200000 in
theorem rorder_nl (na nb : Bool) (ua va : Option Addr) (un uc vn vc : Nat) (ea eb sa sb c : Int) (w : World) (hse0 : sa = sb) (hs : sa < 0) (hc : c < 0) (hc3 : -90000000000 ≤ c) (hc4 : c ≤ 90000000000)
    (kA : ∀ W, Below w.heap.size w W → Calls Tryz.prog 142 #[.agg #[.bool na, .slice ua un uc, .int .i64 ea]] W fun r w' => r = .returned (.int .i64 sa) ∧ Below W.heap.size W w')
    (kB : ∀ W, Below w.heap.size w W → Calls Tryz.prog 142 #[.agg #[.bool nb, .slice va vn vc, .int .i64 eb]] W fun r w' => r = .returned (.int .i64 sb) ∧ Below W.heap.size W w')
    (kM : ∀ W, Below w.heap.size w W → Calls Tryz.prog 143 #[.agg #[.bool na, .slice ua un uc, .int .i64 ea], .agg #[.bool nb, .slice va vn vc, .int .i64 eb]] W fun r w' => r = .returned (.int .i64 c) ∧ Below W.heap.size W w') :
    Calls Tryz.prog 108 #[.agg #[.bool na, .slice ua un uc, .int .i64 ea], .agg #[.bool nb, .slice va vn vc, .int .i64 eb]] w fun r w' => r = .returned (.int .i64 (1)) ∧ Below w.heap.size w w' := by
  obtain ⟨W, hW⟩ : ∃ W, W = (w.alloc (.cells #[.bool na, .slice ua un uc, .int .i64 ea] 24)).alloc (.cells #[.bool nb, .slice va vn vc, .int .i64 eb] 24) := ⟨_, rfl⟩
  obtain ⟨hA, hBb, hsz, hBW⟩ := two29 _ _ hW
  have HX : Hid (Below w.heap.size w W) := hBW
  have kA' : ∀ w4, Below W.heap.size W w4 → Calls Tryz.prog 142 #[.agg #[.bool na, .slice ua un uc, .int .i64 ea]] w4 fun r w' => r = .returned (.int .i64 sa) ∧ Below W.heap.size W w' := fun w4 h4 => (kA w4 (hBW.trans (h4.mono hBW.size))).mono fun r w' ⟨e1, o2⟩ => ⟨e1, h4.trans (o2.mono h4.size)⟩
  have kB' : ∀ w4, Below W.heap.size W w4 → Calls Tryz.prog 142 #[.agg #[.bool nb, .slice va vn vc, .int .i64 eb]] w4 fun r w' => r = .returned (.int .i64 sb) ∧ Below W.heap.size W w' := fun w4 h4 => (kB w4 (hBW.trans (h4.mono hBW.size))).mono fun r w' ⟨e1, o2⟩ => ⟨e1, h4.trans (o2.mono h4.size)⟩
  have kM' : ∀ w4, Below W.heap.size W w4 → Calls Tryz.prog 143 #[.agg #[.bool na, .slice ua un uc, .int .i64 ea], .agg #[.bool nb, .slice va vn vc, .int .i64 eb]] w4 fun r w' => r = .returned (.int .i64 c) ∧ Below W.heap.size W w' := fun w4 h4 => (kM w4 (hBW.trans (h4.mono hBW.size))).mono fun r w' ⟨e1, o2⟩ => ⟨e1, h4.trans (o2.mono h4.size)⟩
  have HKM : Hid (∀ w4, Below W.heap.size W w4 → Calls Tryz.prog 143 #[.agg #[.bool na, .slice ua un uc, .int .i64 ea], .agg #[.bool nb, .slice va vn vc, .int .i64 eb]] w4 fun r w' => r = .returned (.int .i64 c) ∧ Below W.heap.size W w') := kM'
  obtain ⟨⟨a0, a1, a2⟩, -⟩ := box_cells29 hA
  obtain ⟨⟨b0, b1, b2⟩, -⟩ := box_cells29 hBb
  have HK : Hid (∀ w', Below W.heap.size W w' → ((w'.cell? ⟨w.heap.size, 0, none⟩ = some (.bool na) ∧ w'.cell? ⟨w.heap.size, 1, none⟩ = some (.slice ua un uc) ∧ w'.cell? ⟨w.heap.size, 2, none⟩ = some (.int .i64 ea)) ∧ (w'.cell? ⟨w.heap.size + 1, 0, none⟩ = some (.bool nb) ∧ w'.cell? ⟨w.heap.size + 1, 1, none⟩ = some (.slice va vn vc) ∧ w'.cell? ⟨w.heap.size + 1, 2, none⟩ = some (.int .i64 eb)))) := fun w' hb => ⟨(box_cells29 (box_later hA hb (by omega))).1, (box_cells29 (box_later hBb hb (by omega))).1⟩
  have HRD : Hid (∀ w', Below W.heap.size W w' → Below W.heap.size W w'.drew) := fun w' h => h.trans ⟨rfl, rfl, rfl, Nat.le_refl _, fun _ _ => rfl⟩
  have hBR : Below W.heap.size W W.drew := (Below.refl _ _).drew
  have hse : (sa == sb) = true := by simp; omega
  have hse2 : (sa != sb) = false := by simp; omega
  obtain ⟨d, hd⟩ : ∃ d, d = -c := ⟨_, rfl⟩
  have hdw : IntKind.i64.wrap d = d := by rw [IntKind.wrap_i64]; omega
  have hd1 : ¬ d < 0 := by omega
  have hd2 : 0 < d := by omega
  have hdn : -c = d := hd.symm
  clear kA kB kM kM' hA hBb hsz hBW hd hc hc3 hc4 hse0
  go_enter Tryz.func108, Tryz.ntmps108
  go_upto_region 1 with fail
  rw [← hW]
  clear hW
  go_cut [5, 6] from 8 to 11 (fun u v w' => u = .int .i64 sa ∧ v = .int .i64 sb ∧ Hid (Below W.heap.size W w'))
  case first =>
    go_region_held3 (fun w' => ((w'.cell? ⟨w.heap.size, 0, none⟩ = some (.bool na) ∧ w'.cell? ⟨w.heap.size, 1, none⟩ = some (.slice ua un uc) ∧ w'.cell? ⟨w.heap.size, 2, none⟩ = some (.int .i64 ea)) ∧ (w'.cell? ⟨w.heap.size + 1, 0, none⟩ = some (.bool nb) ∧ w'.cell? ⟨w.heap.size + 1, 1, none⟩ = some (.slice va vn vc) ∧ w'.cell? ⟨w.heap.size + 1, 2, none⟩ = some (.int .i64 eb)))) (first | (with_reducible assumption) | exact ⟨⟨a0, a1, a2⟩, b0, b1, b2⟩ | (refine HK.out _ ?_; with_reducible assumption) | go_keep)
      (first | (go_at_call 142; first | (with_reducible refine (kA' _ (by first | (with_reducible assumption) | exact hBR)).mono ?_; rintro r w5 ⟨rfl, hb5⟩) | (with_reducible refine (kB' _ (by first | (with_reducible assumption) | exact hBR)).mono ?_; rintro r w6 ⟨rfl, hb6⟩)))
    all_goals go_wp2_with fail
    all_goals go_meet
    all_goals exact ⟨rfl, rfl, by first | exact hb6 | exact hb5⟩
  case rest =>
    obtain ⟨rfl, rfl, hc⟩ := hcut
    obtain ⟨W2, rfl⟩ : ∃ W2 : World, W2 = wc := ⟨_, rfl⟩
    clear a0 a1 a2 b0 b1 b2 kA' kB' hBR
    have kM' := HKM.out W2 hc.out
    obtain ⟨⟨a0, a1, a2⟩, b0, b1, b2⟩ := HK.out W2 hc.out
    go_wp2_with fail
    refine kM'.mono ?_
    rintro r w7 ⟨rfl, hb7⟩
    have HL7 : Hid (Below W.heap.size W w7) := hb7
    clear kM' HK HKM a0 a1 a2 b0 b1 b2 hb7
    go_wp2
    go_ret
    exact ⟨rfl, HX.out.trans (HL7.out.mono HX.out.size)⟩
set_option maxRecDepth 200000 in
theorem rorder_ng (na nb : Bool) (ua va : Option Addr) (un uc vn vc : Nat) (ea eb sa sb c : Int) (w : World) (hse0 : sa = sb) (hs : sa < 0) (hc : 0 < c) (hc3 : -90000000000 ≤ c) (hc4 : c ≤ 90000000000)
    (kA : ∀ W, Below w.heap.size w W → Calls Tryz.prog 142 #[.agg #[.bool na, .slice ua un uc, .int .i64 ea]] W fun r w' => r = .returned (.int .i64 sa) ∧ Below W.heap.size W w')
    (kB : ∀ W, Below w.heap.size w W → Calls Tryz.prog 142 #[.agg #[.bool nb, .slice va vn vc, .int .i64 eb]] W fun r w' => r = .returned (.int .i64 sb) ∧ Below W.heap.size W w')
    (kM : ∀ W, Below w.heap.size w W → Calls Tryz.prog 143 #[.agg #[.bool na, .slice ua un uc, .int .i64 ea], .agg #[.bool nb, .slice va vn vc, .int .i64 eb]] W fun r w' => r = .returned (.int .i64 c) ∧ Below W.heap.size W w') :
    Calls Tryz.prog 108 #[.agg #[.bool na, .slice ua un uc, .int .i64 ea], .agg #[.bool nb, .slice va vn vc, .int .i64 eb]] w fun r w' => r = .returned (.int .i64 (-1)) ∧ Below w.heap.size w w' := by
  obtain ⟨W, hW⟩ : ∃ W, W = (w.alloc (.cells #[.bool na, .slice ua un uc, .int .i64 ea] 24)).alloc (.cells #[.bool nb, .slice va vn vc, .int .i64 eb] 24) := ⟨_, rfl⟩
  obtain ⟨hA, hBb, hsz, hBW⟩ := two29 _ _ hW
  have HX : Hid (Below w.heap.size w W) := hBW
  have kA' : ∀ w4, Below W.heap.size W w4 → Calls Tryz.prog 142 #[.agg #[.bool na, .slice ua un uc, .int .i64 ea]] w4 fun r w' => r = .returned (.int .i64 sa) ∧ Below W.heap.size W w' := fun w4 h4 => (kA w4 (hBW.trans (h4.mono hBW.size))).mono fun r w' ⟨e1, o2⟩ => ⟨e1, h4.trans (o2.mono h4.size)⟩
  have kB' : ∀ w4, Below W.heap.size W w4 → Calls Tryz.prog 142 #[.agg #[.bool nb, .slice va vn vc, .int .i64 eb]] w4 fun r w' => r = .returned (.int .i64 sb) ∧ Below W.heap.size W w' := fun w4 h4 => (kB w4 (hBW.trans (h4.mono hBW.size))).mono fun r w' ⟨e1, o2⟩ => ⟨e1, h4.trans (o2.mono h4.size)⟩
  have kM' : ∀ w4, Below W.heap.size W w4 → Calls Tryz.prog 143 #[.agg #[.bool na, .slice ua un uc, .int .i64 ea], .agg #[.bool nb, .slice va vn vc, .int .i64 eb]] w4 fun r w' => r = .returned (.int .i64 c) ∧ Below W.heap.size W w' := fun w4 h4 => (kM w4 (hBW.trans (h4.mono hBW.size))).mono fun r w' ⟨e1, o2⟩ => ⟨e1, h4.trans (o2.mono h4.size)⟩
  have HKM : Hid (∀ w4, Below W.heap.size W w4 → Calls Tryz.prog 143 #[.agg #[.bool na, .slice ua un uc, .int .i64 ea], .agg #[.bool nb, .slice va vn vc, .int .i64 eb]] w4 fun r w' => r = .returned (.int .i64 c) ∧ Below W.heap.size W w') := kM'
  obtain ⟨⟨a0, a1, a2⟩, -⟩ := box_cells29 hA
  obtain ⟨⟨b0, b1, b2⟩, -⟩ := box_cells29 hBb
  have HK : Hid (∀ w', Below W.heap.size W w' → ((w'.cell? ⟨w.heap.size, 0, none⟩ = some (.bool na) ∧ w'.cell? ⟨w.heap.size, 1, none⟩ = some (.slice ua un uc) ∧ w'.cell? ⟨w.heap.size, 2, none⟩ = some (.int .i64 ea)) ∧ (w'.cell? ⟨w.heap.size + 1, 0, none⟩ = some (.bool nb) ∧ w'.cell? ⟨w.heap.size + 1, 1, none⟩ = some (.slice va vn vc) ∧ w'.cell? ⟨w.heap.size + 1, 2, none⟩ = some (.int .i64 eb)))) := fun w' hb => ⟨(box_cells29 (box_later hA hb (by omega))).1, (box_cells29 (box_later hBb hb (by omega))).1⟩
  have HRD : Hid (∀ w', Below W.heap.size W w' → Below W.heap.size W w'.drew) := fun w' h => h.trans ⟨rfl, rfl, rfl, Nat.le_refl _, fun _ _ => rfl⟩
  have hBR : Below W.heap.size W W.drew := (Below.refl _ _).drew
  have hse : (sa == sb) = true := by simp; omega
  have hse2 : (sa != sb) = false := by simp; omega
  obtain ⟨d, hd⟩ : ∃ d, d = -c := ⟨_, rfl⟩
  have hdw : IntKind.i64.wrap d = d := by rw [IntKind.wrap_i64]; omega
  have hd1 : d < 0 := by omega
  have hdn : -c = d := hd.symm
  clear kA kB kM kM' hA hBb hsz hBW hd hc hc3 hc4 hse0
  go_enter Tryz.func108, Tryz.ntmps108
  go_upto_region 1 with fail
  rw [← hW]
  clear hW
  go_cut [5, 6] from 8 to 11 (fun u v w' => u = .int .i64 sa ∧ v = .int .i64 sb ∧ Hid (Below W.heap.size W w'))
  case first =>
    go_region_held3 (fun w' => ((w'.cell? ⟨w.heap.size, 0, none⟩ = some (.bool na) ∧ w'.cell? ⟨w.heap.size, 1, none⟩ = some (.slice ua un uc) ∧ w'.cell? ⟨w.heap.size, 2, none⟩ = some (.int .i64 ea)) ∧ (w'.cell? ⟨w.heap.size + 1, 0, none⟩ = some (.bool nb) ∧ w'.cell? ⟨w.heap.size + 1, 1, none⟩ = some (.slice va vn vc) ∧ w'.cell? ⟨w.heap.size + 1, 2, none⟩ = some (.int .i64 eb)))) (first | (with_reducible assumption) | exact ⟨⟨a0, a1, a2⟩, b0, b1, b2⟩ | (refine HK.out _ ?_; with_reducible assumption) | go_keep)
      (first | (go_at_call 142; first | (with_reducible refine (kA' _ (by first | (with_reducible assumption) | exact hBR)).mono ?_; rintro r w5 ⟨rfl, hb5⟩) | (with_reducible refine (kB' _ (by first | (with_reducible assumption) | exact hBR)).mono ?_; rintro r w6 ⟨rfl, hb6⟩)))
    all_goals go_wp2_with fail
    all_goals go_meet
    all_goals exact ⟨rfl, rfl, by first | exact hb6 | exact hb5⟩
  case rest =>
    obtain ⟨rfl, rfl, hc⟩ := hcut
    obtain ⟨W2, rfl⟩ : ∃ W2 : World, W2 = wc := ⟨_, rfl⟩
    clear a0 a1 a2 b0 b1 b2 kA' kB' hBR
    have kM' := HKM.out W2 hc.out
    obtain ⟨⟨a0, a1, a2⟩, b0, b1, b2⟩ := HK.out W2 hc.out
    go_wp2_with fail
    refine kM'.mono ?_
    rintro r w7 ⟨rfl, hb7⟩
    have HL7 : Hid (Below W.heap.size W w7) := hb7
    clear kM' HK HKM a0 a1 a2 b0 b1 b2 hb7
    go_wp2
    go_ret
    exact ⟨rfl, HX.out.trans (HL7.out.mono HX.out.size)⟩
set_option maxRecDepth 200000 in
theorem rorder_ne (na nb : Bool) (ua va : Option Addr) (un uc vn vc : Nat) (ea eb sa sb c : Int) (w : World) (hse0 : sa = sb) (hs : sa < 0) (hc : c = 0) (hc3 : -90000000000 ≤ c) (hc4 : c ≤ 90000000000)
    (kA : ∀ W, Below w.heap.size w W → Calls Tryz.prog 142 #[.agg #[.bool na, .slice ua un uc, .int .i64 ea]] W fun r w' => r = .returned (.int .i64 sa) ∧ Below W.heap.size W w')
    (kB : ∀ W, Below w.heap.size w W → Calls Tryz.prog 142 #[.agg #[.bool nb, .slice va vn vc, .int .i64 eb]] W fun r w' => r = .returned (.int .i64 sb) ∧ Below W.heap.size W w')
    (kM : ∀ W, Below w.heap.size w W → Calls Tryz.prog 143 #[.agg #[.bool na, .slice ua un uc, .int .i64 ea], .agg #[.bool nb, .slice va vn vc, .int .i64 eb]] W fun r w' => r = .returned (.int .i64 c) ∧ Below W.heap.size W w') :
    Calls Tryz.prog 108 #[.agg #[.bool na, .slice ua un uc, .int .i64 ea], .agg #[.bool nb, .slice va vn vc, .int .i64 eb]] w fun r w' => r = .returned (.int .i64 (0)) ∧ Below w.heap.size w w' := by
  obtain ⟨W, hW⟩ : ∃ W, W = (w.alloc (.cells #[.bool na, .slice ua un uc, .int .i64 ea] 24)).alloc (.cells #[.bool nb, .slice va vn vc, .int .i64 eb] 24) := ⟨_, rfl⟩
  obtain ⟨hA, hBb, hsz, hBW⟩ := two29 _ _ hW
  have HX : Hid (Below w.heap.size w W) := hBW
  have kA' : ∀ w4, Below W.heap.size W w4 → Calls Tryz.prog 142 #[.agg #[.bool na, .slice ua un uc, .int .i64 ea]] w4 fun r w' => r = .returned (.int .i64 sa) ∧ Below W.heap.size W w' := fun w4 h4 => (kA w4 (hBW.trans (h4.mono hBW.size))).mono fun r w' ⟨e1, o2⟩ => ⟨e1, h4.trans (o2.mono h4.size)⟩
  have kB' : ∀ w4, Below W.heap.size W w4 → Calls Tryz.prog 142 #[.agg #[.bool nb, .slice va vn vc, .int .i64 eb]] w4 fun r w' => r = .returned (.int .i64 sb) ∧ Below W.heap.size W w' := fun w4 h4 => (kB w4 (hBW.trans (h4.mono hBW.size))).mono fun r w' ⟨e1, o2⟩ => ⟨e1, h4.trans (o2.mono h4.size)⟩
  have kM' : ∀ w4, Below W.heap.size W w4 → Calls Tryz.prog 143 #[.agg #[.bool na, .slice ua un uc, .int .i64 ea], .agg #[.bool nb, .slice va vn vc, .int .i64 eb]] w4 fun r w' => r = .returned (.int .i64 c) ∧ Below W.heap.size W w' := fun w4 h4 => (kM w4 (hBW.trans (h4.mono hBW.size))).mono fun r w' ⟨e1, o2⟩ => ⟨e1, h4.trans (o2.mono h4.size)⟩
  have HKM : Hid (∀ w4, Below W.heap.size W w4 → Calls Tryz.prog 143 #[.agg #[.bool na, .slice ua un uc, .int .i64 ea], .agg #[.bool nb, .slice va vn vc, .int .i64 eb]] w4 fun r w' => r = .returned (.int .i64 c) ∧ Below W.heap.size W w') := kM'
  obtain ⟨⟨a0, a1, a2⟩, -⟩ := box_cells29 hA
  obtain ⟨⟨b0, b1, b2⟩, -⟩ := box_cells29 hBb
  have HK : Hid (∀ w', Below W.heap.size W w' → ((w'.cell? ⟨w.heap.size, 0, none⟩ = some (.bool na) ∧ w'.cell? ⟨w.heap.size, 1, none⟩ = some (.slice ua un uc) ∧ w'.cell? ⟨w.heap.size, 2, none⟩ = some (.int .i64 ea)) ∧ (w'.cell? ⟨w.heap.size + 1, 0, none⟩ = some (.bool nb) ∧ w'.cell? ⟨w.heap.size + 1, 1, none⟩ = some (.slice va vn vc) ∧ w'.cell? ⟨w.heap.size + 1, 2, none⟩ = some (.int .i64 eb)))) := fun w' hb => ⟨(box_cells29 (box_later hA hb (by omega))).1, (box_cells29 (box_later hBb hb (by omega))).1⟩
  have HRD : Hid (∀ w', Below W.heap.size W w' → Below W.heap.size W w'.drew) := fun w' h => h.trans ⟨rfl, rfl, rfl, Nat.le_refl _, fun _ _ => rfl⟩
  have hBR : Below W.heap.size W W.drew := (Below.refl _ _).drew
  have hse : (sa == sb) = true := by simp; omega
  have hse2 : (sa != sb) = false := by simp; omega
  obtain ⟨d, hd⟩ : ∃ d, d = -c := ⟨_, rfl⟩
  have hdw : IntKind.i64.wrap d = d := by rw [IntKind.wrap_i64]; omega
  have hd1 : ¬ d < 0 := by omega
  have hd2 : ¬ 0 < d := by omega
  have hdn : -c = d := hd.symm
  clear kA kB kM kM' hA hBb hsz hBW hd hc hc3 hc4 hse0
  go_enter Tryz.func108, Tryz.ntmps108
  go_upto_region 1 with fail
  rw [← hW]
  clear hW
  go_cut [5, 6] from 8 to 11 (fun u v w' => u = .int .i64 sa ∧ v = .int .i64 sb ∧ Hid (Below W.heap.size W w'))
  case first =>
    go_region_held3 (fun w' => ((w'.cell? ⟨w.heap.size, 0, none⟩ = some (.bool na) ∧ w'.cell? ⟨w.heap.size, 1, none⟩ = some (.slice ua un uc) ∧ w'.cell? ⟨w.heap.size, 2, none⟩ = some (.int .i64 ea)) ∧ (w'.cell? ⟨w.heap.size + 1, 0, none⟩ = some (.bool nb) ∧ w'.cell? ⟨w.heap.size + 1, 1, none⟩ = some (.slice va vn vc) ∧ w'.cell? ⟨w.heap.size + 1, 2, none⟩ = some (.int .i64 eb)))) (first | (with_reducible assumption) | exact ⟨⟨a0, a1, a2⟩, b0, b1, b2⟩ | (refine HK.out _ ?_; with_reducible assumption) | go_keep)
      (first | (go_at_call 142; first | (with_reducible refine (kA' _ (by first | (with_reducible assumption) | exact hBR)).mono ?_; rintro r w5 ⟨rfl, hb5⟩) | (with_reducible refine (kB' _ (by first | (with_reducible assumption) | exact hBR)).mono ?_; rintro r w6 ⟨rfl, hb6⟩)))
    all_goals go_wp2_with fail
    all_goals go_meet
    all_goals exact ⟨rfl, rfl, by first | exact hb6 | exact hb5⟩
  case rest =>
    obtain ⟨rfl, rfl, hc⟩ := hcut
    obtain ⟨W2, rfl⟩ : ∃ W2 : World, W2 = wc := ⟨_, rfl⟩
    clear a0 a1 a2 b0 b1 b2 kA' kB' hBR
    have kM' := HKM.out W2 hc.out
    obtain ⟨⟨a0, a1, a2⟩, b0, b1, b2⟩ := HK.out W2 hc.out
    go_wp2_with fail
    refine kM'.mono ?_
    rintro r w7 ⟨rfl, hb7⟩
    have HL7 : Hid (Below W.heap.size W w7) := hb7
    clear kM' HK HKM a0 a1 a2 b0 b1 b2 hb7
    go_wp2
    go_ret
    exact ⟨rfl, HX.out.trans (HL7.out.mono HX.out.size)⟩
theorem magI_sign {x y : Nat} {ea eb : Int} : cmpI (magI x ea y eb) 0 = cmpI (x * 2 ^ (ea - min ea eb).toNat : Nat) (y * 2 ^ (eb - min ea eb).toNat : Nat) := by
  unfold magI
  by_cases h0 : x = 0 ∨ y = 0
  · rw [if_pos h0]
    by_cases hx : x = 0
    · subst hx
      rw [dlen_zero, Nat.zero_mul]
      by_cases hy : y = 0
      · subst hy; rw [dlen_zero, Nat.zero_mul]; rfl
      · have h1 : dlen y ≠ 0 := fun e => hy (dlen_eq_zero.1 e)
        have h2 : 0 < y * 2 ^ (eb - min ea eb).toNat := Nat.mul_pos (by omega) (Nat.two_pow_pos _)
        unfold cmpI
        rw [if_pos (by omega), if_pos (by omega)]
    · have hy : y = 0 := by omega
      subst hy
      rw [dlen_zero, Nat.zero_mul]
      have h1 : dlen x ≠ 0 := fun e => hx (dlen_eq_zero.1 e)
      have h2 : 0 < x * 2 ^ (ea - min ea eb).toNat := Nat.mul_pos (by omega) (Nat.two_pow_pos _)
      unfold cmpI
      rw [if_neg (by omega), if_pos (by omega), if_neg (by omega), if_pos (by omega)]
  · rw [if_neg h0]
    have hx0 : x ≠ 0 := fun e => h0 (.inl e)
    have hy0 : y ≠ 0 := fun e => h0 (.inr e)
    by_cases ht : (bl x : Int) + ea = bl y + eb
    · rw [if_pos ht]
      rcases cmpI_cases (x * 2 ^ (ea - min ea eb).toNat : Nat) (y * 2 ^ (eb - min ea eb).toNat : Nat) with h | h | h <;> rw [h.2] <;> rfl
    · rw [if_neg ht]
      rcases cmpI_cases (bl x + ea) (bl y + eb) with h | h | h
      · have := top_lt (x := x) (k := (ea - min ea eb).toNat) (l := (eb - min ea eb).toNat) hy0 (by omega)
        unfold cmpI; rw [if_pos (by omega), if_pos (by omega)]
      · have := top_lt (x := y) (y := x) (k := (eb - min ea eb).toNat) (l := (ea - min ea eb).toNat) hx0 (by omega)
        unfold cmpI; rw [if_neg (by omega), if_pos (by omega), if_neg (by omega), if_pos (by omega)]
      · exact absurd h.1 ht
theorem magI_le {x y : Nat} {ea eb : Int} (hx : dlen x ≤ 400000) (hy : dlen y ≤ 400000) (ha : -2000000 ≤ ea ∧ ea ≤ 2000000) (hb : -2000000 ≤ eb ∧ eb ≤ 2000000) : -90000000000 ≤ magI x ea y eb ∧ magI x ea y eb ≤ 90000000000 := by
  have b1 := bl_le_dlen x
  have b2 := bl_le_dlen y
  unfold magI
  split
  · omega
  · split
    · rcases cmpI_cases (x * 2 ^ (ea - min ea eb).toNat : Nat) (y * 2 ^ (eb - min ea eb).toNat : Nat) with h | h | h <;> rw [h.2] <;> omega
    · omega
theorem rorder {na nb : Bool} {ua va : Option Addr} {uc vc x y : Nat} {ea eb : Int} {w : World} (h1 : Arg w ua (dlen x) uc x) (h2 : Arg w va (dlen y) vc y) (hx : dlen x ≤ 400000) (hy : dlen y ≤ 400000) (ha : -2000000 ≤ ea ∧ ea ≤ 2000000) (hb : -2000000 ≤ eb ∧ eb ≤ 2000000) :
    Calls Tryz.prog 108 #[.agg #[.bool na, .slice ua (dlen x) uc, .int .i64 ea], .agg #[.bool nb, .slice va (dlen y) vc, .int .i64 eb]] w fun r w' => r = .returned (.int .i64 (ordN na x ea nb y eb)) ∧ Below w.heap.size w w' := by
  have kA : ∀ W, Below w.heap.size w W → Calls Tryz.prog 142 #[.agg #[.bool na, .slice ua (dlen x) uc, .int .i64 ea]] W fun r w' => r = .returned (.int .i64 (sgI na (dlen x))) ∧ Below W.heap.size W w' := fun W hW => rsgn (by omega)
  have kB : ∀ W, Below w.heap.size w W → Calls Tryz.prog 142 #[.agg #[.bool nb, .slice va (dlen y) vc, .int .i64 eb]] W fun r w' => r = .returned (.int .i64 (sgI nb (dlen y))) ∧ Below W.heap.size W w' := fun W hW => rsgn (by omega)
  have kM : ∀ W, Below w.heap.size w W → Calls Tryz.prog 143 #[.agg #[.bool na, .slice ua (dlen x) uc, .int .i64 ea], .agg #[.bool nb, .slice va (dlen y) vc, .int .i64 eb]] W fun r w' => r = .returned (.int .i64 (magI x ea y eb)) ∧ Below W.heap.size W w' := fun W hW => rmag (h1.later hW) (h2.later hW) hx hy ha hb
  have hl := magI_le (ea := ea) (eb := eb) hx hy ha hb
  have hm := magI_sign (x := x) (y := y) (ea := ea) (eb := eb)
  unfold ordN
  rw [← hm]
  generalize hsa : sgI na (dlen x) = sa at *
  generalize hsb : sgI nb (dlen y) = sb at *
  generalize magI x ea y eb = c at *
  by_cases hs : sa = sb
  · rw [if_pos hs]
    have hs3 : sa = 0 ∨ sa = -1 ∨ sa = 1 := by
      rw [← hsa]; unfold sgI
      split
      · exact .inl rfl
      · split
        · exact .inr (.inl rfl)
        · exact .inr (.inr rfl)
    by_cases hsn : sa < 0
    · have hs1 : sa = -1 := by omega
      rcases cmpI_cases c 0 with h | h | h
      · rw [h.2, show sa * -1 = 1 by omega]; exact rorder_nl na nb ua va _ uc _ vc ea eb sa sb c w hs hsn h.1 hl.1 hl.2 kA kB kM
      · rw [h.2, show sa * 1 = -1 by omega]; exact rorder_ng na nb ua va _ uc _ vc ea eb sa sb c w hs hsn h.1 hl.1 hl.2 kA kB kM
      · rw [h.2, Int.mul_zero]; exact rorder_ne na nb ua va _ uc _ vc ea eb sa sb c w hs hsn h.1 hl.1 hl.2 kA kB kM
    · by_cases h0 : sa = 0
      · have hc0 : c = 0 := by
          have hdx : dlen x = 0 := by
            apply Decidable.byContradiction
            intro hne
            rw [h0, sgI_pos hne] at hsa
            cases na <;> simp at hsa
          have hdy : dlen y = 0 := by
            apply Decidable.byContradiction
            intro hne
            rw [← hs, h0, sgI_pos hne] at hsb
            cases nb <;> simp at hsb
          have ex : x = 0 := dlen_eq_zero.1 hdx
          have ey : y = 0 := dlen_eq_zero.1 hdy
          subst ex; subst ey
          rw [Nat.zero_mul, Nat.zero_mul] at hm
          rcases cmpI_cases c 0 with h | h | h
          · rw [h.2] at hm; exact absurd hm (by decide)
          · rw [h.2] at hm; exact absurd hm (by decide)
          · exact h.1
        rw [show sa * cmpI c 0 = 0 by rw [h0, Int.zero_mul]]
        exact rorder_pe na nb ua va _ uc _ vc ea eb sa sb c w hs (by omega) hc0 hl.1 hl.2 kA kB kM
      · have hs1 : sa = 1 := by omega
        rw [show sa * cmpI c 0 = cmpI c 0 by rw [hs1, Int.one_mul]]
        rcases cmpI_cases c 0 with h | h | h
        · rw [h.2]; exact rorder_pl na nb ua va _ uc _ vc ea eb sa sb c w hs (by omega) h.1 hl.1 hl.2 kA kB kM
        · rw [h.2]; exact rorder_pg na nb ua va _ uc _ vc ea eb sa sb c w hs (by omega) h.1 hl.1 hl.2 kA kB kM
        · rw [h.2]; exact rorder_pe na nb ua va _ uc _ vc ea eb sa sb c w hs (by omega) h.1 hl.1 hl.2 kA kB kM
  · rw [if_neg hs]
    unfold cmpI
    by_cases hlt : sa < sb
    · rw [if_pos hlt]; exact rorder_lt na nb ua va _ uc _ vc ea eb sa sb c w hlt kA kB
    · rw [if_neg hlt, if_pos (by omega)]; exact rorder_gt na nb ua va _ uc _ vc ea eb sa sb c w hlt hs kA kB
end Go.Proofs.YtkmiohkpfdamoaaGreatDoor
namespace Go.Proofs.YtkmiohkpfdamoaaGreatDoor
set_option linter.unusedVariables false
set_option linter.unusedSimpArgs false
open Go.RowKit Go.Fl64
def Lg (t : Bool × Nat × Int) : Prop := cn t.1 t.2.1 t.2.2 = t ∧ dlen t.2.1 ≤ 60000 ∧ -1000000 ≤ t.2.2 ∧ t.2.2 ≤ 1000000
theorem Bg.lg {t : Bool × Nat × Int} {lo hi : Int} (h : Bg t lo hi) (h1 : -900000 ≤ lo) (h2 : hi ≤ 900000) (h3 : lo ≤ 0) (h4 : 0 ≤ hi) : Lg t := by
  have b := h.bounds h3 h4
  exact ⟨h.cn, h.fits.dlenG (by omega), by omega, by omega⟩
theorem plus_lg {t1 t2 : Bool × Nat × Int} {X Y : Value} {w : World} (o1 : Lg t1) (o2 : Lg t2) (h1 : DN w X t1) (h2 : DN w Y t2) : Calls Tryz.prog 59 #[X, Y] w fun r w' => ∃ A, r = .returned A ∧ DN w' A (tS t1 t2) ∧ Below w.heap.size w w' := by
  obtain ⟨ao, cap, rfl, a1⟩ := h1
  obtain ⟨ao', cap', rfl, a2⟩ := h2
  obtain ⟨c1, f1, f2, f3⟩ := o1
  obtain ⟨c2, g1, g2, g3⟩ := o2
  exact (rplusG a1 a2 c1 c2 (by omega) (by omega) (by omega) (by omega) (by omega) (by omega)).mono fun r w' ⟨A, e, h, hb⟩ => ⟨A, e, h.dn, hb⟩
theorem times_lg {t1 t2 : Bool × Nat × Int} {X Y : Value} {w : World} (o1 : Lg t1) (o2 : Lg t2) (h1 : DN w X t1) (h2 : DN w Y t2) : Calls Tryz.prog 107 #[X, Y] w fun r w' => ∃ A, r = .returned A ∧ DN w' A (tM t1 t2) ∧ Below w.heap.size w w' := by
  obtain ⟨ao, cap, rfl, a1⟩ := h1
  obtain ⟨ao', cap', rfl, a2⟩ := h2
  obtain ⟨c1, f1, f2, f3⟩ := o1
  obtain ⟨c2, g1, g2, g3⟩ := o2
  exact (xtimes_1 t1.1 t2.1 _ ao ao' _ cap _ cap' t1.2.1 t2.2.1 t1.2.2 t2.2.2 w ⟨ao, cap, rfl, a1.le, a1.at_⟩ ⟨ao', cap', rfl, a2.le, a2.at_⟩ (by omega) (by omega) (by omega) (by omega) (by omega) (by omega) rfl).mono fun r w' ⟨A, e, h, hb⟩ => ⟨A, e, h.dn, hb⟩
theorem order_lg {t1 t2 : Bool × Nat × Int} {X Y : Value} {w : World} (o1 : Lg t1) (o2 : Lg t2) (h1 : DN w X t1) (h2 : DN w Y t2) : Calls Tryz.prog 108 #[X, Y] w fun r w' => r = .returned (.int .i64 (ordN t1.1 t1.2.1 t1.2.2 t2.1 t2.2.1 t2.2.2)) ∧ Below w.heap.size w w' := by
  obtain ⟨ao, cap, rfl, a1⟩ := h1
  obtain ⟨ao', cap', rfl, a2⟩ := h2
  obtain ⟨c1, f1, f2, f3⟩ := o1
  obtain ⟨c2, g1, g2, g3⟩ := o2
  exact rorder a1 a2 (by omega) (by omega) (by omega) (by omega)
theorem Lg.zero {t : Bool × Nat × Int} (h : Lg t) (h0 : t.2.1 = 0) : t = (false, 0, 0) := by
  have e := h.1
  unfold cn at e
  rw [if_pos h0] at e
  exact e.symm
theorem cn_turn {t : Bool × Nat × Int} (h : cn t.1 t.2.1 t.2.2 = t) (h0 : t.2.1 ≠ 0) (s : Bool) : cn s t.2.1 t.2.2 = (s, t.2.1, t.2.2) := by
  unfold cn at h ⊢
  rw [if_neg h0] at h ⊢
  rw [Prod.ext_iff] at h
  exact Prod.ext rfl h.2
theorem less_lg {t1 t2 : Bool × Nat × Int} {X Y : Value} {w : World} (o1 : Lg t1) (o2 : Lg t2) (h1 : DN w X t1) (h2 : DN w Y t2) : Calls Tryz.prog 106 #[X, Y] w fun r w' => ∃ A, r = .returned A ∧ DN w' A (tD t1 t2) ∧ Below w.heap.size w w' := by
  obtain ⟨ao, cap, rfl, a1⟩ := h1
  obtain ⟨ao', cap', rfl, a2⟩ := h2
  have z2 := o2.zero
  obtain ⟨c1, f1, f2, f3⟩ := o1
  obtain ⟨c2, g1, g2, g3⟩ := o2
  unfold tD
  by_cases h0 : t2.2.1 = 0
  · have e2 := z2 h0
    have e3 : t2.1 = false := by rw [e2]
    have e4 : t2.2.2 = 0 := by rw [e2]
    rw [h0, e3, e4, dlen_zero]
    have k2 := fun (W : World) (hW : Below w.heap.size w W) => rplusG (nb := false) (y := 0) (eb := 0) (a1.later hW) (arg_noughtD W) c1 rfl (by omega) (by omega) (by omega) (by omega) (by omega) (by rw [dlen_zero]; omega)
    simp only [dlen_zero] at k2
    exact (rlessN_1 t1.1 false ao ao' (dlen t1.2.1) cap 0 cap' t1.2.2 0 false none 0 0 0 _ _ _ w (fun W => rminus_0 false ao' cap' 0 W) k2).mono fun r w' ⟨A, e, h, hb⟩ => ⟨A, e, h.dn, hb⟩
  · have hl : 0 < dlen t2.2.1 := by have := dlen_pos h0; omega
    rw [decide_eq_true hl, Bool.and_true]
    exact (rlessN_1 t1.1 t2.1 ao ao' (dlen t1.2.1) cap (dlen t2.2.1) cap' t1.2.2 t2.2.2 (!t2.1) ao' (dlen t2.2.1) cap' t2.2.2 _ _ _ w (fun W => rminus_1 t2.1 ao' (dlen t2.2.1) cap' t2.2.2 W (by omega) (by rw [beq_eq_false_iff_ne]; omega)) (fun W hW => rplusG (a1.later hW) (a2.later hW) c1 (cn_turn c2 h0 _) (by omega) (by omega) (by omega) (by omega) (by omega) (by omega))).mono fun r w' ⟨A, e, h, hb⟩ => ⟨A, e, h.dn, hb⟩
def tK (k : Int) (t : Bool × Nat × Int) : Bool × Nat × Int := if t.2.1 = 0 then (false, 0, 0) else (t.1, t.2.1, t.2.2 + k)
set_option maxRecDepth 200000 in
theorem rscaled_g (na : Bool) (ua : Option Addr) (un uc : Nat) (ea k : Int) (w : World) (hn : un ≤ 35184372088832) (hn0 : ((un : Int) == 0) = false) (he : -2000000 ≤ ea ∧ ea ≤ 2000000) (hk : -2000000 ≤ k ∧ k ≤ 2000000) :
    Calls Tryz.prog 109 #[.agg #[.bool na, .slice ua un uc, .int .i64 ea], .int .i64 k] w fun r w' => r = .returned (.agg #[.bool na, .slice ua un uc, .int .i64 (ea + k)]) ∧ Below w.heap.size w w' := by
  obtain ⟨W, hW⟩ : ∃ W, W = (w.alloc (.cells #[.bool na, .slice ua un uc, .int .i64 ea] 24)).alloc (.cells #[.bool false, .slice none 0 0, .int .i64 0] 24) := ⟨_, rfl⟩
  obtain ⟨hA, hB, hsz, hBW⟩ := two29 _ _ hW
  obtain ⟨⟨a0, a1, a2⟩, -⟩ := box_cells29 hA
  obtain ⟨⟨b0, b1, b2⟩, b3, b4, b5⟩ := box_cells29 hB
  obtain ⟨he1, he2⟩ := he
  obtain ⟨hk1, hk2⟩ := hk
  clear hA hB hsz hBW
  rw [hW] at a0 a1 a2 b0 b1 b2 b3 b4 b5
  clear hW
  go_enter Tryz.func109, Tryz.ntmps109
  go_wp2
  refine bodyPost_ret (results_cell_row rfl _ _ (w.heap.size + 1) 24 #[.bool na, .slice ua un uc, .int .i64 (ea + k)] (0, 0) _ rfl (two29 _ _ rfl).2.1 Tryz.underlying24 rfl Tryz.info24) rfl ?_
  exact ⟨rfl, (two29 _ _ rfl).2.2.2⟩
theorem scaled_lg {t : Bool × Nat × Int} {X : Value} {w : World} {k : Int} (o : Lg t) (h : DN w X t) (hk : -1000000 ≤ k ∧ k ≤ 1000000) : Calls Tryz.prog 109 #[X, .int .i64 k] w fun r w' => ∃ A, r = .returned A ∧ DN w' A (tK k t) ∧ Below w.heap.size w w' := by
  obtain ⟨ao, cap, rfl, a1⟩ := h
  have hz := o.zero
  obtain ⟨c1, f1, f2, f3⟩ := o
  unfold tK
  by_cases h0 : t.2.1 = 0
  · rw [if_pos h0, h0, dlen_zero]
    refine (rscaled_0 t.1 ao cap t.2.2 k w).mono ?_
    rintro r w' ⟨rfl, hb⟩
    exact ⟨_, rfl, dn_nought _, hb⟩
  · rw [if_neg h0]
    have hl : 0 < dlen t.2.1 := by have := dlen_pos h0; omega
    refine (rscaled_g t.1 ao (dlen t.2.1) cap t.2.2 k w (by omega) (by rw [beq_eq_false_iff_ne]; omega) ⟨by omega, by omega⟩ ⟨by omega, by omega⟩).mono ?_
    rintro r w' ⟨rfl, hb⟩
    exact ⟨_, rfl, ⟨ao, cap, rfl, a1.later hb⟩, hb⟩
theorem tK_bg {t : Bool × Nat × Int} {lo hi k : Int} (h : Bg t lo hi) : Bg (tK k t) (lo + k) (hi + k) := by
  unfold tK
  by_cases h0 : t.2.1 = 0
  · rw [if_pos h0]; exact ⟨rfl, .inl rfl⟩
  · rw [if_neg h0]
    refine ⟨?_, ?_⟩
    · have e := h.cn
      unfold cn at e ⊢
      rw [if_neg h0] at e
      rw [if_neg h0]
      rw [Prod.ext_iff, Prod.ext_iff] at e
      have e2 := e.2.2
      have e3 := e.2.1
      simp only at e2 e3
      exact Prod.ext rfl (Prod.ext e3 (by simp only; omega))
    · rcases h.fits with h' | ⟨a, b, c⟩
      · exact absurd h' h0
      · refine .inr ⟨by simp only; omega, by simp only; omega, ?_⟩
        simp only
        rw [show hi + k - (t.2.2 + k) = hi - t.2.2 by omega]
        exact c
theorem tK_val {K : Nat} {t : Bool × Nat × Int} {k : Nat} (h : 0 ≤ t.2.2 + K) : vz K (tK (k : Int) t).1 (tK (k : Int) t).2.1 (tK (k : Int) t).2.2 = 2 ^ k * vz K t.1 t.2.1 t.2.2 := by
  unfold tK
  by_cases h0 : t.2.1 = 0
  · rw [if_pos h0, h0, vz_zero, vz_zero, Int.mul_zero]
  · rw [if_neg h0]
    show vz K t.1 t.2.1 (t.2.2 + k) = _
    rw [← vz_shift h]
    unfold vz sv
    cases t.1 <;> simp <;> grind
end Go.Proofs.YtkmiohkpfdamoaaGreatDoor
