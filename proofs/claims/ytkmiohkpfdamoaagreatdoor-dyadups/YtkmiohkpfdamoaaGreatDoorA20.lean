/- Own work: contracts of the program's functions, part 20: VV6 W53 L18 RY8 L19 VV7. -/
import Derived.Test.YtkmiohkpfdamoaaGreatDoorA19
import Derived.Test.YtkmiohkpfdamoaaGreatDoorA16
import Derived.Test.YtkmiohkpfdamoaaGreatDoorA10
import Derived.Test.YtkmiohkpfdamoaaGreatDoorA12
import Derived.Test.YtkmiohkpfdamoaaGreatDoorA6

set_option maxHeartbeats 16000000
namespace Go.Proofs.YtkmiohkpfdamoaaGreatDoor
set_option linter.unusedVariables false
set_option linter.unusedSimpArgs false
open Go Go.RowKit Go.Fl64
theorem rt_small {x m : Nat} {e : Int} (hx : dlen x ≤ 2048) (he : e ≤ 65536) (h : m * m ≤ rtQ x e ((1076 : Nat) : Int)) {k : Nat} (hk : 133224 ≤ 2 * k) : m < 2 ^ k := by
  have hb : x < 2 ^ (32 * 2048) := by
    have hB : ∀ n, B ^ n = 2 ^ (32 * n) := fun n => by
      have : (B : Nat) = 2 ^ 32 := by decide
      rw [this, ← Nat.pow_mul]
    have := (dlen_le _ _).1 hx
    generalize 2048 = n at *
    rwa [hB] at this
  have hq : rtQ x e ((1076 : Nat) : Int) < 2 ^ (2 * k) := by
    have hb2 : ((32 * 2048 : Nat) : Int) + (e + 2 * ((1076 : Nat) : Int)) ≤ ((2 * k : Nat) : Int) := by omega
    generalize 32 * 2048 = bb at *
    exact rtQ_lt hb hb2
  apply Decidable.byContradiction
  intro hc
  have h1 : 2 ^ k * 2 ^ k ≤ m * m := Nat.mul_le_mul (by omega) (by omega)
  rw [← Nat.pow_add, show k + k = 2 * k by omega] at h1
  omega
theorem one_lt_pow {k : Nat} (h : 1 ≤ k) : 1 < 2 ^ k := Nat.one_lt_two_pow (by omega)
theorem one_bg : Bg ((false, 1, -1075) : Bool × Nat × Int) (-65536) 131073 := by
  refine ⟨by decide +kernel, .inr ⟨by decide, by decide, one_lt_pow ?_⟩⟩
  show 1 ≤ ((131073 : Int) - (-1075)).toNat
  omega
theorem pn_one {W : World} {b : Nat} {m : Value} (h : Own W b m 1) : PN W (.agg #[.bool false, m, .int .i64 (-1075)]) (false, 1, -1075) := by
  obtain ⟨ao, cap, rfl, q1, q2, q3⟩ := h.is
  exact ⟨ao, cap, rfl, ao, cap, rfl, q1, q2, q3⟩
theorem UU_def (K : Nat) : UU K = 2 ^ (K - 1074) := rfl
theorem UU_two {M : Nat} (h : M = 68924) : UU 70000 = 4 * 2 ^ M := by
  rw [UU_def, show (70000 - 1074 : Nat) = M + 2 by omega, Nat.pow_add]; omega
theorem up_vals {c p q : Bool × Nat × Int} {mP mQ M : Nat} (oc : Ok c) (op : Ok p) (oq : Ok q) (hp0 : p.1 = false) (hq0 : q.1 = false) (hM : M = 68924) (bR : Bg (cn false (mP + mQ) (-1076)) (-65536) 131072)
    (p1 : mP * mP ≤ rtQ p.2.1 p.2.2 ((1076 : Nat) : Int)) (p2 : rtQ p.2.1 p.2.2 ((1076 : Nat) : Int) < (mP + 1) * (mP + 1)) (q1 : mQ * mQ ≤ rtQ q.2.1 q.2.2 ((1076 : Nat) : Int)) (q2 : rtQ q.2.1 q.2.2 ((1076 : Nat) : Int) < (mQ + 1) * (mQ + 1)) {xP xQ : Bool}
    (hxP : xP = (decide (0 ≤ p.2.2 + 2 * ((1076 : Nat) : Int) ∨ p.2.1 = 0) && decide (mP * mP = rtQ p.2.1 p.2.2 ((1076 : Nat) : Int)))) (hxQ : xQ = (decide (0 ≤ q.2.2 + 2 * ((1076 : Nat) : Int) ∨ q.2.1 = 0) && decide (mQ * mQ = rtQ q.2.1 q.2.2 ((1076 : Nat) : Int)))) {F F2 : Nat}
    (hF : F = tfF (tS c (cn false (mP + mQ) (-1076))).1 true (tS c (cn false (mP + mQ) (-1076))).2.1 (tS c (cn false (mP + mQ) (-1076))).2.2 3)
    (hF2 : F2 = tfF (tS (tS c (cn false (mP + mQ) (-1076))) (false, 1, -1075)).1 true (tS (tS c (cn false (mP + mQ) (-1076))) (false, 1, -1075)).2.1 (tS (tS c (cn false (mP + mQ) (-1076))) (false, 1, -1075)).2.2 3) :
    Gf F ∧ Gf F2 ∧ (lt 9218868437227405311 (mag F) = false → (tD (tF F) c).1 = false) ∧ ∃ n, Lst c p q n ∧ upRes xP xQ F F2 (stR F (nextA F) (agN c p q (stp F))) = upA c p q n := by
  have bL : Bg (tS c (cn false (mP + mQ) (-1076))) (-65536) 131073 := oc.bg.add bR
  have bH : Bg (tS (tS c (cn false (mP + mQ) (-1076))) (false, 1, -1075)) (-65536) 131074 := bL.add one_bg
  obtain ⟨gF, s2, s3, s4⟩ := up_spec bL (by omega) hF
  obtain ⟨gF2, -, r3, r4⟩ := up_spec bH (by omega) hF2
  have vL := oc.bg.vadd (K := 70000) bR (by omega) (by omega) (by omega)
  have vH := bL.vadd (K := 70000) one_bg (by omega) (by omega) (by omega)
  have vR : vz 70000 (cn false (mP + mQ) (-1076)).1 (cn false (mP + mQ) (-1076)).2.1 (cn false (mP + mQ) (-1076)).2.2 = ((mP * 2 ^ M : Nat) : Int) + ((mQ * 2 ^ M : Nat) : Int) := by
    rw [vz_cn (by omega)]
    unfold vz sv
    rw [if_neg (by decide), show ((-1076 : Int) + (70000 : Nat)).toNat = M by omega]
    rw [← Int.natCast_mul, Nat.add_mul, Int.natCast_add]
  have v1 : vz 70000 ((false, 1, -1075) : Bool × Nat × Int).1 ((false, 1, -1075) : Bool × Nat × Int).2.1 ((false, 1, -1075) : Bool × Nat × Int).2.2 = 2 * ((2 ^ M : Nat) : Int) := by
    show vz 70000 false 1 (-1075) = _
    unfold vz sv
    rw [if_neg (by decide), show ((-1075 : Int) + (70000 : Nat)).toNat = M + 1 by omega, Nat.pow_succ]
    omega
  obtain ⟨f1, f2, f3, -, -⟩ := op.facts
  obtain ⟨g1, g2, g3, -, -⟩ := oq.facts
  have P := root_scale (K := 70000 + 70000) (N := 2 * M) (M := M) (x := p.2.1) (e := p.2.2) (pl := 1076) (m := mP) (by omega) (by omega) rfl p1 p2
  have Q := root_scale (K := 70000 + 70000) (N := 2 * M) (M := M) (x := q.2.1) (e := q.2.2) (pl := 1076) (m := mQ) (by omega) (by omega) rfl q1 q2
  have vP : vz (70000 + 70000) p.1 p.2.1 p.2.2 = ((p.2.1 * 2 ^ (p.2.2 + ((70000 + 70000 : Nat) : Int)).toNat : Nat) : Int) := by
    unfold vz sv; rw [hp0, if_neg (by decide), ← Int.natCast_mul]
  have vQ : vz (70000 + 70000) q.1 q.2.1 q.2.2 = ((q.2.1 * 2 ^ (q.2.2 + ((70000 + 70000 : Nat) : Int)).toNat : Nat) : Int) := by
    unfold vz sv; rw [hq0, if_neg (by decide), ← Int.natCast_mul]
  have hUp : 0 < 2 ^ M := Nat.two_pow_pos _
  have hUU : ((UU 70000 : Nat) : Int) = 4 * ((2 ^ M : Nat) : Int) := by rw [UU_two hM]; omega
  have hag : ∀ n, agN c p q n = agI (vz 70000 c.1 c.2.1 c.2.2) (vz (70000 + 70000) p.1 p.2.1 p.2.2) (vz (70000 + 70000) q.1 q.2.1 q.2.2) (fvN n * (4 * ((2 ^ M : Nat) : Int))) := fun n => by unfold agN; rw [hUU]
  rw [hUU] at s2 s3 r3
  rw [vR] at vL
  rw [v1] at vH
  refine ⟨gF, gF2, fun hinf => ?_, ?_⟩
  · rw [inf_stp gF, decide_eq_false_iff_not] at hinf
    have s3 := s3.resolve_left hinf
    have hfin := gF.fin (by have := gF.hi; omega)
    rw [(d_bg oc (tF_bg F)).neg (K := 70000), d_val oc (tF_bg F), vz_num5 gF.lt hfin, stp_val, hUU, decide_eq_false (by omega)]
  · generalize 2 ^ M = U at *
    generalize p.2.1 * 2 ^ (p.2.2 + ((70000 + 70000 : Nat) : Int)).toNat = PP at *
    generalize q.2.1 * 2 ^ (q.2.2 + ((70000 + 70000 : Nat) : Int)).toNat = QQ at *
    refine up_core (a := ((mP * U : Nat) : Int)) (b := ((mQ * U : Nat) : Int)) (U := (U : Int)) (VL := vz 70000 (tS c (cn false (mP + mQ) (-1076))).1 (tS c (cn false (mP + mQ) (-1076))).2.1 (tS c (cn false (mP + mQ) (-1076))).2.2) (VH := vz 70000 (tS (tS c (cn false (mP + mQ) (-1076))) (false, 1, -1075)).1 (tS (tS c (cn false (mP + mQ) (-1076))) (false, 1, -1075)).2.1 (tS (tS c (cn false (mP + mQ) (-1076))) (false, 1, -1075)).2.2) hag (by omega) (by omega) (by omega) ?_ ?_ ?_ ?_ ?_ ?_ (by omega) (by omega) gF s2 s3 s4 gF2 r3 r4
    · rw [vP, ← Int.natCast_mul]; exact Int.ofNat_le.2 P.1
    · have h := P.2.1
      rw [Nat.add_mul, Nat.one_mul] at h
      rw [vP, ← Int.natCast_add, ← Int.natCast_mul]; exact Int.ofNat_lt.2 h
    · rw [vQ, ← Int.natCast_mul]; exact Int.ofNat_le.2 Q.1
    · have h := Q.2.1
      rw [Nat.add_mul, Nat.one_mul] at h
      rw [vQ, ← Int.natCast_add, ← Int.natCast_mul]; exact Int.ofNat_lt.2 h
    · intro h
      rw [vP, ← Int.natCast_mul, P.2.2 (by rw [← hxP]; exact h)]
    · intro h
      rw [vQ, ← Int.natCast_mul, Q.2.2 (by rw [← hxQ]; exact h)]
theorem pup_ok {c p q : Bool × Nat × Int} {A B C : Value} {w : World} (hT : Tab32 w) (hI : Ie.Tab w) (oc : Ok c) (op : Ok p) (oq : Ok q) (hp0 : p.1 = false) (hq0 : q.1 = false) (h1 : PN w A c) (h2 : PN w B p) (h3 : PN w C q) :
    Calls Tryz.prog 5 #[A, B, C] w fun r w' => ∃ n, r = .returned (.tuple #[.float .f64 (upA c p q n), .int .i64 0]) ∧ Lst c p q n ∧ Below w.heap.size w w' := by
  have h1' := h1
  have h2' := h2
  have h3' := h3
  obtain ⟨ua, uc, rfl, i1⟩ := h1
  obtain ⟨va, vc, rfl, i2⟩ := h2
  obtain ⟨wa, wk, rfl, i3⟩ := h3
  obtain ⟨c1, c2, c3, -, -⟩ := oc.facts
  obtain ⟨f1, f2, f3, -, -⟩ := op.facts
  obtain ⟨g1, g2, g3, -, -⟩ := oq.facts
  obtain ⟨mP, p1, p2⟩ := root_ex (rtQ p.2.1 p.2.2 ((1076 : Nat) : Int))
  obtain ⟨mQ, q1, q2⟩ := root_ex (rtQ q.2.1 q.2.2 ((1076 : Nat) : Int))
  have sP := rt_small f1 f3 p1 (k := 66612) (by omega)
  have sQ := rt_small g1 g3 q1 (k := 66612) (by omega)
  have hB : ∀ n, B ^ n = 2 ^ (32 * n) := fun n => by
    have : (B : Nat) = 2 ^ 32 := by decide
    rw [this, ← Nat.pow_mul]
  obtain ⟨k, hk⟩ : ∃ k : Nat, k = 66612 := ⟨_, rfl⟩
  rw [← hk] at sP sQ
  have sR : mP + mQ < 2 ^ (k + 1) := by rw [Nat.pow_succ]; omega
  have lP : dlen mP ≤ 100000 := (dlen_le _ _).2 (by
    obtain ⟨n, hn⟩ : ∃ n : Nat, n = 100000 := ⟨_, rfl⟩
    rw [← hn, hB]
    exact Nat.lt_of_lt_of_le sP (Nat.pow_le_pow_right (by omega) (by omega)))
  have lQ : dlen mQ ≤ 100000 := (dlen_le _ _).2 (by
    obtain ⟨n, hn⟩ : ∃ n : Nat, n = 100000 := ⟨_, rfl⟩
    rw [← hn, hB]
    exact Nat.lt_of_lt_of_le sQ (Nat.pow_le_pow_right (by omega) (by omega)))
  have lR : dlen (mP + mQ) ≤ 100000 := (dlen_le _ _).2 (by
    obtain ⟨n, hn⟩ : ∃ n : Nat, n = 100000 := ⟨_, rfl⟩
    rw [← hn, hB]
    exact Nat.lt_of_lt_of_le sR (Nat.pow_le_pow_right (by omega) (by omega)))
  have bR : Bg (cn false (mP + mQ) (-1076)) (-65536) 131072 := ⟨cn_idem _ _ _, Fits.cn (.inr ⟨by omega, by omega, Nat.lt_of_lt_of_le sR (Nat.pow_le_pow_right (by omega) (by omega))⟩)⟩
  have bL : Bg (tS c (cn false (mP + mQ) (-1076))) (-65536) 131073 := oc.bg.add bR
  have bH : Bg (tS (tS c (cn false (mP + mQ) (-1076))) (false, 1, -1075)) (-65536) 131074 := bL.add one_bg
  have dq : ∀ {x : Nat} {e : Int}, dlen x ≤ 2048 → e ≤ 65536 → dlen (rtQ x e ((1076 : Nat) : Int)) ≤ 1000000 := fun {x e} hx he => (dlen_le _ _).2 (by
    have hb : x < 2 ^ (32 * 2048) := by
      have := (dlen_le _ _).1 hx
      generalize 2048 = n at *
      rwa [hB] at this
    obtain ⟨n, hn⟩ : ∃ n : Nat, n = 1000000 := ⟨_, rfl⟩
    rw [← hn, hB]
    have hb2 : ((32 * 2048 : Nat) : Int) + (e + 2 * ((1076 : Nat) : Int)) ≤ ((32 * n : Nat) : Int) := by omega
    generalize 32 * 2048 = bb at *
    exact rtQ_lt hb hb2)
  obtain ⟨F, hF⟩ : ∃ F, F = tfF (tS c (cn false (mP + mQ) (-1076))).1 true (tS c (cn false (mP + mQ) (-1076))).2.1 (tS c (cn false (mP + mQ) (-1076))).2.2 3 := ⟨_, rfl⟩
  obtain ⟨F2, hF2⟩ : ∃ F2, F2 = tfF (tS (tS c (cn false (mP + mQ) (-1076))) (false, 1, -1075)).1 true (tS (tS c (cn false (mP + mQ) (-1076))) (false, 1, -1075)).2.1 (tS (tS c (cn false (mP + mQ) (-1076))) (false, 1, -1075)).2.2 3 := ⟨_, rfl⟩
  obtain ⟨xP, hxP⟩ : ∃ xP, xP = (decide (0 ≤ p.2.2 + 2 * ((1076 : Nat) : Int) ∨ p.2.1 = 0) && decide (mP * mP = rtQ p.2.1 p.2.2 ((1076 : Nat) : Int))) := ⟨_, rfl⟩
  obtain ⟨xQ, hxQ⟩ : ∃ xQ, xQ = (decide (0 ≤ q.2.2 + 2 * ((1076 : Nat) : Int) ∨ q.2.1 = 0) && decide (mQ * mQ = rtQ q.2.1 q.2.2 ((1076 : Nat) : Int))) := ⟨_, rfl⟩
  obtain ⟨gF, gF2, hd, n, hn, he⟩ := up_vals oc op oq hp0 hq0 rfl bR p1 p2 q1 q2 hxP hxQ hF hF2
  have lL := bL.lg (by omega) (by omega) (by omega) (by omega)
  have lH := bH.lg (by omega) (by omega) (by omega) (by omega)
  have lc := oc.bg.lg (by omega) (by omega) (by omega) (by omega)
  have lRg := bR.lg (by omega) (by omega) (by omega) (by omega)
  have l1 := one_bg.lg (by omega) (by omega) (by omega) (by omega)
  have rnd : ∀ {t : Bool × Nat × Int} {W : World} {X : Value}, Lg t → Below w.heap.size w W → PN W X t → Calls Tryz.prog 18 #[X, .int .i64 3] W fun r w' => r = .returned (.float .f64 (tfF t.1 true t.2.1 t.2.2 3)) ∧ Below W.heap.size W w' := fun {t W X} o hW h => by
    obtain ⟨ao, cap, rfl, i⟩ := h
    obtain ⟨-, b1, b2, b3⟩ := o
    exact c106 (hT.later hW) i (by omega) (by omega) (by omega)
  have rt : ∀ {t : Bool × Nat × Int} {m : Nat} {W : World} {ao : Option Addr} {cap : Nat}, dlen t.2.1 ≤ 2048 → -65536 ≤ t.2.2 → t.2.2 ≤ 65536 → m * m ≤ rtQ t.2.1 t.2.2 ((1076 : Nat) : Int) → rtQ t.2.1 t.2.2 ((1076 : Nat) : Int) < (m + 1) * (m + 1) → Is W (.slice ao (dlen t.2.1) cap) t.2.1 → Calls Tryz.prog 14 #[NumV false (.slice ao (dlen t.2.1) cap) t.2.2, .int .i64 1076] W fun r w' => ∃ v, r = .returned (.tuple #[v, .bool (decide (0 ≤ t.2.2 + 2 * ((1076 : Nat) : Int) ∨ t.2.1 = 0) && decide (m * m = rtQ t.2.1 t.2.2 ((1076 : Nat) : Int)))]) ∧ Own w' W.heap.size v m ∧ Below W.heap.size W w' := fun {t m W ao cap} b1 b2 b3 m1 m2 i => by
    refine (c102 (neg := false) (place := ((1076 : Nat) : Int)) i (by omega) (dq b1 b3) (by omega) (by omega)).mono ?_
    rintro r w' ⟨v, m', rfl, ho, n1, n2, hb⟩
    obtain rfl := root_uniq n1 n2 m1 m2
    exact ⟨v, rfl, ho, hb⟩
  rw [hp0] at h2'
  rw [hq0] at h3'
  rw [hp0, hq0]
  have hmb : ∀ (W : World) (g : Nat), Below w.heap.size w W → W.heap[g]? = some (.cells #[.bool c.1, .slice ua (dlen c.2.1) uc, .int .i64 c.2.2, .bool false, .slice va (dlen p.2.1) vc, .int .i64 p.2.2, .bool false, .slice wa (dlen q.2.1) wk, .int .i64 q.2.2] 29 (0, 0)) → Calls Tryz.prog 13 #[.slice (some ⟨g, 0, none⟩) 3 3] W fun r w' => r = .returned (.bool true) ∧ Below W.heap.size W w' := fun W g hW hg => by
    have k := maybe3 hg (i1.later hW) (i2.later hW) (i3.later hW) (by omega) (by omega) (by omega)
    have o1 : okN c.1 (dlen c.2.1) c.2.1 c.2.2 = true := oc
    have o2 : okN false (dlen p.2.1) p.2.1 p.2.2 = true := by rw [← hp0]; exact op
    have o3 : okN false (dlen q.2.1) q.2.1 q.2.2 = true := by rw [← hq0]; exact oq
    rw [o1, o2, o3] at k
    exact k
  refine (up_all c.1 xP xQ ua va wa (dlen c.2.1) uc (dlen p.2.1) vc (dlen q.2.1) wk mP mQ F F2 (stR F (nextA F) (agN c p q (stp F))) c.2.2 p.2.2 q.2.2 w hT lP lQ (by omega)
    (sumN c.1 c.2.1 c.2.2 (cn false (mP + mQ) (-1076)).1 (cn false (mP + mQ) (-1076)).2.1 (cn false (mP + mQ) (-1076)).2.2).1
    (sumN (tS c (cn false (mP + mQ) (-1076))).1 (tS c (cn false (mP + mQ) (-1076))).2.1 (tS c (cn false (mP + mQ) (-1076))).2.2 ((false, 1, -1075) : Bool × Nat × Int).1 ((false, 1, -1075) : Bool × Nat × Int).2.1 ((false, 1, -1075) : Bool × Nat × Int).2.2).1
    (sumN c.1 c.2.1 c.2.2 (cn false (mP + mQ) (-1076)).1 (cn false (mP + mQ) (-1076)).2.1 (cn false (mP + mQ) (-1076)).2.2).2.1
    (sumN (tS c (cn false (mP + mQ) (-1076))).1 (tS c (cn false (mP + mQ) (-1076))).2.1 (tS c (cn false (mP + mQ) (-1076))).2.2 ((false, 1, -1075) : Bool × Nat × Int).1 ((false, 1, -1075) : Bool × Nat × Int).2.1 ((false, 1, -1075) : Bool × Nat × Int).2.2).2.1
    (sumN c.1 c.2.1 c.2.2 (cn false (mP + mQ) (-1076)).1 (cn false (mP + mQ) (-1076)).2.1 (cn false (mP + mQ) (-1076)).2.2).2.2
    (sumN (tS c (cn false (mP + mQ) (-1076))).1 (tS c (cn false (mP + mQ) (-1076))).2.1 (tS c (cn false (mP + mQ) (-1076))).2.2 ((false, 1, -1075) : Bool × Nat × Int).1 ((false, 1, -1075) : Bool × Nat × Int).2.1 ((false, 1, -1075) : Bool × Nat × Int).2.2).2.2
    gF.lt gF2.lt ?_ ?_ ?_ ?_ hmb ?_ ?_ ?_).mono ?_
  · intro W a b hW hN
    rw [hF]
    exact rnd lL hW hN.pn
  · intro W a b hW hN
    rw [hF2]
    exact rnd lH hW hN.pn
  · intro W a b m b' hW hN hO
    exact psum_lg (hT.later hW) lL l1 hN.pn (pn_one hO)
  · intro W m b hW hN
    exact psum_lg (hT.later hW) lc lRg (h1'.later hW) hN.pn
  · intro W hW
    rw [hxP]
    exact rt f1 f2 f3 p1 p2 (i2.later hW)
  · intro W hW
    rw [hxQ]
    exact rt g1 g2 g3 q1 q2 (i3.later hW)
  · intro _ _ hinf W hW
    have hfin : mag F < 9218868437227405312 := by
      have h := hinf
      rw [inf_stp gF, decide_eq_false_iff_not] at h
      exact gF.fin (by have := gF.hi; omega)
    exact settled_ok (hT.later hW) (Tab.later hI hW) oc op oq gF.lt hfin (hd hinf) (h1'.later hW) (h2'.later hW) (h3'.later hW)
  rintro r w' ⟨rfl, hb⟩
  exact ⟨n, by rw [← he], hn, hb⟩
end Go.Proofs.YtkmiohkpfdamoaaGreatDoor
namespace Go.Proofs.YtkmiohkpfdamoaaGreatDoor
set_option linter.unusedVariables false
set_option linter.unusedSimpArgs false
open Go.RowKit Go.Fl64
end Go.Proofs.YtkmiohkpfdamoaaGreatDoor
namespace Go.Proofs.YtkmiohkpfdamoaaGreatDoor
set_option linter.unusedVariables false
set_option linter.unusedSimpArgs false
open Go.RowKit
def Out2 (W : World) (F : Nat) (E : Int) (r : Ending) (w' : World) : Prop := r = .returned (.tuple #[.float .f64 F, .int .i64 E]) ∧ Below W.heap.size W w'
theorem like_same (a : Nat) (w : World) : Calls Tryz.prog 8 #[.float .f64 a, .float .f64 a] w fun r w' => r = .returned (.bool true) ∧ w' = w :=
  (c54 a a w).mono fun r w' ⟨h1, h2⟩ => ⟨by rw [h1]; simp, h2⟩
end Go.Proofs.YtkmiohkpfdamoaaGreatDoor
namespace Go.Proofs.YtkmiohkpfdamoaaGreatDoor
set_option linter.unusedVariables false
set_option linter.unusedSimpArgs false
open Go.RowKit Go.Fl64
end Go.Proofs.YtkmiohkpfdamoaaGreatDoor
namespace Go.Proofs.YtkmiohkpfdamoaaGreatDoor
set_option linter.unusedVariables false
set_option linter.unusedSimpArgs false
open Go Go.RowKit Go.Fl64
theorem maybe3_at {na nb nc : Bool} {ua va wa : Option Addr} {un uc vn vc wn wc x y z g : Nat} {ea eb ec : Int} {W : World} (hg : W.heap[g]? = some (.cells #[.bool na, .slice ua un uc, .int .i64 ea, .bool nb, .slice va vn vc, .int .i64 eb, .bool nc, .slice wa wn wc, .int .i64 ec] 29 (0, 0)))
    (h1 : At W ua un x) (h2 : At W va vn y) (h3 : At W wa wn z) (s1 : un ≤ 35184372088832) (s2 : vn ≤ 35184372088832) (s3 : wn ≤ 35184372088832) :
    Calls Tryz.prog 13 #[.slice (some ⟨g, 0, none⟩) 3 3] W fun r w' => r = .returned (.bool (okN na un x ea && okN nb vn y eb && okN nc wn z ec)) ∧ Below W.heap.size W w' := by
  have k := c67 g 3 (fun i => if i = 0 then na else if i = 1 then nb else nc) (fun i => if i = 0 then ua else if i = 1 then va else wa) (fun i => if i = 0 then un else if i = 1 then vn else wn) (fun i => if i = 0 then uc else if i = 1 then vc else wc) (fun i => if i = 0 then x else if i = 1 then y else z) (fun i => if i = 0 then ea else if i = 1 then eb else ec) W (by omega)
    (fun i hi => by rcases (show i = 0 ∨ i = 1 ∨ i = 2 by omega) with rfl | rfl | rfl <;> simp [World.cell?, hg])
    (fun i hi => by rcases (show i = 0 ∨ i = 1 ∨ i = 2 by omega) with rfl | rfl | rfl <;> simp [World.cell?, hg])
    (fun i hi => by rcases (show i = 0 ∨ i = 1 ∨ i = 2 by omega) with rfl | rfl | rfl <;> simp [World.cell?, hg])
    (fun i hi => by rcases (show i = 0 ∨ i = 1 ∨ i = 2 by omega) with rfl | rfl | rfl <;> simp <;> assumption)
    (fun i hi => by rcases (show i = 0 ∨ i = 1 ∨ i = 2 by omega) with rfl | rfl | rfl <;> simp <;> assumption)
  refine k.mono fun r w' ⟨e, hb⟩ => ⟨e.trans ?_, hb⟩
  congr 2
  rw [Bool.eq_iff_iff, decide_eq_true_iff, Bool.and_eq_true, Bool.and_eq_true]
  constructor
  · intro h
    have q0 := h 0 (by omega)
    have q1 := h 1 (by omega)
    have q2 := h 2 (by omega)
    simp at q0 q1 q2
    exact ⟨⟨q0, q1⟩, q2⟩
  · rintro ⟨⟨q0, q1⟩, q2⟩ i hi
    rcases (show i = 0 ∨ i = 1 ∨ i = 2 by omega) with rfl | rfl | rfl <;> simp <;> assumption
theorem join_Up (nc : Bool) (uc : Option Addr) (lc kc : Nat) (ec : Int) (np : Bool) (up : Option Addr) (lp kp : Nat) (ep : Int) (nq : Bool) (uq : Option Addr) (lq kq : Nat) (eq : Int) (x y z : Nat) (w : World) (hT : Tab32 w) (hI : Ie.Tab w) (h1 : Arg w uc lc kc x) (h2 : Arg w up lp kp y) (h3 : Arg w uq lq kq z) (hx : dlen x ≤ lc) (hy : dlen y ≤ lp) (hz : dlen z ≤ lq) :
    ∃ F E, (∀ W X Y Z, Below w.heap.size w W → PI nc lc x ec W X → PI np lp y ep W Y → PI nq lq z eq W Z → Calls Tryz.prog 5 #[X, Y, Z] W fun r w' => Out2 W F E r w') ∧ (∀ W, Below w.heap.size w W → Calls Tryz.prog 7 #[.agg #[.bool nc, .slice uc lc kc, .int .i64 ec], .agg #[.bool np, .slice up lp kp, .int .i64 ep], .agg #[.bool nq, .slice uq lq kq, .int .i64 eq]] W fun r w' => Out2 W F E r w') := by
  cases hok : (okN nc lc x ec && okN np lp y ep && okN nq lq z eq)
  · refine ⟨0, 1, fun W X Y Z hW hX hY hZ => ?_, fun W hW => ?_⟩
    · obtain ⟨v1, b1, rfl, d1⟩ := hX
      obtain ⟨v2, b2, rfl, d2⟩ := hY
      obtain ⟨v3, b3, rfl, d3⟩ := hZ
      obtain ⟨pa, pc, rfl, -, p2⟩ := d1.at
      obtain ⟨qa, qc, rfl, -, q2⟩ := d2.at
      obtain ⟨ra, rc, rfl, -, r2⟩ := d3.at
      refine c60_ref nc np nq pa qa ra lc pc lp qc lq rc ec ep eq W fun W' g hW' hg => ?_
      have k := maybe3_at hg (p2.later hW') (q2.later hW') (r2.later hW') h1.small h2.small h3.small
      rw [hok] at k
      exact k
    · refine upOf_ref nc uc lc kc ec np up lp kp ep nq uq lq kq eq W fun W' g hW' hg => ?_
      have k := rknown3 hg ((h1.later hW).later hW') ((h2.later hW).later hW') ((h3.later hW).later hW')
      rw [hok] at k
      exact k
  · by_cases hd : np = true ∨ nq = true
    · refine ⟨0, 7, fun W X Y Z hW hX hY hZ => ?_, fun W hW => ?_⟩
      · obtain ⟨v1, b1, rfl, d1⟩ := hX
        obtain ⟨v2, b2, rfl, d2⟩ := hY
        obtain ⟨v3, b3, rfl, d3⟩ := hZ
        obtain ⟨pa, pc, rfl, -, p2⟩ := d1.at
        obtain ⟨qa, qc, rfl, -, q2⟩ := d2.at
        obtain ⟨ra, rc, rfl, -, r2⟩ := d3.at
        refine c60_dom nc np nq pa qa ra lc pc lp qc lq rc ec ep eq W hd fun W' g hW' hg => ?_
        have k := maybe3_at hg (p2.later hW') (q2.later hW') (r2.later hW') h1.small h2.small h3.small
        rw [hok] at k
        exact k
      · refine upOf_dom nc uc lc kc ec np up lp kp ep nq uq lq kq eq W hd fun W' g hW' hg => ?_
        have k := rknown3 hg ((h1.later hW).later hW') ((h2.later hW).later hW') ((h3.later hW).later hW')
        rw [hok] at k
        exact k
    · have hp0 : np = false := by cases np <;> simp_all
      have hq0 : nq = false := by cases nq <;> simp_all
      have hok2 := hok
      rw [Bool.and_eq_true, Bool.and_eq_true] at hok2
      obtain ⟨⟨o1, o2⟩, o3⟩ := hok2
      obtain rfl := okN_len hx o1
      obtain rfl := okN_len hy o2
      obtain rfl := okN_len hz o3
      have ok1 : Ok (nc, x, ec) := o1
      have ok2 : Ok (np, y, ep) := o2
      have ok3 : Ok (nq, z, eq) := o3
      have kU : ∀ W, Below w.heap.size w W → Calls Tryz.prog 24 #[.agg #[.bool nc, .slice uc (dlen x) kc, .int .i64 ec], .agg #[.bool np, .slice up (dlen y) kp, .int .i64 ep], .agg #[.bool nq, .slice uq (dlen z) kq, .int .i64 eq]] W fun r w' => ∃ n, r = .returned (.float .f64 (upA (nc, x, ec) (np, y, ep) (nq, z, eq) n)) ∧ Lst (nc, x, ec) (np, y, ep) (nq, z, eq) n ∧ Below W.heap.size W w' := fun W hW => upTo_ok ok1 ok2 ok3 ⟨uc, kc, rfl, h1.later hW⟩ ⟨up, kp, rfl, h2.later hW⟩ ⟨uq, kq, rfl, h3.later hW⟩
      obtain ⟨n, hn⟩ : ∃ n, Lst (nc, x, ec) (np, y, ep) (nq, z, eq) n := lst_ex _ _ _
      refine ⟨upA (nc, x, ec) (np, y, ep) (nq, z, eq) n, 0, fun W X Y Z hW hX hY hZ => ?_, fun W hW => ?_⟩
      · obtain ⟨v1, b1, rfl, d1⟩ := hX
        obtain ⟨v2, b2, rfl, d2⟩ := hY
        obtain ⟨v3, b3, rfl, d3⟩ := hZ
        refine (pup_ok (hT.later hW) (Tab.later hI hW) ok1 ok2 ok3 hp0 hq0 (dn_pn (s := nc) (e := ec) d1) (dn_pn (s := np) (e := ep) d2) (dn_pn (s := nq) (e := eq) d3)).mono ?_
        rintro r w' ⟨m, rfl, hm, hb⟩
        obtain rfl := hm.one hn
        exact ⟨rfl, hb⟩
      · refine (upOf_good nc uc (dlen x) kc ec np up (dlen y) kp ep nq uq (dlen z) kq eq (fun F => F = upA (nc, x, ec) (np, y, ep) (nq, z, eq) n) W hp0 hq0 (fun W' g hW' hg => ?_) (fun W' hW' => ?_)).mono ?_
        · have k := rknown3 hg ((h1.later hW).later hW') ((h2.later hW).later hW') ((h3.later hW).later hW')
          rw [hok] at k
          exact k
        · refine (kU W' (hW.trans (hW'.mono hW.size))).mono ?_
          rintro r w' ⟨m, rfl, hm, hb⟩
          obtain rfl := hm.one hn
          exact ⟨_, rfl, rfl, hb⟩
        · rintro r w' ⟨F, rfl, rfl, hb⟩
          exact ⟨rfl, hb⟩
set_option maxRecDepth 200000 in
theorem dyadUps_1 (nc : Bool) (uc : Option Addr) (lc kc : Nat) (ec : Int) (np : Bool) (up : Option Addr) (lp kp : Nat) (ep : Int) (nq : Bool) (uq : Option Addr) (lq kq : Nat) (eq : Int) (x y z F : Nat) (E : Int) (w : World) (h1 : Arg w uc lc kc x) (h2 : Arg w up lp kp y) (h3 : Arg w uq lq kq z)
    (kU : ∀ W X Y Z, Below w.heap.size w W → PI nc lc x ec W X → PI np lp y ep W Y → PI nq lq z eq W Z → Calls Tryz.prog 5 #[X, Y, Z] W fun r w' => Out2 W F E r w') (kO : ∀ W, Below w.heap.size w W → Calls Tryz.prog 7 #[.agg #[.bool nc, .slice uc lc kc, .int .i64 ec], .agg #[.bool np, .slice up lp kp, .int .i64 ep], .agg #[.bool nq, .slice uq lq kq, .int .i64 eq]] W fun r w' => Out2 W F E r w') (kW : ∀ W, Below w.heap.size w W → Calls Tryz.prog 9 #[] W fun r w' => r = .returned (.bool true) ∧ Below W.heap.size W w') :
    Calls Tryz.prog 3 #[.agg #[.bool nc, .slice uc lc kc, .int .i64 ec], .agg #[.bool np, .slice up lp kp, .int .i64 ep], .agg #[.bool nq, .slice uq lq kq, .int .i64 eq]] w fun r w' => r = .returned (.bool true) ∧ Below w.heap.size w w' := by
  obtain ⟨W, hW⟩ : ∃ W, W = ((w.alloc (.cells #[.bool nc, .slice uc lc kc, .int .i64 ec] 24)).alloc (.cells #[.bool np, .slice up lp kp, .int .i64 ep] 24)).alloc (.cells #[.bool nq, .slice uq lq kq, .int .i64 eq] 24) := ⟨_, rfl⟩
  obtain ⟨hA, hBb, hC, hsz, hBW⟩ := boxes3 _ _ _ hW
  have HH : Hid (Below w.heap.size w W ∧ W.heap.size = w.heap.size + 1 + 1 + 1) := ⟨hBW, hsz⟩
  have HK : Hid (∀ w', Below W.heap.size W w' → ((w'.cell? ⟨w.heap.size, 0, none⟩ = some (.bool nc) ∧ w'.cell? ⟨w.heap.size, 1, none⟩ = some (.slice uc lc kc) ∧ w'.cell? ⟨w.heap.size, 2, none⟩ = some (.int .i64 ec)) ∧ (w'.cell? ⟨w.heap.size + 1, 0, none⟩ = some (.bool np) ∧ w'.cell? ⟨w.heap.size + 1, 1, none⟩ = some (.slice up lp kp) ∧ w'.cell? ⟨w.heap.size + 1, 2, none⟩ = some (.int .i64 ep)) ∧ (w'.cell? ⟨w.heap.size + 1 + 1, 0, none⟩ = some (.bool nq) ∧ w'.cell? ⟨w.heap.size + 1 + 1, 1, none⟩ = some (.slice uq lq kq) ∧ w'.cell? ⟨w.heap.size + 1 + 1, 2, none⟩ = some (.int .i64 eq))) ∧ Below W.heap.size W w') := fun w' hb => ⟨⟨(box_cells29 (box_later hA hb (by omega))).1, (box_cells29 (box_later hBb hb (by omega))).1, (box_cells29 (box_later hC hb (by omega))).1⟩, hb⟩
  have g1 : ∀ w4, Below W.heap.size W w4 → Calls Tryz.prog 6 #[.agg #[.bool nc, .slice uc lc kc, .int .i64 ec]] w4 fun r w' => ∃ A, r = .returned A ∧ PI nc lc x ec w' A ∧ Below W.heap.size W w' := fun w4 hb => (give_ok ((h1.later hBW).later hb)).mono fun r w' ⟨v, e1, d, o2⟩ => ⟨_, e1, ⟨v, _, rfl, d⟩, hb.trans (o2.mono hb.size)⟩
  have g2 : ∀ X w4, PI nc lc x ec w4 X → Below W.heap.size W w4 → Calls Tryz.prog 6 #[.agg #[.bool np, .slice up lp kp, .int .i64 ep]] w4 fun r w' => ∃ A, r = .returned A ∧ PI np lp y ep w' A ∧ PI nc lc x ec w' X ∧ Below W.heap.size W w' := fun X w4 hX hb => (give_ok ((h2.later hBW).later hb)).mono fun r w' ⟨v, e1, d, o2⟩ => ⟨_, e1, ⟨v, _, rfl, d⟩, PI.lasts _ _ _ _ _ _ _ o2 hX, hb.trans (o2.mono hb.size)⟩
  have g3 : ∀ X Y w4, PI nc lc x ec w4 X → PI np lp y ep w4 Y → Below W.heap.size W w4 → Calls Tryz.prog 6 #[.agg #[.bool nq, .slice uq lq kq, .int .i64 eq]] w4 fun r w' => ∃ A, r = .returned A ∧ PI nq lq z eq w' A ∧ PI nc lc x ec w' X ∧ PI np lp y ep w' Y ∧ Below W.heap.size W w' := fun X Y w4 hX hY hb => (give_ok ((h3.later hBW).later hb)).mono fun r w' ⟨v, e1, d, o2⟩ => ⟨_, e1, ⟨v, _, rfl, d⟩, PI.lasts _ _ _ _ _ _ _ o2 hX, PI.lasts _ _ _ _ _ _ _ o2 hY, hb.trans (o2.mono hb.size)⟩
  have g4 : ∀ X Y Z w4, PI nc lc x ec w4 X → PI np lp y ep w4 Y → PI nq lq z eq w4 Z → Below W.heap.size W w4 → Calls Tryz.prog 5 #[X, Y, Z] w4 fun r w' => r = .returned (.tuple #[.float .f64 F, .int .i64 E]) ∧ Below W.heap.size W w' := fun X Y Z w4 hX hY hZ hb => (kU w4 X Y Z (hBW.trans (hb.mono hBW.size)) hX hY hZ).mono fun r w' ⟨e1, o2⟩ => ⟨e1, hb.trans (o2.mono hb.size)⟩
  have HO : Hid _ := kO
  have HW : Hid _ := kW
  obtain ⟨⟨⟨a0, a1, a2⟩, ⟨b0, b1, b2⟩, ⟨c0, c1, c2⟩⟩, -⟩ := HK.out W (Below.refl _ _)
  have hBR : Below W.heap.size W W.drew := (Below.refl _ _).drew
  clear hA hBb hC hsz hBW kU kO kW h1 h2 h3
  go_enter Tryz.func3, Tryz.ntmps3
  go_upto_region 1 with fail
  rw [← hW]
  clear hW
  go_cut [7, 8] from 12 to 20 (fun u v wx => u = .float .f64 F ∧ v = .int .i64 E ∧ Hid (Below W.heap.size W wx))
  case first =>
    go_region_held3 (fun w' => ((w'.cell? ⟨w.heap.size, 0, none⟩ = some (.bool nc) ∧ w'.cell? ⟨w.heap.size, 1, none⟩ = some (.slice uc lc kc) ∧ w'.cell? ⟨w.heap.size, 2, none⟩ = some (.int .i64 ec)) ∧ (w'.cell? ⟨w.heap.size + 1, 0, none⟩ = some (.bool np) ∧ w'.cell? ⟨w.heap.size + 1, 1, none⟩ = some (.slice up lp kp) ∧ w'.cell? ⟨w.heap.size + 1, 2, none⟩ = some (.int .i64 ep)) ∧ (w'.cell? ⟨w.heap.size + 1 + 1, 0, none⟩ = some (.bool nq) ∧ w'.cell? ⟨w.heap.size + 1 + 1, 1, none⟩ = some (.slice uq lq kq) ∧ w'.cell? ⟨w.heap.size + 1 + 1, 2, none⟩ = some (.int .i64 eq))) ∧ Below W.heap.size W w') (first | (with_reducible assumption) | exact ⟨⟨⟨a0, a1, a2⟩, ⟨b0, b1, b2⟩, ⟨c0, c1, c2⟩⟩, hBR⟩ | (refine HK.out _ ?_; with_reducible assumption) | go_keep)
      (first | (go_at_call 6; first | ((with_reducible refine (g1 _ (by first | (with_reducible assumption) | exact hBR)).mono ?_); rintro r w4 ⟨A4, rfl, d4, hb4⟩) | ((with_reducible refine (g2 _ _ d4 hb4).mono ?_); rintro r w5 ⟨A5, rfl, d5, d4, hb5⟩) | (refine (g3 _ _ _ d4 d5 hb5).mono ?_; rintro r w6 ⟨A6, rfl, d6, d4, d5, hb6⟩))
             | (go_at_call 5; refine (g4 _ _ _ _ d4 d5 d6 hb6).mono ?_; rintro r w7 ⟨rfl, hb7⟩))
    all_goals go_wp2_with fail
    all_goals go_meet
    all_goals exact ⟨rfl, rfl, hb7⟩
  case rest =>
    obtain ⟨w8, rfl⟩ : ∃ w8 : World, w8 = wc := ⟨_, rfl⟩
    obtain ⟨rfl, rfl, H8⟩ := hcut
    clear g1 g2 g3 g4 hBR a0 a1 a2 b0 b1 b2 c0 c1 c2
    obtain ⟨⟨⟨a0, a1, a2⟩, ⟨b0, b1, b2⟩, ⟨c0, c1, c2⟩⟩, -⟩ := HK.out w8 H8.out
    have HB8 : Hid (Below w.heap.size w w8) := HH.out.1.trans (H8.out.mono HH.out.1.size)
    have kk := HO.out w8 HB8.out
    go_wp2_with fail
    refine kk.mono ?_
    rintro r w9 ⟨rfl, hb9⟩
    have HB9 : Hid (Below w.heap.size w w9) := HB8.out.trans (hb9.mono HB8.out.size)
    clear kk hb9 a0 a1 a2 b0 b1 b2 c0 c1 c2
    have kk := like_same F w9
    have hee : (E == E) = true := beq_self_eq_true E
    go_wp2_with fail
    refine kk.mono ?_
    rintro r w' ⟨rfl, hw⟩
    rw [hw]
    clear hw kk w'
    have kk := HW.out w9 HB9.out
    go_wp2_with fail
    refine kk.mono ?_
    rintro r w10 ⟨rfl, hb10⟩
    have HB10 : Hid (Below w.heap.size w w10) := HB9.out.trans (hb10.mono HB9.out.size)
    clear kk hb10 HB9
    go_wp2_with fail
    go_ret
    exact ⟨rfl, HB10.out⟩
theorem dyadUps_ok (ng : Nat → Bool) (ao : Nat → Option Addr) (ln cp z : Nat → Nat) (e : Nat → Int) (w : World) (hA : ∀ i, i < 3 → Arg w (ao i) (ln i) (cp i) (z i)) (he : ∀ i, -9223372036854775808 ≤ e i ∧ e i ≤ 9223372036854775807) (hzl : ∀ i, i < 3 → dlen (z i) ≤ ln i)
    (hT : Tab32 w) (hI : Ie.Tab w) (h10 : Tab10 w) :
    Calls Tryz.prog 3 #[.agg #[.bool (ng 0), .slice (ao 0) (ln 0) (cp 0), .int .i64 (e 0)], .agg #[.bool (ng 1), .slice (ao 1) (ln 1) (cp 1), .int .i64 (e 1)], .agg #[.bool (ng 2), .slice (ao 2) (ln 2) (cp 2), .int .i64 (e 2)]] w fun r w' => r = .returned (.bool true) ∧ Below w.heap.size w w' := by
  obtain ⟨F, E, k1, k2⟩ := join_Up (ng 0) (ao 0) (ln 0) (cp 0) (e 0) (ng 1) (ao 1) (ln 1) (cp 1) (e 1) (ng 2) (ao 2) (ln 2) (cp 2) (e 2) (z 0) (z 1) (z 2) w hT hI (hA 0 (by omega)) (hA 1 (by omega)) (hA 2 (by omega)) (hzl 0 (by omega)) (hzl 1 (by omega)) (hzl 2 (by omega))
  exact dyadUps_1 (ng 0) (ao 0) (ln 0) (cp 0) (e 0) (ng 1) (ao 1) (ln 1) (cp 1) (e 1) (ng 2) (ao 2) (ln 2) (cp 2) (e 2) (z 0) (z 1) (z 2) F E w (hA 0 (by omega)) (hA 1 (by omega)) (hA 2 (by omega)) k1 k2 fun W hW => works_ok W (hT.later hW) (Tab.later hI hW) (h10.later hW)
end Go.Proofs.YtkmiohkpfdamoaaGreatDoor
