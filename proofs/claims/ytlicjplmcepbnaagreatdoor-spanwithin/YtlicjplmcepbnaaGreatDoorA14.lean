/- Own work: contracts of the program's functions, part 14: ST2 SQ6 ST3 ST4 ST5 SO9 SOA SOB SOC SOD ST6 ST7. -/
import Derived.Test.YtlicjplmcepbnaaGreatDoorA13
import Derived.Test.YtlicjplmcepbnaaGreatDoorA10
import Derived.Test.YtlicjplmcepbnaaGreatDoorA12
import Derived.Test.YtlicjplmcepbnaaGreatDoorA9

/- What lies within others: products. -/
namespace Go.Proofs.YtlicjplmcepbnaaGreatDoor
set_option linter.unusedVariables false
set_option linter.unusedSimpArgs false
open Go.RowKit Go.Fl64

/-- the sign of an end -/
theorem sg_stp {x : Nat} (hx : x < 18446744073709551616) (nx : isNaN x = false) : (sgE (eI x) (eT x) = 0 ∧ stp x = 0) ∨ (sgE (eI x) (eT x) = 1 ∧ 0 < stp x) ∨ (sgE (eI x) (eT x) = -1 ∧ stp x < 0) := by
  rw [sgn8 hx nx]
  unfold stp sgn
  by_cases h0 : mag x = 0
  · rw [if_pos h0, h0]; left; simp
  · rw [if_neg h0]
    by_cases hn : neg x = true
    · rw [if_pos hn]; right; right; rw [hn]; simp; omega
    · rw [if_neg hn]; right; left
      have : neg x = false := by simpa using hn
      rw [this]; simp; omega
theorem sg_inf {x : Nat} (hx : x < 18446744073709551616) (nx : isNaN x = false) (h : eI x ≠ 0) : sgE (eI x) (eT x) = eI x := by unfold sgE; rw [if_neg h]
theorem tm_fin {x y : Nat} (hx : x < 18446744073709551616) (hy : y < 18446744073709551616) (nx : isNaN x = false) (ny : isNaN y = false) (ex : eI x = 0) (ey : eI y = 0) {K : Nat} (hK : 2 * K = 5000000) :
    tmI (eI x) (eI y) (eT x) (eT y) = 0 ∧ V8 (tmT (eI x) (eI y) (eT x) (eT y)) = vz K (tF x).1 (tF x).2.1 (tF x).2.2 * vz K (tF y).1 (tF y).2.1 (tF y).2.2 := by
  have t1 : eT x = tF x := by unfold eT; rw [if_pos ex]
  have t2 : eT y = tF y := by unfold eT; rw [if_pos ey]
  unfold tmI tmT
  by_cases h : sgE (eI x) (eT x) = 0 ∨ sgE (eI y) (eT y) = 0
  · rw [if_pos h, if_pos h]
    refine ⟨rfl, ?_⟩
    rw [V8_zero]
    unfold sgE at h
    rw [if_pos ex, if_pos ey, t1, t2] at h
    have z : ∀ t : Bool × Nat × Int, (if t.2.1 = 0 then (0 : Int) else if t.1 = true then -1 else 1) = 0 → t.2.1 = 0 := fun t ht => by
      by_cases h0 : t.2.1 = 0
      · exact h0
      · rw [if_neg h0] at ht; split at ht <;> omega
    rcases h with h | h
    · rw [z _ h, vz_zero, Int.zero_mul]
    · rw [z _ h, vz_zero, Int.mul_zero]
  · rw [if_neg h, if_neg h, if_neg (by omega), if_neg (by omega), t1, t2]
    exact ⟨rfl, V8_tM (tF_ok x) (tF_ok y) hK⟩
theorem tm_inf1 {i j : Int} {t u : Bool × Nat × Int} (h0 : sgE i t ≠ 0) (h1 : sgE j u ≠ 0) (h : i ≠ 0 ∨ j ≠ 0) : tmI i j t u = sgE i t * sgE j u ∧ tmT i j t u = (false, 0, 0) := by
  unfold tmI tmT
  have hn : ¬ (sgE i t = 0 ∨ sgE j u = 0) := fun h => h.elim h0 h1
  rw [if_neg hn, if_neg hn, if_pos h, if_pos h]
  exact ⟨rfl, rfl⟩
theorem tm_z {i j : Int} {t u : Bool × Nat × Int} (h : sgE i t = 0 ∨ sgE j u = 0) : tmI i j t u = 0 ∧ tmT i j t u = (false, 0, 0) := by
  unfold tmI tmT
  rw [if_pos h, if_pos h]
  exact ⟨rfl, rfl⟩
/-- products with a number that is not below nought rise; with one that is not above it they fall -/
theorem tm_mono {x x' y : Nat} (hx : x < 18446744073709551616) (hx' : x' < 18446744073709551616) (hy : y < 18446744073709551616) (nx : isNaN x = false) (nx' : isNaN x' = false) (ny : isNaN y = false) (h : stp x ≤ stp x') :
    (0 ≤ stp y → xle (tmI (eI x) (eI y) (eT x) (eT y)) (tmI (eI x') (eI y) (eT x') (eT y)) (tmT (eI x) (eI y) (eT x) (eT y)) (tmT (eI x') (eI y) (eT x') (eT y))) ∧
    (stp y ≤ 0 → xle (tmI (eI x') (eI y) (eT x') (eT y)) (tmI (eI x) (eI y) (eT x) (eT y)) (tmT (eI x') (eI y) (eT x') (eT y)) (tmT (eI x) (eI y) (eT x) (eT y))) := by
  obtain ⟨K, hK⟩ : ∃ K : Nat, K = 2500000 := ⟨_, rfl⟩
  have hK2 : 2 * K = 5000000 := by rw [hK]
  have xl := xle_stp hx hx' nx nx' h
  by_cases y0 : stp y = 0
  · have zy : sgE (eI y) (eT y) = 0 := by rcases sg_stp hy ny with h | h | h <;> omega
    obtain ⟨a1, a2⟩ := tm_z (i := eI x) (t := eT x) (.inr zy)
    obtain ⟨b1, b2⟩ := tm_z (i := eI x') (t := eT x') (.inr zy)
    rw [a1, a2, b1, b2]
    exact ⟨fun _ => xle_refl _ _, fun _ => xle_refl _ _⟩
  · have sy : sgE (eI y) (eT y) ≠ 0 := by rcases sg_stp hy ny with h | h | h <;> omega
    by_cases fy : eI y = 0 ∧ eI x = 0 ∧ eI x' = 0
    · obtain ⟨ey, ex, ex'⟩ := fy
      obtain ⟨a1, a2⟩ := tm_fin hx hy nx ny ex ey hK2
      obtain ⟨b1, b2⟩ := tm_fin hx' hy nx' ny ex' ey hK2
      have t1 : eT x = tF x := by unfold eT; rw [if_pos ex]
      have t2 : eT x' = tF x' := by unfold eT; rw [if_pos ex']
      have v1 : V8 (tF x) ≤ V8 (tF x') := by
        rcases xl with h | h
        · omega
        · rw [← t1, ← t2]; exact h.2 ex
      have hp : (0 : Int) < ((2 ^ K : Nat) : Int) := by exact_mod_cast Nat.two_pow_pos _
      rw [V8_K (tF_ok x) hK2, V8_K (tF_ok x') hK2] at v1
      have v2 := Int.le_of_mul_le_mul_right v1 hp
      have cy := eI_three hy ny
      have my : mag y < 9218868437227405312 := by rcases cy with c | c | c <;> first | omega | exact c.2.1
      have sgy : (0 ≤ stp y → 0 ≤ vz K (tF y).1 (tF y).2.1 (tF y).2.2) ∧ (stp y ≤ 0 → vz K (tF y).1 (tF y).2.1 (tF y).2.2 ≤ 0) := by
        have z : tF 0 = (false, 0, 0) := by decide +kernel
        have s0 : stp 0 = 0 := by decide
        refine ⟨fun h => ?_, fun h => ?_⟩
        · have k := (V8_cmp (a := 0) (b := y) (by omega) hy (by decide) my).2 (by omega)
          rw [z, V8_zero, V8_K (tF_ok y) hK2] at k
          exact (K_pos (Nat.two_pow_pos K)).1.1 k
        · have k := (V8_cmp (a := y) (b := 0) hy (by omega) my (by decide)).2 (by omega)
          rw [z, V8_zero, V8_K (tF_ok y) hK2] at k
          exact (K_pos (Nat.two_pow_pos K)).2.1 k
      refine ⟨fun hs => .inr ⟨by rw [a1, b1], fun _ => ?_⟩, fun hs => .inr ⟨by rw [a1, b1], fun _ => ?_⟩⟩
      · rw [a2, b2]; exact Int.mul_le_mul_of_nonneg_right v2 (sgy.1 hs)
      · rw [a2, b2]; exact Int.mul_le_mul_of_nonpos_right v2 (sgy.2 hs)
    · -- something is without end
      have tmv : ∀ z, z < 18446744073709551616 → isNaN z = false → (eI y ≠ 0 ∨ eI z ≠ 0) → tmI (eI z) (eI y) (eT z) (eT y) = sgE (eI z) (eT z) * sgE (eI y) (eT y) ∧ tmT (eI z) (eI y) (eT z) (eT y) = (false, 0, 0) := fun z hz nz hi => by
        by_cases sz : sgE (eI z) (eT z) = 0
        · obtain ⟨q1, q2⟩ := tm_z (i := eI z) (j := eI y) (t := eT z) (u := eT y) (.inl sz)
          rw [q1, q2, sz, Int.zero_mul]; exact ⟨rfl, rfl⟩
        · exact tm_inf1 sz sy (by omega)
      have tmf : ∀ z, z < 18446744073709551616 → isNaN z = false → eI y = 0 → eI z = 0 → tmI (eI z) (eI y) (eT z) (eT y) = 0 := fun z hz nz h1 h2 => (tm_fin hz hy nz ny h2 h1 hK2).1
      have cy := sg_stp hy ny
      have cx := sg_stp hx nx
      have cx' := sg_stp hx' nx'
      by_cases ey : eI y = 0
      · have w : ∀ z, z < 18446744073709551616 → isNaN z = false → tmI (eI z) (eI y) (eT z) (eT y) = eI z * sgE (eI y) (eT y) ∧ (eI z ≠ 0 → tmT (eI z) (eI y) (eT z) (eT y) = (false, 0, 0)) := fun z hz nz => by
          by_cases ez : eI z = 0
          · rw [tmf z hz nz ey ez, ez, Int.zero_mul]; exact ⟨rfl, fun h => absurd rfl h⟩
          · obtain ⟨q1, q2⟩ := tmv z hz nz (.inr ez)
            rw [q1, sg_inf hz nz ez]; exact ⟨rfl, fun _ => q2⟩
        obtain ⟨a1, a2⟩ := w x hx nx
        obtain ⟨b1, b2⟩ := w x' hx' nx'
        have hle : eI x ≤ eI x' := by rcases xl with h | h <;> omega
        have hne : eI x ≠ eI x' ∨ (eI x = eI x' ∧ eI x ≠ 0) := by omega
        rw [a1, b1]
        rcases cy with cy | cy | cy
        · exact absurd cy.1 sy
        · rw [cy.1, Int.mul_one, Int.mul_one]
          refine ⟨fun _ => ?_, fun h => by omega⟩
          rcases hne with h | ⟨h, h'⟩
          · exact .inl (by omega)
          · exact .inr ⟨h, fun h0 => absurd h0 h'⟩
        · rw [cy.1, show eI x * -1 = -eI x by omega, show eI x' * -1 = -eI x' by omega]
          refine ⟨fun h => by omega, fun _ => ?_⟩
          rcases hne with h | ⟨h, h'⟩
          · exact .inl (by omega)
          · exact .inr ⟨by omega, fun h0 => by omega⟩
      · obtain ⟨a1, a2⟩ := tmv x hx nx (.inl ey)
        obtain ⟨b1, b2⟩ := tmv x' hx' nx' (.inl ey)
        rw [a1, a2, b1, b2]
        rcases cy with cy | cy | cy
        · exact absurd cy.1 sy
        · rw [cy.1, Int.mul_one, Int.mul_one]
          refine ⟨fun _ => ?_, fun h => by omega⟩
          rcases (show sgE (eI x) (eT x) < sgE (eI x') (eT x') ∨ sgE (eI x) (eT x) = sgE (eI x') (eT x') by rcases cx with h | h | h <;> rcases cx' with h' | h' | h' <;> omega) with h | h
          · exact .inl h
          · exact .inr ⟨h, fun _ => Int.le_refl _⟩
        · rw [cy.1, show sgE (eI x) (eT x) * -1 = -sgE (eI x) (eT x) by omega, show sgE (eI x') (eT x') * -1 = -sgE (eI x') (eT x') by omega]
          refine ⟨fun h => by omega, fun _ => ?_⟩
          rcases (show sgE (eI x) (eT x) < sgE (eI x') (eT x') ∨ sgE (eI x) (eT x) = sgE (eI x') (eT x') by rcases cx with h | h | h <;> rcases cx' with h' | h' | h' <;> omega) with h | h
          · exact .inl (by omega)
          · exact .inr ⟨by omega, fun _ => Int.le_refl _⟩
theorem PE_in {c d x y : Nat} (hc : c < 18446744073709551616) (hd : d < 18446744073709551616) (hx : x < 18446744073709551616) (hy : y < 18446744073709551616) (nc : isNaN c = false) (nd : isNaN d = false) (nx : isNaN x = false) (ny : isNaN y = false) (h1 : stp c ≤ stp x) (h2 : stp x ≤ stp d) {m : Int} (hm : 1 ≤ m ∧ m ≤ 3) :
    min (stp (PE c y m)) (stp (PE d y m)) ≤ stp (PE x y m) ∧ stp (PE x y m) ≤ max (stp (PE c y m)) (stp (PE d y m)) := by
  have a := tm_mono hc hx hy nc nx ny h1
  have b := tm_mono hx hd hy nx nd ny h2
  unfold PE
  rcases Int.le_total 0 (stp y) with h | h
  · have k1 := enF_mono2 (tmT_ok8 _ _) (tmT_ok8 _ _) hm (a.1 h)
    have k2 := enF_mono2 (tmT_ok8 _ _) (tmT_ok8 _ _) hm (b.1 h)
    omega
  · have k1 := enF_mono2 (tmT_ok8 _ _) (tmT_ok8 _ _) hm (a.2 h)
    have k2 := enF_mono2 (tmT_ok8 _ _) (tmT_ok8 _ _) hm (b.2 h)
    omega
theorem tmI_one {x y : Nat} (hx : x < 18446744073709551616) (hy : y < 18446744073709551616) (nx : isNaN x = false) (ny : isNaN y = false) :
    (tmI (eI x) (eI y) (eT x) (eT y) = 1 → (eI x ≠ 0 ∨ eI y ≠ 0) ∧ ((0 < stp x ∧ 0 < stp y) ∨ (stp x < 0 ∧ stp y < 0))) ∧
    (tmI (eI x) (eI y) (eT x) (eT y) = -1 → (eI x ≠ 0 ∨ eI y ≠ 0) ∧ ((0 < stp x ∧ stp y < 0) ∨ (stp x < 0 ∧ 0 < stp y))) := by
  have cx := sg_stp hx nx
  have cy := sg_stp hy ny
  unfold tmI
  by_cases h : sgE (eI x) (eT x) = 0 ∨ sgE (eI y) (eT y) = 0
  · rw [if_pos h]; exact ⟨fun h => by omega, fun h => by omega⟩
  · rw [if_neg h]
    by_cases h2 : eI x ≠ 0 ∨ eI y ≠ 0
    · rw [if_pos h2]
      rcases cx with c | c | c
      · omega
      · rcases cy with d | d | d
        · omega
        · rw [c.1, d.1]; exact ⟨fun _ => ⟨h2, .inl ⟨c.2, d.2⟩⟩, fun h => by omega⟩
        · rw [c.1, d.1]; exact ⟨fun h => by omega, fun _ => ⟨h2, .inl ⟨c.2, d.2⟩⟩⟩
      · rcases cy with d | d | d
        · omega
        · rw [c.1, d.1]; exact ⟨fun h => by omega, fun _ => ⟨h2, .inr ⟨c.2, d.2⟩⟩⟩
        · rw [c.1, d.1]; exact ⟨fun _ => ⟨h2, .inr ⟨c.2, d.2⟩⟩, fun h => by omega⟩
    · rw [if_neg h2]; exact ⟨fun h => by omega, fun h => by omega⟩
theorem eI_sign {x : Nat} (hx : x < 18446744073709551616) (nx : isNaN x = false) : (eI x = -1 → stp x < 0) ∧ (eI x = 1 → 0 < stp x) := by
  rcases eI_three hx nx with ⟨e1, -, s1⟩ | ⟨e1, -, s1⟩ | ⟨e1, -⟩ <;> omega
/-- not all four corners are without end on one side -/
theorem corner {ea eb ec ed sa sb sc sd : Int} (a1 : ea ≤ 0) (b1 : 0 ≤ eb) (c1 : ec ≤ 0) (d1 : 0 ≤ ed) (a2 : -1 ≤ ea) (b2 : eb ≤ 1) (c2 : -1 ≤ ec) (d2 : ed ≤ 1) (ga : ea = -1 → sa < 0) (gb : eb = 1 → 0 < sb) (gc : ec = -1 → sc < 0) (gd : ed = 1 → 0 < sd) :
    ((ea ≠ 0 ∨ ec ≠ 0) ∧ ((0 < sa ∧ 0 < sc) ∨ (sa < 0 ∧ sc < 0)) → (eb ≠ 0 ∨ ed ≠ 0) ∧ ((0 < sb ∧ 0 < sd) ∨ (sb < 0 ∧ sd < 0)) → ((0 < sa ∧ 0 < sd) ∨ (sa < 0 ∧ sd < 0)) → False) ∧
    ((ea ≠ 0 ∨ ed ≠ 0) ∧ ((0 < sa ∧ sd < 0) ∨ (sa < 0 ∧ 0 < sd)) → (eb ≠ 0 ∨ ec ≠ 0) ∧ ((0 < sb ∧ sc < 0) ∨ (sb < 0 ∧ 0 < sc)) → ((0 < sa ∧ sc < 0) ∨ (sa < 0 ∧ 0 < sc)) → False) := by
  refine ⟨fun h1 h2 h3 => ?_, fun h1 h2 h3 => ?_⟩
  · rcases h1.2 with h | h
    · have z1 : ea = 0 := Decidable.byContradiction fun hn => by have := ga (by omega); omega
      have z2 : ec = 0 := Decidable.byContradiction fun hn => by have := gc (by omega); omega
      rcases h1.1 with g | g <;> contradiction
    · have hd : sd < 0 := by omega
      have hb : sb < 0 := by omega
      have z1 : eb = 0 := Decidable.byContradiction fun hn => by have := gb (by omega); omega
      have z2 : ed = 0 := Decidable.byContradiction fun hn => by have := gd (by omega); omega
      rcases h2.1 with g | g <;> contradiction
  · rcases h1.2 with h | h
    · have z1 : ea = 0 := Decidable.byContradiction fun hn => by have := ga (by omega); omega
      have z2 : ed = 0 := Decidable.byContradiction fun hn => by have := gd (by omega); omega
      rcases h1.1 with g | g <;> contradiction
    · have hc : 0 < sc := by omega
      have hb : sb < 0 := by omega
      have z1 : eb = 0 := Decidable.byContradiction fun hn => by have := gb (by omega); omega
      have z2 : ec = 0 := Decidable.byContradiction fun hn => by have := gc (by omega); omega
      rcases h2.1 with g | g <;> contradiction
theorem mul_vI {a b c d : Nat} (ha : a < 18446744073709551616) (hb : b < 18446744073709551616) (hc : c < 18446744073709551616) (hd : d < 18446744073709551616) (h1 : vI a b = true) (h2 : vI c d = true) : vI (mlo a b c d) (mhi a b c d) = true := by
  obtain ⟨na, nb, ia, ib, s1⟩ := vI_ends5 ha hb h1
  obtain ⟨nc, nd, ic, id, s2⟩ := vI_ends5 hc hd h2
  obtain ⟨l1, l2, l3, l4, l5, l6⟩ := mlo_ok a b c d
  have k1 := mlo_min ha hb hc hd na nb nc nd
  have k3 := mhi_max ha hb hc hd na nb nc nd
  have md := enF_modes (tmI (eI a) (eI c) (eT a) (eT c)) (tmT_ok8 a c)
  have ea := eI_b a
  have eb := eI_b b
  have ec := eI_b c
  have ed := eI_b d
  have ga := eI_sign ha na
  have gb := eI_sign hb nb
  have gc := eI_sign hc nc
  have gd := eI_sign hd nd
  have t1 := tmI_one ha hc na nc
  have t2 := tmI_one ha hd na nd
  have t3 := tmI_one hb hc nb nc
  have t4 := tmI_one hb hd nb nd
  have b1 := tmI_b8 a c
  have b2 := tmI_b8 a d
  have b3 := tmI_b8 b c
  have b4 := tmI_b8 b d
  have cr := corner (sa := stp a) (sb := stp b) (sc := stp c) (sd := stp d) ia ib ic id ea.1 eb.2 ec.1 ed.2 ga.1 gb.2 gc.1 gd.2
  have m1 : stp (PE a c 1) ≤ stp (PE a c 3) := md
  have lowc : stp (PE a c 1) < 9218868437227405312 ∨ stp (PE a d 1) < 9218868437227405312 ∨ stp (PE b c 1) < 9218868437227405312 ∨ stp (PE b d 1) < 9218868437227405312 := by
    by_cases z1 : tmI (eI a) (eI c) (eT a) (eT c) = 1
    · by_cases z2 : tmI (eI a) (eI d) (eT a) (eT d) = 1
      · by_cases z4 : tmI (eI b) (eI d) (eT b) (eT d) = 1
        · exact (cr.1 (t1.1 z1) (t4.1 z4) (t2.1 z2).2).elim
        · exact .inr (.inr (.inr (enF_dn1 (by omega))))
      · exact .inr (.inl (enF_dn1 (by omega)))
    · exact .inl (enF_dn1 (by omega))
  have hic : -9218868437227405312 < stp (PE a c 3) ∨ -9218868437227405312 < stp (PE a d 3) ∨ -9218868437227405312 < stp (PE b c 3) ∨ -9218868437227405312 < stp (PE b d 3) := by
    by_cases z1 : tmI (eI a) (eI d) (eT a) (eT d) = -1
    · by_cases z2 : tmI (eI a) (eI c) (eT a) (eT c) = -1
      · by_cases z4 : tmI (eI b) (eI c) (eT b) (eT c) = -1
        · exact (cr.2 (t2.2 z1) (t3.2 z4) (t1.2 z2).2).elim
        · exact .inr (.inr (.inl (enF_up3 (tmT_ok8 b c) (by omega))))
      · exact .inl (enF_up3 (tmT_ok8 a c) (by omega))
    · exact .inr (.inl (enF_up3 (tmT_ok8 a d) (by omega)))
  refine mkvI l3 l4 l5 l6 ?_ ?_ ?_
  · rw [k1, k3]; clear k1 k3 cr t1 t2 t3 t4 ga gb gc gd; omega
  · rw [k1]; clear k1 k3 cr t1 t2 t3 t4 ga gb gc gd; omega
  · rw [k3]; clear k1 k3 cr t1 t2 t3 t4 ga gb gc gd; omega
theorem mul_within {a b c d x y : Nat} (ha : a < 18446744073709551616) (hb : b < 18446744073709551616) (hc : c < 18446744073709551616) (hd : d < 18446744073709551616) (hx : x < 18446744073709551616) (hy : y < 18446744073709551616) (h : wI a b c d = true) (h2 : vI x y = true) :
    wI (mlo a b x y) (mhi a b x y) (mlo c d x y) (mhi c d x y) = true := by
  obtain ⟨v1, v2, s1, s2⟩ := wI_un h
  obtain ⟨na, nb, -, -, s3⟩ := vI_ends5 ha hb v1
  obtain ⟨nc, nd, -, -, s4⟩ := vI_ends5 hc hd v2
  obtain ⟨nx, ny, -, -, -⟩ := vI_ends5 hx hy h2
  refine wI_mk (mul_vI ha hb hx hy v1 h2) (mul_vI hc hd hx hy v2 h2) ?_ ?_
  · rw [mlo_min ha hb hx hy na nb nx ny, mlo_min hc hd hx hy nc nd nx ny]
    have p1 := (PE_in hc hd ha hx nc nd na nx s1 (by omega) (m := 1) (by omega)).1
    have p2 := (PE_in hc hd ha hy nc nd na ny s1 (by omega) (m := 1) (by omega)).1
    have p3 := (PE_in hc hd hb hx nc nd nb nx (by omega) s2 (m := 1) (by omega)).1
    have p4 := (PE_in hc hd hb hy nc nd nb ny (by omega) s2 (m := 1) (by omega)).1
    omega
  · rw [mhi_max ha hb hx hy na nb nx ny, mhi_max hc hd hx hy nc nd nx ny]
    have p1 := (PE_in hc hd ha hx nc nd na nx s1 (by omega) (m := 3) (by omega)).2
    have p2 := (PE_in hc hd ha hy nc nd na ny s1 (by omega) (m := 3) (by omega)).2
    have p3 := (PE_in hc hd hb hx nc nd nb nx (by omega) s2 (m := 3) (by omega)).2
    have p4 := (PE_in hc hd hb hy nc nd nb ny (by omega) s2 (m := 3) (by omega)).2
    omega
end Go.Proofs.YtlicjplmcepbnaaGreatDoor
/- SpanPowers. -/
namespace Go.Proofs.YtlicjplmcepbnaaGreatDoor
set_option linter.unusedVariables false
set_option linter.unusedSimpArgs false
open Go.RowKit Go.Fl64
attribute [local go_sem] run_store_flt

end Go.Proofs.YtlicjplmcepbnaaGreatDoor
/- What lies within others: powers. -/
namespace Go.Proofs.YtlicjplmcepbnaaGreatDoor
set_option linter.unusedVariables false
set_option linter.unusedSimpArgs false
open Go.RowKit Go.Fl64

theorem bdy_monoW {K : Nat} (hK : 1200 ≤ K) {x y : Nat} {e f : Int} (he : 64 - e ≤ K) (hf : 64 - f ≤ K) {way : Nat} (hw : way = 0 ∨ way = 1 ∨ way = 2) (h : VA K x e ≤ VA K y f) : bdy x e way ≤ bdy y f way := by
  by_cases hx : x = 0
  · unfold bdy; rw [if_pos hx]; omega
  · by_cases hy : y = 0
    · subst hy
      rw [VA_zero] at h
      have := VA_ne (K := K) (e := e) hx
      omega
    · have r1 : Rounds (VA K x e) (UU K) (rwb x e way) way := rwb_rounds hx hK he
      have r2 : Rounds (VA K y f) (UU K) (rwb y f way) way := rwb_rounds hy hK hf
      have hm := Rounds.mono hw r1 r2 h
      unfold bdy
      rw [if_neg hx, if_neg hy]
      split
      · split
        · exact hm
        · split <;> omega
      · rw [if_neg (show ¬ rwb y f way < 9218868437227405312 by omega)]
        exact Nat.le_refl _
theorem bdy_modesW {K : Nat} (hK : 1200 ≤ K) {x : Nat} {e : Int} (he : 64 - e ≤ K) : bdy x e 0 ≤ bdy x e 2 := by
  by_cases hx : x = 0
  · unfold bdy; rw [if_pos hx]; omega
  · have r : ∀ way, Rounds (VA K x e) (UU K) (rwb x e way) way := fun way => rwb_rounds hx hK he
    obtain ⟨h1, h2, -⟩ := Rounds.order (r 0) (r 1) (r 2)
    unfold bdy
    rw [if_neg hx, if_neg hx]
    split
    · split
      · omega
      · rw [if_neg (by decide)]; omega
    · rw [if_pos rfl, if_neg (by omega), if_neg (by decide)]; omega
theorem ord_roundW {K : Nat} (hK : 1200 ≤ K) {s t : Bool} {x y : Nat} {e f m : Int} (he : 64 - e ≤ K) (hf : 64 - f ≤ K) (hz : y = 0 → t = false) (hm : 1 ≤ m ∧ m ≤ 3) (h : sv s (VA K x e) ≤ sv t (VA K y f)) : stp (tfF s true x e m) ≤ stp (tfF t true y f m) := by
  rw [tf_bdy hm, tf_bdy hm, (stp_sig (bdy_le _ _ _)).1, (stp_sig (bdy_le _ _ _)).1]
  cases s
  · cases t
    · simp only [sv] at h ⊢
      have := bdy_monoW hK he hf (wyN_ways false m) (show VA K x e ≤ VA K y f by simpa using h)
      simpa using this
    · simp only [sv] at h
      have h1 : VA K y f = 0 := by simp at h; omega
      have h2 : y = 0 := Decidable.byContradiction fun hne => by have := VA_ne (K := K) (e := f) hne; omega
      have := hz h2
      simp at this
  · cases t
    · have h1 : (0 : Int) ≤ ((bdy x e (wyN true m) : Nat) : Int) := Int.natCast_nonneg _
      have h2 : (0 : Int) ≤ ((bdy y f (wyN false m) : Nat) : Int) := Int.natCast_nonneg _
      show -((bdy x e (wyN true m) : Nat) : Int) ≤ ((bdy y f (wyN false m) : Nat) : Int)
      omega
    · simp only [sv] at h ⊢
      have := bdy_monoW hK hf he (wyN_ways true m) (show VA K y f ≤ VA K x e by simp at h; omega)
      simp
      exact_mod_cast this
theorem modesW {K : Nat} (hK : 1200 ≤ K) (s : Bool) {x : Nat} {e : Int} (he : 64 - e ≤ K) : stp (tfF s true x e 1) ≤ stp (tfF s true x e 3) := by
  have h := bdy_modesW hK (x := x) he
  rw [tf_bdy (by omega), tf_bdy (by omega), (stp_sig (bdy_le _ _ _)).1, (stp_sig (bdy_le _ _ _)).1]
  cases s
  · rw [show wyN false 1 = 0 from rfl, show wyN false 3 = 2 from rfl]
    simp only [sv]; simp; exact_mod_cast h
  · rw [show wyN true 1 = 2 from rfl, show wyN true 3 = 0 from rfl]
    simp only [sv]; simp; exact_mod_cast h
theorem toD_tfW {t : Bool × Nat × Int} (h : t.2.1 = 0 → t.1 = false) {m : Int} (hm : 1 ≤ m ∧ m ≤ 3) : toD t m = tfF t.1 true t.2.1 t.2.2 m := by
  unfold toD
  by_cases h0 : t.2.1 = 0
  · rw [if_pos h0, h h0, tf_bdy hm, h0]
    have e : bdy 0 t.2.2 (wyN false m) = 0 := by unfold bdy; rw [if_pos rfl]
    rw [e]; rfl
  · rw [if_neg h0]
theorem toD_up3W {t : Bool × Nat × Int} (h : t.2.1 = 0 → t.1 = false) : -9218868437227405312 < stp (toD t 3) := by
  rw [toD_tfW h (by omega), tf_bdy (by omega), (stp_sig (bdy_le _ _ _)).1]
  cases hs : t.1
  · have : (0 : Int) ≤ ((bdy t.2.1 t.2.2 (wyN false 3) : Nat) : Int) := Int.natCast_nonneg _
    simp only [sv]; simp; omega
  · rw [show wyN true 3 = 0 from rfl]
    have hb : bdy t.2.1 t.2.2 0 < 9218868437227405312 := by
      unfold bdy
      split
      · omega
      · split
        · assumption
        · rw [if_pos rfl]; omega
    simp only [sv]; simp; omega
theorem tF_e {x : Nat} : -1074 ≤ (tF x).2.2 := by
  have h := tF_fits x
  have hz := (tF_ok x).facts.2.2.2.1
  rcases h with h | h
  · rw [hz h]; decide
  · exact h.1
theorem tF_z {x : Nat} (h : (tF x).2.1 = 0) : (tF x).1 = false := by
  rw [(tF_ok x).facts.2.2.2.1 h]
theorem VA_scale {K L x : Nat} {e : Int} (h : 0 ≤ e + K) : VA (K + L) x e = VA K x e * 2 ^ L := by
  unfold VA
  obtain ⟨E, hE⟩ : ∃ E : Nat, e + K = E := ⟨(e + K).toNat, by omega⟩
  rw [show (e + ((K + L : Nat) : Int)).toNat = E + L by omega, show (e + (K : Int)).toNat = E by omega, Nat.pow_add, Nat.mul_assoc]
/-- the order of floats by their numbers in units of 2^-2400 -/
theorem sv_cmp {x y : Nat} (hx : x < 18446744073709551616) (hy : y < 18446744073709551616) (fx : mag x < 9218868437227405312) (fy : mag y < 9218868437227405312) : sv (tF x).1 (VA 2400 (tF x).2.1 (tF x).2.2) ≤ sv (tF y).1 (VA 2400 (tF y).2.1 (tF y).2.2) ↔ stp x ≤ stp y := by
  rw [← V8_cmp hx hy fx fy]
  unfold V8
  obtain ⟨L, hL⟩ : ∃ L : Nat, 5000000 = 2400 + L := ⟨4997600, by decide⟩
  rw [hL, vz_VA, vz_VA]
  have e1 : (-1074 : Int) ≤ (tF x).2.2 := tF_e
  have e2 : (-1074 : Int) ≤ (tF y).2.2 := tF_e
  rw [VA_scale (K := 2400) (L := L) (by omega), VA_scale (K := 2400) (L := L) (by omega)]
  have hp : 0 < 2 ^ L := Nat.two_pow_pos L
  generalize 2 ^ L = P at hp
  generalize VA 2400 (tF x).2.1 (tF x).2.2 = A
  generalize VA 2400 (tF y).2.1 (tF y).2.2 = B
  have hP : (0 : Int) < (P : Int) := by omega
  have mulsv : ∀ (s : Bool) (A : Nat), sv s (A * P) = sv s A * (P : Int) := fun s A => by
    unfold sv
    split
    · rw [Int.natCast_mul, Int.neg_mul]
    · rw [Int.natCast_mul]
  rw [mulsv, mulsv]
  exact ⟨fun h => Int.mul_le_mul_of_nonneg_right h (by omega), fun h => Int.le_of_mul_le_mul_right h hP⟩
theorem pw_VA {t : Bool × Nat × Int} {n : Nat} (hn : 1 ≤ n) (he : -1074 ≤ t.2.2) : VA (2400 * n) (pw t n).2.1 (pw t n).2.2 = (VA 2400 t.2.1 t.2.2) ^ n := by
  unfold pw
  by_cases h0 : t.2.1 = 0
  · rw [if_pos h0, h0]
    unfold VA
    rw [if_neg (by omega), Nat.zero_mul, Nat.zero_mul, Nat.zero_pow (by omega)]
  · rw [if_neg h0]
    unfold VA
    obtain ⟨E, hE⟩ : ∃ E : Nat, t.2.2 + 2400 = E := ⟨(t.2.2 + 2400).toNat, by omega⟩
    have h1 : t.2.2 * (n : Int) + ((2400 * n : Nat) : Int) = ((E * n : Nat) : Int) := by
      rw [Int.natCast_mul, Int.natCast_mul, ← hE]
      rw [Int.add_mul]
      rfl
    show t.2.1 ^ n * 2 ^ (t.2.2 * (n : Int) + ((2400 * n : Nat) : Int)).toNat = _
    rw [h1, Int.toNat_natCast, show (t.2.2 + ((2400 : Nat) : Int)).toNat = E by omega, Nat.mul_pow, Nat.pow_mul]
theorem pw_e {t : Bool × Nat × Int} {n : Nat} (hn : 1 ≤ n) (he : -1074 ≤ t.2.2) : 64 - (pw t n).2.2 ≤ ((2400 * n : Nat) : Int) := by
  unfold pw
  split
  · simp only; omega
  · show 64 - t.2.2 * (n : Int) ≤ _
    have h := Int.mul_le_mul_of_nonneg_right he (show (0 : Int) ≤ (n : Int) by omega)
    omega
theorem pw_z {t : Bool × Nat × Int} {n : Nat} (h : (pw t n).2.1 = 0) : (pw t n).1 = false := by
  unfold pw at h ⊢
  by_cases h0 : t.2.1 = 0
  · rw [if_pos h0]
  · rw [if_neg h0] at h
    exact absurd (Nat.pow_eq_zero.1 h).1 h0
theorem pw_mono {x y n : Nat} (hx : x < 18446744073709551616) (hy : y < 18446744073709551616) (fx : mag x < 9218868437227405312) (fy : mag y < 9218868437227405312) (hn : 1 ≤ n) (h : stp x ≤ stp y) (hs : n % 2 = 1 ∨ 0 ≤ stp x) {m : Int} (hm : 1 ≤ m ∧ m ≤ 3) :
    stp (toD (pw (tF x) n) m) ≤ stp (toD (pw (tF y) n) m) := by
  have e1 : (-1074 : Int) ≤ (tF x).2.2 := tF_e
  have e2 : (-1074 : Int) ≤ (tF y).2.2 := tF_e
  rw [toD_tfW pw_z hm, toD_tfW pw_z hm]
  refine ord_roundW (K := 2400 * n) (by omega) (pw_e hn e1) (pw_e hn e2) pw_z hm ?_
  rw [pw_VA hn e1, pw_VA hn e2]
  have c := (sv_cmp hx hy fx fy).2 h
  have sgn1 : ∀ z, z < 18446744073709551616 → mag z < 9218868437227405312 → 0 ≤ stp z → (tF z).1 = false := fun z hz fz h0 => by
    have k := (sv_cmp (x := 0) (y := z) (by omega) hz (by decide) fz).2 (by rw [show stp 0 = 0 by decide]; exact h0)
    rw [show (tF 0).1 = false by decide +kernel, show (tF 0).2.1 = 0 by decide +kernel, VA_zero] at k
    cases hb : (tF z).1
    · rfl
    · exfalso
      have hne : (tF z).2.1 ≠ 0 := fun h0 => by rw [tF_z h0] at hb; cases hb
      have := VA_ne (K := 2400) (e := (tF z).2.2) hne
      rw [hb] at k
      simp only [sv] at k
      simp at k
      omega
  have p1 : ∀ z, (tF z).2.1 ≠ 0 → (pw (tF z) n).1 = ((tF z).1 && n % 2 == 1) := fun z h0 => by unfold pw; rw [if_neg h0]
  have p0 : ∀ z, (tF z).2.1 = 0 → (pw (tF z) n).1 = false := fun z h0 => by unfold pw; rw [if_pos h0]
  have ps : ∀ z, sv (pw (tF z) n).1 (VA 2400 (tF z).2.1 (tF z).2.2 ^ n) = sv ((tF z).1 && n % 2 == 1) (VA 2400 (tF z).2.1 (tF z).2.2 ^ n) := fun z => by
    by_cases h0 : (tF z).2.1 = 0
    · rw [p0 z h0, h0, VA_zero, Nat.zero_pow (by omega), tF_z h0]; rfl
    · rw [p1 z h0]
  rw [ps, ps]
  have zy : (tF y).1 = true → 0 < VA 2400 (tF y).2.1 (tF y).2.2 := fun hb => VA_ne fun h0 => by rw [tF_z h0] at hb; cases hb
  by_cases ho : n % 2 = 1
  · have hb : (n % 2 == 1) = true := by simp [ho]
    rw [hb, Bool.and_true, Bool.and_true]
    cases hx1 : (tF x).1
    · cases hy1 : (tF y).1
      · rw [hx1, hy1] at c
        simp only [sv] at c ⊢
        have c2 : VA 2400 (tF x).2.1 (tF x).2.2 ≤ VA 2400 (tF y).2.1 (tF y).2.2 := by simpa using c
        have := Nat.pow_le_pow_left c2 n
        simp
        exact_mod_cast this
      · have := zy hy1
        rw [hx1, hy1] at c
        simp only [sv] at c
        simp at c
        omega
    · cases hy1 : (tF y).1
      · simp only [sv]
        simp
        have h1 : (0 : Int) ≤ (((VA 2400 (tF x).2.1 (tF x).2.2 ^ n : Nat)) : Int) := Int.natCast_nonneg _
        have h2 : (0 : Int) ≤ (((VA 2400 (tF y).2.1 (tF y).2.2 ^ n : Nat)) : Int) := Int.natCast_nonneg _
        simp at h1 h2
        omega
      · rw [hx1, hy1] at c
        simp only [sv] at c ⊢
        have c2 : VA 2400 (tF y).2.1 (tF y).2.2 ≤ VA 2400 (tF x).2.1 (tF x).2.2 := by simp at c; omega
        have := Nat.pow_le_pow_left c2 n
        simp
        exact_mod_cast this
  · have h0 : 0 ≤ stp x := by omega
    have hb : (n % 2 == 1) = false := by simp; omega
    rw [hb, Bool.and_false, Bool.and_false]
    rw [sgn1 x hx fx h0, sgn1 y hy fy (by omega)] at c
    simp only [sv] at c ⊢
    have c2 : VA 2400 (tF x).2.1 (tF x).2.2 ≤ VA 2400 (tF y).2.1 (tF y).2.2 := by simpa using c
    have := Nat.pow_le_pow_left c2 n
    simp
    exact_mod_cast this
end Go.Proofs.YtlicjplmcepbnaaGreatDoor
/- What lies within others: powers of intervals, square roots. -/
namespace Go.Proofs.YtlicjplmcepbnaaGreatDoor
set_option linter.unusedVariables false
set_option linter.unusedSimpArgs false
open Go.RowKit Go.Fl64

theorem pl_nnS {a : Nat} (h : isNaN a = false) : isNaN (pl a) = false := by unfold pl; split; decide; exact h
theorem pwF_nn {x n : Nat} {m : Int} (hm : 1 ≤ m ∧ m ≤ 3) (nx : isNaN x = false) : isNaN (pwF x n m) = false := by
  unfold pwF
  split
  · decide
  · split
    · unfold toD
      split
      · decide
      · rw [tf_bdy hm]; exact nan_sig (bdy_le _ _ _)
    · exact nx
theorem fin_iff {x : Nat} : fin x = true ↔ mag x < 9218868437227405312 := by unfold fin; simp
theorem pwF_mono {x y n : Nat} (hx : x < 18446744073709551616) (hy : y < 18446744073709551616) (nx : isNaN x = false) (ny : isNaN y = false) (h : stp x ≤ stp y) (hs : n % 2 = 1 ∨ 0 ≤ stp x) {m : Int} (hm : 1 ≤ m ∧ m ≤ 3) : stp (pwF x n m) ≤ stp (pwF y n m) := by
  have b1 := nan_stp (pwF_nn (n := n) hm nx)
  have b2 := nan_stp (pwF_nn (n := n) hm ny)
  by_cases n0 : n = 0
  · unfold pwF; rw [if_pos n0, if_pos n0]; exact Int.le_refl _
  · have iv : ∀ z, z = 9218868437227405312 ∨ z = 18442240474082181120 → pwF z n m = z := fun z hz => by
      unfold pwF; rw [if_neg n0]
      rcases hz with rfl | rfl <;> rw [if_neg (by decide)]
    rcases eI_three hy ny with ⟨-, ey, sy⟩ | ⟨-, ey, sy⟩ | ⟨-, fy, -, ly, uy⟩
    · rw [iv y (.inl ey), sy]; exact b1.2
    · rcases eI_three hx nx with ⟨-, ex, sx⟩ | ⟨-, ex, sx⟩ | ⟨-, fx, -, lx, ux⟩
      · omega
      · rw [iv y (.inr ey), iv x (.inr ex)]; exact h
      · omega
    · rcases eI_three hx nx with ⟨-, ex, sx⟩ | ⟨-, ex, sx⟩ | ⟨-, fx, -, lx, ux⟩
      · omega
      · rw [iv x (.inr ex), sx]; exact b2.1
      · unfold pwF
        rw [if_neg n0, if_neg n0, if_pos (fin_iff.2 fx), if_pos (fin_iff.2 fy)]
        exact pw_mono hx hy fx fy (by omega) h hs hm
theorem pwF_modes {x n : Nat} : stp (pwF x n 1) ≤ stp (pwF x n 3) := by
  unfold pwF
  split
  · exact Int.le_refl _
  · rename_i n0
    split
    · have e1 : (-1074 : Int) ≤ (tF x).2.2 := tF_e
      rw [toD_tfW pw_z (by omega), toD_tfW pw_z (by omega)]
      exact modesW (K := 2400 * n) (by omega) _ (pw_e (by omega) e1)
    · exact Int.le_refl _
theorem mg_stp {a b : Nat} (ha : a < 18446744073709551616) (hb : b < 18446744073709551616) (hv : vI a b = true) : stp (mgX a b) = max 0 (max (stp a) (-(stp b))) ∧ stp (mgY a b) = max (-(stp a)) (stp b) := by
  obtain ⟨na, nb, hs, h1, h2, za, zb⟩ := vI_facts hv
  have n0 : isNaN 0 = false := by decide
  have s0 : stp 0 = 0 := by decide
  unfold mgX mgY
  by_cases c1 : le 0 a = true
  · rw [if_pos c1, if_pos c1]
    rw [le_stp n0 na, s0] at c1
    omega
  · rw [if_neg c1, if_neg c1]
    rw [le_stp n0 na, s0] at c1
    by_cases c2 : le b 0 = true
    · rw [if_pos c2, if_pos c2]
      rw [le_stp nb n0, s0] at c2
      rw [pl_stp, pl_stp, ngt_stp hb, ngt_stp ha]
      omega
    · rw [if_neg c2, if_neg c2]
      rw [le_stp nb n0, s0] at c2
      rw [fMax_stp, ngt_stp ha, s0]
      omega
/-- the interval whose powers are taken, by its ends -/
theorem pc_stp {a b n : Nat} (ha : a < 18446744073709551616) (hb : b < 18446744073709551616) (hv : vI a b = true) :
    (n % 2 = 1 → stp (pcX a b n) = stp a ∧ stp (pcY a b n) = stp b) ∧ (n % 2 = 0 → stp (pcX a b n) = max 0 (max (stp a) (-(stp b))) ∧ stp (pcY a b n) = max (-(stp a)) (stp b)) := by
  unfold pcX pcY
  refine ⟨fun h => ?_, fun h => ?_⟩
  · rw [if_neg (by omega), if_neg (by omega)]; exact ⟨rfl, rfl⟩
  · rw [if_pos h, if_pos h]; exact mg_stp ha hb hv
theorem pow_vI {a b n : Nat} (ha : a < 18446744073709551616) (hb : b < 18446744073709551616) (hv : vI a b = true) : vI (pwX a b n) (pwY a b n) = true := by
  obtain ⟨na, nb, hs, h1, h2, za, zb⟩ := vI_facts hv
  obtain ⟨f1, f2, f3, f4, -, -⟩ := pc_facts (n := n) ha hb hv
  have ps := pc_stp (n := n) ha hb hv
  have ho : n % 2 = 1 ∨ n % 2 = 0 := by omega
  have hle : stp (pcX a b n) ≤ stp (pcY a b n) := by
    rcases ho with h | h
    · rw [(ps.1 h).1, (ps.1 h).2]; exact hs
    · rw [(ps.2 h).1, (ps.2 h).2]; omega
  have hlo : stp (pcX a b n) < 9218868437227405312 := by
    rcases ho with h | h
    · rw [(ps.1 h).1]; exact h1
    · rw [(ps.2 h).1]; omega
  have hhi : -9218868437227405312 < stp (pcY a b n) := by
    rcases ho with h | h
    · rw [(ps.1 h).2]; exact h2
    · rw [(ps.2 h).2]; omega
  have hsg : n % 2 = 1 ∨ 0 ≤ stp (pcX a b n) := by
    rcases ho with h | h
    · exact .inl h
    · right; rw [(ps.2 h).1]; omega
  unfold pwX pwY
  refine mkvI (pl_nnS (pwF_nn (by omega) f3)) (pl_nnS (pwF_nn (by omega) f4)) (pl_nZ _) (pl_nZ _) ?_ ?_ ?_
  · rw [pl_stp, pl_stp]
    exact Int.le_trans pwF_modes (pwF_mono f1 f2 f3 f4 hle hsg (by omega))
  · rw [pl_stp]
    unfold pwF
    split
    · decide
    · split
      · exact toD_dn _
      · exact hlo
  · rw [pl_stp]
    unfold pwF
    split
    · decide
    · split
      · exact toD_up3W pw_z
      · exact hhi
theorem pow_within {a b c d n : Nat} (ha : a < 18446744073709551616) (hb : b < 18446744073709551616) (hc : c < 18446744073709551616) (hd : d < 18446744073709551616) (h : wI a b c d = true) : wI (pwX a b n) (pwY a b n) (pwX c d n) (pwY c d n) = true := by
  obtain ⟨v1, v2, s1, s2⟩ := wI_un h
  obtain ⟨f1, f2, f3, f4, -, -⟩ := pc_facts (n := n) ha hb v1
  obtain ⟨g1, g2, g3, g4, -, -⟩ := pc_facts (n := n) hc hd v2
  have ps := pc_stp (n := n) ha hb v1
  have qs := pc_stp (n := n) hc hd v2
  have hs1 := (vI_facts v1).2.2.1
  refine wI_mk (pow_vI ha hb v1) (pow_vI hc hd v2) ?_ ?_
  · unfold pwX
    rw [pl_stp, pl_stp]
    rcases (show n % 2 = 1 ∨ n % 2 = 0 by omega) with h | h
    · exact pwF_mono g1 f1 g3 f3 (by rw [(ps.1 h).1, (qs.1 h).1]; exact s1) (.inl h) (by omega)
    · exact pwF_mono g1 f1 g3 f3 (by rw [(ps.2 h).1, (qs.2 h).1]; omega) (.inr (by rw [(qs.2 h).1]; omega)) (by omega)
  · unfold pwY
    rw [pl_stp, pl_stp]
    rcases (show n % 2 = 1 ∨ n % 2 = 0 by omega) with h | h
    · exact pwF_mono f2 g2 f4 g4 (by rw [(ps.1 h).2, (qs.1 h).2]; exact s2) (.inl h) (by omega)
    · exact pwF_mono f2 g2 f4 g4 (by rw [(ps.2 h).2, (qs.2 h).2]; omega) (.inr (by rw [(ps.2 h).2]; omega)) (by omega)
/-- a float's number, in units of 2^-K -/
def Wf (K x : Nat) : Int := vz K (tF x).1 (tF x).2.1 (tF x).2.2
theorem Wf_cmp {K x y : Nat} (hK : 2 * K = 5000000) (hx : x < 18446744073709551616) (hy : y < 18446744073709551616) (fx : mag x < 9218868437227405312) (fy : mag y < 9218868437227405312) : Wf K x ≤ Wf K y ↔ stp x ≤ stp y := by
  rw [← V8_cmp hx hy fx fy, V8_K (tF_ok x) hK, V8_K (tF_ok y) hK]
  have hp : (0 : Int) < ((2 ^ K : Nat) : Int) := by exact_mod_cast Nat.two_pow_pos _
  exact ⟨fun h => Int.mul_le_mul_of_nonneg_right h (by omega), fun h => Int.le_of_mul_le_mul_right h hp⟩
theorem Wf_zero {K : Nat} : Wf K 0 = 0 := by
  unfold Wf
  rw [show tF 0 = (false, 0, 0) by decide +kernel, vz_zero]
theorem tM_okF (x y : Nat) : Ok (tM (tF x) (tF y)) := tM_ok (tM_okR x y)
theorem ordM {K x y a : Nat} (hK : 2 * K = 5000000) : ordN (tM (tF x) (tF y)).1 (tM (tF x) (tF y)).2.1 (tM (tF x) (tF y)).2.2 (tF a).1 (tF a).2.1 (tF a).2.2 = cmpI (Wf K x * Wf K y) (Wf K a * ((2 ^ K : Nat) : Int)) := by
  rw [ord_V8 (tM_okF x y) (tF_ok a), V8_tM (tF_ok x) (tF_ok y) hK, V8_K (tF_ok a) hK]
  rfl
end Go.Proofs.YtlicjplmcepbnaaGreatDoor
/- What lies within others: square roots. -/
namespace Go.Proofs.YtlicjplmcepbnaaGreatDoor
set_option linter.unusedVariables false
set_option linter.unusedSimpArgs false
open Go.RowKit Go.Fl64

/-- F is the root of a, rounded -/
def RootIs (a : Nat) (m : Int) (F : Nat) : Prop := (pln a = false ∧ F = a) ∨ (pln a = true ∧ ∃ q, q * q ≤ (tF a).2.1 * 2 ^ sqK (tF a) ∧ (tF a).2.1 * 2 ^ sqK (tF a) < (q + 1) * (q + 1) ∧ F = sqV a q m)
theorem pos_neg {a : Nat} (ha : a < 18446744073709551616) (h : 0 < stp a) : neg a = false := by
  cases hn : neg a
  · rfl
  · unfold stp sgn at h; rw [hn] at h; simp at h; omega
theorem pln_pos {a : Nat} (hp : pln a = true) (h : 0 ≤ stp a) : 0 < stp a := by
  have h0 := (pln_true.1 hp).2
  unfold stp sgn at h ⊢
  split at h
  · omega
  · rename_i hn
    rw [if_neg hn]; omega
theorem cmpI_le0 {x y : Int} (h : cmpI x y ≤ 0) : x ≤ y := by
  unfold cmpI at h
  split at h
  · omega
  · split at h <;> omega
theorem cmpI_ge0 {x y : Int} (h : 0 ≤ cmpI x y) : y ≤ x := by
  unfold cmpI at h
  split at h
  · omega
  · split at h <;> omega
/-- both roundings of a root, by squares -/
theorem root_facts {a : Nat} (ha : a < 18446744073709551616) (hp : pln a = true) (h0 : 0 ≤ stp a) {F G : Nat} (hF : RootIs a 1 F) (hG : RootIs a 3 G) {K : Nat} (hK : 2 * K = 5000000) :
    mag F < 9218868437227405312 ∧ mag G < 9218868437227405312 ∧ stp F ≤ stp G ∧ stp G ≤ stp F + 1 ∧ isNaN F = false ∧ isNaN G = false ∧ 0 ≤ stp F ∧ F < 18446744073709551616 ∧ G < 18446744073709551616 ∧ Wf K F * Wf K F ≤ Wf K a * ((2 ^ K : Nat) : Int) ∧ Wf K a * ((2 ^ K : Nat) : Int) ≤ Wf K G * Wf K G := by
  rcases hF with ⟨h, -⟩ | ⟨-, q, q1, q2, rfl⟩
  · rw [hp] at h; cases h
  rcases hG with ⟨h, -⟩ | ⟨-, q', q1', q2', rfl⟩
  · rw [hp] at h; cases h
  obtain rfl := root_only q1 q2 q1' q2'
  obtain ⟨f1, f2, f3, f4, f5, f6, f7, f8, f9, f10⟩ := sq_facts ha hp (pos_neg ha (pln_pos hp h0)) q1 q2
  rw [ordM hK] at f9 f10
  refine ⟨f1, f2, f3, f4, f5, f6, ?_, tfF_lt' (by omega), tfF_lt' (by omega), cmpI_le0 f9, cmpI_ge0 f10⟩
  unfold stp sgn; rw [f7]; simp
theorem root_both {a : Nat} (ha : a < 18446744073709551616) (hp : pln a = true) : ∃ F G, RootIs a 1 F ∧ RootIs a 3 G := by
  obtain ⟨q, q1, q2⟩ := rootEx ((tF a).2.1 * 2 ^ sqK (tF a))
  exact ⟨_, _, .inr ⟨hp, q, q1, q2, rfl⟩, .inr ⟨hp, q, q1, q2, rfl⟩⟩
theorem root_is1 {a : Nat} {m : Int} {F G : Nat} (hF : RootIs a m F) (hG : RootIs a m G) : F = G := by
  rcases hF with ⟨h, rfl⟩ | ⟨hp, q, q1, q2, rfl⟩
  · rcases hG with ⟨h', rfl⟩ | ⟨hp', -⟩
    · rfl
    · rw [h] at hp'; cases hp'
  · rcases hG with ⟨h', rfl⟩ | ⟨hp', q', q1', q2', rfl⟩
    · rw [h'] at hp; cases hp
    · obtain rfl := root_only q1 q2 q1' q2'; rfl
/-- what is no plain number and not below nought -/
theorem np_pos {a : Nat} (ha : a < 18446744073709551616) (na : isNaN a = false) (hz : a ≠ 9223372036854775808) (hp : pln a = false) (h0 : 0 ≤ stp a) : a = 0 ∨ a = 9218868437227405312 := by
  rcases eI_three ha na with ⟨-, e, -⟩ | ⟨-, e, s⟩ | ⟨-, f, -⟩
  · exact .inr e
  · omega
  · rcases pln_false.1 hp with h | h
    · exact absurd f h
    · left
      unfold mag at h
      omega
theorem root_mono {a b : Nat} (ha : a < 18446744073709551616) (hb : b < 18446744073709551616) (na : isNaN a = false) (nb : isNaN b = false) (za : a ≠ 9223372036854775808) (zb : b ≠ 9223372036854775808) (h0 : 0 ≤ stp a) (h : stp a ≤ stp b) {m : Int} (hm : m = 1 ∨ m = 3) {F G : Nat} (hF : RootIs a m F) (hG : RootIs b m G) : stp F ≤ stp G ∧ isNaN F = false ∧ 0 ≤ stp F := by
  obtain ⟨K, hK⟩ : ∃ K : Nat, 2 * K = 5000000 := ⟨2500000, by decide⟩
  have s0 : stp 0 = 0 := by decide
  have sI : stp 9218868437227405312 = 9218868437227405312 := by decide
  by_cases pa : pln a = true
  · obtain ⟨F1, F3, r1, r3⟩ := root_both ha pa
    obtain ⟨f1, f2, f3, f4, f5, f6, f7, fl1, fl3, f8, f9⟩ := root_facts ha pa h0 r1 r3 hK
    have hFe : F = if m = 1 then F1 else F3 := by
      rcases hm with rfl | rfl
      · rw [if_pos rfl]; exact root_is1 hF r1
      · rw [if_neg (by decide)]; exact root_is1 hF r3
    have nF : isNaN F = false ∧ 0 ≤ stp F := by
      rw [hFe]; rcases hm with rfl | rfl
      · rw [if_pos rfl]; exact ⟨f5, f7⟩
      · rw [if_neg (by decide)]; exact ⟨f6, by omega⟩
    refine ⟨?_, nF⟩
    by_cases pb : pln b = true
    · by_cases he : stp a = stp b
      · obtain rfl := stp_inj ha hb he za zb
        rw [root_is1 hF hG]; exact Int.le_refl _
      · obtain ⟨G1, G3, t1, t3⟩ := root_both hb pb
        obtain ⟨g1, g2, g3, g4, g5, g6, g7, gl1, gl3, g8, g9⟩ := root_facts hb pb (by omega) t1 t3 hK
        have hGe : G = if m = 1 then G1 else G3 := by
          rcases hm with rfl | rfl
          · rw [if_pos rfl]; exact root_is1 hG t1
          · rw [if_neg (by decide)]; exact root_is1 hG t3
        -- F1 squared is at most a, less than b, at most G3 squared
        have key : stp F1 < stp G3 := by
          apply Decidable.byContradiction
          intro hn
          have c1 := (Wf_cmp hK gl3 fl1 g2 f1).2 (by omega)
          have c0 := (Wf_cmp hK (by omega) gl3 (by decide) g2 (x := 0)).2 (by omega)
          rw [Wf_zero] at c0
          have c2 : Wf K G3 * Wf K G3 ≤ Wf K F1 * Wf K F1 := Int.mul_le_mul c1 c1 c0 (by omega)
          have hp : (0 : Int) < ((2 ^ K : Nat) : Int) := by exact_mod_cast Nat.two_pow_pos _
          have c3 := Int.le_of_mul_le_mul_right (Int.le_trans g9 (Int.le_trans c2 f8)) hp
          have := (Wf_cmp hK hb ha (pln_true.1 pb).1 (pln_true.1 pa).1).1 c3
          omega
        rw [hFe, hGe]
        rcases hm with rfl | rfl
        · rw [if_pos rfl, if_pos rfl]; omega
        · rw [if_neg (by decide), if_neg (by decide)]; omega
    · have pb' : pln b = false := by simpa using pb
      have hpa := pln_pos pa h0
      rcases np_pos hb nb zb pb' (by omega) with rfl | rfl
      · omega
      · rcases hG with ⟨-, rfl⟩ | ⟨h', -⟩
        · rw [sI]; exact (nan_stp nF.1).2
        · rw [h'] at pb'; cases pb'
  · have pa' : pln a = false := by simpa using pa
    have hFa : F = a := by
      rcases hF with ⟨-, h⟩ | ⟨h', -⟩
      · exact h
      · rw [h'] at pa'; cases pa'
    subst hFa
    refine ⟨?_, na, h0⟩
    rcases np_pos ha na za pa' h0 with rfl | rfl
    · rw [s0]
      by_cases pb : pln b = true
      · obtain ⟨G1, G3, t1, t3⟩ := root_both hb pb
        obtain ⟨g1, g2, g3, g4, g5, g6, g7, -⟩ := root_facts hb pb (by omega) t1 t3 hK
        rcases hm with rfl | rfl
        · rw [root_is1 hG t1]; exact g7
        · rw [root_is1 hG t3]; omega
      · rcases hG with ⟨-, rfl⟩ | ⟨h', -⟩
        · omega
        · exact absurd h' pb
    · have hbI : stp b = 9218868437227405312 := by have := nan_stp nb; omega
      have : b = 9218868437227405312 := stp_inj hb (by omega) (by rw [hbI, sI]) zb (by decide)
      subst this
      rcases hG with ⟨-, rfl⟩ | ⟨h', -⟩
      · exact Int.le_refl _
      · exact absurd h' (by decide)
theorem root_modes {a : Nat} (ha : a < 18446744073709551616) (h0 : 0 ≤ stp a) {F G : Nat} (hF : RootIs a 1 F) (hG : RootIs a 3 G) : stp F ≤ stp G ∧ (stp a < 9218868437227405312 → stp F < 9218868437227405312) := by
  obtain ⟨K, hK⟩ : ∃ K : Nat, 2 * K = 5000000 := ⟨2500000, by decide⟩
  by_cases pa : pln a = true
  · obtain ⟨f1, f2, f3, -⟩ := root_facts ha pa h0 hF hG hK
    exact ⟨f3, fun _ => (fin_stp8 f1).2⟩
  · have pa' : pln a = false := by simpa using pa
    rcases hF with ⟨-, rfl⟩ | ⟨h', -⟩
    · rcases hG with ⟨-, rfl⟩ | ⟨h', -⟩
      · exact ⟨Int.le_refl _, fun h => h⟩
      · exact absurd h' pa
    · exact absurd h' pa
/-- the program's root of an interval -/
theorem sqrtW (a b : Nat) (ha : a < 18446744073709551616) (hb : b < 18446744073709551616) (hv : vI a b = true) : (stp a < 0 → ∀ W, Calls Tryz.prog 11 #[.agg #[.float .f64 a, .float .f64 b]] W fun r w' => r = .returned (.tuple #[.agg #[.float .f64 0, .float .f64 0], .int .i64 7]) ∧ Below W.heap.size W w') ∧
    (0 ≤ stp a → ∃ x y, RootIs a 1 x ∧ RootIs b 3 y ∧ x < 18446744073709551616 ∧ y < 18446744073709551616 ∧ pl x = x ∧ pl y = y ∧ ∀ W, Tab32 W → Ie.Tab W → Calls Tryz.prog 11 #[.agg #[.float .f64 a, .float .f64 b]] W fun r w' => r = .returned (.tuple #[.agg #[.float .f64 x, .float .f64 y], .int .i64 0]) ∧ Below W.heap.size W w') := by
  obtain ⟨na, nb, hs, h1, h2, za, zb⟩ := vI_facts hv
  have ltz : ∀ z, z < 18446744073709551616 → isNaN z = false → ((FloatKind.f64.format.order z 0 == some Ordering.lt) = decide (stp z < 0)) := fun z hz nz => by
    rw [ord_lt z 0 hz (by omega)]
    unfold lt
    rw [nz, show isNaN 0 = false by decide, show stp 0 = 0 by decide]
    rfl
  refine ⟨fun hn W => ?_, fun h0 => ?_⟩
  · have k := ssqrt_no a b (vI a b) W (fun _ => by rw [ltz a ha na]; simpa using hn) (fun V => svalid a b ha hb V)
    rw [hv] at k
    exact k
  · have one : ∀ z, z < 18446744073709551616 → isNaN z = false → z ≠ 9223372036854775808 → 0 ≤ stp z → ∀ m, 1 ≤ m ∧ m ≤ 3 → ∃ F, RootIs z m F ∧ pl F = F ∧ F < 18446744073709551616 ∧ ∀ W, Tab32 W → Ie.Tab W → Calls Tryz.prog 29 #[.float .f64 z, .int .i64 m] W fun r w' => r = .returned (.float .f64 F) ∧ Below W.heap.size W w' := by
      intro z hz nz zz z0 m hm
      have hl : (FloatKind.f64.format.order z 0 == some Ordering.lt) = false := by rw [ltz z hz nz]; simpa using z0
      have hmm : isM m = true := isM_iff.2 hm
      by_cases hp : pln z = true
      · have hng := pos_neg hz (pln_pos hp z0)
        obtain ⟨q, a1, a2⟩ := rootEx ((tF z).2.1 * 2 ^ sqK (tF z))
        refine ⟨sqV z q m, .inr ⟨hp, q, a1, a2, rfl⟩, tfF_pl hm, tfF_lt' hm, fun W hT hJ => ?_⟩
        refine psq_r z (sqV z q m) m (tF z) W hmm hl (pplain_t z hz hp) (exact_ok z hz (pln_true.1 hp).1 W hT hJ) (fun V X hV hX => ?_)
        refine (psqrt (hT.later hV) (tF_ok z) hX (tF_pos hng) hm).mono ?_
        rintro r w' ⟨q', ⟨c1, c2⟩, rfl, hb⟩
        obtain rfl := root_only a1 a2 c1 c2
        exact ⟨rfl, hb⟩
      · have hp' : pln z = false := by simpa using hp
        exact ⟨z, .inl ⟨hp', rfl⟩, by unfold pl; rw [if_neg zz], hz, fun W hT hJ => psq_np z m W hmm hl (pplain_f z hz hp')⟩
    obtain ⟨p, r1, p1, p2, p4⟩ := one a ha na za h0 1 (by omega)
    obtain ⟨q, r3, q1, q2, q4⟩ := one b hb nb zb (by omega) 3 (by omega)
    refine ⟨p, q, r1, r3, p2, q2, p1, q1, fun W hT hJ => ?_⟩
    exact ssqrt_1 a b p q p q W (by rw [ltz a ha na]; simpa using h0) (fun V => by have := svalid a b ha hb V; rw [hv] at this; exact this) (fun V hV => p4 V (hT.later hV) (Tab.later hJ hV)) (fun V hV => q4 V (hT.later hV) (Tab.later hJ hV)) (fun V hV => by have := sbetween p q V p2 q2; rw [p1, q1] at this; exact this)
theorem sqrt_within {a b c d x y u v : Nat} (ha : a < 18446744073709551616) (hb : b < 18446744073709551616) (hc : c < 18446744073709551616) (hd : d < 18446744073709551616) (h : wI a b c d = true) (h0 : 0 ≤ stp c)
    (r1 : RootIs a 1 x) (r2 : RootIs b 3 y) (r3 : RootIs c 1 u) (r4 : RootIs d 3 v) (e1 : pl x = x) (e2 : pl y = y) (e3 : pl u = u) (e4 : pl v = v) : wI x y u v = true := by
  obtain ⟨v1, v2, s1, s2⟩ := wI_un h
  obtain ⟨na, nb, hs, h1, h2, za, zb⟩ := vI_facts v1
  obtain ⟨nc, nd, hs', h1', h2', zc, zd⟩ := vI_facts v2
  have m1 := root_mono hc ha nc na zc za h0 s1 (.inl rfl) r3 r1
  have m2 := root_mono hb hd nb nd zb zd (by omega) s2 (.inr rfl) r2 r4
  have n1 := root_mono ha ha na na za za (by omega) (Int.le_refl _) (.inl rfl) r1 r1
  have n4 := root_mono hd hd nd nd zd zd (by omega) (Int.le_refl _) (.inr rfl) r4 r4
  have mk : ∀ {a b x y : Nat}, a < 18446744073709551616 → b < 18446744073709551616 → vI a b = true → 0 ≤ stp a → RootIs a 1 x → RootIs b 3 y → pl x = x → pl y = y → isNaN x = false → isNaN y = false → 0 ≤ stp y → vI x y = true := by
    intro a b x y ha hb hv h0 hx hy ex ey nx ny py
    obtain ⟨na, nb, hs, h1, h2, za, zb⟩ := vI_facts hv
    obtain ⟨G, hG⟩ : ∃ G, RootIs a 3 G := by
      by_cases pa : pln a = true
      · obtain ⟨F, G, -, h⟩ := root_both ha pa; exact ⟨G, h⟩
      · exact ⟨a, .inl ⟨by simpa using pa, rfl⟩⟩
    have md := root_modes ha h0 hx hG
    have mo := root_mono ha hb na nb za zb h0 hs (.inr rfl) hG hy
    exact mkvI nx ny (by rw [← ex]; exact pl_nZ _) (by rw [← ey]; exact pl_nZ _) (by omega) (md.2 h1) (by omega)
  refine wI_mk (mk ha hb v1 (by omega) r1 r2 e1 e2 n1.2.1 m2.2.1 m2.2.2) (mk hc hd v2 h0 r3 r4 e3 e4 m1.2.1 n4.2.1 n4.2.2) m1.1 m2.1
end Go.Proofs.YtlicjplmcepbnaaGreatDoor
/- The document's quotients of ends. -/
namespace Go.Proofs.YtlicjplmcepbnaaGreatDoor
set_option linter.unusedVariables false
set_option linter.unusedSimpArgs false
open Go.RowKit Go.Fl64
attribute [local go_sem] run_store_flt

end Go.Proofs.YtlicjplmcepbnaaGreatDoor
/- The document's quotients of ends joined. -/
namespace Go.Proofs.YtlicjplmcepbnaaGreatDoor
set_option linter.unusedVariables false
set_option linter.unusedSimpArgs false
open Go.RowKit Go.Fl64
attribute [local go_sem] run_store_flt

/-- a quotient of ends, rounded -/
def raF (i j : Int) (t u : Bool × Nat × Int) (m : Int) : Nat := if sgE i t = 0 ∨ j ≠ 0 then 0 else if i ≠ 0 then (if 0 < i * sgE j u then 9218868437227405312 else 18442240474082181120) else pl (rtF t u m)

end Go.Proofs.YtlicjplmcepbnaaGreatDoor
/- Quotients of ends in numbers. -/
namespace Go.Proofs.YtlicjplmcepbnaaGreatDoor
set_option linter.unusedVariables false
set_option linter.unusedSimpArgs false
open Go.RowKit Go.Fl64
attribute [local go_sem] run_store_flt

theorem tfF_nn8 {s ex : Bool} {x : Nat} {e m : Int} (hm : 1 ≤ m ∧ m ≤ 3) : isNaN (tfF s ex x e m) = false := by
  unfold tfF Ie.mk
  rw [if_pos (by omega)]
  have key : ∀ n, n ≤ 9218868437227405312 → isNaN (sig s n) = false := fun n h => by
    unfold isNaN
    rw [(mag_sig h).1]
    exact decide_eq_false (by omega)
  refine key _ ?_
  split
  · omega
  · rename_i h0
    have := Ie.bod_bounds (tfM ex x) (e + (tfD x : Int)) (Ie.wy s m) (tfM_lt ex x) h0
    omega
theorem raF_div {x y : Nat} (hx : x < 18446744073709551616) (hy : y < 18446744073709551616) (nx : isNaN x = false) (ny : isNaN y = false) {m : Int} (hm : 1 ≤ m ∧ m ≤ 3) (y0 : mag y ≠ 0) : raF (eI x) (eI y) (eT x) (eT y) m = pl (onF (fDiv x y m)) := by
  have hM : isM m = true := by unfold isM; rcases (show m = 1 ∨ m = 2 ∨ m = 3 by omega) with rfl | rfl | rfl <;> rfl
  have sx := sgn8 hx nx
  have sy := sgn8 hy ny
  rw [if_neg y0] at sy
  have ex := fin_iff8 hx nx
  have ey := fin_iff8 hy ny
  have mx := mag_le8 nx
  have my := mag_le8 ny
  have eD : fDiv x y m = if pln x = false ∨ pln y = false then divX x y else rtF (tF x) (tF y) m := by unfold fDiv; rw [hM, if_neg (by simp)]
  rw [eD]
  unfold raF
  by_cases h0 : mag x = 0
  · rw [if_pos h0] at sx
    rw [if_pos (.inl sx), if_pos (.inl (by unfold pln; rw [h0]; rfl))]
    unfold divX
    rw [nx, ny]
    have e : (if false || false || (decide (mag x = 9218868437227405312) && decide (mag y = 9218868437227405312)) || (decide (mag x = 0) && decide (mag y = 0)) then 9221120237041090560 else if mag x = 9218868437227405312 ∨ mag y = 0 then sig (neg x != neg y) 9218868437227405312 else sig (neg x != neg y) 0) = sig (neg x != neg y) 0 := by
      rw [if_neg (by simp [h0, y0]), if_neg (by omega)]
    rw [e]
    cases (neg x != neg y) <;> decide
  rw [if_neg h0] at sx
  have hz : sgE (eI x) (eT x) ≠ 0 := by rw [sx]; cases neg x <;> simp
  by_cases hj : eI y = 0
  · rw [if_neg (by omega)]
    have fy := ey.1 hj
    by_cases hi : eI x = 0
    · have fx := ex.1 hi
      have px : pln x = true := by unfold pln; rw [decide_eq_true fx, decide_eq_true h0]; rfl
      have py : pln y = true := by unfold pln; rw [decide_eq_true fy, decide_eq_true y0]; rfl
      rw [if_neg (by omega), if_neg (by rw [px, py]; simp)]
      have tx : eT x = tF x := by unfold eT; rw [if_pos hi]
      have ty : eT y = tF y := by unfold eT; rw [if_pos hj]
      rw [tx, ty]
      have k : isNaN (rtF (tF x) (tF y) m) = false := by
        exact tfF_nn8 hm
      rw [onF_nn k]
    · have hin : mag x = 9218868437227405312 := by have : ¬ mag x < 9218868437227405312 := fun h' => hi (ex.2 h'); omega
      have ei : eI x = if neg x then -1 else 1 := by
        have k := sx
        unfold sgE at k
        rw [if_neg hi] at k
        exact k
      have eD2 : (if pln x = false ∨ pln y = false then divX x y else rtF (tF x) (tF y) m) = divX x y := if_pos (.inl (by unfold pln; rw [hin]; rfl))
      have fy' : mag y ≠ 9218868437227405312 := by omega
      have eV : divX x y = sig (neg x != neg y) 9218868437227405312 := by
        unfold divX
        rw [nx, ny, if_neg (by simp [fy', y0]), if_pos (.inl hin)]
      rw [eD2, eV, if_pos (by omega), sy, ei]
      cases neg x <;> cases neg y <;> decide
  · rw [if_pos (.inr hj)]
    have hin : mag y = 9218868437227405312 := by have : ¬ mag y < 9218868437227405312 := fun h' => hj (ey.2 h'); omega
    rw [if_pos (.inr (by unfold pln; rw [hin]; rfl))]
    unfold divX
    rw [nx, ny]
    by_cases h1 : mag x = 9218868437227405312
    · rw [if_pos (by simp [h1, hin])]
      decide
    · rw [if_neg (by simp [h1, h0]), if_neg (by omega)]
      cases (neg x != neg y) <;> decide
end Go.Proofs.YtlicjplmcepbnaaGreatDoor
/- The document's Quo. -/
namespace Go.Proofs.YtlicjplmcepbnaaGreatDoor
set_option linter.unusedVariables false
set_option linter.unusedSimpArgs false
open Go.RowKit Go.Fl64
attribute [local go_sem] run_store_flt

end Go.Proofs.YtlicjplmcepbnaaGreatDoor
/- SpanProducts. -/
namespace Go.Proofs.YtlicjplmcepbnaaGreatDoor
set_option linter.unusedVariables false
set_option linter.unusedSimpArgs false
open Go.RowKit Go.Fl64
attribute [local go_sem] run_store_flt

end Go.Proofs.YtlicjplmcepbnaaGreatDoor
/- What lies within others: quotients. -/
namespace Go.Proofs.YtlicjplmcepbnaaGreatDoor
set_option linter.unusedVariables false
set_option linter.unusedSimpArgs false
open Go.RowKit Go.Fl64

theorem mag_mag (x : Nat) : mag (mag x) = mag x ∧ neg (mag x) = false ∧ stp (mag x) = mag x ∧ mag x < 18446744073709551616 := by
  have h : mag x < 9223372036854775808 := by unfold mag; omega
  have h1 : mag (mag x) = mag x := by unfold mag; omega
  have h2 : neg (mag x) = false := by unfold neg; exact decide_eq_false (by omega)
  refine ⟨h1, h2, ?_, by omega⟩
  unfold stp sgn; rw [h2, h1]; simp
theorem tF_mag (x : Nat) : (tF (mag x)).2.1 = (tF x).2.1 ∧ (tF (mag x)).2.2 = (tF x).2.2 := by
  have e1 : Ie.mant (mag x) = Ie.mant x := by unfold Ie.mant; rw [(mag_mag x).1]
  have e2 : Ie.lp (mag x) = Ie.lp x := by unfold Ie.lp; rw [(mag_mag x).1]
  unfold tF cn
  rw [e1, e2]
  split <;> exact ⟨rfl, rfl⟩
theorem tF_sg {x : Nat} (h : mag x ≠ 0) : (tF x).1 = neg x := by
  have h0 := tF_ne h
  unfold tF cn at h0 ⊢
  split at h0
  · exact absurd rfl h0
  · rename_i hn; rw [if_neg hn]
/-- the quotient of magnitudes, as an ordered float -/
def mgQ (x b : Nat) (m : Int) : Int := if b = 9218868437227405312 then 0 else if mag x = 9218868437227405312 then 9218868437227405312 else stp (rtF (tF (mag x)) (tF b) m)
theorem tf_turn {ex : Bool} {q : Nat} {h m : Int} (hq : 64 ≤ bl q) (hm : m = 1 ∨ m = 3) : stp (tfF true ex q h m) = -(stp (tfF false ex q h (4 - m))) := by
  have key : ∀ (x : Nat) (e : Int), stp (tfF true true x e m) = -(stp (tfF false true x e (4 - m))) := fun x e => by
    rw [tf_bdy (by omega), tf_bdy (by omega), (stp_sig (bdy_le _ _ _)).1, (stp_sig (bdy_le _ _ _)).1]
    have : wyN true m = wyN false (4 - m) := by rcases hm with rfl | rfl <;> rfl
    rw [this]
    simp [sv]
  cases ex
  · rw [tf_sticky hq, tf_sticky hq]; exact key _ _
  · exact key _ _
theorem rt_sgn {x y : Nat} (px : pln x = true) (py : pln y = true) {m : Int} (hm : m = 1 ∨ m = 3) : stp (rtF (tF x) (tF y) m) = if neg x = neg y then stp (rtF (tF (mag x)) (tF (mag y)) m) else -(stp (rtF (tF (mag x)) (tF (mag y)) (4 - m))) := by
  obtain ⟨fx, x0⟩ := pln_true.1 px
  obtain ⟨fy, y0⟩ := pln_true.1 py
  have sx := tF_sg x0
  have sy := tF_sg y0
  have mx : (tF (mag x)).1 = false := tF_pos (mag_mag x).2.1
  have my : (tF (mag y)).1 = false := tF_pos (mag_mag y).2.1
  have k : rtK (tF (mag x)) (tF (mag y)) = rtK (tF x) (tF y) := by unfold rtK; rw [(tF_mag x).1, (tF_mag y).1]
  have e : ∀ m, rtF (tF (mag x)) (tF (mag y)) m = tfF false (decide ((tF x).2.1 * 2 ^ rtK (tF x) (tF y) % (tF y).2.1 = 0)) ((tF x).2.1 * 2 ^ rtK (tF x) (tF y) / (tF y).2.1) ((tF x).2.2 - (tF y).2.2 - rtK (tF x) (tF y)) m := fun m => by
    unfold rtF; rw [k, mx, my, (tF_mag x).1, (tF_mag y).1, (tF_mag x).2, (tF_mag y).2]; rfl
  have hN : bl ((tF x).2.1 * 2 ^ rtK (tF x) (tF y)) = bl (tF x).2.1 + rtK (tF x) (tF y) := bl_shl' (tF_ne x0)
  have q1 := bl_quo_lo (N := (tF x).2.1 * 2 ^ rtK (tF x) (tF y)) (tF_ne y0)
  have hk : (rtK (tF x) (tF y) : Int) = max 0 (64 + (bl (tF y).2.1 : Int) - (bl (tF x).2.1 : Int)) := by unfold rtK; omega
  have h64 : 64 ≤ bl ((tF x).2.1 * 2 ^ rtK (tF x) (tF y) / (tF y).2.1) := by omega
  rw [e, e]
  unfold rtF
  rw [sx, sy]
  by_cases hs : neg x = neg y
  · rw [if_pos hs, hs]; simp
  · rw [if_neg hs, show (neg x != neg y) = true by simp [hs]]
    exact tf_turn h64 hm
theorem rtq_pos {x y : Nat} (px : pln x = true) (py : pln y = true) (nx : neg x = false) (ny : neg y = false) {m : Int} (hm : 1 ≤ m ∧ m ≤ 3) : 0 ≤ stp (rtF (tF x) (tF y) m) := by
  obtain ⟨fx, x0⟩ := pln_true.1 px
  obtain ⟨fy, y0⟩ := pln_true.1 py
  have hN : bl ((tF x).2.1 * 2 ^ rtK (tF x) (tF y)) = bl (tF x).2.1 + rtK (tF x) (tF y) := bl_shl' (tF_ne x0)
  have q1 := bl_quo_lo (N := (tF x).2.1 * 2 ^ rtK (tF x) (tF y)) (tF_ne y0)
  have hk : (rtK (tF x) (tF y) : Int) = max 0 (64 + (bl (tF y).2.1 : Int) - (bl (tF x).2.1 : Int)) := by unfold rtK; omega
  have h64 : 64 ≤ bl ((tF x).2.1 * 2 ^ rtK (tF x) (tF y) / (tF y).2.1) := by omega
  unfold rtF
  rw [tF_pos nx, tF_pos ny]
  have key : ∀ (x : Nat) (e : Int), 0 ≤ stp (tfF false true x e m) := fun x e => by
    rw [tf_bdy hm, (stp_sig (bdy_le _ _ _)).1]
    simp [sv]
  show 0 ≤ stp (tfF false _ _ _ m)
  generalize decide ((tF x).2.1 * 2 ^ rtK (tF x) (tF y) % (tF y).2.1 = 0) = ex
  cases ex
  · rw [tf_sticky h64]; exact key _ _
  · exact key _ _
/-- quotients of magnitudes fall with what they are divided by -/
theorem rt_fall {x b b' : Nat} (hx : x < 18446744073709551616) (hb : b < 18446744073709551616) (hb' : b' < 18446744073709551616) (px : pln x = true) (pb : pln b = true) (pb' : pln b' = true) (nx : neg x = false) (nb : neg b = false) (nb' : neg b' = false) (h : stp b ≤ stp b') {m : Int} (hm : m = 1 ∨ m = 3) :
    stp (rtF (tF x) (tF b') m) ≤ stp (rtF (tF x) (tF b) m) := by
  obtain ⟨K, hK⟩ : ∃ K : Nat, 2 * K = 5000000 := ⟨2500000, by decide⟩
  have posn : ∀ z, pln z = true → neg z = false → 0 < stp z := fun z pz nz => by
    have := (pln_true.1 pz).2
    unfold stp sgn; rw [nz]; simp; omega
  by_cases he : stp b = stp b'
  · have hz : ∀ z, neg z = false → z ≠ 9223372036854775808 := fun z nz hz => by subst hz; revert nz; decide
    obtain rfl := stp_inj hb hb' he (hz b nb) (hz b' nb')
    exact Int.le_refl _
  · suffices both : stp (rtF (tF x) (tF b') 1) ≤ stp (rtF (tF x) (tF b) 1) ∧ stp (rtF (tF x) (tF b') 3) ≤ stp (rtF (tF x) (tF b) 3) by
      rcases hm with rfl | rfl
      · exact both.1
      · exact both.2
    obtain ⟨f1, f2, f3, f4, f5, f6, f7⟩ := quo_facts hx hb px pb nx nb
    obtain ⟨g1, g2, g3, g4, g5, g6, g7⟩ := quo_facts hx hb' px pb' nx nb'
    rw [ordM hK] at f6 g6
    have rp := rtq_pos px pb nx nb (m := 3) (by omega)
    have l1 : rtF (tF x) (tF b) 1 < 18446744073709551616 := rtF_lt (by omega)
    have l3 : rtF (tF x) (tF b) 3 < 18446744073709551616 := rtF_lt (by omega)
    have l1' : rtF (tF x) (tF b') 1 < 18446744073709551616 := rtF_lt (by omega)
    generalize rtF (tF x) (tF b) 1 = D at *
    generalize rtF (tF x) (tF b) 3 = U at *
    generalize rtF (tF x) (tF b') 1 = D' at *
    generalize rtF (tF x) (tF b') 3 = U' at *
    -- D' is below U
    have key : mag U < 9218868437227405312 → stp D' < stp U := fun hU => by
      have f7' := f7 hU
      rw [ordM hK] at f7'
      have u1 := cmpI_ge0 f7'
      have d1 := cmpI_le0 g6
      apply Decidable.byContradiction
      intro hn
      have c1 := (Wf_cmp hK l3 l1' hU g1).2 (by omega)
      have wb := (Wf_cmp hK hb hb' (pln_true.1 pb).1 (pln_true.1 pb').1)
      have cb : Wf K b < Wf K b' := by
        have h1 := wb.2 h
        rcases Int.lt_or_eq_of_le h1 with h2 | h2
        · exact h2
        · have := ((Wf_cmp hK hb' hb (pln_true.1 pb').1 (pln_true.1 pb).1)).1 (by omega)
          omega
      have b0 : 0 < Wf K b := by
        have h1 := (Wf_cmp hK (x := b) (y := 0) hb (by omega) (pln_true.1 pb).1 (by decide))
        rw [Wf_zero, show stp 0 = 0 by decide] at h1
        have := posn b pb nb
        omega
      have x0 : 0 < Wf K x := by
        have h1 := (Wf_cmp hK (x := x) (y := 0) hx (by omega) (pln_true.1 px).1 (by decide))
        rw [Wf_zero, show stp 0 = 0 by decide] at h1
        have := posn x px nx
        omega
      have hp : (0 : Int) < ((2 ^ K : Nat) : Int) := by exact_mod_cast Nat.two_pow_pos _
      have xp : 0 < Wf K x * ((2 ^ K : Nat) : Int) := Int.mul_pos x0 hp
      have u0 : 0 < Wf K U := by
        apply Decidable.byContradiction
        intro hn2
        have := Int.mul_nonpos_of_nonpos_of_nonneg (show Wf K U ≤ 0 by omega) (show 0 ≤ Wf K b by omega)
        omega
      have p1 : Wf K U * Wf K b < Wf K U * Wf K b' := Int.mul_lt_mul_of_pos_left cb u0
      have p2 : Wf K U * Wf K b' ≤ Wf K D' * Wf K b' := Int.mul_le_mul_of_nonneg_right c1 (by omega)
      omega
    have nU := nan_stp f5
    have hUI : ¬ mag U < 9218868437227405312 → stp U = 9218868437227405312 := fun hU => by
      have hml := mag_le8 f5
      unfold stp sgn at rp ⊢
      split at rp
      · omega
      · rename_i hn; rw [if_neg hn]; omega
    have fd := fin_stp8 g1
    have nU' := nan_stp g5
    by_cases hU : mag U < 9218868437227405312
    · have k := key hU
      omega
    · have k := hUI hU
      omega
end Go.Proofs.YtlicjplmcepbnaaGreatDoor
/- What lies within others: quotients of intervals. -/
namespace Go.Proofs.YtlicjplmcepbnaaGreatDoor
set_option linter.unusedVariables false
set_option linter.unusedSimpArgs false
open Go.RowKit Go.Fl64

theorem mgQ_fall {x b b' : Nat} (hx0 : mag x ≠ 0) (hxI : mag x ≤ 9218868437227405312) (hb0 : 0 < b) (h : b ≤ b') (hI : b' ≤ 9218868437227405312) {m : Int} (hm : m = 1 ∨ m = 3) : mgQ x b' m ≤ mgQ x b m ∧ 0 ≤ mgQ x b' m ∧ mgQ x b m ≤ 9218868437227405312 := by
  have pos : ∀ c, 0 < c → c ≤ 9218868437227405312 → 0 ≤ mgQ x c m ∧ mgQ x c m ≤ 9218868437227405312 := fun c c0 cI => by
    unfold mgQ
    by_cases e1 : c = 9218868437227405312
    · rw [if_pos e1]; omega
    · rw [if_neg e1]
      by_cases e2 : mag x = 9218868437227405312
      · rw [if_pos e2]; omega
      · rw [if_neg e2]
        have px : pln (mag x) = true := pln_true.2 ⟨by rw [(mag_mag x).1]; omega, by rw [(mag_mag x).1]; exact hx0⟩
        have mc : mag c = c := by unfold mag; omega
        have nc : neg c = false := by unfold neg; exact decide_eq_false (by omega)
        have pc : pln c = true := pln_true.2 ⟨by omega, by omega⟩
        refine ⟨rtq_pos px pc (mag_mag x).2.1 nc (by omega), ?_⟩
        obtain ⟨f1, f2, f3, f4, f5, -⟩ := quo_facts (mag_mag x).2.2.2 (by omega) px pc (mag_mag x).2.1 nc
        rcases hm with rfl | rfl
        · exact (nan_stp f4).2
        · exact (nan_stp f5).2
  refine ⟨?_, (pos b' (by omega) hI).1, (pos b hb0 (by omega)).2⟩
  by_cases e1 : b' = 9218868437227405312
  · have : mgQ x b' m = 0 := by unfold mgQ; rw [if_pos e1]
    rw [this]; exact (pos b hb0 (by omega)).1
  · by_cases e2 : mag x = 9218868437227405312
    · unfold mgQ; rw [if_neg e1, if_neg (show ¬ b = 9218868437227405312 by omega), if_pos e2, if_pos e2]; exact Int.le_refl _
    · unfold mgQ
      rw [if_neg e1, if_neg (show ¬ b = 9218868437227405312 by omega), if_neg e2, if_neg e2]
      have px : pln (mag x) = true := pln_true.2 ⟨by rw [(mag_mag x).1]; omega, by rw [(mag_mag x).1]; exact hx0⟩
      have fc : ∀ c, 0 < c → c < 9218868437227405312 → mag c = c ∧ neg c = false ∧ pln c = true ∧ stp c = c := fun c c0 cI => by
        have mc : mag c = c := by unfold mag; omega
        have nc : neg c = false := by unfold neg; exact decide_eq_false (by omega)
        refine ⟨mc, nc, pln_true.2 ⟨by omega, by omega⟩, ?_⟩
        unfold stp sgn; rw [nc, mc]; simp
      obtain ⟨-, n1, p1, s1⟩ := fc b hb0 (by omega)
      obtain ⟨-, n2, p2, s2⟩ := fc b' (by omega) (by omega)
      exact rt_fall (mag_mag x).2.2.2 (by omega) (by omega) px p1 p2 (mag_mag x).2.1 n1 n2 (by omega) hm
/-- a quotient as an ordered float -/
def Qs (x y : Nat) (m : Int) : Int := stp (onF (fDiv x y m))
theorem Qs_form {x y : Nat} (hx : x < 18446744073709551616) (hy : y < 18446744073709551616) (nx : isNaN x = false) (ny : isNaN y = false) {m : Int} (hm : m = 1 ∨ m = 3) (y0 : mag y ≠ 0) : Qs x y m = if mag x = 0 then 0 else if neg x = neg y then mgQ x (mag y) m else -(mgQ x (mag y) (4 - m)) := by
  have hm' : 1 ≤ m ∧ m ≤ 3 := by omega
  have e : Qs x y m = stp (raF (eI x) (eI y) (eT x) (eT y) m) := by unfold Qs; rw [raF_div hx hy nx ny hm' y0, pl_stp]
  rw [e]
  have sx := sgn8 hx nx
  have sy := sgn8 hy ny
  rw [if_neg y0] at sy
  unfold raF
  by_cases x0 : mag x = 0
  · rw [if_pos x0] at sx
    rw [if_pos x0, if_pos (.inl sx)]; decide
  · rw [if_neg x0] at sx ⊢
    have sx0 : sgE (eI x) (eT x) ≠ 0 := by rw [sx]; split <;> omega
    have my := mag_le8 ny
    have mx := mag_le8 nx
    by_cases ey : eI y = 0
    · have fy := (fin_iff8 hy ny).1 ey
      rw [if_neg (by omega)]
      unfold mgQ
      rw [if_neg (show ¬ mag y = 9218868437227405312 by omega), if_neg (show ¬ mag y = 9218868437227405312 by omega)]
      by_cases ex : eI x = 0
      · have fx := (fin_iff8 hx nx).1 ex
        have t1 : eT x = tF x := by unfold eT; rw [if_pos ex]
        have t2 : eT y = tF y := by unfold eT; rw [if_pos ey]
        rw [if_neg (by omega), if_neg (show ¬ mag x = 9218868437227405312 by omega), if_neg (show ¬ mag x = 9218868437227405312 by omega), pl_stp, t1, t2]
        exact rt_sgn (pln_true.2 ⟨fx, x0⟩) (pln_true.2 ⟨fy, y0⟩) hm
      · have hxi : mag x = 9218868437227405312 := by
          have := (fin_iff8 hx nx)
          omega
        have sxe : eI x = if neg x then -1 else 1 := by rw [← sx]; unfold sgE; rw [if_neg ex]
        rw [if_pos ex, if_pos hxi, if_pos hxi, sxe, sy]
        cases neg x <;> cases neg y <;> simp <;> decide
    · have hyi : mag y = 9218868437227405312 := by
        have := (fin_iff8 hy ny)
        omega
      rw [if_pos (.inr ey)]
      unfold mgQ
      rw [if_pos hyi, if_pos hyi]
      split <;> decide
theorem stp_mag (x : Nat) : stp x = if neg x then -(mag x : Int) else (mag x : Int) := by unfold stp sgn; split <;> rfl
/-- quotients by what lies between lie between -/
theorem Qs_in {c d x y : Nat} (hc : c < 18446744073709551616) (hd : d < 18446744073709551616) (hx : x < 18446744073709551616) (hy : y < 18446744073709551616) (nc : isNaN c = false) (nd : isNaN d = false) (nx : isNaN x = false) (ny : isNaN y = false) (h1 : stp c ≤ stp y) (h2 : stp y ≤ stp d) (hs : 0 < stp c ∨ stp d < 0) {m : Int} (hm : m = 1 ∨ m = 3) :
    min (Qs x c m) (Qs x d m) ≤ Qs x y m ∧ Qs x y m ≤ max (Qs x c m) (Qs x d m) := by
  have mc := stp_mag c
  have md := stp_mag d
  have my := stp_mag y
  have lc := mag_le8 nc
  have ld := mag_le8 nd
  have ly := mag_le8 ny
  have lx := mag_le8 nx
  have hm4 : 4 - m = 1 ∨ 4 - m = 3 := by omega
  have sg : (neg c = false ∧ neg y = false ∧ neg d = false ∧ 0 < mag c ∧ mag c ≤ mag y ∧ mag y ≤ mag d) ∨ (neg c = true ∧ neg y = true ∧ neg d = true ∧ 0 < mag d ∧ mag d ≤ mag y ∧ mag y ≤ mag c) := by
    rcases hs with hs | hs
    · left
      have a1 : neg c = false := by cases h : neg c; rfl; rw [h] at mc; simp at mc; omega
      have a2 : neg y = false := by cases h : neg y; rfl; rw [h] at my; simp at my; omega
      have a3 : neg d = false := by cases h : neg d; rfl; rw [h] at md; simp at md; omega
      rw [a1] at mc; rw [a2] at my; rw [a3] at md
      simp at mc my md
      exact ⟨a1, a2, a3, by omega, by omega, by omega⟩
    · right
      have a1 : neg c = true := by cases h : neg c; rw [h] at mc; simp at mc; omega; rfl
      have a2 : neg y = true := by cases h : neg y; rw [h] at my; simp at my; omega; rfl
      have a3 : neg d = true := by cases h : neg d; rw [h] at md; simp at md; omega; rfl
      rw [a1] at mc; rw [a2] at my; rw [a3] at md
      simp at mc my md
      exact ⟨a1, a2, a3, by omega, by omega, by omega⟩
  have c0 : mag c ≠ 0 := by rcases sg with h | h <;> omega
  have d0 : mag d ≠ 0 := by rcases sg with h | h <;> omega
  have y0 : mag y ≠ 0 := by rcases sg with h | h <;> omega
  rw [Qs_form hx hc nx nc hm c0, Qs_form hx hd nx nd hm d0, Qs_form hx hy nx ny hm y0]
  by_cases x0 : mag x = 0
  · rw [if_pos x0, if_pos x0, if_pos x0]; omega
  · rw [if_neg x0, if_neg x0, if_neg x0]
    rcases sg with ⟨a1, a2, a3, b1, b2, b3⟩ | ⟨a1, a2, a3, b1, b2, b3⟩
    · rw [a1, a2, a3]
      have p := (mgQ_fall x0 lx b1 b2 ly hm).1
      have q := (mgQ_fall x0 lx (by omega) b3 ld hm).1
      have p4 := (mgQ_fall x0 lx b1 b2 ly hm4).1
      have q4 := (mgQ_fall x0 lx (by omega) b3 ld hm4).1
      split <;> omega
    · rw [a1, a2, a3]
      have p := (mgQ_fall x0 lx b1 b2 ly hm).1
      have q := (mgQ_fall x0 lx (by omega) b3 lc hm).1
      have p4 := (mgQ_fall x0 lx b1 b2 ly hm4).1
      have q4 := (mgQ_fall x0 lx (by omega) b3 lc hm4).1
      split <;> omega
theorem qlo_min (a b c d : Nat) : stp (qlo a b c d) = min (min (min (min 9218868437227405312 (Qs a c 1)) (Qs a d 1)) (Qs b c 1)) (Qs b d 1) := by
  unfold qlo
  rw [pl_stp]
  simp only [lowF, fMin_stp]
  show min (min (min (min (stp 9218868437227405312) (stp (onF (fDiv a c 1)))) (stp (onF (fDiv a d 1)))) (stp (onF (fDiv b c 1)))) (stp (onF (fDiv b d 1))) = _
  rw [show stp 9218868437227405312 = 9218868437227405312 by decide]
  rfl
theorem qhi_max (a b c d : Nat) : stp (qhi a b c d) = max (max (max (max (-9218868437227405312) (Qs a c 3)) (Qs a d 3)) (Qs b c 3)) (Qs b d 3) := by
  unfold qhi
  rw [pl_stp]
  simp only [hiF, fMax_stp]
  show max (max (max (max (stp 18442240474082181120) (stp (onF (fDiv a c 3)))) (stp (onF (fDiv a d 3)))) (stp (onF (fDiv b c 3)))) (stp (onF (fDiv b d 3))) = _
  rw [show stp 18442240474082181120 = -9218868437227405312 by decide]
  rfl
theorem qlo_ok (a b c d : Nat) : qlo a b c d < 18446744073709551616 ∧ qhi a b c d < 18446744073709551616 ∧ isNaN (qlo a b c d) = false ∧ isNaN (qhi a b c d) = false ∧ qlo a b c d ≠ 9223372036854775808 ∧ qhi a b c d ≠ 9223372036854775808 := by
  have h1 := lowF_ok (D := fun i => onF (fDiv (pk4 a a b b i) (pk4 c d c d i) 1)) (fun i => onF_ok fDiv_lt) 4
  have h2 := hiF_ok (D := fun i => onF (fDiv (pk4 a a b b i) (pk4 c d c d i) 3)) (fun i => onF_ok fDiv_lt) 4
  exact ⟨pl_lt h1.1, pl_lt h2.1, pl_nnS h1.2, pl_nnS h2.2, pl_nZ _, pl_nZ _⟩
/-- where a quotient is without end, and its modes -/
theorem Qs_ends {x y : Nat} (hx : x < 18446744073709551616) (hy : y < 18446744073709551616) (nx : isNaN x = false) (ny : isNaN y = false) (y0 : mag y ≠ 0) : Qs x y 1 ≤ Qs x y 3 ∧ (Qs x y 1 < 9218868437227405312 ∨ (mag x = 9218868437227405312 ∧ neg x = neg y)) ∧ (-9218868437227405312 < Qs x y 3 ∨ (mag x = 9218868437227405312 ∧ neg x ≠ neg y)) := by
  rw [Qs_form hx hy nx ny (.inl rfl) y0, Qs_form hx hy nx ny (.inr rfl) y0]
  by_cases x0 : mag x = 0
  · rw [if_pos x0, if_pos x0]; omega
  · rw [if_neg x0, if_neg x0]
    have ly := mag_le8 ny
    have lx := mag_le8 nx
    have hf : mgQ x (mag y) 1 ≤ mgQ x (mag y) 3 ∧ 0 ≤ mgQ x (mag y) 1 ∧ (mgQ x (mag y) 1 < 9218868437227405312 ∨ mag x = 9218868437227405312) := by
      refine ⟨?_, (mgQ_fall x0 lx (by omega) (Nat.le_refl _) ly (.inl rfl)).2.1, ?_⟩
      · unfold mgQ
        split
        · exact Int.le_refl _
        · split
          · exact Int.le_refl _
          · have px : pln (mag x) = true := pln_true.2 ⟨by rw [(mag_mag x).1]; omega, by rw [(mag_mag x).1]; exact x0⟩
            have pc : pln (mag y) = true := pln_true.2 ⟨by rw [(mag_mag y).1]; omega, by rw [(mag_mag y).1]; exact y0⟩
            exact (quo_facts (mag_mag x).2.2.2 (mag_mag y).2.2.2 px pc (mag_mag x).2.1 (mag_mag y).2.1).2.1
      · unfold mgQ
        split
        · exact .inl (by decide)
        · split
          · rename_i h; exact .inr h
          · have px : pln (mag x) = true := pln_true.2 ⟨by rw [(mag_mag x).1]; omega, by rw [(mag_mag x).1]; exact x0⟩
            have pc : pln (mag y) = true := pln_true.2 ⟨by rw [(mag_mag y).1]; omega, by rw [(mag_mag y).1]; exact y0⟩
            exact .inl (fin_stp8 (quo_facts (mag_mag x).2.2.2 (mag_mag y).2.2.2 px pc (mag_mag x).2.1 (mag_mag y).2.1).1).2
    by_cases hs : neg x = neg y
    · rw [if_pos hs, if_pos hs]
      refine ⟨hf.1, ?_, .inl (by omega)⟩
      rcases hf.2.2 with h | h
      · exact .inl h
      · exact .inr ⟨h, hs⟩
    · rw [if_neg hs, if_neg hs, show (4 : Int) - 1 = 3 by decide, show (4 : Int) - 3 = 1 by decide]
      refine ⟨by omega, .inl (by omega), ?_⟩
      rcases hf.2.2 with h | h
      · exact .inl (by omega)
      · exact .inr ⟨h, hs⟩
theorem mm1 {I p q r s p' q' r' s' : Int} (h : p ≤ p') : min (min (min (min I p) q) r) s ≤ max (max (max (max (-I) p') q') r') s' := by omega
theorem mm2 {I p q r s : Int} (h : p < I ∨ r < I) : min (min (min (min I p) q) r) s < I := by omega
theorem mm3 {I p q r s : Int} (h : -I < p ∨ -I < r) : -I < max (max (max (max (-I) p) q) r) s := by omega
theorem quo_vI {a b c d : Nat} (ha : a < 18446744073709551616) (hb : b < 18446744073709551616) (hc : c < 18446744073709551616) (hd : d < 18446744073709551616) (h1 : vI a b = true) (h2 : vI c d = true) (hs : 0 < stp c ∨ stp d < 0) : vI (qlo a b c d) (qhi a b c d) = true := by
  obtain ⟨na, nb, -, a1, b1, -, -⟩ := vI_facts h1
  obtain ⟨nc, nd, s2, -, -, -, -⟩ := vI_facts h2
  obtain ⟨l1, l2, l3, l4, l5, l6⟩ := qlo_ok a b c d
  have mc := stp_mag c
  have c0 : mag c ≠ 0 := by
    intro h; rw [h] at mc
    have : stp c = 0 := by rw [mc]; split <;> rfl
    omega
  obtain ⟨e1, e2, e3⟩ := Qs_ends ha hc na nc c0
  obtain ⟨f1, f2, f3⟩ := Qs_ends hb hc nb nc c0
  have ma := stp_mag a
  have mb := stp_mag b
  have k1 := qlo_min a b c d
  have k3 := qhi_max a b c d
  have sa : mag a = 9218868437227405312 → neg a = true := fun h => by
    cases hn : neg a
    · rw [hn, h] at ma; simp at ma; omega
    · rfl
  have sb : mag b = 9218868437227405312 → neg b = false := fun h => by
    cases hn : neg b
    · rfl
    · rw [hn, h] at mb; simp at mb; omega
  refine mkvI l3 l4 l5 l6 ?_ ?_ ?_
  · rw [k1, k3]; exact mm1 e1
  · rw [k1]
    rcases e2 with e | ⟨e, e'⟩
    · exact mm2 (.inl e)
    · rcases f2 with f | ⟨f, f'⟩
      · exact mm2 (.inr f)
      · have g1 := sa e
        have g2 := sb f
        rw [g1] at e'
        rw [g2, ← e'] at f'
        cases f'
  · rw [k3]
    rcases e3 with e | ⟨e, e'⟩
    · exact mm3 (.inl e)
    · rcases f3 with f | ⟨f, f'⟩
      · exact mm3 (.inr f)
      · have g1 := sa e
        have g2 := sb f
        rw [g1] at e'
        rw [g2] at f'
        cases hn : neg c
        · exact absurd hn.symm f'
        · exact absurd hn.symm e'
theorem quo_within {a b c d x y : Nat} (ha : a < 18446744073709551616) (hb : b < 18446744073709551616) (hc : c < 18446744073709551616) (hd : d < 18446744073709551616) (hx : x < 18446744073709551616) (hy : y < 18446744073709551616) (h : wI a b c d = true) (h2 : vI x y = true) (hs : 0 < stp c ∨ stp d < 0) :
    wI (qlo x y a b) (qhi x y a b) (qlo x y c d) (qhi x y c d) = true := by
  obtain ⟨v1, v2, s1, s2⟩ := wI_un h
  obtain ⟨na, nb, s3, -⟩ := vI_facts v1
  obtain ⟨nc, nd, s4, -⟩ := vI_facts v2
  obtain ⟨nx, ny, -⟩ := vI_facts h2
  refine wI_mk (quo_vI hx hy ha hb h2 v1 (by omega)) (quo_vI hx hy hc hd h2 v2 hs) ?_ ?_
  · rw [qlo_min, qlo_min]
    have p1 := (Qs_in hc hd hx ha nc nd nx na s1 (by omega) hs (m := 1) (.inl rfl)).1
    have p2 := (Qs_in hc hd hx hb nc nd nx nb (by omega) s2 hs (m := 1) (.inl rfl)).1
    have p3 := (Qs_in hc hd hy ha nc nd ny na s1 (by omega) hs (m := 1) (.inl rfl)).1
    have p4 := (Qs_in hc hd hy hb nc nd ny nb (by omega) s2 hs (m := 1) (.inl rfl)).1
    omega
  · rw [qhi_max, qhi_max]
    have p1 := (Qs_in hc hd hx ha nc nd nx na s1 (by omega) hs (m := 3) (.inr rfl)).2
    have p2 := (Qs_in hc hd hx hb nc nd nx nb (by omega) s2 hs (m := 3) (.inr rfl)).2
    have p3 := (Qs_in hc hd hy ha nc nd ny na s1 (by omega) hs (m := 3) (.inr rfl)).2
    have p4 := (Qs_in hc hd hy hb nc nd ny nb (by omega) s2 hs (m := 3) (.inr rfl)).2
    omega
/-- nought in an interval -/
theorem hI_zero {c d : Nat} (hv : vI c d = true) : (hI c d 0 = false ↔ (0 < stp c ∨ stp d < 0)) := by
  obtain ⟨nc, nd, s4, -⟩ := vI_facts hv
  have n0 : isNaN 0 = false := by decide
  have s0 : stp 0 = 0 := by decide
  unfold hI
  rw [hv, show lt 9218868437227405311 (mag 0) = false by decide]
  by_cases h1 : le c 0 = true
  · by_cases h2 : le 0 d = true
    · rw [h1, h2]
      rw [le_stp nc n0, s0] at h1
      rw [le_stp n0 nd, s0] at h2
      simp; omega
    · have h2' : le 0 d = false := by simpa using h2
      rw [h1, h2']
      rw [le_stp n0 nd, s0] at h2
      simp; omega
  · have h1' : le c 0 = false := by simpa using h1
    rw [h1']
    rw [le_stp nc n0, s0] at h1
    simp; omega
end Go.Proofs.YtlicjplmcepbnaaGreatDoor
