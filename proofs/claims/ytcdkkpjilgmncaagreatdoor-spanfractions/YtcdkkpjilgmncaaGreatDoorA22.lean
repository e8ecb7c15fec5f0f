/- Own work: contracts of the program's functions, part 22: FS2 FS3. -/
import Derived.Test.YtcdkkpjilgmncaaGreatDoorA21

set_option maxHeartbeats 16000000
namespace Go.Proofs.YtcdkkpjilgmncaaGreatDoor
set_option linter.unusedVariables false
set_option linter.unusedSimpArgs false
open Go.RowKit Go.Fl64
def NB (W : World) (g : Nat) (s1 : Bool) (ao1 : Option Addr) (n1 cp1 : Nat) (e1 : Int) (t : Bool × Nat × Int) : Prop := W.heap[g]? = some (.cells #[.bool s1, .slice ao1 n1 cp1, .int .i64 e1] 27 (0, 0)) ∧ DN W (.agg #[.bool s1, .slice ao1 n1 cp1, .int .i64 e1]) t
theorem NB.later {W V : World} {g : Nat} {s1 : Bool} {ao1 : Option Addr} {n1 cp1 : Nat} {e1 : Int} {t : Bool × Nat × Int} (h : NB W g s1 ao1 n1 cp1 e1 t) (hb : Below W.heap.size W V) : NB V g s1 ao1 n1 cp1 e1 t := ⟨box_later h.1 hb (lt_of_box h.1), h.2.later hb⟩
theorem six_new {w W : World} (o1 o2 o3 o4 o5 o6 : Obj) (hW : W = (((((w.alloc o1).alloc o2).alloc o3).alloc o4).alloc o5).alloc o6) : W.heap[w.heap.size]? = some o1 ∧ W.heap[w.heap.size + 1]? = some o2 ∧ W.heap[w.heap.size + 1 + 1]? = some o3 ∧ W.heap[w.heap.size + 1 + 1 + 1]? = some o4 ∧ W.heap[w.heap.size + 1 + 1 + 1 + 1]? = some o5 ∧ W.heap[w.heap.size + 1 + 1 + 1 + 1 + 1]? = some o6 ∧ Below w.heap.size w W := by
  obtain ⟨V, hV⟩ : ∃ V, V = (((w.alloc o1).alloc o2).alloc o3).alloc o4 := ⟨_, rfl⟩
  obtain ⟨h1, h2, h3, h4, h5⟩ := four_new _ _ _ _ hV
  have hs : V.heap.size = w.heap.size + 1 + 1 + 1 + 1 := by rw [hV]; simp
  rw [← hV] at hW
  obtain ⟨g1, g2, g3, g4⟩ := two_new _ _ hW
  rw [hs] at g1 g2
  exact ⟨box_later h1 g4 (lt_of_box h1), box_later h2 g4 (lt_of_box h2), box_later h3 g4 (lt_of_box h3), box_later h4 g4 (lt_of_box h4), g1, g2, h5.trans (g4.mono h5.size)⟩
theorem DN.len {W : World} {s1 : Bool} {ao1 : Option Addr} {n1 cp1 : Nat} {e1 : Int} {t : Bool × Nat × Int} (h : DN W (.agg #[.bool s1, .slice ao1 n1 cp1, .int .i64 e1]) t) : n1 = dlen t.2.1 := by
  obtain ⟨ao, cap, e, -⟩ := h
  simp only [Value.agg.injEq, Array.mk.injEq, List.cons.injEq, Value.bool.injEq, Value.slice.injEq, Value.int.injEq, true_and, and_true] at e
  exact e.2.1.2.1
theorem DN.all {W : World} {s1 : Bool} {ao1 : Option Addr} {n1 cp1 : Nat} {e1 : Int} {t : Bool × Nat × Int} (h : DN W (.agg #[.bool s1, .slice ao1 n1 cp1, .int .i64 e1]) t) : s1 = t.1 ∧ n1 = dlen t.2.1 ∧ e1 = t.2.2 ∧ dlen t.2.1 ≤ 35184372088832 := by
  obtain ⟨ao, cap, e, i⟩ := h
  have := i.small
  simp only [Value.agg.injEq, Array.mk.injEq, List.cons.injEq, Value.bool.injEq, Value.slice.injEq, Value.int.injEq, true_and, and_true] at e
  exact ⟨e.1, e.2.1.2.1, e.2.2, this⟩
set_option maxRecDepth 200000 in
theorem dsmp8_0 (a b c d k : Nat) (s1 : Bool) (ao1 : Option Addr) (n1 cp1 : Nat) (e1 : Int) (s2 : Bool) (ao2 : Option Addr) (n2 cp2 : Nat) (e2 : Int) (s3 : Bool) (ao3 : Option Addr) (n3 cp3 : Nat) (e3 : Int) (s4 : Bool) (ao4 : Option Addr) (n4 cp4 : Nat) (e4 : Int) (w : World) (hb : 0 < b) (hk : k ≤ 20000) (ha : a < 2 ^ k) (hbk : b < 2 ^ k) (hc : c < 2 ^ k) (hd : d < 2 ^ k) (d1 : DN w (.agg #[.bool s1, .slice ao1 n1 cp1, .int .i64 e1]) (un (a : Int) 0)) (d2 : DN w (.agg #[.bool s2, .slice ao2 n2 cp2, .int .i64 e2]) (un (b : Int) 0)) (d3 : DN w (.agg #[.bool s3, .slice ao3 n3 cp3, .int .i64 e3]) (un (c : Int) 0)) (d4 : DN w (.agg #[.bool s4, .slice ao4 n4 cp4, .int .i64 e4]) (un (d : Int) 0)) (h0 : a % b = 0) :
    Calls Tryz.prog 19 #[.agg #[.bool s1, .slice ao1 n1 cp1, .int .i64 e1], .agg #[.bool s2, .slice ao2 n2 cp2, .int .i64 e2], .agg #[.bool s3, .slice ao3 n3 cp3, .int .i64 e3], .agg #[.bool s4, .slice ao4 n4 cp4, .int .i64 e4]] w fun r w' => Out2D w (un ((a / b : Nat) : Int) 0) (un 1 0) r w' := by
  obtain ⟨W, hW⟩ : ∃ W, W = (((((w.alloc (.cells #[.bool s1, .slice ao1 n1 cp1, .int .i64 e1] 27)).alloc (.cells #[.bool s2, .slice ao2 n2 cp2, .int .i64 e2] 27)).alloc (.cells #[.bool s3, .slice ao3 n3 cp3, .int .i64 e3] 27)).alloc (.cells #[.bool s4, .slice ao4 n4 cp4, .int .i64 e4] 27)).alloc (.cells #[.bool false, .slice none 0 0, .int .i64 0] 27)).alloc (.cells #[.bool false, .slice none 0 0, .int .i64 0] 27) := ⟨_, rfl⟩
  obtain ⟨m1, m2, m3, m4, m5, m6, hBW⟩ := six_new _ _ _ _ _ _ hW
  have HF : Hid (NB W (w.heap.size) s1 ao1 n1 cp1 e1 (un (a : Int) 0) ∧ NB W (w.heap.size + 1) s2 ao2 n2 cp2 e2 (un (b : Int) 0) ∧ NB W (w.heap.size + 1 + 1) s3 ao3 n3 cp3 e3 (un (c : Int) 0) ∧ NB W (w.heap.size + 1 + 1 + 1) s4 ao4 n4 cp4 e4 (un (d : Int) 0) ∧ W.heap[w.heap.size + 1 + 1 + 1 + 1]? = some (.cells #[.bool false, .slice none 0 0, .int .i64 0] 27 (0, 0)) ∧ W.heap[w.heap.size + 1 + 1 + 1 + 1 + 1]? = some (.cells #[.bool false, .slice none 0 0, .int .i64 0] 27 (0, 0)) ∧ Below w.heap.size w W) := ⟨⟨m1, d1.later hBW⟩, ⟨m2, d2.later hBW⟩, ⟨m3, d3.later hBW⟩, ⟨m4, d4.later hBW⟩, m5, m6, hBW⟩
  have H0 : Hid (0 < b ∧ k ≤ 20000 ∧ a < 2 ^ k ∧ b < 2 ^ k ∧ c < 2 ^ k ∧ d < 2 ^ k) := ⟨hb, hk, ha, hbk, hc, hd⟩
  have kk := dwholeU (n := 1) (by omega) W
  clear m1 m2 m3 m4 m5 m6 hBW d1 d2 d3 d4 hb hk ha hbk hc hd
  go_enter Tryz.func19, Tryz.ntmps19
  go_upto_region 1 with fail
  rw [← hW]
  clear hW
  go_wp2_with fail
  refine kk.mono ?_
  rintro r w1 ⟨A, rfl, hA, hb1⟩
  obtain ⟨s5, ao5, n5, cp5, e5, rfl⟩ := hA.shape
  clear kk
  obtain ⟨W1, hW1⟩ : ∃ W1, W1 = w1.alloc (.cells #[.bool s5, .slice ao5 n5 cp5, .int .i64 e5] 27) := ⟨_, rfl⟩
  have hbV : Below w1.heap.size w1 W1 := by rw [hW1]; exact (Below.refl _ _).alloc (Nat.le_refl _) _
  have n6 : W1.heap[w1.heap.size]? = some (.cells #[.bool s5, .slice ao5 n5 cp5, .int .i64 e5] 27 (0, 0)) := by rw [hW1]; exact heap_alloc_new _ _
  have hb01 : Below W.heap.size W W1 := hb1.trans (hbV.mono hb1.size)
  obtain ⟨x1, x2, x3, x4, x5, x6, x7⟩ := HF.out
  have H1 : Hid (NB W1 (w.heap.size) s1 ao1 n1 cp1 e1 (un (a : Int) 0) ∧ NB W1 (w.heap.size + 1) s2 ao2 n2 cp2 e2 (un (b : Int) 0) ∧ NB W1 (w.heap.size + 1 + 1) s3 ao3 n3 cp3 e3 (un (c : Int) 0) ∧ NB W1 (w.heap.size + 1 + 1 + 1) s4 ao4 n4 cp4 e4 (un (d : Int) 0) ∧ W1.heap[w.heap.size + 1 + 1 + 1 + 1]? = some (.cells #[.bool false, .slice none 0 0, .int .i64 0] 27 (0, 0)) ∧ W1.heap[w.heap.size + 1 + 1 + 1 + 1 + 1]? = some (.cells #[.bool false, .slice none 0 0, .int .i64 0] 27 (0, 0)) ∧ Below w.heap.size w W1 ∧ NB W1 w1.heap.size s5 ao5 n5 cp5 e5 (un 1 0) ∧ w.heap.size + 1 + 1 + 1 + 1 + 1 < w1.heap.size) := ⟨x1.later hb01, x2.later hb01, x3.later hb01, x4.later hb01, box_later x5 hb01 (lt_of_box x5), box_later x6 hb01 (lt_of_box x6), x7.trans (hb01.mono x7.size), ⟨n6, hA.later hbV⟩, by have := lt_of_box x6; have := hb1.size; omega⟩
  clear x1 x2 x3 x4 x5 x6 x7 hb01 n6 hbV hA hb1 HF
  obtain ⟨x0, x1, x2⟩ := (cells3N H1.out.1.1).1
  obtain ⟨y0, y1, y2⟩ := (cells3N H1.out.2.1.1).1
  have kk := dfloor8 a b k s1 ao1 n1 cp1 e1 s2 ao2 n2 cp2 e2 W1 H0.out.1 H0.out.2.1 H0.out.2.2.1 H0.out.2.2.2.1 H1.out.1.2 H1.out.2.1.2
  go_upto_region 2 with fail
  rw [← hW1]
  clear hW1
  generalize w1.heap.size = gqT at *
  go_wp2_with fail
  refine kk.mono ?_
  rintro r w2 ⟨s6, ao6, n6, cp6, e6, s7, ao7, n7, cp7, e7, rfl, hA, hB, hb2⟩
  clear kk x0 x1 x2 y0 y1 y2
  obtain ⟨W2, hW2⟩ : ∃ W2, W2 = (w2.alloc (.cells #[.bool s6, .slice ao6 n6 cp6, .int .i64 e6] 27)).alloc (.cells #[.bool s7, .slice ao7 n7 cp7, .int .i64 e7] 27) := ⟨_, rfl⟩
  obtain ⟨z1, z2, z3, z4⟩ := two_new _ _ hW2
  have hb12 : Below W1.heap.size W1 W2 := hb2.trans (z4.mono hb2.size)
  obtain ⟨x1, x2, x3, x4, x5, x6, x7, x8, x9⟩ := H1.out
  have H2 : Hid (NB W2 (w.heap.size) s1 ao1 n1 cp1 e1 (un (a : Int) 0) ∧ NB W2 (w.heap.size + 1) s2 ao2 n2 cp2 e2 (un (b : Int) 0) ∧ NB W2 (w.heap.size + 1 + 1) s3 ao3 n3 cp3 e3 (un (c : Int) 0) ∧ NB W2 (w.heap.size + 1 + 1 + 1) s4 ao4 n4 cp4 e4 (un (d : Int) 0) ∧ W2.heap[w.heap.size + 1 + 1 + 1 + 1]? = some (.cells #[.bool false, .slice none 0 0, .int .i64 0] 27 (0, 0)) ∧ W2.heap[w.heap.size + 1 + 1 + 1 + 1 + 1]? = some (.cells #[.bool false, .slice none 0 0, .int .i64 0] 27 (0, 0)) ∧ Below w.heap.size w W2 ∧ NB W2 gqT s5 ao5 n5 cp5 e5 (un 1 0) ∧ w.heap.size + 1 + 1 + 1 + 1 + 1 < gqT ∧ NB W2 w2.heap.size s6 ao6 n6 cp6 e6 (un ((a / b : Nat) : Int) 0) ∧ NB W2 (w2.heap.size + 1) s7 ao7 n7 cp7 e7 (un ((a % b : Nat) : Int) 0) ∧ gqT < w2.heap.size) := ⟨x1.later hb12, x2.later hb12, x3.later hb12, x4.later hb12, box_later x5 hb12 (lt_of_box x5), box_later x6 hb12 (lt_of_box x6), x7.trans (hb12.mono x7.size), x8.later hb12, x9, ⟨z1, hA.later z4⟩, ⟨z2, hB.later z4⟩, by have := lt_of_box x8.1; have := hb2.size; omega⟩
  clear x1 x2 x3 x4 x5 x6 x7 x8 x9 z1 z2 z3 z4 hb12 hA hB hb2 H1
  obtain ⟨x0, x1, x2⟩ := (cells3N H2.out.2.2.2.2.2.2.2.2.2.2.1.1).1
  go_upto_region 3 with fail
  rw [← hW2]
  clear hW2
  generalize w2.heap.size = gqE at *
  have ln7 := DN.len H2.out.2.2.2.2.2.2.2.2.2.2.1.2
  rw [h0, show ((0 : Nat) : Int) = 0 from rfl, un_0, show nilN.2.1 = 0 from rfl, dlen_zero] at ln7
  subst ln7
  have kk := rsgn (na := s7) (ua := ao7) (un := 0) (uc := cp7) (ea := e7) (w := W2) (by omega)
  rw [if_pos rfl] at kk
  go_wp2_with fail
  refine kk.mono ?_
  rintro r W3 ⟨rfl, hb3⟩
  clear kk x0 x1 x2
  obtain ⟨x1, x2, x3, x4, x5, x6, x7, x8, x9, xa, xb, xc⟩ := H2.out
  have H3 : Hid (NB W3 (w.heap.size) s1 ao1 n1 cp1 e1 (un (a : Int) 0) ∧ NB W3 (w.heap.size + 1) s2 ao2 n2 cp2 e2 (un (b : Int) 0) ∧ NB W3 (w.heap.size + 1 + 1) s3 ao3 n3 cp3 e3 (un (c : Int) 0) ∧ NB W3 (w.heap.size + 1 + 1 + 1) s4 ao4 n4 cp4 e4 (un (d : Int) 0) ∧ W3.heap[w.heap.size + 1 + 1 + 1 + 1]? = some (.cells #[.bool false, .slice none 0 0, .int .i64 0] 27 (0, 0)) ∧ W3.heap[w.heap.size + 1 + 1 + 1 + 1 + 1]? = some (.cells #[.bool false, .slice none 0 0, .int .i64 0] 27 (0, 0)) ∧ Below w.heap.size w W3 ∧ NB W3 gqT s5 ao5 n5 cp5 e5 (un 1 0) ∧ w.heap.size + 1 + 1 + 1 + 1 + 1 < gqT ∧ NB W3 gqE s6 ao6 n6 cp6 e6 (un ((a / b : Nat) : Int) 0) ∧ NB W3 (gqE + 1) s7 ao7 0 cp7 e7 (un ((a % b : Nat) : Int) 0) ∧ gqT < gqE) := ⟨x1.later hb3, x2.later hb3, x3.later hb3, x4.later hb3, box_later x5 hb3 (lt_of_box x5), box_later x6 hb3 (lt_of_box x6), x7.trans (hb3.mono x7.size), x8.later hb3, x9, xa.later hb3, xb.later hb3, xc⟩
  clear x1 x2 x3 x4 x5 x6 x7 x8 x9 xa xb xc hb3 H2
  go_upto_region 4 with fail
  obtain ⟨x1, x2, x3, x4, x5, x6, x7, x8, x9, xa, xb, xc⟩ := H3.out
  have hbx2 : ∀ i, i < 2 → ∃ cs, W3.heap[two (w.heap.size + 1 + 1 + 1 + 1) (w.heap.size + 1 + 1 + 1 + 1 + 1) i]? = some (.cells cs 27 (0, 0)) ∧ NC3 cs := fun i hi => by
    rcases lt2F hi with rfl | rfl
    · exact ⟨_, x5, _, _, _, _, _, rfl⟩
    · exact ⟨_, x6, _, _, _, _, _, rfl⟩
  have ne : ∀ g, w.heap.size + 1 + 1 + 1 + 1 + 1 < g → ∀ i, i < 2 → g ≠ two (w.heap.size + 1 + 1 + 1 + 1) (w.heap.size + 1 + 1 + 1 + 1 + 1) i := fun g h i hi => by
    rcases lt2F hi with rfl | rfl
    · show g ≠ w.heap.size + 1 + 1 + 1 + 1; omega
    · show g ≠ w.heap.size + 1 + 1 + 1 + 1 + 1; omega
  refine q_region follows_mixed [0, 1] [2, 3] [27, 28] [[], []] [[0], [1]] [0, 1] (two 8 9) (two (w.heap.size + 1 + 1 + 1 + 1) (w.heap.size + 1 + 1 + 1 + 1 + 1)) w.heap.size 27 NC3 3 W3 _ [isV (.agg #[.bool s6, .slice ao6 n6 cp6, .int .i64 e6]), isV (.agg #[.bool s5, .slice ao5 n5 cp5, .int .i64 e5])] (by kernel_rfl) ⟨isV_stays _, isV_stays _, trivial⟩ ⟨isV_rows _ _ _, isV_rows _ _ _, trivial⟩ (by show ∀ s ∈ [27, 28], s < 59; decide) ?_ ?_ Tryz.info27 ?_ ?_ ?_ (two_inj (by omega)) x7.size ?_
  · intro i hi U u h
    rcases lt2F hi with rfl | rfl
    · obtain rfl : u = _ := h
      exact ⟨_, rfl, rfl, ⟨_, _, _, _, _, rfl⟩, one3 rfl rfl⟩
    · obtain rfl : u = _ := h
      exact ⟨_, rfl, rfl, ⟨_, _, _, _, _, rfl⟩, one3 rfl rfl⟩
  · intro j hj o ho act U hK hoth hdep hrd
    rcases lt2F hj with rfl | rfl
    · obtain rfl := Option.some.inj ho
      have t11 : act.tmps[(11 : Nat)]? = some (Value.pointer (some ⟨gqE, 0, none⟩)) := (hoth 11 (by decide)).trans rfl
      have c6 := (cells3N ((hK.keep gqE (lt_of_box xa.1) (ne gqE (by omega))).trans xa.1)).1
      exact .inl ⟨rfl, owp_ldD rfl t11 c6.1 c6.2.1 c6.2.2 ⟨_, rfl, rfl, Below.refl _ _⟩⟩
    · obtain rfl := Option.some.inj ho
      have t10 : act.tmps[(10 : Nat)]? = some (Value.pointer (some ⟨gqT, 0, none⟩)) := (hoth 10 (by decide)).trans rfl
      have c5 := (cells3N ((hK.keep gqT (lt_of_box x8.1) (ne gqT (by omega))).trans x8.1)).1
      exact .inl ⟨rfl, owp_ldD rfl t10 c5.1 c5.2.1 c5.2.2 ⟨_, rfl, rfl, Below.refl _ _⟩⟩
  · intro i hi
    rcases lt2F hi with rfl | rfl <;> exact ⟨_, rfl, rfl⟩
  · intro i hi
    rcases lt2F hi with rfl | rfl
    · exact ⟨rfl, by decide⟩
    · exact ⟨rfl, by decide⟩
  · intro i hi
    rcases lt2F hi with rfl | rfl
    · exact ⟨by show w.heap.size ≤ w.heap.size + 1 + 1 + 1 + 1; omega, _, x5, rfl, _, _, _, _, _, rfl⟩
    · exact ⟨by show w.heap.size ≤ w.heap.size + 1 + 1 + 1 + 1 + 1; omega, _, x6, rfl, _, _, _, _, _, rfl⟩
  · intro u U hK hu hcs
    obtain ⟨csb, yb, zb⟩ := hcs 1 (by decide)
    obtain ⟨csa, ya, za⟩ := hcs 0 (by decide)
    have u0 : u 0 = .agg #[.bool s6, .slice ao6 n6 cp6, .int .i64 e6] := hu 0 (by decide)
    have u1 : u 1 = .agg #[.bool s5, .slice ao5 n5 cp5, .int .i64 e5] := hu 1 (by decide)
    have ya' : u 0 = .agg csa := ya
    have yb' : u 1 = .agg csb := yb
    rw [u0] at ya'
    rw [u1] at yb'
    obtain rfl := Value.agg.inj ya'
    obtain rfl := Value.agg.inj yb'
    have HX : Hid (U.heap[w.heap.size + 1 + 1 + 1 + 1]? = some (.cells #[.bool s6, .slice ao6 n6 cp6, .int .i64 e6] 27 (0, 0)) ∧ U.heap[w.heap.size + 1 + 1 + 1 + 1 + 1]? = some (.cells #[.bool s5, .slice ao5 n5 cp5, .int .i64 e5] 27 (0, 0)) ∧ DN U (.agg #[.bool s6, .slice ao6 n6 cp6, .int .i64 e6]) (un ((a / b : Nat) : Int) 0) ∧ DN U (.agg #[.bool s5, .slice ao5 n5 cp5, .int .i64 e5]) (un 1 0) ∧ Below w.heap.size w U) := ⟨za, zb, DN.keepN hK hbx2 xa.2, DN.keepN hK hbx2 x8.2, x7.trans hK.below⟩
    clear hu hcs ya yb za zb ya' yb' hK x1 x2 x3 x4 x5 x6 x7 x8 xa xb hbx2 ne H3
    simp only [putL, show List.range 2 = [0, 1] from rfl, List.length_cons, List.length_nil, List.getD_cons_zero, List.getD_cons_succ, List.map_cons, List.map_nil, List.cons_append, List.nil_append, List.foldl_cons, List.foldl_nil, Nat.reduceLT, Nat.reduceMod, Nat.reduceDiv, Nat.reduceMul, Nat.reduceAdd, Nat.reduceEqDiff, reduceIte, Nat.one_ne_zero, Act.put, List.setIfInBounds_toArray, List.set_cons_zero, List.set_cons_succ]
    go_wp2_with fail
    refine bodyPost_ret (results_c2 rfl _ _ (w.heap.size + 1 + 1 + 1 + 1) (w.heap.size + 1 + 1 + 1 + 1 + 1) 27 #[.bool s6, .slice ao6 n6 cp6, .int .i64 e6] #[.bool s5, .slice ao5 n5 cp5, .int .i64 e5] (0, 0) (0, 0) _ rfl rfl HX.out.1 HX.out.2.1 Tryz.underlying27 rfl Tryz.info27 Tryz.info27) rfl ?_
    exact ⟨_, _, _, _, _, _, _, _, _, _, rfl, HX.out.2.2.1, HX.out.2.2.2.1, HX.out.2.2.2.2⟩
set_option maxRecDepth 200000 in
theorem dsmp8_1 (a b c d k : Nat) (s1 : Bool) (ao1 : Option Addr) (n1 cp1 : Nat) (e1 : Int) (s2 : Bool) (ao2 : Option Addr) (n2 cp2 : Nat) (e2 : Int) (s3 : Bool) (ao3 : Option Addr) (n3 cp3 : Nat) (e3 : Int) (s4 : Bool) (ao4 : Option Addr) (n4 cp4 : Nat) (e4 : Int) (w : World) (hb : 0 < b) (hk : k ≤ 20000) (ha : a < 2 ^ k) (hbk : b < 2 ^ k) (hc : c < 2 ^ k) (hd : d < 2 ^ k) (d1 : DN w (.agg #[.bool s1, .slice ao1 n1 cp1, .int .i64 e1]) (un (a : Int) 0)) (d2 : DN w (.agg #[.bool s2, .slice ao2 n2 cp2, .int .i64 e2]) (un (b : Int) 0)) (d3 : DN w (.agg #[.bool s3, .slice ao3 n3 cp3, .int .i64 e3]) (un (c : Int) 0)) (d4 : DN w (.agg #[.bool s4, .slice ao4 n4 cp4, .int .i64 e4]) (un (d : Int) 0)) (h0 : a % b ≠ 0) (h1 : (a / b + 1) * d ≤ c) :
    Calls Tryz.prog 19 #[.agg #[.bool s1, .slice ao1 n1 cp1, .int .i64 e1], .agg #[.bool s2, .slice ao2 n2 cp2, .int .i64 e2], .agg #[.bool s3, .slice ao3 n3 cp3, .int .i64 e3], .agg #[.bool s4, .slice ao4 n4 cp4, .int .i64 e4]] w fun r w' => Out2D w (un ((a / b + 1 : Nat) : Int) 0) (un 1 0) r w' := by
  obtain ⟨W, hW⟩ : ∃ W, W = (((((w.alloc (.cells #[.bool s1, .slice ao1 n1 cp1, .int .i64 e1] 27)).alloc (.cells #[.bool s2, .slice ao2 n2 cp2, .int .i64 e2] 27)).alloc (.cells #[.bool s3, .slice ao3 n3 cp3, .int .i64 e3] 27)).alloc (.cells #[.bool s4, .slice ao4 n4 cp4, .int .i64 e4] 27)).alloc (.cells #[.bool false, .slice none 0 0, .int .i64 0] 27)).alloc (.cells #[.bool false, .slice none 0 0, .int .i64 0] 27) := ⟨_, rfl⟩
  obtain ⟨m1, m2, m3, m4, m5, m6, hBW⟩ := six_new _ _ _ _ _ _ hW
  have HF : Hid (NB W (w.heap.size) s1 ao1 n1 cp1 e1 (un (a : Int) 0) ∧ NB W (w.heap.size + 1) s2 ao2 n2 cp2 e2 (un (b : Int) 0) ∧ NB W (w.heap.size + 1 + 1) s3 ao3 n3 cp3 e3 (un (c : Int) 0) ∧ NB W (w.heap.size + 1 + 1 + 1) s4 ao4 n4 cp4 e4 (un (d : Int) 0) ∧ W.heap[w.heap.size + 1 + 1 + 1 + 1]? = some (.cells #[.bool false, .slice none 0 0, .int .i64 0] 27 (0, 0)) ∧ W.heap[w.heap.size + 1 + 1 + 1 + 1 + 1]? = some (.cells #[.bool false, .slice none 0 0, .int .i64 0] 27 (0, 0)) ∧ Below w.heap.size w W) := ⟨⟨m1, d1.later hBW⟩, ⟨m2, d2.later hBW⟩, ⟨m3, d3.later hBW⟩, ⟨m4, d4.later hBW⟩, m5, m6, hBW⟩
  have H0 : Hid (0 < b ∧ k ≤ 20000 ∧ a < 2 ^ k ∧ b < 2 ^ k ∧ c < 2 ^ k ∧ d < 2 ^ k) := ⟨hb, hk, ha, hbk, hc, hd⟩
  have kk := dwholeU (n := 1) (by omega) W
  clear m1 m2 m3 m4 m5 m6 hBW d1 d2 d3 d4 hb hk ha hbk hc hd
  go_enter Tryz.func19, Tryz.ntmps19
  go_upto_region 1 with fail
  rw [← hW]
  clear hW
  go_wp2_with fail
  refine kk.mono ?_
  rintro r w1 ⟨A, rfl, hA, hb1⟩
  obtain ⟨s5, ao5, n5, cp5, e5, rfl⟩ := hA.shape
  clear kk
  obtain ⟨W1, hW1⟩ : ∃ W1, W1 = w1.alloc (.cells #[.bool s5, .slice ao5 n5 cp5, .int .i64 e5] 27) := ⟨_, rfl⟩
  have hbV : Below w1.heap.size w1 W1 := by rw [hW1]; exact (Below.refl _ _).alloc (Nat.le_refl _) _
  have n6 : W1.heap[w1.heap.size]? = some (.cells #[.bool s5, .slice ao5 n5 cp5, .int .i64 e5] 27 (0, 0)) := by rw [hW1]; exact heap_alloc_new _ _
  have hb01 : Below W.heap.size W W1 := hb1.trans (hbV.mono hb1.size)
  obtain ⟨x1, x2, x3, x4, x5, x6, x7⟩ := HF.out
  have H1 : Hid (NB W1 (w.heap.size) s1 ao1 n1 cp1 e1 (un (a : Int) 0) ∧ NB W1 (w.heap.size + 1) s2 ao2 n2 cp2 e2 (un (b : Int) 0) ∧ NB W1 (w.heap.size + 1 + 1) s3 ao3 n3 cp3 e3 (un (c : Int) 0) ∧ NB W1 (w.heap.size + 1 + 1 + 1) s4 ao4 n4 cp4 e4 (un (d : Int) 0) ∧ W1.heap[w.heap.size + 1 + 1 + 1 + 1]? = some (.cells #[.bool false, .slice none 0 0, .int .i64 0] 27 (0, 0)) ∧ W1.heap[w.heap.size + 1 + 1 + 1 + 1 + 1]? = some (.cells #[.bool false, .slice none 0 0, .int .i64 0] 27 (0, 0)) ∧ Below w.heap.size w W1 ∧ NB W1 w1.heap.size s5 ao5 n5 cp5 e5 (un 1 0) ∧ w.heap.size + 1 + 1 + 1 + 1 + 1 < w1.heap.size) := ⟨x1.later hb01, x2.later hb01, x3.later hb01, x4.later hb01, box_later x5 hb01 (lt_of_box x5), box_later x6 hb01 (lt_of_box x6), x7.trans (hb01.mono x7.size), ⟨n6, hA.later hbV⟩, by have := lt_of_box x6; have := hb1.size; omega⟩
  clear x1 x2 x3 x4 x5 x6 x7 hb01 n6 hbV hA hb1 HF
  obtain ⟨x0, x1, x2⟩ := (cells3N H1.out.1.1).1
  obtain ⟨y0, y1, y2⟩ := (cells3N H1.out.2.1.1).1
  have kk := dfloor8 a b k s1 ao1 n1 cp1 e1 s2 ao2 n2 cp2 e2 W1 H0.out.1 H0.out.2.1 H0.out.2.2.1 H0.out.2.2.2.1 H1.out.1.2 H1.out.2.1.2
  go_upto_region 2 with fail
  rw [← hW1]
  clear hW1
  generalize w1.heap.size = gqT at *
  go_wp2_with fail
  refine kk.mono ?_
  rintro r w2 ⟨s6, ao6, n6, cp6, e6, s7, ao7, n7, cp7, e7, rfl, hA, hB, hb2⟩
  clear kk x0 x1 x2 y0 y1 y2
  obtain ⟨W2, hW2⟩ : ∃ W2, W2 = (w2.alloc (.cells #[.bool s6, .slice ao6 n6 cp6, .int .i64 e6] 27)).alloc (.cells #[.bool s7, .slice ao7 n7 cp7, .int .i64 e7] 27) := ⟨_, rfl⟩
  obtain ⟨z1, z2, z3, z4⟩ := two_new _ _ hW2
  have hb12 : Below W1.heap.size W1 W2 := hb2.trans (z4.mono hb2.size)
  obtain ⟨x1, x2, x3, x4, x5, x6, x7, x8, x9⟩ := H1.out
  have H2 : Hid (NB W2 (w.heap.size) s1 ao1 n1 cp1 e1 (un (a : Int) 0) ∧ NB W2 (w.heap.size + 1) s2 ao2 n2 cp2 e2 (un (b : Int) 0) ∧ NB W2 (w.heap.size + 1 + 1) s3 ao3 n3 cp3 e3 (un (c : Int) 0) ∧ NB W2 (w.heap.size + 1 + 1 + 1) s4 ao4 n4 cp4 e4 (un (d : Int) 0) ∧ W2.heap[w.heap.size + 1 + 1 + 1 + 1]? = some (.cells #[.bool false, .slice none 0 0, .int .i64 0] 27 (0, 0)) ∧ W2.heap[w.heap.size + 1 + 1 + 1 + 1 + 1]? = some (.cells #[.bool false, .slice none 0 0, .int .i64 0] 27 (0, 0)) ∧ Below w.heap.size w W2 ∧ NB W2 gqT s5 ao5 n5 cp5 e5 (un 1 0) ∧ w.heap.size + 1 + 1 + 1 + 1 + 1 < gqT ∧ NB W2 w2.heap.size s6 ao6 n6 cp6 e6 (un ((a / b : Nat) : Int) 0) ∧ NB W2 (w2.heap.size + 1) s7 ao7 n7 cp7 e7 (un ((a % b : Nat) : Int) 0) ∧ gqT < w2.heap.size) := ⟨x1.later hb12, x2.later hb12, x3.later hb12, x4.later hb12, box_later x5 hb12 (lt_of_box x5), box_later x6 hb12 (lt_of_box x6), x7.trans (hb12.mono x7.size), x8.later hb12, x9, ⟨z1, hA.later z4⟩, ⟨z2, hB.later z4⟩, by have := lt_of_box x8.1; have := hb2.size; omega⟩
  clear x1 x2 x3 x4 x5 x6 x7 x8 x9 z1 z2 z3 z4 hb12 hA hB hb2 H1
  obtain ⟨x0, x1, x2⟩ := (cells3N H2.out.2.2.2.2.2.2.2.2.2.2.1.1).1
  go_upto_region 3 with fail
  rw [← hW2]
  clear hW2
  generalize w2.heap.size = gqE at *
  have ln7 := DN.all H2.out.2.2.2.2.2.2.2.2.2.2.1.2
  have hr0 : (un ((a % b : Nat) : Int) 0).2.1 ≠ 0 := fun h => by have := un_sign.2.1 h; omega
  have hn7 : n7 ≠ 0 := by rw [ln7.2.1]; have := dlen_pos hr0; omega
  have hn7' : n7 ≤ 35184372088832 := by rw [ln7.2.1]; exact ln7.2.2.2
  have hs7 : s7 = false := by
    rw [ln7.1]
    unfold un cn
    rw [decide_eq_false (by omega)]
    split <;> rfl
  subst hs7
  have kk := rsgn (na := false) (ua := ao7) (un := n7) (uc := cp7) (ea := e7) (w := W2) hn7'
  rw [if_neg hn7] at kk
  simp only [Bool.false_eq_true, if_false] at kk
  clear ln7 hr0 hn7 hn7'
  go_wp2_with fail
  refine kk.mono ?_
  rintro r W3 ⟨rfl, hb3⟩
  clear kk x0 x1 x2
  obtain ⟨x1, x2, x3, x4, x5, x6, x7, x8, x9, xa, xb, xc⟩ := H2.out
  have H3 : Hid (NB W3 (w.heap.size) s1 ao1 n1 cp1 e1 (un (a : Int) 0) ∧ NB W3 (w.heap.size + 1) s2 ao2 n2 cp2 e2 (un (b : Int) 0) ∧ NB W3 (w.heap.size + 1 + 1) s3 ao3 n3 cp3 e3 (un (c : Int) 0) ∧ NB W3 (w.heap.size + 1 + 1 + 1) s4 ao4 n4 cp4 e4 (un (d : Int) 0) ∧ W3.heap[w.heap.size + 1 + 1 + 1 + 1]? = some (.cells #[.bool false, .slice none 0 0, .int .i64 0] 27 (0, 0)) ∧ W3.heap[w.heap.size + 1 + 1 + 1 + 1 + 1]? = some (.cells #[.bool false, .slice none 0 0, .int .i64 0] 27 (0, 0)) ∧ Below w.heap.size w W3 ∧ NB W3 gqT s5 ao5 n5 cp5 e5 (un 1 0) ∧ w.heap.size + 1 + 1 + 1 + 1 + 1 < gqT ∧ NB W3 gqE s6 ao6 n6 cp6 e6 (un ((a / b : Nat) : Int) 0) ∧ NB W3 (gqE + 1) false ao7 n7 cp7 e7 (un ((a % b : Nat) : Int) 0) ∧ gqT < gqE) := ⟨x1.later hb3, x2.later hb3, x3.later hb3, x4.later hb3, box_later x5 hb3 (lt_of_box x5), box_later x6 hb3 (lt_of_box x6), x7.trans (hb3.mono x7.size), x8.later hb3, x9, xa.later hb3, xb.later hb3, xc⟩
  clear x1 x2 x3 x4 x5 x6 x7 x8 x9 xa xb xc hb3 H2
  have nA : (((a / b : Nat) : Int)).natAbs < 2 ^ k := by rw [Int.natAbs_natCast]; exact Nat.lt_of_le_of_lt (Nat.div_le_self _ _) H0.out.2.2.1
  have kk := gplus (un_gn nA (by have := H0.out.2.1; omega) (by omega)) (un_gn (b := 1) (Z := 1) (by decide) (by omega) (by omega)) H3.out.2.2.2.2.2.2.2.2.2.1.2 H3.out.2.2.2.2.2.2.2.1.2
  rw [gS_un, show ((a / b : Nat) : Int) + 1 = ((a / b + 1 : Nat) : Int) from by push_cast; rfl] at kk
  obtain ⟨x0, x1, x2⟩ := (cells3N H3.out.2.2.2.2.2.2.2.2.2.1.1).1
  obtain ⟨y0, y1, y2⟩ := (cells3N H3.out.2.2.2.2.2.2.2.1.1).1
  go_wp2_with fail
  refine kk.mono ?_
  rintro r w4 ⟨A, rfl, hA, hb4⟩
  obtain ⟨s8, ao8, n8, cp8, e8, rfl⟩ := hA.shape
  clear kk x0 x1 x2 y0 y1 y2
  obtain ⟨W4, hW4⟩ : ∃ W4, W4 = w4.alloc (.cells #[.bool s8, .slice ao8 n8 cp8, .int .i64 e8] 27) := ⟨_, rfl⟩
  go_upto_region 6 with fail
  rw [← hW4]
  have hbV : Below w4.heap.size w4 W4 := by rw [hW4]; exact (Below.refl _ _).alloc (Nat.le_refl _) _
  have n6' : W4.heap[w4.heap.size]? = some (.cells #[.bool s8, .slice ao8 n8 cp8, .int .i64 e8] 27 (0, 0)) := by rw [hW4]; exact heap_alloc_new _ _
  have hb34 : Below W3.heap.size W3 W4 := hb4.trans (hbV.mono hb4.size)
  obtain ⟨x1, x2, x3, x4, x5, x6, x7, x8, x9, xa, xb, xc⟩ := H3.out
  have hsz := hb4.size
  have hE := lt_of_box xb.1
  have hA' := hA.later hbV
  clear hW4 hbV hA
  generalize w4.heap.size = gqA at *
  have H4 : Hid (NB W4 (w.heap.size) s1 ao1 n1 cp1 e1 (un (a : Int) 0) ∧ NB W4 (w.heap.size + 1) s2 ao2 n2 cp2 e2 (un (b : Int) 0) ∧ NB W4 (w.heap.size + 1 + 1) s3 ao3 n3 cp3 e3 (un (c : Int) 0) ∧ NB W4 (w.heap.size + 1 + 1 + 1) s4 ao4 n4 cp4 e4 (un (d : Int) 0) ∧ W4.heap[w.heap.size + 1 + 1 + 1 + 1]? = some (.cells #[.bool false, .slice none 0 0, .int .i64 0] 27 (0, 0)) ∧ W4.heap[w.heap.size + 1 + 1 + 1 + 1 + 1]? = some (.cells #[.bool false, .slice none 0 0, .int .i64 0] 27 (0, 0)) ∧ Below w.heap.size w W4 ∧ NB W4 gqT s5 ao5 n5 cp5 e5 (un 1 0) ∧ w.heap.size + 1 + 1 + 1 + 1 + 1 < gqT ∧ NB W4 gqE s6 ao6 n6 cp6 e6 (un ((a / b : Nat) : Int) 0) ∧ NB W4 (gqE + 1) false ao7 n7 cp7 e7 (un ((a % b : Nat) : Int) 0) ∧ gqT < gqE ∧ NB W4 gqA s8 ao8 n8 cp8 e8 (un ((a / b + 1 : Nat) : Int) 0) ∧ gqE < gqA) := ⟨x1.later hb34, x2.later hb34, x3.later hb34, x4.later hb34, box_later x5 hb34 (lt_of_box x5), box_later x6 hb34 (lt_of_box x6), x7.trans (hb34.mono x7.size), x8.later hb34, x9, xa.later hb34, xb.later hb34, xc, ⟨n6', hA'⟩, by omega⟩
  clear x1 x2 x3 x4 x5 x6 x7 x8 x9 xa xb xc hb4 hb34 n6' hA' H3 hsz hE nA
  obtain ⟨x1, x2, x3, x4, x5, x6, x7, x8, x9, xa, xb, xc, xd, xe⟩ := H4.out
  have bA : (((a / b + 1 : Nat) : Int)).natAbs < 2 ^ (k + 1) := by
    rw [Int.natAbs_natCast, Nat.pow_succ]
    have := Nat.div_le_self a b
    have := H0.out.2.2.1
    omega
  have dA : ((d : Int)).natAbs < 2 ^ k := by rw [Int.natAbs_natCast]; exact H0.out.2.2.2.2.2
  have cA : ((c : Int)).natAbs < 2 ^ k := by rw [Int.natAbs_natCast]; exact H0.out.2.2.2.2.1
  have hk2 := H0.out.2.1
  have hdc : decide (((a / b + 1 : Nat) : Int) * (d : Int) ≤ (c : Int)) = true := by
    rw [show ((a / b + 1 : Nat) : Int) * (d : Int) = (((a / b + 1) * d : Nat) : Int) from (Int.natCast_mul _ _).symm]
    exact decide_eq_true (by omega)
  refine r_region [0, 1, 2, 3, 4, 5] [32, 33, 34, 35, 36, 37] [[], [], [0, 1], [], [2, 3], [4]] W4 _ [isV (.agg #[.bool s8, .slice ao8 n8 cp8, .int .i64 e8]), isV (.agg #[.bool s4, .slice ao4 n4 cp4, .int .i64 e4]), isD (un (((a / b + 1 : Nat) : Int) * (d : Int)) 0), isV (.agg #[.bool s3, .slice ao3 n3 cp3, .int .i64 e3]), isV (.int .i64 (cmpI (((a / b + 1 : Nat) : Int) * (d : Int)) (c : Int))), isV (.bool true)] (by kernel_rfl) ⟨isV_stays _, isV_stays _, isD_stays _, isV_stays _, isV_stays _, isV_stays _, trivial⟩ (by show ∀ s ∈ [32, 33, 34, 35, 36, 37], s < 59; decide) ?_ ?_
  · intro j hj o ho act U hb hoth hdep
    have t13 : act.tmps[(13 : Nat)]? = some (Value.pointer (some ⟨gqA, 0, none⟩)) := (hoth 13 (by decide)).trans rfl
    have t7 : act.tmps[(7 : Nat)]? = some (Value.pointer (some ⟨w.heap.size + 1 + 1 + 1, 0, none⟩)) := (hoth 7 (by decide)).trans rfl
    have t6 : act.tmps[(6 : Nat)]? = some (Value.pointer (some ⟨w.heap.size + 1 + 1, 0, none⟩)) := (hoth 6 (by decide)).trans rfl
    have c13 := (cells3N (xd.later hb).1).1
    have c7 := (cells3N (x4.later hb).1).1
    have c6 := (cells3N (x3.later hb).1).1
    rcases lt6S hj with rfl | rfl | rfl | rfl | rfl | rfl
    · obtain rfl := Option.some.inj ho
      exact .inl ⟨rfl, owp_ldD rfl t13 c13.1 c13.2.1 c13.2.2 ⟨_, rfl, rfl, Below.refl _ _⟩⟩
    · obtain rfl := Option.some.inj ho
      exact .inl ⟨rfl, owp_ldD rfl t7 c7.1 c7.2.1 c7.2.2 ⟨_, rfl, rfl, Below.refl _ _⟩⟩
    · obtain rfl := Option.some.inj ho
      have y0 : act.tmps[(32 : Nat)]? = _ := dV (hdep 0 (by simp [dL])) rfl
      have y1 : act.tmps[(33 : Nat)]? = _ := dV (hdep 1 (by simp [dL])) rfl
      refine .inl ⟨rfl, owp_call rfl (enters Tryz.func54 (by kernel_rfl) (by kernel_rfl)) (map2 y0 y1) ?_⟩
      have h := gtimes (un_gn bA (by omega) (by omega)) (un_gn dA (by omega) (by omega)) (xd.later hb).2 (x4.later hb).2
      rw [gM_un] at h
      refine h.mono ?_
      rintro r w' ⟨A, rfl, hA, hb'⟩
      exact ⟨_, rfl, _, rfl, hA, hb'⟩
    · obtain rfl := Option.some.inj ho
      exact .inl ⟨rfl, owp_ldD rfl t6 c6.1 c6.2.1 c6.2.2 ⟨_, rfl, rfl, Below.refl _ _⟩⟩
    · obtain rfl := Option.some.inj ho
      obtain ⟨u2, y2, v2⟩ := dD (s := 34) (hdep 2 (by simp [dL])) rfl
      have y3 : act.tmps[(35 : Nat)]? = _ := dV (hdep 3 (by simp [dL])) rfl
      refine .inl ⟨rfl, owp_call rfl (enters Tryz.func53 (by kernel_rfl) (by kernel_rfl)) (map2 y2 y3) ?_⟩
      refine (dorderU (abs_mul bA dA) cA (by omega) (by omega) (by omega) v2 (x3.later hb).2).mono ?_
      rintro r w' ⟨rfl, hb'⟩
      exact ⟨_, rfl, _, rfl, rfl, hb'⟩
    · obtain rfl := Option.some.inj ho
      have y4 : act.tmps[(36 : Nat)]? = _ := dV (hdep 4 (by simp [dL])) rfl
      exact .inl ⟨rfl, owp_leqI rfl y4 ⟨_, rfl, congrArg Value.bool (cmpI_le0.trans hdc), Below.refl _ _⟩⟩
  · intro u W5 hb5 hu
    have u5 : u 5 = .bool true := hu 5 (by show 5 < 6; decide)
    have H5 : Hid (NB W5 (w.heap.size) s1 ao1 n1 cp1 e1 (un (a : Int) 0) ∧ NB W5 (w.heap.size + 1) s2 ao2 n2 cp2 e2 (un (b : Int) 0) ∧ NB W5 (w.heap.size + 1 + 1) s3 ao3 n3 cp3 e3 (un (c : Int) 0) ∧ NB W5 (w.heap.size + 1 + 1 + 1) s4 ao4 n4 cp4 e4 (un (d : Int) 0) ∧ W5.heap[w.heap.size + 1 + 1 + 1 + 1]? = some (.cells #[.bool false, .slice none 0 0, .int .i64 0] 27 (0, 0)) ∧ W5.heap[w.heap.size + 1 + 1 + 1 + 1 + 1]? = some (.cells #[.bool false, .slice none 0 0, .int .i64 0] 27 (0, 0)) ∧ Below w.heap.size w W5 ∧ NB W5 gqT s5 ao5 n5 cp5 e5 (un 1 0) ∧ w.heap.size + 1 + 1 + 1 + 1 + 1 < gqT ∧ NB W5 gqE s6 ao6 n6 cp6 e6 (un ((a / b : Nat) : Int) 0) ∧ NB W5 (gqE + 1) false ao7 n7 cp7 e7 (un ((a % b : Nat) : Int) 0) ∧ gqT < gqE ∧ NB W5 gqA s8 ao8 n8 cp8 e8 (un ((a / b + 1 : Nat) : Int) 0) ∧ gqE < gqA) := ⟨x1.later hb5, x2.later hb5, x3.later hb5, x4.later hb5, box_later x5 hb5 (lt_of_box x5), box_later x6 hb5 (lt_of_box x6), x7.trans (hb5.mono x7.size), x8.later hb5, x9, xa.later hb5, xb.later hb5, xc, xd.later hb5, xe⟩
    clear hu hb5 x1 x2 x3 x4 x5 x6 x7 x8 x9 xa xb xc xd xe H4 bA dA cA hk2 hdc
    simp only [putL, show List.range 6 = [0, 1, 2, 3, 4, 5] from rfl, List.length_cons, List.length_nil, List.getD_cons_zero, List.getD_cons_succ, List.map_cons, List.map_nil, List.cons_append, List.nil_append, List.foldl_cons, List.foldl_nil, Nat.reduceLT, Nat.reduceMod, Nat.reduceDiv, Nat.reduceMul, Nat.reduceAdd, Nat.reduceEqDiff, reduceIte, Nat.one_ne_zero, Act.put, List.setIfInBounds_toArray, List.set_cons_zero, List.set_cons_succ]
    rw [u5]
    go_upto_region 7 with fail
    obtain ⟨x1, x2, x3, x4, x5, x6, x7, x8, x9, xa, xb, xc, xd, xe⟩ := H5.out
    have hbx2 : ∀ i, i < 2 → ∃ cs, W5.heap[two (w.heap.size + 1 + 1 + 1 + 1) (w.heap.size + 1 + 1 + 1 + 1 + 1) i]? = some (.cells cs 27 (0, 0)) ∧ NC3 cs := fun i hi => by
      rcases lt2F hi with rfl | rfl
      · exact ⟨_, x5, _, _, _, _, _, rfl⟩
      · exact ⟨_, x6, _, _, _, _, _, rfl⟩
    have ne : ∀ g, w.heap.size + 1 + 1 + 1 + 1 + 1 < g → ∀ i, i < 2 → g ≠ two (w.heap.size + 1 + 1 + 1 + 1) (w.heap.size + 1 + 1 + 1 + 1 + 1) i := fun g h i hi => by
      rcases lt2F hi with rfl | rfl
      · show g ≠ w.heap.size + 1 + 1 + 1 + 1; omega
      · show g ≠ w.heap.size + 1 + 1 + 1 + 1 + 1; omega
    refine q_region follows_mixed [0, 1] [2, 3] [38, 39] [[], []] [[0], [1]] [0, 1] (two 8 9) (two (w.heap.size + 1 + 1 + 1 + 1) (w.heap.size + 1 + 1 + 1 + 1 + 1)) w.heap.size 27 NC3 3 W5 _ [isV (.agg #[.bool s8, .slice ao8 n8 cp8, .int .i64 e8]), isV (.agg #[.bool s5, .slice ao5 n5 cp5, .int .i64 e5])] (by kernel_rfl) ⟨isV_stays _, isV_stays _, trivial⟩ ⟨isV_rows _ _ _, isV_rows _ _ _, trivial⟩ (by show ∀ s ∈ [38, 39], s < 59; decide) ?_ ?_ Tryz.info27 ?_ ?_ ?_ (two_inj (by omega)) x7.size ?_
    · intro i hi U u h
      rcases lt2F hi with rfl | rfl
      · obtain rfl : u = _ := h
        exact ⟨_, rfl, rfl, ⟨_, _, _, _, _, rfl⟩, one3 rfl rfl⟩
      · obtain rfl : u = _ := h
        exact ⟨_, rfl, rfl, ⟨_, _, _, _, _, rfl⟩, one3 rfl rfl⟩
    · intro j hj o ho act U hK hoth hdep hrd
      rcases lt2F hj with rfl | rfl
      · obtain rfl := Option.some.inj ho
        have t13 : act.tmps[(13 : Nat)]? = some (Value.pointer (some ⟨gqA, 0, none⟩)) := (hoth 13 (by decide)).trans rfl
        have c6 := (cells3N ((hK.keep gqA (lt_of_box xd.1) (ne gqA (by omega))).trans xd.1)).1
        exact .inl ⟨rfl, owp_ldD rfl t13 c6.1 c6.2.1 c6.2.2 ⟨_, rfl, rfl, Below.refl _ _⟩⟩
      · obtain rfl := Option.some.inj ho
        have t10 : act.tmps[(10 : Nat)]? = some (Value.pointer (some ⟨gqT, 0, none⟩)) := (hoth 10 (by decide)).trans rfl
        have c5 := (cells3N ((hK.keep gqT (lt_of_box x8.1) (ne gqT (by omega))).trans x8.1)).1
        exact .inl ⟨rfl, owp_ldD rfl t10 c5.1 c5.2.1 c5.2.2 ⟨_, rfl, rfl, Below.refl _ _⟩⟩
    · intro i hi
      rcases lt2F hi with rfl | rfl <;> exact ⟨_, rfl, rfl⟩
    · intro i hi
      rcases lt2F hi with rfl | rfl
      · exact ⟨rfl, by decide⟩
      · exact ⟨rfl, by decide⟩
    · intro i hi
      rcases lt2F hi with rfl | rfl
      · exact ⟨by show w.heap.size ≤ w.heap.size + 1 + 1 + 1 + 1; omega, _, x5, rfl, _, _, _, _, _, rfl⟩
      · exact ⟨by show w.heap.size ≤ w.heap.size + 1 + 1 + 1 + 1 + 1; omega, _, x6, rfl, _, _, _, _, _, rfl⟩
    · intro u U hK hu hcs
      obtain ⟨csb, yb, zb⟩ := hcs 1 (by decide)
      obtain ⟨csa, ya, za⟩ := hcs 0 (by decide)
      have u0 : u 0 = .agg #[.bool s8, .slice ao8 n8 cp8, .int .i64 e8] := hu 0 (by decide)
      have u1 : u 1 = .agg #[.bool s5, .slice ao5 n5 cp5, .int .i64 e5] := hu 1 (by decide)
      have ya' : u 0 = .agg csa := ya
      have yb' : u 1 = .agg csb := yb
      rw [u0] at ya'
      rw [u1] at yb'
      obtain rfl := Value.agg.inj ya'
      obtain rfl := Value.agg.inj yb'
      have HX : Hid (U.heap[w.heap.size + 1 + 1 + 1 + 1]? = some (.cells #[.bool s8, .slice ao8 n8 cp8, .int .i64 e8] 27 (0, 0)) ∧ U.heap[w.heap.size + 1 + 1 + 1 + 1 + 1]? = some (.cells #[.bool s5, .slice ao5 n5 cp5, .int .i64 e5] 27 (0, 0)) ∧ DN U (.agg #[.bool s8, .slice ao8 n8 cp8, .int .i64 e8]) (un ((a / b + 1 : Nat) : Int) 0) ∧ DN U (.agg #[.bool s5, .slice ao5 n5 cp5, .int .i64 e5]) (un 1 0) ∧ Below w.heap.size w U) := ⟨za, zb, DN.keepN hK hbx2 xd.2, DN.keepN hK hbx2 x8.2, x7.trans hK.below⟩
      clear hu hcs ya yb za zb ya' yb' hK x1 x2 x3 x4 x5 x6 x7 x8 xa xb xd hbx2 ne H5
      simp only [putL, show List.range 2 = [0, 1] from rfl, List.length_cons, List.length_nil, List.getD_cons_zero, List.getD_cons_succ, List.map_cons, List.map_nil, List.cons_append, List.nil_append, List.foldl_cons, List.foldl_nil, Nat.reduceLT, Nat.reduceMod, Nat.reduceDiv, Nat.reduceMul, Nat.reduceAdd, Nat.reduceEqDiff, reduceIte, Nat.one_ne_zero, Act.put, List.setIfInBounds_toArray, List.set_cons_zero, List.set_cons_succ]
      go_wp2_with fail
      refine bodyPost_ret (results_c2 rfl _ _ (w.heap.size + 1 + 1 + 1 + 1) (w.heap.size + 1 + 1 + 1 + 1 + 1) 27 #[.bool s8, .slice ao8 n8 cp8, .int .i64 e8] #[.bool s5, .slice ao5 n5 cp5, .int .i64 e5] (0, 0) (0, 0) _ rfl rfl HX.out.1 HX.out.2.1 Tryz.underlying27 rfl Tryz.info27 Tryz.info27) rfl ?_
      exact ⟨_, _, _, _, _, _, _, _, _, _, rfl, HX.out.2.2.1, HX.out.2.2.2.1, HX.out.2.2.2.2⟩
end Go.Proofs.YtcdkkpjilgmncaaGreatDoor
namespace Go.Proofs.YtcdkkpjilgmncaaGreatDoor
set_option linter.unusedVariables false
set_option linter.unusedSimpArgs false
open Go.RowKit Go.Fl64
set_option maxRecDepth 200000 in
theorem dsmp8_2 (a b c d k p q : Nat) (s1 : Bool) (ao1 : Option Addr) (n1 cp1 : Nat) (e1 : Int) (s2 : Bool) (ao2 : Option Addr) (n2 cp2 : Nat) (e2 : Int) (s3 : Bool) (ao3 : Option Addr) (n3 cp3 : Nat) (e3 : Int) (s4 : Bool) (ao4 : Option Addr) (n4 cp4 : Nat) (e4 : Int) (w : World) (hb : 0 < b) (hk : k ≤ 20000) (ha : a < 2 ^ k) (hbk : b < 2 ^ k) (hc : c < 2 ^ k) (hd : d < 2 ^ k) (d1 : DN w (.agg #[.bool s1, .slice ao1 n1 cp1, .int .i64 e1]) (un (a : Int) 0)) (d2 : DN w (.agg #[.bool s2, .slice ao2 n2 cp2, .int .i64 e2]) (un (b : Int) 0)) (d3 : DN w (.agg #[.bool s3, .slice ao3 n3 cp3, .int .i64 e3]) (un (c : Int) 0)) (d4 : DN w (.agg #[.bool s4, .slice ao4 n4 cp4, .int .i64 e4]) (un (d : Int) 0)) (h0 : a % b ≠ 0) (h1 : c < (a / b + 1) * d) (hlc : a / b * d ≤ c) (hpq : Hid (p < 2 ^ k ∧ q < 2 ^ k)) (hin : Hid (∀ (s1 : Bool) (ao1 : Option Addr) (n1 cp1 : Nat) (e1 : Int) (s2 : Bool) (ao2 : Option Addr) (n2 cp2 : Nat) (e2 : Int) (s3 : Bool) (ao3 : Option Addr) (n3 cp3 : Nat) (e3 : Int) (s4 : Bool) (ao4 : Option Addr) (n4 cp4 : Nat) (e4 : Int) (w : World), DN w (.agg #[.bool s1, .slice ao1 n1 cp1, .int .i64 e1]) (un (d : Int) 0) → DN w (.agg #[.bool s2, .slice ao2 n2 cp2, .int .i64 e2]) (un ((c - a / b * d : Nat) : Int) 0) → DN w (.agg #[.bool s3, .slice ao3 n3 cp3, .int .i64 e3]) (un (b : Int) 0) → DN w (.agg #[.bool s4, .slice ao4 n4 cp4, .int .i64 e4]) (un ((a % b : Nat) : Int) 0) → Calls Tryz.prog 19 #[.agg #[.bool s1, .slice ao1 n1 cp1, .int .i64 e1], .agg #[.bool s2, .slice ao2 n2 cp2, .int .i64 e2], .agg #[.bool s3, .slice ao3 n3 cp3, .int .i64 e3], .agg #[.bool s4, .slice ao4 n4 cp4, .int .i64 e4]] w fun r w' => Out2D w (un (p : Int) 0) (un (q : Int) 0) r w')) :
    Calls Tryz.prog 19 #[.agg #[.bool s1, .slice ao1 n1 cp1, .int .i64 e1], .agg #[.bool s2, .slice ao2 n2 cp2, .int .i64 e2], .agg #[.bool s3, .slice ao3 n3 cp3, .int .i64 e3], .agg #[.bool s4, .slice ao4 n4 cp4, .int .i64 e4]] w fun r w' => Out2D w (un ((a / b * p + q : Nat) : Int) 0) (un (p : Int) 0) r w' := by
  obtain ⟨W, hW⟩ : ∃ W, W = (((((w.alloc (.cells #[.bool s1, .slice ao1 n1 cp1, .int .i64 e1] 27)).alloc (.cells #[.bool s2, .slice ao2 n2 cp2, .int .i64 e2] 27)).alloc (.cells #[.bool s3, .slice ao3 n3 cp3, .int .i64 e3] 27)).alloc (.cells #[.bool s4, .slice ao4 n4 cp4, .int .i64 e4] 27)).alloc (.cells #[.bool false, .slice none 0 0, .int .i64 0] 27)).alloc (.cells #[.bool false, .slice none 0 0, .int .i64 0] 27) := ⟨_, rfl⟩
  obtain ⟨m1, m2, m3, m4, m5, m6, hBW⟩ := six_new _ _ _ _ _ _ hW
  have HF : Hid (NB W (w.heap.size) s1 ao1 n1 cp1 e1 (un (a : Int) 0) ∧ NB W (w.heap.size + 1) s2 ao2 n2 cp2 e2 (un (b : Int) 0) ∧ NB W (w.heap.size + 1 + 1) s3 ao3 n3 cp3 e3 (un (c : Int) 0) ∧ NB W (w.heap.size + 1 + 1 + 1) s4 ao4 n4 cp4 e4 (un (d : Int) 0) ∧ W.heap[w.heap.size + 1 + 1 + 1 + 1]? = some (.cells #[.bool false, .slice none 0 0, .int .i64 0] 27 (0, 0)) ∧ W.heap[w.heap.size + 1 + 1 + 1 + 1 + 1]? = some (.cells #[.bool false, .slice none 0 0, .int .i64 0] 27 (0, 0)) ∧ Below w.heap.size w W) := ⟨⟨m1, d1.later hBW⟩, ⟨m2, d2.later hBW⟩, ⟨m3, d3.later hBW⟩, ⟨m4, d4.later hBW⟩, m5, m6, hBW⟩
  have H0 : Hid (0 < b ∧ k ≤ 20000 ∧ a < 2 ^ k ∧ b < 2 ^ k ∧ c < 2 ^ k ∧ d < 2 ^ k) := ⟨hb, hk, ha, hbk, hc, hd⟩
  have kk := dwholeU (n := 1) (by omega) W
  clear m1 m2 m3 m4 m5 m6 hBW d1 d2 d3 d4 hb hk ha hbk hc hd
  go_enter Tryz.func19, Tryz.ntmps19
  go_upto_region 1 with fail
  rw [← hW]
  clear hW
  go_wp2_with fail
  refine kk.mono ?_
  rintro r w1 ⟨A, rfl, hA, hb1⟩
  obtain ⟨s5, ao5, n5, cp5, e5, rfl⟩ := hA.shape
  clear kk
  obtain ⟨W1, hW1⟩ : ∃ W1, W1 = w1.alloc (.cells #[.bool s5, .slice ao5 n5 cp5, .int .i64 e5] 27) := ⟨_, rfl⟩
  have hbV : Below w1.heap.size w1 W1 := by rw [hW1]; exact (Below.refl _ _).alloc (Nat.le_refl _) _
  have n6 : W1.heap[w1.heap.size]? = some (.cells #[.bool s5, .slice ao5 n5 cp5, .int .i64 e5] 27 (0, 0)) := by rw [hW1]; exact heap_alloc_new _ _
  have hb01 : Below W.heap.size W W1 := hb1.trans (hbV.mono hb1.size)
  obtain ⟨x1, x2, x3, x4, x5, x6, x7⟩ := HF.out
  have H1 : Hid (NB W1 (w.heap.size) s1 ao1 n1 cp1 e1 (un (a : Int) 0) ∧ NB W1 (w.heap.size + 1) s2 ao2 n2 cp2 e2 (un (b : Int) 0) ∧ NB W1 (w.heap.size + 1 + 1) s3 ao3 n3 cp3 e3 (un (c : Int) 0) ∧ NB W1 (w.heap.size + 1 + 1 + 1) s4 ao4 n4 cp4 e4 (un (d : Int) 0) ∧ W1.heap[w.heap.size + 1 + 1 + 1 + 1]? = some (.cells #[.bool false, .slice none 0 0, .int .i64 0] 27 (0, 0)) ∧ W1.heap[w.heap.size + 1 + 1 + 1 + 1 + 1]? = some (.cells #[.bool false, .slice none 0 0, .int .i64 0] 27 (0, 0)) ∧ Below w.heap.size w W1 ∧ NB W1 w1.heap.size s5 ao5 n5 cp5 e5 (un 1 0) ∧ w.heap.size + 1 + 1 + 1 + 1 + 1 < w1.heap.size) := ⟨x1.later hb01, x2.later hb01, x3.later hb01, x4.later hb01, box_later x5 hb01 (lt_of_box x5), box_later x6 hb01 (lt_of_box x6), x7.trans (hb01.mono x7.size), ⟨n6, hA.later hbV⟩, by have := lt_of_box x6; have := hb1.size; omega⟩
  clear x1 x2 x3 x4 x5 x6 x7 hb01 n6 hbV hA hb1 HF
  obtain ⟨x0, x1, x2⟩ := (cells3N H1.out.1.1).1
  obtain ⟨y0, y1, y2⟩ := (cells3N H1.out.2.1.1).1
  have kk := dfloor8 a b k s1 ao1 n1 cp1 e1 s2 ao2 n2 cp2 e2 W1 H0.out.1 H0.out.2.1 H0.out.2.2.1 H0.out.2.2.2.1 H1.out.1.2 H1.out.2.1.2
  go_upto_region 2 with fail
  rw [← hW1]
  clear hW1
  generalize w1.heap.size = gqT at *
  go_wp2_with fail
  refine kk.mono ?_
  rintro r w2 ⟨s6, ao6, n6, cp6, e6, s7, ao7, n7, cp7, e7, rfl, hA, hB, hb2⟩
  clear kk x0 x1 x2 y0 y1 y2
  obtain ⟨W2, hW2⟩ : ∃ W2, W2 = (w2.alloc (.cells #[.bool s6, .slice ao6 n6 cp6, .int .i64 e6] 27)).alloc (.cells #[.bool s7, .slice ao7 n7 cp7, .int .i64 e7] 27) := ⟨_, rfl⟩
  obtain ⟨z1, z2, z3, z4⟩ := two_new _ _ hW2
  have hb12 : Below W1.heap.size W1 W2 := hb2.trans (z4.mono hb2.size)
  obtain ⟨x1, x2, x3, x4, x5, x6, x7, x8, x9⟩ := H1.out
  have H2 : Hid (NB W2 (w.heap.size) s1 ao1 n1 cp1 e1 (un (a : Int) 0) ∧ NB W2 (w.heap.size + 1) s2 ao2 n2 cp2 e2 (un (b : Int) 0) ∧ NB W2 (w.heap.size + 1 + 1) s3 ao3 n3 cp3 e3 (un (c : Int) 0) ∧ NB W2 (w.heap.size + 1 + 1 + 1) s4 ao4 n4 cp4 e4 (un (d : Int) 0) ∧ W2.heap[w.heap.size + 1 + 1 + 1 + 1]? = some (.cells #[.bool false, .slice none 0 0, .int .i64 0] 27 (0, 0)) ∧ W2.heap[w.heap.size + 1 + 1 + 1 + 1 + 1]? = some (.cells #[.bool false, .slice none 0 0, .int .i64 0] 27 (0, 0)) ∧ Below w.heap.size w W2 ∧ NB W2 gqT s5 ao5 n5 cp5 e5 (un 1 0) ∧ w.heap.size + 1 + 1 + 1 + 1 + 1 < gqT ∧ NB W2 w2.heap.size s6 ao6 n6 cp6 e6 (un ((a / b : Nat) : Int) 0) ∧ NB W2 (w2.heap.size + 1) s7 ao7 n7 cp7 e7 (un ((a % b : Nat) : Int) 0) ∧ gqT < w2.heap.size) := ⟨x1.later hb12, x2.later hb12, x3.later hb12, x4.later hb12, box_later x5 hb12 (lt_of_box x5), box_later x6 hb12 (lt_of_box x6), x7.trans (hb12.mono x7.size), x8.later hb12, x9, ⟨z1, hA.later z4⟩, ⟨z2, hB.later z4⟩, by have := lt_of_box x8.1; have := hb2.size; omega⟩
  clear x1 x2 x3 x4 x5 x6 x7 x8 x9 z1 z2 z3 z4 hb12 hA hB hb2 H1
  obtain ⟨x0, x1, x2⟩ := (cells3N H2.out.2.2.2.2.2.2.2.2.2.2.1.1).1
  go_upto_region 3 with fail
  rw [← hW2]
  clear hW2
  generalize w2.heap.size = gqE at *
  have ln7 := DN.all H2.out.2.2.2.2.2.2.2.2.2.2.1.2
  have hr0 : (un ((a % b : Nat) : Int) 0).2.1 ≠ 0 := fun h => by have := un_sign.2.1 h; omega
  have hn7 : n7 ≠ 0 := by rw [ln7.2.1]; have := dlen_pos hr0; omega
  have hn7' : n7 ≤ 35184372088832 := by rw [ln7.2.1]; exact ln7.2.2.2
  have hs7 : s7 = false := by
    rw [ln7.1]
    unfold un cn
    rw [decide_eq_false (by omega)]
    split <;> rfl
  subst hs7
  have kk := rsgn (na := false) (ua := ao7) (un := n7) (uc := cp7) (ea := e7) (w := W2) hn7'
  rw [if_neg hn7] at kk
  simp only [Bool.false_eq_true, if_false] at kk
  clear ln7 hr0 hn7 hn7'
  go_wp2_with fail
  refine kk.mono ?_
  rintro r W3 ⟨rfl, hb3⟩
  clear kk x0 x1 x2
  obtain ⟨x1, x2, x3, x4, x5, x6, x7, x8, x9, xa, xb, xc⟩ := H2.out
  have H3 : Hid (NB W3 (w.heap.size) s1 ao1 n1 cp1 e1 (un (a : Int) 0) ∧ NB W3 (w.heap.size + 1) s2 ao2 n2 cp2 e2 (un (b : Int) 0) ∧ NB W3 (w.heap.size + 1 + 1) s3 ao3 n3 cp3 e3 (un (c : Int) 0) ∧ NB W3 (w.heap.size + 1 + 1 + 1) s4 ao4 n4 cp4 e4 (un (d : Int) 0) ∧ W3.heap[w.heap.size + 1 + 1 + 1 + 1]? = some (.cells #[.bool false, .slice none 0 0, .int .i64 0] 27 (0, 0)) ∧ W3.heap[w.heap.size + 1 + 1 + 1 + 1 + 1]? = some (.cells #[.bool false, .slice none 0 0, .int .i64 0] 27 (0, 0)) ∧ Below w.heap.size w W3 ∧ NB W3 gqT s5 ao5 n5 cp5 e5 (un 1 0) ∧ w.heap.size + 1 + 1 + 1 + 1 + 1 < gqT ∧ NB W3 gqE s6 ao6 n6 cp6 e6 (un ((a / b : Nat) : Int) 0) ∧ NB W3 (gqE + 1) false ao7 n7 cp7 e7 (un ((a % b : Nat) : Int) 0) ∧ gqT < gqE) := ⟨x1.later hb3, x2.later hb3, x3.later hb3, x4.later hb3, box_later x5 hb3 (lt_of_box x5), box_later x6 hb3 (lt_of_box x6), x7.trans (hb3.mono x7.size), x8.later hb3, x9, xa.later hb3, xb.later hb3, xc⟩
  clear x1 x2 x3 x4 x5 x6 x7 x8 x9 xa xb xc hb3 H2
  have nA : (((a / b : Nat) : Int)).natAbs < 2 ^ k := by rw [Int.natAbs_natCast]; exact Nat.lt_of_le_of_lt (Nat.div_le_self _ _) H0.out.2.2.1
  have kk := gplus (un_gn nA (by have := H0.out.2.1; omega) (by omega)) (un_gn (b := 1) (Z := 1) (by decide) (by omega) (by omega)) H3.out.2.2.2.2.2.2.2.2.2.1.2 H3.out.2.2.2.2.2.2.2.1.2
  rw [gS_un, show ((a / b : Nat) : Int) + 1 = ((a / b + 1 : Nat) : Int) from by push_cast; rfl] at kk
  obtain ⟨x0, x1, x2⟩ := (cells3N H3.out.2.2.2.2.2.2.2.2.2.1.1).1
  obtain ⟨y0, y1, y2⟩ := (cells3N H3.out.2.2.2.2.2.2.2.1.1).1
  go_wp2_with fail
  refine kk.mono ?_
  rintro r w4 ⟨A, rfl, hA, hb4⟩
  obtain ⟨s8, ao8, n8, cp8, e8, rfl⟩ := hA.shape
  clear kk x0 x1 x2 y0 y1 y2
  obtain ⟨W4, hW4⟩ : ∃ W4, W4 = w4.alloc (.cells #[.bool s8, .slice ao8 n8 cp8, .int .i64 e8] 27) := ⟨_, rfl⟩
  go_upto_region 6 with fail
  rw [← hW4]
  have hbV : Below w4.heap.size w4 W4 := by rw [hW4]; exact (Below.refl _ _).alloc (Nat.le_refl _) _
  have n6' : W4.heap[w4.heap.size]? = some (.cells #[.bool s8, .slice ao8 n8 cp8, .int .i64 e8] 27 (0, 0)) := by rw [hW4]; exact heap_alloc_new _ _
  have hb34 : Below W3.heap.size W3 W4 := hb4.trans (hbV.mono hb4.size)
  obtain ⟨x1, x2, x3, x4, x5, x6, x7, x8, x9, xa, xb, xc⟩ := H3.out
  have hsz := hb4.size
  have hE := lt_of_box xb.1
  have hA' := hA.later hbV
  clear hW4 hbV hA
  generalize w4.heap.size = gqA at *
  have H4 : Hid (NB W4 (w.heap.size) s1 ao1 n1 cp1 e1 (un (a : Int) 0) ∧ NB W4 (w.heap.size + 1) s2 ao2 n2 cp2 e2 (un (b : Int) 0) ∧ NB W4 (w.heap.size + 1 + 1) s3 ao3 n3 cp3 e3 (un (c : Int) 0) ∧ NB W4 (w.heap.size + 1 + 1 + 1) s4 ao4 n4 cp4 e4 (un (d : Int) 0) ∧ W4.heap[w.heap.size + 1 + 1 + 1 + 1]? = some (.cells #[.bool false, .slice none 0 0, .int .i64 0] 27 (0, 0)) ∧ W4.heap[w.heap.size + 1 + 1 + 1 + 1 + 1]? = some (.cells #[.bool false, .slice none 0 0, .int .i64 0] 27 (0, 0)) ∧ Below w.heap.size w W4 ∧ NB W4 gqT s5 ao5 n5 cp5 e5 (un 1 0) ∧ w.heap.size + 1 + 1 + 1 + 1 + 1 < gqT ∧ NB W4 gqE s6 ao6 n6 cp6 e6 (un ((a / b : Nat) : Int) 0) ∧ NB W4 (gqE + 1) false ao7 n7 cp7 e7 (un ((a % b : Nat) : Int) 0) ∧ gqT < gqE ∧ NB W4 gqA s8 ao8 n8 cp8 e8 (un ((a / b + 1 : Nat) : Int) 0) ∧ gqE < gqA) := ⟨x1.later hb34, x2.later hb34, x3.later hb34, x4.later hb34, box_later x5 hb34 (lt_of_box x5), box_later x6 hb34 (lt_of_box x6), x7.trans (hb34.mono x7.size), x8.later hb34, x9, xa.later hb34, xb.later hb34, xc, ⟨n6', hA'⟩, by omega⟩
  clear x1 x2 x3 x4 x5 x6 x7 x8 x9 xa xb xc hb4 hb34 n6' hA' H3 hsz hE nA
  obtain ⟨x1, x2, x3, x4, x5, x6, x7, x8, x9, xa, xb, xc, xd, xe⟩ := H4.out
  have bA : (((a / b + 1 : Nat) : Int)).natAbs < 2 ^ (k + 1) := by
    rw [Int.natAbs_natCast, Nat.pow_succ]
    have := Nat.div_le_self a b
    have := H0.out.2.2.1
    omega
  have dA : ((d : Int)).natAbs < 2 ^ k := by rw [Int.natAbs_natCast]; exact H0.out.2.2.2.2.2
  have cA : ((c : Int)).natAbs < 2 ^ k := by rw [Int.natAbs_natCast]; exact H0.out.2.2.2.2.1
  have hk2 := H0.out.2.1
  have hdc : decide (((a / b + 1 : Nat) : Int) * (d : Int) ≤ (c : Int)) = false := by
    rw [show ((a / b + 1 : Nat) : Int) * (d : Int) = (((a / b + 1) * d : Nat) : Int) from (Int.natCast_mul _ _).symm]
    exact decide_eq_false (by omega)
  refine r_region [0, 1, 2, 3, 4, 5] [32, 33, 34, 35, 36, 37] [[], [], [0, 1], [], [2, 3], [4]] W4 _ [isV (.agg #[.bool s8, .slice ao8 n8 cp8, .int .i64 e8]), isV (.agg #[.bool s4, .slice ao4 n4 cp4, .int .i64 e4]), isD (un (((a / b + 1 : Nat) : Int) * (d : Int)) 0), isV (.agg #[.bool s3, .slice ao3 n3 cp3, .int .i64 e3]), isV (.int .i64 (cmpI (((a / b + 1 : Nat) : Int) * (d : Int)) (c : Int))), isV (.bool false)] (by kernel_rfl) ⟨isV_stays _, isV_stays _, isD_stays _, isV_stays _, isV_stays _, isV_stays _, trivial⟩ (by show ∀ s ∈ [32, 33, 34, 35, 36, 37], s < 59; decide) ?_ ?_
  · intro j hj o ho act U hb hoth hdep
    have t13 : act.tmps[(13 : Nat)]? = some (Value.pointer (some ⟨gqA, 0, none⟩)) := (hoth 13 (by decide)).trans rfl
    have t7 : act.tmps[(7 : Nat)]? = some (Value.pointer (some ⟨w.heap.size + 1 + 1 + 1, 0, none⟩)) := (hoth 7 (by decide)).trans rfl
    have t6 : act.tmps[(6 : Nat)]? = some (Value.pointer (some ⟨w.heap.size + 1 + 1, 0, none⟩)) := (hoth 6 (by decide)).trans rfl
    have c13 := (cells3N (xd.later hb).1).1
    have c7 := (cells3N (x4.later hb).1).1
    have c6 := (cells3N (x3.later hb).1).1
    rcases lt6S hj with rfl | rfl | rfl | rfl | rfl | rfl
    · obtain rfl := Option.some.inj ho
      exact .inl ⟨rfl, owp_ldD rfl t13 c13.1 c13.2.1 c13.2.2 ⟨_, rfl, rfl, Below.refl _ _⟩⟩
    · obtain rfl := Option.some.inj ho
      exact .inl ⟨rfl, owp_ldD rfl t7 c7.1 c7.2.1 c7.2.2 ⟨_, rfl, rfl, Below.refl _ _⟩⟩
    · obtain rfl := Option.some.inj ho
      have y0 : act.tmps[(32 : Nat)]? = _ := dV (hdep 0 (by simp [dL])) rfl
      have y1 : act.tmps[(33 : Nat)]? = _ := dV (hdep 1 (by simp [dL])) rfl
      refine .inl ⟨rfl, owp_call rfl (enters Tryz.func54 (by kernel_rfl) (by kernel_rfl)) (map2 y0 y1) ?_⟩
      have h := gtimes (un_gn bA (by omega) (by omega)) (un_gn dA (by omega) (by omega)) (xd.later hb).2 (x4.later hb).2
      rw [gM_un] at h
      refine h.mono ?_
      rintro r w' ⟨A, rfl, hA, hb'⟩
      exact ⟨_, rfl, _, rfl, hA, hb'⟩
    · obtain rfl := Option.some.inj ho
      exact .inl ⟨rfl, owp_ldD rfl t6 c6.1 c6.2.1 c6.2.2 ⟨_, rfl, rfl, Below.refl _ _⟩⟩
    · obtain rfl := Option.some.inj ho
      obtain ⟨u2, y2, v2⟩ := dD (s := 34) (hdep 2 (by simp [dL])) rfl
      have y3 : act.tmps[(35 : Nat)]? = _ := dV (hdep 3 (by simp [dL])) rfl
      refine .inl ⟨rfl, owp_call rfl (enters Tryz.func53 (by kernel_rfl) (by kernel_rfl)) (map2 y2 y3) ?_⟩
      refine (dorderU (abs_mul bA dA) cA (by omega) (by omega) (by omega) v2 (x3.later hb).2).mono ?_
      rintro r w' ⟨rfl, hb'⟩
      exact ⟨_, rfl, _, rfl, rfl, hb'⟩
    · obtain rfl := Option.some.inj ho
      have y4 : act.tmps[(36 : Nat)]? = _ := dV (hdep 4 (by simp [dL])) rfl
      exact .inl ⟨rfl, owp_leqI rfl y4 ⟨_, rfl, congrArg Value.bool (cmpI_le0.trans hdc), Below.refl _ _⟩⟩
  · intro u W5 hb5 hu
    have u5 : u 5 = .bool false := hu 5 (by show 5 < 6; decide)
    have H5 : Hid (NB W5 (w.heap.size) s1 ao1 n1 cp1 e1 (un (a : Int) 0) ∧ NB W5 (w.heap.size + 1) s2 ao2 n2 cp2 e2 (un (b : Int) 0) ∧ NB W5 (w.heap.size + 1 + 1) s3 ao3 n3 cp3 e3 (un (c : Int) 0) ∧ NB W5 (w.heap.size + 1 + 1 + 1) s4 ao4 n4 cp4 e4 (un (d : Int) 0) ∧ W5.heap[w.heap.size + 1 + 1 + 1 + 1]? = some (.cells #[.bool false, .slice none 0 0, .int .i64 0] 27 (0, 0)) ∧ W5.heap[w.heap.size + 1 + 1 + 1 + 1 + 1]? = some (.cells #[.bool false, .slice none 0 0, .int .i64 0] 27 (0, 0)) ∧ Below w.heap.size w W5 ∧ NB W5 gqT s5 ao5 n5 cp5 e5 (un 1 0) ∧ w.heap.size + 1 + 1 + 1 + 1 + 1 < gqT ∧ NB W5 gqE s6 ao6 n6 cp6 e6 (un ((a / b : Nat) : Int) 0) ∧ NB W5 (gqE + 1) false ao7 n7 cp7 e7 (un ((a % b : Nat) : Int) 0) ∧ gqT < gqE ∧ NB W5 gqA s8 ao8 n8 cp8 e8 (un ((a / b + 1 : Nat) : Int) 0) ∧ gqE < gqA) := ⟨x1.later hb5, x2.later hb5, x3.later hb5, x4.later hb5, box_later x5 hb5 (lt_of_box x5), box_later x6 hb5 (lt_of_box x6), x7.trans (hb5.mono x7.size), x8.later hb5, x9, xa.later hb5, xb.later hb5, xc, xd.later hb5, xe⟩
    clear hu hb5 x1 x2 x3 x4 x5 x6 x7 x8 x9 xa xb xc xd xe H4 bA dA cA hk2 hdc
    simp only [putL, show List.range 6 = [0, 1, 2, 3, 4, 5] from rfl, List.length_cons, List.length_nil, List.getD_cons_zero, List.getD_cons_succ, List.map_cons, List.map_nil, List.cons_append, List.nil_append, List.foldl_cons, List.foldl_nil, Nat.reduceLT, Nat.reduceMod, Nat.reduceDiv, Nat.reduceMul, Nat.reduceAdd, Nat.reduceEqDiff, reduceIte, Nat.one_ne_zero, Act.put, List.setIfInBounds_toArray, List.set_cons_zero, List.set_cons_succ]
    rw [u5]
    go_upto_region 8 with fail
    obtain ⟨x1, x2, x3, x4, x5, x6, x7, x8, x9, xa, xb, xc, xd, xe⟩ := H5.out
    have nA : (((a / b : Nat) : Int)).natAbs < 2 ^ k := by rw [Int.natAbs_natCast]; exact Nat.lt_of_le_of_lt (Nat.div_le_self _ _) H0.out.2.2.1
    have dA : ((d : Int)).natAbs < 2 ^ k := by rw [Int.natAbs_natCast]; exact H0.out.2.2.2.2.2
    have cA : ((c : Int)).natAbs < 2 ^ k := by rw [Int.natAbs_natCast]; exact H0.out.2.2.2.2.1
    have hk2 := H0.out.2.1
    have eL : (c : Int) - ((a / b : Nat) : Int) * (d : Int) = ((c - a / b * d : Nat) : Int) := by
      rw [Int.ofNat_sub hlc, Int.natCast_mul]
    refine zL_region follows_mixed 5 1 40 14 [[], [], [], [1, 2], [0, 3]] [4] 27 #[.bool false, .slice none 0 0, .int .i64 0] W5 _ [isV (.agg #[.bool s3, .slice ao3 n3 cp3, .int .i64 e3]), isV (.agg #[.bool s6, .slice ao6 n6 cp6, .int .i64 e6]), isV (.agg #[.bool s4, .slice ao4 n4 cp4, .int .i64 e4]), isD (un (((a / b : Nat) : Int) * (d : Int)) 0), isD (un ((c - a / b * d : Nat) : Int) 0)] (by kernel_rfl) ⟨isV_stays _, isV_stays _, isV_stays _, isD_stays _, isD_stays _, trivial⟩ ⟨fun _ _ _ _ _ h => h, fun _ _ _ _ _ h => h, fun _ _ _ _ _ h => h, fun _ _ _ _ h1 h => DN.row3 h h1 ⟨_, _, _, _, _, rfl⟩ _, fun _ _ _ _ h1 h => DN.row3 h h1 ⟨_, _, _, _, _, rfl⟩ _, trivial⟩ (by show 45 ≤ 59; decide) (by show 15 ≤ 59; decide) (.inl (by decide)) ?_ ?_ ?_ (fun w => Tryz.zeroValue27 w) Tryz.info27 ?_ ?_
    · intro k' hk V u h
      obtain rfl : k' = 0 := by omega
      obtain ⟨cs, h1, h2, -, h4⟩ := DN.cells3 (show DN V u (un ((c - a / b * d : Nat) : Int) 0) from h)
      exact ⟨cs, h1, h2, h4⟩
    · intro j hj o ho act U hb hoth hdep
      have t6 : act.tmps[(6 : Nat)]? = some (Value.pointer (some ⟨w.heap.size + 1 + 1, 0, none⟩)) := (hoth 6 (by omega) (by omega)).trans rfl
      have t11 : act.tmps[(11 : Nat)]? = some (Value.pointer (some ⟨gqE, 0, none⟩)) := (hoth 11 (by omega) (by omega)).trans rfl
      have t7 : act.tmps[(7 : Nat)]? = some (Value.pointer (some ⟨w.heap.size + 1 + 1 + 1, 0, none⟩)) := (hoth 7 (by omega) (by omega)).trans rfl
      have c6 := (cells3N (x3.later hb).1).1
      have cEE := (cells3N (xa.later hb).1).1
      have c7 := (cells3N (x4.later hb).1).1
      rcases lt5F hj with rfl | rfl | rfl | rfl | rfl
      · obtain rfl := Option.some.inj ho
        exact owp_ldD rfl t6 c6.1 c6.2.1 c6.2.2 ⟨_, rfl, rfl, Below.refl _ _⟩
      · obtain rfl := Option.some.inj ho
        exact owp_ldD rfl t11 cEE.1 cEE.2.1 cEE.2.2 ⟨_, rfl, rfl, Below.refl _ _⟩
      · obtain rfl := Option.some.inj ho
        exact owp_ldD rfl t7 c7.1 c7.2.1 c7.2.2 ⟨_, rfl, rfl, Below.refl _ _⟩
      · obtain rfl := Option.some.inj ho
        have y1 : act.tmps[(41 : Nat)]? = _ := dV (hdep 1 (by simp [dL])) rfl
        have y2 : act.tmps[(42 : Nat)]? = _ := dV (hdep 2 (by simp [dL])) rfl
        refine owp_call rfl (enters Tryz.func54 (by kernel_rfl) (by kernel_rfl)) (map2 y1 y2) ?_
        have h := gtimes (un_gn nA (by omega) (by omega)) (un_gn dA (by omega) (by omega)) (xa.later hb).2 (x4.later hb).2
        rw [gM_un] at h
        refine h.mono ?_
        rintro r w' ⟨A, rfl, hA, hb'⟩
        exact ⟨_, rfl, _, rfl, hA, hb'⟩
      · obtain rfl := Option.some.inj ho
        have y0 : act.tmps[(40 : Nat)]? = _ := dV (hdep 0 (by simp [dL])) rfl
        obtain ⟨u3, y3, v3⟩ := dD (s := 43) (hdep 3 (by simp [dL])) rfl
        refine owp_call rfl (enters Tryz.func55 (by kernel_rfl) (by kernel_rfl)) (map2 y0 y3) ?_
        have h := gless (un_gn cA (by omega) (by omega)) (un_gn (abs_mul nA dA) (by omega) (by omega)) (x3.later hb).2 v3
        rw [gD_un, eL] at h
        refine h.mono ?_
        rintro r w' ⟨A, rfl, hA, hb'⟩
        exact ⟨_, rfl, _, rfl, hA, hb'⟩
    · intro k' hk
      obtain rfl : k' = 0 := by omega
      exact ⟨_, rfl, rfl⟩
    · intro k' hk
      obtain rfl : k' = 0 := by omega
      exact ⟨_, rfl, rfl⟩
    · intro u g W6 hb6 hu hg hap
      obtain ⟨g0, cs0, q0, z0⟩ := hg 0 (by omega)
      have q4 : DN W6 (u 4) (un ((c - a / b * d : Nat) : Int) 0) := hu 4 (by omega)
      have q0' : u 4 = .agg cs0 := q0
      rw [q0'] at q4
      obtain ⟨s9, ao9, n9, cp9, e9, h9⟩ := q4.shape
      obtain rfl := Value.agg.inj h9
      obtain ⟨gqL, hgL⟩ : ∃ gqL, gqL = g 0 := ⟨_, rfl⟩
      rw [← hgL] at z0 g0
      have lA := lt_of_box xd.1
      have H6 : Hid (NB W6 (w.heap.size) s1 ao1 n1 cp1 e1 (un (a : Int) 0) ∧ NB W6 (w.heap.size + 1) s2 ao2 n2 cp2 e2 (un (b : Int) 0) ∧ NB W6 (w.heap.size + 1 + 1) s3 ao3 n3 cp3 e3 (un (c : Int) 0) ∧ NB W6 (w.heap.size + 1 + 1 + 1) s4 ao4 n4 cp4 e4 (un (d : Int) 0) ∧ W6.heap[w.heap.size + 1 + 1 + 1 + 1]? = some (.cells #[.bool false, .slice none 0 0, .int .i64 0] 27 (0, 0)) ∧ W6.heap[w.heap.size + 1 + 1 + 1 + 1 + 1]? = some (.cells #[.bool false, .slice none 0 0, .int .i64 0] 27 (0, 0)) ∧ Below w.heap.size w W6 ∧ NB W6 gqT s5 ao5 n5 cp5 e5 (un 1 0) ∧ w.heap.size + 1 + 1 + 1 + 1 + 1 < gqT ∧ NB W6 gqE s6 ao6 n6 cp6 e6 (un ((a / b : Nat) : Int) 0) ∧ NB W6 (gqE + 1) false ao7 n7 cp7 e7 (un ((a % b : Nat) : Int) 0) ∧ gqT < gqE ∧ NB W6 gqA s8 ao8 n8 cp8 e8 (un ((a / b + 1 : Nat) : Int) 0) ∧ gqE < gqA ∧ NB W6 gqL s9 ao9 n9 cp9 e9 (un ((c - a / b * d : Nat) : Int) 0) ∧ gqA < gqL) := ⟨x1.later hb6, x2.later hb6, x3.later hb6, x4.later hb6, box_later x5 hb6 (lt_of_box x5), box_later x6 hb6 (lt_of_box x6), x7.trans (hb6.mono x7.size), x8.later hb6, x9, xa.later hb6, xb.later hb6, xc, xd.later hb6, xe, ⟨z0, q4⟩, by omega⟩
      clear hu hg hap hb6 x1 x2 x3 x4 x5 x6 x7 x8 x9 xa xb xc xd xe H5 q0 q0' h9 q4 z0 g0 lA nA dA cA hk2 eL
      simp only [putL, show List.range 5 = [0, 1, 2, 3, 4] from rfl, show List.range 1 = [0] from rfl, List.length_cons, List.length_nil, List.getD_cons_zero, List.getD_cons_succ, List.map_cons, List.map_nil, List.cons_append, List.nil_append, List.foldl_cons, List.foldl_nil, Nat.reduceLT, Nat.reduceMod, Nat.reduceDiv, Nat.reduceMul, Nat.reduceAdd, Nat.reduceEqDiff, reduceIte, Nat.one_ne_zero, Act.put, List.setIfInBounds_toArray, List.set_cons_zero, List.set_cons_succ]
      rw [← hgL]
      clear hgL
      go_upto_region 9 with fail
      obtain ⟨x1, x2, x3, x4, x5, x6, x7, x8, x9, xa, xb, xc, xd, xe, xf, xg⟩ := H6.out
      have kk := hin.out s4 ao4 n4 cp4 e4 s9 ao9 n9 cp9 e9 s2 ao2 n2 cp2 e2 false ao7 n7 cp7 e7 W6 x4.2 xf.2 x2.2 xb.2
      have c4 := (cells3N x4.1).1
      have cL := (cells3N xf.1).1
      have c2 := (cells3N x2.1).1
      have c7 := (cells3N xb.1).1
      obtain ⟨k0, k1, k2⟩ := c4
      obtain ⟨l0, l1, l2⟩ := cL
      obtain ⟨m0, m1, m2⟩ := c2
      obtain ⟨y0, y1, y2⟩ := c7
      clear x1 x2 x3 x4 x5 x6 x7 x8 x9 xa xb xc xd xe xf xg
      go_wp2_with fail
      refine kk.mono ?_
      rintro r w7 ⟨sP, aoP, nP, cpP, eP, sQ, aoQ, nQ, cpQ, eQ, rfl, hA, hB, hb7⟩
      clear kk k0 k1 k2 l0 l1 l2 m0 m1 m2 y0 y1 y2
      obtain ⟨W8, hW8⟩ : ∃ W8, W8 = (w7.alloc (.cells #[.bool sP, .slice aoP nP cpP, .int .i64 eP] 27)).alloc (.cells #[.bool sQ, .slice aoQ nQ cpQ, .int .i64 eQ] 27) := ⟨_, rfl⟩
      obtain ⟨z1, z2, z3, z4⟩ := two_new _ _ hW8
      have hb68 : Below W6.heap.size W6 W8 := hb7.trans (z4.mono hb7.size)
      obtain ⟨x1, x2, x3, x4, x5, x6, x7, x8, x9, xa, xb, xc, xd, xe, xf, xg⟩ := H6.out
      go_upto_region 10 with fail
      rw [← hW8]
      clear hW8
      have hsz := hb7.size
      have hL := lt_of_box xf.1
      have hA' := hA.later z4
      have hB' := hB.later z4
      clear z3 z4 hA hB
      generalize w7.heap.size = gqP at *
      have H8 : Hid (NB W8 (w.heap.size) s1 ao1 n1 cp1 e1 (un (a : Int) 0) ∧ NB W8 (w.heap.size + 1) s2 ao2 n2 cp2 e2 (un (b : Int) 0) ∧ NB W8 (w.heap.size + 1 + 1) s3 ao3 n3 cp3 e3 (un (c : Int) 0) ∧ NB W8 (w.heap.size + 1 + 1 + 1) s4 ao4 n4 cp4 e4 (un (d : Int) 0) ∧ W8.heap[w.heap.size + 1 + 1 + 1 + 1]? = some (.cells #[.bool false, .slice none 0 0, .int .i64 0] 27 (0, 0)) ∧ W8.heap[w.heap.size + 1 + 1 + 1 + 1 + 1]? = some (.cells #[.bool false, .slice none 0 0, .int .i64 0] 27 (0, 0)) ∧ Below w.heap.size w W8 ∧ NB W8 gqT s5 ao5 n5 cp5 e5 (un 1 0) ∧ w.heap.size + 1 + 1 + 1 + 1 + 1 < gqT ∧ NB W8 gqE s6 ao6 n6 cp6 e6 (un ((a / b : Nat) : Int) 0) ∧ NB W8 (gqE + 1) false ao7 n7 cp7 e7 (un ((a % b : Nat) : Int) 0) ∧ gqT < gqE ∧ NB W8 gqA s8 ao8 n8 cp8 e8 (un ((a / b + 1 : Nat) : Int) 0) ∧ gqE < gqA ∧ NB W8 gqL s9 ao9 n9 cp9 e9 (un ((c - a / b * d : Nat) : Int) 0) ∧ gqA < gqL ∧ NB W8 gqP sP aoP nP cpP eP (un (p : Int) 0) ∧ NB W8 (gqP + 1) sQ aoQ nQ cpQ eQ (un (q : Int) 0) ∧ gqL < gqP) := ⟨x1.later hb68, x2.later hb68, x3.later hb68, x4.later hb68, box_later x5 hb68 (lt_of_box x5), box_later x6 hb68 (lt_of_box x6), x7.trans (hb68.mono x7.size), x8.later hb68, x9, xa.later hb68, xb.later hb68, xc, xd.later hb68, xe, xf.later hb68, xg, ⟨z1, hA'⟩, ⟨z2, hB'⟩, by omega⟩
      clear x1 x2 x3 x4 x5 x6 x7 x8 x9 xa xb xc xd xe xf xg hb7 hb68 z1 z2 hA' hB' H6 hsz hL
      obtain ⟨x1, x2, x3, x4, x5, x6, x7, x8, x9, xa, xb, xc, xd, xe, xf, xg, xp, xq, xr⟩ := H8.out
      have hbx2 : ∀ i, i < 2 → ∃ cs, W8.heap[two (w.heap.size + 1 + 1 + 1 + 1) (w.heap.size + 1 + 1 + 1 + 1 + 1) i]? = some (.cells cs 27 (0, 0)) ∧ NC3 cs := fun i hi => by
        rcases lt2F hi with rfl | rfl
        · exact ⟨_, x5, _, _, _, _, _, rfl⟩
        · exact ⟨_, x6, _, _, _, _, _, rfl⟩
      have ne : ∀ g, w.heap.size + 1 + 1 + 1 + 1 + 1 < g → ∀ i, i < 2 → g ≠ two (w.heap.size + 1 + 1 + 1 + 1) (w.heap.size + 1 + 1 + 1 + 1 + 1) i := fun g h i hi => by
        rcases lt2F hi with rfl | rfl
        · show g ≠ w.heap.size + 1 + 1 + 1 + 1; omega
        · show g ≠ w.heap.size + 1 + 1 + 1 + 1 + 1; omega
      have nA : (((a / b : Nat) : Int)).natAbs < 2 ^ k := by rw [Int.natAbs_natCast]; exact Nat.lt_of_le_of_lt (Nat.div_le_self _ _) H0.out.2.2.1
      have pA : ((p : Int)).natAbs < 2 ^ k := by rw [Int.natAbs_natCast]; exact hpq.out.1
      have qA : ((q : Int)).natAbs < 2 ^ k := by rw [Int.natAbs_natCast]; exact hpq.out.2
      have hk2 := H0.out.2.1
      have eS : ((a / b : Nat) : Int) * (p : Int) + (q : Int) = ((a / b * p + q : Nat) : Int) := by rw [Int.natCast_add, Int.natCast_mul]
      refine q_region follows_mixed [0, 1, 2, 3, 4, 5] [6, 7] [53, 54, 55, 56, 57, 58] [[], [], [0, 1], [], [2, 3], []] [[4], [5]] [4, 5] (two 8 9) (two (w.heap.size + 1 + 1 + 1 + 1) (w.heap.size + 1 + 1 + 1 + 1 + 1)) w.heap.size 27 NC3 3 W8 _ [isV (.agg #[.bool s6, .slice ao6 n6 cp6, .int .i64 e6]), isV (.agg #[.bool sP, .slice aoP nP cpP, .int .i64 eP]), isD (un (((a / b : Nat) : Int) * (p : Int)) 0), isV (.agg #[.bool sQ, .slice aoQ nQ cpQ, .int .i64 eQ]), isD (un ((a / b * p + q : Nat) : Int) 0), isV (.agg #[.bool sP, .slice aoP nP cpP, .int .i64 eP])] (by kernel_rfl) ⟨isV_stays _, isV_stays _, isD_stays _, isV_stays _, isD_stays _, isV_stays _, trivial⟩ ⟨isV_rows _ _ _, isV_rows _ _ _, isD_rows3 _, isV_rows _ _ _, isD_rows3 _, isV_rows _ _ _, trivial⟩ (by show ∀ s ∈ [53, 54, 55, 56, 57, 58], s < 59; decide) ?_ ?_ Tryz.info27 ?_ ?_ ?_ (two_inj (by omega)) x7.size ?_
      · intro i hi U u h
        rcases lt2F hi with rfl | rfl
        · exact DN.cells3 (show DN U u (un ((a / b * p + q : Nat) : Int) 0) from h)
        · obtain rfl : u = _ := h
          exact ⟨_, rfl, rfl, ⟨_, _, _, _, _, rfl⟩, one3 rfl rfl⟩
      · intro j hj o ho act U hK hoth hdep hrd
        have t11 : act.tmps[(11 : Nat)]? = some (Value.pointer (some ⟨gqE, 0, none⟩)) := (hoth 11 (by decide)).trans rfl
        have t15 : act.tmps[(15 : Nat)]? = some (Value.pointer (some ⟨gqP, 0, none⟩)) := (hoth 15 (by decide)).trans rfl
        have t16 : act.tmps[(16 : Nat)]? = some (Value.pointer (some ⟨gqP + 1, 0, none⟩)) := (hoth 16 (by decide)).trans rfl
        have kcE := (cells3N ((hK.keep gqE (lt_of_box xa.1) (ne gqE (by omega))).trans xa.1)).1
        have kcP := (cells3N ((hK.keep gqP (lt_of_box xp.1) (ne gqP (by omega))).trans xp.1)).1
        have kcQ := (cells3N ((hK.keep (gqP + 1) (lt_of_box xq.1) (ne (gqP + 1) (by omega))).trans xq.1)).1
        rcases lt6S hj with rfl | rfl | rfl | rfl | rfl | rfl
        · obtain rfl := Option.some.inj ho
          exact .inl ⟨rfl, owp_ldD rfl t11 kcE.1 kcE.2.1 kcE.2.2 ⟨_, rfl, rfl, Below.refl _ _⟩⟩
        · obtain rfl := Option.some.inj ho
          exact .inl ⟨rfl, owp_ldD rfl t15 kcP.1 kcP.2.1 kcP.2.2 ⟨_, rfl, rfl, Below.refl _ _⟩⟩
        · obtain rfl := Option.some.inj ho
          have y0 : act.tmps[(53 : Nat)]? = _ := dV (hdep 0 (by simp [dL])) rfl
          have y1 : act.tmps[(54 : Nat)]? = _ := dV (hdep 1 (by simp [dL])) rfl
          refine .inl ⟨rfl, owp_call rfl (enters Tryz.func54 (by kernel_rfl) (by kernel_rfl)) (map2 y0 y1) ?_⟩
          have h := gtimes (un_gn nA (by omega) (by omega)) (un_gn pA (by omega) (by omega)) (DN.keepN hK hbx2 xa.2) (DN.keepN hK hbx2 xp.2)
          rw [gM_un] at h
          refine h.mono ?_
          rintro r w' ⟨A, rfl, hA, hb'⟩
          exact ⟨_, rfl, _, rfl, hA, hb'⟩
        · obtain rfl := Option.some.inj ho
          exact .inl ⟨rfl, owp_ldD rfl t16 kcQ.1 kcQ.2.1 kcQ.2.2 ⟨_, rfl, rfl, Below.refl _ _⟩⟩
        · obtain rfl := Option.some.inj ho
          obtain ⟨u2, y2, v2⟩ := dD (s := 55) (hdep 2 (by simp [dL])) rfl
          have y3 : act.tmps[(56 : Nat)]? = _ := dV (hdep 3 (by simp [dL])) rfl
          refine .inl ⟨rfl, owp_call rfl (enters Tryz.func52 (by kernel_rfl) (by kernel_rfl)) (map2 y2 y3) ?_⟩
          have h := gplus (un_gn (abs_mul nA pA) (by omega) (by omega)) (un_gn (pow_grow k qA) (by omega) (by omega)) v2 (DN.keepN hK hbx2 xq.2)
          rw [gS_un, eS] at h
          refine h.mono ?_
          rintro r w' ⟨A, rfl, hA, hb'⟩
          exact ⟨_, rfl, _, rfl, hA, hb'⟩
        · obtain rfl := Option.some.inj ho
          exact .inl ⟨rfl, owp_ldD rfl t15 kcP.1 kcP.2.1 kcP.2.2 ⟨_, rfl, rfl, Below.refl _ _⟩⟩
      · intro i hi
        rcases lt2F hi with rfl | rfl <;> exact ⟨_, rfl, rfl⟩
      · intro i hi
        rcases lt2F hi with rfl | rfl
        · exact ⟨rfl, by decide⟩
        · exact ⟨rfl, by decide⟩
      · intro i hi
        rcases lt2F hi with rfl | rfl
        · exact ⟨by show w.heap.size ≤ w.heap.size + 1 + 1 + 1 + 1; omega, _, x5, rfl, _, _, _, _, _, rfl⟩
        · exact ⟨by show w.heap.size ≤ w.heap.size + 1 + 1 + 1 + 1 + 1; omega, _, x6, rfl, _, _, _, _, _, rfl⟩
      · intro u U hK hu hcs
        obtain ⟨csb, yb, zb⟩ := hcs 1 (by decide)
        obtain ⟨csa, ya, za⟩ := hcs 0 (by decide)
        have q4 : DN U (u 4) (un ((a / b * p + q : Nat) : Int) 0) := hu 4 (by decide)
        have u5 : u 5 = .agg #[.bool sP, .slice aoP nP cpP, .int .i64 eP] := hu 5 (by decide)
        have ya' : u 4 = .agg csa := ya
        have yb' : u 5 = .agg csb := yb
        rw [ya'] at q4
        obtain ⟨sR, aoR, nR, cpR, eR, hR⟩ := q4.shape
        obtain rfl := Value.agg.inj hR
        rw [u5] at yb'
        obtain rfl := Value.agg.inj yb'
        have HX : Hid (U.heap[w.heap.size + 1 + 1 + 1 + 1]? = some (.cells #[.bool sR, .slice aoR nR cpR, .int .i64 eR] 27 (0, 0)) ∧ U.heap[w.heap.size + 1 + 1 + 1 + 1 + 1]? = some (.cells #[.bool sP, .slice aoP nP cpP, .int .i64 eP] 27 (0, 0)) ∧ DN U (.agg #[.bool sR, .slice aoR nR cpR, .int .i64 eR]) (un ((a / b * p + q : Nat) : Int) 0) ∧ DN U (.agg #[.bool sP, .slice aoP nP cpP, .int .i64 eP]) (un (p : Int) 0) ∧ Below w.heap.size w U) := ⟨za, zb, q4, DN.keepN hK hbx2 xp.2, x7.trans hK.below⟩
        clear hu hcs ya yb za zb ya' yb' hR q4 hK x1 x2 x3 x4 x5 x6 x7 x8 xa xb xd xf xp xq hbx2 ne H8
        simp only [putL, show List.range 6 = [0, 1, 2, 3, 4, 5] from rfl, List.length_cons, List.length_nil, List.getD_cons_zero, List.getD_cons_succ, List.map_cons, List.map_nil, List.cons_append, List.nil_append, List.foldl_cons, List.foldl_nil, Nat.reduceLT, Nat.reduceMod, Nat.reduceDiv, Nat.reduceMul, Nat.reduceAdd, Nat.reduceEqDiff, reduceIte, Nat.one_ne_zero, Act.put, List.setIfInBounds_toArray, List.set_cons_zero, List.set_cons_succ]
        go_wp2_with fail
        refine bodyPost_ret (results_c2 rfl _ _ (w.heap.size + 1 + 1 + 1 + 1) (w.heap.size + 1 + 1 + 1 + 1 + 1) 27 #[.bool sR, .slice aoR nR cpR, .int .i64 eR] #[.bool sP, .slice aoP nP cpP, .int .i64 eP] (0, 0) (0, 0) _ rfl rfl HX.out.1 HX.out.2.1 Tryz.underlying27 rfl Tryz.info27 Tryz.info27) rfl ?_
        exact ⟨_, _, _, _, _, _, _, _, _, _, rfl, HX.out.2.2.1, HX.out.2.2.2.1, HX.out.2.2.2.2⟩
theorem dsmp8 {a b c d p q : Nat} (h : Smp a b c d p q) : ∀ (k : Nat), a * d ≤ c * b → k ≤ 20000 → a < 2 ^ k → b < 2 ^ k → c < 2 ^ k → d < 2 ^ k → ∀ (s1 : Bool) (ao1 : Option Addr) (n1 cp1 : Nat) (e1 : Int) (s2 : Bool) (ao2 : Option Addr) (n2 cp2 : Nat) (e2 : Int) (s3 : Bool) (ao3 : Option Addr) (n3 cp3 : Nat) (e3 : Int) (s4 : Bool) (ao4 : Option Addr) (n4 cp4 : Nat) (e4 : Int) (w : World), DN w (.agg #[.bool s1, .slice ao1 n1 cp1, .int .i64 e1]) (un (a : Int) 0) → DN w (.agg #[.bool s2, .slice ao2 n2 cp2, .int .i64 e2]) (un (b : Int) 0) → DN w (.agg #[.bool s3, .slice ao3 n3 cp3, .int .i64 e3]) (un (c : Int) 0) → DN w (.agg #[.bool s4, .slice ao4 n4 cp4, .int .i64 e4]) (un (d : Int) 0) → Calls Tryz.prog 19 #[.agg #[.bool s1, .slice ao1 n1 cp1, .int .i64 e1], .agg #[.bool s2, .slice ao2 n2 cp2, .int .i64 e2], .agg #[.bool s3, .slice ao3 n3 cp3, .int .i64 e3], .agg #[.bool s4, .slice ao4 n4 cp4, .int .i64 e4]] w fun r w' => Out2D w (un (p : Int) 0) (un (q : Int) 0) r w' := by
  induction h with
  | whole hb h0 =>
    intro k hle hk ha hbk hc hd
    intros
    exact dsmp8_0 _ _ _ _ k _ _ _ _ _ _ _ _ _ _ _ _ _ _ _ _ _ _ _ _ _ hb hk ha hbk hc hd (by assumption) (by assumption) (by assumption) (by assumption) h0
  | above hb h0 h1 =>
    intro k hle hk ha hbk hc hd
    intros
    exact dsmp8_1 _ _ _ _ k _ _ _ _ _ _ _ _ _ _ _ _ _ _ _ _ _ _ _ _ _ hb hk ha hbk hc hd (by assumption) (by assumption) (by assumption) (by assumption) h0 h1
  | @more a b c d p q hb h0 h1 hs ih =>
    intro k hle hk ha hbk hc hd
    have hl := smp_left hb h0 hle h1
    have hn := smp_next hb h0 hle h1
    have hr := Nat.le_of_lt (Nat.mod_lt a hb)
    have ih' := ih k hn.2.2 hk hd (by omega) hbk (Nat.lt_of_le_of_lt hr hbk)
    have hpq := (smp_le hs hn.2.2).1
    intros
    exact dsmp8_2 _ _ _ _ k _ _ _ _ _ _ _ _ _ _ _ _ _ _ _ _ _ _ _ _ _ _ _ hb hk ha hbk hc hd (by assumption) (by assumption) (by assumption) (by assumption) h0 h1 (by omega) ⟨by omega, by omega⟩ ih'
end Go.Proofs.YtcdkkpjilgmncaaGreatDoor
