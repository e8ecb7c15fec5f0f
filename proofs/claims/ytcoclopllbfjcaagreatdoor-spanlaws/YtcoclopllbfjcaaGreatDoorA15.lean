/- Own work: contracts of the program's functions, part 15: SP4 SQ4 SQ5 SS1 SS2 SS3 SS4 SR1. -/
import Derived.Test.YtcoclopllbfjcaaGreatDoorA14
import Derived.Test.YtcoclopllbfjcaaGreatDoorA13
import Derived.Test.YtcoclopllbfjcaaGreatDoorA7

/- The program's powers of floats, joined. -/
namespace Go.Proofs.YtcoclopllbfjcaaGreatDoor
set_option linter.unusedVariables false
set_option linter.unusedSimpArgs false
open Go.RowKit Go.Fl64

theorem sM_odd {a m : Nat} (ha : a < 18446744073709551616) (hf : mag a < 9218868437227405312) (hm : Ie.sM a = (m : Int)) (h : m ≠ 0) : m % 2 = 1 ∧ m < 9007199254740992 := by
  unfold Ie.sM at hm
  rw [if_neg (by omega)] at hm
  by_cases h0 : mag a = 0
  · rw [if_pos h0] at hm; omega
  · rw [if_neg h0] at hm
    have hb := Ie.mant_bound a
    have hne := Ie.mant_ne h0
    have hct : Lib.ctz 64 (Ie.mant a) = tz (Ie.mant a) := tz_ctz hne (by omega)
    rw [hct] at hm
    have e1 : m = Ie.mant a / 2 ^ tz (Ie.mant a) := by
      have : ((Ie.mant a / 2 ^ tz (Ie.mant a) : Nat) : Int) = (m : Int) := by rw [← hm]; simp
      omega
    obtain ⟨h1, h2⟩ := tz_spec _ (Ie.mant a) (Nat.le_refl _) hne
    rw [← e1] at h2
    refine ⟨h2, ?_⟩
    have := Nat.div_le_self (Ie.mant a) (2 ^ tz (Ie.mant a))
    omega
theorem tfF_big {s : Bool} {x : Nat} {e e' m : Int} (h0 : x ≠ 0) (h1 : 1024 < (bl x : Int) + e) (h2 : 1024 < (bl x : Int) + e') (hm : 1 ≤ m ∧ m ≤ 3) : tfF s true x e m = tfF s true x e' m := by
  have hw : wyN s m = 0 ∨ wyN s m = 1 ∨ wyN s m = 2 := by unfold wyN; split <;> (try split) <;> simp
  rw [tf_bdy hm, tf_bdy hm, bdy_big h0 h1 hw, bdy_big h0 h2 hw]
theorem tfF_tiny {s : Bool} {x : Nat} {e e' m : Int} (h0 : x ≠ 0) (h1 : (bl x : Int) + e < -1075) (h2 : (bl x : Int) + e' < -1075) (hm : 1 ≤ m ∧ m ≤ 3) : tfF s true x e m = tfF s true x e' m := by
  have hw : wyN s m = 0 ∨ wyN s m = 1 ∨ wyN s m = 2 := by unfold wyN; split <;> (try split) <;> simp
  rw [tf_bdy hm, tf_bdy hm, bdy_tiny h0 h1 hw, bdy_tiny h0 h2 hw]
theorem tfF_nought {s : Bool} {e m : Int} (hm : 1 ≤ m ∧ m ≤ 3) : tfF s true 0 e m = sig s 0 := by
  rw [tf_bdy hm]; unfold bdy; rw [if_pos rfl]

/-- the power of a float, rounded -/
def pwF (a n : Nat) (m : Int) : Nat := if n = 0 then 4607182418800017408 else if fin a then toD (pw (tF a) n) m else a
theorem pw_clamp {s : Bool} {x n : Nat} {E K m : Int} (ho : x ≠ 0 → x % 2 = 1) (hx : x < 9007199254740992) (hn1 : 1 ≤ n) (hn : n ≤ 1024) (hK : max (-65536) (min (E * n) 65536) = K) (hm : 1 ≤ m ∧ m ≤ 3) :
    tfF (tSh (pw (cn s x 0) n) K).1 true (tSh (pw (cn s x 0) n) K).2.1 (tSh (pw (cn s x 0) n) K).2.2 m = toD (pw (cn s x E) n) m := by
  by_cases h0 : x = 0
  · subst h0
    have e1 : pw (cn s 0 0) n = (false, 0, 0) := by unfold pw cn; simp; omega
    have e2 : pw (cn s 0 E) n = (false, 0, 0) := by unfold pw cn; simp; omega
    rw [e1, e2]
    show tfF false true 0 0 m = 0
    rw [tfF_nought hm]; rfl
  · rw [cn_odd (ho h0), cn_odd (ho h0)]
    have hp : x ^ n ≠ 0 := by have := pow_odd (ho h0) n; omega
    unfold pw toD tSh
    simp only [if_neg h0, if_neg hp]
    rw [show (0 : Int) * (n : Int) + K = K by omega]
    have hb := pw_lt hx hn
    have hb2 := bl_le_dlen (x ^ n)
    have hb3 := bl_ne hp
    by_cases hg : 65536 < E * n
    · exact tfF_big hp (by omega) (by omega) hm
    · by_cases hl : E * n < -65536
      · exact tfF_tiny hp (by omega) (by omega) hm
      · rw [show K = E * n by omega]
theorem spower {a n : Nat} {m : Int} {w : World} (ha : a < 18446744073709551616) (hn : n ≤ 1024) (hm : 1 ≤ m ∧ m ≤ 3) (hT : Tab32 w) (hJ : Ie.Tab w) :
    Calls Tryz.prog 55 #[.float .f64 a, .int .i64 n, .int .i64 m] w fun r w' => r = .returned (.float .f64 (pwF a n m)) ∧ Below w.heap.size w w' := by
  have kS := Ie.c22 a ha w hJ
  unfold pwF
  by_cases h0 : n = 0
  · subst h0
    rw [if_pos rfl]
    exact spower_0 a m _ _ _ _ w kS
  · rw [if_neg h0]
    have hn0 : ((n : Int) == 0) = false := by simp; omega
    by_cases hf : mag a < 9218868437227405312
    · rw [show fin a = true by unfold fin; simp [hf], if_pos rfl]
      obtain ⟨x, hx, hx64⟩ := sM_lt a ha
      have hso : Ie.sO a = true := by unfold Ie.sO; rw [if_neg (by omega)]
      have hsn : Ie.sN a = neg a := by unfold Ie.sN; rw [if_neg (by omega)]
      rw [hx, hso, hsn] at kS
      have ho : x ≠ 0 → x % 2 = 1 := fun h => (sM_odd ha hf hx h).1
      have hx53 : x < 9007199254740992 := by
        by_cases h : x = 0
        · omega
        · exact (sM_odd ha hf hx h).2
      obtain ⟨hE1, hE2⟩ := sE_le a
      obtain ⟨K, hK⟩ : ∃ K, max (-65536) (min (Ie.sE a * n) 65536) = K := ⟨_, rfl⟩
      have hT1 : cn (neg a) x (Ie.sE a) = tF a := cn_parts a x ha hf hx
      have hcn : cn (neg a) x 0 = (if x = 0 then (false, 0, 0) else (neg a, x, 0)) := by
        by_cases h : x = 0
        · rw [h]; rfl
        · rw [if_neg h, cn_odd (ho h)]
      have hok : ∀ k, k ≤ 1024 → Ok (pw (cn (neg a) x 0) k) := by
        intro k hk
        rw [hcn]
        by_cases h : x = 0
        · rw [if_pos h]; exact pw_ok (fun h => absurd rfl h) (by omega) hk
        · rw [if_neg h]; exact pw_ok ho hx53 hk
      have hodd : (cn (neg a) x 0).2.1 ≠ 0 → (cn (neg a) x 0).2.1 % 2 = 1 := by
        rw [hcn]
        by_cases h : x = 0
        · rw [if_pos h]; intro h; exact absurd rfl h
        · rw [if_neg h]; exact ho
      have hz : (cn (neg a) x 0).2.1 = 0 → cn (neg a) x 0 = (false, 0, 0) := by
        rw [hcn]
        by_cases h : x = 0
        · rw [if_pos h]; intro _; rfl
        · rw [if_neg h]; intro h'; exact absurd h' h
      have h22 : (pw (cn (neg a) x 0) n).2.2 = 0 := by
        rw [hcn]; unfold pw
        by_cases h : x = 0
        · rw [if_pos h]; rfl
        · rw [if_neg h]; simp [h]
      rw [← hT1, ← pw_clamp (s := neg a) ho hx53 (by omega) hn hK hm]
      have hbE : -4096000000 ≤ Ie.sE a * n ∧ Ie.sE a * n ≤ 4096000000 := by
        have h1 : (n : Int) ≤ 1024 := by omega
        have h2 : (0 : Int) ≤ n := by omega
        constructor
        · have := Int.mul_le_mul_of_nonneg_right hE1 h2; omega
        · have := Int.mul_le_mul_of_nonneg_right hE2 h2; omega
      refine spower_1 a n x _ m (Ie.sE a) K _ _ (neg a) (cn (neg a) x 0) (pw (cn (neg a) x 0) n) (tSh (pw (cn (neg a) x 0) n) K) w hn0 hx64 rfl rfl hE1 hE2 hn hK (by rw [IntKind.wrap_i64]; omega) kS ?_ ?_ ?_ ?_
      · intro W g hW hg
        have hcell : ∀ i, i < 2 → W.cell? ⟨g, 0 + i, none⟩ = some (.int .u32 (dg x i : Nat)) := by
          intro i hi
          rcases (show i = 0 ∨ i = 1 by omega) with rfl | rfl
          · rw [show (dg x 0 : Nat) = x % 4294967296 by unfold dg B; simp]
            simp [World.cell?, hg]
          · rw [show (dg x 1 : Nat) = x / 4294967296 by unfold dg B; rw [Nat.pow_one, Nat.mod_eq_of_lt (by omega)]]
            simp [World.cell?, hg]
        have hR : okR (neg a) x 0 = true := by
          by_cases h : x = 0
          · unfold okR; rw [if_pos h]
          · exact okR_odd (ho h) (by have := hok 1 (by omega); rw [pw_one hz, hcn, if_neg h] at this; exact this)
        have key : Calls Tryz.prog 99 #[.bool (neg a), .slice (some ⟨g, 0, none⟩) 2 2, .int .i64 0] W fun r w' => Mk25 W w' (neg a) x 0 r ∧ Below W.heap.size W w' := by
          by_cases h : x = 0
          · subst h
            exact c15_0 (neg a) (some ⟨g, 0, none⟩) 2 2 0 W ⟨g, 0, fun _ => rfl, hcell⟩ (by omega) (by omega)
          · exact c15_1 (neg a) g 0 2 2 x 0 W hcell ((dlen_le 2 x).2 (by unfold B; omega)) (by omega) (by omega) (by omega) h (by omega) (hT.later hW)
        refine key.mono ?_
        rintro r w' ⟨⟨-, A, rfl, hN⟩ | ⟨h, -⟩, hb⟩
        · have hp := hN.pn
          obtain ⟨s, ao, n, cap, e, rfl⟩ := hp.shape
          exact ⟨s, ao, n, cap, e, rfl, hp, hb⟩
        · rw [hR] at h; cases h
      · intro W X hW hX
        obtain ⟨s, ao, k, cap, e, rfl⟩ := hX.shape
        refine smult_1 (cn (neg a) x 0) (pw (cn (neg a) x 0)) n (bl n) s ao k cap e W hn rfl ((bl_le _ _).2 (by omega)) (by rw [pw_one hz]; exact hX) ?_ ?_ ?_
        · intro V hV
          refine (c12 (n := 1) ((hT.later hW).later hV) (by omega)).mono ?_
          rintro r w' ⟨A, rfl, hN, hb⟩
          have hp := hN.pn
          obtain ⟨s, ao, n, cap, e, rfl⟩ := hp.shape
          rw [show (decide ((1 : Int) < 0)) = false from rfl, show Int.natAbs 1 = 1 from rfl, cn_odd rfl] at hp
          rw [pw_zero]
          exact ⟨s, ao, n, cap, e, rfl, hp, hb⟩
        · intro V X Y i j hV hX hY hij
          have ho1 := hok (i + j) (by omega)
          rw [← pw_mul hodd] at ho1 ⊢
          refine (mul_op (hok i (by omega)) (hok j (by omega)) (by rw [okR_cn]; exact ho1) V X Y ((hT.later hW).later hV) hX hY).mono ?_
          rintro r w' ⟨s, ao, n, cap, e, rfl, hp, hb⟩
          exact ⟨s, ao, n, cap, e, rfl, hp, hb⟩
        · intro V
          exact c156 n (by omega) V
      · intro W X hW hX
        exact pshift (hok n hn) hX (by rw [h22]; omega) (by rw [h22]; omega)
      · intro W X hW hX
        exact pround (hT.later hW) (tSh_ok (hok n hn) (fun _ => by rw [h22]; omega)) hX hm
    · rw [show fin a = false by unfold fin; simp; omega]
      have hso : Ie.sO a = false := by unfold Ie.sO; rw [if_pos (by omega)]
      rw [hso] at kS
      exact spower_i a n m _ _ _ w hn0 kS
end Go.Proofs.YtcoclopllbfjcaaGreatDoor
/- The document's powers of ends, joined. -/
namespace Go.Proofs.YtcoclopllbfjcaaGreatDoor
set_option linter.unusedVariables false
set_option linter.unusedSimpArgs false
open Go.RowKit Go.Fl64

theorem fin_ofW {f : Nat} (hf : f < 18446744073709551616) (hn : isNaN f = false) (h1 : f ≠ 9218868437227405312) (h2 : f ≠ 18442240474082181120) : fin f = true := by
  unfold isNaN mag at hn
  unfold fin mag
  simp only [decide_eq_false_iff_not, decide_eq_true_eq] at hn ⊢
  omega
/-- an end to the n: which infinity, which number -/
def peI (i : Int) (n : Nat) : Int := if i = 0 ∨ n = 0 then 0 else if n % 2 = 0 then 1 else i
def peT (i : Int) (t : Bool × Nat × Int) (n : Nat) : Bool × Nat × Int := if i = 0 then pw t n else if n = 0 then (false, 1, 0) else (false, 0, 0)
theorem peI_0 (i : Int) : peI i 0 = 0 := by unfold peI; simp
theorem peI_n {i : Int} {n : Nat} (hi : i ≠ 0) (hn : n ≠ 0) : peI i n = if n % 2 = 0 then 1 else i := by unfold peI; rw [if_neg (by omega)]
theorem pw_nz {t : Bool × Nat × Int} {n : Nat} : (pw t n).2.1 = 0 ↔ t.2.1 = 0 ∧ n ≠ 0 := by
  unfold pw
  by_cases h0 : t.2.1 = 0
  · rw [if_pos h0]; by_cases hn : n = 0 <;> simp [hn, h0]
  · rw [if_neg h0]; simp only [Nat.pow_eq_zero]
theorem sg_pw {t : Bool × Nat × Int} {n : Nat} : sgE 0 (pw t n) = 0 ↔ (pw t n).2.1 = 0 := by
  unfold sgE
  rw [if_pos rfl]
  by_cases h : (pw t n).2.1 = 0
  · simp [h]
  · rw [if_neg h]; constructor
    · intro h'; split at h' <;> omega
    · intro h'; exact absurd h' h
theorem tm_pw {t : Bool × Nat × Int} (ho : t.2.1 ≠ 0 → t.2.1 % 2 = 1) (a b : Nat) : tmI 0 0 (pw t a) (pw t b) = 0 ∧ tmT 0 0 (pw t a) (pw t b) = pw t (a + b) := by
  unfold tmI tmT
  by_cases h : sgE 0 (pw t a) = 0 ∨ sgE 0 (pw t b) = 0
  · rw [if_pos h, if_pos h]
    refine ⟨rfl, ?_⟩
    rw [sg_pw, sg_pw, pw_nz, pw_nz] at h
    unfold pw
    rw [if_pos (by omega), if_neg (by omega)]
  · rw [if_neg h, if_neg h, if_neg (by omega), if_neg (by omega)]
    exact ⟨rfl, pw_mul ho a b⟩
theorem tm_inf {i : Int} (hi : i = 1 ∨ i = -1) (t : Bool × Nat × Int) (a b : Nat) : tmI (peI i a) (peI i b) (peT i t a) (peT i t b) = peI i (a + b) ∧ tmT (peI i a) (peI i b) (peT i t a) (peT i t b) = peT i t (a + b) := by
  have hi0 : i ≠ 0 := by omega
  unfold peT
  simp only [if_neg hi0]
  by_cases ha : a = 0
  · subst ha
    by_cases hb : b = 0
    · subst hb
      rcases hi with rfl | rfl <;> decide +kernel
    · rw [if_pos rfl, if_neg hb, if_neg (show 0 + b ≠ 0 by omega), Nat.zero_add]
      rw [peI_0, peI_n hi0 hb]
      rcases hi with rfl | rfl <;> (split <;> decide)
  · by_cases hb : b = 0
    · subst hb
      rw [if_neg ha, if_pos rfl, if_neg (show a + 0 ≠ 0 by omega), Nat.add_zero]
      rw [peI_0, peI_n hi0 ha]
      rcases hi with rfl | rfl <;> (split <;> decide)
    · rw [if_neg ha, if_neg hb, if_neg (show a + b ≠ 0 by omega)]
      rw [peI_n hi0 ha, peI_n hi0 hb, peI_n hi0 (show a + b ≠ 0 by omega)]
      rcases hi with rfl | rfl <;> rcases Nat.mod_two_eq_zero_or_one a with h | h <;> rcases Nat.mod_two_eq_zero_or_one b with h' | h' <;> rw [Nat.add_mod, h, h'] <;> decide
/-- an end's power, rounded, is the float's power, rounded -/
theorem enF_pow {f n : Nat} {m : Int} (hf : f < 18446744073709551616) (hnn : isNaN f = false) (hn : 1 ≤ n) (hm : 1 ≤ m ∧ m ≤ 3) (hi : f = 18442240474082181120 → n % 2 = 1) :
    enF (peI (eI f) n) (peT (eI f) (eT f) n) m = pl (pwF f n m) := by
  unfold pwF
  rw [if_neg (by omega)]
  by_cases h1 : f = 9218868437227405312
  · subst h1
    have e1 : eI 9218868437227405312 = 1 := rfl
    rw [e1]
    have e2 : peI 1 n = 1 := by unfold peI; rw [if_neg (by omega)]; split <;> rfl
    rw [e2]
    rfl
  · by_cases h2 : f = 18442240474082181120
    · have hp := hi h2
      subst h2
      have e1 : eI 18442240474082181120 = -1 := rfl
      rw [e1]
      have e2 : peI (-1) n = -1 := by unfold peI; rw [if_neg (by omega), if_neg (by omega)]
      rw [e2]
      rfl
    · have e1 : eI f = 0 := by unfold eI; rw [if_neg h1, if_neg h2]
      have hfin : fin f = true := fin_ofW hf hnn h1 h2
      rw [hfin, if_pos rfl, e1]
      have e2 : peI 0 n = 0 := by unfold peI; rw [if_pos (.inl rfl)]
      have e3 : peT 0 (eT f) n = pw (tF f) n := by unfold peT eT; rw [if_pos rfl, e1, if_pos rfl]
      rw [e2, e3]
      rfl
end Go.Proofs.YtcoclopllbfjcaaGreatDoor
/- SpanPowers. -/
namespace Go.Proofs.YtcoclopllbfjcaaGreatDoor
set_option linter.unusedVariables false
set_option linter.unusedSimpArgs false
open Go.RowKit Go.Fl64
attribute [local go_sem] run_store_flt

/-- the interval whose powers are taken -/
def pcX (a b n : Nat) : Nat := if n % 2 = 0 then mgX a b else a
def pcY (a b n : Nat) : Nat := if n % 2 = 0 then mgY a b else b
def pwX (a b n : Nat) : Nat := pl (pwF (pcX a b n) n 1)
def pwY (a b n : Nat) : Nat := pl (pwF (pcY a b n) n 3)
/-- whether an interval and a power are such -/
def pOk (a b : Nat) (n : Int) : Bool := vI a b && decide (0 ≤ n) && decide (n ≤ 1024)
theorem pwF_lt {f n : Nat} {m : Int} (hf : f < 18446744073709551616) (hm : 1 ≤ m ∧ m ≤ 3) : pwF f n m < 18446744073709551616 := by
  unfold pwF
  split
  · omega
  · split
    · exact toD_lt hm
    · exact hf
theorem mg_facts {a b : Nat} (ha : a < 18446744073709551616) (hb : b < 18446744073709551616) (h : vI a b = true) :
    mgX a b < 18446744073709551616 ∧ mgY a b < 18446744073709551616 ∧ isNaN (mgX a b) = false ∧ isNaN (mgY a b) = false ∧ mgX a b ≠ 18442240474082181120 ∧ mgY a b ≠ 18442240474082181120 := by
  obtain ⟨na, nb⟩ := vI_nn h
  unfold vI at h
  simp only [Bool.and_eq_true, decide_eq_true_eq] at h
  obtain ⟨⟨⟨⟨h1, h2⟩, h3⟩, h4⟩, h5⟩ := h
  have ai : a ≠ 9218868437227405312 := by rintro rfl; revert h2; decide
  have bi : b ≠ 18442240474082181120 := by rintro rfl; revert h3; decide
  have pln : ∀ x, isNaN x = false → isNaN (pl x) = false := fun x hx => by unfold pl; split; decide; exact hx
  have pli : ∀ x, x ≠ 18442240474082181120 → pl x ≠ 18442240474082181120 := fun x hx => by unfold pl; split; decide; exact hx
  have ngi : ∀ x, x < 18446744073709551616 → x ≠ 9218868437227405312 → ngt x ≠ 18442240474082181120 := fun x hx h0 => by
    unfold ngt neg
    split
    · rename_i hh; simp only [decide_eq_true_eq] at hh; omega
    · omega
  unfold mgX mgY
  by_cases c1 : le 0 a = true
  · rw [if_pos c1, if_pos c1]
    exact ⟨ha, hb, na, nb, by rintro rfl; revert c1; decide, bi⟩
  · rw [if_neg c1, if_neg c1]
    by_cases c2 : le b 0 = true
    · rw [if_pos c2, if_pos c2]
      exact ⟨pl_lt (ngt_lt hb), pl_lt (ngt_lt ha), pln _ (by rw [ngt_nan8 hb]; exact nb), pln _ (by rw [ngt_nan8 ha]; exact na), pli _ (ngi b hb (by rintro rfl; revert c2; decide)), pli _ (ngi a ha ai)⟩
    · rw [if_neg c2, if_neg c2]
      have fm : fMax (ngt a) b = ngt a ∨ fMax (ngt a) b = b := by
        unfold fMax
        split
        · exact .inr rfl
        · split
          · exact .inl rfl
          · split
            · exact .inr rfl
            · exact .inl rfl
      refine ⟨by omega, ?_, by decide, ?_, by decide, ?_⟩
      · rcases fm with e | e <;> rw [e]
        · exact ngt_lt ha
        · exact hb
      · rcases fm with e | e <;> rw [e]
        · rw [ngt_nan8 ha]; exact na
        · exact nb
      · rcases fm with e | e <;> rw [e]
        · exact ngi a ha ai
        · exact bi
theorem pc_facts {a b n : Nat} (ha : a < 18446744073709551616) (hb : b < 18446744073709551616) (h : vI a b = true) :
    pcX a b n < 18446744073709551616 ∧ pcY a b n < 18446744073709551616 ∧ isNaN (pcX a b n) = false ∧ isNaN (pcY a b n) = false ∧ (pcX a b n = 18442240474082181120 → n % 2 = 1) ∧ (pcY a b n = 18442240474082181120 → n % 2 = 1) := by
  obtain ⟨h1, h2, h3, h4, h5, h6⟩ := mg_facts ha hb h
  obtain ⟨na, nb⟩ := vI_nn h
  unfold pcX pcY
  rcases Nat.mod_two_eq_zero_or_one n with hp | hp
  · rw [if_pos hp, if_pos hp]
    exact ⟨h1, h2, h3, h4, fun h => absurd h h5, fun h => absurd h h6⟩
  · rw [if_neg (by omega), if_neg (by omega)]
    exact ⟨ha, hb, na, nb, fun _ => hp, fun _ => hp⟩
/-- the program's Pow -/
theorem spow (a b : Nat) (n : Int) (w : World) (ha : a < 18446744073709551616) (hb : b < 18446744073709551616) (hT : Tab32 w) (hJ : Ie.Tab w) :
    Calls Tryz.prog 14 #[.agg #[.float .f64 a, .float .f64 b], .int .i64 n] w fun r w' => r = .returned (.tuple #[.agg #[.float .f64 (if pOk a b n then pwX a b n.toNat else 0), .float .f64 (if pOk a b n then pwY a b n.toNat else 0)], .int .i64 (if pOk a b n then 0 else 1)]) ∧ Below w.heap.size w w' := by
  by_cases hok : pOk a b n = true
  · rw [hok]
    unfold pOk at hok
    simp only [Bool.and_eq_true, decide_eq_true_eq] at hok
    obtain ⟨⟨hv, h0⟩, h1⟩ := hok
    obtain ⟨k, rfl⟩ : ∃ k : Nat, n = (k : Int) := ⟨n.toNat, by omega⟩
    rw [Int.toNat_natCast]
    obtain ⟨f1, f2, f3, f4, f5, f6⟩ := pc_facts (n := k) ha hb hv
    obtain ⟨na, nb⟩ := vI_nn hv
    refine spow_1 a b (pcX a b k) (pcY a b k) k (pwF (pcX a b k) k 1) (pwF (pcY a b k) k 3) (pwX a b k) (pwY a b k) w (by omega) (fun W => by have := svalid a b ha hb W; rw [hv] at this; exact this) ?_ ?_ ?_ ?_ ?_
    · intro hp W hW
      unfold pcX pcY
      rw [if_pos hp, if_pos hp]
      exact smag a b W ha hb na nb
    · intro hp
      unfold pcX pcY
      rw [if_neg (by omega), if_neg (by omega)]
      exact ⟨rfl, rfl⟩
    · exact fun W hW => spower f1 (by omega) (by omega) (hT.later hW) (Tab.later hJ hW)
    · exact fun W hW => spower f2 (by omega) (by omega) (hT.later hW) (Tab.later hJ hW)
    · exact fun W hW => sbetween _ _ W (pwF_lt f1 (by omega)) (pwF_lt f2 (by omega))
  · have hok' : pOk a b n = false := by cases h : pOk a b n <;> simp_all
    rw [hok']
    refine spow_no a b n (vI a b) w ?_ (fun W => svalid a b ha hb W)
    unfold pOk at hok'
    cases hv : vI a b
    · exact .inl rfl
    · rw [hv] at hok'
      by_cases h0 : n < 0
      · exact .inr (.inl h0)
      · refine .inr (.inr ?_)
        rw [decide_eq_true (show 0 ≤ n by omega)] at hok'
        simp at hok'
        omega
end Go.Proofs.YtcoclopllbfjcaaGreatDoor
/- SpanLaws in numbers: squares and products. -/
namespace Go.Proofs.YtcoclopllbfjcaaGreatDoor
set_option linter.unusedVariables false
set_option linter.unusedSimpArgs false
open Go.RowKit Go.Fl64

theorem toD_modes {t : Bool × Nat × Int} (o : Ok t) : stp (toD t 1) ≤ stp (toD t 3) := by
  rw [toD_tf o (by omega), toD_tf o (by omega)]
  obtain ⟨h1, h2, -⟩ := order_modes (K := 70000) (Nat.le_refl _) (s := t.1) (x := t.2.1) (e := t.2.2) o
  omega
theorem enF_modes (i : Int) {t : Bool × Nat × Int} (o : Ok t) : stp (enF i t 1) ≤ stp (enF i t 3) := by
  unfold enF
  by_cases h : i = 0
  · rw [if_pos h, if_pos h, pl_stp, pl_stp]; exact toD_modes o
  · rw [if_neg h, if_neg h]; exact Int.le_refl _
theorem toD_dn (t : Bool × Nat × Int) : stp (toD t 1) < 9218868437227405312 := by
  unfold toD
  by_cases h0 : t.2.1 = 0
  · rw [if_pos h0]; decide
  · rw [if_neg h0, tf_bdy (by omega)]
    cases t.1
    · rw [show wyN false 1 = 0 by decide]
      unfold bdy
      rw [if_neg h0]
      split
      · rename_i h
        rw [show stp (sig false (rwb t.2.1 t.2.2 0)) = (rwb t.2.1 t.2.2 0 : Int) by unfold stp sgn sig neg mag; simp; omega]
        omega
      · rw [if_pos rfl]; decide
    · unfold stp sgn
      have hl := bdy_le t.2.1 t.2.2 (wyN true 1)
      obtain ⟨h1, h2, -⟩ := mag_sig (s := true) hl
      rw [h1, h2]
      simp
      omega
theorem enF_dn (t : Bool × Nat × Int) : stp (enF 0 t 1) < 9218868437227405312 := by
  unfold enF
  rw [if_pos rfl, pl_stp]; exact toD_dn t
theorem vz_scale {K L : Nat} {s : Bool} {x : Nat} {e : Int} (h : 0 ≤ e + K) : vz (K + L) s x e = vz K s x e * ((2 ^ L : Nat) : Int) := by
  unfold vz
  rw [show (e + ((K + L : Nat) : Int)).toNat = (e + K).toNat + L by omega, Nat.pow_add, Int.natCast_mul, ← Int.mul_assoc]
/-- products in numbers, by their signs -/
theorem V8_tM {t u : Bool × Nat × Int} (o1 : Ok t) (o2 : Ok u) {K : Nat} (hK : 2 * K = 5000000) : V8 (tM t u) = vz K t.1 t.2.1 t.2.2 * vz K u.1 u.2.1 u.2.2 := by
  obtain ⟨-, f2, f3, -, -⟩ := o1.facts
  obtain ⟨-, g2, g3, -, -⟩ := o2.facts
  unfold V8 tM
  rw [vz_cn (by omega), ← vz_mul (by omega) (by omega), show K + K = 5000000 by omega]
theorem V8_K {t : Bool × Nat × Int} (o : Ok t) {K : Nat} (hK : 2 * K = 5000000) : V8 t = vz K t.1 t.2.1 t.2.2 * ((2 ^ K : Nat) : Int) := by
  obtain ⟨-, f2, f3, -, -⟩ := o.facts
  unfold V8
  rw [← vz_scale (by omega), show K + K = 5000000 by omega]
theorem K_pos {x : Int} {P : Nat} (hP : 0 < P) : (0 ≤ x * (P : Int) ↔ 0 ≤ x) ∧ (x * (P : Int) ≤ 0 ↔ x ≤ 0) := by
  have hp : (0 : Int) < (P : Int) := by omega
  constructor
  · constructor
    · intro h; exact Int.not_lt.1 fun hx => by have := Int.mul_neg_of_neg_of_pos hx hp; omega
    · intro h; exact Int.mul_nonneg h (by omega)
  · constructor
    · intro h; exact Int.not_lt.1 fun hx => by have := Int.mul_pos hx hp; omega
    · intro h; exact Int.mul_nonpos_of_nonpos_of_nonneg h (by omega)
theorem V8_sq {t u : Bool × Nat × Int} (o1 : Ok t) (o2 : Ok u) (h0 : 0 ≤ V8 t) (h : V8 t ≤ V8 u) : V8 (tM t t) ≤ V8 (tM u u) := by
  obtain ⟨K, hK⟩ : ∃ K, 2 * K = 5000000 := ⟨2500000, rfl⟩
  have e1 := V8_K o1 hK
  have e2 := V8_K o2 hK
  rw [V8_tM o1 o1 hK, V8_tM o2 o2 hK]
  have hp := Nat.two_pow_pos K
  generalize vz K t.1 t.2.1 t.2.2 = A at *
  generalize vz K u.1 u.2.1 u.2.2 = C at *
  generalize 2 ^ K = P at *
  rw [e1] at h0 h
  rw [e2] at h
  have hA := (K_pos hp).1.1 h0
  have hAC : A ≤ C := by
    have := (K_pos (x := C - A) hp).1.1 (by rw [Int.sub_mul]; omega)
    omega
  exact Int.mul_le_mul hAC hAC hA (by omega)
theorem V8_sqn (t : Bool × Nat × Int) : 0 ≤ V8 (tM t t) := by
  unfold V8 vz
  rw [show (tM t t).1 = false by unfold tM cn; split <;> simp]
  exact Int.mul_nonneg (by unfold sv; simp) (Int.natCast_nonneg _)
theorem V8_opp {t u : Bool × Nat × Int} (o1 : Ok t) (o2 : Ok u) (h1 : V8 t ≤ 0) (h2 : 0 ≤ V8 u) : V8 (tM t u) ≤ 0 := by
  obtain ⟨K, hK⟩ : ∃ K, 2 * K = 5000000 := ⟨2500000, rfl⟩
  have e1 := V8_K o1 hK
  have e2 := V8_K o2 hK
  rw [V8_tM o1 o2 hK]
  have hp := Nat.two_pow_pos K
  generalize vz K t.1 t.2.1 t.2.2 = A at *
  generalize vz K u.1 u.2.1 u.2.2 = C at *
  generalize 2 ^ K = P at *
  rw [e1] at h1
  rw [e2] at h2
  exact Int.mul_nonpos_of_nonpos_of_nonneg ((K_pos hp).2.1 h1) ((K_pos hp).1.1 h2)

/-- the product of two ends, rounded -/
def PE (x y : Nat) (m : Int) : Nat := enF (tmI (eI x) (eI y) (eT x) (eT y)) (tmT (eI x) (eI y) (eT x) (eT y)) m
theorem tmT_ok8 (x y : Nat) : Ok (tmT (eI x) (eI y) (eT x) (eT y)) := by
  have hz : Ok (false, 0, 0) := by unfold Ok; rw [dlen_zero]; rfl
  unfold tmT
  split
  · exact hz
  · split
    · exact hz
    · rename_i h
      have h1 : eI x = 0 := by omega
      have h2 : eI y = 0 := by omega
      unfold eT
      rw [if_pos h1, if_pos h2]
      exact tM_ok (tM_okR x y)
theorem tmI_b8 (x y : Nat) : -1 ≤ tmI (eI x) (eI y) (eT x) (eT y) ∧ tmI (eI x) (eI y) (eT x) (eT y) ≤ 1 := by
  unfold tmI
  split
  · omega
  · split
    · exact mul_b (sgE_b _ (eI_b x)) (sgE_b _ (eI_b y))
    · omega
theorem zero_ok8 : Ok (false, 0, 0) := by unfold Ok; rw [dlen_zero]; rfl
theorem enF_zero (m : Int) : stp (enF 0 (false, 0, 0) m) = 0 := by unfold enF toD; rw [if_pos rfl, if_pos rfl]; decide
/-- squares are not below nought -/
theorem PE_sq (x : Nat) {m : Int} (hm : 1 ≤ m ∧ m ≤ 3) : 0 ≤ stp (PE x x m) := by
  rw [← enF_zero m]
  refine enF_mono (by omega) (tmI_b8 x x) zero_ok8 (tmT_ok8 x x) hm ?_
  have hs : 0 ≤ sgE (eI x) (eT x) * sgE (eI x) (eT x) := by
    obtain ⟨h1, h2⟩ := sgE_b (eT x) (eI_b x)
    rcases (show sgE (eI x) (eT x) = -1 ∨ sgE (eI x) (eT x) = 0 ∨ sgE (eI x) (eT x) = 1 by omega) with h | h | h <;> rw [h] <;> decide
  unfold xle tmI tmT
  by_cases h : sgE (eI x) (eT x) = 0 ∨ sgE (eI x) (eT x) = 0
  · rw [if_pos h, if_pos h]; exact .inr ⟨rfl, fun _ => Int.le_refl _⟩
  · rw [if_neg h, if_neg h]
    by_cases h2 : eI x ≠ 0 ∨ eI x ≠ 0
    · rw [if_pos h2, if_pos h2]
      left
      have h0 : sgE (eI x) (eT x) ≠ 0 := by omega
      have := Int.mul_ne_zero h0 h0
      omega
    · rw [if_neg h2, if_neg h2]
      exact .inr ⟨rfl, fun _ => by rw [V8_zero]; exact V8_sqn _⟩
end Go.Proofs.YtcoclopllbfjcaaGreatDoor
/- SpanLaws in numbers: a square lies within the product; orders do not count. -/
namespace Go.Proofs.YtcoclopllbfjcaaGreatDoor
set_option linter.unusedVariables false
set_option linter.unusedSimpArgs false
open Go.RowKit Go.Fl64

theorem tM_comm (t u : Bool × Nat × Int) : tM t u = tM u t := by
  unfold tM
  rw [Nat.mul_comm, Int.add_comm, show (!(t.1 == u.1)) = (!(u.1 == t.1)) by cases t.1 <;> cases u.1 <;> rfl]
theorem PE_comm (x y : Nat) (m : Int) : PE x y m = PE y x m := by
  unfold PE tmI tmT
  have h1 : (sgE (eI x) (eT x) = 0 ∨ sgE (eI y) (eT y) = 0) ↔ (sgE (eI y) (eT y) = 0 ∨ sgE (eI x) (eT x) = 0) := Or.comm
  have h2 : (eI x ≠ 0 ∨ eI y ≠ 0) ↔ (eI y ≠ 0 ∨ eI x ≠ 0) := Or.comm
  simp only [h1, h2, tM_comm (eT x) (eT y), Int.mul_comm (sgE (eI x) (eT x))]
theorem on_PE {x y : Nat} (hx : x < 18446744073709551616) (hy : y < 18446744073709551616) (nx : isNaN x = false) (ny : isNaN y = false) {m : Int} (hm : 1 ≤ m ∧ m ≤ 3) : stp (onF (fMul x y m)) = stp (PE x y m) := by
  unfold PE
  rw [enF_times hx hy nx ny hm, pl_stp]
theorem mlo_min {a b c d : Nat} (ha : a < 18446744073709551616) (hb : b < 18446744073709551616) (hc : c < 18446744073709551616) (hd : d < 18446744073709551616) (na : isNaN a = false) (nb : isNaN b = false) (nc : isNaN c = false) (nd : isNaN d = false) :
    stp (mlo a b c d) = min (min (min (min 9218868437227405312 (stp (PE a c 1))) (stp (PE a d 1))) (stp (PE b c 1))) (stp (PE b d 1)) := by
  unfold mlo
  rw [pl_stp]
  simp only [lowF, fMin_stp]
  show min (min (min (min (stp 9218868437227405312) (stp (onF (fMul a c 1)))) (stp (onF (fMul a d 1)))) (stp (onF (fMul b c 1)))) (stp (onF (fMul b d 1))) = _
  rw [on_PE ha hc na nc (by omega), on_PE ha hd na nd (by omega), on_PE hb hc nb nc (by omega), on_PE hb hd nb nd (by omega), show stp 9218868437227405312 = 9218868437227405312 by decide]
theorem mhi_max {a b c d : Nat} (ha : a < 18446744073709551616) (hb : b < 18446744073709551616) (hc : c < 18446744073709551616) (hd : d < 18446744073709551616) (na : isNaN a = false) (nb : isNaN b = false) (nc : isNaN c = false) (nd : isNaN d = false) :
    stp (mhi a b c d) = max (max (max (max (-9218868437227405312) (stp (PE a c 3))) (stp (PE a d 3))) (stp (PE b c 3))) (stp (PE b d 3)) := by
  unfold mhi
  rw [pl_stp]
  simp only [hiF, fMax_stp]
  show max (max (max (max (stp 18442240474082181120) (stp (onF (fMul a c 3)))) (stp (onF (fMul a d 3)))) (stp (onF (fMul b c 3)))) (stp (onF (fMul b d 3))) = _
  rw [on_PE ha hc na nc (by omega), on_PE ha hd na nd (by omega), on_PE hb hc nb nc (by omega), on_PE hb hd nb nd (by omega), show stp 18442240474082181120 = -9218868437227405312 by decide]
theorem mlo_ok (a b c d : Nat) : mlo a b c d < 18446744073709551616 ∧ mhi a b c d < 18446744073709551616 ∧ isNaN (mlo a b c d) = false ∧ isNaN (mhi a b c d) = false ∧ mlo a b c d ≠ 9223372036854775808 ∧ mhi a b c d ≠ 9223372036854775808 := by
  have h1 := lowF_ok (D := fun i => onF (fMul (pk4 a a b b i) (pk4 c d c d i) 1)) (fun i => onF_ok fMul_lt) 4
  have h2 := hiF_ok (D := fun i => onF (fMul (pk4 a a b b i) (pk4 c d c d i) 3)) (fun i => onF_ok fMul_lt) 4
  have pln : ∀ x, isNaN x = false → isNaN (pl x) = false := fun x hx => by unfold pl; split; decide; exact hx
  exact ⟨pl_lt h1.1, pl_lt h2.1, pln _ h1.2, pln _ h2.2, pl_nZ _, pl_nZ _⟩
theorem mul_swap {a b c d : Nat} (ha : a < 18446744073709551616) (hb : b < 18446744073709551616) (hc : c < 18446744073709551616) (hd : d < 18446744073709551616) (na : isNaN a = false) (nb : isNaN b = false) (nc : isNaN c = false) (nd : isNaN d = false) :
    mlo a b c d = mlo c d a b ∧ mhi a b c d = mhi c d a b := by
  obtain ⟨l1, l2, -, -, z1, z2⟩ := mlo_ok a b c d
  obtain ⟨k1, k2, -, -, y1, y2⟩ := mlo_ok c d a b
  refine ⟨stp_inj l1 k1 ?_ z1 y1, stp_inj l2 k2 ?_ z2 y2⟩
  · rw [mlo_min ha hb hc hd na nb nc nd, mlo_min hc hd ha hb nc nd na nb, PE_comm c a, PE_comm c b, PE_comm d a, PE_comm d b]
    omega
  · rw [mhi_max ha hb hc hd na nb nc nd, mhi_max hc hd ha hb nc nd na nb, PE_comm c a, PE_comm c b, PE_comm d a, PE_comm d b]
    omega
theorem sum_comm8 (na : Bool) (x : Nat) (ea : Int) (nb : Bool) (y : Nat) (eb : Int) : cn (sumN na x ea nb y eb).1 (sumN na x ea nb y eb).2.1 (sumN na x ea nb y eb).2.2 = cn (sumN nb y eb na x ea).1 (sumN nb y eb na x ea).2.1 (sumN nb y eb na x ea).2.2 := by
  unfold sumN
  rw [Int.min_comm eb ea]
  by_cases hx : x = 0
  · by_cases hy : y = 0
    · subst hx hy; simp [cn]
    · rw [if_pos hx, if_neg hy, if_pos hx]
  · by_cases hy : y = 0
    · rw [if_neg hx, if_pos hy, if_pos hy]
    · rw [if_neg hx, if_neg hy, if_neg hy, if_neg hx]
      generalize x * 2 ^ (ea - min ea eb).toNat = X
      generalize y * 2 ^ (eb - min ea eb).toNat = Y
      by_cases hs : na = nb
      · rw [if_pos hs, if_pos hs.symm, Nat.add_comm X Y, hs]
      · rw [if_neg hs, if_neg (show ¬ nb = na from fun e => hs e.symm)]
        rcases Nat.lt_trichotomy X Y with h | h | h
        · rw [if_pos h, if_neg (show ¬ Y < X by omega)]
        · subst h
          rw [if_neg (show ¬ X < X by omega), if_neg (show ¬ X < X by omega), Nat.sub_self]
          simp [cn]
        · rw [if_neg (show ¬ X < Y by omega), if_pos h]
theorem tS_comm8 (t1 t2 : Bool × Nat × Int) : tS t1 t2 = tS t2 t1 := sum_comm8 _ _ _ _ _ _
theorem add_swap {a c : Nat} (ha : a < 18446744073709551616) (hc : c < 18446744073709551616) (na : isNaN a = false) (nc : isNaN c = false) (hx : ¬ (eI a = 1 ∧ eI c = -1)) (hy : ¬ (eI a = -1 ∧ eI c = 1)) {m : Int} (hm : 1 ≤ m ∧ m ≤ 3) : pl (fAdM a c m) = pl (fAdM c a m) := by
  rw [← enF_plus ha hc na nc hx hy hm, ← enF_plus hc ha nc na (by omega) (by omega) hm]
  unfold plT
  rw [Int.add_comm, tS_comm8]
theorem eIT_pl (x : Nat) : eI (pl x) = eI x ∧ eT (pl x) = eT x := by
  unfold pl
  split
  · rename_i h; rw [h]; decide +kernel
  · exact ⟨rfl, rfl⟩
theorem PE_pl (x : Nat) (m : Int) : PE (pl x) (pl x) m = PE x x m := by
  unfold PE; rw [(eIT_pl x).1, (eIT_pl x).2]
theorem sgE_neg {i : Int} {t : Bool × Nat × Int} : sgE (-i) (tNeg t) = - sgE i t := by
  unfold sgE tNeg
  by_cases h : i = 0
  · subst h
    rw [if_pos (by decide), if_pos rfl]
    by_cases h0 : t.2.1 = 0
    · rw [if_pos h0]; simp [h0]
    · rw [if_neg h0]
      simp only [if_neg h0]
      cases t.1 <;> rfl
  · rw [if_neg (by omega), if_neg h]
theorem tM_neg2 (t : Bool × Nat × Int) : tM (tNeg t) (tNeg t) = tM t t := by
  unfold tNeg tM
  by_cases h : t.2.1 = 0
  · rw [if_pos h, h]; rfl
  · rw [if_neg h]; simp
theorem PE_ngt {x : Nat} (hx : x < 18446744073709551616) (m : Int) : PE (ngt x) (ngt x) m = PE x x m := by
  unfold PE
  rw [eI_ngt hx, eT_ngt hx]
  have h1 : tmI (-eI x) (-eI x) (tNeg (eT x)) (tNeg (eT x)) = tmI (eI x) (eI x) (eT x) (eT x) := by
    unfold tmI
    rw [sgE_neg]
    simp only [Int.neg_eq_zero, Int.neg_mul_neg, ne_eq]
  have h2 : tmT (-eI x) (-eI x) (tNeg (eT x)) (tNeg (eT x)) = tmT (eI x) (eI x) (eT x) (eT x) := by
    unfold tmT
    rw [sgE_neg, tM_neg2]
    simp only [Int.neg_eq_zero, ne_eq]
  rw [h1, h2]
/-- the second power is the product with itself -/
theorem pw_PE {x : Nat} (hx : x < 18446744073709551616) (nx : isNaN x = false) (hi : x ≠ 18442240474082181120) {m : Int} (hm : 1 ≤ m ∧ m ≤ 3) : pl (pwF x 2 m) = PE x x m := by
  rw [← enF_pow hx nx (by omega) hm (fun h => absurd h hi)]
  unfold PE
  have hz : (eT x).2.1 = 0 → eT x = (false, 0, 0) := (eT_ok x).facts.2.2.2.1
  have ho : (eT x).2.1 ≠ 0 → (eT x).2.1 % 2 = 1 := (eT_ok x).facts.2.2.2.2
  have key : tmI (eI x) (eI x) (eT x) (eT x) = peI (eI x) 2 ∧ tmT (eI x) (eI x) (eT x) (eT x) = peT (eI x) (eT x) 2 := by
    by_cases h0 : eI x = 0
    · have h := tm_pw ho 1 1
      rw [pw_one hz] at h
      rw [h0]
      unfold peI peT
      rw [if_pos (.inl rfl), if_pos rfl]
      exact h
    · have hb := eI_b x
      have h := tm_inf (show eI x = 1 ∨ eI x = -1 by omega) (eT x) 1 1
      have e1 : peI (eI x) 1 = eI x := by rw [peI_n h0 (by decide)]; rfl
      have e2 : peT (eI x) (eT x) 1 = eT x := by unfold peT; rw [if_neg h0, if_neg (by decide)]; unfold eT; rw [if_neg h0]
      rw [e1, e2] at h
      exact h
  rw [key.1, key.2]
theorem tm_fin8 {t u : Bool × Nat × Int} : tmI 0 0 t u = 0 ∧ tmT 0 0 t u = tM t u := by
  unfold tmI tmT
  by_cases h : sgE 0 t = 0 ∨ sgE 0 u = 0
  · rw [if_pos h, if_pos h]
    refine ⟨rfl, ?_⟩
    have hz : t.2.1 = 0 ∨ u.2.1 = 0 := by
      unfold sgE at h
      rw [if_pos rfl, if_pos rfl] at h
      rcases h with h | h
      · left; split at h
        · assumption
        · split at h <;> omega
      · right; split at h
        · assumption
        · split at h <;> omega
    unfold tM cn
    rw [if_pos (by rcases hz with h | h <;> rw [h] <;> simp)]
  · rw [if_neg h, if_neg h, if_neg (by omega), if_neg (by omega)]
    exact ⟨rfl, rfl⟩
theorem eI_stp {x : Nat} (hx : x < 18446744073709551616) (nx : isNaN x = false) : (eI x = 0 → mag x < 9218868437227405312 ∧ eT x = tF x) ∧ (0 ≤ stp x → eI x = 0 ∨ eI x = 1) := by
  refine ⟨fun h => ⟨(fin_iff8 hx nx).1 h, by unfold eT; rw [if_pos h]⟩, fun h => ?_⟩
  have hb := eI_b x
  by_cases h1 : eI x = -1
  · unfold eI at h1
    split at h1
    · omega
    · split at h1
      · rename_i h2; rw [h2] at h; exact absurd h (by decide)
      · omega
  · omega
/-- squares rise -/
theorem PE_rise {x y : Nat} (hx : x < 18446744073709551616) (hy : y < 18446744073709551616) (nx : isNaN x = false) (ny : isNaN y = false) (h0 : 0 ≤ stp x) (h : stp x ≤ stp y) {m : Int} (hm : 1 ≤ m ∧ m ≤ 3) : stp (PE x x m) ≤ stp (PE y y m) := by
  refine enF_mono (tmI_b8 x x) (tmI_b8 y y) (tmT_ok8 x x) (tmT_ok8 y y) hm ?_
  have sx := sgn8 hx nx
  have sy := sgn8 hy ny
  rcases (eI_stp hx nx).2 h0 with ix | ix
  · obtain ⟨fx, tx⟩ := (eI_stp hx nx).1 ix
    rcases (eI_stp hy ny).2 (by omega) with iy | iy
    · obtain ⟨fy, ty⟩ := (eI_stp hy ny).1 iy
      rw [ix, iy, tx, ty, tm_fin8.1, tm_fin8.2, tm_fin8.1, tm_fin8.2]
      refine .inr ⟨rfl, fun _ => V8_sq (tF_ok x) (tF_ok y) ?_ ((V8_cmp hx hy fx fy).2 h)⟩
      have := (V8_cmp (a := 0) (b := x) (by omega) hx (by decide) fx).2 (by rw [show stp 0 = 0 by decide]; exact h0)
      rw [show tF 0 = (false, 0, 0) by decide +kernel, V8_zero] at this
      exact this
    · rw [ix, tx, tm_fin8.1, iy]
      left
      have e : sgE 1 (eT y) = 1 := by unfold sgE; rw [if_neg (by decide)]
      unfold tmI
      rw [e, if_neg (by decide), if_pos (by decide)]
      decide
  · have hxi : x = 9218868437227405312 := by
      unfold eI at ix
      split at ix
      · assumption
      · split at ix <;> omega
    have hyi : stp y = 9218868437227405312 := by
      have := nan_stp ny
      rw [hxi, show stp 9218868437227405312 = 9218868437227405312 by decide] at h
      omega
    have hye : y = x := stp_inj hy hx (by rw [hyi, hxi]; decide) (by rintro rfl; revert hyi; decide) (by rw [hxi]; decide)
    rw [hye]; exact xle_refl _ _
end Go.Proofs.YtcoclopllbfjcaaGreatDoor
/- SpanLaws in numbers: the square within the product. -/
namespace Go.Proofs.YtcoclopllbfjcaaGreatDoor
set_option linter.unusedVariables false
set_option linter.unusedSimpArgs false
open Go.RowKit Go.Fl64

theorem mkvI {x y : Nat} (nx : isNaN x = false) (ny : isNaN y = false) (zx : x ≠ 9223372036854775808) (zy : y ≠ 9223372036854775808) (h : stp x ≤ stp y) (h1 : stp x < 9218868437227405312) (h2 : -9218868437227405312 < stp y) : vI x y = true := by
  unfold vI le lt
  rw [nx, ny, show stp 9218868437227405312 = 9218868437227405312 by decide, show stp 18442240474082181120 = -9218868437227405312 by decide, show isNaN 9218868437227405312 = false by decide, show isNaN 18442240474082181120 = false by decide]
  simp [h, h1, h2, zx, zy]
theorem vI_facts {a b : Nat} (h : vI a b = true) : isNaN a = false ∧ isNaN b = false ∧ stp a ≤ stp b ∧ stp a < 9218868437227405312 ∧ -9218868437227405312 < stp b ∧ a ≠ 9223372036854775808 ∧ b ≠ 9223372036854775808 := by
  obtain ⟨na, nb⟩ := vI_nn h
  unfold vI le lt at h
  rw [na, nb, show stp 9218868437227405312 = 9218868437227405312 by decide, show stp 18442240474082181120 = -9218868437227405312 by decide, show isNaN 9218868437227405312 = false by decide, show isNaN 18442240474082181120 = false by decide] at h
  simp at h
  obtain ⟨⟨⟨⟨h1, h2⟩, h3⟩, h4⟩, h5⟩ := h
  exact ⟨na, nb, h1, h2, h3, h4, h5⟩
theorem le_stp {x y : Nat} (nx : isNaN x = false) (ny : isNaN y = false) : (le x y = true ↔ stp x ≤ stp y) := by
  unfold le; rw [nx, ny]; simp
theorem PE_fin {x : Nat} (h : eI x = 0) : stp (PE x x 1) < 9218868437227405312 := by
  unfold PE
  rw [h, tm_fin8.1]
  exact enF_dn _
theorem eI_lt {x : Nat} (hx : x < 18446744073709551616) (nx : isNaN x = false) (h1 : stp x < 9218868437227405312) (h2 : -9218868437227405312 < stp x) : eI x = 0 := by
  unfold eI
  split
  · rename_i h; rw [h] at h1; exact absurd h1 (by decide)
  · split
    · rename_i h; rw [h] at h2; exact absurd h2 (by decide)
    · rfl
theorem PE_opp {a b : Nat} (ha : a < 18446744073709551616) (hb : b < 18446744073709551616) (na : isNaN a = false) (nb : isNaN b = false) (h1 : stp a < 0) (h2 : 0 < stp b) {m : Int} (hm : 1 ≤ m ∧ m ≤ 3) : stp (PE a b m) ≤ 0 := by
  rw [← enF_zero m]
  refine enF_mono (tmI_b8 a b) (by omega) (tmT_ok8 a b) zero_ok8 hm ?_
  have ma : mag a ≠ 0 ∧ neg a = true := by
    unfold stp sgn at h1
    split at h1
    · exact ⟨by omega, by assumption⟩
    · omega
  have mb : mag b ≠ 0 ∧ neg b = false := by
    unfold stp sgn at h2
    split at h2
    · omega
    · rename_i h; exact ⟨by omega, by simpa using h⟩
  have sa := sgn8 ha na
  have sb := sgn8 hb nb
  rw [if_neg ma.1, ma.2, if_pos rfl] at sa
  rw [if_neg mb.1, mb.2, if_neg (by decide)] at sb
  by_cases hi : eI a ≠ 0 ∨ eI b ≠ 0
  · left
    unfold tmI
    rw [sa, sb, if_neg (by decide), if_pos hi]
    decide
  · have ia : eI a = 0 := by omega
    have ib : eI b = 0 := by omega
    obtain ⟨fa, ta⟩ := (eI_stp ha na).1 ia
    obtain ⟨fb, tb⟩ := (eI_stp hb nb).1 ib
    rw [ia, ib, ta, tb, tm_fin8.1, tm_fin8.2]
    refine .inr ⟨rfl, fun _ => ?_⟩
    rw [V8_zero]
    have k1 := (V8_cmp (a := a) (b := 0) ha (by omega) fa (by decide)).2 (by rw [show stp 0 = 0 by decide]; omega)
    have k2 := (V8_cmp (a := 0) (b := b) (by omega) hb (by decide) fb).2 (by rw [show stp 0 = 0 by decide]; omega)
    rw [show tF 0 = (false, 0, 0) by decide +kernel, V8_zero] at k1 k2
    exact V8_opp (tF_ok a) (tF_ok b) k1 k2
/-- what the magnitudes' squares are -/
theorem mg_sq {a b : Nat} (ha : a < 18446744073709551616) (hb : b < 18446744073709551616) (hv : vI a b = true) :
    0 ≤ stp (mgX a b) ∧ stp (mgX a b) ≤ stp (mgY a b) ∧ stp (mgX a b) < 9218868437227405312 ∧
    (∀ m, PE (mgX a b) (mgX a b) m = PE a a m ∨ PE (mgX a b) (mgX a b) m = PE b b m ∨ (stp (PE (mgX a b) (mgX a b) m) = 0 ∧ stp a < 0 ∧ 0 < stp b)) ∧
    (∀ m, PE (mgY a b) (mgY a b) m = PE a a m ∨ PE (mgY a b) (mgY a b) m = PE b b m) := by
  obtain ⟨na, nb, hs, h1, h2, za, zb⟩ := vI_facts hv
  have n0 : isNaN 0 = false := by decide
  have s0 : stp 0 = 0 := by decide
  unfold mgX mgY
  by_cases c1 : le 0 a = true
  · rw [if_pos c1, if_pos c1]
    rw [le_stp n0 na, s0] at c1
    exact ⟨c1, hs, h1, fun m => .inl rfl, fun m => .inr rfl⟩
  · rw [if_neg c1, if_neg c1]
    rw [le_stp n0 na, s0] at c1
    by_cases c2 : le b 0 = true
    · rw [if_pos c2, if_pos c2]
      rw [le_stp nb n0, s0] at c2
      rw [pl_stp, pl_stp, ngt_stp hb, ngt_stp ha]
      exact ⟨by omega, by omega, by omega, fun m => .inr (.inl (by rw [PE_pl, PE_ngt hb])), fun m => .inl (by rw [PE_pl, PE_ngt ha])⟩
    · rw [if_neg c2, if_neg c2]
      rw [le_stp nb n0, s0] at c2
      have fm : fMax (ngt a) b = ngt a ∨ fMax (ngt a) b = b := by
        unfold fMax
        split
        · exact .inr rfl
        · split
          · exact .inl rfl
          · split
            · exact .inr rfl
            · exact .inl rfl
      rw [fMax_stp, ngt_stp ha, s0]
      refine ⟨by omega, by omega, by omega, fun m => .inr (.inr ⟨?_, by omega, by omega⟩), fun m => ?_⟩
      · have e : eI 0 = 0 ∧ eT 0 = (false, 0, 0) := by decide +kernel
        unfold PE
        rw [e.1, e.2]
        exact enF_zero m
      · rcases fm with e | e
        · left; rw [e, PE_ngt ha]
        · right; rw [e]
theorem sq_within {a b : Nat} (ha : a < 18446744073709551616) (hb : b < 18446744073709551616) (hv : vI a b = true) :
    wI (pwX a b 2) (pwY a b 2) (mlo a b a b) (mhi a b a b) = true := by
  obtain ⟨na, nb, hs, h1, h2, za, zb⟩ := vI_facts hv
  obtain ⟨g1, g2, g3, g4, g5, g6⟩ := mg_facts ha hb hv
  obtain ⟨q1, q2, q3, q4, q5⟩ := mg_sq ha hb hv
  have eX : pwX a b 2 = PE (mgX a b) (mgX a b) 1 := by
    unfold pwX pcX
    rw [if_pos (by decide)]
    exact pw_PE g1 g3 g5 (by omega)
  have eY : pwY a b 2 = PE (mgY a b) (mgY a b) 3 := by
    unfold pwY pcY
    rw [if_pos (by decide)]
    exact pw_PE g2 g4 g6 (by omega)
  obtain ⟨l1, l2, l3, l4, l5, l6⟩ := mlo_ok a b a b
  have k1 := mlo_min ha hb ha hb na nb na nb
  have k3 := mhi_max ha hb ha hb na nb na nb
  have p1 := PE_sq a (m := 3) (by omega)
  have md := enF_modes (tmI (eI a) (eI a) (eT a) (eT a)) (tmT_ok8 a a)
  have wlo : stp (mlo a b a b) < 9218868437227405312 := by
    rw [k1]
    by_cases ib : eI b = 0
    · have := PE_fin ib; omega
    · by_cases ia : eI a = 0
      · have := PE_fin ia; omega
      · have hai : eI a = -1 := by
          have := eI_b a
          by_cases h : eI a = 1
          · unfold eI at h
            split at h
            · rename_i h'; rw [h'] at h1; exact absurd h1 (by decide)
            · split at h <;> omega
          · omega
        have hbi : eI b = 1 := by
          have := eI_b b
          by_cases h : eI b = -1
          · unfold eI at h
            split at h
            · omega
            · split at h
              · rename_i h'; rw [h'] at h2; exact absurd h2 (by decide)
              · omega
          · omega
        have : stp (PE a b 1) = -9218868437227405312 := by
          unfold PE
          have e1 : sgE (-1) (eT a) = -1 := by unfold sgE; rw [if_neg (by decide)]
          have e2 : sgE 1 (eT b) = 1 := by unfold sgE; rw [if_neg (by decide)]
          rw [hai, hbi]
          unfold tmI tmT
          rw [e1, e2]
          simp only [show ¬ ((-1 : Int) = 0 ∨ (1 : Int) = 0) by decide, show ((-1 : Int) ≠ 0 ∨ (1 : Int) ≠ 0) by decide, if_true, if_false]
          decide
        omega
  have wv : vI (mlo a b a b) (mhi a b a b) = true := by
    refine mkvI l3 l4 l5 l6 ?_ wlo ?_
    · rw [k1, k3]
      have : stp (PE a a 1) ≤ stp (PE a a 3) := md
      omega
    · rw [k3]; omega
  have n1 : isNaN (PE (mgX a b) (mgX a b) 1) = false := enF_nn _ _ (by omega)
  have n3 : isNaN (PE (mgY a b) (mgY a b) 3) = false := enF_nn _ _ (by omega)
  have r1 := PE_rise g1 g2 g3 g4 q1 q2 (m := 1) (by omega)
  have r2 : stp (PE (mgY a b) (mgY a b) 1) ≤ stp (PE (mgY a b) (mgY a b) 3) := enF_modes _ (tmT_ok8 _ _)
  have r3 := PE_sq (mgY a b) (m := 3) (by omega)
  have r4 := PE_fin (eI_lt g1 g3 q3 (by omega))
  have vv : vI (PE (mgX a b) (mgX a b) 1) (PE (mgY a b) (mgY a b) 3) = true := mkvI n1 n3 (enF_nZ _ _ _) (enF_nZ _ _ _) (by omega) r4 (by omega)
  rw [eX, eY]
  unfold wI
  rw [vv, wv]
  have c1 : le (mlo a b a b) (PE (mgX a b) (mgX a b) 1) = true := by
    rw [le_stp l3 n1, k1]
    rcases q4 1 with h | h | ⟨h, hh1, hh2⟩
    · rw [h]; omega
    · rw [h]; omega
    · rw [h]
      have := PE_opp ha hb na nb hh1 hh2 (m := 1) (by omega)
      omega
  have c2 : le (PE (mgY a b) (mgY a b) 3) (mhi a b a b) = true := by
    rw [le_stp n3 l4, k3]
    rcases q5 3 with h | h
    · rw [h]; omega
    · rw [h]; omega
  rw [c1, c2]
  rfl
end Go.Proofs.YtcoclopllbfjcaaGreatDoor
/- SpanLaws in numbers: an interval lies around its middle. -/
namespace Go.Proofs.YtcoclopllbfjcaaGreatDoor
set_option linter.unusedVariables false
set_option linter.unusedSimpArgs false
open Go.RowKit Go.Fl64

theorem V8_parts {F : Nat} (hF : F < 18446744073709551616) (hf : mag F < 9218868437227405312) : vz 5000000 (nN F) (nM F) (Ie.sE F) = V8 (tF F) := by
  obtain ⟨m, hm, -⟩ := sM_lt F hF
  have hM : nM F = m := by unfold nM; rw [hm]; rfl
  have h1 := cn_parts F m hF hf hm
  unfold V8
  rw [← h1, vz_cn (sE_e5000000 hF hf), hM]
  unfold nN
  by_cases h0 : mag F = 0
  · rw [if_pos h0]
    have : m = 0 := by
      rcases of_parts F m hF hf hm with ⟨h, -⟩ | ⟨h, h2, -⟩
      · exact h
      · exfalso; apply h2; unfold Ie.mant; rw [if_pos (by omega)]; exact h0
    rw [this, vz_zero, vz_zero]
  · rw [if_neg h0]
/-- what is rounded up is not below -/
theorem toD_up {t : Bool × Nat × Int} (o : Ok t) (hf : mag (toD t 3) < 9218868437227405312) : V8 t ≤ V8 (tF (toD t 3)) := by
  have hl := toD_lt (t := t) (m := 3) (by omega)
  rw [← V8_parts hl hf]
  rw [toD_tf o (by omega)] at hf ⊢
  obtain ⟨-, -, -, h, -⟩ := order_modes (K := 5000000) (by omega) (s := t.1) (x := t.2.1) (e := t.2.2) o
  exact h hf
theorem stp_fin {x : Nat} (nx : isNaN x = false) (h1 : stp x < 9218868437227405312) (h2 : -9218868437227405312 < stp x) : mag x < 9218868437227405312 := by
  have := mag_le8 nx
  unfold stp sgn at h1 h2
  split at h1 <;> simp_all <;> omega
theorem fin_stp8 {x : Nat} (h : mag x < 9218868437227405312) : -9218868437227405312 < stp x ∧ stp x < 9218868437227405312 := by
  unfold stp sgn
  split <;> omega
theorem rdP_lt8 {a b : Nat} (ha : a < 18446744073709551616) (hb : b < 18446744073709551616) : rdP a b < 18446744073709551616 := fAdM_lt (mdF_lt a b) (ngt_lt ha) (by omega)
theorem rdQ_lt8 {a b : Nat} (ha : a < 18446744073709551616) (hb : b < 18446744073709551616) : rdQ a b < 18446744073709551616 := fAdM_lt hb (ngt_lt (mdF_lt a b)) (by omega)
/-- the middle less the radius, and more it -/
theorem around8 {a b : Nat} (ha : a < 18446744073709551616) (hb : b < 18446744073709551616) (hv : vI a b = true) (hR : le (fMax (rdP a b) (rdQ a b)) 9218868437227405311 = true) :
    mag a < 9218868437227405312 ∧ mag b < 9218868437227405312 ∧ mag (mdF a b) < 9218868437227405312 ∧ mag (fMax (rdP a b) (rdQ a b)) < 9218868437227405312 ∧ fMax (rdP a b) (rdQ a b) < 18446744073709551616 ∧
    V8 (tF (mdF a b)) - V8 (tF (fMax (rdP a b) (rdQ a b))) ≤ V8 (tF a) ∧ V8 (tF b) ≤ V8 (tF (mdF a b)) + V8 (tF (fMax (rdP a b) (rdQ a b))) := by
  obtain ⟨na, nb, hs, g1, g2, za, zb⟩ := vI_facts hv
  obtain ⟨nP, nQ⟩ := rd_nn ha hb hv
  have nR : isNaN (fMax (rdP a b) (rdQ a b)) = false := fMax_nn nP nQ
  have c1 : stp 9218868437227405311 = 9218868437227405311 := by decide
  have hRs : stp (fMax (rdP a b) (rdQ a b)) ≤ 9218868437227405311 := by
    rw [le_stp nR (by decide), c1] at hR; exact hR
  have ie : eI a = 0 ∧ eI b = 0 := by
    by_cases h : eI a ≠ 0 ∨ eI b ≠ 0
    · rw [rad_doc ha hb hv h] at hRs
      exact absurd hRs (by decide)
    · omega
  have fa := (fin_iff8 ha na).1 ie.1
  have fb := (fin_iff8 hb nb).1 ie.2
  have hm : mdF a b = hfS a b := by
    have e1 : iAll a b = false := by
      unfold iAll eq
      have h1 := fin_stp8 fa
      have h2 : stp 18442240474082181120 = -9218868437227405312 := by decide
      rw [show decide (stp a = stp 18442240474082181120) = false by rw [h2]; exact decide_eq_false (by omega)]
      simp
    have far : ∀ x, mag x < 9218868437227405312 → iFar x = false := fun x hx => by
      unfold iFar lt
      have : stp (mag x) = mag x := by unfold stp sgn neg; rw [decide_eq_false (by omega), show mag (mag x) = mag x by unfold mag; omega]; simp
      rw [c1, this]
      rw [show decide ((9218868437227405311 : Int) < (mag x : Int)) = false from decide_eq_false (by omega)]
      simp
    unfold mdF
    rw [e1, far a fa, far b fb]
    rfl
  obtain ⟨i1, i2, fm⟩ := hfS_in ha hb fa fb hs
  have hml := hfS_lt a b
  rw [hm]
  have eP : stp (rdP a b) = stp (toD (tS (tF (hfS a b)) (tNeg (tF a))) 3) := by unfold rdP; rw [hm]; exact fsub8_stp hml ha fm fa
  have eQ : stp (rdQ a b) = stp (toD (tS (tF b) (tNeg (tF (hfS a b)))) 3) := by unfold rdQ; rw [hm]; exact fsub8_stp hb hml fb fm
  have oq : Ok (tS (tF (hfS a b)) (tNeg (tF a))) := S8_ok (E8_tF _) (E8_neg (E8_tF a))
  have op : Ok (tS (tF b) (tNeg (tF (hfS a b)))) := S8_ok (E8_tF b) (E8_neg (E8_tF _))
  have vq : V8 (tS (tF (hfS a b)) (tNeg (tF a))) = V8 (tF (hfS a b)) - V8 (tF a) := by rw [V8_sum (E8_tF _) (E8_neg (E8_tF a)), V8_neg]; omega
  have vp : V8 (tS (tF b) (tNeg (tF (hfS a b)))) = V8 (tF b) - V8 (tF (hfS a b)) := by rw [V8_sum (E8_tF b) (E8_neg (E8_tF _)), V8_neg]; omega
  have k1 := (V8_cmp ha hml fa fm).2 i1
  have k2 := (V8_cmp hml hb fm fb).2 i2
  have sP := (toD_pos oq (m := 3) (by omega) (by omega)).2
  have sQ := (toD_pos op (m := 3) (by omega) (by omega)).2
  have hRm := fMax_stp (rdP a b) (rdQ a b)
  have fR : mag (fMax (rdP a b) (rdQ a b)) < 9218868437227405312 := stp_fin nR (by omega) (by omega)
  have lR : fMax (rdP a b) (rdQ a b) < 18446744073709551616 := fMax_lt (rdP_lt8 ha hb) (rdQ_lt8 ha hb)
  have nq := toD_nn (tS (tF (hfS a b)) (tNeg (tF a))) (m := 3) (by omega)
  have np := toD_nn (tS (tF b) (tNeg (tF (hfS a b)))) (m := 3) (by omega)
  have fq := stp_fin nq (by omega) (by omega)
  have fp := stp_fin np (by omega) (by omega)
  have u1 := toD_up oq fq
  have u2 := toD_up op fp
  have w1 := (V8_cmp (toD_lt (by omega)) lR fq fR).2 (by omega)
  have w2 := (V8_cmp (toD_lt (by omega)) lR fp fR).2 (by omega)
  exact ⟨fa, fb, fm, fR, lR, by omega, by omega⟩
end Go.Proofs.YtcoclopllbfjcaaGreatDoor
/- SpanPoints: what holds a number alone. -/
namespace Go.Proofs.YtcoclopllbfjcaaGreatDoor
set_option linter.unusedVariables false
set_option linter.unusedSimpArgs false
open Go.RowKit Go.Fl64

end Go.Proofs.YtcoclopllbfjcaaGreatDoor
