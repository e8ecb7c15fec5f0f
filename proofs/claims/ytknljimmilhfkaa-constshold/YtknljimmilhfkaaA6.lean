/- Own work: contracts of the program's functions, part 6: CND CNE CNF CNG CNH CNI CNJ. -/
import Derived.Test.YtknljimmilhfkaaA4
import Derived.Test.YtknljimmilhfkaaA5
import Derived.Lib.UnsafeStr

/- A whole number in decimal. -/
namespace Go.Proofs.Ytknljimmilhfkaa
set_option linter.unusedVariables false
set_option linter.unusedSimpArgs false
open Go.RowKit

theorem byte_infoV : (Try.prog.info? 5).map (fun i => (i.zero, i.size, i.bytes)) = some (some (.int .u8 0), 1, 1) := by kernel_rfl
/-- the bytes of the text from its end on -/
def dcE (x n : Nat) : Nat → List UInt8
  | 0 => []
  | c + 1 => (dcE x n c ++ (if c = n ∧ 0 < n then [UInt8.ofNat 46] else [])) ++ [UInt8.ofNat (48 + x / 10 ^ c % 10)]
theorem dcE_len (x n : Nat) : ∀ c, (dcE x n c).length ≤ 2 * c
  | 0 => by simp [dcE]
  | c + 1 => by
    have := dcE_len x n c
    unfold dcE
    simp only [List.length_append, List.length_singleton]
    split <;> simp <;> omega
/-- a row of bytes that was made here -/
def ObV (w wr : World) (v : Value) (L : List UInt8) : Prop := wr.ownsRow w.heap.size 5 1 v L.length (Lib.byteCells L) ∧ Below w.heap.size w wr
theorem ObV.shape {w wr : World} {v : Value} {L : List UInt8} (h : ObV w wr v L) : ∃ ao cap, v = .slice ao L.length cap := by
  obtain ⟨⟨-, h | ⟨g, cap, cur, h, -⟩⟩, -⟩ := h
  · exact ⟨none, 0, by rw [h.1, h.2]⟩
  · exact ⟨_, _, h⟩
theorem ObV.push {w wr w4 : World} {v v' : Value} {L : List UInt8} {c : Nat} (h : ObV w wr v L) (hc : c < 256) (ho' : w4.ownsRow w.heap.size 5 1 v' (L.length + 1) (Lib.byteCells L ++ [.int .u8 (c : Int)])) (hg : (wr.alloc (.cells #[.int .u8 (c : Int)] 5)).grownBy w4 v.ownBlock) : ObV w w4 v' (L ++ [UInt8.ofNat c]) := by
  refine ⟨?_, (h.2.alloc h.2.size _).grown hg (by simp; have := h.2.size; omega) (fun k hk => (h.1.lt k hk).1)⟩
  rw [List.length_append, List.length_singleton]
  have e : Lib.byteCells (L ++ [UInt8.ofNat c]) = Lib.byteCells L ++ [.int .u8 (c : Int)] := by
    simp [Lib.byteCells, UInt8.toNat_ofNat_of_lt' hc]
  rw [e]
  exact ho'
theorem own_low {w : World} {b : Nat} {v : Value} {x : Nat} (h : Own w b v x) : Own w 0 v x := by
  rcases h with h | ⟨g, cap, f, h0, h1, h2, h3, h4, h5⟩
  · exact .inl h
  · exact .inr ⟨g, cap, f, h0, Nat.zero_le _, h2, h3, h4, h5⟩
/-- digits stay where a row of bytes grows -/
theorem own_grown {w w4 : World} {b : Nat} {v V : Value} {x B n : Nat} {xs : List Value} (h : Own w b v x) (ho : w.ownsRow B 5 1 V n xs) (hg : w.grownBy w4 V.ownBlock) : Own w4 b v x := by
  rcases h with h | ⟨g, cap, f, h0, h1, h2, h3, ⟨cu, hc1, hc2, hc3⟩, h5⟩
  · exact .inl h
  · refine .inr ⟨g, cap, f, h0, h1, h2, h3, ⟨cu, ?_, hc2, hc3⟩, h5⟩
    have hlt : g < w.heap.size := by
      rcases Nat.lt_or_ge g w.heap.size with h | h
      · exact h
      · rw [Array.getElem?_eq_none h] at hc1; exact absurd hc1 (by simp)
    rw [hg.block g hlt ?_]
    · exact hc1
    · obtain ⟨-, ⟨rfl, -⟩ | ⟨g', cp, cur, rfl, -, hh, -⟩⟩ := ho
      · simp [Value.ownBlock]
      · intro e
        have e' : g = g' := by simpa [Value.ownBlock] using e
        subst e'
        rw [hh] at hc1
        have := Option.some.inj hc1
        injection this with _ h2
        exact absurd h2 (by decide)
theorem obV_own {w wr w4 : World} {v m : Value} {L : List UInt8} {c b y : Nat} (h : ObV w wr v L) (hm : Own wr b m y) (hg : (wr.alloc (.cells #[.int .u8 (c : Int)] 5)).grownBy w4 v.ownBlock) : Own w4 0 m y :=
  own_low (own_grown (hm.later ((Below.refl _ _).alloc (Nat.le_refl _) _)) (h.1.alloc _) hg)
/-- reversed, and made a text -/
theorem revV {w wr : World} {v : Value} {L : List UInt8} (h : ObV w wr v L) (h0 : L ≠ []) (hl : L.length ≤ 100000) :
    Calls Try.prog 67 #[v] wr fun e w' => e = .returned (.tuple #[]) ∧ Below w.heap.size w w' ∧ (convert 82 9 v).run Try.prog w' = .ok (.string ⟨L.reverse.toArray⟩) w' := by
  obtain ⟨⟨hlen, ⟨-, h⟩ | ⟨g, cp, cur, rfl, hg1, hg2, hg3, hg4, hg5, hg6⟩⟩, hBB⟩ := h
  · exact absurd (List.length_eq_zero_iff.1 h) h0
  · have hH : Sort.Holds (fun b : UInt8 => Value.int .u8 (b.toNat : Int)) wr g 0 L.toArray := fun i hi => by
      have hi' : i < L.length := by simpa using hi
      refine ⟨?_, by simp [World.frozen?, hg2]⟩
      rw [Nat.zero_add, Lib.cell_of_heap hg2]
      have h8 : (cur.toList.take (L.length * 1))[i]? = (Lib.byteCells L)[i]? := by rw [hg6]
      rw [List.getElem?_take_of_lt (by omega)] at h8
      rw [← Array.getElem?_toList, h8, getElem!_pos _ i hi]
      simp [Lib.byteCells, hi']
    have k := Try.rev_bytes (fun b : UInt8 => Value.int .u8 (b.toNat : Int)) (fun _ => rfl) g 0 cp L.toArray wr hH (by simp; omega)
    rw [show L.toArray.size = L.length by simp] at k
    refine k.mono ?_
    rintro e w' ⟨rfl, q, rfl⟩
    have hR := Sort.holds_putRow (fun b : UInt8 => Value.int .u8 (b.toNat : Int)) (Sort.ahead wr q) g 0 L.toArray L.toArray.reverse hH (by simp)
    refine ⟨rfl, ?_, ?_⟩
    · refine hBB.trans ⟨rfl, rfl, rfl, by simp [Sort.ahead], fun k hk => ?_⟩
      simp only [Sort.putRow, Sort.mapBlock, Sort.ahead]
      simp [Array.getElem?_modify, show ¬ g = k by omega]
    · have e : L.length = L.reverse.length := by simp
      rw [e]
      refine run_convert_bytes_back _ 82 9 5 ⟨g, 0, none⟩ cp L.reverse Try.underlying82 Try.underlying5 Try.underlying9 (fun i hi => ?_)
      have h1 := (hR i (by simpa using hi)).1
      have ea : (⟨g, 0, none⟩ : Addr).add i = ⟨g, 0 + i, none⟩ := by simp [Addr.add, eq_comm]
      rw [ea, h1, getElem!_pos _ i (by simpa using hi)]
      simp
theorem ObV.later {w wr w2 : World} {v : Value} {L : List UInt8} (h : ObV w wr v L) (hb : Below wr.heap.size wr w2) : ObV w w2 v L := by
  refine ⟨?_, h.2.trans (hb.mono h.2.size)⟩
  obtain ⟨⟨hlen, h | ⟨g, cp, cur, e, hg1, hg2, hg3⟩⟩, hBB⟩ := h
  · exact ⟨hlen, .inl h⟩
  · have hlt : g < wr.heap.size := by
      rcases Nat.lt_or_ge g wr.heap.size with h | h
      · exact h
      · rw [Array.getElem?_eq_none h] at hg2; exact absurd hg2 (by simp)
    exact ⟨hlen, .inr ⟨g, cp, cur, e, hg1, (hb.block g hlt).trans hg2, hg3⟩⟩
theorem dc_meas {n c y : Nat} (h : c ≤ n ∨ 0 < y) : n + 1 - (c + 1) + y / 10 < n + 1 - c + y := by omega
theorem dc_div {x c y : Nat} (h : y = x / 10 ^ c) : y / 10 = x / 10 ^ (c + 1) := by
  rw [h, Nat.pow_succ, Nat.div_div_eq_div_mul]
theorem dc_bound {x c K : Nat} (hK : x < 10 ^ K) (h : x / 10 ^ c ≠ 0) : c < K := by
  rcases Nat.lt_or_ge c K with h' | h'
  · exact h'
  · exact absurd (Nat.div_eq_of_lt (Nat.lt_of_lt_of_le hK (Nat.pow_le_pow_right (by decide) h'))) h
end Go.Proofs.Ytknljimmilhfkaa
/- consts.decimal walked. -/
namespace Go.Proofs.Ytknljimmilhfkaa
set_option linter.unusedVariables false
set_option linter.unusedSimpArgs false
open Go.RowKit

theorem dc_byte {d : Nat} : (48 + (d : Int)) = ((48 + d : Nat) : Int) := by omega
set_option maxHeartbeats 4000000 in
set_option maxRecDepth 200000 in
theorem bdec {A : Value} {x n K : Nat} {w : World} (h : Is w A x) (hx : dlen x ≤ 1000000) (hn : n ≤ 1000) (hK : x < 10 ^ K) (hK4 : K ≤ 4000) :
    Calls Try.prog 48 #[A, .int .i64 n] w fun r w' => ∃ C, n < C ∧ x / 10 ^ C = 0 ∧ (C = n + 1 ∨ x / 10 ^ (C - 1) ≠ 0) ∧ r = .returned (.string ⟨(dcE x n C).reverse.toArray⟩) ∧ Below w.heap.size w w' := by
  obtain ⟨a0, c0, hsh0, -⟩ := id h
  subst hsh0
  have HA : Hid (Is w (.slice a0 (dlen x) c0) x ∧ dlen x ≤ 1000000) := ⟨h, hx⟩
  have HK : Hid (x < 10 ^ K) := hK
  obtain ⟨i0, hi0, hz0, hz1, hz2⟩ := info_parts byte_infoV
  clear h hx hK
  go_enter Try.func48, Try.ntmps48
  go_wp2_with fail
  go_loopw [0, 5, 6] (fun sm st sc wr => ∃ (c y : Nat) (am : Option Addr) (cm : Nat), sm = .slice am (dlen y) cm ∧ sc = .int .i64 c ∧ c ≤ 4100 ∧ Hid (y = x / 10 ^ c ∧ dlen y ≤ 1000000000) ∧ (c ≤ n + 1 ∨ x / 10 ^ (c - 1) ≠ 0) ∧ Hid (Is wr (.slice am (dlen y) cm) y ∧ (0 < c → Own wr 0 (.slice am (dlen y) cm) y)) ∧ Hid (ObV w wr st (dcE x n c))) (fun _ _ sc _ => n + 1 - (intOf sc).toNat + x / 10 ^ (intOf sc).toNat)
  case atStart => exact ⟨0, x, a0, c0, rfl, rfl, by omega, ⟨by rw [Nat.pow_zero, Nat.div_one], by have := HA.out.2; omega⟩, .inl (by omega), ⟨HA.out.1, fun h => absurd h (by omega)⟩, (⟨World.ownsRow_nil .., Below.refl _ _⟩ : ObV w w _ [])⟩
  case round =>
    obtain ⟨c, y, am, cm, rfl, rfl, hcb, HY, hC, HM, OBH⟩ := hrel
    have HC : Hid (c ≤ n + 1 ∨ x / 10 ^ (c - 1) ≠ 0) := hC
    have HDL : Hid (0 < dlen y ↔ 0 < y) := ⟨fun h => by rcases Nat.eq_zero_or_pos y with e | e; (· subst e; rw [dlen_zero] at h; omega); exact e, fun h => by have := dlen_pos (x := y) (by omega); omega⟩
    have HKB : Hid (0 < y → c < K) := fun h => dc_bound HK.out (by rw [← HY.out.1]; omega)
    clear hC HA
    by_cases hgo : c ≤ n ∨ 0 < dlen y
    · have HGO : Hid (c ≤ n ∨ 0 < y) := hgo.imp id HDL.out.1
      have hc1 : c + 1 ≤ 4100 := by rcases HGO.out with h | h; (· omega); have := HKB.out h; omega
      rcases Nat.lt_trichotomy c n with hcn | hcn | hcn
      · have h1 : (c : Int) ≤ (n : Int) := by omega
        have h2 : ¬ (c : Int) = (n : Int) := by omega
        obtain ⟨L, hL⟩ : ∃ L, L = dcE x n c := ⟨_, rfl⟩
        have hll : L.length ≤ 2 * c := hL ▸ dcE_len x n c
        rw [← hL] at OBH
        obtain ⟨at5, ct, hsh5⟩ := OBH.out.shape
        subst hsh5
        have HE : Hid (∀ (v' : Value) (w4 : World) (d : Nat), d = y % 10 → ObV w w4 v' (L ++ [UInt8.ofNat (48 + d)]) → ObV w w4 v' (dcE x n (c + 1))) := (by
          intro v' w4 d hd h
          unfold dcE
          rw [if_neg (by omega), List.append_nil, ← hL, ← HY.out.1, ← hd]
          exact h : ∀ (v' : Value) (w4 : World) (d : Nat), d = y % 10 → ObV w w4 v' (L ++ [UInt8.ofNat (48 + d)]) → ObV w w4 v' (dcE x n (c + 1)))
        clear hL
        have kq : Calls Try.prog 66 #[.slice am (dlen y) cm, .int .u32 10] wr fun e w' => ∃ v, e = .returned (.tuple #[v, .int .u32 (y % 10 : Nat)]) ∧ Own w' wr.heap.size v (y / 10) ∧ Below wr.heap.size wr w' := quod (b := 10) HM.out.1 HY.out.2 (by decide) (by decide)
        go_wp2_with fail
        refine kq.mono ?_
        rintro r w2 ⟨v2, rfl, hO2, hb2⟩
        obtain ⟨b2, m2, hsh, -⟩ := hO2.is
        obtain rfl := hsh
        obtain ⟨d, hd⟩ : ∃ d, d = y % 10 := ⟨_, rfl⟩
        rw [← hd]
        have hd10 : d < 10 := by omega
        have HO2 : Hid (Own w2 wr.heap.size (.slice b2 (dlen (y / 10)) m2) (y / 10)) := hO2
        have HT2 : Hid (ObV w w2 (.slice at5 L.length ct) L) := OBH.out.later hb2
        have HD : Hid (d = y % 10) := hd
        have HSZ : Hid (w.heap.size ≤ w2.heap.size) := HT2.out.2.size
        clear kq hO2 hb2 hd
        go_wp2_with (at_builtin; refine wpList_append_own _ rfl _ _ 82 rfl w.heap.size 5 i0 (.int .u8 0) 1 1 Try.underlying82 hi0 hz0 hz1 hz2 rfl (by decide) _ _ _ rfl (HT2.out.1.alloc _) ⟨w2.heap.size, 0, none⟩ 1 1 [.int .u8 _] rfl rfl (cell_one_new _ _ _) (by intro u hu; simp at hu; subst hu; rfl) (by unfold maxLen; omega) (by have := HSZ.out; omega) (by simp; have := HSZ.out; omega) ?_)
        intro v' w4 hown4 hgrow _
        rw [dc_byte] at hown4 hgrow
        have HF : Hid (ObV w w4 v' (dcE x n (c + 1)) ∧ Own w4 0 (.slice b2 (dlen (y / 10)) m2) (y / 10)) := ⟨HE.out v' w4 d HD.out (HT2.out.push (by omega) hown4 hgrow), obV_own HT2.out HO2.out hgrow⟩
        clear hown4 hgrow HE HO2 HT2
        go_wp2
        refine ⟨⟨c + 1, y / 10, b2, m2, rfl, rfl, by omega, ⟨dc_div HY.out.1, Nat.le_trans (dlen_mono (Nat.div_le_self _ _)) HY.out.2⟩, ?_, ⟨HF.out.2.is, fun _ => HF.out.2⟩, HF.out.1⟩, ?_⟩
        · rcases HGO.out with h | h
          · exact .inl (by omega)
          · exact .inr (by rw [Nat.add_sub_cancel, ← HY.out.1]; omega)
        · have e1 := HY.out.1
          have e2 := dc_div HY.out.1
          simp only [intOf, Int.toNat_natCast, show ((c : Int) + 1).toNat = c + 1 by omega]
          rw [← e1, ← e2]
          exact dc_meas HGO.out
      · subst hcn
        have h1 : (c : Int) ≤ (c : Int) := Int.le_refl _
        by_cases h0 : 0 < c
        · have h3 : (0 : Int) < (c : Int) := by omega
          obtain ⟨L, hL⟩ : ∃ L, L = dcE x c c := ⟨_, rfl⟩
          have hll : L.length ≤ 2 * c := hL ▸ dcE_len x c c
          rw [← hL] at OBH
          obtain ⟨at5, ct, hsh5⟩ := OBH.out.shape
          subst hsh5
          have HLN : Hid (L = dcE x c c) := hL
          have HSZ0 : Hid (w.heap.size ≤ wr.heap.size) := OBH.out.2.size
          clear hL
          go_wp2_with (at_builtin; refine wpList_append_own _ rfl _ _ 82 rfl w.heap.size 5 i0 (.int .u8 0) 1 1 Try.underlying82 hi0 hz0 hz1 hz2 rfl (by decide) _ _ _ rfl (OBH.out.1.alloc _) ⟨wr.heap.size, 0, none⟩ 1 1 [.int .u8 _] rfl rfl (cell_one_new _ _ _) (by intro u hu; simp at hu; subst hu; rfl) (by unfold maxLen; omega) (by have := HSZ0.out; omega) (by simp; have := HSZ0.out; omega) ?_)
          intro v3 w3 hown3 hgrow3 _
          have HP : Hid (ObV w w3 v3 (L ++ [UInt8.ofNat 46]) ∧ Own w3 0 (.slice am (dlen y) cm) y) := ⟨OBH.out.push (c := 46) (by omega) hown3 hgrow3, obV_own (c := 46) OBH.out (HM.out.2 (by omega)) hgrow3⟩
          clear hown3 hgrow3 OBH HM HSZ0
          have HM : Hid (Is w3 (.slice am (dlen y) cm) y ∧ (0 < c → Own w3 0 (.slice am (dlen y) cm) y)) := ⟨HP.out.2.is, fun _ => HP.out.2⟩
          have OBH : Hid (ObV w w3 v3 (L ++ [UInt8.ofNat 46])) := HP.out.1
          have HE : Hid (∀ (v' : Value) (w4 : World) (d : Nat), d = y % 10 → ObV w w4 v' ((L ++ [UInt8.ofNat 46]) ++ [UInt8.ofNat (48 + d)]) → ObV w w4 v' (dcE x c (c + 1))) := (by
            intro v' w4 d hd h
            unfold dcE
            rw [if_pos ⟨rfl, by omega⟩, ← HLN.out, ← HY.out.1, ← hd]
            exact h : ∀ (v' : Value) (w4 : World) (d : Nat), d = y % 10 → ObV w w4 v' ((L ++ [UInt8.ofNat 46]) ++ [UInt8.ofNat (48 + d)]) → ObV w w4 v' (dcE x c (c + 1)))
          obtain ⟨L2, hL2⟩ : ∃ L2, L2 = L ++ [UInt8.ofNat 46] := ⟨_, rfl⟩
          have hll2 : L2.length ≤ L.length + 1 := by rw [hL2]; simp
          rw [← hL2] at HE OBH
          clear hL2 HP HLN
          obtain ⟨at5, ct, hsh6⟩ := OBH.out.shape
          subst hsh6
          have kq : Calls Try.prog 66 #[.slice am (dlen y) cm, .int .u32 10] w3 fun e w' => ∃ v, e = .returned (.tuple #[v, .int .u32 (y % 10 : Nat)]) ∧ Own w' w3.heap.size v (y / 10) ∧ Below w3.heap.size w3 w' := quod (b := 10) HM.out.1 HY.out.2 (by decide) (by decide)
          go_wp2_with fail
          refine kq.mono ?_
          rintro r w2 ⟨v2, rfl, hO2, hb2⟩
          obtain ⟨b2, m2, hsh, -⟩ := hO2.is
          obtain rfl := hsh
          obtain ⟨d, hd⟩ : ∃ d, d = y % 10 := ⟨_, rfl⟩
          rw [← hd]
          have hd10 : d < 10 := by omega
          have HO2 : Hid (Own w2 w3.heap.size (.slice b2 (dlen (y / 10)) m2) (y / 10)) := hO2
          have HT2 : Hid (ObV w w2 (.slice at5 L2.length ct) L2) := OBH.out.later hb2
          have HD : Hid (d = y % 10) := hd
          have HSZ : Hid (w.heap.size ≤ w2.heap.size) := HT2.out.2.size
          clear kq hO2 hb2 hd
          go_wp2_with (at_builtin; refine wpList_append_own _ rfl _ _ 82 rfl w.heap.size 5 i0 (.int .u8 0) 1 1 Try.underlying82 hi0 hz0 hz1 hz2 rfl (by decide) _ _ _ rfl (HT2.out.1.alloc _) ⟨w2.heap.size, 0, none⟩ 1 1 [.int .u8 _] rfl rfl (cell_one_new _ _ _) (by intro u hu; simp at hu; subst hu; rfl) (by unfold maxLen; omega) (by have := HSZ.out; omega) (by simp; have := HSZ.out; omega) ?_)
          intro v' w4 hown4 hgrow _
          rw [dc_byte] at hown4 hgrow
          have HF : Hid (ObV w w4 v' (dcE x c (c + 1)) ∧ Own w4 0 (.slice b2 (dlen (y / 10)) m2) (y / 10)) := ⟨HE.out v' w4 d HD.out (HT2.out.push (by omega) hown4 hgrow), obV_own HT2.out HO2.out hgrow⟩
          clear hown4 hgrow HE HO2 HT2
          go_wp2
          refine ⟨⟨c + 1, y / 10, b2, m2, rfl, rfl, by omega, ⟨dc_div HY.out.1, Nat.le_trans (dlen_mono (Nat.div_le_self _ _)) HY.out.2⟩, ?_, ⟨HF.out.2.is, fun _ => HF.out.2⟩, HF.out.1⟩, ?_⟩
          · rcases HGO.out with h | h
            · exact .inl (by omega)
            · exact .inr (by rw [Nat.add_sub_cancel, ← HY.out.1]; omega)
          · have e1 := HY.out.1
            have e2 := dc_div HY.out.1
            simp only [intOf, Int.toNat_natCast, show ((c : Int) + 1).toNat = c + 1 by omega]
            rw [← e1, ← e2]
            exact dc_meas HGO.out
        · have h3 : ¬ (0 : Int) < (c : Int) := by omega
          obtain ⟨L, hL⟩ : ∃ L, L = dcE x c c := ⟨_, rfl⟩
          have hll : L.length ≤ 2 * c := hL ▸ dcE_len x c c
          rw [← hL] at OBH
          obtain ⟨at5, ct, hsh5⟩ := OBH.out.shape
          subst hsh5
          have HE : Hid (∀ (v' : Value) (w4 : World) (d : Nat), d = y % 10 → ObV w w4 v' (L ++ [UInt8.ofNat (48 + d)]) → ObV w w4 v' (dcE x c (c + 1))) := (by
            intro v' w4 d hd h
            unfold dcE
            rw [if_neg (by omega), List.append_nil, ← hL, ← HY.out.1, ← hd]
            exact h : ∀ (v' : Value) (w4 : World) (d : Nat), d = y % 10 → ObV w w4 v' (L ++ [UInt8.ofNat (48 + d)]) → ObV w w4 v' (dcE x c (c + 1)))
          clear hL
          have kq : Calls Try.prog 66 #[.slice am (dlen y) cm, .int .u32 10] wr fun e w' => ∃ v, e = .returned (.tuple #[v, .int .u32 (y % 10 : Nat)]) ∧ Own w' wr.heap.size v (y / 10) ∧ Below wr.heap.size wr w' := quod (b := 10) HM.out.1 HY.out.2 (by decide) (by decide)
          go_wp2_with fail
          refine kq.mono ?_
          rintro r w2 ⟨v2, rfl, hO2, hb2⟩
          obtain ⟨b2, m2, hsh, -⟩ := hO2.is
          obtain rfl := hsh
          obtain ⟨d, hd⟩ : ∃ d, d = y % 10 := ⟨_, rfl⟩
          rw [← hd]
          have hd10 : d < 10 := by omega
          have HO2 : Hid (Own w2 wr.heap.size (.slice b2 (dlen (y / 10)) m2) (y / 10)) := hO2
          have HT2 : Hid (ObV w w2 (.slice at5 L.length ct) L) := OBH.out.later hb2
          have HD : Hid (d = y % 10) := hd
          have HSZ : Hid (w.heap.size ≤ w2.heap.size) := HT2.out.2.size
          clear kq hO2 hb2 hd
          go_wp2_with (at_builtin; refine wpList_append_own _ rfl _ _ 82 rfl w.heap.size 5 i0 (.int .u8 0) 1 1 Try.underlying82 hi0 hz0 hz1 hz2 rfl (by decide) _ _ _ rfl (HT2.out.1.alloc _) ⟨w2.heap.size, 0, none⟩ 1 1 [.int .u8 _] rfl rfl (cell_one_new _ _ _) (by intro u hu; simp at hu; subst hu; rfl) (by unfold maxLen; omega) (by have := HSZ.out; omega) (by simp; have := HSZ.out; omega) ?_)
          intro v' w4 hown4 hgrow _
          rw [dc_byte] at hown4 hgrow
          have HF : Hid (ObV w w4 v' (dcE x c (c + 1)) ∧ Own w4 0 (.slice b2 (dlen (y / 10)) m2) (y / 10)) := ⟨HE.out v' w4 d HD.out (HT2.out.push (by omega) hown4 hgrow), obV_own HT2.out HO2.out hgrow⟩
          clear hown4 hgrow HE HO2 HT2
          go_wp2
          refine ⟨⟨c + 1, y / 10, b2, m2, rfl, rfl, by omega, ⟨dc_div HY.out.1, Nat.le_trans (dlen_mono (Nat.div_le_self _ _)) HY.out.2⟩, ?_, ⟨HF.out.2.is, fun _ => HF.out.2⟩, HF.out.1⟩, ?_⟩
          · rcases HGO.out with h | h
            · exact .inl (by omega)
            · exact .inr (by rw [Nat.add_sub_cancel, ← HY.out.1]; omega)
          · have e1 := HY.out.1
            have e2 := dc_div HY.out.1
            simp only [intOf, Int.toNat_natCast, show ((c : Int) + 1).toNat = c + 1 by omega]
            rw [← e1, ← e2]
            exact dc_meas HGO.out
      · have h1 : ¬ (c : Int) ≤ (n : Int) := by omega
        have h2 : ¬ (c : Int) = (n : Int) := by omega
        have h4 : (0 : Int) < (dlen y : Int) := by omega
        obtain ⟨L, hL⟩ : ∃ L, L = dcE x n c := ⟨_, rfl⟩
        have hll : L.length ≤ 2 * c := hL ▸ dcE_len x n c
        rw [← hL] at OBH
        obtain ⟨at5, ct, hsh5⟩ := OBH.out.shape
        subst hsh5
        have HE : Hid (∀ (v' : Value) (w4 : World) (d : Nat), d = y % 10 → ObV w w4 v' (L ++ [UInt8.ofNat (48 + d)]) → ObV w w4 v' (dcE x n (c + 1))) := (by
          intro v' w4 d hd h
          unfold dcE
          rw [if_neg (by omega), List.append_nil, ← hL, ← HY.out.1, ← hd]
          exact h : ∀ (v' : Value) (w4 : World) (d : Nat), d = y % 10 → ObV w w4 v' (L ++ [UInt8.ofNat (48 + d)]) → ObV w w4 v' (dcE x n (c + 1)))
        clear hL
        have kq : Calls Try.prog 66 #[.slice am (dlen y) cm, .int .u32 10] wr fun e w' => ∃ v, e = .returned (.tuple #[v, .int .u32 (y % 10 : Nat)]) ∧ Own w' wr.heap.size v (y / 10) ∧ Below wr.heap.size wr w' := quod (b := 10) HM.out.1 HY.out.2 (by decide) (by decide)
        go_wp2_with fail
        refine kq.mono ?_
        rintro r w2 ⟨v2, rfl, hO2, hb2⟩
        obtain ⟨b2, m2, hsh, -⟩ := hO2.is
        obtain rfl := hsh
        obtain ⟨d, hd⟩ : ∃ d, d = y % 10 := ⟨_, rfl⟩
        rw [← hd]
        have hd10 : d < 10 := by omega
        have HO2 : Hid (Own w2 wr.heap.size (.slice b2 (dlen (y / 10)) m2) (y / 10)) := hO2
        have HT2 : Hid (ObV w w2 (.slice at5 L.length ct) L) := OBH.out.later hb2
        have HD : Hid (d = y % 10) := hd
        have HSZ : Hid (w.heap.size ≤ w2.heap.size) := HT2.out.2.size
        clear kq hO2 hb2 hd
        go_wp2_with (at_builtin; refine wpList_append_own _ rfl _ _ 82 rfl w.heap.size 5 i0 (.int .u8 0) 1 1 Try.underlying82 hi0 hz0 hz1 hz2 rfl (by decide) _ _ _ rfl (HT2.out.1.alloc _) ⟨w2.heap.size, 0, none⟩ 1 1 [.int .u8 _] rfl rfl (cell_one_new _ _ _) (by intro u hu; simp at hu; subst hu; rfl) (by unfold maxLen; omega) (by have := HSZ.out; omega) (by simp; have := HSZ.out; omega) ?_)
        intro v' w4 hown4 hgrow _
        rw [dc_byte] at hown4 hgrow
        have HF : Hid (ObV w w4 v' (dcE x n (c + 1)) ∧ Own w4 0 (.slice b2 (dlen (y / 10)) m2) (y / 10)) := ⟨HE.out v' w4 d HD.out (HT2.out.push (by omega) hown4 hgrow), obV_own HT2.out HO2.out hgrow⟩
        clear hown4 hgrow HE HO2 HT2
        go_wp2
        refine ⟨⟨c + 1, y / 10, b2, m2, rfl, rfl, by omega, ⟨dc_div HY.out.1, Nat.le_trans (dlen_mono (Nat.div_le_self _ _)) HY.out.2⟩, ?_, ⟨HF.out.2.is, fun _ => HF.out.2⟩, HF.out.1⟩, ?_⟩
        · rcases HGO.out with h | h
          · exact .inl (by omega)
          · exact .inr (by rw [Nat.add_sub_cancel, ← HY.out.1]; omega)
        · have e1 := HY.out.1
          have e2 := dc_div HY.out.1
          simp only [intOf, Int.toNat_natCast, show ((c : Int) + 1).toNat = c + 1 by omega]
          rw [← e1, ← e2]
          exact dc_meas HGO.out
    · have h1 : ¬ (c : Int) ≤ (n : Int) := by omega
      have h4 : ¬ (0 : Int) < (dlen y : Int) := by omega
      have hlen := dcE_len x n c
      have hne : dcE x n c ≠ [] := by
        obtain ⟨j, rfl⟩ : ∃ j, c = j + 1 := ⟨c - 1, by omega⟩
        unfold dcE; simp
      obtain ⟨at5, ct, hsh5⟩ := OBH.out.shape
      subst hsh5
      have kr := revV OBH.out hne (by omega)
      have hy0 : y = 0 := by have := HDL.out; omega
      have HX : Hid (x / 10 ^ c = 0) := (by rw [← HY.out.1]; exact hy0 : x / 10 ^ c = 0)
      obtain ⟨L, hL⟩ : ∃ L, L = dcE x n c := ⟨_, rfl⟩
      rw [← hL] at kr
      rw [← hL]
      have HL : Hid (L = dcE x n c) := hL
      clear hL hne hlen OBH HM HDL HKB hy0
      go_wp2_with fail
      refine kr.mono ?_
      rintro r w6 ⟨rfl, hb6, hcv⟩
      have HB : Hid (Below w.heap.size w w6) := hb6
      clear kr hb6
      go_wp2
      go_ret
      exact ⟨c, by omega, HX.out, by rcases HC.out with h | h; (· exact .inl (by omega)); exact .inr h, by rw [← HL.out]; rfl, HB.out⟩
end Go.Proofs.Ytknljimmilhfkaa
/- The series at many places, as numbers. -/
namespace Go.Proofs.Ytknljimmilhfkaa
set_option linter.unusedVariables false
set_option linter.unusedSimpArgs false
open Go.RowKit

def Z0 : Nat := 4000
theorem Z0_eq : Z0 = 4000 := rfl
theorem dAt_mono {n i j : Nat} (hn : 1 ≤ n) (h : i ≤ j) : dAt n i ≤ dAt n j := by
  unfold dAt
  exact Nat.mul_le_mul (Nat.pow_le_pow_right hn (by omega)) (by omega)
theorem fac_mono {i j : Nat} (h : i ≤ j) : facN i ≤ facN j := by
  obtain ⟨k, rfl⟩ : ∃ k, j = i + k := ⟨j - i, by omega⟩
  clear h
  have hp : ∀ j, 0 < facN j := fun j => by
    cases j with
    | zero => decide
    | succ j => have := fac_ge j; have := Nat.two_pow_pos j; omega
  have h2 : ∀ k, facN i ≤ facN (i + k) := fun k => by
    induction k with
    | zero => exact Nat.le_refl _
    | succ k ih =>
      refine Nat.le_trans ih ?_
      show facN (i + k) ≤ facN (i + k) * (i + k + 1)
      exact Nat.le_mul_of_pos_right _ (by omega)
  exact h2 k
theorem sel_at {c : Nat → Bool} {D : Nat → Nat} {p j t v : Nat} (hm : ∀ i, j ≤ i → D j ≤ D i) (hj : Nat.blt (2 ^ p) (D j) = true) (ht : Nat.ble j t = true) (hv : Nat.beq (selS c D p j) v = true) : selS c D p t = v := by
  have h1 : j ≤ t := Nat.le_of_ble_eq_true ht
  obtain ⟨k, rfl⟩ : ∃ k, t = j + k := ⟨t - j, by omega⟩
  rw [sel_stop (fun i hi => Nat.lt_of_lt_of_le (Nat.le_of_ble_eq_true hj) (hm i hi)) k]
  exact Nat.eq_of_beq_eq_true hv
def nMA5 : Nat := 0x333765e5b6be5758906e1cafddc903b9df90cc11b724f6d8466b9a0534e209304d68b0a32c684cdb80900b5484f8d8ac2bd1284ef212c12e498bdd1268d6ba4c881541707ff9013f51e587e7c711046bdc795196e95d5adbb7dce6d03fb537da84d94cd19fb9a6664db60cf0361a92e6058e673164cf867ec272777c22bfaf20b7c7d14aab6dc032b556aa42bddbc14c4406367c0b5a91a00b5eef87c99df8da159d448d20c0d0a004914f08e68892ce5e85e17d9b03f070a145bf0b2501ed8f5d16243150629533153a89c34c6dffc3e7f290abd4b33a7ec5980ad86d741f76d80dffc0edf4441e5c33f22afd23915ac724fda9cff3dd33b54d4fbf8ce5f1aafd3ae04e49bd4310f7f9ff5439058eeef58d901d2d1ae80608d28602be3cdbc52db9e4d7abb7b9e16e1bd7cbd60b3437025a34be4b1c546163903b9512b6471faa96a8e871f44a53288bc643f9bc3c367c59dcc3c2efb16b73316cf006731121cf6a403e57076ffeeeca2b17725e9179ca9e03e8681beb54d1eefef04c27dd78ce97efda4352b392117379945d0c713744d4b918281c359497e6d3c5048a623ce26e3e6551fcadf5787fe4b37341b09d4c6286e00c28c3c6e42f5d663906b4507d5aff21bc600b87dd57afaffc59bc442a831003a411aa7ede4e4fb110e70c9c890c79dcde03e6f564978fa17bea391075668875
theorem eMA5 : MA Z0 5 = nMA5 := sel_at (j := 859) (fun i h => dAt_mono (by decide) h) (by decide +kernel) (by decide +kernel) (by decide +kernel)
def nMO5 : Nat := 0xaee1f3c872408cdcacd02ea2db3f495effb3c7eb7ef5091359d1c22ded14801406d5b5a30529007cde46c7575761360ec58b19bca50c808a6471d19686ccd31c07a3f57e1bf2b0c4a442589e7999fa5616f8191a48757a4a2bfffadf3dfeb22a0b8fb7ce8be7db2a087fd86a1f438241f7c59485a85403b558f365738d1ecdc390168a175b32b430c3a8cadad2833399bb11e3daefb40e8c970c761a1b51c029c172c18307f22c230e4b9c5886f01c1faa32c63d04ec521daf8c9d995bafe7421bcf96ed2fbb9e0040033d353927962b6b06f8ac39846ea5a6274f11355bc10a6227a8f22d8b75b01fca3e5d146641490672a40bb9482a281b3cd3408495a27c5d2cdce1245768ccf295deca0dcf6268c11ee0b1e765fae345ac2e6c04d3238ece48c8ebcb96ec17ac9c3a5b13b91738d0b688b8b07692931a520c3ccac9b680e6cbba518461e632e3aed2af4e10b95f5b5587238d8ebcb0db1bd3a30b3be03747ffcf7d82ae86cc65d79009a9b37d901a5c2595d336109f3ac86eb4ddd9e4e822bff775b4035636d6851219287388900106e4d6087025cef3ba327b2ee6741d80e2a2f2676641001c26263e95e89686a5dc7627bb0560e2677bb8447eee976079cc9befd5ce9d48d976cfbf93b56195f8d0e7388d99b4bb8d40ecc90acbe296d6a841825ac92cf90200d368cf2e8a6f81ad67
theorem eMO5 : MO Z0 5 = nMO5 := sel_at (j := 859) (fun i h => dAt_mono (by decide) h) (by decide +kernel) (by decide +kernel) (by decide +kernel)
def nMA239 : Nat := 0x112358e761b33fdc64c738fd0a8923f565d1ec6700d8573eb48a54fbe51c2ee2f424426b0229599fcd0f8c3fdd79c1453e057bd07fc40a3a39a11537b4807b5037f2c52188e8eed62a2c74e8aa0761ebf4118a4277b24336fd394d536e559c835f8cbfb8ce3bdb60f0d20cf123f89d51084222bed11ecaabbe94744b416286aa17f3d295b362457bd337ba33fac13ca8a235b93b8063a58ec458c3264052c7e16c9da3963c45525e3e0292faa2f7961cd320a580e1dd8141018889b38201eb6adb770e5cfb436339bca866c41e9873578fd679898f1c19c5ca3109ece96d5282c0da9220248f244bb87c45602a26f4f59a306f9440de3bec69d8ba53635712d340929b51787f6134a15d59908a6efcde604cf3fa0f8fe401eff8fb13a619dd253fb01127689830c0792d2925b750a6ca61801c64aa16ae57580227f75e1c8392c04be222c84af79e41271b133dfd6409899071960c2d8e4f7d867fb5db2e3eec96d7add7977a8368e1109e6f18bc6a4fae73f49f4a6312b6d3eba386dd3a1d8d70f3e56558e5204fe173933ac18c34e28fac2041e2ef7ea339e264086d0dfa76c4d8d52ec27d0f3970122a5cd4ca1e17c31815936f5c2fc5eb66cd5258bf79a9b2a3db2e9e7431e12abd9e89bd489bacd7c3de81f3e2202bd1c05c99683bf63641657e74ddd3b3dd33d09234a4acc51aca66877
theorem eMA239 : MA Z0 239 = nMA239 := sel_at (j := 253) (fun i h => dAt_mono (by decide) h) (by decide +kernel) (by decide +kernel) (by decide +kernel)
def nMO239 : Nat := 0x68de539b03bc0da41665cd9d4e7d1b0ba7cbdd4aab210d42e9dd918b4f9b04e0ea18ca0b0bdd9f0043148c01570fdced5624a48223f6dd99bd9f5a141537ce6bdc7378d37a21e9f3fb8e7ab9c3b1b70f63df2e469ba748657b0f9214cc7960fba5c477e36fc97f52c1cf36a783c42a187111d8e1c4205d7f2013a1bab939b691d00810bdbd2e4cd2e7902ac8fdfd59bc8916e016ce8ffb28f316912683ce66c859379d735b4f4887863c4110150453adc0c45895d5e55e36112195ae19dcf5a21f2ef0726efda5ca4454627948650b0cc28c6300741670cbf6483131360b306edaac2814b220a9b2fe0d1087170e5bf1ef377409cc3a2a619fe3ccbb701d8de0f3ce00367d28e2a11aa9cdfe19666a19d35b0cdadb34c1d6eccc8aaf22f6d925b7c0fe58d47cb9b6728a6a0c59712202f6da7bfc0f0c1e7ecf5cfc3cf8d7647481c2402dd2c9532b43848885b89ba872e79e13950bf761732a44f93a19acbfd51ef461b2e450028ce9f7d956b52b4adc51530b42f22adf7a42ce65eeafd6fda5e38a087351ae37cf5f529dd86d7b2fe30100b42f17eb8d82d166417f7d87271a5d8d917cc7ddee81b849094223fef16e0145cf8d067ad287a3a4c8c8a347069d0c86a1272378ced3ddca2cb64d4b59d29e46de3983c5ccb55104a29a3d223ec9566fdf84ab72db03b431e126cbcbd6f6b9
theorem eMO239 : MO Z0 239 = nMO239 := sel_at (j := 253) (fun i h => dAt_mono (by decide) h) (by decide +kernel) (by decide +kernel) (by decide +kernel)
def nMA3 : Nat := 0x558ba54441b1a0b3f8e30cb0925c28d38938f26c1852dc052ad55f70461bfa59a3ec0b7f004a1939eb3ddcda87b28ff11fa8b6c0aa2e9267bc1051f3597aabbce3a3bb6be95552bb65291d789d5fd2135fac9e0a247696b788838321d285afc143a90c445288f28ee6206eabd482b8ddab4a7d120c772255c6c3b102a90c2194f02d146a78b7c1fc4d2649729be58c7256b52904b658791463ba688d1aadf94189cbd2f32a1c60a2ba13b30271b8cb9e7e2549b8aa73ecad7a52ecf5195af07b68eef2e8a2b96a71f1d016364108d8d6de9a651f1a72f4d4b8c1ced9304b2e4940cfa659a3951acadc4d0c01535b81ffdb7c99e6861e84822ac2f0af33233e0664d4da4163fd8708d979dd5e2587bb717cd375f64e51e864f8a46ecea36428cf2cda819013db01fe4f9be9edd2e40811bc6297be58f78e3eff399b5db04f5d0a2eeb2fed47bf247ab8e1b2034a3d94522b0309f3bbe9848a3d98e4957a015de4c4cc913ecb12ddc99e668f4d40d79a8ebd4c72e7291b13caa5c134a5f812c9f963cf5d77cc01d1fe095c83c5da4f7cf5d8645f8ea7f31e211bc2fa987e6c3d4dc4532d3fde79eabd94f174bc671e3ac3e50cfca0bc3222e8508c935e1ac0bc5c0e8653e4bd8e7d694e57a32d529c2f7bbff53cf3664a55433b3f9f6c7131e6e6e0db3bec08c17f693f2202688c976805a717153f
theorem eMA3 : MA Z0 3 = nMA3 := sel_at (j := 1258) (fun i h => dAt_mono (by decide) h) (by decide +kernel) (by decide +kernel) (by decide +kernel)
def nMO3 : Nat := 0x32d66b7a7361c21ec0ecd1b6f9d52841740af2720f97f119a312c3d7fb982bc4ff02f9136abbd123f8ccca31dca7d9756eea05a366d7e3a579b4ba12f3a3055bba7a99f27d021a7283ccf8ffb5e4a2bfd48afd7b42499660a344d5468a64be475be37947c29b1d694cf64b2c7956046876553b18b194f7ba6531adfde93c94e13cd509e84f63bcbe3604f09ac0d1c5f207625b247b703f65adca961ef52608981d730c7c3a867d02a8e4096e8841afb6840dd7a1f55bbf8abba2210cf90143329c45ab0f7f8e729c37e298eee016e6a250c75e1940c487ccd623650db4f584d09df0263355ba303facb926c62d4b458a84b1fc80778550b84e569dcf50f22bf41b63c9875b53b95e152736c67e97e85ade4e56cf97963b552c6049af4f39b7e7575911a25b36c49011d5ffabe611f6b0a5510fda4eff56b940b92b21a4cffb701ecceb4edcf2d6cf6675f58fbf5d590760db80328e08bfa4844a6e7ffeb471456a384519c616592e47a051d5dae4eedf3bd3ea58c5f6db65a6f3da68c09c30cc7ca7059935b6c848c065748882513489f3326e2c3a87e8b4fee1893c9a2f4e78638f4f08fad4f85f5c591582aebb02dcbd3b8162cf33476530f8020b5a0600076d234f921256628fd3ec598ab429f25762e53580d66359cf4781f09651dbbf0868a7d8cc55a9a65889210a9fa5ddc89d1266844
theorem eMO3 : MO Z0 3 = nMO3 := sel_at (j := 1258) (fun i h => dAt_mono (by decide) h) (by decide +kernel) (by decide +kernel) (by decide +kernel)
def nMA9 : Nat := 0x1c71fff0ce5728c95e9c8b4c6621d7b64660aa51ff428b927381f326df21c3ad5f78899397f3c56350c6322b35066938bff65bac9454e7f417dd3bdb8aa31df57e9a04a59b92c3db8c672547ff271c80322e492982be0d44fb3d1e6a02ff95aed55c3a5538eb66e602b7973fe9d8e34f8f19165f67224a1fdb293749d9d46136ca3552eb55c75b22f6750ddd9997085d4971e04def1548ab3bc642d192655845a9712f29a2bb2de24516d49bd82d33d688f8ce42d2ef433a0a3db4a54f9f5ed800202924deb61bc2803d7dd0c0e3d6dfeedfb662586d823d087f86ad726e032653311b890be87cff36312962f3ff8e7fa962c1425d56b53e2b91e97872ca020406bfb83f9a4499e65ec4964d5ce95c84124b8135cc603264b41e51f79b827e1365d6ce7522225e14d2bcac4e7bf4198c804832111f3cdb5862202cfbbce74417e2d8bc12a5a7cfee37845fa74fd648adb65663c910fa87015360544ff5b0c86d2c7b9dbdf8e8669ec57182ad6d2b52b4ef6386d96d5aea8ff36c413d73f3054dbd81877604c0d2274bf1ad53f0014e0db6960fc5466d589985da3d5167c3eb7e3a35651ab65613adaacecf759f22cacb58ad9d4c07558c3a8056514ebaecf0dd4a483bb662e718983187cb38700e53625fbf3ff342d06d58b762bb7974489c84d4e5fa36c5f3cd9dd8b4ab172d87a8d82fe8a790
theorem eMA9 : MA Z0 9 = nMA9 := sel_at (j := 629) (fun i h => dAt_mono (by decide) h) (by decide +kernel) (by decide +kernel) (by decide +kernel)
def nMO9 : Nat := 0x1df7d6cc42f8e2c73b93a69997ca949d524ae80994554644f6a6d3d33e1ff5f150caeb267ad871c7bb68dc334088fe3507e7334beeabdba43edc6ee1087b7f93ddbd7e46160139b81c6125984ef2b995bf6a9188d7f056ef5ee6c6efb006d7933d60d6a1bd4cf4a99f5bbecad009e28ee8d8057e08248a6acfb02bb557b123ee6a9d8f0ba488b5b1a2910a62df29619a09c9da45d4fad43eaed935ff4395dafbbdad3dd01e9d9997f00a5466228c13acd40f00a601e394e2abaf26490e1358c3c066b13a4fca46d0695484715b8af2d72c487e922ffc6fb7a83f2a29963a62bbbf5901066dbc560b99a955e92c29da261e09b1aa28322d5ed593bdd813a4c8e4d294fec5d1bca9e3dbc66c437eb52680102f908e62de28e0844d7ff65c8f931f025d1db2fd992a8fe37f4234d9f7b6a45aa8bbc33fa474224ab5ad2410160d255c5084fa759188cf660f606cae7155861166b6d59dacbed8f7bd437335ad1c05720d5230c2f08cf3a044d3a9d81fb4eb7dd0fbd24c6754f45b199af0feddfb9a8471916067e0b2608a5d0400cdfe4416510103bc7dcbb8d7207a933c373237a49fcbba306f86c32d30e1de128929ba691de228a2e5ca60a8545e943faf20b5240ef5381af71a4123804dc86650f9698746752c62f5d2cb4ff7e419b65616903a96d68140d5217261819a6ffa0f66e2d7976bfc
theorem eMO9 : MO Z0 9 = nMO9 := sel_at (j := 629) (fun i h => dAt_mono (by decide) h) (by decide +kernel) (by decide +kernel) (by decide +kernel)
def nME : Nat := 0x2b7e151628aed2a6abf7158809cf4f3c762e7160f38b4da56a784d9045190cfef324e7738926cfbe5f4bf8d8d8c31d763da06c80abb1185eb4f7c7b5757f5958490cfd47d7c19bb42158d9554f7b46bced55c4d79fd5f24d6613c31c3839a2ddf8a9a276bcfbfa1c877c56284dab79cd4c2b3293d20e9e5eaf02ac60acc93ed874422a52ecb238feee5ab6add835fd1a0753d0a8f78e537d2b95bb79d8dcaec642c1e9f23b829b5c2780bf38737df8bb300d01334a0d0bd8645cbfa73a6160ffe393c48cbbbca060f0ff8ec6d31beb5cceed7f2f0bb088017163bc60df45a0ecb1bcd289b06cbbfea21ad08e1847f3f7378d56ced94640d6ef0d3d37be67008e186d1bf275b9b241deb64749a47dfdfb96632c3eb061b6472bbf84c26144e49c2d04c324ef10de513d3f5114b8b5d374d93cb8879c7d52ffd72ba0aae7277da7ba1b4af1488d8e836af14865e6c37ab6876fe690b571121382af341afe94f77bcf06c83b8ff5675f0979074ad9a787bc5b9bd4b0c5937d3ede4c3a79396215edab1f57d0b5a7db461dd8f3c75540d00121fd56e95f8c731e9c4d7221bbed0c62bb5a87804b679a0caa41d802a4604c311b71de3e5c6b400e024a6668ccf2e2de86876e4f5c50000f0a93b3aa7e6342b302a0a47373b25f73e3b26d569fe2291ad36d6a147d1060b871a2801f9783764082ff591d5
theorem eME : ME Z0 = nME := sel_at (j := 526) (fun i h => fac_mono h) (by decide +kernel) (by decide +kernel) (by decide +kernel)
def nQ2 : Nat := 0x16a09e667f3bcc908b2fb1366ea957d3e3adec17512775099da2f590b0667322a95f90608757145875163fcdfb907b6721ee950bc8738f694f0090e6c7bf44ed1a4405d0e855e3e9ca60b38c0237866f7956379222d108b148c1578e45ef89c678dab5147176fd3b99654c68663e7909bea5e241f06dcb05dd5494113208194950272956db1fa1dfbe9a74059d7927c1884c9b579aa516ca3719e6836df046d8e0209b803fc646a5e6654bd3ef7b43d7fed437c7f9444260fbd40c483ef55038583f97bbd45efb8663107145d5febe765a49e94ec7f597105fbfc2e1fa763ef01f3599c82f2fe500b848cf0bd252ae046bf9f1ef7947d46769af8c14bcc67c7c290be76929b0578c10b584fb487c924f5b71f82dcd2903609dee8912983d4eaad0eea321f7489f46a7e9030be20fb7694efb58c9984cdd70a1da9045c3d133a068423d6e38303d901ba9da3476684796c5cd5972dc0ff3540c3412942d6406101ef6fc6de9114a2b4f248c689c600bb40a8b56b041fd5de6e0dd0c66d4831fe7fff5757e4710980cdbd5c268485da5e91b3e2f205b72725b971d60a1f888f08a0a6e100ccedc2ce5bd98aee71e42e268d37a6072f220234613ffc22453439ea97a999b6c9e3ce71f94d6092ace120ab8e550e0d5511688631778cf60350d02fe85f29ec8be5c72b807af5771b825b30a0e78376a9
def nQ5 : Nat := 0x23c6ef372fe94f82be73980c0b9db906821044ed7e744e4a3f0d8d423a1831d2a4ecfe162a7a4f6fe068e08b6b7e304fe0310de125080600583ac97481e66bc6de0d5af5d2e2f0efd0b073addff7afb8cc9a64ba38a6e2d0595ba1999fbff77c2c4dc6771a096866377ee78f21b29ef3a8e389567da7b054bfd8a0ee0bc95cdcbce753723e7549b650f5c89e665d2474e79722c91c851d2eb46f03d603693b0ce9f42a10833c1d54807166a5b375a61e890b6e351dec88a541ba81b91971f345a98a29e36453b954445584d1d2ccdc950cced228bebeb10153a159a773d18d05e9f02064157d728069ce1e42c1180c35638395de3d7b9df78e4269d9e0ddb057f6fb1d63483203acbeb9195655997865d563f7d0509e5689745d0698b127473d4f0ca887e91386ff0e8559b12b5fb0f68cfa45481a131e61ba595fbd675767426a0f68d67aeaff80800320dc2ecfa818746f2544dddde556b7acd0b722b6ac52801f54d09d974ea5bbb96ba30aedaef6ca5581b3332e6d0cc08251e19a84e86b2dbd65a858f13ac9724cb0c216b72b8e335bd719c50e64c689c63ab34b32c64416349884ee3a8a9d8f1e247277f6958a8311cb2227af86a883e2b546942280e06be00df875ae1f81ac6638da8f3e9097e7397f7b2bccc9c737d7b8b613b3ab71f120bb300b903328afa889521262d98b1a716744b
end Go.Proofs.Ytknljimmilhfkaa
/- The constants' bounds by their kind, and their digits as numbers. -/
namespace Go.Proofs.Ytknljimmilhfkaa
set_option linter.unusedVariables false
set_option linter.unusedSimpArgs false
open Go.RowKit

theorem floor_brk {Z p lo hi M G u q a : Nat} (h : Brk Z p lo hi M G) (hp : p ≤ Z) (h1 : a * 2 ^ (Z + q) ≤ (M - G * 2 ^ (Z - p)) * u) (h2 : (M + G * 2 ^ (Z - p)) * u < (a + 1) * 2 ^ (Z + q)) : lo * u / 2 ^ (p + q) = a ∧ hi * u / 2 ^ (p + q) = a := by
  obtain ⟨x1, x2, x3, x4⟩ := h
  have hk := Nat.two_pow_pos (Z - p)
  have e : 2 ^ (Z + q) = 2 ^ (p + q) * 2 ^ (Z - p) := by rw [← Nat.pow_add]; congr 1; omega
  rw [e] at h1 h2
  have hP := Nat.two_pow_pos (p + q)
  generalize 2 ^ (Z - p) = K at *
  generalize 2 ^ (p + q) = P at *
  have y1 : hi * K ≤ (lo + G) * K := Nat.mul_le_mul_right _ x4
  rw [Nat.add_mul] at y1
  have y2 : M - G * K ≤ lo * K := by omega
  have y3 : hi * K ≤ M + G * K := by omega
  have l1 : a * P ≤ lo * u := by
    refine Nat.le_of_mul_le_mul_right ?_ hk
    rw [Nat.mul_assoc]
    refine Nat.le_trans h1 ?_
    rw [Nat.mul_right_comm]
    exact Nat.mul_le_mul_right _ y2
  have l2 : hi * u < (a + 1) * P := by
    refine Nat.lt_of_mul_lt_mul_right (a := K) ?_
    rw [Nat.mul_assoc (a + 1), Nat.mul_right_comm hi]
    exact Nat.lt_of_le_of_lt (Nat.mul_le_mul_right _ y3) h2
  have l3 : lo * u ≤ hi * u := Nat.mul_le_mul_right _ x3
  exact ⟨Nat.div_eq_of_lt_le l1 (by omega), Nat.div_eq_of_lt_le (by omega) l2⟩
def nPI : Nat := (nMA5 - nMO5) * 16 - (nMA239 - nMO239) * 4
theorem ePI : MPI Z0 = nPI := by unfold MPI nPI; rw [eMA5, eMO5, eMA239, eMO239]
theorem Z0_pow {p : Nat} (h : 128 ≤ p) : 2 ^ (Z0 - p) ≤ 2 ^ (Z0 - 128) := Nat.pow_le_pow_right (by decide) (by omega)
theorem lin_le {a b c k K : Nat} (hk : k ≤ K) (h : Nat.ble (a + c * K) b = true) : a + c * k ≤ b := Nat.le_trans (Nat.add_le_add_left (Nat.mul_le_mul_left _ hk) _) (Nat.le_of_ble_eq_true h)
theorem sm_of {M G : Nat} (h1 : Nat.blt M (B ^ 130) = true) (h2 : Nat.blt G B = true) : Sm M G := ⟨Nat.le_of_ble_eq_true h1, Nat.le_of_ble_eq_true h2⟩
theorem piOk {p : Nat} (h : 128 ≤ p) : PiOk Z0 p := {
  h5 := by rw [eMA5, eMO5]; exact lin_le (Z0_pow h) (by decide +kernel)
  h239 := by rw [eMA239, eMO239]; exact lin_le (Z0_pow h) (by decide +kernel)
  hd := by rw [eMA5, eMO5, eMA239, eMO239]; exact lin_le (Z0_pow h) (by decide +kernel)
  s1 := by rw [eMA5, eMO5]; exact sm_of (by decide +kernel) (by decide +kernel)
  s2 := by rw [eMA239, eMO239]; exact sm_of (by decide +kernel) (by decide +kernel)
  s3 := by rw [eMA5, eMO5]; exact sm_of (by decide +kernel) (by decide +kernel)
  s4 := by rw [eMA239, eMO239]; exact sm_of (by decide +kernel) (by decide +kernel) }
def kM : Nat → Nat
  | 1 => nPI
  | 2 => nPI
  | 3 => nPI * 2
  | 4 => nME
  | 5 => (nMA3 + nMO3) * 2
  | 6 => (nMA3 + nMO3) * 6 + (nMA9 + nMO9) * 2
  | 7 => nQ2
  | _ => nQ5 + 1 * 2 ^ Z0
def kG : Nat → Nat
  | 1 => 8100 * 16 + 8100 * 4
  | 2 => 8100 * 16 + 8100 * 4
  | 3 => (8100 * 16 + 8100 * 4) * 2
  | 4 => 8100
  | 5 => 8100 * 2
  | 6 => 8100 * 6 + 8100 * 2
  | 7 => 1
  | _ => 1 + 0
def kq : Nat → Nat
  | 2 => 1
  | 8 => 1
  | _ => 0
theorem root_at {Q n : Nat} (h1 : Nat.ble (Q * Q) (n * 2 ^ (2 * Z0)) = true) (h2 : Nat.blt (n * 2 ^ (2 * Z0)) ((Q + 1) * (Q + 1)) = true) : Q * Q ≤ n * 2 ^ (2 * Z0) ∧ n * 2 ^ (2 * Z0) < (Q + 1) * (Q + 1) := ⟨Nat.le_of_ble_eq_true h1, Nat.le_of_ble_eq_true h2⟩
theorem rq2 : nQ2 * nQ2 ≤ 2 * 2 ^ (2 * Z0) ∧ 2 * 2 ^ (2 * Z0) < (nQ2 + 1) * (nQ2 + 1) := root_at (by decide +kernel) (by decide +kernel)
theorem rq5 : nQ5 * nQ5 ≤ 5 * 2 ^ (2 * Z0) ∧ 5 * 2 ^ (2 * Z0) < (nQ5 + 1) * (nQ5 + 1) := root_at (by decide +kernel) (by decide +kernel)
theorem near_k {k p : Nat} {w : World} (h1 : 1 ≤ k) (h8 : k ≤ 8) (hp : 128 ≤ p) (hp4 : p ≤ 4000) :
    Calls Try.prog 31 #[.int .i64 k, .int .i64 p] w fun r w' => OutK Z0 p (kM k) (kG k) w ((p + kq k : Nat) : Int) r w' := by
  have hz : p ≤ Z0 := by rw [Z0_eq]; exact hp4
  have hz4 : Z0 ≤ 4000 := by rw [Z0_eq]; exact Nat.le_refl _
  obtain rfl | rfl | rfl | rfl | rfl | rfl | rfl | rfl : k = 1 ∨ k = 2 ∨ k = 3 ∨ k = 4 ∨ k = 5 ∨ k = 6 ∨ k = 7 ∨ k = 8 := by omega
  · have := near_1 (w := w) hz hz4 (piOk hp); rw [ePI] at this; exact this
  · have := near_2 (w := w) hz hz4 (piOk hp); rw [ePI] at this; exact this
  · have := near_3 (w := w) hz hz4 (piOk hp) (by rw [ePI]; exact sm_of (by decide +kernel) (by decide +kernel)); rw [ePI] at this; exact this
  · have := near_4 (w := w) hz hz4; rw [eME] at this; exact this
  · have := near_5 (w := w) hz hz4 (by rw [eMA3, eMO3]; exact sm_of (by decide +kernel) (by decide +kernel)); rw [eMA3, eMO3] at this; exact this
  · have := near_6 (w := w) hz hz4 (by rw [eMA3, eMO3]; exact sm_of (by decide +kernel) (by decide +kernel)) (by rw [eMA9, eMO9]; exact sm_of (by decide +kernel) (by decide +kernel)) (by rw [eMA3, eMO3]; exact sm_of (by decide +kernel) (by decide +kernel)) (by rw [eMA9, eMO9]; exact sm_of (by decide +kernel) (by decide +kernel)); rw [eMA3, eMO3, eMA9, eMO9] at this; exact this
  · exact near_7 (w := w) hz hz4 rq2.1 rq2.2
  · exact near_8 (w := w) hz hz4 rq5.1 rq5.2 (sm_of (by decide +kernel) (by decide +kernel)) (sm_of (by decide +kernel) (by decide +kernel))
/-- the constant's digits: so many behind the point -/
def dgX (k n : Nat) : Nat := kM k * 10 ^ n / 2 ^ (Z0 + kq k)
def chkD (k n : Nat) : Bool :=
  Nat.ble (dgX k n * 2 ^ (Z0 + kq k)) ((kM k - kG k * 2 ^ (Z0 - (128 + n * 10 / 3))) * 10 ^ n) && Nat.blt ((kM k + kG k * 2 ^ (Z0 - (128 + n * 10 / 3))) * 10 ^ n) ((dgX k n + 1) * 2 ^ (Z0 + kq k))
def allD (k : Nat) : Nat → Bool
  | 0 => true
  | n + 1 => chkD k n && allD k n
theorem allD_get {k : Nat} : ∀ {N n : Nat}, allD k N = true → n < N → chkD k n = true
  | 0, n, h, hn => absurd hn (by omega)
  | N + 1, n, h, hn => by
    unfold allD at h
    rw [Bool.and_eq_true] at h
    rcases Nat.lt_or_ge n N with h' | h'
    · exact allD_get h.2 h'
    · rw [show n = N by omega]; exact h.1
theorem allD_k {k : Nat} (h1 : 1 ≤ k) (h8 : k ≤ 8) : allD k 1001 = true ∧ Nat.blt (kM k) (10 * 2 ^ (Z0 + kq k)) = true ∧ Nat.blt (kM k) (B ^ 130) = true ∧ Nat.blt (kG k) B = true := by
  obtain rfl | rfl | rfl | rfl | rfl | rfl | rfl | rfl : k = 1 ∨ k = 2 ∨ k = 3 ∨ k = 4 ∨ k = 5 ∨ k = 6 ∨ k = 7 ∨ k = 8 := by omega
  all_goals decide +kernel
theorem dgX_small {k n : Nat} (h1 : 1 ≤ k) (h8 : k ≤ 8) : dgX k n < 10 ^ (n + 1) := by
  have h : kM k < 10 * 2 ^ (Z0 + kq k) := Nat.le_of_ble_eq_true (allD_k h1 h8).2.1
  unfold dgX
  refine (Nat.div_lt_iff_lt_mul (Nat.two_pow_pos _)).2 ?_
  rw [Nat.pow_succ, Nat.mul_assoc, Nat.mul_comm]
  exact Nat.mul_lt_mul_of_pos_left h (Nat.pow_pos (by decide))
theorem dgX_floor {k n lo hi : Nat} (h1 : 1 ≤ k) (h8 : k ≤ 8) (hn : n ≤ 1000) (h : Brk Z0 (128 + n * 10 / 3) lo hi (kM k) (kG k)) : lo * 10 ^ n / 2 ^ (128 + n * 10 / 3 + kq k) = dgX k n ∧ hi * 10 ^ n / 2 ^ (128 + n * 10 / 3 + kq k) = dgX k n := by
  have hc := allD_get (allD_k h1 h8).1 (show n < 1001 by omega)
  unfold chkD at hc
  rw [Bool.and_eq_true] at hc
  exact floor_brk h (by rw [Z0_eq]; omega) (Nat.le_of_ble_eq_true hc.1) (Nat.le_of_ble_eq_true hc.2)
end Go.Proofs.Ytknljimmilhfkaa
/- consts.Digits. -/
namespace Go.Proofs.Ytknljimmilhfkaa
set_option linter.unusedVariables false
set_option linter.unusedSimpArgs false
open Go.RowKit

set_option maxHeartbeats 4000000 in
set_option maxRecDepth 200000 in
theorem isK {k : Int} {w : World} : Calls Try.prog 14 #[.int .i64 k] w fun r w' => r = .returned (.bool (decide (1 ≤ k ∧ k ≤ 8))) ∧ w' = w := by
  by_cases h1 : 1 ≤ k
  · by_cases h2 : k ≤ 8
    · rw [decide_eq_true (⟨h1, h2⟩ : 1 ≤ k ∧ k ≤ 8)]
      go_enter Try.func14, Try.ntmps14
      go_wp2
      go_ret
      exact ⟨rfl, rfl⟩
    · rw [decide_eq_false (fun h => h2 h.2 : ¬ (1 ≤ k ∧ k ≤ 8))]
      go_enter Try.func14, Try.ntmps14
      go_wp2
      go_ret
      exact ⟨rfl, rfl⟩
  · rw [decide_eq_false (fun h => h1 h.1 : ¬ (1 ≤ k ∧ k ≤ 8))]
    go_enter Try.func14, Try.ntmps14
    go_wp2
    go_ret
    exact ⟨rfl, rfl⟩
/-- the text of a constant's digits -/
def txD (k n : Nat) : List UInt8 := (dcE (dgX k n) n (n + 1)).reverse
set_option maxHeartbeats 4000000 in
set_option maxRecDepth 200000 in
theorem dig_ok {k n : Nat} {w : World} (h1 : 1 ≤ k) (h8 : k ≤ 8) (hn : n ≤ 1000) : Calls Try.prog 30 #[.int .i64 k, .int .i64 n] w fun r w' => r = .returned (.tuple #[.string ⟨(txD k n).toArray⟩, .int .i64 0]) ∧ Below w.heap.size w w' := by
  have k1 := isK (k := k) (w := w)
  rw [decide_eq_true (⟨by omega, by omega⟩ : 1 ≤ (k : Int) ∧ (k : Int) ≤ 8)] at k1
  have k2 := bten (w := w) hn
  have HK : Hid (1 ≤ k ∧ k ≤ 8) := ⟨h1, h8⟩
  have hn1 : ¬ (n : Int) < 0 := by omega
  have hn2 : ¬ 1000 < (n : Int) := by omega
  obtain ⟨p, hp⟩ : ∃ p, p = 128 + n * 10 / 3 := ⟨_, rfl⟩
  have hpi : 128 + (n : Int) * 10 / 3 = (p : Int) := by omega
  have hp1 : 128 ≤ p := by omega
  have hp2 : p ≤ 4000 := by omega
  have HP : Hid (p = 128 + n * 10 / 3) := hp
  clear h1 h8 hp
  go_enter Try.func30, Try.ntmps30
  go_wp2_with (first | (go_at_call 14; refine k1.mono ?_; rintro r wz ⟨rfl, hwz⟩; have hwz := hwz.symm; subst hwz) | (go_at_call 46; refine k2.mono ?_; rintro r w1 ⟨a1, l1, c1, rfl, I1, hb1⟩))
  have HT : Hid (Is w1 (.slice a1 l1 c1) (10 ^ n) ∧ Below w.heap.size w w1) := ⟨I1, hb1⟩
  clear k1 k2 I1 hb1
  go_loopw [7] (fun sp wr => sp = .int .i64 p ∧ wr = w1) (fun _ _ => 0)
  case atStart => exact ⟨rfl, rfl⟩
  case round =>
    obtain ⟨rfl, rfl⟩ := hrel
    have k3 := near_k (w := wr) HK.out.1 HK.out.2 hp1 hp2
    go_wp2_with fail
    refine k3.mono ?_
    rintro r w2 ⟨lo, hi, hB, b1, m1, d1, b2, m2, d2, rfl, i1, i2, hb2⟩
    have HB : Hid (Brk Z0 p lo hi (kM k) (kG k)) := hB
    have hdl := hB.dl (K := 130) (Nat.le_of_ble_eq_true (allD_k HK.out.1 HK.out.2).2.2.1) (Nat.le_of_ble_eq_true (allD_k HK.out.1 HK.out.2).2.2.2) (by decide)
    have hdt := dl_ten n
    have hq1 : kq k ≤ 1 := by unfold kq; split <;> omega
    have k4 := bfloor (w := w2) (q := p + kq k) ⟨b1, m1, d1, b2, m2, d2, rfl, i1, i2⟩ (HT.out.1.later hb2) (by omega) (by omega) (by omega) (by omega)
    have hfl := dgX_floor (lo := lo) (hi := hi) HK.out.1 HK.out.2 hn (by rw [← HP.out]; exact hB)
    rw [← HP.out] at hfl
    rw [hfl.1, hfl.2, decide_eq_true rfl] at k4
    have HB2 : Hid (Below w.heap.size w w2) := HT.out.2.trans (hb2.mono HT.out.2.size)
    clear k3 hB i1 i2 hb2 HT hfl hdl hdt hq1
    go_wp2_with fail
    refine k4.mono ?_
    rintro r w3 ⟨e1, l3, c3, rfl, I3, hb3⟩
    have HB3 : Hid (Below w.heap.size w w3) := HB2.out.trans (hb3.mono HB2.out.size)
    have hsm := dgX_small (n := n) HK.out.1 HK.out.2
    have hdx : dlen (dgX k n) ≤ 1000000 := by
      have := (dlen_le (n + 1) _).2 (Nat.lt_of_lt_of_le hsm (Nat.pow_le_pow_left (show 10 ≤ B by decide) _))
      omega
    have k5 := bdec (n := n) (K := n + 1) I3 hdx hn hsm (by omega)
    clear k4 I3 hb3 HB2 hsm hdx
    go_wp2_with fail
    refine k5.mono ?_
    rintro r w4 ⟨C, hC1, hC2, hC3, rfl, hb4⟩
    have hC : C = n + 1 := by
      rcases hC3 with h | h
      · exact h
      · have hsm := dgX_small (n := n) HK.out.1 HK.out.2
        have := dc_bound hsm h
        omega
    subst hC
    have HB4 : Hid (Below w.heap.size w w4) := HB3.out.trans (hb4.mono HB3.out.size)
    clear k5 hb4 HB3 hC1 hC2 hC3
    go_wp2_with fail
    refine bodyPost_ret (results_tmp2 rfl _ _ _) rfl ?_
    exact ⟨rfl, HB4.out⟩
end Go.Proofs.Ytknljimmilhfkaa
/- Fewer digits are a beginning of more: texts. -/
namespace Go.Proofs.Ytknljimmilhfkaa
set_option linter.unusedVariables false
set_option linter.unusedSimpArgs false
open Go.RowKit

def dgb (x i : Nat) : UInt8 := UInt8.ofNat (48 + x / 10 ^ i % 10)
def dgs (x : Nat) : Nat → List UInt8
  | 0 => []
  | c + 1 => dgb x c :: dgs x c
theorem dcE_rev {x n : Nat} : ∀ {c}, c ≤ n → (dcE x n c).reverse = dgs x c
  | 0, _ => rfl
  | c + 1, h => by
    unfold dcE dgs
    rw [if_neg (by omega), List.append_nil, List.reverse_append, dcE_rev (show c ≤ n by omega)]
    rfl
theorem txD_eq (k n : Nat) : txD k n = dgb (dgX k n) n :: ((if 0 < n then [UInt8.ofNat 46] else []) ++ dgs (dgX k n) n) := by
  unfold txD
  conv => lhs; unfold dcE
  rw [List.reverse_append, List.reverse_append, dcE_rev (Nat.le_refl _)]
  by_cases h : 0 < n
  · rw [if_pos ⟨rfl, h⟩, if_pos h]; rfl
  · rw [if_neg (fun e => h e.2), if_neg h]; rfl
theorem txD_pi5 : txD 1 5 = [51, 46, 49, 52, 49, 53, 57] := by
  have : dgX 1 5 = 314159 := Nat.eq_of_beq_eq_true (by decide +kernel)
  rw [txD_eq, this]
  decide
end Go.Proofs.Ytknljimmilhfkaa
/- The first digits of a number. -/
namespace Go.Proofs.Ytknljimmilhfkaa
set_option linter.unusedVariables false
set_option linter.unusedSimpArgs false
open Go.RowKit

theorem brk_drop {Z p lo hi M G d a : Nat} (h : Brk Z p lo hi M G) (h1 : a * 2 ^ d * 2 ^ (Z - p) ≤ M - G * 2 ^ (Z - p)) (h2 : M + G * 2 ^ (Z - p) < (a + 1) * 2 ^ d * 2 ^ (Z - p)) : lo / 2 ^ d = a ∧ hi / 2 ^ d = a := by
  obtain ⟨x1, x2, x3, x4⟩ := h
  have hk := Nat.two_pow_pos (Z - p)
  generalize 2 ^ (Z - p) = K at *
  have y1 : hi * K ≤ (lo + G) * K := Nat.mul_le_mul_right _ x4
  rw [Nat.add_mul] at y1
  have l1 : a * 2 ^ d ≤ lo := Nat.le_of_mul_le_mul_right (Nat.le_trans h1 (by omega)) hk
  have l2 : hi < (a + 1) * 2 ^ d := Nat.lt_of_mul_lt_mul_right (a := K) (Nat.lt_of_le_of_lt (by omega) h2)
  exact ⟨Nat.div_eq_of_lt_le l1 (by omega), Nat.div_eq_of_lt_le (by omega) l2⟩
theorem bl_drop {x d a : Nat} (h : x / 2 ^ d = a) (h1 : 2 ^ 52 ≤ a) (h2 : a < 2 ^ 53) : bl x = d + 53 := by
  have hp := Nat.two_pow_pos d
  have e := Nat.div_add_mod x (2 ^ d)
  have hm := Nat.mod_lt x hp
  rw [h] at e
  have b1 : 2 ^ d * 2 ^ 52 ≤ 2 ^ d * a := Nat.mul_le_mul_left _ h1
  have b2 : 2 ^ d * (a + 1) ≤ 2 ^ d * 2 ^ 53 := Nat.mul_le_mul_left _ h2
  rw [← Nat.pow_add] at b1 b2
  rw [Nat.mul_add, Nat.mul_one] at b2
  exact bl_eq (by omega) (.inr (by rw [show d + 53 - 1 = d + 52 by omega]; omega))
set_option maxHeartbeats 4000000 in
set_option maxRecDepth 200000 in
theorem bhigh {A : Value} {x d a : Nat} {w : World} (h : Is w A x) (hx : dlen x ≤ 1000000) (hb : bl x = d + 53) (ha : x / 2 ^ d = a) (ha2 : a < 2 ^ 53) (hd : d ≤ 1000000) :
    Calls Try.prog 58 #[A] w fun r w' => r = .returned (.tuple #[.int .u64 a, .int .i64 d]) ∧ Below w.heap.size w w' := by
  obtain ⟨a1, n1, c1, rfl⟩ := h.shape
  have k1 := c74 h (by omega)
  rw [hb] at k1
  have hm : max (0 : Int) ((d + 53 : Nat) - 53) = d := by omega
  have he : ((d + 53 : Nat) : Int) - 53 = (d : Int) := by omega
  have hm2 : max (0 : Int) (d : Int) = d := by omega
  have k2 := c120 h d (by omega) (by omega)
  rw [ha] at k2
  have HA : Hid (dlen a ≤ 2) := (dlen_le 2 a).2 (Nat.lt_of_lt_of_le ha2 (by decide))
  clear h hx hb ha ha2
  go_enter Try.func58, Try.ntmps58
  go_wp2_with (first | (go_at_call 76; refine k1.mono ?_; rintro r wz ⟨rfl, hwz⟩; have hwz := hwz.symm; subst hwz))
  refine k2.mono ?_
  rintro r w2 ⟨v2, rfl, hO, hb2⟩
  have k3 := cword v2 a (dlen a) w2 hO.is rfl HA.out
  have HB : Hid (Below w.heap.size w w2) := hb2
  clear k1 k2 hO hb2 hm hm2 he
  go_wp2_with fail
  refine k3.mono ?_
  rintro r wz ⟨rfl, hwz⟩
  have hwz := hwz.symm
  subst hwz
  go_wp2_with fail
  refine bodyPost_ret (results_tmp2 rfl _ _ _) rfl ?_
  exact ⟨rfl, HB.out⟩
end Go.Proofs.Ytknljimmilhfkaa
