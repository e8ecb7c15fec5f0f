/- Own work: contracts of the program's functions, part 14: VR8 VR7 VRA DL5 PV FM FM2 F1 F2 F6 F7 FM3 FM4 FM5 RT0 RT1 VR9 VRB. -/
import Derived.Test.YtbmaoiemgepppaaGreatDoorA12
import Derived.Test.YtbmaoiemgepppaaGreatDoorA13
import Derived.Test.YtbmaoiemgepppaaGreatDoorA5
import Derived.Test.YtbmaoiemgepppaaGreatDoorA7
import Derived.Test.YtbmaoiemgepppaaGreatDoorA1
import Derived.Test.YtbmaoiemgepppaaGreatDoorA4
import Derived.Laws.FloatArith
import Derived.Test.YtbmaoiemgepppaaGreatDoorA11
import Derived.Great.BuildSlice

/- What Read calls of the library, at hand; the program's Read. -/
namespace Go.Proofs.YtbmaoiemgepppaaGreatDoor
set_option linter.unusedVariables false
set_option linter.unusedSimpArgs false
open Go Go.RowKit Go.Fl64

theorem below_freeze {Bp : Nat} {a w : World} (h : Below Bp a w) {p : Addr} (hp : Bp ≤ p.block) (n : Nat) : Below Bp a (w.freeze p n) := by
  unfold World.freeze
  split
  · exact h
  · refine ⟨h.os, h.tape, h.output, by rw [Array.size_modify]; exact h.size, fun b hb => ?_⟩
    rw [← h.block b hb]
    simp only [Array.getElem?_modify]
    rw [if_neg (by omega)]
theorem below_bytes (w : World) (e : TypeId) (t : ByteArray) : Below w.heap.size w (Lib.bytesWorld w e t) := by
  unfold Lib.bytesWorld
  exact below_freeze (((Below.refl _ _).drew).alloc (Nat.le_refl _) _) (Nat.le_refl _) _
theorem teS : TeS := by
  intro s w hs hS
  obtain ⟨ev, h1, h2⟩ := hS
  refine (Tryz.strconv_toError_syntax ⟨#[80, 97, 114, 115, 101, 85, 105, 110, 116]⟩ s 16 32 ev w (by omega) h1 h2).mono ?_
  rintro r w' ⟨N, rfl, -, -, hb⟩
  exact ⟨⟨_, _, rfl⟩, hb⟩
theorem ixS : IxS := fun s w => Tryz.stringslite_Index_one s 112 w
/-- a text without its sign -/
def bdS (s : ByteArray) : ByteArray := ⟨(Lib.trimPrefix s.data.toList [45]).toArray⟩
def ngS (s : ByteArray) : Bool := Lib.hasPrefix s.data.toList [45]
/-- the whole number that a text is -/
def avS (s : ByteArray) : Option Int := match Lib.atoiAll s.data.toList with | .ok v => some v | _ => none
theorem cpS : CpS bdS ngS := fun s w => Tryz.strings_CutPrefix s ⟨#[45]⟩ w
theorem bdS_size (s : ByteArray) : (bdS s).size ≤ s.size := by
  have h1 : (bdS s).size = (Lib.trimPrefix s.data.toList [45]).length := by unfold bdS; exact List.size_toArray
  have h2 : s.data.toList.length = s.size := by rw [Array.length_toList]; rfl
  rw [h1]
  unfold Lib.trimPrefix
  split
  · rw [List.length_drop]; omega
  · omega
theorem atS : AtS avS := by
  intro s w hs hS hR
  obtain ⟨ev, h1, h2⟩ := hS
  obtain ⟨er, g1, g2⟩ := hR
  unfold avS
  cases h : Lib.atoiAll s.data.toList with
  | ok v =>
    refine (Tryz.strconv_Atoi_ok s (by omega) v h w).mono ?_
    rintro r w' ⟨rfl, h3⟩
    refine ⟨rfl, ?_⟩
    rcases h3 with rfl | ⟨t, rfl⟩
    · exact Below.refl _ _
    · exact below_bytes _ _ _
  | «syntax» =>
    refine (Tryz.strconv_Atoi_syntax s (by omega) h ev w h1 h2).mono ?_
    rintro r w' ⟨N, rfl, -, -, hb⟩
    exact ⟨⟨_, _, _, rfl⟩, hb⟩
  | range =>
    refine (Tryz.strconv_Atoi_range s (by omega) h er w g1 g2).mono ?_
    rintro r w' ⟨N, rfl, -, -, hb⟩
    exact ⟨⟨_, _, _, rfl⟩, hb⟩
/-- the number that the program reads out of a text -/
def pRd (s : ByteArray) : Option (Bool × Nat × Int) := rdT bdS ngS avS s
theorem pread_ok (s : ByteArray) (w : World) (hs : s.size ≤ 9223372036854775807) (hI : Ie.Tab w) (h10 : Tab10 w) (hS : SenS w) (hR : SenR w) :
    Calls Tryz.prog 4 #[.string s] w fun r w' => (match pRd s with
      | some t => ∃ ao cap, r = .returned (.tuple #[.agg #[.bool t.1, .slice ao (dlen t.2.1) cap, .int .i64 t.2.2], .int .i64 0]) ∧ Own w' (w.heap.size + 1) (.slice ao (dlen t.2.1) cap) t.2.1
      | none => r = .returned (.tuple #[.agg #[.bool false, .slice none 0 0, .int .i64 0], .int .i64 3])) ∧ Below w.heap.size w w' :=
  pread teS ixS cpS atS bdS_size s w hs hI h10 hS hR
end Go.Proofs.YtbmaoiemgepppaaGreatDoor
/- The document's digit. -/
namespace Go.Proofs.YtbmaoiemgepppaaGreatDoor
set_option linter.unusedVariables false
set_option linter.unusedSimpArgs false
open Go Go.RowKit Go.Fl64

/-- the document's digit: -1 where the byte is none -/
def dgR (c : Nat) : Int := if 48 ≤ c ∧ c ≤ 57 then (c : Int) - 48 else if 97 ≤ c ∧ c ≤ 102 then (c : Int) - 87 else -1

set_option maxRecDepth 200000 in
theorem rdigit (c : Nat) (hc : c < 256) (w : World) :
    Calls Tryz.prog 15 #[.int .u8 (c : Int)] w fun r w' => r = .returned (.int .i64 (dgR c)) ∧ w' = w := by
  by_cases h1 : 48 ≤ c ∧ c ≤ 57
  · have e1 : dgR c = ((c - 48 : Nat) : Int) := by unfold dgR; rw [if_pos h1]; omega
    rw [e1]
    obtain ⟨d, hd⟩ : ∃ d, d = c - 48 := ⟨_, rfl⟩
    rw [← hd]
    have q1 : (48 : Int) ≤ (c : Int) := by omega
    have q2 : (c : Int) ≤ 57 := by omega
    have q3 : IntKind.u8.wrap ((c : Int) - 48) = (d : Int) := by rw [IntKind.wrap_u8]; omega
    have q4 : d ≤ 9 := by omega
    clear hd h1 e1
    go_enter Tryz.func15, Tryz.ntmps15
    go_wp2
    go_ret
    exact ⟨rfl, rfl⟩
  · by_cases h2 : 97 ≤ c ∧ c ≤ 102
    · have e1 : dgR c = ((c - 97 : Nat) : Int) + 10 := by unfold dgR; rw [if_neg h1, if_pos h2]; omega
      rw [e1]
      obtain ⟨d, hd⟩ : ∃ d, d = c - 97 := ⟨_, rfl⟩
      rw [← hd]
      have q1 : (48 : Int) ≤ (c : Int) := by omega
      have q2 : ¬ (c : Int) ≤ 57 := by omega
      have q5 : (97 : Int) ≤ (c : Int) := by omega
      have q6 : (c : Int) ≤ 102 := by omega
      have q3 : IntKind.u8.wrap ((c : Int) - 97) = (d : Int) := by rw [IntKind.wrap_u8]; omega
      have q4 : d ≤ 9 := by omega
      clear hd h1 e1 h2
      go_enter Tryz.func15, Tryz.ntmps15
      go_wp2
      go_ret
      exact ⟨rfl, rfl⟩
    · have e1 : dgR c = -1 := by unfold dgR; rw [if_neg h1, if_neg h2]
      rw [e1]
      have q1 : (48 : Int) ≤ (c : Int) ∧ ¬ (c : Int) ≤ 57 ∨ ¬ (48 : Int) ≤ (c : Int) := by omega
      have q2 : (97 : Int) ≤ (c : Int) ∧ ¬ (c : Int) ≤ 102 ∨ ¬ (97 : Int) ≤ (c : Int) := by omega
      clear h1 h2 e1
      rcases q1 with ⟨q1, q3⟩ | q1 <;> rcases q2 with ⟨q2, q4⟩ | q2
      all_goals
        go_enter Tryz.func15, Tryz.ntmps15
        go_wp2
        go_ret
        exact ⟨rfl, rfl⟩
end Go.Proofs.YtbmaoiemgepppaaGreatDoor
/- Texts of numbers, in numbers: what both readers make of a text that tells a number. -/
namespace Go.Proofs.YtbmaoiemgepppaaGreatDoor
set_option linter.unusedVariables false
set_option linter.unusedSimpArgs false
open Go Go.RowKit Go.Fl64

/-- a number in base 16; "0" of 0 -/
def hexZ (v : Nat) : List UInt8 := if v = 0 then [48] else hexN v
def hxV (l : List UInt8) : Nat := l.foldl (fun a b => a * 16 + dgB b.toNat) 0
def dcV (l : List UInt8) : Nat := l.foldl (fun a b => a * 10 + (b.toNat - 48)) 0
theorem hxV_snoc (l : List UInt8) (b : UInt8) : hxV (l ++ [b]) = hxV l * 16 + dgB b.toNat := by simp [hxV]
theorem dcV_snoc (l : List UInt8) (b : UInt8) : dcV (l ++ [b]) = dcV l * 10 + (b.toNat - 48) := by simp [dcV]
theorem hx_facts {d : Nat} (h : d < 16) : (UInt8.ofNat (hx d)).toNat = hx d ∧ dgB (hx d) = d ∧ dgR (hx d) = (d : Int) ∧ hx d ≠ 112 ∧ hx d ≠ 45 ∧ hx d < 256 := by
  have : ∀ d : Fin 16, (UInt8.ofNat (hx d.val)).toNat = hx d.val ∧ dgB (hx d.val) = d.val ∧ dgR (hx d.val) = (d.val : Int) ∧ hx d.val ≠ 112 ∧ hx d.val ≠ 45 ∧ hx d.val < 256 := by decide +kernel
  exact this ⟨d, h⟩
/-- the bytes of such a number -/
def DgH (b : UInt8) : Prop := ∃ d, d < 16 ∧ b.toNat = hx d
theorem hexN_dgH (v : Nat) : ∀ b ∈ hexN v, DgH b := by
  induction v using Nat.strongRecOn with
  | _ v ih =>
    intro b hb
    by_cases h0 : v = 0
    · subst h0; rw [hexN_zero] at hb; cases hb
    · rw [hexN_pos h0] at hb
      rcases List.mem_append.1 hb with h | h
      · exact ih _ (by omega) b h
      · obtain rfl := List.mem_singleton.1 h
        exact ⟨v % 16, Nat.mod_lt _ (by decide), (hx_facts (Nat.mod_lt _ (by decide))).1⟩
theorem hexN_val (v : Nat) : hxV (hexN v) = v := by
  induction v using Nat.strongRecOn with
  | _ v ih =>
    by_cases h0 : v = 0
    · subst h0; rw [hexN_zero]; rfl
    · have h1 := hx_facts (Nat.mod_lt v (show 0 < 16 by decide))
      rw [hexN_pos h0, hxV_snoc, ih _ (by omega), h1.1, h1.2.1]
      omega
theorem hexZ_dg (v : Nat) : ∀ b ∈ hexZ v, DgH b := by
  unfold hexZ
  split
  · intro b hb
    obtain rfl := List.mem_singleton.1 hb
    exact ⟨0, by decide, by decide⟩
  · exact hexN_dgH v
theorem hexZ_val (v : Nat) : hxV (hexZ v) = v := by
  unfold hexZ
  split
  · rename_i h; rw [h]; decide
  · exact hexN_val v
theorem hexZ_ne (v : Nat) : hexZ v ≠ [] := by
  unfold hexZ
  split
  · simp
  · rename_i h; exact fun e => h (hexN_nil.1 e)
theorem dec_dg (u : Nat) : ∀ b ∈ Lib.decDigits u, 48 ≤ b.toNat ∧ b.toNat ≤ 57 := by
  induction u using Nat.strongRecOn with
  | _ u ih =>
    have key : ∀ d, d < 10 → 48 ≤ (UInt8.ofNat (48 + d)).toNat ∧ (UInt8.ofNat (48 + d)).toNat ≤ 57 := fun d hd => by
      have : ∀ d : Fin 10, 48 ≤ (UInt8.ofNat (48 + d.val)).toNat ∧ (UInt8.ofNat (48 + d.val)).toNat ≤ 57 := by decide +kernel
      exact this ⟨d, hd⟩
    intro b hb
    rw [Lib.decDigits] at hb
    split at hb
    · obtain rfl := List.mem_singleton.1 hb
      exact key u (by omega)
    · rcases List.mem_append.1 hb with h | h
      · exact ih _ (by omega) b h
      · obtain rfl := List.mem_singleton.1 h
        exact key _ (Nat.mod_lt _ (by decide))
theorem dec_val (u : Nat) : dcV (Lib.decDigits u) = u := by
  induction u using Nat.strongRecOn with
  | _ u ih =>
    have key : ∀ d, d < 10 → (UInt8.ofNat (48 + d)).toNat - 48 = d := fun d hd => by
      have : ∀ d : Fin 10, (UInt8.ofNat (48 + d.val)).toNat - 48 = d.val := by decide +kernel
      exact this ⟨d, hd⟩
    rw [Lib.decDigits]
    split
    · rename_i h
      show dcV ([] ++ [_]) = u
      rw [dcV_snoc, key u h]
      show 0 * 10 + u = u
      omega
    · rw [dcV_snoc, ih _ (by omega), key _ (Nat.mod_lt _ (by decide))]
      omega
theorem dec_ne (u : Nat) : Lib.decDigits u ≠ [] := by
  rw [Lib.decDigits]
  split <;> simp
theorem dc_mono : ∀ (l : List UInt8) (a : Nat), a ≤ l.foldl (fun a b => a * 10 + (b.toNat - 48)) a
  | [], a => Nat.le_refl _
  | b :: l, a => Nat.le_trans (show a ≤ a * 10 + (b.toNat - 48) by omega) (dc_mono l _)
theorem parse_ok : ∀ (l : List UInt8) (a : Nat), (∀ b ∈ l, 48 ≤ b.toNat ∧ b.toNat ≤ 57) → l.foldl (fun a b => a * 10 + (b.toNat - 48)) a < 1000000 → Lib.parseUint10 a l = .ok (l.foldl (fun a b => a * 10 + (b.toNat - 48)) a)
  | [], a, _, _ => rfl
  | b :: l, a, hd, hlt => by
    have h1 := hd b (List.mem_cons_self ..)
    have h2 := dc_mono l (a * 10 + (b.toNat - 48))
    rw [List.foldl_cons] at hlt ⊢
    rw [Lib.parseUint10, if_pos h1, if_neg (by omega), if_neg (by omega)]
    exact parse_ok l _ (fun c hc => hd c (List.mem_cons_of_mem _ hc)) hlt
theorem atoi_itoa (e : Int) (h1 : -65536 ≤ e) (h2 : e ≤ 65536) : Lib.atoiAll (Lib.itoa e) = .ok e := by
  have hp : ∀ u : Nat, u ≤ 65536 → Lib.parseMag (Lib.decDigits u) = .ok u := fun u hu => by
    unfold Lib.parseMag
    rw [if_neg (dec_ne u), parse_ok _ 0 (dec_dg u) (by have := dec_val u; unfold dcV at this; rw [this]; omega)]
    have := dec_val u
    unfold dcV at this
    rw [this]
  unfold Lib.itoa
  by_cases hn : e < 0
  · rw [if_pos hn]
    have h3 := hp e.natAbs (by omega)
    unfold Lib.atoiAll
    have h4 : (if (45 : UInt8).toNat = 43 ∨ (45 : UInt8).toNat = 45 then Lib.decDigits e.natAbs else 45 :: Lib.decDigits e.natAbs) = Lib.decDigits e.natAbs := if_pos (Or.inr rfl)
    simp only [h4, h3]
    rw [if_neg (by intro h; exact h.1 rfl), if_neg (by omega), if_pos (by rfl)]
    congr 1
    omega
  · rw [if_neg hn]
    have h3 := hp e.toNat (by omega)
    cases hl : Lib.decDigits e.toNat with
    | nil => exact absurd hl (dec_ne _)
    | cons c r =>
      have hc := dec_dg e.toNat c (by rw [hl]; exact List.mem_cons_self ..)
      rw [hl] at h3
      unfold Lib.atoiAll
      have h4 : (if c.toNat = 43 ∨ c.toNat = 45 then r else c :: r) = c :: r := if_neg (by omega)
      simp only [h4, h3]
      rw [if_neg (by omega), if_neg (by omega), if_neg (by omega)]
      congr 1
      omega
/-- the text of a number that may be -/
theorem shT_form {t : Bool × Nat × Int} (h : Ok t) : shT t = ⟨((if t.1 then [45] else []) ++ hexZ t.2.1 ++ 112 :: Lib.itoa t.2.2).toArray⟩ := by
  have hf := h.facts
  obtain ⟨s, x, e⟩ := t
  simp only at hf ⊢
  unfold shT
  simp only
  rw [if_pos (show okN s (dlen x) x e = true from h)]
  by_cases x0 : x = 0
  · have h3 := hf.2.2.2.1 x0
    injection h3 with h4 h5
    injection h5 with h5 h6
    subst h4; subst h5; subst h6
    rw [if_pos rfl]
    unfold hexZ
    rw [if_pos rfl]
    have : Lib.itoa 0 = [48] := by decide +kernel
    rw [this]
    rfl
  · rw [if_neg x0]
    unfold hexZ
    rw [if_neg x0]
theorem shT_no {t : Bool × Nat × Int} (h : ¬ Ok t) : shT t = ⟨#[]⟩ := by
  unfold shT
  rw [if_neg (show ¬ okN t.1 (dlen t.2.1) t.2.1 t.2.2 = true from h)]
theorem list_of {l : List UInt8} : ((⟨l.toArray⟩ : ByteArray)).data.toList = l := by simp
theorem btA_list (s : ByteArray) (i : Nat) : btA s i = (s.data.toList[i]?.getD 0).toNat := by
  unfold btA
  rw [Array.getElem?_toList]
theorem size_list (s : ByteArray) : s.size = s.data.toList.length := by rw [Array.length_toList]; rfl
end Go.Proofs.YtbmaoiemgepppaaGreatDoor
/- Several values made at once, and then one last operation. -/
namespace Go.Proofs.YtbmaoiemgepppaaGreatDoor
set_option linter.unusedVariables false
set_option linter.unusedSimpArgs false
open Go.RowKit

structure ParL (W0 : World) (a0 : Act) (m : Nat) (slot : Nat → Tmp) (V : Nat → World → Value → Prop) (listed : Array Bool) (a : Act) (w : World) : Prop where
  below : Below W0.heap.size W0 w
  size : a.tmps.size = a0.tmps.size
  defers : a.defers = a0.defers
  other : ∀ s, (∀ j, j < m → s ≠ slot j) → a.tmps[s]? = a0.tmps[s]?
  val : ∀ j, j < m → listed.getD j false = true → ∃ u, a.tmps[slot j]? = some u ∧ V j w u

theorem parl_region {P : Program} {ops : Array Oper} {Q : Exit → Act → World → Prop} {id : Nat} (hm : P.follows .mixedOrders = true) (m : Nat) (slot : Nat → Tmp) (dep : Nat → List Nat)
    (W0 : World) (a0 : Act) (V : Nat → World → Value → Prop) (hsz : ops.size = m + 1)
    (hord : ∀ (i : Nat) (o : Oper), ops[i]? = some o → ∀ e ∈ o.after, e.on < i)
    (hV1 : ∀ j w w' u, Below w.heap.size w w' → V j w u → V j w' u)
    (hdep : ∀ j, j < m → ∀ j' ∈ dep j, j' < m ∧ ∀ o, ops[j]? = some o → ∃ e ∈ o.after, e.on = j' ∧ Region.binds .any e = true)
    (hA : ∀ j, j < m → ∀ (a : Act) (w : World), Below W0.heap.size W0 w → (∀ s, (∀ j, j < m → s ≠ slot j) → a.tmps[s]? = a0.tmps[s]?) →
      (∀ j' ∈ dep j, ∃ u, a.tmps[slot j']? = some u ∧ V j' w u) → wpOp P ops Q j (fun a' w' => ∃ u, a' = a.put (some (slot j)) u ∧ V j w' u ∧ Below w.heap.size w w') a w)
    (hlast : ∀ o, ops[m]? = some o → ∀ j, j < m → ∃ e ∈ o.after, e.on = j ∧ Region.binds .any e = true)
    (hin : ∀ j, j < m → slot j < a0.tmps.size)
    (hinj : ∀ j j', j < m → j' < m → slot j = slot j' → j = j')
    (hL : ∀ (u : Nat → Value) (a : Act) (w : World), Below W0.heap.size W0 w → (∀ j, j < m → a.tmps[slot j]? = some (u j) ∧ V j w (u j)) →
      a.tmps.size = a0.tmps.size → a.defers = a0.defers → (∀ s, (∀ j, j < m → s ≠ slot j) → a.tmps[s]? = a0.tmps[s]?) → wpOp P ops Q m (fun a' w' => Q .normal a' w') a w) :
    (Code.region id ops true).wp P Q a0 W0 := by
  refine wp_region_any hm ?_
  refine wpAny_inv (fun listed a w => (listed.getD m false = false ∧ ParL W0 a0 m slot V listed a w) ∨ ((∀ i, i < m + 1 → listed.getD i false = true) ∧ Q .normal a w)) ?_ ?_ ops.size _ a0 _ (by simp) ?_ (by simp)
  · intro listed a w i hl hI hr
    obtain ⟨hun, o, ho, hall⟩ := mem_ready.1 hr
    have hunf := not_listed hun
    have hio : i < ops.size := (Array.getElem?_eq_some_iff.1 ho).1
    have hil : i < listed.size := by omega
    have hset := listed_set hil
    have hne : ∀ x, x ≠ i → (listed.setIfInBounds i true).getD x false = listed.getD x false := fun x hx => getD_set_ne false (Ne.symm hx)
    rcases hI with ⟨hm0, hI⟩ | ⟨hfull, -⟩
    · by_cases him : i < m
      · refine wpOp_mono ?_ (hA i him a w hI.below hI.other fun j' hj' => ?_)
        · rintro a' w' ⟨u, rfl, hu, hb⟩
          have hlt : slot i < a.tmps.size := by rw [hI.size]; exact hin i him
          refine .inl ⟨by rw [hne m (by omega)]; exact hm0, hI.below.trans (hb.mono hI.below.size), by rw [put_size]; exact hI.size, by rw [put_defers]; exact hI.defers, fun s h1 => ?_, fun j hj h1 => ?_⟩
          · rw [put_get_ne (h1 i him)]; exact hI.other s h1
          · by_cases e : j = i
            · subst e; exact ⟨u, put_get hlt, hu⟩
            · rw [hne j e] at h1
              obtain ⟨u', g1, g2⟩ := hI.val j hj h1
              exact ⟨u', by rw [put_get_ne (fun e2 => e (hinj j i hj him e2))]; exact g1, hV1 _ _ _ _ hb g2⟩
        · obtain ⟨h1, h2⟩ := hdep i him j' hj'
          obtain ⟨e, he, rfl, hbd⟩ := h2 o ho
          exact hI.val _ h1 (hall e he hbd)
      · obtain rfl : i = m := by omega
        have hl2 : ∀ j, j < i → listed.getD j false = true := fun j hj => by
          obtain ⟨e, he, rfl, hbd⟩ := hlast o ho j hj
          exact hall e he hbd
        have hval : ∀ j, ∃ u, j < i → a.tmps[slot j]? = some u ∧ V j w u := fun j => by
          by_cases hj : j < i
          · obtain ⟨u, h1, h2⟩ := hI.val j hj (hl2 j hj)
            exact ⟨u, fun _ => ⟨h1, h2⟩⟩
          · exact ⟨undef, fun h => absurd h hj⟩
        obtain ⟨u, hu⟩ := Classical.axiomOfChoice hval
        refine wpOp_mono ?_ (hL u a w hI.below hu hI.size hI.defers hI.other)
        intro a' w' hq
        refine .inr ⟨fun j hj => ?_, hq⟩
        by_cases e : j = i
        · rw [e]; exact hset
        · rw [hne j e]; exact hl2 j (by omega)
    · rw [hfull i (by omega)] at hunf
      cases hunf
  · intro listed a w hl hI hr
    rcases hI with ⟨hm0, hI⟩ | ⟨-, hq⟩
    · exfalso
      have hfull : ∀ i, i < ops.size → listed.getD i false = true := by
        intro i
        induction i using Nat.strongRecOn with
        | _ i ih =>
          intro hi
          cases hx : listed.getD i false with
          | true => rfl
          | false =>
            exfalso
            have ho : ops[i]? = some ops[i] := Array.getElem?_eq_getElem hi
            have : i ∈ Region.ready .any ops listed := by
              refine mem_ready.2 ⟨?_, ops[i], ho, fun e he _ => ih e.on (hord i _ ho e he) (Nat.lt_trans (hord i _ ho e he) hi)⟩
              have hil : i < listed.size := by omega
              simp only [Array.getD_eq_getD_getElem?, Array.getElem?_eq_getElem hil, Option.getD_some] at hx ⊢
              exact hx
            rw [hr] at this
            cases this
      rw [hfull m (by omega)] at hm0
      cases hm0
    · exact hq
  · have h0 : ∀ x, (Array.replicate ops.size false).getD x false = true → False := fun x h => by
      simp [Array.getD_eq_getD_getElem?, Array.getElem?_replicate] at h
      split at h <;> simp at h
    refine .inl ⟨?_, (Below.refl _ _).drew, rfl, rfl, fun _ _ => rfl, fun j _ h => (h0 _ h).elim⟩
    cases hx : (Array.replicate ops.size false).getD m false with
    | false => rfl
    | true => exact (h0 _ hx).elim
end Go.Proofs.YtbmaoiemgepppaaGreatDoor
/- A region that makes values in any order and ends in one operation: all that can be looked up in its list is looked up by one Boolean. -/
namespace Go.Proofs.YtbmaoiemgepppaaGreatDoor
set_option linter.unusedVariables false
set_option linter.unusedSimpArgs false
open Go.RowKit

def vhas (o : Oper) (j : Nat) : Bool := o.after.any fun e => e.on == j && Region.binds .any e
def vrow (m sl : Nat) (dep : Nat → List Nat) (i : Nat) (o : Oper) : Bool :=
  o.after.all (fun e => decide (e.on < i)) && o.guard.isNone && (i == m || o.dst == some (sl + i)) && ((if i == m then List.range m else dep i).all fun j => decide (j < m) && vhas o j)
def vchk (ops : Array Oper) (m sl : Nat) (dep : Nat → List Nat) : Bool :=
  ops.size == m + 1 && (List.range (m + 1)).all fun i => match ops[i]? with | some o => vrow m sl dep i o | none => false
theorem vhas_ex {o : Oper} {j : Nat} (h : vhas o j = true) : ∃ e ∈ o.after, e.on = j ∧ Region.binds .any e = true := by
  unfold vhas at h
  obtain ⟨i, hi, h2⟩ := Array.any_eq_true.1 h
  rw [Bool.and_eq_true, beq_iff_eq] at h2
  exact ⟨_, Array.getElem_mem hi, h2.1, h2.2⟩
theorem vchk_row {ops : Array Oper} {m sl : Nat} {dep : Nat → List Nat} (h : vchk ops m sl dep = true) {i : Nat} {o : Oper} (ho : ops[i]? = some o) : i < m + 1 ∧ vrow m sl dep i o = true := by
  unfold vchk at h
  rw [Bool.and_eq_true, beq_iff_eq] at h
  have hi : i < m + 1 := by have := (Array.getElem?_eq_some_iff.1 ho).1; omega
  have h1 := List.all_eq_true.1 h.2 i (List.mem_range.2 hi)
  simp only [ho] at h1
  exact ⟨hi, h1⟩
theorem vrow_split {m sl : Nat} {dep : Nat → List Nat} {i : Nat} {o : Oper} (h : vrow m sl dep i o = true) :
    (∀ e ∈ o.after, e.on < i) ∧ o.guard = none ∧ (i < m → o.dst = some (sl + i)) ∧ ∀ j ∈ (if i == m then List.range m else dep i), j < m ∧ ∃ e ∈ o.after, e.on = j ∧ Region.binds .any e = true := by
  unfold vrow at h
  rw [Bool.and_eq_true, Bool.and_eq_true, Bool.and_eq_true] at h
  obtain ⟨⟨⟨h1, h2⟩, h3⟩, h4⟩ := h
  refine ⟨fun e he => of_decide_eq_true (Array.all_eq_true_iff_forall_mem.1 h1 e he), Option.isNone_iff_eq_none.1 h2, fun hi => ?_, fun j hj => ?_⟩
  · rw [Bool.or_eq_true] at h3
    rcases h3 with h3 | h3
    · rw [beq_iff_eq] at h3; omega
    · simpa using h3
  · have := List.all_eq_true.1 h4 j hj
    rw [Bool.and_eq_true] at this
    exact ⟨of_decide_eq_true this.1, vhas_ex this.2⟩

theorem val_region {P : Program} {ops : Array Oper} {Q : Exit → Act → World → Prop} {id : Nat} (hm : P.follows .mixedOrders = true) (m sl : Nat) (dep : Nat → List Nat)
    (W0 : World) (a0 : Act) (V : Nat → World → Value → Prop) (hchk : vchk ops m sl dep = true)
    (hV1 : ∀ j w w' u, Below w.heap.size w w' → V j w u → V j w' u) (hin : sl + m ≤ a0.tmps.size)
    (hA : ∀ j, j < m → ∀ o, ops[j]? = some o → ∀ (a : Act) (w : World), Below W0.heap.size W0 w → (∀ s : Nat, (s < sl ∨ sl + m ≤ s) → a.tmps[s]? = a0.tmps[s]?) →
      (∀ j' ∈ dep j, ∃ u, a.tmps[sl + j']? = some u ∧ V j' w u) → o.wp P a w (fun a' w' => ∃ u, a' = a.put o.dst u ∧ V j w' u ∧ Below w.heap.size w w') Q)
    (hL : ∀ o, ops[m]? = some o → ∀ (u : Nat → Value) (w : World), Below W0.heap.size W0 w → (∀ j, j < m → V j w (u j)) →
      o.wp P (putL a0 ((List.range m).map (fun j => (sl + j, u j)))) w (fun a' w' => Q .normal a' w') Q) :
    (Code.region id ops true).wp P Q a0 W0 := by
  have hsz : ops.size = m + 1 := by
    unfold vchk at hchk
    rw [Bool.and_eq_true, beq_iff_eq] at hchk
    exact hchk.1
  have hoth : ∀ {s : Nat}, (s < sl ∨ sl + m ≤ s) → ∀ j, j < m → s ≠ sl + j := fun h j hj => by omega
  refine parl_region hm m (fun j => sl + j) dep W0 a0 V hsz (fun i o ho => (vrow_split (vchk_row hchk ho).2).1) hV1 ?_ ?_ ?_ (fun j hj => Nat.lt_of_lt_of_le (Nat.add_lt_add_left hj sl) hin) (fun i i' _ _ h => Nat.add_left_cancel h) ?_
  · intro j hj j' hj'
    obtain ⟨o, ho⟩ : ∃ o, ops[j]? = some o := ⟨ops[j]'(by omega), Array.getElem?_eq_getElem (by omega)⟩
    have h4 := (vrow_split (vchk_row hchk ho).2).2.2.2 j' (by rw [if_neg (by rw [beq_iff_eq]; omega)]; exact hj')
    refine ⟨h4.1, fun o' ho' => ?_⟩
    obtain rfl : o = o' := Option.some.inj (ho.symm.trans ho')
    exact h4.2
  · intro j hj a w hb ho1 hd
    obtain ⟨o, ho⟩ : ∃ o, ops[j]? = some o := ⟨ops[j]'(by omega), Array.getElem?_eq_getElem (by omega)⟩
    obtain ⟨-, h2, h3, -⟩ := vrow_split (vchk_row hchk ho).2
    refine step_wanted ho h2 ?_
    have h5 := hA j hj o ho a w hb (fun s hs => ho1 s (hoth hs)) hd
    rw [h3 hj] at h5
    exact h5
  · intro o ho j hj
    exact ((vrow_split (vchk_row hchk ho).2).2.2.2 j (by rw [if_pos (by rw [beq_iff_eq])]; exact List.mem_range.2 hj)).2
  · intro u a w hb hu hs hd ho1
    obtain ⟨o, ho⟩ : ∃ o, ops[m]? = some o := ⟨ops[m]'(by omega), Array.getElem?_eq_getElem (by omega)⟩
    obtain ⟨-, h2, -, -⟩ := vrow_split (vchk_row hchk ho).2
    refine step_wanted ho h2 ?_
    have q1 : ((List.range m).map (fun j => ((sl + j, u j) : Tmp × Value))).map (fun p : Tmp × Value => p.1) = (List.range m).map (fun j => sl + j) := by simp [Function.comp_def]
    have ha := act_putL (a := a) (a0 := a0) (l := (List.range m).map (fun j => ((sl + j, u j) : Tmp × Value))) (by
        rw [q1]
        refine List.pairwise_map.2 ((List.nodup_range (n := m)).imp_of_mem ?_)
        intro x y hx hy hne he
        exact hne (Nat.add_left_cancel he)) hs hd (by
        intro p hp
        obtain ⟨i, hi, rfl⟩ := List.mem_map.1 hp
        exact (hu i (List.mem_range.1 hi)).1) (fun s hsn => ho1 s (fun i hi he => hsn (List.mem_map.2 ⟨_, List.mem_map.2 ⟨i, List.mem_range.2 hi, rfl⟩, he.symm⟩)))
    rw [ha]
    exact hL o ho u w hb (fun j hj => (hu j hj).2)

theorem owp_move {P : Program} {Q : Exit → Act → World → Prop} {o : Oper} {K : Act → World → Prop} {a : Act} {w : World} {s : Tmp} {v : Value}
    (hop : o.op = .move (.tmp s)) (hs : a.tmps[s]? = some v) (h : K (a.put o.dst v) w) : o.wp P a w K Q := by
  unfold Oper.wp
  simp [execOp, hop, eval_get hs, Oper.upon, h]
theorem owp_assign {P : Program} {Q : Exit → Act → World → Prop} {o : Oper} {K : Act → World → Prop} {a : Act} {w : World} {s : Tmp} {v : Value}
    (hop : o.op = .assign (.tmp s)) (hs : a.tmps[s]? = some v) (h : K (a.put o.dst v) w) : o.wp P a w K Q := by
  unfold Oper.wp
  simp [execOp, hop, eval_get hs, Oper.upon, h]
theorem owp_call {P : Program} {Q : Exit → Act → World → Prop} {o : Oper} {K : Act → World → Prop} {a : Act} {w : World}
    {f : FuncId} {args : Array Operand} {ts : Array TypeId} (hop : o.op = .call { callee := .value (.func f), args := args, argTypes := ts }) {vs : Array Value}
    (hc : ∀ vs w, (callFunc f vs).run P w = .ok (.enter f vs) w) (hv : args.map a.eval = vs) (h : Calls P f vs w fun r w' => ∃ v, r = .returned v ∧ K (a.put o.dst v) w') : o.wp P a w K Q := by
  unfold Oper.wp
  have e : (execOp a.eval o).run P w = .ok (.enter f vs) w := by
    simp [execOp, hop, resolve, Deferred.ofValue, Act.eval, invoke, hv, hc]
  rw [e, Oper.upon_enter]
  refine h.mono ?_
  rintro r w' ⟨v, rfl, hk⟩
  exact hk
/-- an operation of one value -/
theorem owp_run1 {P : Program} {Q : Exit → Act → World → Prop} {o : Oper} {K : Act → World → Prop} {a : Act} {w w' : World} {v : Value}
    (hr : (execOp a.eval o).run P w = .ok (.value v) w') (h : K (a.put o.dst v) w') : o.wp P a w K Q := by
  unfold Oper.wp
  rw [hr]
  exact h
end Go.Proofs.YtbmaoiemgepppaaGreatDoor
/- The values of floats by their bodies, and how values are rounded: plain facts. -/
namespace Go.Proofs.YtbmaoiemgepppaaGreatDoor
set_option linter.unusedVariables false
set_option linter.unusedSimpArgs false

/-- the value of a float's body (its bits without the sign), in units of 2^-1074 -/
def bv (b : Nat) : Nat := if b < 4503599627370496 then b else (4503599627370496 + b % 4503599627370496) * 2 ^ (b / 4503599627370496 - 1)
theorem bv_at {j q : Nat} (h : (j = 0 ∧ q ≤ 9007199254740992) ∨ (4503599627370496 ≤ q ∧ q ≤ 9007199254740992)) : bv (j * 4503599627370496 + q) = q * 2 ^ j := by
  unfold bv
  by_cases h1 : j * 4503599627370496 + q < 4503599627370496
  · have hj : j = 0 := by omega
    subst hj
    rw [if_pos h1]; simp
  · rw [if_neg h1]
    by_cases h2 : q = 9007199254740992
    · subst h2
      rw [show (j * 4503599627370496 + 9007199254740992) % 4503599627370496 = 0 by omega, show (j * 4503599627370496 + 9007199254740992) / 4503599627370496 - 1 = j + 1 by omega, Nat.pow_succ]
      omega
    · have h3 : 4503599627370496 ≤ q := by omega
      rw [show (j * 4503599627370496 + q) % 4503599627370496 = q - 4503599627370496 by omega, show (j * 4503599627370496 + q) / 4503599627370496 - 1 = j by omega]
      rw [show 4503599627370496 + (q - 4503599627370496) = q by omega]
theorem bv_form (b : Nat) : ∃ j q, b = j * 4503599627370496 + q ∧ bv b = q * 2 ^ j ∧ bv (b + 1) = (q + 1) * 2 ^ j := by
  by_cases h : b < 4503599627370496
  · refine ⟨0, b, by omega, ?_, ?_⟩
    · have := bv_at (j := 0) (q := b) (.inl ⟨rfl, by omega⟩); simpa using this
    · have := bv_at (j := 0) (q := b + 1) (.inl ⟨rfl, by omega⟩); simpa using this
  · have e : b = (b / 4503599627370496 - 1) * 4503599627370496 + (4503599627370496 + b % 4503599627370496) := by omega
    refine ⟨_, _, e, ?_, ?_⟩
    · have := bv_at (j := b / 4503599627370496 - 1) (q := 4503599627370496 + b % 4503599627370496) (.inr ⟨by omega, by omega⟩)
      rw [← e] at this; exact this
    · have := bv_at (j := b / 4503599627370496 - 1) (q := 4503599627370496 + b % 4503599627370496 + 1) (.inr ⟨by omega, by omega⟩)
      rw [← Nat.add_assoc, ← e] at this; exact this
theorem bv_succ (b : Nat) : bv b < bv (b + 1) := by
  obtain ⟨j, q, -, h1, h2⟩ := bv_form b
  rw [h1, h2]
  exact Nat.mul_lt_mul_of_pos_right (by omega) (Nat.two_pow_pos j)
theorem bv_lt {a b : Nat} (h : a < b) : bv a < bv b := by
  induction b with
  | zero => omega
  | succ b ih =>
    by_cases h1 : a < b
    · exact Nat.lt_trans (ih h1) (bv_succ b)
    · obtain rfl : a = b := by omega
      exact bv_succ a
theorem bv_le {a b : Nat} (h : a ≤ b) : bv a ≤ bv b := by
  by_cases h1 : a = b
  · rw [h1]; exact Nat.le_refl _
  · exact Nat.le_of_lt (bv_lt (by omega))
theorem bv_inj_lt {a b : Nat} (h : bv a < bv b) : a < b := by
  apply Decidable.byContradiction
  intro h1
  have := bv_le (a := b) (b := a) (by omega)
  omega

/-- the number x·2^e (x' / 2^k units of the body's rung j) -/
structure IsR (x : Nat) (e : Int) (j X k : Nat) : Prop where
  eq : ∀ K : Nat, 0 ≤ e + K → 0 ≤ (j : Int) - 1074 - k + K → X * 2 ^ ((j : Int) - 1074 - k + K).toNat = x * 2 ^ (e + K).toNat
  lt : X / 2 ^ k < 9007199254740992
  ge : j = 0 ∨ 4503599627370496 ≤ X / 2 ^ k

/-- how a value A (in units u of 2^-1074) lies at the bodies b and b + 1, by what is left over -/
structure Lies (A u b : Nat) (r m : Nat) : Prop where
  lo : bv b * u ≤ A
  hi : A < bv (b + 1) * u
  ex : r = 0 ↔ A = bv b * u
  half_lt : 2 * r < m ↔ 2 * A < (bv b + bv (b + 1)) * u
  half_eq : 2 * r = m ↔ 2 * A = (bv b + bv (b + 1)) * u
theorem IsR.lies {x : Nat} {e : Int} {j X k : Nat} (h : IsR x e j X k) {K : Nat} (hK : 1074 ≤ K) (h1 : 0 ≤ e + K) (h2 : 0 ≤ (j : Int) - 1074 - k + K) :
    Lies (x * 2 ^ (e + K).toNat) (2 ^ (K - 1074)) (j * 4503599627370496 + X / 2 ^ k) (X % 2 ^ k) (2 ^ k) := by
  have eq := h.eq K h1 h2
  have hl := h.lt
  have hg := h.ge
  have b0 : bv (j * 4503599627370496 + X / 2 ^ k) = X / 2 ^ k * 2 ^ j := bv_at (j := j) (q := X / 2 ^ k) (by
    generalize X / 2 ^ k = q at *
    rcases hg with g | g
    · exact .inl ⟨g, by omega⟩
    · exact .inr ⟨g, by omega⟩)
  have b1 : bv (j * 4503599627370496 + X / 2 ^ k + 1) = (X / 2 ^ k + 1) * 2 ^ j := by
    have := bv_at (j := j) (q := X / 2 ^ k + 1) (by
      generalize X / 2 ^ k = q at *
      rcases hg with g | g
      · exact .inl ⟨g, by omega⟩
      · exact .inr ⟨by omega, by omega⟩)
    rw [← Nat.add_assoc] at this
    exact this
  have hu : 2 ^ j * 2 ^ (K - 1074) = 2 ^ k * 2 ^ ((j : Int) - 1074 - k + K).toNat := by
    rw [← Nat.pow_add, ← Nat.pow_add, show j + (K - 1074) = k + ((j : Int) - 1074 - k + K).toNat by omega]
  have hX : X = 2 ^ k * (X / 2 ^ k) + X % 2 ^ k := (Nat.div_add_mod X (2 ^ k)).symm
  have hr : X % 2 ^ k < 2 ^ k := Nat.mod_lt _ (Nat.two_pow_pos k)
  have hU : 0 < 2 ^ ((j : Int) - 1074 - k + K).toNat := Nat.two_pow_pos _
  rw [← eq]
  generalize 2 ^ ((j : Int) - 1074 - k + K).toNat = U at *
  generalize X / 2 ^ k = q at *
  generalize X % 2 ^ k = r at *
  generalize 2 ^ k = M at *
  generalize 2 ^ j = J at *
  generalize 2 ^ (K - 1074) = u at *
  have e0 : bv (j * 4503599627370496 + q) * u = q * (M * U) := by rw [b0, Nat.mul_assoc, hu]
  have e1 : bv (j * 4503599627370496 + q + 1) * u = (q + 1) * (M * U) := by rw [b1, Nat.mul_assoc, hu]
  have eA : X * U = q * (M * U) + r * U := by rw [hX, Nat.add_mul]; congr 1; rw [← Nat.mul_assoc, Nat.mul_comm q M]
  have e1' : (q + 1) * (M * U) = q * (M * U) + M * U := by rw [Nat.add_mul, Nat.one_mul]
  have hrU : r * U < M * U := Nat.mul_lt_mul_of_pos_right hr hU
  have hr0 : r = 0 ↔ r * U = 0 := by
    constructor
    · rintro rfl; simp
    · intro h; rcases Nat.mul_eq_zero.1 h with h | h
      · exact h
      · omega
  have hh1 : 2 * r < M ↔ 2 * (r * U) < M * U := by
    rw [← Nat.mul_assoc]
    exact (Nat.mul_lt_mul_right hU).symm
  have hh2 : 2 * r = M ↔ 2 * (r * U) = M * U := by
    rw [← Nat.mul_assoc]
    exact (Nat.mul_left_inj (by omega)).symm
  refine ⟨?_, ?_, ?_, ?_, ?_⟩
  · rw [e0, eA]; omega
  · rw [e1, eA, e1']; omega
  · rw [hr0, e0, eA]; omega
  · rw [hh1, Nat.add_mul, e0, e1, eA, e1']; omega
  · rw [hh2, Nat.add_mul, e0, e1, eA, e1']; omega

/-- a value rounded by a way: 0 inward, 1 to the nearest, 2 outward; no greatest one -/
structure Rounds (A u b way : Nat) : Prop where
  fl : ∃ b0, (bv b0 * u ≤ A ∧ A < bv (b0 + 1) * u) ∧ (way = 0 → b = b0) ∧ (way = 2 → b = if A = bv b0 * u then b0 else b0 + 1) ∧ (way = 1 → b = if 2 * A < (bv b0 + bv (b0 + 1)) * u then b0 else if 2 * A = (bv b0 + bv (b0 + 1)) * u then b0 + b0 % 2 else b0 + 1)
theorem floor_mono {A A' u b b' : Nat} (h : A ≤ A') (h1 : bv b * u ≤ A) (h2 : A' < bv (b' + 1) * u) : b ≤ b' := by
  have h3 : bv b * u < bv (b' + 1) * u := by omega
  have h4 : bv b < bv (b' + 1) := Nat.lt_of_mul_lt_mul_right h3
  have := bv_inj_lt h4
  omega
theorem Rounds.mono {A A' u b b' way : Nat} (hw : way = 0 ∨ way = 1 ∨ way = 2) (h : Rounds A u b way) (h' : Rounds A' u b' way) (hle : A ≤ A') : b ≤ b' := by
  obtain ⟨b0, ⟨l, g⟩, w0, w2, w1⟩ := h.fl
  obtain ⟨b1, ⟨l', g'⟩, w0', w2', w1'⟩ := h'.fl
  have hb := floor_mono hle l g'
  rcases hw with hw | hw | hw
  · rw [w0 hw, w0' hw]; exact hb
  · rw [w1 hw, w1' hw]
    by_cases he : b0 = b1
    · subst he
      split
      · split
        · exact Nat.le_refl _
        · split <;> omega
      · split
        · split
          · omega
          · split
            · exact Nat.le_refl _
            · have : b0 % 2 < 2 := Nat.mod_lt _ (by omega)
              omega
        · rw [if_neg (by omega), if_neg (by omega)]; exact Nat.le_refl _
    · have hlt : b0 < b1 := by omega
      have h1 : (if 2 * A < (bv b0 + bv (b0 + 1)) * u then b0 else if 2 * A = (bv b0 + bv (b0 + 1)) * u then b0 + b0 % 2 else b0 + 1) ≤ b0 + 1 := by
        split
        · omega
        · split <;> omega
      have h2 : b1 ≤ (if 2 * A' < (bv b1 + bv (b1 + 1)) * u then b1 else if 2 * A' = (bv b1 + bv (b1 + 1)) * u then b1 + b1 % 2 else b1 + 1) := by
        split
        · omega
        · split <;> omega
      omega
  · rw [w2 hw, w2' hw]
    by_cases he : b0 = b1
    · subst he
      split
      · split <;> omega
      · rw [if_neg (by omega)]; exact Nat.le_refl _
    · split
      · split <;> omega
      · split <;> omega
/-- inward is not above nearest, nor that above outward; inward and outward hold the value -/
theorem Rounds.order {A u b0 b1 b2 : Nat} (h0 : Rounds A u b0 0) (h1 : Rounds A u b1 1) (h2 : Rounds A u b2 2) : b0 ≤ b1 ∧ b1 ≤ b2 ∧ bv b0 * u ≤ A ∧ A ≤ bv b2 * u ∧ (b0 = b2 → A = bv b0 * u) := by
  obtain ⟨c0, ⟨l0, g0⟩, w0, -, -⟩ := h0.fl
  obtain ⟨c1, ⟨l1, g1⟩, -, -, w1⟩ := h1.fl
  obtain ⟨c2, ⟨l2, g2⟩, -, w2, -⟩ := h2.fl
  have e1 : c1 = c0 := by
    have := floor_mono (Nat.le_refl A) l1 g0
    have := floor_mono (Nat.le_refl A) l0 g1
    omega
  have e2 : c2 = c0 := by
    have := floor_mono (Nat.le_refl A) l2 g0
    have := floor_mono (Nat.le_refl A) l0 g2
    omega
  subst e1; subst e2
  have r0 := w0 rfl
  have r1 := w1 rfl
  have r2 := w2 rfl
  subst r0
  have hu : 0 < u := by
    apply Decidable.byContradiction
    intro h
    have : u = 0 := by omega
    subst this
    simp at g0
  have hs : bv b0 * u < bv (b0 + 1) * u := Nat.mul_lt_mul_of_pos_right (bv_succ b0) hu
  have hm : (bv b0 + bv (b0 + 1)) * u = bv b0 * u + bv (b0 + 1) * u := Nat.add_mul ..
  have hp : b0 % 2 < 2 := Nat.mod_lt _ (by omega)
  refine ⟨?_, ?_, l0, ?_, ?_⟩
  · rw [r1]
    split
    · omega
    · split <;> omega
  · rw [r1, r2]
    by_cases he : A = bv b0 * u
    · rw [if_pos he, if_pos (by omega)]; exact Nat.le_refl _
    · rw [if_neg he]
      split
      · omega
      · split <;> omega
  · rw [r2]
    split
    · omega
    · omega
  · intro h
    rw [r2] at h
    split at h
    · assumption
    · omega
end Go.Proofs.YtbmaoiemgepppaaGreatDoor
/- The program's rounding rounds: the body that Make makes of toFloat's digits. -/
namespace Go.Proofs.YtbmaoiemgepppaaGreatDoor
set_option linter.unusedVariables false
set_option linter.unusedSimpArgs false
open Go.RowKit Go.Fl64
open Ie

end Go.Proofs.YtbmaoiemgepppaaGreatDoor
/- A float is made anew of its odd part and its exponent, whatever the way of rounding. -/
namespace Go.Proofs.YtbmaoiemgepppaaGreatDoor.Ie
set_option linter.unusedVariables false
set_option linter.unusedSimpArgs false
open Go.RowKit Go.Fl64

end Go.Proofs.YtbmaoiemgepppaaGreatDoor.Ie
/- A finite float and nought, added: the float; of noughts +0. -/
namespace Go.Fl64
set_option linter.unusedVariables false
set_option linter.unusedSimpArgs false

end Go.Fl64
/- DyadFloats: the law's walk. -/
namespace Go.Proofs.YtbmaoiemgepppaaGreatDoor
set_option linter.unusedVariables false
set_option linter.unusedSimpArgs false
open Go.RowKit Go.Fl64

end Go.Proofs.YtbmaoiemgepppaaGreatDoor
/- DyadFloats answers true, whatever the two floats are. -/
namespace Go.Proofs.YtbmaoiemgepppaaGreatDoor
set_option linter.unusedVariables false
set_option linter.unusedSimpArgs false
open Go.RowKit Go.Fl64

end Go.Proofs.YtbmaoiemgepppaaGreatDoor
/- What a number is rounded to, by its value. -/
namespace Go.Proofs.YtbmaoiemgepppaaGreatDoor
set_option linter.unusedVariables false
set_option linter.unusedSimpArgs false
open Go.RowKit Go.Fl64
open Ie

end Go.Proofs.YtbmaoiemgepppaaGreatDoor
/- Numbers with their signs, rounded each way. -/
namespace Go.Proofs.YtbmaoiemgepppaaGreatDoor
set_option linter.unusedVariables false
set_option linter.unusedSimpArgs false
open Go.RowKit Go.Fl64
open Ie

end Go.Proofs.YtbmaoiemgepppaaGreatDoor
/- The document's ways to round a number come to the same body. -/
namespace Go.Proofs.YtbmaoiemgepppaaGreatDoor
set_option linter.unusedVariables false
set_option linter.unusedSimpArgs false
open Go.RowKit Go.Fl64
open Ie

end Go.Proofs.YtbmaoiemgepppaaGreatDoor
/- What the document's rounding comes to, in numbers. -/
namespace Go.Proofs.YtbmaoiemgepppaaGreatDoor
set_option linter.unusedVariables false
set_option linter.unusedSimpArgs false
open Go.RowKit Go.Fl64
open Ie

end Go.Proofs.YtbmaoiemgepppaaGreatDoor
/- The document's build, small and sign. -/
namespace Go.Proofs.YtbmaoiemgepppaaGreatDoor
set_option linter.unusedVariables false
set_option linter.unusedSimpArgs false
open Go.RowKit Go.Fl64
open Ie

theorem rsignb (s : Bool) (w : World) : Calls Tryz.prog 14 #[.bool s] w fun r w' => r = .returned (.int .i64 (if s then 1 else 0)) ∧ w' = w := by
  cases s
  · go_enter Tryz.func14, Tryz.ntmps14
    go_wp2
    go_ret
    exact ⟨rfl, rfl⟩
  · go_enter Tryz.func14, Tryz.ntmps14
    go_wp2
    go_ret
    exact ⟨rfl, rfl⟩
end Go.Proofs.YtbmaoiemgepppaaGreatDoor
/- A region of the document's Read: a digit more. -/
namespace Go.Proofs.YtbmaoiemgepppaaGreatDoor
set_option linter.unusedVariables false
set_option linter.unusedSimpArgs false
open Go Go.RowKit Go.Fl64

theorem run_bs1 (d : Int) (w : World) : (Instr.buildSlice 22 1 #[(0, .int .u32 d)]).run Tryz.prog w = .ok (.slice (some ⟨w.heap.size, 0, none⟩) 1 1) (w.alloc (.cells #[.int .u32 d] 49)) := by kernel_rfl
theorem run_cv32 (d : Int) (w : World) (h : IntKind.u32.wrap d = d) : (convert 3 49 (.int .i64 d)).run Tryz.prog w = .ok (.int .u32 d) w := by
  have e : (convert 3 49 (.int .i64 d)).run Tryz.prog w = .ok (.int .u32 (IntKind.u32.wrap d)) w := by kernel_rfl
  rw [e, h]
theorem run_ixs (s : ByteArray) (j c : Nat) (h : j < s.size) (hc : btA s j = c) (w : World) : (Instr.index 9 (.string s) (.int .i64 (j : Int))).run Tryz.prog w = .ok (.int .u8 (c : Int)) w := by
  rw [run_index_string w 9 s .i64 (j : Int) (by kernel_rfl), dif_pos ⟨by omega, by omega⟩]
  have : (s[(j : Int).toNat]'(by omega)).toNat = c := by
    rw [← hc]
    unfold btA
    have h2 : j < s.data.size := h
    rw [Array.getElem?_eq_getElem h2]
    rfl
  rw [this]
def rdV (v0 : Value) (s : ByteArray) (j c d x : Nat) (k : Nat) (w : World) (u : Value) : Prop :=
  match k with
  | 0 => u = v0
  | 1 => u = v0
  | 2 => Ir w u (x * 2 ^ 4)
  | 3 => u = .string s
  | 4 => u = .int .i64 (j : Int)
  | 5 => u = .int .u8 (c : Int)
  | 6 => u = .int .i64 (d : Int)
  | 7 => u = .int .u32 (d : Int)
  | 8 => ∃ g, u = .slice (some ⟨g, 0, none⟩) 1 1 ∧ w.cell? ⟨g, 0, none⟩ = some (.int .u32 (d : Int))
  | 9 => Ir w u d
  | _ => Ir w u (x * 2 ^ 4 + d)
def rdD (k : Nat) : List Nat :=
  match k with
  | 1 => [0]
  | 2 => [1]
  | 5 => [3, 4]
  | 6 => [5]
  | 7 => [6]
  | 8 => [7]
  | 9 => [8]
  | 10 => [2, 9]
  | _ => []
theorem lt11 {k : Nat} (h : k < 11) : k = 0 ∨ k = 1 ∨ k = 2 ∨ k = 3 ∨ k = 4 ∨ k = 5 ∨ k = 6 ∨ k = 7 ∨ k = 8 ∨ k = 9 ∨ k = 10 := by omega
theorem rdV_later {v0 : Value} {s : ByteArray} {j c d x k : Nat} {w w' : World} {u : Value} (hb : Below w.heap.size w w') (h : rdV v0 s j c d x k w u) : rdV v0 s j c d x k w' u := by
  rcases (show k = 0 ∨ k = 1 ∨ k = 2 ∨ k = 3 ∨ k = 4 ∨ k = 5 ∨ k = 6 ∨ k = 7 ∨ k = 8 ∨ k = 9 ∨ ∃ i, k = i + 10 by by_cases h : 10 ≤ k; exact .inr (.inr (.inr (.inr (.inr (.inr (.inr (.inr (.inr (.inr ⟨k - 10, by omega⟩))))))))); omega) with rfl | rfl | rfl | rfl | rfl | rfl | rfl | rfl | rfl | rfl | ⟨i, rfl⟩
  · exact h
  · exact h
  · exact Ir.later (x := x * 2 ^ 4) h hb
  · exact h
  · exact h
  · exact h
  · exact h
  · exact h
  · obtain ⟨g, h1, h2⟩ := h
    exact ⟨g, h1, (hb.cell (World.block_lt_of_cell? _ _ h2)).trans h2⟩
  · exact Ir.later (x := d) h hb
  · exact Ir.later (x := x * 2 ^ 4 + d) h hb
theorem dg_d16 {d : Nat} (h : d < 16) : dg d 0 = d := by unfold dg; rw [Nat.pow_zero, Nat.div_one]; exact Nat.mod_eq_of_lt (Nat.lt_trans h (by decide))
theorem dlen_d16 {d : Nat} (h : d < 16) : dlen d ≤ 1 := (dlen_le _ _).2 (by rw [Nat.pow_one]; exact Nat.lt_trans h (by decide))
theorem at_d16 {V : World} {g d m : Nat} (hm : m ≤ 1) (hcl : V.cell? ⟨g, 0, none⟩ = some (.int .u32 (d : Int))) (h : d < 16) : At V (some ⟨g, 0, none⟩) m d := by
  refine ⟨g, 0, fun _ => rfl, fun i hi => ?_⟩
  obtain rfl : i = 0 := by omega
  rw [dg_d16 h]
  exact hcl
theorem dlen_x16 {x k : Nat} (h : dlen x ≤ k) : dlen (x * 2 ^ 4) ≤ k + 1 := (dlen_le _ _).2 (by
  have h1 := (dlen_le _ _).1 h
  rw [Nat.pow_succ]
  exact Nat.lt_of_lt_of_le (Nat.mul_lt_mul_of_pos_right h1 (by decide)) (Nat.mul_le_mul_left _ (by decide)))
end Go.Proofs.YtbmaoiemgepppaaGreatDoor
/- The document's Show of a number in its one form. -/
namespace Go.Proofs.YtbmaoiemgepppaaGreatDoor
set_option linter.unusedVariables false
set_option linter.unusedSimpArgs false
open Go Go.RowKit Go.Fl64

theorem pow16B (k : Nat) : (16 : Nat) ^ (8 * k) = B ^ k := by rw [Nat.pow_mul]; rfl
theorem powB_le {a b : Nat} (h : a ≤ b) : B ^ a ≤ B ^ b := Nat.pow_le_pow_right (by decide) h
theorem hexN_len8 {x k : Nat} (h : dlen x ≤ k) : (hexN x).length ≤ 8 * k := hexN_len (8 * k) x (by rw [pow16B]; exact Nat.lt_of_lt_of_le (lt_dlen x) (powB_le h))
theorem rshow_ok {w : World} {t : Bool × Nat × Int} {ao : Option Addr} {cap : Nat} (hat : At w ao (dlen t.2.1) t.2.1) (hx : dlen t.2.1 ≤ 35184372088832) :
    Calls Tryz.prog 20 #[.agg #[.bool t.1, .slice ao (dlen t.2.1) cap, .int .i64 t.2.2]] w fun r w' => r = .returned (.string (shT t)) ∧ Below w.heap.size w w' := by
  obtain ⟨na, x, ea⟩ := t
  simp only at hat hx ⊢
  have kV : ∀ W, Below w.heap.size w W → Calls Tryz.prog 19 #[.agg #[.bool na, .slice ao (dlen x) cap, .int .i64 ea]] W fun r w' => r = .returned (.bool (okN na (dlen x) x ea)) ∧ Below W.heap.size W w' := fun W hW => rvalid_at (hat.later hW) hx
  by_cases hk : okN na (dlen x) x ea = true
  · have f1 := Ok.facts (t := (na, x, ea)) hk
    simp only at f1
    rw [hk] at kV
    by_cases x0 : x = 0
    · have e1 : shT (na, x, ea) = ⟨#[48, 112, 48]⟩ := by unfold shT; simp only; rw [if_pos hk, if_pos x0]
      rw [e1]
      exact rshow_0 na ao (dlen x) cap ea w (by rw [x0, dlen_zero]) kV
    · have e1 : shT (na, x, ea) = ⟨((if na then [45] else []) ++ hexN x ++ 112 :: Lib.itoa ea).toArray⟩ := by unfold shT; simp only; rw [if_pos hk, if_neg x0]
      rw [e1]
      have hT : (Lib.itoa ea).length ≤ 1000 := by have := itoa_len (e := ea) (by omega); omega
      have hH : (hexN x).length ≤ 1000000 := by have := hexN_len8 f1.1; omega
      cases na
      · exact rshow_pos ao _ cap ea w (hexN x) (Lib.itoa ea) (len_ne (n := 0) x0) hH hT kV (fun W' hW' => rhex (hat.later hW') x0 (by omega)) (fun W' hW' => rdecimal ea W' (by omega))
      · exact rshow_neg ao _ cap ea w (hexN x) (Lib.itoa ea) (len_ne (n := 0) x0) hH hT kV (fun W' hW' => rhex (hat.later hW') x0 (by omega)) (fun W' hW' => rdecimal ea W' (by omega))
  · have e1 : shT (na, x, ea) = ⟨#[]⟩ := by unfold shT; simp only; rw [if_neg hk]
    rw [e1]
    rw [Bool.not_eq_true] at hk
    rw [hk] at kV
    exact rshow_no na ao (dlen x) cap ea w kV
end Go.Proofs.YtbmaoiemgepppaaGreatDoor
