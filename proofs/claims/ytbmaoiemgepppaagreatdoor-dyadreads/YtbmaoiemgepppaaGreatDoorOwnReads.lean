/- For every text the law DyadReads returns true, and the text reads afterwards as it read before; the library's three tables and its two errors start as the program's text lays them. -/
import Derived.Test.YtbmaoiemgepppaaGreatDoorCards
import Derived.Test.YtbmaoiemgepppaaGreatDoorTie
import Derived.Test.YtbmaoiemgepppaaGreatDoorA7
import Derived.Test.YtbmaoiemgepppaaGreatDoorA15
import Derived.Carry
import Derived.ChangeSlices
import Derived.ChangeMaps5
import Derived.WalkKit
import Derived.ProofKit
import Derived.OpenShut
import Derived.WalkLawsBesides
import Derived.ChangeAlike
import Derived.Stop.LaidErr
import Derived.Deep.DeepHandedRow
import Derived.Lib.LaidTab
namespace Go.Proofs.YtbmaoiemgepppaaGreatDoor.dyadReads
set_option linter.unusedVariables false
set_option linter.unusedSimpArgs false
open Go.ChangeShapes Go.WideShapes Go.ChangeAt Go.RowKit

theorem star : "*" ++ "errors.errorString" = "*errors.errorString" := by decide
theorem row_es (u : TypeId) (h : Tryz.prog.typeName? 3 u = some "*errors.errorString") : u = 155 :=
  typeName_ptr_named (nm := "errors.errorString") (by rw [star]; kernel_rfl) (by kernel_rfl) (by decide) u (by rw [star]; exact h)
theorem cell_of {W : World} {n : String} {g : Nat} {v : Value} (hg : Tryz.prog.globalNamed n = some g) (h : W.var? Tryz.prog n = some #[v]) : W.cell? ⟨g, 0, none⟩ = some v := by
  simpa using World.var?_cell hg h 0
theorem gR : Tryz.prog.globalNamed "strconv.ErrRange" = some 3 := by kernel_rfl
theorem gS : Tryz.prog.globalNamed "strconv.ErrSyntax" = some 2 := by kernel_rfl
theorem und_err : ∃ ms, Tryz.prog.underlying 39 = some (.interface ms) := by
  have h : (Tryz.prog.underlying 39).map (fun d => match d with | .interface _ => true | _ => false) = some true := by kernel_rfl
  cases hu : Tryz.prog.underlying 39 with
  | none => rw [hu] at h; cases h
  | some d =>
    rw [hu] at h
    cases d <;> first | exact ⟨_, rfl⟩ | (simp at h)
theorem one_of {l : List Field} {t o : Nat} (h : l.map (fun f => (f.type, f.offset)) = [(t, o)]) : ∃ f, l = [f] ∧ f.type = t ∧ f.offset = o := by
  cases l with
  | nil => cases h
  | cons f r =>
    cases r with
    | nil =>
      simp only [List.map_cons, List.map_nil, List.cons.injEq, Prod.mk.injEq, and_true] at h
      exact ⟨f, rfl, h.1, h.2⟩
    | cons g r => simp at h
theorem und_es : ∃ f : Field, Tryz.prog.underlying 157 = some (.struct #[f]) ∧ f.type = 9 ∧ f.offset = 0 := by
  have h : (Tryz.prog.underlying 157).map (fun d => match d with | .struct fs => fs.toList.map (fun f => (f.type, f.offset)) | _ => []) = some [(9, 0)] := by kernel_rfl
  cases hu : Tryz.prog.underlying 157 with
  | none => rw [hu] at h; cases h
  | some d =>
    rw [hu] at h
    cases d <;> first | (simp at h; done) | skip
    rename_i fs
    obtain ⟨l⟩ := fs
    obtain ⟨f, h1, h2, h3⟩ := one_of (Option.some.inj h)
    have h4 : l = [f] := h1
    exact ⟨f, by rw [h4], h2, h3⟩
theorem tables {W : World} (h : laidMetH Tryz.prog Rows.dyadReadsRow.laid W) : Tab32 W ∧ Ie.Tab W ∧ Tab10 W ∧ SenS W ∧ SenR W := by
  have h' : laidMet Tryz.prog Rows.dyadReadsRow.laid W := h
  have h3 : laidMet Tryz.prog [("strconv.ErrRange", Rows.laid_strconv_ErrRange), ("strconv.ErrSyntax", Rows.laid_strconv_ErrSyntax)] W := laid_tail (laid_tail (laid_tail h'))
  have h4 : laidMet Tryz.prog [("strconv.ErrSyntax", Rows.laid_strconv_ErrSyntax)] W := laid_tail h3
  obtain ⟨ms, hms⟩ := und_err
  obtain ⟨f, hf1, hf2, hf3⟩ := und_es
  obtain ⟨a1, s1, e1, -⟩ := laid_sentinel (tp := 155) (te := 157) (ts := 9) h3 gR (ti := 39) (by kernel_rfl) hms row_es (by kernel_rfl) hf1 hf2 hf3 Tryz.underlying9 (by kernel_rfl) (by kernel_rfl)
  obtain ⟨a2, s2, e2, -⟩ := laid_sentinel (tp := 155) (te := 157) (ts := 9) h4 gS (ti := 39) (by kernel_rfl) hms row_es (by kernel_rfl) hf1 hf2 hf3 Tryz.underlying9 (by kernel_rfl) (by kernel_rfl)
  exact ⟨tab32_of (Lib.tabIs_of_head g32 g32t Tryz.underlying161 Tryz.underlying5 cells5 cells130 h'),
   tab64_of (Lib.tabIs_of_head g64 g64t Tryz.underlying146 Tryz.underlying5 cells5 cells114 (laid_tail h')),
   tab10_of (Lib.tabIs_of_head g10 g10t Tryz.underlying158 Tryz.underlying65 cells58 cells146 (laid_tail (laid_tail h'))),
   ⟨_, cell_of gS e2, .inr ⟨_, _, rfl⟩⟩, ⟨_, cell_of gR e1, .inr ⟨_, _, rfl⟩⟩⟩

set_option maxRecDepth 100000 in
/-- What the walks give, for every argument and every world that holds the tables and the errors. -/
theorem contract (H : Type) (enc : TypeId × Value → H) (W : World) (base : Nat) (args : Array Value) (ds gs : List (DataW H)) (before : List MemPlace)
    (hval : ∀ (j : Nat) t v, Tryz.f3.params[j]? = some t → args[j]? = some v → Value.okWide Tryz.prog W .any base t v)
    (hW : DataW.Whole enc Tryz.prog Tryz.f3.params.toList Rows.dyadReadsSpec.vars false W args.toList ds gs before) (hL : laidMetH Tryz.prog Rows.dyadReadsRow.laid W) :
    Calls Tryz.prog 3 args W fun e W' => ∃ v, e = .returned v ∧ Rows.dyadReadsSpec.post enc Tryz.prog Tryz.f3 false true false false W args v W' := by
  have hW' := hW
  obtain ⟨p, q, hA0, hV, rfl, hfz, hnd⟩ := hW
  have hA : DataW.TrodAll enc Tryz.prog W 0 (fun _ => true) true Tryz.f3.params.toList args.toList ds p := hA0
  rw [Tryz.params3] at hA hval
  obtain ⟨v0, vs0, d0, ds0, p0, q0, hargs, rfl, rfl, h0, r0⟩ := trodAll_cons hA
  obtain ⟨rfl, rfl, rfl⟩ := trodAll_nil r0
  obtain rfl : args = #[v0] := by cases args; simp_all
  obtain ⟨rfl, rfl⟩ := trodVars_none hV
  obtain ⟨s, rfl, rfl, rfl, hz⟩ := ChangeMaps.open_string Tryz.underlying9 (hval 0 9 v0 rfl rfl) h0
  clear hA0
  simp only [List.append_nil, List.nil_append] at hW'
  obtain ⟨t1, t2, t3, t4, t5⟩ := tables hL
  refine (dyadReads_ok s W hz t1 t2 t3 t4 t5).mono fun e W' ⟨he, hb⟩ => ?_
  subst he
  exact ⟨_, rfl, _, _, _, [], _, [], hW', trodAll_cons_mk (shut_bool Tryz.underlying4 _) trodAll_mk0, (trodAll_cons_mk (ChangeMaps.shut_string Tryz.underlying9 hz) trodAll_mk0), rfl, hb.frame _, fun h => by cases h⟩

/-- a world whose tables and errors hold what their initialisers lay; the errors' texts lie at N and N + 1 -/
def laidOn5 (w : World) (N : Nat) : World :=
  { laidOn w with heap := ((laidOn w).heap.modify 3 fun
      | .cells _ t frozen => .cells #[.iface 155 (.pointer (some ⟨N, 0, none⟩))] t frozen
      | o => o).modify 2 fun
      | .cells _ t frozen => .cells #[.iface 155 (.pointer (some ⟨N + 1, 0, none⟩))] t frozen
      | o => o }
theorem laid_met (os : Os) : laidMet Tryz.prog Rows.dyadReadsRow.laid ((laidOn5 (World.holding Tryz.prog os ⟨#[.cells #[.string ⟨#[118, 97, 108, 117, 101, 32, 111, 117, 116, 32, 111, 102, 32, 114, 97, 110, 103, 101]⟩] 157, .cells #[.string ⟨#[105, 110, 118, 97, 108, 105, 100, 32, 115, 121, 110, 116, 97, 120]⟩] 157], #[], []⟩) (World.holding Tryz.prog default ⟨#[], #[], []⟩).heap.size).forCall (fun _ _ => 0) ⟨#[], #[.string ⟨#[]⟩], []⟩).memory :=
  laidMet_of_run' 8 (by kernel_rfl) (by kernel_rfl)
theorem reads (os : Os) {H : Type} (enc : TypeId × Value → H) : ∃ places, DataW.whole enc Tryz.prog ((laidOn5 (World.holding Tryz.prog os ⟨#[.cells #[.string ⟨#[118, 97, 108, 117, 101, 32, 111, 117, 116, 32, 111, 102, 32, 114, 97, 110, 103, 101]⟩] 157, .cells #[.string ⟨#[105, 110, 118, 97, 108, 105, 100, 32, 115, 121, 110, 116, 97, 120]⟩] 157], #[], []⟩) (World.holding Tryz.prog default ⟨#[], #[], []⟩).heap.size).forCall (fun _ _ => 0) ⟨#[], #[.string ⟨#[]⟩], []⟩).memory Tryz.f3.params.toList Rows.dyadReadsSpec.vars false #[Value.string ⟨#[]⟩].toList 8 = some ([.lit (.string [])], [], places) :=
  ⟨[], by kernel_rfl⟩

set_option maxRecDepth 100000 in
theorem lifted (os : Os) (started : os.Started) (H : Type) (enc : TypeId × Value → H) (F : Stop.Interp) :
    ReturnsInHanded {} Tryz.checked os 3 .any ((OpenSpec.ofChange Rows.dyadReadsSpec).preRow enc Tryz.prog Tryz.f3 Rows.dyadReadsRow.domain false Rows.dyadReadsRow.laid) (((OpenSpec.ofChange Rows.dyadReadsSpec).at F).post enc Tryz.prog Tryz.f3 false true false false) := by
  obtain ⟨places, hx⟩ := reads os enc
  refine returnsInHanded_of_row (C := Tryz.checked) (s := OpenSpec.ofChange Rows.dyadReadsSpec) own started (by kernel_rfl) Tryz.func3
    (witness_row_at (enc := enc) (C := Tryz.checked) false (laidOn5 (World.holding Tryz.prog os ⟨#[.cells #[.string ⟨#[118, 97, 108, 117, 101, 32, 111, 117, 116, 32, 111, 102, 32, 114, 97, 110, 103, 101]⟩] 157, .cells #[.string ⟨#[105, 110, 118, 97, 108, 105, 100, 32, 115, 121, 110, 116, 97, 120]⟩] 157], #[], []⟩) (World.holding Tryz.prog default ⟨#[], #[], []⟩).heap.size) #[.string ⟨#[]⟩] rfl (by kernel_rfl) (by kernel_rfl) (by kernel_rfl)
      (OpenSpec.preRow_of_cond 8 hx (by kernel_rfl) (fun k hk => by cases hk) (by kernel_rfl) (laid_met os))) ?_
  intro W base args ds gs before hval hW _ hcond hR hL _ _
  exact contract H enc W base args ds gs before hval hW hL

theorem said : Rows.DyadReadsSaid :=
  OpenClaim.holds_of_cond 3 Tryz.f3 rfl rfl rfl rfl rfl rfl rfl ⟨rfl, rfl, rfl, rfl, rfl⟩ rfl rfl rfl rfl rfl (by kernel_rfl) Tryz.func3 (by kernel_rfl)
    (of_decide_eq_true (by kernel_rfl)) (by unfold Func.isWrapper; first | (rw [if_pos (by decide +kernel)]; kernel_rfl) | (rw [if_neg (by decide +kernel)]; exact ⟨rfl, rfl⟩))
    (fun os started H enc _ F => by rw [OpenClaim.pre_eq_preRow]; exact lifted os started H enc F)

/-- No parameter wants a stand-in; the program's own looks are off. -/
theorem plain (f : FuncId) (fn : Func) (hf : Tryz.pinned.checked.prog.funcNamed Tryz.f3.name = some f) (hfn : Tryz.pinned.checked.prog.funcs[f]? = some fn) :
    true = Tryz.pinned.checked.prog.looks [] ∧ ∀ (j : Nat) t, fn.params[j]? = some t → Tryz.pinned.checked.prog.wantsStandIn t = false := by
  obtain rfl : f = 3 := Option.some.inj ((show Tryz.prog.funcNamed Tryz.f3.name = some 3 by kernel_rfl).symm.trans hf) |>.symm
  obtain rfl : fn = Tryz.f3 := (Option.some.inj (Tryz.func3.symm.trans hfn)).symm
  refine ⟨by kernel_rfl, fun j t ht => ?_⟩
  rw [Tryz.params3] at ht
  obtain rfl : t = 9 := by simpa using Array.mem_of_getElem? ht
  exact (show Tryz.prog.wantsStandIn 9 = false by kernel_rfl)

theorem card : Rows.DyadReadsCardSaid :=
  Claim7.holds_tied_plain_at .later [] _ _ _ _ said (fun _ h => by cases h) (by kernel_rfl) (fun _ h => by cases h) dyadReads_row_tie rfl ⟨rfl, rfl⟩ (by kernel_rfl) rfl plain (by kernel_rfl)
end Go.Proofs.YtbmaoiemgepppaaGreatDoor.dyadReads
