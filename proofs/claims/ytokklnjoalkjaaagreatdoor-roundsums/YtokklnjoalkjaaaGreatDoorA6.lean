/- Own work: contracts of the program's functions, part 6: Shelf S1 S2 T1 T2 T3 T4 R4 R5 E1 Tab F3 F4 G1 G2 Q1 Q2 R6 Q3 ON. -/
import Derived.Shelf.Strings.Builder1
import Derived.Shelf.LaysM
import Derived.Shelf.Strconv.Itoa3
import Derived.Test.YtokklnjoalkjaaaGreatDoorProg
import Derived.Test.YtokklnjoalkjaaaGreatDoorA5
import Derived.Test.YtokklnjoalkjaaaGreatDoorA2
import Derived.Test.YtokklnjoalkjaaaGreatDoorA4
import Derived.Lib.LaidTab
import Derived.Deep.CutRange
import Derived.Deep.RegionLawGrows
import Derived.Deep.RegionHeld3
import Derived.Laws.AppendOwnNone
import Derived.Test.YtokklnjoalkjaaaGreatDoorA3
import Derived.Test.YtokklnjoalkjaaaGreatDoorRows
import Derived.Carry
import Derived.ChangeSlices
import Derived.WalkKit
import Derived.ProofKit
import Derived.OpenShut
import Derived.WalkLawsBesides
import Derived.ChangeAlike
import Derived.Lib.SmallJoins
import Derived.SizedLaws

set_option maxHeartbeats 16000000
set_option maxRecDepth 200000
set_option linter.unusedVariables false
set_option linter.unusedSimpArgs false
/- The library's contracts at this program that are used: the builder's text, a whole number's decimal digits. -/
namespace Go.Proofs
open Go.Shelf
end Go.Proofs
namespace Go.Proofs.YtokklnjoalkjaaaGreatDoor
open Go.RowKit
end Go.Proofs.YtokklnjoalkjaaaGreatDoor
namespace Go.Proofs.YtokklnjoalkjaaaGreatDoor
open Go.RowKit Go.Fl64
theorem is_nil (w:World):Is w (.slice none 0 0) 0:=⟨none,0,by rw[dlen_zero],by rw[dlen_zero];omega,by omega,0,0,fun h=>by rw[dlen_zero] at h;omega,fun i hi=>by rw[dlen_zero] at hi;omega⟩
theorem two_at (m:Nat) (w:World) (hm:m<18446744073709551616):At (w.alloc (Obj.cells #[Value.int IntKind.u32 ((m:Int) % 4294967296),Value.int IntKind.u32 ((m:Int) / 4294967296)] 68)) (some ⟨w.heap.size,0,none⟩) 2 m:=by
 have hM:Mk w (w.alloc (Obj.cells #[Value.int IntKind.u32 ((m:Int) % 4294967296),Value.int IntKind.u32 ((m:Int) / 4294967296)] 68)) 2 (dg m):=by
  refine⟨(Below.refl _ _).alloc (Nat.le_refl _) _,by simp,World.rowIs_alloc w _ _ _ fun i hi=>?_⟩
  match i,hi with
  | 0,_=>simp[dg,B]
  | 1,_=>simp[dg,B];omega
 exact hM.at
theorem and_2047 (x:Nat) (h:x<18446744073709551616):bits .and .u64 (x:Int) 2047=((x % 2048:Nat):Int):=by
 have e:=u64_and_nat x 2047 h (by decide)
 rw[show((2047:Nat):Int)=2047 from rfl] at e
 rw[e]
 congr 1
 have:=Nat.and_two_pow_sub_one_eq_mod x 11
 simpa using this
theorem own:ownKnob Tryz.prog.godebug=none:=by kernel_rfl
theorem g64 : Tryz.prog.globalNamed "math/bits.deBruijn64tab" = some 1 := by kernel_rfl
theorem g64t:(Tryz.prog.globals[1]?).map (·.type)=some 128:=by kernel_rfl
theorem g32 : Tryz.prog.globalNamed "math/bits.deBruijn32tab" = some 2 := by kernel_rfl
theorem g32t:(Tryz.prog.globals[2]?).map (·.type)=some 130:=by kernel_rfl
theorem cells114:Tryz.prog.cellsOf 128=64:=by kernel_rfl
theorem cells130:Tryz.prog.cellsOf 130=32:=by kernel_rfl
theorem cells5:Tryz.prog.cellsOf 5=1:=by kernel_rfl
def zs64:List Int := [0,1,56,2,57,49,28,3,61,58,42,50,38,29,17,4,62,47,59,36,45,43,51,22,53,39,33,30,24,18,12,5,63,55,48,27,60,41,37,16,46,35,44,21,52,32,23,11,54,26,40,15,34,20,31,10,25,14,19,9,13,8,7,6]
def zs32:List Int := [0,1,28,2,29,14,24,3,30,22,20,15,25,17,4,8,31,27,13,23,21,19,16,7,26,12,18,6,11,5,10,9]
theorem zs64_at:∀ i,i<64→zs64.getD i 0=((Lib.deBruijn64tab.getD i 0:Nat):Int):=by decide +kernel
theorem zs32_at:∀ i,i<32→zs32.getD i 0=((Lib.deBruijn32tab.getD i 0:Nat):Int):=by decide +kernel
theorem tab64_of {W : World} (h : Lib.TabIs Tryz.prog W "math/bits.deBruijn64tab" .u8 zs64) : Ie.Tab W := by
 intro i hi
 have:=h.cell g64 i (by exact hi)
 rw[zs64_at i hi] at this
 exact this
theorem tab32_of {W : World} (h : Lib.TabIs Tryz.prog W "math/bits.deBruijn32tab" .u8 zs32) : Tab32 W := by
 intro i hi
 have:=h.cell g32 i (by exact hi)
 rw[zs32_at i hi] at this
 exact this
theorem laid_tail {P:Program} {W:World} {x:String×DataW Unit} {rest:List (String×DataW Unit)} (h:laidMet P (x :: rest) W):laidMet P rest W:=by
 obtain⟨ps,⟨g',t',cs,fuel,p,q,hg',ht',hvar,hd,hr,rfl⟩,hn,hc⟩:=h
 exact⟨q,hr,(List.nodup_append.1 hn).2.1,fun b off hm=>hc b off (List.mem_append_right _ hm)⟩
theorem c75 {neg:Bool} {ao:Option Addr} {cap x:Nat} {e:Int} {w:World} (h:Is w (.slice ao (dlen x) cap) x) (hx:dlen x≤1000000) (he1 : -4000000≤e) (he2:e≤4000000) :
  Calls Tryz.prog 175 #[.agg #[.bool neg,.slice ao (dlen x) cap,.int .i64 e]] w fun r w'=>r=.returned (.int .i64 (bl x+e))∧Bw w w':=by
 have hb:=bl_le_dlen x
 exact c75_1 neg ao _ cap (bl x) e w (by omega) he1 he2 fun W hW=>c74 (h.later hW) (by omega)
theorem c77_0 (na nb:Bool) (ua va:Option Addr) (uc vc:Nat) (ea eb:Int) (w:World) :
  Calls Tryz.prog 156 #[.agg #[.bool na,.slice ua 0 uc,.int .i64 ea],.agg #[.bool nb,.slice va 0 vc,.int .i64 eb]] w fun r w'=>r=.returned (.int .i64 0)∧Bw w w':=by
 obtain⟨W,hW⟩:∃ W,W=(w.alloc (.cells #[.bool na,.slice ua 0 uc,.int .i64 ea] 45)).alloc (.cells #[.bool nb,.slice va 0 vc,.int .i64 eb] 45):=⟨_,rfl⟩
 have hBW:Bw w W:=by rw[hW];exact((Below.refl _ _).alloc (Nat.le_refl _) _).alloc (by simp) _
 have hbB:W.heap[w.heap.size+1]?=some (.cells #[.bool nb,.slice va 0 vc,.int .i64 eb] 45 (0,0)):=by
  have:=heap_alloc_new (w.alloc (.cells #[.bool na,.slice ua 0 uc,.int .i64 ea] 45)) (.cells #[.bool nb,.slice va 0 vc,.int .i64 eb] 45)
  rw[hW];simpa using this
 have hsz:W.heap.size=w.heap.size+1+1:=by rw[hW];simp
 have HC:Hid (∀ w',Bw W w'→(w'.cell? ⟨w.heap.size+1,0,none⟩=some (.bool nb)∧w'.cell? ⟨w.heap.size+1,1,none⟩=some (.slice va 0 vc)∧w'.cell? ⟨w.heap.size+1,2,none⟩=some (.int .i64 eb))):=fun w' hb=>(box_cells (box_later hbB hb (by omega))).1
 have ka:∀ W',Calls Tryz.prog 91 #[.agg #[.bool na,.slice ua 0 uc,.int .i64 ea]] W' fun r w'=>r=.returned (.int .i64 0)∧Bw W' w':=fun W' =>
  (c72 na ua 0 uc ea W' (by omega)).mono fun r w' ⟨e1,e2⟩=>⟨e1,by rw[e2];exact(Below.refl _ _).alloc (Nat.le_refl _) _⟩
 have kb:∀ W',Calls Tryz.prog 91 #[.agg #[.bool nb,.slice va 0 vc,.int .i64 eb]] W' fun r w'=>r=.returned (.int .i64 0)∧Bw W' w':=fun W' =>
  (c72 nb va 0 vc eb W' (by omega)).mono fun r w' ⟨e1,e2⟩=>⟨e1,by rw[e2];exact(Below.refl _ _).alloc (Nat.le_refl _) _⟩
 have HB:Hid (Bw w W):=hBW
 clear hBW hbB hsz
 go_enter Tryz.func156,Tryz.ntmps156
 go_wp2_with fail
 rw[←hW]
 clear hW
 refine(ka W).mono ?_
 rintro r w1 ⟨rfl,hB1⟩
 obtain⟨x1,x2,x3⟩:=HC.out w1 hB1
 have HB1:Hid (Bw W w1):=hB1
 clear hB1
 go_wp2_with fail
 refine(kb _).mono ?_
 rintro r w2 ⟨rfl,hB2⟩
 have HF:Hid (Bw w w2):=HB.out.trans ((below_step HB1.out hB2).mono HB.out.size)
 clear x1 x2 x3 hB2
 go_wp2_with fail
 go_ret
 exact⟨rfl,HF.out⟩
theorem c77_2 (na : Bool) (ua va : Option Addr) (un uc vn vc : Nat) (ea eb s ta tb cv pv : Int) (w : World) (hs : Hid (sgI na un = s ∧ sgI na vn = s)) (hs0 : (s == 0) = false) (hss : (s != s) = false) (htt : (ta != tb) = true) (hun : un ≤ 35184372088832) (hvn : vn ≤ 35184372088832)
    (hcv : Hid (∀ W, Calls Tryz.prog 164 #[.int .i64 ta, .int .i64 tb] W fun r w' => r = .returned (.int .i64 cv) ∧ w' = W)) (hpv : IntKind.i64.wrap (s * cv) = pv)
    (kta : ∀ W, Bw w W → Calls Tryz.prog 175 #[.agg #[.bool na, .slice ua un uc, .int .i64 ea]] W fun r w' => r = .returned (.int .i64 ta) ∧ Bw W w')
    (ktb : ∀ W, Bw w W → Calls Tryz.prog 175 #[.agg #[.bool na, .slice va vn vc, .int .i64 eb]] W fun r w' => r = .returned (.int .i64 tb) ∧ Bw W w') :
    Calls Tryz.prog 156 #[.agg #[.bool na, .slice ua un uc, .int .i64 ea], .agg #[.bool na, .slice va vn vc, .int .i64 eb]] w fun r w' => r = .returned (.int .i64 pv) ∧ Bw w w' := by
  obtain ⟨W, hW⟩ : ∃ W, W = (w.alloc (.cells #[.bool na, .slice ua un uc, .int .i64 ea] 45)).alloc (.cells #[.bool na, .slice va vn vc, .int .i64 eb] 45) := ⟨_, rfl⟩
  have hBW : Bw w W := by rw [hW]; exact ((Below.refl _ _).alloc (Nat.le_refl _) _).alloc (by simp) _
  have hbA : W.heap[w.heap.size]? = some (.cells #[.bool na, .slice ua un uc, .int .i64 ea] 45 (0, 0)) := by
    rw [hW, Below.heap_alloc _ _ _ (by simp)]; exact heap_alloc_new _ _
  have hbB : W.heap[w.heap.size + 1]? = some (.cells #[.bool na, .slice va vn vc, .int .i64 eb] 45 (0, 0)) := by
    have := heap_alloc_new (w.alloc (.cells #[.bool na, .slice ua un uc, .int .i64 ea] 45)) (.cells #[.bool na, .slice va vn vc, .int .i64 eb] 45)
    rw [hW]; simpa using this
  have hsz : W.heap.size = w.heap.size + 1 + 1 := by rw [hW]; simp
  have HCC : Hid (∀ w', Bw W w' → ((w'.cell? ⟨w.heap.size, 0, none⟩ = some (.bool na) ∧ w'.cell? ⟨w.heap.size, 1, none⟩ = some (.slice ua un uc) ∧ w'.cell? ⟨w.heap.size, 2, none⟩ = some (.int .i64 ea)) ∧ (w'.cell? ⟨w.heap.size + 1, 0, none⟩ = some (.bool na) ∧ w'.cell? ⟨w.heap.size + 1, 1, none⟩ = some (.slice va vn vc) ∧ w'.cell? ⟨w.heap.size + 1, 2, none⟩ = some (.int .i64 eb))) ∧ Bw W w') := fun w' hb => ⟨⟨(box_cells (box_later hbA hb (by omega))).1, (box_cells (box_later hbB hb (by omega))).1⟩, hb⟩
  have ka : ∀ W', Calls Tryz.prog 91 #[.agg #[.bool na, .slice ua un uc, .int .i64 ea]] W' fun r w' => r = .returned (.int .i64 s) ∧ Bw W' w' := fun W' =>
    (c72 na ua un uc ea W' hun).mono fun r w' ⟨e1, e2⟩ => ⟨by rw [e1, hs.out.1], by rw [e2]; exact (Below.refl _ _).alloc (Nat.le_refl _) _⟩
  have kb : ∀ W', Calls Tryz.prog 91 #[.agg #[.bool na, .slice va vn vc, .int .i64 eb]] W' fun r w' => r = .returned (.int .i64 s) ∧ Bw W' w' := fun W' =>
    (c72 na va vn vc eb W' hvn).mono fun r w' ⟨e1, e2⟩ => ⟨by rw [e1, hs.out.2], by rw [e2]; exact (Below.refl _ _).alloc (Nat.le_refl _) _⟩
  have HB : Hid (Bw w W) := hBW
  have k1 : ∀ w', Bw W w' → Calls Tryz.prog 175 #[.agg #[.bool na, .slice ua un uc, .int .i64 ea]] w' fun r w'' => r = .returned (.int .i64 ta) ∧ Bw W w'' := fun w' h => (kta w' (hBW.trans (h.mono hBW.size))).mono fun r w'' ⟨e1, e2⟩ => ⟨e1, h.trans (e2.mono h.size)⟩
  have k2 : ∀ w', Bw W w' → Calls Tryz.prog 175 #[.agg #[.bool na, .slice va vn vc, .int .i64 eb]] w' fun r w'' => r = .returned (.int .i64 tb) ∧ Bw W w'' := fun w' h => (ktb w' (hBW.trans (h.mono hBW.size))).mono fun r w'' ⟨e1, e2⟩ => ⟨e1, h.trans (e2.mono h.size)⟩
  clear hBW hbA hbB hsz hs kta ktb hun hvn
  go_enter Tryz.func156, Tryz.ntmps156
  go_wp2_with fail
  rw [← hW]
  clear hW
  refine (ka W).mono ?_
  rintro r w1 ⟨rfl, hB1⟩
  obtain ⟨⟨-, x1, x2, x3⟩, -⟩ := HCC.out w1 hB1
  have HB1 : Hid (Bw W w1) := hB1
  clear hB1
  go_wp2_with fail
  refine (kb _).mono ?_
  rintro r w2 ⟨rfl, hB2⟩
  have HB2 : Hid (Bw W w2) := below_step HB1.out hB2
  clear x1 x2 x3 hB2 ka kb HB1
  go_upto_region 6 with fail
  obtain ⟨⟨⟨a0, a1, a2⟩, b0, b1, b2⟩, hB0⟩ := HCC.out w2 HB2.out
  have hBR : Bw W w2.drew := hB0.drew
  go_cut [23] from 24 to 28 (fun v wx => v = .bool true ∧ Hid (Bw W wx))
  case first =>
    go_region_held3 (fun w' => ((w'.cell? ⟨w.heap.size, 0, none⟩ = some (.bool na) ∧ w'.cell? ⟨w.heap.size, 1, none⟩ = some (.slice ua un uc) ∧ w'.cell? ⟨w.heap.size, 2, none⟩ = some (.int .i64 ea)) ∧ (w'.cell? ⟨w.heap.size + 1, 0, none⟩ = some (.bool na) ∧ w'.cell? ⟨w.heap.size + 1, 1, none⟩ = some (.slice va vn vc) ∧ w'.cell? ⟨w.heap.size + 1, 2, none⟩ = some (.int .i64 eb))) ∧ Bw W w') (first | (with_reducible assumption) | exact HCC.out _ hBR | exact ⟨⟨⟨a0, a1, a2⟩, b0, b1, b2⟩, hBR⟩ | (refine HCC.out _ ?_; with_reducible assumption) | go_keep)
      (first | (go_at_call_of 175 (Value.slice ua un uc); refine (k1 _ (by first | (with_reducible assumption) | exact Below.drew (by assumption))).mono ?_; rintro r w5 ⟨rfl, hb5⟩)
             | (go_at_call_of 175 (Value.slice va vn vc); refine (k2 _ (by first | (with_reducible assumption) | exact Below.drew (by assumption))).mono ?_; rintro r w6 ⟨rfl, hb6⟩))
    all_goals go_wp2_with fail
    all_goals go_meet
    all_goals exact ⟨rfl, hb6⟩
  case rest =>
    obtain ⟨W2, rfl⟩ : ∃ W2 : World, W2 = wc := ⟨_, rfl⟩
    obtain ⟨rfl, HB3⟩ := hcut
    clear a0 a1 a2 b0 b1 b2 hBR hB0
    go_upto_region 7 with fail
    obtain ⟨⟨⟨a0, a1, a2⟩, b0, b1, b2⟩, hB0⟩ := HCC.out W2 HB3.out
    have hBR : Bw W W2.drew := hB0.drew
    have k3 := hcv.out
    go_region_held3 (fun w' => ((w'.cell? ⟨w.heap.size, 0, none⟩ = some (.bool na) ∧ w'.cell? ⟨w.heap.size, 1, none⟩ = some (.slice ua un uc) ∧ w'.cell? ⟨w.heap.size, 2, none⟩ = some (.int .i64 ea)) ∧ (w'.cell? ⟨w.heap.size + 1, 0, none⟩ = some (.bool na) ∧ w'.cell? ⟨w.heap.size + 1, 1, none⟩ = some (.slice va vn vc) ∧ w'.cell? ⟨w.heap.size + 1, 2, none⟩ = some (.int .i64 eb))) ∧ Bw W w') (first | (with_reducible assumption) | exact HCC.out _ hBR | exact ⟨⟨⟨a0, a1, a2⟩, b0, b1, b2⟩, hBR⟩ | (refine HCC.out _ ?_; with_reducible assumption) | go_keep)
      (first | (go_at_call_of 175 (Value.slice ua un uc); refine (k1 _ (by first | (with_reducible assumption) | exact Below.drew (by assumption))).mono ?_; rintro r w5 ⟨rfl, hb5⟩)
             | (go_at_call_of 175 (Value.slice va vn vc); refine (k2 _ (by first | (with_reducible assumption) | exact Below.drew (by assumption))).mono ?_; rintro r w6 ⟨rfl, hb6⟩)
             | (go_at_call 164; refine (k3 _).mono ?_; rintro r w7 ⟨rfl, rfl⟩))
    all_goals go_wp2_with fail
    all_goals go_ret
    all_goals exact ⟨rfl, HB.out.trans (hb6.mono HB.out.size)⟩
theorem c77_3 (na : Bool) (ua va : Option Addr) (un uc vn vc : Nat) (ea eb s ta tb cv pv : Int) (PQ : World → Value → Value → Prop) (w : World) (hs : Hid (sgI na un = s ∧ sgI na vn = s)) (hs0 : (s == 0) = false) (hss : (s != s) = false) (htt : (ta != tb) = false) (hun : un ≤ 35184372088832) (hvn : vn ≤ 35184372088832)
    (kal : ∀ W, Bw w W → Calls Tryz.prog 153 #[.agg #[.bool na, .slice ua un uc, .int .i64 ea], .agg #[.bool na, .slice va vn vc, .int .i64 eb]] W fun r w' => ∃ p q e', r = .returned (.tuple #[p, q, .int .i64 e']) ∧ PQ w' p q ∧ Bw W w')
    (kcd : ∀ W p q, PQ W p q → Calls Tryz.prog 136 #[p, q] W fun r w' => r = .returned (.int .i64 cv) ∧ Bw W w') (hpv : IntKind.i64.wrap (s * cv) = pv)
    (kta : ∀ W, Bw w W → Calls Tryz.prog 175 #[.agg #[.bool na, .slice ua un uc, .int .i64 ea]] W fun r w' => r = .returned (.int .i64 ta) ∧ Bw W w')
    (ktb : ∀ W, Bw w W → Calls Tryz.prog 175 #[.agg #[.bool na, .slice va vn vc, .int .i64 eb]] W fun r w' => r = .returned (.int .i64 tb) ∧ Bw W w') :
    Calls Tryz.prog 156 #[.agg #[.bool na, .slice ua un uc, .int .i64 ea], .agg #[.bool na, .slice va vn vc, .int .i64 eb]] w fun r w' => r = .returned (.int .i64 pv) ∧ Bw w w' := by
  obtain ⟨W, hW⟩ : ∃ W, W = (w.alloc (.cells #[.bool na, .slice ua un uc, .int .i64 ea] 45)).alloc (.cells #[.bool na, .slice va vn vc, .int .i64 eb] 45) := ⟨_, rfl⟩
  have hBW : Bw w W := by rw [hW]; exact ((Below.refl _ _).alloc (Nat.le_refl _) _).alloc (by simp) _
  have hbA : W.heap[w.heap.size]? = some (.cells #[.bool na, .slice ua un uc, .int .i64 ea] 45 (0, 0)) := by
    rw [hW, Below.heap_alloc _ _ _ (by simp)]; exact heap_alloc_new _ _
  have hbB : W.heap[w.heap.size + 1]? = some (.cells #[.bool na, .slice va vn vc, .int .i64 eb] 45 (0, 0)) := by
    have := heap_alloc_new (w.alloc (.cells #[.bool na, .slice ua un uc, .int .i64 ea] 45)) (.cells #[.bool na, .slice va vn vc, .int .i64 eb] 45)
    rw [hW]; simpa using this
  have hsz : W.heap.size = w.heap.size + 1 + 1 := by rw [hW]; simp
  have HCC : Hid (∀ w', Bw W w' → ((w'.cell? ⟨w.heap.size, 0, none⟩ = some (.bool na) ∧ w'.cell? ⟨w.heap.size, 1, none⟩ = some (.slice ua un uc) ∧ w'.cell? ⟨w.heap.size, 2, none⟩ = some (.int .i64 ea)) ∧ (w'.cell? ⟨w.heap.size + 1, 0, none⟩ = some (.bool na) ∧ w'.cell? ⟨w.heap.size + 1, 1, none⟩ = some (.slice va vn vc) ∧ w'.cell? ⟨w.heap.size + 1, 2, none⟩ = some (.int .i64 eb))) ∧ Bw W w') := fun w' hb => ⟨⟨(box_cells (box_later hbA hb (by omega))).1, (box_cells (box_later hbB hb (by omega))).1⟩, hb⟩
  have ka : ∀ W', Calls Tryz.prog 91 #[.agg #[.bool na, .slice ua un uc, .int .i64 ea]] W' fun r w' => r = .returned (.int .i64 s) ∧ Bw W' w' := fun W' =>
    (c72 na ua un uc ea W' hun).mono fun r w' ⟨e1, e2⟩ => ⟨by rw [e1, hs.out.1], by rw [e2]; exact (Below.refl _ _).alloc (Nat.le_refl _) _⟩
  have kb : ∀ W', Calls Tryz.prog 91 #[.agg #[.bool na, .slice va vn vc, .int .i64 eb]] W' fun r w' => r = .returned (.int .i64 s) ∧ Bw W' w' := fun W' =>
    (c72 na va vn vc eb W' hvn).mono fun r w' ⟨e1, e2⟩ => ⟨by rw [e1, hs.out.2], by rw [e2]; exact (Below.refl _ _).alloc (Nat.le_refl _) _⟩
  have HB : Hid (Bw w W) := hBW
  have k1 : ∀ w', Bw W w' → Calls Tryz.prog 175 #[.agg #[.bool na, .slice ua un uc, .int .i64 ea]] w' fun r w'' => r = .returned (.int .i64 ta) ∧ Bw W w'' := fun w' h => (kta w' (hBW.trans (h.mono hBW.size))).mono fun r w'' ⟨e1, e2⟩ => ⟨e1, h.trans (e2.mono h.size)⟩
  have k2 : ∀ w', Bw W w' → Calls Tryz.prog 175 #[.agg #[.bool na, .slice va vn vc, .int .i64 eb]] w' fun r w'' => r = .returned (.int .i64 tb) ∧ Bw W w'' := fun w' h => (ktb w' (hBW.trans (h.mono hBW.size))).mono fun r w'' ⟨e1, e2⟩ => ⟨e1, h.trans (e2.mono h.size)⟩
  have KLN : Hid _ := kal
  have KCD : Hid _ := kcd
  clear hBW hbA hbB hsz hs kta ktb hun hvn kal kcd
  go_enter Tryz.func156, Tryz.ntmps156
  go_wp2_with fail
  rw [← hW]
  clear hW
  refine (ka W).mono ?_
  rintro r w1 ⟨rfl, hB1⟩
  obtain ⟨⟨-, x1, x2, x3⟩, -⟩ := HCC.out w1 hB1
  have HB1 : Hid (Bw W w1) := hB1
  clear hB1
  go_wp2_with fail
  refine (kb _).mono ?_
  rintro r w2 ⟨rfl, hB2⟩
  have HB2 : Hid (Bw W w2) := below_step HB1.out hB2
  clear x1 x2 x3 hB2 ka kb HB1
  go_upto_region 6 with fail
  obtain ⟨⟨⟨a0, a1, a2⟩, b0, b1, b2⟩, hB0⟩ := HCC.out w2 HB2.out
  have hBR : Bw W w2.drew := hB0.drew
  go_cut [23] from 24 to 28 (fun v wx => v = .bool false ∧ Hid (Bw W wx))
  case first =>
    go_region_held3 (fun w' => ((w'.cell? ⟨w.heap.size, 0, none⟩ = some (.bool na) ∧ w'.cell? ⟨w.heap.size, 1, none⟩ = some (.slice ua un uc) ∧ w'.cell? ⟨w.heap.size, 2, none⟩ = some (.int .i64 ea)) ∧ (w'.cell? ⟨w.heap.size + 1, 0, none⟩ = some (.bool na) ∧ w'.cell? ⟨w.heap.size + 1, 1, none⟩ = some (.slice va vn vc) ∧ w'.cell? ⟨w.heap.size + 1, 2, none⟩ = some (.int .i64 eb))) ∧ Bw W w') (first | (with_reducible assumption) | exact HCC.out _ hBR | exact ⟨⟨⟨a0, a1, a2⟩, b0, b1, b2⟩, hBR⟩ | (refine HCC.out _ ?_; with_reducible assumption) | go_keep)
      (first | (go_at_call_of 175 (Value.slice ua un uc); refine (k1 _ (by first | (with_reducible assumption) | exact Below.drew (by assumption))).mono ?_; rintro r w5 ⟨rfl, hb5⟩)
             | (go_at_call_of 175 (Value.slice va vn vc); refine (k2 _ (by first | (with_reducible assumption) | exact Below.drew (by assumption))).mono ?_; rintro r w6 ⟨rfl, hb6⟩))
    all_goals go_wp2_with fail
    all_goals go_meet
    all_goals exact ⟨rfl, hb6⟩
  case rest =>
    obtain ⟨W2, rfl⟩ : ∃ W2 : World, W2 = wc := ⟨_, rfl⟩
    obtain ⟨rfl, HB3⟩ := hcut
    clear a0 a1 a2 b0 b1 b2 hBR hB0
    obtain ⟨⟨⟨a0, a1, a2⟩, b0, b1, b2⟩, hB0⟩ := HCC.out W2 HB3.out
    have HB3' : Hid (Bw w W2) := HB.out.trans (hB0.mono HB.out.size)
    have k4 := KLN.out W2 HB3'.out
    go_wp2_with fail
    refine k4.mono ?_
    rintro r w5 ⟨p, q, e', rfl, hpq, hb5⟩
    have k5 := KCD.out w5 p q hpq
    have HB5 : Hid (Bw w w5) := HB3'.out.trans (hb5.mono HB3'.out.size)
    clear k4 hb5 hpq a0 a1 a2 b0 b1 b2 hB0
    go_wp2_with fail
    refine k5.mono ?_
    rintro r w6 ⟨rfl, hb6⟩
    have HB6 : Hid (Bw w w6) := HB5.out.trans (hb6.mono HB5.out.size)
    clear k5 hb6
    go_wp2_with fail
    go_ret
    exact ⟨rfl, HB6.out⟩
def ordN (na:Bool) (x:Nat) (ea:Int) (nb:Bool) (y:Nat) (eb:Int):Int :=
 if sgI na (dlen x)=sgI nb (dlen y)then sgI na (dlen x)*cmpI (x*2^(ea - min ea eb).toNat:Nat) (y*2^(eb - min ea eb).toNat:Nat)else cmpI (sgI na (dlen x)) (sgI nb (dlen y))
theorem cmpI_cases (x y:Int):(x<y∧cmpI x y = -1)∨(y<x∧cmpI x y=1)∨(x=y∧cmpI x y=0):=by
 unfold cmpI
 by_cases h1:x<y
 ·rw[if_pos h1];exact .inl ⟨h1,rfl⟩
 ·rw[if_neg h1]
  by_cases h2:y<x
  ·rw[if_pos h2];exact .inr (.inl ⟨h2,rfl⟩)
  ·rw[if_neg h2];exact .inr (.inr ⟨by omega,rfl⟩)
theorem sgI_pos {na:Bool} {n:Nat} (h:n≠0):sgI na n=if na then -1 else 1:=by unfold sgI;rw[if_neg h]
theorem sgI_zero {na:Bool}:sgI na 0=0:=by unfold sgI;rw[if_pos rfl]
theorem top_lt {x y k l:Nat} (hy:y≠0) (h:bl x+k<bl y+l):x*2^k<y*2^l:=by
 have h1:=lt_bl x
 have h2:=le_bl hy
 have hb:bl y≠0:=by unfold bl;rw[if_neg hy];omega
 have h3:x*2^k<2^(bl x+k):=by rw[Nat.pow_add];exact Nat.mul_lt_mul_of_pos_right h1 (Nat.two_pow_pos k)
 have h4:2^(bl x+k)≤2^(bl y - 1+l):=Nat.pow_le_pow_right (by omega) (by omega)
 have h5:2^(bl y - 1+l)≤y*2^l:=by rw[Nat.pow_add];exact Nat.mul_le_mul_right _ h2
 omega
theorem c77 {na nb:Bool} {ua va:Option Addr} {uc vc x y:Nat} {ea eb:Int} {w:World} (h1:Is w (.slice ua (dlen x) uc) x) (h2:Is w (.slice va (dlen y) vc) y) (hx:dlen x≤500000) (hy:dlen y≤500000) (ha : -2000000≤ea∧ea≤2000000) (hb : -2000000≤eb∧eb≤2000000) :
  Calls Tryz.prog 156 #[.agg #[.bool na,.slice ua (dlen x) uc,.int .i64 ea],.agg #[.bool nb,.slice va (dlen y) vc,.int .i64 eb]] w fun r w'=>r=.returned (.int .i64 (ordN na x ea nb y eb))∧Bw w w':=by
 unfold ordN
 by_cases hs:sgI na (dlen x)=sgI nb (dlen y)
 ·rw[if_pos hs]
  by_cases hx0:x=0
  ·subst hx0
   have hy0:y=0:=by
    rw[dlen_zero,sgI_zero] at hs
    apply dlen_eq_zero.1
    apply Decidable.byContradiction
    intro h
    rw[sgI_pos h] at hs
    cases nb <;> simp at hs
   subst hy0
   rw[dlen_zero,sgI_zero,Int.zero_mul]
   exact c77_0 na nb ua va uc vc ea eb w
  ·have hdx:dlen x≠0:=fun e=>hx0 (dlen_eq_zero.1 e)
   have hdy:dlen y≠0:=by
    intro e
    rw[e,sgI_zero,sgI_pos hdx] at hs
    cases na <;> simp at hs
   have hy0:y≠0:=fun e=>hdy (by rw[e,dlen_zero])
   obtain rfl:na=nb:=by
    rw[sgI_pos hdx,sgI_pos hdy] at hs
    cases na <;> cases nb <;> simp at hs ⊢
   have hs1:sgI na (dlen x) = -1∨sgI na (dlen x)=1:=by rw[sgI_pos hdx];cases na <;> simp
   have kta:∀ W,Bw w W→Calls Tryz.prog 175 #[.agg #[.bool na,.slice ua (dlen x) uc,.int .i64 ea]] W fun r w'=>r=.returned (.int .i64 (bl x+ea))∧Bw W w':=fun W hW=>c75 (h1.later hW) (by omega) (by omega) (by omega)
   have ktb:∀ W,Bw w W→Calls Tryz.prog 175 #[.agg #[.bool na,.slice va (dlen y) vc,.int .i64 eb]] W fun r w'=>r=.returned (.int .i64 (bl y+eb))∧Bw W w':=fun W hW=>c75 (h2.later hW) (by omega) (by omega) (by omega)
   have hsz:(sgI na (dlen x)==0)=false:=by rcases hs1 with h|h <;> rw[h] <;> decide
   have hss:(sgI na (dlen x) != sgI na (dlen x))=false:=by simp
   have hw:∀ c:Int,c = -1∨c=1∨c=0→IntKind.i64.wrap (sgI na (dlen x)*c)=sgI na (dlen x)*c:=by
    intro c hc
    rcases hs1 with h|h <;> rcases hc with rfl|rfl|rfl <;> rw[h] <;> decide
   have hem:(ea - min ea eb).toNat=ea - min ea eb∧(eb - min ea eb).toNat=eb - min ea eb:=by omega
   by_cases ht:(bl x:Int)+ea=bl y+eb
   ·refine c77_3 na ua va _ uc _ vc ea eb (sgI na (dlen x)) (bl x+ea) (bl y+eb) (cmpI (x*2^(ea - min ea eb).toNat:Nat) (y*2^(eb - min ea eb).toNat:Nat)) _ (fun W p q=>Is W p (x*2^(ea - min ea eb).toNat)∧Is W q (y*2^(eb - min ea eb).toNat)) w ⟨rfl,hs.symm⟩ hsz hss (by rw[ht];simp) (by omega) (by omega) ?_ ?_ (hw _ ?_) kta ktb
    ·intro W hW
     refine Calls.mono (c99 (na:=na) (nb:=na) (h1.later hW) (h2.later hW) (by omega) (by omega) (by omega) (by omega)) ?_
     rintro r w' ⟨p,q,rfl,hp,hq,hb'⟩
     exact⟨p,q,_,rfl,⟨hp.is,hq.is⟩,hb'⟩
    ·rintro W p q ⟨hp,hq⟩
     have l1:dlen (x*2^(ea - min ea eb).toNat)≤760000:=by have:=shl_len (x:=x) (k:=(ea - min ea eb).toNat) rfl;omega
     have l2:dlen (y*2^(eb - min ea eb).toNat)≤760000:=by have:=shl_len (x:=y) (k:=(eb - min ea eb).toNat) rfl;omega
     refine(c129 hp hq (by omega) (by omega)).mono ?_
     rintro r w' ⟨rfl,d,rfl⟩
     exact⟨rfl,rfl,rfl,rfl,Nat.le_refl _,fun _ _=>rfl⟩
    ·rcases cmpI_cases (x*2^(ea - min ea eb).toNat:Nat) (y*2^(eb - min ea eb).toNat:Nat)with h|h|h
     ·exact .inl h.2
     ·exact .inr (.inl h.2)
     ·exact .inr (.inr h.2)
   ·have ec:cmpI (x*2^(ea - min ea eb).toNat:Nat) (y*2^(eb - min ea eb).toNat:Nat)=cmpI (bl x+ea) (bl y+eb):=by
     rcases cmpI_cases (bl x+ea) (bl y+eb)with h|h|h
     ·have:=top_lt (x:=x) (k:=(ea - min ea eb).toNat) (l:=(eb - min ea eb).toNat) hy0 (by omega)
      rw[h.2];unfold cmpI;rw[if_pos (by omega)]
     ·have:=top_lt (x:=y) (y:=x) (k:=(eb - min ea eb).toNat) (l:=(ea - min ea eb).toNat) hx0 (by omega)
      rw[h.2];unfold cmpI;rw[if_neg (by omega),if_pos (by omega)]
     ·exact absurd h.1 ht
    rw[ec]
    refine c77_2 na ua va _ uc _ vc ea eb (sgI na (dlen x)) (bl x+ea) (bl y+eb) (cmpI (bl x+ea) (bl y+eb)) _ w ⟨rfl,hs.symm⟩ hsz hss (by simp;omega) (by omega) (by omega) (fun W=>c128 _ _ W) (hw _ ?_) kta ktb
    rcases cmpI_cases (bl x+ea) (bl y+eb)with h|h|h
    ·exact .inl h.2
    ·exact .inr (.inl h.2)
    ·exact .inr (.inr h.2)
 ·rw[if_neg hs]
  exact c77_1 na nb ua va _ uc _ vc ea eb _ _ w rfl rfl (by simp;exact hs) (by omega) (by omega)
theorem cmp_ok {na nb:Bool} {ua va:Option Addr} {uc vc x y:Nat} {ea eb:Int} {w:World} (h1:Is w (.slice ua (dlen x) uc) x) (h2:Is w (.slice va (dlen y) vc) y) (hx:dlen x≤500000) (hy:dlen y≤500000) (ha : -2000000≤ea∧ea≤2000000) (hb : -2000000≤eb∧eb≤2000000)
  (hoka:okN na (dlen x) x ea=true) (hokb:okN nb (dlen y) y eb=true) :
  Calls Tryz.prog 117 #[.agg #[.bool na,.slice ua (dlen x) uc,.int .i64 ea],.agg #[.bool nb,.slice va (dlen y) vc,.int .i64 eb]] w fun r w'=>r=.returned (.int .i64 (ordN na x ea nb y eb))∧Bw w w' :=
 c30_1 na nb ua va _ uc _ vc ea eb _ w (fun W g hW hg=>by
  have:=maybe2 hg (h1.later hW) (h2.later hW) (by omega) (by omega)
  rw[hoka,hokb] at this
  exact this) (fun W hW=>c77 (h1.later hW) (h2.later hW) hx hy ha hb)
theorem c48 (m:Int) (hm:m=1∨m=2∨m=3) (w:World):Calls Tryz.prog 96 #[.int .i64 m] w fun r w'=>r=.returned (.bool true)∧w'=w:=by
 rcases hm with rfl|rfl|rfl
 all_goals go_enter Tryz.func96,Tryz.ntmps96
 all_goals go_wp2
 all_goals go_ret
 all_goals exact⟨rfl,rfl⟩
theorem c24_1 (na:Bool) (ua:Option Addr) (un uc F:Nat) (ea mode:Int) (w:World)
  (k43:∀ W g,Bw w W→W.heap[g]?=some (.cells #[.bool na,.slice ua un uc,.int .i64 ea] 45 (0,0))→Calls Tryz.prog 90 #[.slice (some ⟨g,0,none⟩) 1 1] W fun r w'=>r=.returned (.bool true)∧Bw W w')
  (k48:∀ W,Calls Tryz.prog 96 #[.int .i64 mode] W fun r w'=>r=.returned (.bool true)∧w'=W)
  (k49:∀ W,Bw w W→Calls Tryz.prog 130 #[.agg #[.bool na,.slice ua un uc,.int .i64 ea],.int .i64 mode] W fun r w'=>r=.returned (.float .f64 F)∧Bw W w') :
  Calls Tryz.prog 93 #[.agg #[.bool na,.slice ua un uc,.int .i64 ea],.int .i64 mode] w fun r w'=>r=.returned (.tuple #[.float .f64 F,.int .i64 0])∧Bw w w':=by
 obtain⟨W,hW⟩:∃ W,W=w.alloc (.cells #[.bool na,.slice ua un uc,.int .i64 ea] 45):=⟨_,rfl⟩
 have hBW:Bw w W:=by rw[hW];exact(Below.refl _ _).alloc (Nat.le_refl _) _
 have hsz:W.heap.size=w.heap.size+1:=by rw[hW];simp
 have hbx:W.heap[w.heap.size]?=some (.cells #[.bool na,.slice ua un uc,.int .i64 ea] 45 (0,0)):=by rw[hW];exact heap_alloc_new _ _
 have k1:=k43 (W.alloc (.cells #[.bool na,.slice ua un uc,.int .i64 ea] 45)) (w.heap.size+1) (hBW.alloc hBW.size _) (by rw[←hsz];exact heap_alloc_new _ _)
 have HX:Hid (Bw w W∧W.heap.size=w.heap.size+1∧W.heap[w.heap.size]?=some (.cells #[.bool na,.slice ua un uc,.int .i64 ea] 45 (0,0))):=⟨hBW,hsz,hbx⟩
 have HK:Hid _:=k49
 clear hBW hsz hbx k43 k49
 go_enter Tryz.func93,Tryz.ntmps93
 go_wp2_with fail
 rw[←hW]
 clear hW
 refine k1.mono ?_
 rintro r w1 ⟨rfl,hb1⟩
 have HB1:Hid (Bw W w1):=((Below.refl W.heap.size W).alloc (Nat.le_refl _) _).trans (hb1.mono (by simp))
 clear k1 hb1
 obtain⟨⟨x0,x1,x2⟩,-⟩:=box_cells (box_later HX.out.2.2 HB1.out (by have:=HX.out.2.1;omega))
 have HB2:Hid (Bw w w1):=HX.out.1.trans (HB1.out.mono HX.out.1.size)
 have k2:=k48 w1
 clear k48
 go_wp2_with fail
 refine k2.mono ?_
 rintro r w2 ⟨rfl,hw2⟩
 replace hw2:=hw2.symm
 subst hw2
 clear k2
 have k3:=HK.out w1 HB2.out
 go_wp2_with fail
 refine k3.mono ?_
 rintro r w3 ⟨rfl,hb3⟩
 have HB3:Hid (Bw w w3):=HB2.out.trans (hb3.mono HB2.out.size)
 clear k3 hb3 x0 x1 x2
 go_wp2_with fail
 refine bodyPost_ret (results_tmp2 rfl _ _ _) rfl ?_
 exact⟨rfl,HB3.out⟩
end Go.Proofs.YtokklnjoalkjaaaGreatDoor
namespace Go.Proofs.YtokklnjoalkjaaaGreatDoor
open Go.RowKit
theorem setCell_block {w:World} {g k:Nat} (i:Nat) (v:Value) (h:k≠g):(w.setCell ⟨g,i,none⟩ v).heap[k]?=w.heap[k]?:=by
 simp[World.setCell,Array.getElem?_modify,Ne.symm h]
def Dn (w:World) (base:Nat) (v:Value) (n z:Nat):Prop :=
 (v=.slice none 0 0∧n=0)∨∃ g cap c,v=.slice (some ⟨g,0,none⟩) n cap∧base≤g∧(n≤cap∧cap≤9223372036854775807)∧w.heap[g]?=some (.cells c 68 (0,0))∧c.size=cap∧∀ i,i<n→c[i]?=some (.int .u32 (dg z i:Nat))
structure Arg (w:World) (ao:Option Addr) (n cap z:Nat):Prop where
 nil:n=0→(∃ ad,ao=some ad)∨(ao=none∧cap=0)
 at_:At w ao n z
 le:n≤cap
 small:n≤35184372088832
theorem Arg.later {w w':World} {ao:Option Addr} {n cap z:Nat} (h:Arg w ao n cap z) (hb:Bw w w'):Arg w' ao n cap z:=⟨h.nil,h.at_.later hb,h.le,h.small⟩
theorem Dn.mono {w:World} {base base':Nat} {v:Value} {n z:Nat} (h:Dn w base v n z) (hb:base'≤base):Dn w base' v n z:=by
 rcases h with h|⟨g,cap,c,h0,h1,h2⟩
 ·exact .inl h
 ·exact .inr ⟨g,cap,c,h0,by omega,h2⟩
def cn (s:Bool) (z:Nat) (e:Int):Bool×Nat×Int:=if z=0 then(false,0,0) else(s,z / 2^tz z,e+tz z)
def Fits (lo hi:Int) (x:Nat) (e:Int):Prop:=x=0∨(lo≤e∧e≤hi∧x<2^(hi - e).toNat)
theorem Fits.cn {lo hi:Int} {s:Bool} {z:Nat} {e:Int} (h:Fits lo hi z e):Fits lo hi (cn s z e).2.1 (cn s z e).2.2:=by
 rcases h with rfl|⟨h1,h2,h3⟩
 ·left;simp[YtokklnjoalkjaaaGreatDoor.cn]
 ·unfold YtokklnjoalkjaaaGreatDoor.cn
  by_cases h0:z=0
  ·subst h0;left;simp
  ·rw[if_neg h0]
   right
   have hs:=(tz_spec z z (Nat.le_refl _) h0).1
   have ho:=(tz_spec z z (Nat.le_refl _) h0).2
   have hq:1≤z / 2^tz z:=Nat.pos_of_ne_zero fun e0=>by rw[e0] at ho;simp at ho
   have ht:tz z<(hi - e).toNat:=by
    refine Nat.lt_of_not_le fun h=>?_
    have h4:=Nat.pow_le_pow_right (n:=2) (by omega) h
    have h5:=Nat.mul_le_mul_left (2^tz z) hq
    omega
   refine⟨by show lo≤e+(tz z:Int);omega,by show e+(tz z:Int)≤hi;omega,?_⟩
   show z / 2^tz z<2^(hi - (e+(tz z:Int))).toNat
   refine(Nat.div_lt_iff_lt_mul (Nat.two_pow_pos _)).2 ?_
   rw[←Nat.pow_add,show(hi - (e+(tz z:Int))).toNat+tz z=(hi - e).toNat by omega]
   exact h3
theorem Fits.mono {lo hi lo' hi':Int} {x:Nat} {e:Int} (h:Fits lo hi x e) (h1:lo'≤lo) (h2:hi≤hi'):Fits lo' hi' x e:=by
 rcases h with h|⟨h3,h4,h5⟩
 ·exact .inl h
 ·exact .inr ⟨by omega,by omega,Nat.lt_of_lt_of_le h5 (Nat.pow_le_pow_right (by omega) (by omega))⟩
theorem Fits.at {lo hi:Int} {x:Nat} {e m:Int} (h:Fits lo hi x e) (hm:m≤e):x*2^(e - m).toNat<2^(hi - m).toNat:=by
 rcases h with rfl|⟨h3,h4,h5⟩
 ·rw[Nat.zero_mul];exact Nat.two_pow_pos _
 ·rw[show(hi - m).toNat=(hi - e).toNat+(e - m).toNat by omega,Nat.pow_add]
  exact Nat.mul_lt_mul_of_pos_right h5 (Nat.two_pow_pos _)
theorem Fits.sum {lo hi:Int} {na nb:Bool} {x y:Nat} {ea eb:Int} (h1:Fits lo hi x ea) (h2:Fits lo hi y eb) :
  Fits lo (hi+1) (sumN na x ea nb y eb).2.1 (sumN na x ea nb y eb).2.2:=by
 unfold sumN
 by_cases x0:x=0
 ·rw[if_pos x0];exact h2.mono (by omega) (by omega)
 ·rw[if_neg x0]
  by_cases y0:y=0
  ·rw[if_pos y0];exact h1.mono (by omega) (by omega)
  ·rw[if_neg y0]
   have a1:=h1.at (m:=min ea eb) (by omega)
   have a2:=h2.at (m:=min ea eb) (by omega)
   obtain⟨p1,p2,-⟩:=h1.resolve_left x0
   obtain⟨q1,q2,-⟩:=h2.resolve_left y0
   have hp:2^(hi+1 - min ea eb).toNat=2^(hi - min ea eb).toNat*2:=by
    rw[show(hi+1 - min ea eb).toNat=(hi - min ea eb).toNat+1 by omega,Nat.pow_succ]
   generalize x*2^(ea - min ea eb).toNat=X at *
   generalize y*2^(eb - min ea eb).toNat=Y at *
   have hall:∀ Z,Z≤X+Y→Fits lo (hi+1) Z (min ea eb):=fun Z hZ=>.inr ⟨by omega,by omega,by omega⟩
   split
   ·exact hall _ (Nat.le_refl _)
   ·split
    ·exact hall _ (by show Y - X≤X+Y;omega)
    ·exact hall _ (by show X - Y≤X+Y;omega)
theorem Fits.dlen {lo hi:Int} {x:Nat} {e:Int} (h:Fits lo hi x e) (hb:hi - lo≤65536):dlen x≤2048:=by
 rcases h with rfl|⟨h1,h2,h3⟩
 ·rw[dlen_zero];omega
 ·refine(dlen_le _ _).2 (Nat.lt_of_lt_of_le h3 ?_)
  have hB:∀ n,B^n=2^(32*n):=fun n=>by
   have:(B:Nat)=2^32:=by decide
   rw[this,←Nat.pow_mul]
  have hn:(hi - e).toNat≤32*2048:=by omega
  generalize 2048=n at *
  rw[hB]
  exact Nat.pow_le_pow_right (by omega) hn
theorem Fits.ok {lo hi:Int} {s:Bool} {z:Nat} {e:Int} (h:Fits lo hi z e) (hb:hi - lo≤65536) (h1 : -65536≤lo) (h2:hi≤65536):okR s z e=true:=by
 unfold okR
 by_cases h0:z=0
 ·rw[if_pos h0]
 ·rw[if_neg h0]
  have hc:=h.cn (s:=s)
  have hd:=hc.dlen hb
  unfold YtokklnjoalkjaaaGreatDoor.cn at hc hd
  rw[if_neg h0] at hc hd
  have ho:=(tz_spec z z (Nat.le_refl _) h0).2
  simp only at hc hd
  generalize z / 2^tz z=x at *
  have hx0:x≠0:=by omega
  obtain⟨c1,c2,c3⟩:=hc.resolve_left hx0
  unfold okN
  rw[if_neg (fun e=>hx0 (dlen_eq_zero.1 e))]
  have e0:dg x 0 % 2=1:=by
   unfold dg
   rw[Nat.pow_zero,Nat.div_one]
   unfold B
   omega
  have e1:=dg_top hx0
  simp only[Bool.and_eq_true,decide_eq_true_eq,bne_iff_ne,ne_eq,beq_iff_eq]
  exact⟨⟨⟨⟨hd,e1⟩,e0⟩,by omega⟩,by omega⟩
def PN (w:World) (A:Value) (t:Bool×Nat×Int):Prop:=∃ ao cap,A=.agg #[.bool t.1,.slice ao (dlen t.2.1) cap,.int .i64 t.2.2]∧Is w (.slice ao (dlen t.2.1) cap) t.2.1
def Ok (t:Bool×Nat×Int):Prop:=okN t.1 (dlen t.2.1) t.2.1 t.2.2=true
theorem PN.later {w w':World} {A:Value} {t:Bool×Nat×Int} (h:PN w A t) (hb:Bw w w'):PN w' A t:=by
 obtain⟨ao,cap,h1,h2⟩:=h
 exact⟨ao,cap,h1,h2.later hb⟩
theorem PN.shape {w:World} {A:Value} {t:Bool×Nat×Int} (h:PN w A t):∃ s ao n cap e,A=.agg #[.bool s,.slice ao n cap,.int .i64 e]:=by
 obtain⟨ao,cap,h1,-⟩:=h
 exact⟨_,_,_,_,_,h1⟩
theorem Nrm.pn {w:World} {base:Nat} {A:Value} {s:Bool} {z:Nat} {e:Int} (h:Nrm w base A s z e):PN w A (cn s z e):=by
 unfold cn
 rcases h with ⟨rfl,rfl⟩|⟨h0,v,rfl,ho⟩
 ·rw[if_pos rfl]
  exact⟨none,0,by rw[dlen_zero];rfl,by rw[dlen_zero];exact is_nil w⟩
 ·rw[if_neg h0]
  obtain⟨ao,cap,rfl,h1,h2,h3⟩:=ho.is
  exact⟨ao,cap,rfl,ao,cap,rfl,h1,h2,h3⟩
theorem ok_cn {s:Bool} {z:Nat} {e:Int} (h:okR s z e=true):Ok (cn s z e):=by
 unfold Ok cn
 unfold okR at h
 by_cases h0:z=0
 ·rw[if_pos h0,dlen_zero];rfl
 ·rw[if_neg h0] at h ⊢; exact h
theorem Ok.facts {t:Bool×Nat×Int} (h:Ok t):dlen t.2.1≤2048 ∧ -65536≤t.2.2∧t.2.2≤65536∧(t.2.1=0→t=(false,0,0))∧(t.2.1≠0→t.2.1 % 2=1):=by
 obtain⟨s,x,e⟩:=t
 unfold Ok okN at h
 simp only at h ⊢
 by_cases h0:x=0
 ·subst h0
  rw[dlen_zero,if_pos rfl] at h
  simp at h
  obtain⟨rfl,rfl⟩:=h
  rw[dlen_zero]
  exact⟨by omega,by omega,by omega,fun _=>rfl,fun h=>absurd rfl h⟩
 ·rw[if_neg (fun e=>h0 (dlen_eq_zero.1 e))] at h
  simp only[Bool.and_eq_true,decide_eq_true_eq,bne_iff_ne,ne_eq,beq_iff_eq] at h
  obtain⟨⟨⟨⟨h1,h2⟩,h3⟩,h4⟩,h5⟩:=h
  refine⟨h1,h4,h5,fun h=>absurd h h0,fun _=>?_⟩
  unfold dg at h3
  rw[Nat.pow_zero,Nat.div_one] at h3
  unfold B at h3
  omega
theorem cn_ok {t:Bool×Nat×Int} (h:Ok t):cn t.1 t.2.1 t.2.2=t:=by
 obtain⟨-,-,-,h1,h2⟩:=h.facts
 unfold cn
 by_cases h0:t.2.1=0
 ·rw[if_pos h0];exact(h1 h0).symm
 ·rw[if_neg h0,tz_odd (h2 h0)]
  simp
def Op2 (f:FuncId) (t1 t2 t3:Bool×Nat×Int):Prop:=∀ W X Y,Tab32 W→PN W X t1→PN W Y t2→Calls Tryz.prog f #[X,Y] W fun r w'=>∃ s ao n cap e,r=.returned (.tuple #[.agg #[.bool s,.slice ao n cap,.int .i64 e],.int .i64 0])∧PN w' (.agg #[.bool s,.slice ao n cap,.int .i64 e]) t3∧Bw W w'
theorem held_pn {w:World} {s:Bool} {z:Nat} {e:Int} {r:Ending} {w':World} (h:Held w s z e r w') (hok:okR s z e=true) :
  ∃ s' ao n cap e',r=.returned (.tuple #[.agg #[.bool s',.slice ao n cap,.int .i64 e'],.int .i64 0])∧PN w' (.agg #[.bool s',.slice ao n cap,.int .i64 e']) (cn s z e)∧Bw w w':=by
 obtain⟨A,rfl,hN,hb⟩:=h
 rw[hok]
 have hp:=hN.pn
 obtain⟨s',ao,n,cap,e',rfl⟩:=hp.shape
 exact⟨s',ao,n,cap,e',rfl,hp,hb⟩
theorem add_op {t1 t2:Bool×Nat×Int} (h1:Ok t1) (h2:Ok t2) (hok:okR (sumN t1.1 t1.2.1 t1.2.2 t2.1 t2.2.1 t2.2.2).1 (sumN t1.1 t1.2.1 t1.2.2 t2.1 t2.2.1 t2.2.2).2.1 (sumN t1.1 t1.2.1 t1.2.2 t2.1 t2.2.1 t2.2.2).2.2=true) :
  Op2 88 t1 t2 (cn (sumN t1.1 t1.2.1 t1.2.2 t2.1 t2.2.1 t2.2.2).1 (sumN t1.1 t1.2.1 t1.2.2 t2.1 t2.2.1 t2.2.2).2.1 (sumN t1.1 t1.2.1 t1.2.2 t2.1 t2.2.1 t2.2.2).2.2):=by
 intro W X Y hT hX hY
 obtain⟨ua,uc,rfl,i1⟩:=hX
 obtain⟨va,vc,rfl,i2⟩:=hY
 obtain⟨a1,a2,a3,-,-⟩:=h1.facts
 obtain⟨b1,b2,b3,-,-⟩:=h2.facts
 have hl:=dlen_sumN t1.1 t1.2.1 t1.2.2 t2.1 t2.2.1 t2.2.2 (by omega) (by omega) (by omega) (by omega)
 refine(c34_1 t1.1 t2.1 ua va _ uc _ vc t1.2.1 t2.2.1 _ t1.2.2 t2.2.2 _ _ W (by omega) (fun W' g hW hg=>?_) (fun W' hW=>c87 (i1.later hW) (i2.later hW) (by omega) (by omega) (by omega) (by omega) (hT.later hW))).mono fun r w' h=>held_pn h hok
 have:=maybe2 hg (i1.later hW) (i2.later hW) (by omega) (by omega)
 unfold Ok at h1 h2
 rw[h1,h2] at this
 exact this
theorem sub_op {t1 t2:Bool×Nat×Int} (h1:Ok t1) (h2:Ok t2) (hok:okR (sumN t1.1 t1.2.1 t1.2.2 (!t2.1&&decide (0<dlen t2.2.1)) t2.2.1 t2.2.2).1 (sumN t1.1 t1.2.1 t1.2.2 (!t2.1&&decide (0<dlen t2.2.1)) t2.2.1 t2.2.2).2.1 (sumN t1.1 t1.2.1 t1.2.2 (!t2.1&&decide (0<dlen t2.2.1)) t2.2.1 t2.2.2).2.2=true) :
  Op2 155 t1 t2 (cn (sumN t1.1 t1.2.1 t1.2.2 (!t2.1&&decide (0<dlen t2.2.1)) t2.2.1 t2.2.2).1 (sumN t1.1 t1.2.1 t1.2.2 (!t2.1&&decide (0<dlen t2.2.1)) t2.2.1 t2.2.2).2.1 (sumN t1.1 t1.2.1 t1.2.2 (!t2.1&&decide (0<dlen t2.2.1)) t2.2.1 t2.2.2).2.2):=by
 intro W X Y hT hX hY
 obtain⟨ua,uc,rfl,i1⟩:=hX
 obtain⟨va,vc,rfl,i2⟩:=hY
 obtain⟨a1,a2,a3,-,-⟩:=h1.facts
 obtain⟨b1,b2,b3,-,-⟩:=h2.facts
 exact(sub_ok i1 i2 (by omega) (by omega) (by omega) (by omega) h1 h2 hT).mono fun r w' h=>held_pn h hok
theorem mul_op {t1 t2:Bool×Nat×Int} (h1:Ok t1) (h2:Ok t2) (hok:okR (!(t1.1==t2.1)) (t1.2.1*t2.2.1) (t1.2.2+t2.2.2)=true) :
  Op2 95 t1 t2 (cn (!(t1.1==t2.1)) (t1.2.1*t2.2.1) (t1.2.2+t2.2.2)):=by
 intro W X Y hT hX hY
 obtain⟨ua,uc,rfl,i1⟩:=hX
 obtain⟨va,vc,rfl,i2⟩:=hY
 obtain⟨a1,a2,a3,-,-⟩:=h1.facts
 obtain⟨b1,b2,b3,-,-⟩:=h2.facts
 exact(mul_ok i1 i2 (by omega) (by omega) (by omega) (by omega) h1 h2 hT).mono fun r w' h=>held_pn h hok
end Go.Proofs.YtokklnjoalkjaaaGreatDoor
namespace Go.Proofs.YtokklnjoalkjaaaGreatDoor
open Go.RowKit Go.Fl64
theorem bl_half {x:Nat} (h:x≠0):bl x=bl (x / 2)+1:=by
 have h1:=lt_bl (x / 2)
 apply bl_eq
 ·rw[Nat.pow_succ];omega
 ·refine .inr ?_
  rw[Nat.add_sub_cancel]
  by_cases h2:x / 2=0
  ·rw[h2]
   have:bl 0=0:=by unfold bl;simp
   rw[this];omega
  ·have h3:=le_bl h2
   have h4:bl (x / 2)≠0:=by unfold bl;rw[if_neg h2];omega
   obtain⟨k,hk⟩:∃ k,bl (x / 2)=k+1:=⟨bl (x / 2) - 1,by omega⟩
   rw[hk] at h3 ⊢
   rw[Nat.add_sub_cancel] at h3
   rw[Nat.pow_succ];omega
theorem r42 (b o n cap x:Nat) (w:World) (hn0:0<n) (hn:n≤1000000000) (hx:dlen x=n) (hcell:∀ i,i<n→w.cell? ⟨b,o+i,none⟩=some (.int .u32 (dg x i:Nat))) :
  Calls Tryz.prog 143 #[.slice (some ⟨b,o,none⟩) n cap] w fun e w'=>e=.returned (.int .i64 (bl x:Nat))∧w'=w:=by
 have hx0:x≠0:=by intro e;subst e;rw[dlen_zero] at hx;omega
 have hbt:=bl_top hx0
 have hlt:=dg_lt x (n - 1)
 have g:=hcell (n - 1) (by omega)
 rw[hx] at hbt
 obtain⟨k,rfl⟩:∃ k,n=k+1:=⟨n - 1,by omega⟩
 rw[Nat.add_sub_cancel] at hbt hlt g
 generalize hd:dg x k=d at *
 have HB:Hid (bl x=32*k+bl d∧d<4294967296):=⟨hbt,hlt⟩
 have hn0':(((k+1:Nat):Int)==0)=false:=by simp;omega
 clear hcell hbt hlt hx hx0 hd
 go_enter Tryz.func143,Tryz.ntmps143
 go_wp2
 go_loop [3,4] (fun c t=>∃ (j u:Nat),c=.int .i64 (32*(k:Int)+j)∧t=.int .u32 (u:Int)∧Hid (bl d=j+bl u∧u<4294967296)∧j≤32) (fun _ t=>(intOf t).toNat)
 case atStart=>exact⟨0,d,by simp,rfl,⟨by omega,HB.out.2⟩,by omega⟩
 case round =>
  obtain⟨j,u,rfl,rfl,HU,hj⟩:=hrel
  by_cases hu:u=0
  ·subst hu
   have e:bl x=32*k+j:=by
    have h1:=HU.out.1
    have:bl 0=0:=by unfold bl;simp
    rw[this] at h1
    have:=HB.out.1
    omega
   have HE:Hid (((bl x:Nat):Int)=32*(k:Int)+j):=(by rw[e];simp:((bl x:Nat):Int)=32*(k:Int)+j)
   clear e
   go_wp2
   go_ret
   rw[HE.out]
   exact⟨rfl,rfl⟩
  ·have hu0:0<(u:Int):=by omega
   have hb:=bl_half hu
   have hj':j+1≤32:=by
    have h1:=HU.out.1
    have:=bl_le32 (x:=d) HB.out.2
    omega
   have HN:Hid (bl d=(j+1)+bl (u / 2)∧u / 2<4294967296):=⟨by have:=HU.out.1;omega,by have:=HU.out.2;omega⟩
   clear hb
   go_wp2
   exact⟨⟨j+1,u / 2,by congr 1,by simp,HN,hj'⟩,by simp[intOf];omega⟩
end Go.Proofs.YtokklnjoalkjaaaGreatDoor
namespace Go.Proofs.YtokklnjoalkjaaaGreatDoor
open Go.ChangeShapes Go.WideShapes Go.ChangeAt Go.RowKit Go.Joins
end Go.Proofs.YtokklnjoalkjaaaGreatDoor
