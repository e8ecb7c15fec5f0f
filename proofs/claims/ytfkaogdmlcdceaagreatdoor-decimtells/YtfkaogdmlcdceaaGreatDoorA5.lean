/- Own work: contracts of the program's functions, part 5: Shelf S1 S2 T1 T2 T3 T4 R4 R5 E1 Tab F3 F4 G1 G2 Q1 Q2 R6 Q3 ON. -/
import Derived.Shelf.Strings.Builder1
import Derived.Shelf.LaysM
import Derived.Shelf.Strconv.Itoa3
import Derived.Test.YtfkaogdmlcdceaaGreatDoorProg
import Derived.Test.YtfkaogdmlcdceaaGreatDoorA4
import Derived.Test.YtfkaogdmlcdceaaGreatDoorA2
import Derived.Test.YtfkaogdmlcdceaaGreatDoorA3
import Derived.Lib.LaidTab
import Derived.Deep.CutRange
import Derived.Deep.RegionLawGrows
import Derived.Deep.RegionHeld3
import Derived.Laws.AppendOwnNone
import Derived.Test.YtfkaogdmlcdceaaGreatDoorRows
import Derived.Carry
import Derived.ChangeSlices
import Derived.WalkKit
import Derived.ProofKit
import Derived.OpenShut
import Derived.WalkLawsBesides
import Derived.ChangeAlike
import Derived.Lib.SmallJoins
import Derived.SizedLaws

set_option maxHeartbeats 16000000
set_option maxRecDepth 200000
set_option linter.unusedVariables false
set_option linter.unusedSimpArgs false
/- The library's contracts at this program that are used: the builder's text, a whole number's decimal digits. -/
namespace Go.Proofs
open Go.Shelf
def Tryz.laysM171_ren:Go.Shelf.Ren:=⟨fun|171=>79|243=>145|246=>207|283=>224|284=>225|285=>226|286=>227|129=>108|317=>260|318=>261|319=>262|320=>263|337=>251|338=>106|n=>n,fun|3=>3|9=>9|2=>2|4=>4|171=>216|0=>0|53=>60|37=>65|5=>5|173=>218|212=>236|51=>96|20=>20|213=>237|46=>130|232=>248|233=>175|n=>n,fun|17=>2|18=>4|19=>1|n=>n⟩
theorem Tryz.laysM171:Go.Proofs.LaysM.n171 Tryz.prog Tryz.laysM171_ren:={
 mixed:=by kernel_rfl
 f129:=Tryz.func108.trans (congrArg some (by kernel_rfl))
 f171:=Tryz.func79.trans (congrArg some (by kernel_rfl))
 f243:=Tryz.func145.trans (congrArg some (by kernel_rfl))
 f246:=Tryz.func207.trans (congrArg some (by kernel_rfl))
 f283:=Tryz.func224.trans (congrArg some (by kernel_rfl))
 f284:=Tryz.func225.trans (congrArg some (by kernel_rfl))
 f285:=Tryz.func226.trans (congrArg some (by kernel_rfl))
 f286:=Tryz.func227.trans (congrArg some (by kernel_rfl))
 f317:=Tryz.func260.trans (congrArg some (by kernel_rfl))
 f318:=Tryz.func261.trans (congrArg some (by kernel_rfl))
 f319:=Tryz.func262.trans (congrArg some (by kernel_rfl))
 f320:=Tryz.func263.trans (congrArg some (by kernel_rfl))
 f337:=Tryz.func251.trans (congrArg some (by kernel_rfl))
 f338:=Tryz.func106.trans (congrArg some (by kernel_rfl))
 t0:=Tryz.underlying0
 a0:=Tryz.isAgg0
 z0:=Tryz.sizeOf0
 v0:=Tryz.zeroValue0
 t2:=Tryz.underlying2
 a2:=Tryz.isAgg2
 z2:=Tryz.sizeOf2
 v2:=Tryz.zeroValue2
 t3:=Tryz.underlying3
 a3:=Tryz.isAgg3
 z3:=Tryz.sizeOf3
 v3:=Tryz.zeroValue3
 t4:=Tryz.underlying4
 a4:=Tryz.isAgg4
 z4:=Tryz.sizeOf4
 v4:=Tryz.zeroValue4
 t5:=Tryz.underlying5
 a5:=Tryz.isAgg5
 z5:=Tryz.sizeOf5
 v5:=Tryz.zeroValue5
 t9:=Tryz.underlying9
 a9:=Tryz.isAgg9
 z9:=Tryz.sizeOf9
 v9:=Tryz.zeroValue9
 t20:=Tryz.underlying20
 a20:=Tryz.isAgg20
 z20:=Tryz.sizeOf20
 v20:=Tryz.zeroValue20
 t37:=Tryz.underlying65
 a37:=Tryz.isAgg65
 z37:=Tryz.sizeOf65
 v37:=Tryz.zeroValue65
 t46:=Tryz.underlying130
 a46:=Tryz.isAgg130
 z46:=Tryz.sizeOf130
 v46:=Tryz.zeroValue130
 t51:=Tryz.underlying96
 a51:=Tryz.isAgg96
 z51:=Tryz.sizeOf96
 v51:=Tryz.zeroValue96
 t53:=Tryz.underlying60
 a53:=Tryz.isAgg60
 z53:=Tryz.sizeOf60
 v53:=Tryz.zeroValue60
 t171:=Tryz.underlying216
 a171:=Tryz.isAgg216
 z171:=Tryz.sizeOf216
 v171:=Tryz.zeroValue216
 t173:=Tryz.underlying218
 a173:=Tryz.isAgg218
 z173:=Tryz.sizeOf218
 v173:=Tryz.zeroValue218
 t212:=Tryz.underlying236
 a212:=Tryz.isAgg236
 z212:=Tryz.sizeOf236
 v212:=Tryz.zeroValue236
 t213:=Tryz.underlying237
 a213:=Tryz.isAgg237
 z213:=Tryz.sizeOf237
 t232:=Tryz.underlying248
 a232:=Tryz.isAgg248
 z232:=Tryz.sizeOf248
 v232:=Tryz.zeroValue248
 t233:=Tryz.underlying175
 a233:=Tryz.isAgg175
 z233:=Tryz.sizeOf175
 v233:=Tryz.zeroValue175
 g17:=by kernel_rfl
 g18:=by kernel_rfl
 g19:=by kernel_rfl
 i0:=by kernel_rfl
 i2:=by kernel_rfl
 i3:=by kernel_rfl
 i4:=by kernel_rfl
 i5:=by kernel_rfl
 i9:=by kernel_rfl
 i20:=by kernel_rfl
 i37:=by kernel_rfl
 i46:=by kernel_rfl
 i51:=by kernel_rfl
 i53:=by kernel_rfl
 i171:=by kernel_rfl
 i173:=by kernel_rfl
 i212:=by kernel_rfl
 i232:=by kernel_rfl
 i233:=by kernel_rfl
 m17:=by kernel_rfl
 m18:=by kernel_rfl
 m19:=by kernel_rfl }
open Go.RowKit Go.Sort Go.Lib in
theorem Tryz.strconv_Itoa (n : Int) (h0 : -9223372036854775808 ≤ n) (h1 : n ≤ 9223372036854775807) (w : World) (htab : Lib.TabIs Tryz.prog w "internal/strconv.uint64pow10" .u64 Lib.pow10Tab) :
  Calls Tryz.prog 79 #[.int .i64 n] w fun e w'=>e=.returned (.string ⟨(Lib.itoa n).toArray⟩)∧∃ k os,w'=grow (w.drewN k) os:=Any.strconv_Itoa Tryz.laysM171 n h0 h1 w htab
end Go.Proofs
namespace Go.Proofs.YtfkaogdmlcdceaaGreatDoor
open Go.RowKit
attribute [local go_sem] iV Nu
theorem qA9:(Tryz.prog.info? 5).map (fun i=>(i.zero,i.size,i.bytes))=some (some (.int .u8 0),1,1):=by kernel_rfl
end Go.Proofs.YtfkaogdmlcdceaaGreatDoor
namespace Go.Proofs.YtfkaogdmlcdceaaGreatDoor
open Go.RowKit Go.Fl64
attribute [local go_sem] iV Nu
theorem yK5 (w:World):Is w (.slice none 0 0) 0:=⟨none,0,by rw[qQ5],by rw[qQ5];omega,ω,0,0,fun h=>by rw[qQ5] at h;omega,fun i hi=>by rw[qQ5] at hi;omega⟩
def Tab10 (w : World) : Prop := Lib.TabIs Tryz.prog w "internal/strconv.uint64pow10" .u64 Lib.pow10Tab
theorem g10 : Tryz.prog.globalNamed "internal/strconv.uint64pow10" = some 2 := by kernel_rfl
theorem Tab10.lt {w:World} (h:Tab10 w):2<w.heap.size:=by
 unfold Tab10 Lib.TabIs World.var? at h;rw[g10] at h;rcases Nat.lt_or_ge 2 w.heap.size with u|u
 ·exact u
 ·simp[Array.getElem?_eq_none u] at h
theorem Tab10.later {w w':World} (h:Tab10 w) (u:Bw w w'):Tab10 w':=var?_below u g10 h.lt h
theorem zE6 (w:World) (k:Nat) (u:Array Obj):Below w.heap.size w (Sort.grow (w.drewN k) u) :=
 ⟨rfl,rfl,rfl,by show w.heap.size≤(w.heap++u).size;rw[Array.size_append];omega,fun j Y=>by
  show(w.heap++u)[j]?=w.heap[j]?
  rw[Array.getElem?_append_left Y]⟩
theorem xD5 (m:Nat) (w:World) (Y:m<18446744073709551616):At (w.alloc (Obj.cells #[Value.int IntKind.u32 ((m:Int) % 4294967296),Value.int IntKind.u32 ((m:Int) / 4294967296)] 96)) (some ⟨w.heap.size,0,none⟩) 2 m:=by
 have u:Mk w (w.alloc (Obj.cells #[Value.int IntKind.u32 ((m:Int) % 4294967296),Value.int IntKind.u32 ((m:Int) / 4294967296)] 96)) 2 (dg m):=by
  refine⟨bR.alloc lR _,by simp,World.rowIs_alloc w _ _ _ fun i hi=>?_⟩
  match i,hi with
  | 0,_=>simp[dg,B]
  | 1,_=>simp[dg,B];omega
 exact u.at
theorem yG5 {w:World} {g:Nat} {q:Addr} (h:q.block≠g) (a b c:Value):(((w.setCell ⟨g,0,none⟩ a).setCell ⟨g,1,none⟩ b).setCell ⟨g,2,none⟩ c).cell? q=w.cell? q:=by
 have u:∀ i,(⟨g,i,none⟩:Addr)≠q:=fun i e=>h (by rw[←e])
 rw[World.cell?_setCell_other _ _ _ _ (u 2),World.cell?_setCell_other _ _ _ _ (u 1),World.cell?_setCell_other _ _ _ _ (u 0)]
theorem yL5 (x:Nat) (h:x<18446744073709551616):bits .and .u64 (x:Int) 2047=((x % 2048:Nat):Int):=by
 have e:=u64_and_nat x 2047 h δ;rw[show((2047:Nat):Int)=2047 from rfl] at e;rw[e];congr 1
 have:=Nat.and_two_pow_sub_one_eq_mod x 11
 simpa using this
theorem own:ownKnob Tryz.prog.godebug=none:=by kernel_rfl
theorem g64 : Tryz.prog.globalNamed "math/bits.deBruijn64tab" = some 1 := by kernel_rfl
theorem g64t:(Tryz.prog.globals[1]?).map (·.type)=some 175:=by kernel_rfl
theorem g32 : Tryz.prog.globalNamed "math/bits.deBruijn32tab" = some 4 := by kernel_rfl
theorem g32t:(Tryz.prog.globals[4]?).map (·.type)=some 248:=by kernel_rfl
theorem g10t:(Tryz.prog.globals[2]?).map (·.type)=some 236:=by kernel_rfl
theorem cells114:Tryz.prog.cellsOf 175=64:=by kernel_rfl
theorem cells130:Tryz.prog.cellsOf 248=32:=by kernel_rfl
theorem cells146:Tryz.prog.cellsOf 236=20:=by kernel_rfl
theorem cells5:Tryz.prog.cellsOf 5=1:=by kernel_rfl
theorem cells58:Tryz.prog.cellsOf 60=1:=by kernel_rfl
def zs64:List Int := [0,1,56,2,57,49,28,3,61,58,42,50,38,29,17,4,62,47,59,36,45,43,51,22,53,39,33,30,24,18,12,5,63,55,48,27,60,41,37,16,46,35,44,21,52,32,23,11,54,26,40,15,34,20,31,10,25,14,19,9,13,8,7,6]
def zs32:List Int := [0,1,28,2,29,14,24,3,30,22,20,15,25,17,4,8,31,27,13,23,21,19,16,7,26,12,18,6,11,5,10,9]
def zs10:List Int := [1,10,100,1000,10000,100000,1000000,10000000,100000000,1000000000,10000000000,100000000000,1000000000000,10000000000000,100000000000000,1000000000000000,10000000000000000,100000000000000000,1000000000000000000,10000000000000000000]
theorem xZ3:∀ i,i<64→zs64.getD i 0=((Lib.deBruijn64tab.getD i 0:Nat):Int):=by decide +kernel
theorem xZ4:∀ i,i<32→zs32.getD i 0=((Lib.deBruijn32tab.getD i 0:Nat):Int):=by decide +kernel
theorem xZ5:zs10=Lib.pow10Tab:=by decide +kernel
theorem tab64_of {W : World} (h : Lib.TabIs Tryz.prog W "math/bits.deBruijn64tab" .u8 zs64) : Ie.Tab W := by
 intro i hi;have:=h.cell g64 i (by exact hi)
 rw[xZ3 i hi] at this;exact this
theorem tab32_of {W : World} (h : Lib.TabIs Tryz.prog W "math/bits.deBruijn32tab" .u8 zs32) : Tab32 W := by
 intro i hi;have:=h.cell g32 i (by exact hi)
 rw[xZ4 i hi] at this;exact this
theorem tab10_of {W : World} (h : Lib.TabIs Tryz.prog W "internal/strconv.uint64pow10" .u64 zs10) : Tab10 W := by
 rw[xZ5] at h;exact h
theorem laid_tail {P:Program} {W:World} {x:String×DataW Unit} {rest:List (String×DataW Unit)} (h:laidMet P (x :: rest) W):laidMet P rest W:=by
 obtain⟨C,⟨g',L,cs,Y,p,q,D,J,u,I,V,rfl⟩,H,T⟩:=h;exact⟨q,V,(List.nodup_append.1 H).2.1,fun b off F=>T b off (List.mem_append_right _ F)⟩
def laidOn (w:World):World :=
 { w with heap:=((w.heap.modify 1 fun
   | .cells _ t frozen=>.cells #[.int .u8 0,.int .u8 1,.int .u8 56,.int .u8 2,.int .u8 57,.int .u8 49,.int .u8 28,.int .u8 3,.int .u8 61,.int .u8 58,.int .u8 42,.int .u8 50,.int .u8 38,.int .u8 29,.int .u8 17,.int .u8 4,.int .u8 62,.int .u8 47,.int .u8 59,.int .u8 36,.int .u8 45,.int .u8 43,.int .u8 51,.int .u8 22,.int .u8 53,.int .u8 39,.int .u8 33,.int .u8 30,.int .u8 24,.int .u8 18,.int .u8 12,.int .u8 5,.int .u8 63,.int .u8 55,.int .u8 48,.int .u8 27,.int .u8 60,.int .u8 41,.int .u8 37,.int .u8 16,.int .u8 46,.int .u8 35,.int .u8 44,.int .u8 21,.int .u8 52,.int .u8 32,.int .u8 23,.int .u8 11,.int .u8 54,.int .u8 26,.int .u8 40,.int .u8 15,.int .u8 34,.int .u8 20,.int .u8 31,.int .u8 10,.int .u8 25,.int .u8 14,.int .u8 19,.int .u8 9,.int .u8 13,.int .u8 8,.int .u8 7,.int .u8 6] t frozen
   | o=>o).modify 4 fun
   | .cells _ t frozen=>.cells #[.int .u8 0,.int .u8 1,.int .u8 28,.int .u8 2,.int .u8 29,.int .u8 14,.int .u8 24,.int .u8 3,.int .u8 30,.int .u8 22,.int .u8 20,.int .u8 15,.int .u8 25,.int .u8 17,.int .u8 4,.int .u8 8,.int .u8 31,.int .u8 27,.int .u8 13,.int .u8 23,.int .u8 21,.int .u8 19,.int .u8 16,.int .u8 7,.int .u8 26,.int .u8 12,.int .u8 18,.int .u8 6,.int .u8 11,.int .u8 5,.int .u8 10,.int .u8 9] t frozen
   | o=>o).modify 2 fun
   | .cells _ t frozen=>.cells #[.int .u64 1,.int .u64 10,.int .u64 100,.int .u64 1000,.int .u64 10000,.int .u64 100000,.int .u64 1000000,.int .u64 10000000,.int .u64 100000000,.int .u64 1000000000,.int .u64 10000000000,.int .u64 100000000000,.int .u64 1000000000000,.int .u64 10000000000000,.int .u64 100000000000000,.int .u64 1000000000000000,.int .u64 10000000000000000,.int .u64 100000000000000000,.int .u64 1000000000000000000,.int .u64 10000000000000000000] t frozen
   | o=>o }
theorem c75 {neg:Bool} {ao:Option Addr} {cap x:Nat} {e:Int} {w:World} (h:Is w (.slice ao (dlen x) cap) x) (hx:dlen x≤1000000) (Y : -4000000≤e) (u:e≤4000000) :
  Ca 189 #[.agg (Nu neg ao (dlen x) cap e)] w (Rq w (iV (bl x+e))):=by
 have V:=qY3 x;exact c75_1 neg ao _ cap (bl x) e w ω Y u fun W J=>c74 (h.later J) ω
theorem c77_0 (na nb:Bool) (ua J:Option Addr) (uc Y:Nat) (ea eb:Int) (w:World) :
  Calls Tryz.prog 223 #[.agg #[.bool na,.slice ua 0 uc,.int .i64 ea],.agg #[.bool nb,.slice J 0 Y,.int .i64 eb]] w fun r w'=>r=.returned (.int .i64 0)∧Bw w w':=by
 obtain⟨W,F⟩:=eE ((w.alloc (.cells #[.bool na,.slice ua 0 uc,.int .i64 ea] 50)).alloc (.cells #[.bool nb,.slice J 0 Y,.int .i64 eb] 50));have D:Bw w W:=by rw[F];exact(bR.alloc lR _).alloc (by simp) _
 have H:W.heap[w.heap.size+1]?=some (.cells #[.bool nb,.slice J 0 Y,.int .i64 eb] 50 (0,0)):=by
  have:=kB7 (w.alloc (.cells #[.bool na,.slice ua 0 uc,.int .i64 ea] 50)) (.cells #[.bool nb,.slice J 0 Y,.int .i64 eb] 50)
  rw[F];simpa using this
 have L:W.heap.size=w.heap.size+1+1:=by rw[F];simp
 have HC:Hid (∀ w',Bw W w'→(w'.cell? ⟨w.heap.size+1,0,none⟩=some (.bool nb)∧w'.cell? ⟨w.heap.size+1,1,none⟩=some (.slice J 0 Y)∧w'.cell? ⟨w.heap.size+1,2,none⟩=some (.int .i64 eb))):=fun w' hb=>(qQ3 (qQ0 H hb ω)).1;have ka:∀ u,Calls Tryz.prog 156 #[.agg #[.bool na,.slice ua 0 uc,.int .i64 ea]] u fun r w'=>r=.returned (.int .i64 0)∧Bw u w':=fun u =>
  (c72 na ua 0 uc ea u ω).mono fun r w' ⟨C,e2⟩=>⟨C,by rw[e2];exact bR.alloc lR _⟩
 have kb:∀ u,Calls Tryz.prog 156 #[.agg #[.bool nb,.slice J 0 Y,.int .i64 eb]] u fun r w'=>r=.returned (.int .i64 0)∧Bw u w':=fun u =>
  (c72 nb J 0 Y eb u ω).mono fun r w' ⟨C,e2⟩=>⟨C,by rw[e2];exact bR.alloc lR _⟩
 have HB:Hid (Bw w W):=D;clear D H L
 go_enter Tryz.func223,Tryz.ntmps223
 go_wp2_with fail;rw[←F];clear F;refine(ka W).mono ?_
 rintro r w1 ⟨rfl,V⟩;obtain⟨x1,x2,x3⟩:=HC.out w1 V;have I:Hid (Bw W w1):=V;clear V
 go_wp2_with fail;refine(kb _).mono ?_
 rintro r w2 ⟨rfl,T⟩;have HF:Hid (Bw w w2):=HB.out.trans ((qG7 I.out T).mono HB.out.size);clear x1 x2 x3 T
 go_wp2_with fail
 go_ret;exact⟨rfl,HF.out⟩
theorem c77_2 (na : Bool) (ua va : Option Addr) (un uc vn vc : Nat) (ea eb s ta tb cv pv : Int) (w : World) (hs : Hid (sgI na un = s ∧ sgI na vn = s)) (hs0 : (s == 0) = false) (hss : (s != s) = false) (htt : (ta != tb) = true) (hun : un ≤ 35184372088832) (hvn : vn ≤ 35184372088832)
    (hcv : Hid (∀ W, Ca 252 #[iV ta, iV tb] W fun r w' => r = .returned (iV cv) ∧ w' = W)) (hpv : IntKind.i64.wrap (s * cv) = pv)
    (kta : ∀ W, Bw w W → Ca 189 #[.agg #[.bool na, .slice ua un uc, iV ea]] W fun r w' => r = .returned (iV ta) ∧ Bw W w')
    (ktb : ∀ W, Bw w W → Ca 189 #[.agg #[.bool na, .slice va vn vc, iV eb]] W fun r w' => r = .returned (iV tb) ∧ Bw W w') :
    Ca 223 #[.agg #[.bool na, .slice ua un uc, iV ea], .agg #[.bool na, .slice va vn vc, iV eb]] w fun r w' => r = .returned (iV pv) ∧ Bw w w' := by
  obtain⟨W,hW⟩:=eE ((w.alloc (.cells #[.bool na, .slice ua un uc, iV ea] 50)).alloc (.cells #[.bool na, .slice va vn vc, iV eb] 50))
  have hBW : Bw w W := by rw [hW]; exact (bR.alloc lR _).alloc (by simp) _
  have hbA : W.heap[w.heap.size]? = some (.cells #[.bool na, .slice ua un uc, iV ea] 50 (0, 0)) := by
    rw [hW, Below.heap_alloc _ _ _ (by simp)]; exact kB7 _ _
  have hbB : W.heap[w.heap.size + 1]? = some (.cells #[.bool na, .slice va vn vc, iV eb] 50 (0, 0)) := by
    have := kB7 (w.alloc (.cells #[.bool na, .slice ua un uc, iV ea] 50)) (.cells #[.bool na, .slice va vn vc, iV eb] 50)
    rw [hW]; simpa using this
  have hsz : W.heap.size = w.heap.size + 1 + 1 := by rw [hW]; simp
  have HCC : Hid (∀ w', Bw W w' → ((w'.cell? ⟨w.heap.size, 0, none⟩ = some (.bool na) ∧ w'.cell? ⟨w.heap.size, 1, none⟩ = some (.slice ua un uc) ∧ w'.cell? ⟨w.heap.size, 2, none⟩ = some (iV ea)) ∧ (w'.cell? ⟨w.heap.size + 1, 0, none⟩ = some (.bool na) ∧ w'.cell? ⟨w.heap.size + 1, 1, none⟩ = some (.slice va vn vc) ∧ w'.cell? ⟨w.heap.size + 1, 2, none⟩ = some (iV eb))) ∧ Bw W w') := fun w' hb => ⟨⟨(qQ3 (qQ0 hbA hb ω)).1, (qQ3 (qQ0 hbB hb ω)).1⟩, hb⟩
  have ka : ∀ W', Ca 156 #[.agg #[.bool na, .slice ua un uc, iV ea]] W' fun r w' => r = .returned (iV s) ∧ Bw W' w' := fun W' =>
    (c72 na ua un uc ea W' hun).mono fun r w' ⟨e1, e2⟩ => ⟨by rw [e1, hs.out.1], by rw [e2]; exact bR.alloc lR _⟩
  have kb : ∀ W', Ca 156 #[.agg #[.bool na, .slice va vn vc, iV eb]] W' fun r w' => r = .returned (iV s) ∧ Bw W' w' := fun W' =>
    (c72 na va vn vc eb W' hvn).mono fun r w' ⟨e1, e2⟩ => ⟨by rw [e1, hs.out.2], by rw [e2]; exact bR.alloc lR _⟩
  have HB : Hid (Bw w W) := hBW
  have k1 : ∀ w', Bw W w' → Ca 189 #[.agg #[.bool na, .slice ua un uc, iV ea]] w' fun r w'' => r = .returned (iV ta) ∧ Bw W w'' := fun w' h => (kta w' (hBW.trans (h.mono hBW.size))).mono fun r w'' ⟨e1, e2⟩ => ⟨e1, h.trans (e2.mono h.size)⟩
  have k2 : ∀ w', Bw W w' → Ca 189 #[.agg #[.bool na, .slice va vn vc, iV eb]] w' fun r w'' => r = .returned (iV tb) ∧ Bw W w'' := fun w' h => (ktb w' (hBW.trans (h.mono hBW.size))).mono fun r w'' ⟨e1, e2⟩ => ⟨e1, h.trans (e2.mono h.size)⟩
  clear hBW hbA hbB hsz hs kta ktb hun hvn
  go_enter Tryz.func223, Tryz.ntmps223
  go_wp2_with fail
  rw [← hW]
  clear hW
  refine (ka W).mono ?_
  rintro r w1 ⟨rfl, hB1⟩
  obtain ⟨⟨-, x1, x2, x3⟩, -⟩ := HCC.out w1 hB1
  have HB1 : Hid (Bw W w1) := hB1
  clear hB1
  go_wp2_with fail
  refine (kb _).mono ?_
  rintro r w2 ⟨rfl, hB2⟩
  have HB2 : Hid (Bw W w2) := qG7 HB1.out hB2
  clear x1 x2 x3 hB2 ka kb HB1
  go_upto_region 6 with fail
  obtain ⟨⟨⟨a0, a1, a2⟩, b0, b1, b2⟩, hB0⟩ := HCC.out w2 HB2.out
  have hBR : Bw W w2.drew := hB0.drew
  go_cut [23] from 24 to 28 (fun v wx => v = .bool true ∧ Hid (Bw W wx))
  case first =>
    go_region_held3 (fun w' => ((w'.cell? ⟨w.heap.size, 0, none⟩ = some (.bool na) ∧ w'.cell? ⟨w.heap.size, 1, none⟩ = some (.slice ua un uc) ∧ w'.cell? ⟨w.heap.size, 2, none⟩ = some (iV ea)) ∧ (w'.cell? ⟨w.heap.size + 1, 0, none⟩ = some (.bool na) ∧ w'.cell? ⟨w.heap.size + 1, 1, none⟩ = some (.slice va vn vc) ∧ w'.cell? ⟨w.heap.size + 1, 2, none⟩ = some (iV eb))) ∧ Bw W w') (first | (with_reducible assumption) | exact HCC.out _ hBR | exact ⟨⟨⟨a0, a1, a2⟩, b0, b1, b2⟩, hBR⟩ | (refine HCC.out _ ?_; with_reducible assumption) | go_keep)
      (first | (go_at_call_of 189 (Value.slice ua un uc); refine (k1 _ (by first | (with_reducible assumption) | exact Below.drew (by assumption))).mono ?_; rintro r w5 ⟨rfl, hb5⟩)
             | (go_at_call_of 189 (Value.slice va vn vc); refine (k2 _ (by first | (with_reducible assumption) | exact Below.drew (by assumption))).mono ?_; rintro r w6 ⟨rfl, hb6⟩))
    all_goals go_wp2_with fail
    all_goals go_meet
    all_goals exact ⟨rfl, hb6⟩
  case rest =>
    obtain ⟨W2, rfl⟩ : ∃ W2 : World, W2 = wc := ⟨_, rfl⟩
    obtain ⟨rfl, HB3⟩ := hcut
    clear a0 a1 a2 b0 b1 b2 hBR hB0
    go_upto_region 7 with fail
    obtain ⟨⟨⟨a0, a1, a2⟩, b0, b1, b2⟩, hB0⟩ := HCC.out W2 HB3.out
    have hBR : Bw W W2.drew := hB0.drew
    have k3 := hcv.out
    go_region_held3 (fun w' => ((w'.cell? ⟨w.heap.size, 0, none⟩ = some (.bool na) ∧ w'.cell? ⟨w.heap.size, 1, none⟩ = some (.slice ua un uc) ∧ w'.cell? ⟨w.heap.size, 2, none⟩ = some (iV ea)) ∧ (w'.cell? ⟨w.heap.size + 1, 0, none⟩ = some (.bool na) ∧ w'.cell? ⟨w.heap.size + 1, 1, none⟩ = some (.slice va vn vc) ∧ w'.cell? ⟨w.heap.size + 1, 2, none⟩ = some (iV eb))) ∧ Bw W w') (first | (with_reducible assumption) | exact HCC.out _ hBR | exact ⟨⟨⟨a0, a1, a2⟩, b0, b1, b2⟩, hBR⟩ | (refine HCC.out _ ?_; with_reducible assumption) | go_keep)
      (first | (go_at_call_of 189 (Value.slice ua un uc); refine (k1 _ (by first | (with_reducible assumption) | exact Below.drew (by assumption))).mono ?_; rintro r w5 ⟨rfl, hb5⟩)
             | (go_at_call_of 189 (Value.slice va vn vc); refine (k2 _ (by first | (with_reducible assumption) | exact Below.drew (by assumption))).mono ?_; rintro r w6 ⟨rfl, hb6⟩)
             | (go_at_call 252; refine (k3 _).mono ?_; rintro r w7 ⟨rfl, rfl⟩))
    all_goals go_wp2_with fail
    all_goals go_ret
    all_goals exact ⟨rfl, HB.out.trans (hb6.mono HB.out.size)⟩
theorem c77_3 (na : Bool) (ua va : Option Addr) (un uc vn vc : Nat) (ea eb s ta tb cv pv : Int) (PQ : World → Value → Value → Prop) (w : World) (hs : Hid (sgI na un = s ∧ sgI na vn = s)) (hs0 : (s == 0) = false) (hss : (s != s) = false) (htt : (ta != tb) = false) (hun : un ≤ 35184372088832) (hvn : vn ≤ 35184372088832)
    (kal : ∀ W, Bw w W → Ca 158 #[.agg #[.bool na, .slice ua un uc, iV ea], .agg #[.bool na, .slice va vn vc, iV eb]] W fun r w' => ∃ p q e', r = .returned (.tuple #[p, q, iV e']) ∧ PQ w' p q ∧ Bw W w')
    (kcd : ∀ W p q, PQ W p q → Ca 216 #[p, q] W fun r w' => r = .returned (iV cv) ∧ Bw W w') (hpv : IntKind.i64.wrap (s * cv) = pv)
    (kta : ∀ W, Bw w W → Ca 189 #[.agg #[.bool na, .slice ua un uc, iV ea]] W fun r w' => r = .returned (iV ta) ∧ Bw W w')
    (ktb : ∀ W, Bw w W → Ca 189 #[.agg #[.bool na, .slice va vn vc, iV eb]] W fun r w' => r = .returned (iV tb) ∧ Bw W w') :
    Ca 223 #[.agg #[.bool na, .slice ua un uc, iV ea], .agg #[.bool na, .slice va vn vc, iV eb]] w fun r w' => r = .returned (iV pv) ∧ Bw w w' := by
  obtain⟨W,hW⟩:=eE ((w.alloc (.cells #[.bool na, .slice ua un uc, iV ea] 50)).alloc (.cells #[.bool na, .slice va vn vc, iV eb] 50))
  have hBW : Bw w W := by rw [hW]; exact (bR.alloc lR _).alloc (by simp) _
  have hbA : W.heap[w.heap.size]? = some (.cells #[.bool na, .slice ua un uc, iV ea] 50 (0, 0)) := by
    rw [hW, Below.heap_alloc _ _ _ (by simp)]; exact kB7 _ _
  have hbB : W.heap[w.heap.size + 1]? = some (.cells #[.bool na, .slice va vn vc, iV eb] 50 (0, 0)) := by
    have := kB7 (w.alloc (.cells #[.bool na, .slice ua un uc, iV ea] 50)) (.cells #[.bool na, .slice va vn vc, iV eb] 50)
    rw [hW]; simpa using this
  have hsz : W.heap.size = w.heap.size + 1 + 1 := by rw [hW]; simp
  have HCC : Hid (∀ w', Bw W w' → ((w'.cell? ⟨w.heap.size, 0, none⟩ = some (.bool na) ∧ w'.cell? ⟨w.heap.size, 1, none⟩ = some (.slice ua un uc) ∧ w'.cell? ⟨w.heap.size, 2, none⟩ = some (iV ea)) ∧ (w'.cell? ⟨w.heap.size + 1, 0, none⟩ = some (.bool na) ∧ w'.cell? ⟨w.heap.size + 1, 1, none⟩ = some (.slice va vn vc) ∧ w'.cell? ⟨w.heap.size + 1, 2, none⟩ = some (iV eb))) ∧ Bw W w') := fun w' hb => ⟨⟨(qQ3 (qQ0 hbA hb ω)).1, (qQ3 (qQ0 hbB hb ω)).1⟩, hb⟩
  have ka : ∀ W', Ca 156 #[.agg #[.bool na, .slice ua un uc, iV ea]] W' fun r w' => r = .returned (iV s) ∧ Bw W' w' := fun W' =>
    (c72 na ua un uc ea W' hun).mono fun r w' ⟨e1, e2⟩ => ⟨by rw [e1, hs.out.1], by rw [e2]; exact bR.alloc lR _⟩
  have kb : ∀ W', Ca 156 #[.agg #[.bool na, .slice va vn vc, iV eb]] W' fun r w' => r = .returned (iV s) ∧ Bw W' w' := fun W' =>
    (c72 na va vn vc eb W' hvn).mono fun r w' ⟨e1, e2⟩ => ⟨by rw [e1, hs.out.2], by rw [e2]; exact bR.alloc lR _⟩
  have HB : Hid (Bw w W) := hBW
  have k1 : ∀ w', Bw W w' → Ca 189 #[.agg #[.bool na, .slice ua un uc, iV ea]] w' fun r w'' => r = .returned (iV ta) ∧ Bw W w'' := fun w' h => (kta w' (hBW.trans (h.mono hBW.size))).mono fun r w'' ⟨e1, e2⟩ => ⟨e1, h.trans (e2.mono h.size)⟩
  have k2 : ∀ w', Bw W w' → Ca 189 #[.agg #[.bool na, .slice va vn vc, iV eb]] w' fun r w'' => r = .returned (iV tb) ∧ Bw W w'' := fun w' h => (ktb w' (hBW.trans (h.mono hBW.size))).mono fun r w'' ⟨e1, e2⟩ => ⟨e1, h.trans (e2.mono h.size)⟩
  have KLN : Hid _ := kal
  have KCD : Hid _ := kcd
  clear hBW hbA hbB hsz hs kta ktb hun hvn kal kcd
  go_enter Tryz.func223, Tryz.ntmps223
  go_wp2_with fail
  rw [← hW]
  clear hW
  refine (ka W).mono ?_
  rintro r w1 ⟨rfl, hB1⟩
  obtain ⟨⟨-, x1, x2, x3⟩, -⟩ := HCC.out w1 hB1
  have HB1 : Hid (Bw W w1) := hB1
  clear hB1
  go_wp2_with fail
  refine (kb _).mono ?_
  rintro r w2 ⟨rfl, hB2⟩
  have HB2 : Hid (Bw W w2) := qG7 HB1.out hB2
  clear x1 x2 x3 hB2 ka kb HB1
  go_upto_region 6 with fail
  obtain ⟨⟨⟨a0, a1, a2⟩, b0, b1, b2⟩, hB0⟩ := HCC.out w2 HB2.out
  have hBR : Bw W w2.drew := hB0.drew
  go_cut [23] from 24 to 28 (fun v wx => v = .bool false ∧ Hid (Bw W wx))
  case first =>
    go_region_held3 (fun w' => ((w'.cell? ⟨w.heap.size, 0, none⟩ = some (.bool na) ∧ w'.cell? ⟨w.heap.size, 1, none⟩ = some (.slice ua un uc) ∧ w'.cell? ⟨w.heap.size, 2, none⟩ = some (iV ea)) ∧ (w'.cell? ⟨w.heap.size + 1, 0, none⟩ = some (.bool na) ∧ w'.cell? ⟨w.heap.size + 1, 1, none⟩ = some (.slice va vn vc) ∧ w'.cell? ⟨w.heap.size + 1, 2, none⟩ = some (iV eb))) ∧ Bw W w') (first | (with_reducible assumption) | exact HCC.out _ hBR | exact ⟨⟨⟨a0, a1, a2⟩, b0, b1, b2⟩, hBR⟩ | (refine HCC.out _ ?_; with_reducible assumption) | go_keep)
      (first | (go_at_call_of 189 (Value.slice ua un uc); refine (k1 _ (by first | (with_reducible assumption) | exact Below.drew (by assumption))).mono ?_; rintro r w5 ⟨rfl, hb5⟩)
             | (go_at_call_of 189 (Value.slice va vn vc); refine (k2 _ (by first | (with_reducible assumption) | exact Below.drew (by assumption))).mono ?_; rintro r w6 ⟨rfl, hb6⟩))
    all_goals go_wp2_with fail
    all_goals go_meet
    all_goals exact ⟨rfl, hb6⟩
  case rest =>
    obtain ⟨W2, rfl⟩ : ∃ W2 : World, W2 = wc := ⟨_, rfl⟩
    obtain ⟨rfl, HB3⟩ := hcut
    clear a0 a1 a2 b0 b1 b2 hBR hB0
    obtain ⟨⟨⟨a0, a1, a2⟩, b0, b1, b2⟩, hB0⟩ := HCC.out W2 HB3.out
    have HB3' : Hid (Bw w W2) := HB.out.trans (hB0.mono HB.out.size)
    have k4 := KLN.out W2 HB3'.out
    go_wp2_with fail
    refine k4.mono ?_
    rintro r w5 ⟨p, q, e', rfl, hpq, hb5⟩
    have k5 := KCD.out w5 p q hpq
    have HB5 : Hid (Bw w w5) := HB3'.out.trans (hb5.mono HB3'.out.size)
    clear k4 hb5 hpq a0 a1 a2 b0 b1 b2 hB0
    go_wp2_with fail
    refine k5.mono ?_
    rintro r w6 ⟨rfl, hb6⟩
    have HB6 : Hid (Bw w w6) := HB5.out.trans (hb6.mono HB5.out.size)
    clear k5 hb6
    go_wp2_with fail
    go_ret
    exact ⟨rfl, HB6.out⟩
def ordN (na:Bool) (x:Nat) (ea:Int) (nb:Bool) (y:Nat) (eb:Int):Int :=
 if sgI na (dlen x)=sgI nb (dlen y)then sgI na (dlen x)*cmpI (x*2^(ea - min ea eb).toNat:Nat) (y*2^(eb - min ea eb).toNat:Nat)else cmpI (sgI na (dlen x)) (sgI nb (dlen y))
theorem qY2 (x y:Int):(x<y∧cmpI x y = -1)∨(y<x∧cmpI x y=1)∨(x=y∧cmpI x y=0):=by
 unfold cmpI;by_cases Y:x<y
 ·rw[kU6 Y];exact .inl ⟨Y,rfl⟩
 ·rw[kU5 Y];by_cases u:y<x
  ·rw[kU6 u];exact .inr (.inl ⟨u,rfl⟩)
  ·rw[kU5 u];exact .inr (.inr ⟨ω,rfl⟩)
theorem qP7 {na:Bool} {n:Nat} (h:n≠0):sgI na n=if na then -1 else 1:=by unfold sgI;rw[kU5 h]
theorem zX2 {na:Bool}:sgI na 0=0:=by unfold sgI;rw[kU6 rfl]
theorem zD5 {x y k l:Nat} (u:y≠0) (h:bl x+k<bl y+l):x*2^k<y*2^l:=by
 have J:=qG2 x;have Y:=qD1 u;have V:bl y≠0:=by unfold bl;rw[kU5 u];omega
 have D:x*2^k<2^(bl x+k):=by rw[kN3];exact kM4 J (kF3 k)
 have F:2^(bl x+k)≤2^(bl y - 1+l):=kF4 ω ω;have H:2^(bl y - 1+l)≤y*2^l:=by rw[kN3];exact kF5 _ Y
 omega
theorem c77 {na nb:Bool} {ua J:Option Addr} {uc Y x y:Nat} {ea eb:Int} {w:World} (h1:Is w (.slice ua (dlen x) uc) x) (h2:Is w (.slice J (dlen y) Y) y) (hx:dlen x≤500000) (hy:dlen y≤500000) (ha : -2000000≤ea∧ea≤2000000) (hb : -2000000≤eb∧eb≤2000000) :
  Ca 223 #[.agg (Nu na ua (dlen x) uc ea),.agg (Nu nb J (dlen y) Y eb)] w (Rq w (iV (ordN na x ea nb y eb))):=by
 unfold ordN;by_cases u:sgI na (dlen x)=sgI nb (dlen y)
 ·rw[kU6 u];by_cases H:x=0
  ·subst H;have V:y=0:=by
    rw[qQ5,zX2] at u;apply qQ8.1
    apply Decidable.byContradiction
    intro h;rw[qP7 h] at u;cases nb <;> simp at u
   subst V;rw[qQ5,zX2,Int.zero_mul];exact c77_0 na nb ua J uc Y ea eb w
  ·have F:dlen x≠0:=fun e=>H (qQ8.1 e);have qZ:dlen y≠0:=by
    intro e;rw[e,zX2,qP7 F] at u;cases na <;> simp at u
   have V:y≠0:=fun e=>qZ (by rw[e,qQ5])
   obtain rfl:na=nb:=by
    rw[qP7 F,qP7 qZ] at u;cases na <;> cases nb <;> simp at u ⊢
   have qQ:sgI na (dlen x) = -1∨sgI na (dlen x)=1:=by rw[qP7 F];cases na <;> simp
   have L:∀ W,Bw w W→Ca 189 #[.agg (Nu na ua (dlen x) uc ea)] W (Rq W (iV (bl x+ea))):=fun W D=>c75 (h1.later D) ω ω ω;have T:∀ W,Bw w W→Ca 189 #[.agg (Nu na J (dlen y) Y eb)] W (Rq W (iV (bl y+eb))):=fun W D=>c75 (h2.later D) ω ω ω;have C:(sgI na (dlen x)==0)=false:=by rcases qQ with h|h <;> rw[h] <;> decide
   have I:(sgI na (dlen x) != sgI na (dlen x))=false:=by simp
   have hw:∀ c:Int,c = -1∨c=1∨c=0→IntKind.i64.wrap (sgI na (dlen x)*c)=sgI na (dlen x)*c:=by
    intro c hc;rcases qQ with h|h <;> rcases hc with rfl|rfl|rfl <;> rw[h] <;> decide
   have qX:(ea - min ea eb).toNat=ea - min ea eb∧(eb - min ea eb).toNat=eb - min ea eb:=ω;by_cases ht:(bl x:Int)+ea=bl y+eb
   ·refine c77_3 na ua J _ uc _ Y ea eb (sgI na (dlen x)) (bl x+ea) (bl y+eb) (cmpI (x*2^(ea - min ea eb).toNat:Nat) (y*2^(eb - min ea eb).toNat:Nat)) _ (fun W p q=>Is W p (x*2^(ea - min ea eb).toNat)∧Is W q (y*2^(eb - min ea eb).toNat)) w ⟨rfl,u.symm⟩ C I (by rw[ht];simp) ω ω ?_ ?_ (hw _ ?_) L T
    ·intro W D;refine Calls.mono (c99 (na:=na) (nb:=na) (h1.later D) (h2.later D) ω ω ω ω) ?_;rintro r w' ⟨p,q,rfl,hp,hq,qY⟩;exact⟨p,q,_,rfl,⟨hp.is,hq.is⟩,qY⟩
    ·rintro W p q ⟨hp,hq⟩;have l1:dlen (x*2^(ea - min ea eb).toNat)≤760000:=by have:=qK2 (x:=x) (k:=(ea - min ea eb).toNat) rfl;omega
     have l2:dlen (y*2^(eb - min ea eb).toNat)≤760000:=by have:=qK2 (x:=y) (k:=(eb - min ea eb).toNat) rfl;omega
     refine(c129 hp hq ω ω).mono ?_
     rintro r w' ⟨rfl,d,rfl⟩;exact⟨rfl,rfl,rfl,rfl,kH8 _,fun _ _=>rfl⟩
    ·rcases qY2 (x*2^(ea - min ea eb).toNat:Nat) (y*2^(eb - min ea eb).toNat:Nat)with h|h|h
     ·exact .inl h.2
     ·exact .inr (.inl h.2)
     ·exact .inr (.inr h.2)
   ·have ec:cmpI (x*2^(ea - min ea eb).toNat:Nat) (y*2^(eb - min ea eb).toNat:Nat)=cmpI (bl x+ea) (bl y+eb):=by
     rcases qY2 (bl x+ea) (bl y+eb)with h|h|h
     ·have:=zD5 (x:=x) (k:=(ea - min ea eb).toNat) (l:=(eb - min ea eb).toNat) V ω
      rw[h.2];unfold cmpI;rw[kU6 ω]
     ·have:=zD5 (x:=y) (y:=x) (k:=(eb - min ea eb).toNat) (l:=(ea - min ea eb).toNat) H ω
      rw[h.2];unfold cmpI;rw[kU5 ω,kU6 ω]
     ·exact absurd h.1 ht
    rw[ec];refine c77_2 na ua J _ uc _ Y ea eb (sgI na (dlen x)) (bl x+ea) (bl y+eb) (cmpI (bl x+ea) (bl y+eb)) _ w ⟨rfl,u.symm⟩ C I (by simp;omega) ω ω (fun W=>c128 _ _ W) (hw _ ?_) L T
    rcases qY2 (bl x+ea) (bl y+eb)with h|h|h
    ·exact .inl h.2
    ·exact .inr (.inl h.2)
    ·exact .inr (.inr h.2)
 ·rw[kU5 u];exact c77_1 na nb ua J _ uc _ Y ea eb _ _ w rfl rfl (by simp;exact u) ω ω
theorem kZ9 {na nb:Bool} {ua H:Option Addr} {uc V x y:Nat} {ea eb:Int} {w:World} (D:Is w (.slice ua (dlen x) uc) x) (F:Is w (.slice H (dlen y) V) y) (hx:dlen x≤500000) (T:dlen y≤500000) (I : -2000000≤ea∧ea≤2000000) (C : -2000000≤eb∧eb≤2000000)
  (Y:okN na (dlen x) x ea=true) (u:okN nb (dlen y) y eb=true) :
  Ca 166 #[.agg (Nu na ua (dlen x) uc ea),.agg (Nu nb H (dlen y) V eb)] w fun r w'=>r=.returned (iV (ordN na x ea nb y eb))∧Bw w w' :=
 c30_1 na nb ua H _ uc _ V ea eb _ w (fun W g J L=>by
  have:=qO9 L (D.later J) (F.later J) ω ω
  rw[Y,u] at this;exact this) (fun W J=>c77 (D.later J) (F.later J) hx T I C)
theorem c48 (m:Int) (u:m=1∨m=2∨m=3) (w:World):Ca 180 #[iV m] w fun r w'=>r=.returned (.bool true)∧w'=w:=by
 rcases u with rfl|rfl|rfl
 all_goals go_enter Tryz.func180,Tryz.ntmps180
 all_goals go_wp2
 all_goals go_ret
 all_goals exact⟨rfl,rfl⟩
theorem c24_1 (na:Bool) (ua:Option Addr) (un uc F:Nat) (ea mode:Int) (w:World)
  (T:∀ W g,Bw w W→Hn W g na ua un uc ea 50→Ca 128 #[.slice (some ⟨g,0,none⟩) 1 1] W (Rq W (.bool true)))
  (D:∀ W,Ca 180 #[iV mode] W fun r w'=>r=.returned (.bool true)∧w'=W)
  (H:∀ W,Bw w W→Ca 274 #[.agg (Nu na ua un uc ea),iV mode] W (Rq W (.float .f64 F))) :
  Ca 249 #[.agg (Nu na ua un uc ea),iV mode] w (Rq w (.tuple #[.float .f64 F,iV 0])):=by
 obtain⟨W,hW⟩:=eE (w.alloc (.cells (Nu na ua un uc ea) 50));have u:Bw w W:=by rw[hW];exact bR.alloc lR _
 have J:W.heap.size=w.heap.size+1:=by rw[hW];simp
 have L:Hn W w.heap.size na ua un uc ea 50:=by rw[hW];exact kB7 _ _
 have k1:=T (W.alloc (.cells (Nu na ua un uc ea) 50)) (w.heap.size+1) (u.alloc u.size _) (by rw[←J];exact kB7 _ _)
 have HX:Hid _:=aI3 u J L;have HK:Hid _:=H;clear u J L T H
 go_enter Tryz.func249,Tryz.ntmps249
 go_wp2_with fail;rw[←hW];clear hW;refine k1.mono ?_;rintro r w1 ⟨rfl,I⟩;have qQ:Hid (Bw W w1):=((kH9 W.heap.size W).alloc lR _).trans (I.mono (by simp))
 clear k1 I;obtain⟨⟨x0,x1,x2⟩,-⟩:=qQ3 (qQ0 HX.out.2.2 qQ.out (by have:=HX.out.2.1;omega))
 have V:Hid _:=HX.out.1.trans (qQ.out.mono HX.out.1.size);have k2:=D w1;clear D
 go_wp2_with fail;refine k2.mono ?_;rintro r w2 ⟨rfl,Y⟩;replace Y:=Y.symm;subst Y;clear k2;have k3:=HK.out w1 V.out
 go_wp2_with fail;refine k3.mono ?_;rintro r w3 ⟨rfl,C⟩;have qZ:Hid _:=V.out.trans (C.mono V.out.size);clear k3 C x0 x1 x2
 go_wp2_with fail;refine kB8 (kM3 rfl _ _ _) rfl ?_;exact⟨rfl,qZ.out⟩
end Go.Proofs.YtfkaogdmlcdceaaGreatDoor
namespace Go.Proofs.YtfkaogdmlcdceaaGreatDoor
open Go.RowKit
attribute [local go_sem] iV Nu
theorem qS6 {w:World} {g k:Nat} (i:Nat) (v:Value) (h:k≠g):(w.setCell ⟨g,i,none⟩ v).heap[k]?=w.heap[k]?:=by
 simp[World.setCell,Array.getElem?_modify,Ne.symm h]
def Dn (w:World) (base:Nat) (v:Value) (n z:Nat):Prop :=
 (v=.slice none 0 0∧n=0)∨∃ g cap c,v=.slice (some ⟨g,0,none⟩) n cap∧base≤g∧(n≤cap∧cap≤9223372036854775807)∧w.heap[g]?=some (.cells c 96 (0,0))∧c.size=cap∧∀ i,i<n→c[i]?=some (.int .u32 (dg z i:Nat))
structure Arg (w:World) (ao:Option Addr) (n cap z:Nat):Prop where
 nil:n=0→(∃ ad,ao=some ad)∨(ao=none∧cap=0)
 at_:At w ao n z
 le:n≤cap
 small:n≤35184372088832
theorem Arg.later {w w':World} {ao:Option Addr} {n cap z:Nat} (h:Arg w ao n cap z) (u:Bw w w'):Arg w' ao n cap z:=⟨h.nil,h.at_.later u,h.le,h.small⟩
theorem Dn.mono {w:World} {Y u:Nat} {v:Value} {n z:Nat} (h:Dn w Y v n z) (H:u≤Y):Dn w u v n z:=by
 rcases h with h|⟨g,cap,c,V,F,J⟩
 ·exact .inl h
 ·exact .inr ⟨g,cap,c,V,ω,J⟩
def putL (a:Act) (l:List (Tmp×Value)):Act:=l.foldl (fun a p=>a.put (some p.1) p.2) a
theorem zB1 (l:List (Tmp×Value)):∀ a:Act,(putL a l).defers=a.defers:=by
 induction l with
 | nil=>intro a;rfl
 | cons p r ih=>intro a;show(putL (a.put (some p.1) p.2) r).defers=_;rw[ih,qF8]
theorem qO6 {s:Tmp} (l:List (Tmp×Value)):∀ a:Act,s ∉ l.map (·.1)→(putL a l).tmps[s]?=a.tmps[s]?:=by
 induction l with
 | nil=>intro a _;rfl
 | cons p r ih =>
  intro a h;simp only[kH2,List.mem_cons,not_or] at h;show(putL (a.put (some p.1) p.2) r).tmps[s]?=_
  rw[ih _ h.2,qX7 h.1]
theorem yP2 {s:Tmp} {v:Value} (l:List (Tmp×Value)):∀ a:Act,(s,v) ∈ l→(l.map (·.1)).Nodup→s<a.tmps.size→(putL a l).tmps[s]?=some v:=by
 induction l with
 | nil=>intro a h;cases h
 | cons p r ih =>
  intro a h u Y;simp only[kH2,List.nodup_cons] at u;show(putL (a.put (some p.1) p.2) r).tmps[s]?=_
  rcases List.mem_cons.1 h with h|h
  ·subst h;rw[qO6 _ _ u.1,qP9 Y]
  ·exact ih _ h u.2 (by rw[qR0];exact Y)
theorem zK2 {a a0:Act} {l:List (Tmp×Value)} (D:(l.map (·.1)).Nodup) (H:a.tmps.size=a0.tmps.size) (L:a.defers=a0.defers) (T:∀ p ∈ l,a.tmps[p.1]?=some p.2) (F:∀ s,s ∉ l.map (·.1)→a.tmps[s]?=a0.tmps[s]?):a=putL a0 l:=by
 have J:a.tmps=(putL a0 l).tmps:=by
  refine Array.ext_getElem? fun s=>?_;by_cases h:s ∈ l.map (·.1)
  ·obtain⟨p,Y,rfl⟩:=List.mem_map.1 h;have V:=T p Y;rw[V,yP2 l a0 Y D (by rw[←H];exact(Array.getElem?_eq_some_iff.1 V).1)]
  ·rw[qO6 l a0 h];exact F s h
 have u:a.defers=(putL a0 l).defers:=by rw[zB1];exact L
 cases a with
 | mk t d =>
  cases Y:putL a0 l with
  | mk t' d' =>
   rw[Y] at J u;simp only at J u
   rw[J,u]
theorem qX2:Tryz.prog.follows .mixedOrders=true:=by kernel_rfl
def sv (s:Bool) (x:Nat):Int:=if s then -(x:Int)else x
def vz (K:Nat) (s:Bool) (x:Nat) (e:Int):Int:=sv s x*((2^(e+K).toNat:Nat):Int)
theorem qT8 (s:Bool):sv s 0=0:=by cases s <;> rfl
theorem zL7 {s:Bool} {x:Nat}:sv s x=0↔x=0:=by
 cases s <;> simp[sv]
theorem xS3 (s u:Bool) (x y:Nat):sv (!(s==u)) (x*y)=sv s x*sv u y:=by
 cases s <;> cases u <;> simp[sv,kN8,Int.neg_mul,Int.mul_neg]
theorem yM0 (s:Bool) (x k:Nat):sv s (x*k)=sv s x*(k:Int):=by
 cases s <;> simp[sv,kN8,Int.neg_mul]
theorem zF2 (k:Nat):(0:Int)<((2^k:Nat):Int):=by
 have:=kF3 k;omega
theorem qT4 (K:Nat) (s:Bool) (e:Int):vz K s 0 e=0:=by unfold vz;rw[qT8,Int.zero_mul]
theorem qT6 {K:Nat} {s:Bool} {x:Nat} {e:Int}:vz K s x e=0↔x=0:=by
 unfold vz;constructor
 ·intro h;rcases Int.mul_eq_zero.1 h with h|h
  ·exact zL7.1 h
  ·have:=zF2 (e+K).toNat;omega
 ·rintro rfl;rw[qT8,Int.zero_mul]
theorem qD9 {K:Nat} {s:Bool} {x k:Nat} {e:Int} (h:0≤e+K):vz K s (x*2^k) e=vz K s x (e+k):=by
 unfold vz;rw[yM0,Int.mul_assoc,show(e+(k:Int)+K).toNat=k+(e+K).toNat by omega,kN3,kN8]
def cn (s:Bool) (z:Nat) (e:Int):Bool×Nat×Int:=if z=0 then(false,0,0) else(s,z / 2^tz z,e+tz z)
theorem xZ8 {K:Nat} {s:Bool} {z:Nat} {e:Int} (h:0≤e+K):vz K (cn s z e).1 (cn s z e).2.1 (cn s z e).2.2=vz K s z e:=by
 unfold cn;by_cases u:z=0
 ·subst u;rw[kU6 rfl,qT4,qT4]
 ·rw[kU5 u];have Y:=(qX0 z z lR u).1;show vz K s (z / 2^tz z) (e+tz z)=_
  rw[←qD9 h,kN4,Y]
theorem zC3 {x u a b:Nat} (hx:x % 2=1) (V:u % 2=1) (h:x*2^a=u*2^b):x=u∧a=b:=by
 have J:∀ {x u a b:Nat},x % 2=1→a≤b→x*2^a=u*2^b→x=u∧a=b:=by
  intro x u a b hx H h;obtain⟨d,rfl⟩:∃ d,b=a+d:=⟨b - a,ω⟩;have Y:x=u*2^d:=by
   have:x*2^a=(u*2^d)*2^a:=by rw[h,kN3];grind
   exact Nat.eq_of_mul_eq_mul_right (kF3 a) this
  cases d with
  | zero=>simp at Y;exact⟨Y,rfl⟩
  | succ d =>
   exfalso;rw[kN5,←kN6] at Y;omega
 rcases Nat.le_total a b with Y|Y
 ·exact J hx Y h
 ·have:=J V Y h.symm
  exact⟨this.1.symm,this.2.symm⟩
theorem cn_eq {K:Nat} {s V:Bool} {z u:Nat} {e e':Int} (h1:0≤e+K) (h2:0≤e'+K) (h:vz K s z e=vz K V u e'):cn s z e=cn V u e':=by
 by_cases F:z=0
 ·subst F;rw[qT4] at h;obtain rfl:=qT6.1 h.symm;simp[cn]
 ·have H:u≠0:=fun e0=>by subst e0;rw[qT4] at h;exact F (qT6.1 h)
  have L:=xZ8 (s:=s) (z:=z) h1;have T:=xZ8 (s:=V) (z:=u) h2;rw[←L,←T] at h;unfold cn at h ⊢;rw[kU5 F,kU5 H] at h ⊢;have C:=(qX0 z z lR F).2;have W:=(qX0 u u lR H).2;generalize z / 2^tz z=x at *;generalize u / 2^tz u=J at *;simp only at h
  have hp:0≤e+tz z+(K:Int):=ω;have I:0≤e'+tz u+(K:Int):=ω;generalize e+(tz z:Int)=f at *;generalize e'+(tz u:Int)=Y at *;unfold vz sv at h;have e1:=zF2 (f+K).toNat;have e2:=zF2 (Y+K).toNat;have D:s=V∧x*2^(f+K).toNat=J*2^(Y+K).toNat:=by
   have p1:(0:Int)<(x:Int)*((2^(f+K).toNat:Nat):Int):=Int.mul_pos ω e1;have p2:(0:Int)<(J:Int)*((2^(Y+K).toNat:Nat):Int):=Int.mul_pos ω e2;have c1:((x*2^(f+K).toNat:Nat):Int)=(x:Int)*((2^(f+K).toNat:Nat):Int):=kN8 ..;have c2:((J*2^(Y+K).toNat:Nat):Int)=(J:Int)*((2^(Y+K).toNat:Nat):Int):=kN8 ..;generalize (x:Int)*((2^(f+K).toNat:Nat):Int)=A at *;generalize (J:Int)*((2^(Y+K).toNat:Nat):Int)=A' at *;have n1 : -(x:Int)*((2^(f+K).toNat:Nat):Int) = -((x:Int)*((2^(f+K).toNat:Nat):Int)):=Int.neg_mul ..;have n2 : -(J:Int)*((2^(Y+K).toNat:Nat):Int) = -((J:Int)*((2^(Y+K).toNat:Nat):Int)):=Int.neg_mul ..;cases s <;> cases V <;> simp only[if_true,if_false,Bool.false_eq_true,Int.neg_mul] at h
   ·exact⟨rfl,ω⟩
   ·exfalso;omega
   ·exfalso;omega
   ·exact⟨rfl,ω⟩
  obtain⟨rfl,D⟩:=D;obtain⟨rfl,qQ⟩:=zC3 C W D;rw[show f=Y by omega]
theorem xZ7 {K:Nat} {na nb:Bool} {x y:Nat} {ea eb:Int} (L:0≤ea+K) (T:0≤eb+K) :
  vz K (sumN na x ea nb y eb).1 (sumN na x ea nb y eb).2.1 (sumN na x ea nb y eb).2.2=vz K na x ea+vz K nb y eb:=by
 unfold sumN;by_cases H:x=0
 ·subst H;rw[kU6 rfl,qT4,Int.zero_add]
 ·rw[kU5 H];by_cases V:y=0
  ·subst V;rw[kU6 rfl,qT4,Int.add_zero]
  ·rw[kU5 V];have F:0≤min ea eb+(K:Int):=ω;have D:vz K na x ea=vz K na (x*2^(ea - min ea eb).toNat) (min ea eb):=by
    rw[qD9 F,show min ea eb+((ea - min ea eb).toNat:Int)=ea by omega]
   have e2:vz K nb y eb=vz K nb (y*2^(eb - min ea eb).toNat) (min ea eb):=by
    rw[qD9 F,show min ea eb+((eb - min ea eb).toNat:Int)=eb by omega]
   rw[D,e2];generalize x*2^(ea - min ea eb).toNat=X at *;generalize y*2^(eb - min ea eb).toNat=Y at *;unfold vz;rw[←Int.add_mul];by_cases J:na=nb
   ·subst J;rw[kU6 rfl];congr 1
    cases na <;> simp[sv]
    omega
   ·rw[kU5 J];by_cases u:X<Y
    ·rw[kU6 u];congr 1
     cases na <;> cases nb <;> simp[sv] at J ⊢ <;> omega
    ·rw[kU5 u];congr 1
     cases na <;> cases nb <;> simp[sv] at J ⊢ <;> omega
theorem xP4 {K L:Nat} {na nb:Bool} {x y:Nat} {ea eb:Int} (Y:0≤ea+K) (u:0≤eb+L) :
  vz (K+L) (!(na==nb)) (x*y) (ea+eb)=vz K na x ea*vz L nb y eb:=by
 unfold vz;rw[xS3,show(ea+eb+((K+L:Nat):Int)).toNat=(ea+K).toNat+(eb+L).toNat by omega,kN3,kN8]
 grind
def Fits (lo hi:Int) (x:Nat) (e:Int):Prop:=x=0∨(lo≤e∧e≤hi∧x<2^(hi - e).toNat)
theorem Fits.cn {lo hi:Int} {s:Bool} {z:Nat} {e:Int} (h:Fits lo hi z e):Fits lo hi (cn s z e).2.1 (cn s z e).2.2:=by
 rcases h with rfl|⟨C,W,V⟩
 ·left;simp[YtfkaogdmlcdceaaGreatDoor.cn]
 ·unfold YtfkaogdmlcdceaaGreatDoor.cn;by_cases u:z=0
  ·subst u;left;simp
  ·rw[kU5 u];right
   have D:=(qX0 z z lR u).1;have Y:=(qX0 z z lR u).2;have J:1≤z / 2^tz z:=kB0 fun H=>by rw[H] at Y;simp at Y
   have F:tz z<(hi - e).toNat:=by
    refine Nat.lt_of_not_le fun h=>?_;have L:=kF4 (n:=2) ω h;have T:=kB1 (2^tz z) J;omega
   refine⟨by show lo≤e+(tz z:Int);omega,by show e+(tz z:Int)≤hi;omega,?_⟩
   show z / 2^tz z<2^(hi - (e+(tz z:Int))).toNat
   refine(kM6 (kF3 _)).2 ?_
   rw[←kN3,show(hi - (e+(tz z:Int))).toNat+tz z=(hi - e).toNat by omega]
   exact V
theorem Fits.dlen {lo hi:Int} {x:Nat} {e:Int} (h:Fits lo hi x e) (V:hi - lo≤65536):dlen x≤2048:=by
 rcases h with rfl|⟨F,H,J⟩
 ·rw[qQ5];omega
 ·refine(qZ3 _ _).2 (kF6 J ?_)
  have Y:∀ n,B^n=2^(32*n):=fun n=>by
   have:(B:Nat)=2^32:=by decide
   rw[this,←Nat.pow_mul]
  have u:(hi - e).toNat≤32*2048:=ω;generalize 2048=n at *;rw[Y];exact kF4 ω u
theorem Fits.ok {lo hi:Int} {s:Bool} {z:Nat} {e:Int} (h:Fits lo hi z e) (H:hi - lo≤65536) (W : -65536≤lo) (L:hi≤65536):okR s z e=true:=by
 unfold okR;by_cases V:z=0
 ·rw[kU6 V]
 ·rw[kU5 V];have Y:=h.cn (s:=s);have J:=Y.dlen H;unfold YtfkaogdmlcdceaaGreatDoor.cn at Y J;rw[kU5 V] at Y J;have T:=(qX0 z z lR V).2;simp only at Y J
  generalize z / 2^tz z=x at *;have u:x≠0:=ω;obtain⟨I,c2,C⟩:=Y.resolve_left u;unfold okN;rw[kU5 (fun e=>u (qQ8.1 e))];have D:dg x 0 % 2=1:=by
   unfold dg;rw[kN7,Nat.div_one];unfold B;omega
  have F:=zT4 u;simp only[kB9,decide_eq_true_eq,bne_iff_ne,ne_eq,beq_iff_eq];exact⟨⟨⟨⟨J,F⟩,D⟩,ω⟩,ω⟩
def PN (w:World) (A:Value) (t:Bool×Nat×Int):Prop:=∃ ao cap,A=.agg #[.bool t.1,.slice ao (dlen t.2.1) cap,.int .i64 t.2.2]∧Is w (.slice ao (dlen t.2.1) cap) t.2.1
def Ok (t:Bool×Nat×Int):Prop:=okN t.1 (dlen t.2.1) t.2.1 t.2.2=true
theorem PN.later {w w':World} {A:Value} {t:Bool×Nat×Int} (h:PN w A t) (u:Bw w w'):PN w' A t:=by
 obtain⟨ao,cap,J,Y⟩:=h;exact⟨ao,cap,J,Y.later u⟩
theorem PN.shape {w:World} {A:Value} {t:Bool×Nat×Int} (h:PN w A t):∃ s ao n cap e,A=.agg (Nu s ao n cap e):=by
 obtain⟨ao,cap,u,-⟩:=h;exact⟨_,_,_,_,_,u⟩
theorem Nrm.pn {w:World} {u:Nat} {A:Value} {s:Bool} {z:Nat} {e:Int} (h:Nrm w u A s z e):PN w A (cn s z e):=by
 unfold cn;rcases h with ⟨rfl,rfl⟩|⟨F,v,rfl,Y⟩
 ·rw[kU6 rfl];exact⟨none,0,by rw[qQ5];rfl,by rw[qQ5];exact yK5 w⟩
 ·rw[kU5 F];obtain⟨ao,cap,rfl,H,V,J⟩:=Y.is;exact⟨ao,cap,rfl,ao,cap,rfl,H,V,J⟩
theorem ok_cn {s:Bool} {z:Nat} {e:Int} (h:okR s z e=true):Ok (cn s z e):=by
 unfold Ok cn;unfold okR at h;by_cases u:z=0
 ·rw[kU6 u,qQ5];rfl
 ·rw[kU5 u] at h ⊢; exact h
theorem Ok.facts {t:Bool×Nat×Int} (h:Ok t):dlen t.2.1≤2048 ∧ -65536≤t.2.2∧t.2.2≤65536∧(t.2.1=0→t=(false,0,0))∧(t.2.1≠0→t.2.1 % 2=1):=by
 obtain⟨s,x,e⟩:=t;unfold Ok okN at h;simp only at h ⊢
 by_cases Y:x=0
 ·subst Y;rw[qQ5,kU6 rfl] at h;simp at h
  obtain⟨rfl,rfl⟩:=h;rw[qQ5];exact⟨ω,ω,ω,fun _=>rfl,fun h=>absurd rfl h⟩
 ·rw[kU5 (fun e=>Y (qQ8.1 e))] at h;simp only[kB9,decide_eq_true_eq,bne_iff_ne,ne_eq,beq_iff_eq] at h;obtain⟨⟨⟨⟨H,F⟩,u⟩,V⟩,J⟩:=h;refine⟨H,V,J,fun h=>absurd h Y,fun _=>?_⟩
  unfold dg at u;rw[kN7,Nat.div_one] at u;unfold B at u;omega
def Op2 (f:FuncId) (t1 t2 t3:Bool×Nat×Int):Prop:=∀ W X Y,Tab32 W→PN W X t1→PN W Y t2→Calls Tryz.prog f #[X,Y] W fun r w'=>∃ s ao n cap e,r=.returned (.tuple #[.agg #[.bool s,.slice ao n cap,.int .i64 e],.int .i64 0])∧PN w' (.agg #[.bool s,.slice ao n cap,.int .i64 e]) t3∧Bw W w'
theorem zN1 {w:World} {s:Bool} {z:Nat} {e:Int} {r:Ending} {w':World} (h:Held w s z e r w') (hok:okR s z e=true) :
  ∃ u ao n cap e',r=.returned (.tuple #[.agg (Nu u ao n cap e'),iV 0])∧PN w' (.agg (Nu u ao n cap e')) (cn s z e)∧Bw w w':=by
 obtain⟨A,rfl,V,J⟩:=h;rw[hok];have Y:=V.pn;obtain⟨u,ao,n,cap,e',rfl⟩:=Y.shape;exact⟨u,ao,n,cap,e',rfl,Y,J⟩
theorem kV1 {J u:Bool×Nat×Int} (F:Ok J) (H:Ok u) (hok:okR (sumN J.1 J.2.1 J.2.2 u.1 u.2.1 u.2.2).1 (sumN J.1 J.2.1 J.2.2 u.1 u.2.1 u.2.2).2.1 (sumN J.1 J.2.1 J.2.2 u.1 u.2.1 u.2.2).2.2=true) :
  Op2 167 J u (cn (sumN J.1 J.2.1 J.2.2 u.1 u.2.1 u.2.2).1 (sumN J.1 J.2.1 J.2.2 u.1 u.2.1 u.2.2).2.1 (sumN J.1 J.2.1 J.2.2 u.1 u.2.1 u.2.2).2.2):=by
 intro W X Y hT hX hY;obtain⟨ua,uc,rfl,T⟩:=hX;obtain⟨C,L,rfl,D⟩:=hY;obtain⟨a1,a2,a3,-,-⟩:=F.facts;obtain⟨b1,b2,b3,-,-⟩:=H.facts;have hl:=zU6 J.1 J.2.1 J.2.2 u.1 u.2.1 u.2.2 ω ω ω ω;refine(c34_1 J.1 u.1 ua C _ uc _ L J.2.1 u.2.1 _ J.2.2 u.2.2 _ _ W ω (fun W' g V I=>?_) (fun W' V=>c87 (T.later V) (D.later V) ω ω ω ω (hT.later V))).mono fun r w' h=>zN1 h hok
 have:=qO9 I (T.later V) (D.later V) ω ω
 unfold Ok at F H;rw[F,H] at this;exact this
theorem xS4 {J u:Bool×Nat×Int} (H:Ok J) (V:Ok u) (hok:okR (sumN J.1 J.2.1 J.2.2 (!u.1&&decide (0<dlen u.2.1)) u.2.1 u.2.2).1 (sumN J.1 J.2.1 J.2.2 (!u.1&&decide (0<dlen u.2.1)) u.2.1 u.2.2).2.1 (sumN J.1 J.2.1 J.2.2 (!u.1&&decide (0<dlen u.2.1)) u.2.1 u.2.2).2.2=true) :
  Op2 161 J u (cn (sumN J.1 J.2.1 J.2.2 (!u.1&&decide (0<dlen u.2.1)) u.2.1 u.2.2).1 (sumN J.1 J.2.1 J.2.2 (!u.1&&decide (0<dlen u.2.1)) u.2.1 u.2.2).2.1 (sumN J.1 J.2.1 J.2.2 (!u.1&&decide (0<dlen u.2.1)) u.2.1 u.2.2).2.2):=by
 intro W X Y C L T;obtain⟨ua,uc,rfl,D⟩:=L;obtain⟨va,I,rfl,F⟩:=T;obtain⟨a1,a2,a3,-,-⟩:=H.facts;obtain⟨b1,b2,b3,-,-⟩:=V.facts;exact(xS5 D F ω ω ω ω H V C).mono fun r w' h=>zN1 h hok
theorem xE6 {J u:Bool×Nat×Int} (H:Ok J) (V:Ok u) (hok:okR (!(J.1==u.1)) (J.2.1*u.2.1) (J.2.2+u.2.2)=true) :
  Op2 162 J u (cn (!(J.1==u.1)) (J.2.1*u.2.1) (J.2.2+u.2.2)):=by
 intro W X Y C L T;obtain⟨ua,uc,rfl,D⟩:=L;obtain⟨va,I,rfl,F⟩:=T;obtain⟨a1,a2,a3,-,-⟩:=H.facts;obtain⟨b1,b2,b3,-,-⟩:=V.facts;exact(xE7 D F ω ω ω ω H V C).mono fun r w' h=>zN1 h hok
end Go.Proofs.YtfkaogdmlcdceaaGreatDoor
namespace Go.Proofs.YtfkaogdmlcdceaaGreatDoor
open Go.RowKit Go.Fl64
attribute [local go_sem] iV Nu
theorem xN3 {x:Nat} (h:x≠0):bl x=bl (x / 2)+1:=by
 have H:=qG2 (x / 2);apply xN5
 ·rw[kN5];omega
 ·refine .inr ?_;rw[kM5];by_cases u:x / 2=0
  ·rw[u];have:bl 0=0:=by unfold bl;simp
   rw[this];omega
  ·have Y:=qD1 u;have V:bl (x / 2)≠0:=by unfold bl;rw[kU5 u];omega
   obtain⟨k,J⟩:∃ k,bl (x / 2)=k+1:=⟨bl (x / 2) - 1,ω⟩;rw[J] at Y ⊢;rw[kM5] at Y;rw[kN5];omega
theorem r42 (b o n cap x:Nat) (w:World) (qQ:0<n) (hn:n≤1000000000) (hx:dlen x=n) (Y:∀ i,i<n→w.cell? ⟨b,o+i,none⟩=some (.int .u32 (dg x i:Nat))) :
  Ca 110 #[.slice (some ⟨b,o,none⟩) n cap] w fun e w'=>e=.returned (iV (bl x:Nat))∧w'=w:=by
 have H:x≠0:=by intro e;subst e;rw[qQ5] at hx;omega
 have J:=zQ8 H;have V:=qX1 x (n - 1);have g:=Y (n - 1) ω;rw[hx] at J;obtain⟨k,rfl⟩:∃ k,n=k+1:=⟨n - 1,ω⟩;rw[kM5] at J V g;generalize hd:dg x k=d at *;have T:Hid _:=And.intro J V;have W:(((k+1:Nat):Int)==0)=false:=by simp;omega
 clear Y J V hx H hd
 go_enter Tryz.func110,Tryz.ntmps110
 go_wp2
 go_loop [3,4] (fun c t=>∃ (j u:Nat),c=iV (32*(k:Int)+j)∧t=.int .u32 (u:Int)∧Hid (bl d=j+bl u∧u<4294967296)∧j≤32) (fun _ t=>(intOf t).toNat)
 case atStart=>exact⟨0,d,by simp,rfl,⟨ω,T.out.2⟩,ω⟩
 case round =>
  obtain⟨j,u,rfl,rfl,F,hj⟩:=hrel;by_cases L:u=0
  ·subst L;have e:bl x=32*k+j:=by
    have C:=F.out.1;have:bl 0=0:=by unfold bl;simp
    rw[this] at C;have:=T.out.1
    omega
   have HE:Hid (((bl x:Nat):Int)=32*(k:Int)+j):=(by rw[e];simp:((bl x:Nat):Int)=32*(k:Int)+j)
   clear e
   go_wp2
   go_ret;rw[HE.out];exact⟨rfl,rfl⟩
  ·have I:0<(u:Int):=ω;have hb:=xN3 L;have D:j+1≤32:=by
    have C:=F.out.1;have:=qD4 (x:=d) T.out.2
    omega
   have HN:Hid (bl d=(j+1)+bl (u / 2)∧u / 2<4294967296):=⟨by have:=F.out.1;omega,by have:=F.out.2;omega⟩
   clear hb
   go_wp2;exact⟨⟨j+1,u / 2,by congr 1,by simp,HN,D⟩,by simp[intOf];omega⟩
end Go.Proofs.YtfkaogdmlcdceaaGreatDoor
namespace Go.Proofs.YtfkaogdmlcdceaaGreatDoor
open Go.ChangeShapes Go.WideShapes Go.ChangeAt Go.RowKit Go.Joins
attribute [local go_sem] iV Nu
end Go.Proofs.YtfkaogdmlcdceaaGreatDoor
