/- Own work: contracts of the program's functions, part 6: Shelf S1 S2 T1 T2 T3 T4 R4 R5 E1 Tab F3 F4 G1 G2 Q1 Q2 R6 Q3 ON. -/
import Derived.Shelf.Strings.Builder1
import Derived.Shelf.LaysM
import Derived.Shelf.Strconv.Itoa3
import Derived.Test.YtbanebginnakhaaGreatDoorProg
import Derived.Test.YtbanebginnakhaaGreatDoorA5
import Derived.Test.YtbanebginnakhaaGreatDoorA2
import Derived.Test.YtbanebginnakhaaGreatDoorA4
import Derived.Lib.LaidTab
import Derived.Deep.CutRange
import Derived.Deep.RegionLawGrows
import Derived.Deep.RegionHeld3
import Derived.Laws.AppendOwnNone
import Derived.Test.YtbanebginnakhaaGreatDoorA3
import Derived.Test.YtbanebginnakhaaGreatDoorRows
import Derived.Carry
import Derived.ChangeSlices
import Derived.WalkKit
import Derived.ProofKit
import Derived.OpenShut
import Derived.WalkLawsBesides
import Derived.ChangeAlike
import Derived.Lib.SmallJoins
import Derived.SizedLaws

set_option maxHeartbeats 16000000
set_option maxRecDepth 200000
set_option linter.unusedVariables false
set_option linter.unusedSimpArgs false
/- The library's contracts at this program that are used: the builder's text, a whole number's decimal digits. -/
namespace Go.Proofs
open Go.Shelf
def Tryz.laysM171_ren:Go.Shelf.Ren:=⟨fun|171=>108|243=>163|246=>203|283=>226|284=>227|285=>228|286=>229|129=>176|317=>236|318=>237|319=>238|320=>239|337=>183|338=>220|n=>n,fun|3=>3|9=>9|2=>2|4=>4|171=>230|0=>0|53=>72|37=>129|5=>5|173=>232|212=>242|51=>50|20=>20|213=>243|46=>149|232=>225|233=>240|n=>n,fun|17=>6|18=>4|19=>5|n=>n⟩
theorem Tryz.laysM171:Go.Proofs.LaysM.n171 Tryz.prog Tryz.laysM171_ren:={
 mixed:=by kernel_rfl
 f129:=Tryz.func176.trans (congrArg some (by kernel_rfl))
 f171:=Tryz.func108.trans (congrArg some (by kernel_rfl))
 f243:=Tryz.func163.trans (congrArg some (by kernel_rfl))
 f246:=Tryz.func203.trans (congrArg some (by kernel_rfl))
 f283:=Tryz.func226.trans (congrArg some (by kernel_rfl))
 f284:=Tryz.func227.trans (congrArg some (by kernel_rfl))
 f285:=Tryz.func228.trans (congrArg some (by kernel_rfl))
 f286:=Tryz.func229.trans (congrArg some (by kernel_rfl))
 f317:=Tryz.func236.trans (congrArg some (by kernel_rfl))
 f318:=Tryz.func237.trans (congrArg some (by kernel_rfl))
 f319:=Tryz.func238.trans (congrArg some (by kernel_rfl))
 f320:=Tryz.func239.trans (congrArg some (by kernel_rfl))
 f337:=Tryz.func183.trans (congrArg some (by kernel_rfl))
 f338:=Tryz.func220.trans (congrArg some (by kernel_rfl))
 t0:=Tryz.underlying0
 a0:=Tryz.isAgg0
 z0:=Tryz.sizeOf0
 v0:=Tryz.zeroValue0
 t2:=Tryz.underlying2
 a2:=Tryz.isAgg2
 z2:=Tryz.sizeOf2
 v2:=Tryz.zeroValue2
 t3:=Tryz.underlying3
 a3:=Tryz.isAgg3
 z3:=Tryz.sizeOf3
 v3:=Tryz.zeroValue3
 t4:=Tryz.underlying4
 a4:=Tryz.isAgg4
 z4:=Tryz.sizeOf4
 v4:=Tryz.zeroValue4
 t5:=Tryz.underlying5
 a5:=Tryz.isAgg5
 z5:=Tryz.sizeOf5
 v5:=Tryz.zeroValue5
 t9:=Tryz.underlying9
 a9:=Tryz.isAgg9
 z9:=Tryz.sizeOf9
 v9:=Tryz.zeroValue9
 t20:=Tryz.underlying20
 a20:=Tryz.isAgg20
 z20:=Tryz.sizeOf20
 v20:=Tryz.zeroValue20
 t37:=Tryz.underlying129
 a37:=Tryz.isAgg129
 z37:=Tryz.sizeOf129
 v37:=Tryz.zeroValue129
 t46:=Tryz.underlying149
 a46:=Tryz.isAgg149
 z46:=Tryz.sizeOf149
 v46:=Tryz.zeroValue149
 t51:=Tryz.underlying50
 a51:=Tryz.isAgg50
 z51:=Tryz.sizeOf50
 v51:=Tryz.zeroValue50
 t53:=Tryz.underlying72
 a53:=Tryz.isAgg72
 z53:=Tryz.sizeOf72
 v53:=Tryz.zeroValue72
 t171:=Tryz.underlying230
 a171:=Tryz.isAgg230
 z171:=Tryz.sizeOf230
 v171:=Tryz.zeroValue230
 t173:=Tryz.underlying232
 a173:=Tryz.isAgg232
 z173:=Tryz.sizeOf232
 v173:=Tryz.zeroValue232
 t212:=Tryz.underlying242
 a212:=Tryz.isAgg242
 z212:=Tryz.sizeOf242
 v212:=Tryz.zeroValue242
 t213:=Tryz.underlying243
 a213:=Tryz.isAgg243
 z213:=Tryz.sizeOf243
 t232:=Tryz.underlying225
 a232:=Tryz.isAgg225
 z232:=Tryz.sizeOf225
 v232:=Tryz.zeroValue225
 t233:=Tryz.underlying240
 a233:=Tryz.isAgg240
 z233:=Tryz.sizeOf240
 v233:=Tryz.zeroValue240
 g17:=by kernel_rfl
 g18:=by kernel_rfl
 g19:=by kernel_rfl
 i0:=by kernel_rfl
 i2:=by kernel_rfl
 i3:=by kernel_rfl
 i4:=by kernel_rfl
 i5:=by kernel_rfl
 i9:=by kernel_rfl
 i20:=by kernel_rfl
 i37:=by kernel_rfl
 i46:=by kernel_rfl
 i51:=by kernel_rfl
 i53:=by kernel_rfl
 i171:=by kernel_rfl
 i173:=by kernel_rfl
 i212:=by kernel_rfl
 i232:=by kernel_rfl
 i233:=by kernel_rfl
 m17:=by kernel_rfl
 m18:=by kernel_rfl
 m19:=by kernel_rfl }
open Go.RowKit Go.Sort Go.Lib in
theorem Tryz.strconv_Itoa (n : Int) (h0 : -9223372036854775808 ≤ n) (h1 : n ≤ 9223372036854775807) (w : World) (htab : Lib.TabIs Tryz.prog w "internal/strconv.uint64pow10" .u64 Lib.pow10Tab) :
  Calls Tryz.prog 108 #[.int .i64 n] w fun e w'=>e=.returned (.string ⟨(Lib.itoa n).toArray⟩)∧∃ k os,w'=grow (w.drewN k) os:=Any.strconv_Itoa Tryz.laysM171 n h0 h1 w htab
end Go.Proofs
namespace Go.Proofs.YtbanebginnakhaaGreatDoor
open Go.RowKit
theorem yX5:(Tryz.prog.info? 5).map (fun i=>(i.zero,i.size,i.bytes))=some (some (.int .u8 0),1,1):=by kernel_rfl
end Go.Proofs.YtbanebginnakhaaGreatDoor
namespace Go.Proofs.YtbanebginnakhaaGreatDoor
open Go.RowKit Go.Fl64
theorem zA5 (w:World):Is w (.slice none 0 0) 0:=⟨none,0,by rw[qQ5],by rw[qQ5];omega,by omega,0,0,fun h=>by rw[qQ5] at h;omega,fun i hi=>by rw[qQ5] at hi;omega⟩
def Tab10 (w : World) : Prop := Lib.TabIs Tryz.prog w "internal/strconv.uint64pow10" .u64 Lib.pow10Tab
theorem g10 : Tryz.prog.globalNamed "internal/strconv.uint64pow10" = some 6 := by kernel_rfl
theorem Tab10.lt {w:World} (h:Tab10 w):6<w.heap.size:=by
 unfold Tab10 Lib.TabIs World.var? at h;rw[g10] at h;rcases Nat.lt_or_ge 6 w.heap.size with h1|h1
 ·exact h1
 ·simp[Array.getElem?_eq_none h1] at h
theorem Tab10.later {w w':World} (h:Tab10 w) (hb:Bw w w'):Tab10 w':=var?_below hb g10 h.lt h
theorem zS2 (w:World) (k:Nat) (os:Array Obj):Below w.heap.size w (Sort.grow (w.drewN k) os) :=
 ⟨rfl,rfl,rfl,by show w.heap.size≤(w.heap++os).size;rw[Array.size_append];omega,fun j hj=>by
  show(w.heap++os)[j]?=w.heap[j]?
  rw[Array.getElem?_append_left hj]⟩
theorem xK1 (m:Nat) (w:World) (hm:m<18446744073709551616):At (w.alloc (Obj.cells #[Value.int IntKind.u32 ((m:Int) % 4294967296),Value.int IntKind.u32 ((m:Int) / 4294967296)] 50)) (some ⟨w.heap.size,0,none⟩) 2 m:=by
 have hM:Mk w (w.alloc (Obj.cells #[Value.int IntKind.u32 ((m:Int) % 4294967296),Value.int IntKind.u32 ((m:Int) / 4294967296)] 50)) 2 (dg m):=by
  refine⟨(xL1 _ _).alloc (xL0 _) _,by simp,World.rowIs_alloc w _ _ _ fun i hi=>?_⟩
  match i,hi with
  | 0,_=>simp[dg,B]
  | 1,_=>simp[dg,B];omega
 exact hM.at
theorem yX0 {w:World} {g:Nat} {q:Addr} (h:q.block≠g) (a b c:Value):(((w.setCell ⟨g,0,none⟩ a).setCell ⟨g,1,none⟩ b).setCell ⟨g,2,none⟩ c).cell? q=w.cell? q:=by
 have h1:∀ i,(⟨g,i,none⟩:Addr)≠q:=fun i e=>h (by rw[←e])
 rw[World.cell?_setCell_other _ _ _ _ (h1 2),World.cell?_setCell_other _ _ _ _ (h1 1),World.cell?_setCell_other _ _ _ _ (h1 0)]
theorem own:ownKnob Tryz.prog.godebug=none:=by kernel_rfl
theorem g64 : Tryz.prog.globalNamed "math/bits.deBruijn64tab" = some 5 := by kernel_rfl
theorem g64t:(Tryz.prog.globals[5]?).map (·.type)=some 240:=by kernel_rfl
theorem g32 : Tryz.prog.globalNamed "math/bits.deBruijn32tab" = some 4 := by kernel_rfl
theorem g32t:(Tryz.prog.globals[4]?).map (·.type)=some 225:=by kernel_rfl
theorem g10t:(Tryz.prog.globals[6]?).map (·.type)=some 242:=by kernel_rfl
theorem cells114:Tryz.prog.cellsOf 240=64:=by kernel_rfl
theorem cells130:Tryz.prog.cellsOf 225=32:=by kernel_rfl
theorem cells146:Tryz.prog.cellsOf 242=20:=by kernel_rfl
theorem cells5:Tryz.prog.cellsOf 5=1:=by kernel_rfl
theorem cells58:Tryz.prog.cellsOf 72=1:=by kernel_rfl
def zs64:List Int := [0,1,56,2,57,49,28,3,61,58,42,50,38,29,17,4,62,47,59,36,45,43,51,22,53,39,33,30,24,18,12,5,63,55,48,27,60,41,37,16,46,35,44,21,52,32,23,11,54,26,40,15,34,20,31,10,25,14,19,9,13,8,7,6]
def zs32:List Int := [0,1,28,2,29,14,24,3,30,22,20,15,25,17,4,8,31,27,13,23,21,19,16,7,26,12,18,6,11,5,10,9]
def zs10:List Int := [1,10,100,1000,10000,100000,1000000,10000000,100000000,1000000000,10000000000,100000000000,1000000000000,10000000000000,100000000000000,1000000000000000,10000000000000000,100000000000000000,1000000000000000000,10000000000000000000]
theorem yT6:∀ i,i<64→zs64.getD i 0=((Lib.deBruijn64tab.getD i 0:Nat):Int):=by decide +kernel
theorem yT7:∀ i,i<32→zs32.getD i 0=((Lib.deBruijn32tab.getD i 0:Nat):Int):=by decide +kernel
theorem yT8:zs10=Lib.pow10Tab:=by decide +kernel
theorem tab64_of {W : World} (h : Lib.TabIs Tryz.prog W "math/bits.deBruijn64tab" .u8 zs64) : Ie.Tab W := by
 intro i hi;have:=h.cell g64 i (by exact hi)
 rw[yT6 i hi] at this;exact this
theorem tab32_of {W : World} (h : Lib.TabIs Tryz.prog W "math/bits.deBruijn32tab" .u8 zs32) : Tab32 W := by
 intro i hi;have:=h.cell g32 i (by exact hi)
 rw[yT7 i hi] at this;exact this
theorem tab10_of {W : World} (h : Lib.TabIs Tryz.prog W "internal/strconv.uint64pow10" .u64 zs10) : Tab10 W := by
 rw[yT8] at h;exact h
theorem laid_tail {P:Program} {W:World} {x:String×DataW Unit} {rest:List (String×DataW Unit)} (h:laidMet P (x :: rest) W):laidMet P rest W:=by
 obtain⟨ps,⟨g',t',cs,fuel,p,q,hg',ht',hvar,hd,hr,rfl⟩,hn,hc⟩:=h;exact⟨q,hr,(List.nodup_append.1 hn).2.1,fun b off hm=>hc b off (List.mem_append_right _ hm)⟩
def laidOn (w:World):World :=
 { w with heap:=((w.heap.modify 5 fun
   | .cells _ t frozen=>.cells #[.int .u8 0,.int .u8 1,.int .u8 56,.int .u8 2,.int .u8 57,.int .u8 49,.int .u8 28,.int .u8 3,.int .u8 61,.int .u8 58,.int .u8 42,.int .u8 50,.int .u8 38,.int .u8 29,.int .u8 17,.int .u8 4,.int .u8 62,.int .u8 47,.int .u8 59,.int .u8 36,.int .u8 45,.int .u8 43,.int .u8 51,.int .u8 22,.int .u8 53,.int .u8 39,.int .u8 33,.int .u8 30,.int .u8 24,.int .u8 18,.int .u8 12,.int .u8 5,.int .u8 63,.int .u8 55,.int .u8 48,.int .u8 27,.int .u8 60,.int .u8 41,.int .u8 37,.int .u8 16,.int .u8 46,.int .u8 35,.int .u8 44,.int .u8 21,.int .u8 52,.int .u8 32,.int .u8 23,.int .u8 11,.int .u8 54,.int .u8 26,.int .u8 40,.int .u8 15,.int .u8 34,.int .u8 20,.int .u8 31,.int .u8 10,.int .u8 25,.int .u8 14,.int .u8 19,.int .u8 9,.int .u8 13,.int .u8 8,.int .u8 7,.int .u8 6] t frozen
   | o=>o).modify 4 fun
   | .cells _ t frozen=>.cells #[.int .u8 0,.int .u8 1,.int .u8 28,.int .u8 2,.int .u8 29,.int .u8 14,.int .u8 24,.int .u8 3,.int .u8 30,.int .u8 22,.int .u8 20,.int .u8 15,.int .u8 25,.int .u8 17,.int .u8 4,.int .u8 8,.int .u8 31,.int .u8 27,.int .u8 13,.int .u8 23,.int .u8 21,.int .u8 19,.int .u8 16,.int .u8 7,.int .u8 26,.int .u8 12,.int .u8 18,.int .u8 6,.int .u8 11,.int .u8 5,.int .u8 10,.int .u8 9] t frozen
   | o=>o).modify 6 fun
   | .cells _ t frozen=>.cells #[.int .u64 1,.int .u64 10,.int .u64 100,.int .u64 1000,.int .u64 10000,.int .u64 100000,.int .u64 1000000,.int .u64 10000000,.int .u64 100000000,.int .u64 1000000000,.int .u64 10000000000,.int .u64 100000000000,.int .u64 1000000000000,.int .u64 10000000000000,.int .u64 100000000000000,.int .u64 1000000000000000,.int .u64 10000000000000000,.int .u64 100000000000000000,.int .u64 1000000000000000000,.int .u64 10000000000000000000] t frozen
   | o=>o }
theorem c75 {neg:Bool} {ao:Option Addr} {cap x:Nat} {e:Int} {w:World} (h:Is w (.slice ao (dlen x) cap) x) (hx:dlen x≤1000000) (he1 : -4000000≤e) (he2:e≤4000000) :
  Calls Tryz.prog 190 #[.agg #[.bool neg,.slice ao (dlen x) cap,.int .i64 e]] w fun r w'=>r=.returned (.int .i64 (bl x+e))∧Bw w w':=by
 have hb:=qY2 x;exact c75_1 neg ao _ cap (bl x) e w (by omega) he1 he2 fun W hW=>c74 (h.later hW) (by omega)
theorem c48 (m:Int) (hm:m=1∨m=2∨m=3) (w:World):Calls Tryz.prog 84 #[.int .i64 m] w fun r w'=>r=.returned (.bool true)∧w'=w:=by
 rcases hm with rfl|rfl|rfl
 all_goals go_enter Tryz.func84,Tryz.ntmps84
 all_goals go_wp2
 all_goals go_ret
 all_goals exact⟨rfl,rfl⟩
theorem c24_1 (na:Bool) (ua:Option Addr) (un uc F:Nat) (ea mode:Int) (w:World)
  (k43:∀ W g,Bw w W→W.heap[g]?=some (.cells #[.bool na,.slice ua un uc,.int .i64 ea] 84 (0,0))→Calls Tryz.prog 78 #[.slice (some ⟨g,0,none⟩) 1 1] W fun r w'=>r=.returned (.bool true)∧Bw W w')
  (k48:∀ W,Calls Tryz.prog 84 #[.int .i64 mode] W fun r w'=>r=.returned (.bool true)∧w'=W)
  (k49:∀ W,Bw w W→Calls Tryz.prog 235 #[.agg #[.bool na,.slice ua un uc,.int .i64 ea],.int .i64 mode] W fun r w'=>r=.returned (.float .f64 F)∧Bw W w') :
  Calls Tryz.prog 224 #[.agg #[.bool na,.slice ua un uc,.int .i64 ea],.int .i64 mode] w fun r w'=>r=.returned (.tuple #[.float .f64 F,.int .i64 0])∧Bw w w':=by
 obtain⟨W,hW⟩:∃ W,W=w.alloc (.cells #[.bool na,.slice ua un uc,.int .i64 ea] 84):=⟨_,rfl⟩;have hBW:Bw w W:=by rw[hW];exact(xL1 _ _).alloc (xL0 _) _
 have hsz:W.heap.size=w.heap.size+1:=by rw[hW];simp
 have hbx:W.heap[w.heap.size]?=some (.cells #[.bool na,.slice ua un uc,.int .i64 ea] 84 (0,0)):=by rw[hW];exact xW8 _ _
 have k1:=k43 (W.alloc (.cells #[.bool na,.slice ua un uc,.int .i64 ea] 84)) (w.heap.size+1) (hBW.alloc hBW.size _) (by rw[←hsz];exact xW8 _ _)
 have HX:Hid (Bw w W∧W.heap.size=w.heap.size+1∧W.heap[w.heap.size]?=some (.cells #[.bool na,.slice ua un uc,.int .i64 ea] 84 (0,0))):=⟨hBW,hsz,hbx⟩;have HK:Hid _:=k49;clear hBW hsz hbx k43 k49
 go_enter Tryz.func224,Tryz.ntmps224
 go_wp2_with fail;rw[←hW];clear hW;refine k1.mono ?_;rintro r w1 ⟨rfl,hb1⟩;have HB1:Hid (Bw W w1):=((xL1 W.heap.size W).alloc (xL0 _) _).trans (hb1.mono (by simp))
 clear k1 hb1;obtain⟨⟨x0,x1,x2⟩,-⟩:=qQ1 (qQ HX.out.2.2 HB1.out (by have:=HX.out.2.1;omega))
 have HB2:Hid (Bw w w1):=HX.out.1.trans (HB1.out.mono HX.out.1.size);have k2:=k48 w1;clear k48
 go_wp2_with fail;refine k2.mono ?_;rintro r w2 ⟨rfl,hw2⟩;replace hw2:=hw2.symm;subst hw2;clear k2;have k3:=HK.out w1 HB2.out
 go_wp2_with fail;refine k3.mono ?_;rintro r w3 ⟨rfl,hb3⟩;have HB3:Hid (Bw w w3):=HB2.out.trans (hb3.mono HB2.out.size);clear k3 hb3 x0 x1 x2
 go_wp2_with fail;refine xW9 (xE3 rfl _ _ _) rfl ?_;exact⟨rfl,HB3.out⟩
end Go.Proofs.YtbanebginnakhaaGreatDoor
namespace Go.Proofs.YtbanebginnakhaaGreatDoor
open Go.RowKit
theorem qM9 {w:World} {g k:Nat} (i:Nat) (v:Value) (h:k≠g):(w.setCell ⟨g,i,none⟩ v).heap[k]?=w.heap[k]?:=by
 simp[World.setCell,Array.getElem?_modify,Ne.symm h]
def Dn (w:World) (base:Nat) (v:Value) (n z:Nat):Prop :=
 (v=.slice none 0 0∧n=0)∨∃ g cap c,v=.slice (some ⟨g,0,none⟩) n cap∧base≤g∧(n≤cap∧cap≤9223372036854775807)∧w.heap[g]?=some (.cells c 50 (0,0))∧c.size=cap∧∀ i,i<n→c[i]?=some (.int .u32 (dg z i:Nat))
structure Arg (w:World) (ao:Option Addr) (n cap z:Nat):Prop where
 nil:n=0→(∃ ad,ao=some ad)∨(ao=none∧cap=0)
 at_:At w ao n z
 le:n≤cap
 small:n≤35184372088832
theorem Arg.later {w w':World} {ao:Option Addr} {n cap z:Nat} (h:Arg w ao n cap z) (hb:Bw w w'):Arg w' ao n cap z:=⟨h.nil,h.at_.later hb,h.le,h.small⟩
theorem Dn.mono {w:World} {base base':Nat} {v:Value} {n z:Nat} (h:Dn w base v n z) (hb:base'≤base):Dn w base' v n z:=by
 rcases h with h|⟨g,cap,c,h0,h1,h2⟩
 ·exact .inl h
 ·exact .inr ⟨g,cap,c,h0,by omega,h2⟩
def putL (a:Act) (l:List (Tmp×Value)):Act:=l.foldl (fun a p=>a.put (some p.1) p.2) a
theorem zY4 (l:List (Tmp×Value)):∀ a:Act,(putL a l).defers=a.defers:=by
 induction l with
 | nil=>intro a;rfl
 | cons p r ih=>intro a;show(putL (a.put (some p.1) p.2) r).defers=_;rw[ih,qG]
theorem qC1 {s:Tmp} (l:List (Tmp×Value)):∀ a:Act,s ∉ l.map (·.1)→(putL a l).tmps[s]?=a.tmps[s]?:=by
 induction l with
 | nil=>intro a _;rfl
 | cons p r ih =>
  intro a h;simp only[List.map_cons,List.mem_cons,not_or] at h;show(putL (a.put (some p.1) p.2) r).tmps[s]?=_
  rw[ih _ h.2,qX h.1]
theorem yU6 {s:Tmp} {v:Value} (l:List (Tmp×Value)):∀ a:Act,(s,v) ∈ l→(l.map (·.1)).Nodup→s<a.tmps.size→(putL a l).tmps[s]?=some v:=by
 induction l with
 | nil=>intro a h;cases h
 | cons p r ih =>
  intro a h hn hs;simp only[List.map_cons,List.nodup_cons] at hn;show(putL (a.put (some p.1) p.2) r).tmps[s]?=_
  rcases List.mem_cons.1 h with h|h
  ·subst h;rw[qC1 _ _ hn.1,qN4 hs]
  ·exact ih _ h hn.2 (by rw[qP1];exact hs)
theorem qT0 {a a0:Act} {l:List (Tmp×Value)} (hn:(l.map (·.1)).Nodup) (hs:a.tmps.size=a0.tmps.size) (hd:a.defers=a0.defers) (hl:∀ p ∈ l,a.tmps[p.1]?=some p.2) (ho:∀ s,s ∉ l.map (·.1)→a.tmps[s]?=a0.tmps[s]?):a=putL a0 l:=by
 have ht:a.tmps=(putL a0 l).tmps:=by
  refine Array.ext_getElem? fun s=>?_;by_cases h:s ∈ l.map (·.1)
  ·obtain⟨p,hp,rfl⟩:=List.mem_map.1 h;have h1:=hl p hp;rw[h1,yU6 l a0 hp hn (by rw[←hs];exact(Array.getElem?_eq_some_iff.1 h1).1)]
  ·rw[qC1 l a0 h];exact ho s h
 have hd':a.defers=(putL a0 l).defers:=by rw[zY4];exact hd
 cases a with
 | mk t d =>
  cases hp:putL a0 l with
  | mk t' d' =>
   rw[hp] at ht hd';simp only at ht hd'
   rw[ht,hd']
theorem qX7:Tryz.prog.follows .mixedOrders=true:=by kernel_rfl
def sv (s:Bool) (x:Nat):Int:=if s then -(x:Int)else x
def vz (K:Nat) (s:Bool) (x:Nat) (e:Int):Int:=sv s x*((2^(e+K).toNat:Nat):Int)
theorem zL4 (s:Bool):sv s 0=0:=by cases s <;> rfl
theorem zM6 {s:Bool} {x:Nat}:sv s x=0↔x=0:=by
 cases s <;> simp[sv]
theorem xK9 (s s':Bool) (x y:Nat):sv (!(s==s')) (x*y)=sv s x*sv s' y:=by
 cases s <;> cases s' <;> simp[sv,xC8,Int.neg_mul,Int.mul_neg]
theorem yV6 (s:Bool) (x k:Nat):sv s (x*k)=sv s x*(k:Int):=by
 cases s <;> simp[sv,xC8,Int.neg_mul]
theorem zY (k:Nat):(0:Int)<((2^k:Nat):Int):=by
 have:=xL5 k;omega
theorem qD6 (K:Nat) (s:Bool) (e:Int):vz K s 0 e=0:=by unfold vz;rw[zL4,Int.zero_mul]
theorem qD7 {K:Nat} {s:Bool} {x:Nat} {e:Int}:vz K s x e=0↔x=0:=by
 unfold vz;constructor
 ·intro h;rcases Int.mul_eq_zero.1 h with h|h
  ·exact zM6.1 h
  ·have:=zY (e+K).toNat;omega
 ·rintro rfl;rw[zL4,Int.zero_mul]
theorem qE3 {K:Nat} {s:Bool} {x k:Nat} {e:Int} (h:0≤e+K):vz K s (x*2^k) e=vz K s x (e+k):=by
 unfold vz;rw[yV6,Int.mul_assoc,show(e+(k:Int)+K).toNat=k+(e+K).toNat by omega,xC3,xC8]
def cn (s:Bool) (z:Nat) (e:Int):Bool×Nat×Int:=if z=0 then(false,0,0) else(s,z / 2^tz z,e+tz z)
theorem yL0 {K:Nat} {s:Bool} {z:Nat} {e:Int} (h:0≤e+K):vz K (cn s z e).1 (cn s z e).2.1 (cn s z e).2.2=vz K s z e:=by
 unfold cn;by_cases h0:z=0
 ·subst h0;rw[if_pos rfl,qD6,qD6]
 ·rw[if_neg h0];have h1:=(qX0 z z (xL0 _) h0).1;show vz K s (z / 2^tz z) (e+tz z)=_
  rw[←qE3 h,xC4,h1]
theorem zP7 {x x' a b:Nat} (hx:x % 2=1) (hx':x' % 2=1) (h:x*2^a=x'*2^b):x=x'∧a=b:=by
 have key:∀ {x x' a b:Nat},x % 2=1→a≤b→x*2^a=x'*2^b→x=x'∧a=b:=by
  intro x x' a b hx hab h;obtain⟨d,rfl⟩:∃ d,b=a+d:=⟨b - a,by omega⟩
  have h1:x=x'*2^d:=by
   have:x*2^a=(x'*2^d)*2^a:=by rw[h,xC3];grind
   exact Nat.eq_of_mul_eq_mul_right (xL5 a) this
  cases d with
  | zero=>simp at h1;exact⟨h1,rfl⟩
  | succ d =>
   exfalso;rw[xC5,←xC6] at h1;omega
 rcases Nat.le_total a b with h1|h1
 ·exact key hx h1 h
 ·have:=key hx' h1 h.symm
  exact⟨this.1.symm,this.2.symm⟩
theorem cn_eq {K:Nat} {s s':Bool} {z z':Nat} {e e':Int} (h1:0≤e+K) (h2:0≤e'+K) (h:vz K s z e=vz K s' z' e'):cn s z e=cn s' z' e':=by
 by_cases h0:z=0
 ·subst h0;rw[qD6] at h;obtain rfl:=qD7.1 h.symm;simp[cn]
 ·have h0':z'≠0:=fun e0=>by subst e0;rw[qD6] at h;exact h0 (qD7.1 h)
  have v1:=yL0 (s:=s) (z:=z) h1;have v2:=yL0 (s:=s') (z:=z') h2;rw[←v1,←v2] at h;unfold cn at h ⊢;rw[if_neg h0,if_neg h0'] at h ⊢;have o1:=(qX0 z z (xL0 _) h0).2;have o2:=(qX0 z' z' (xL0 _) h0').2;generalize z / 2^tz z=x at *;generalize z' / 2^tz z'=x' at *;simp only at h
  have hp:0≤e+tz z+(K:Int):=by omega
  have hp':0≤e'+tz z'+(K:Int):=by omega
  generalize e+(tz z:Int)=f at *;generalize e'+(tz z':Int)=f' at *;unfold vz sv at h;have e1:=zY (f+K).toNat;have e2:=zY (f'+K).toNat;have hb:s=s'∧x*2^(f+K).toNat=x'*2^(f'+K).toNat:=by
   have p1:(0:Int)<(x:Int)*((2^(f+K).toNat:Nat):Int):=Int.mul_pos (by omega) e1
   have p2:(0:Int)<(x':Int)*((2^(f'+K).toNat:Nat):Int):=Int.mul_pos (by omega) e2
   have c1:((x*2^(f+K).toNat:Nat):Int)=(x:Int)*((2^(f+K).toNat:Nat):Int):=xC8 ..;have c2:((x'*2^(f'+K).toNat:Nat):Int)=(x':Int)*((2^(f'+K).toNat:Nat):Int):=xC8 ..;generalize (x:Int)*((2^(f+K).toNat:Nat):Int)=A at *;generalize (x':Int)*((2^(f'+K).toNat:Nat):Int)=A' at *;have n1 : -(x:Int)*((2^(f+K).toNat:Nat):Int) = -((x:Int)*((2^(f+K).toNat:Nat):Int)):=Int.neg_mul ..;have n2 : -(x':Int)*((2^(f'+K).toNat:Nat):Int) = -((x':Int)*((2^(f'+K).toNat:Nat):Int)):=Int.neg_mul ..;cases s <;> cases s' <;> simp only[if_true,if_false,Bool.false_eq_true,Int.neg_mul] at h
   ·exact⟨rfl,by omega⟩
   ·exfalso;omega
   ·exfalso;omega
   ·exact⟨rfl,by omega⟩
  obtain⟨rfl,hb⟩:=hb;obtain⟨rfl,hab⟩:=zP7 o1 o2 hb;rw[show f=f' by omega]
theorem yL {K:Nat} {na nb:Bool} {x y:Nat} {ea eb:Int} (h1:0≤ea+K) (h2:0≤eb+K) :
  vz K (sumN na x ea nb y eb).1 (sumN na x ea nb y eb).2.1 (sumN na x ea nb y eb).2.2=vz K na x ea+vz K nb y eb:=by
 unfold sumN;by_cases x0:x=0
 ·subst x0;rw[if_pos rfl,qD6,Int.zero_add]
 ·rw[if_neg x0];by_cases y0:y=0
  ·subst y0;rw[if_pos rfl,qD6,Int.add_zero]
  ·rw[if_neg y0];have hm:0≤min ea eb+(K:Int):=by omega
   have e1:vz K na x ea=vz K na (x*2^(ea - min ea eb).toNat) (min ea eb):=by
    rw[qE3 hm,show min ea eb+((ea - min ea eb).toNat:Int)=ea by omega]
   have e2:vz K nb y eb=vz K nb (y*2^(eb - min ea eb).toNat) (min ea eb):=by
    rw[qE3 hm,show min ea eb+((eb - min ea eb).toNat:Int)=eb by omega]
   rw[e1,e2];generalize x*2^(ea - min ea eb).toNat=X at *;generalize y*2^(eb - min ea eb).toNat=Y at *;unfold vz;rw[←Int.add_mul];by_cases hs:na=nb
   ·subst hs;rw[if_pos rfl];congr 1
    cases na <;> simp[sv]
    omega
   ·rw[if_neg hs];by_cases hlt:X<Y
    ·rw[if_pos hlt];congr 1
     cases na <;> cases nb <;> simp[sv] at hs ⊢ <;> omega
    ·rw[if_neg hlt];congr 1
     cases na <;> cases nb <;> simp[sv] at hs ⊢ <;> omega
theorem xY6 {K L:Nat} {na nb:Bool} {x y:Nat} {ea eb:Int} (h1:0≤ea+K) (h2:0≤eb+L) :
  vz (K+L) (!(na==nb)) (x*y) (ea+eb)=vz K na x ea*vz L nb y eb:=by
 unfold vz;rw[xK9,show(ea+eb+((K+L:Nat):Int)).toNat=(ea+K).toNat+(eb+L).toNat by omega,xC3,xC8]
 grind
def Fits (lo hi:Int) (x:Nat) (e:Int):Prop:=x=0∨(lo≤e∧e≤hi∧x<2^(hi - e).toNat)
theorem Fits.cn {lo hi:Int} {s:Bool} {z:Nat} {e:Int} (h:Fits lo hi z e):Fits lo hi (cn s z e).2.1 (cn s z e).2.2:=by
 rcases h with rfl|⟨h1,h2,h3⟩
 ·left;simp[YtbanebginnakhaaGreatDoor.cn]
 ·unfold YtbanebginnakhaaGreatDoor.cn;by_cases h0:z=0
  ·subst h0;left;simp
  ·rw[if_neg h0];right
   have hs:=(qX0 z z (xL0 _) h0).1;have ho:=(qX0 z z (xL0 _) h0).2;have hq:1≤z / 2^tz z:=xW1 fun e0=>by rw[e0] at ho;simp at ho
   have ht:tz z<(hi - e).toNat:=by
    refine Nat.lt_of_not_le fun h=>?_;have h4:=xL6 (n:=2) (by omega) h
    have h5:=xW2 (2^tz z) hq;omega
   refine⟨by show lo≤e+(tz z:Int);omega,by show e+(tz z:Int)≤hi;omega,?_⟩
   show z / 2^tz z<2^(hi - (e+(tz z:Int))).toNat
   refine(xE6 (xL5 _)).2 ?_
   rw[←xC3,show(hi - (e+(tz z:Int))).toNat+tz z=(hi - e).toNat by omega]
   exact h3
theorem Fits.dlen {lo hi:Int} {x:Nat} {e:Int} (h:Fits lo hi x e) (hb:hi - lo≤65536):dlen x≤2048:=by
 rcases h with rfl|⟨h1,h2,h3⟩
 ·rw[qQ5];omega
 ·refine(qQ9 _ _).2 (xL8 h3 ?_)
  have hB:∀ n,B^n=2^(32*n):=fun n=>by
   have:(B:Nat)=2^32:=by decide
   rw[this,←Nat.pow_mul]
  have hn:(hi - e).toNat≤32*2048:=by omega
  generalize 2048=n at *;rw[hB];exact xL6 (by omega) hn
theorem Fits.ok {lo hi:Int} {s:Bool} {z:Nat} {e:Int} (h:Fits lo hi z e) (hb:hi - lo≤65536) (h1 : -65536≤lo) (h2:hi≤65536):okR s z e=true:=by
 unfold okR;by_cases h0:z=0
 ·rw[if_pos h0]
 ·rw[if_neg h0];have hc:=h.cn (s:=s);have hd:=hc.dlen hb;unfold YtbanebginnakhaaGreatDoor.cn at hc hd;rw[if_neg h0] at hc hd;have ho:=(qX0 z z (xL0 _) h0).2;simp only at hc hd
  generalize z / 2^tz z=x at *;have hx0:x≠0:=by omega
  obtain⟨c1,c2,c3⟩:=hc.resolve_left hx0;unfold okN;rw[if_neg (fun e=>hx0 (qQ7.1 e))];have e0:dg x 0 % 2=1:=by
   unfold dg;rw[xC7,Nat.div_one];unfold B;omega
  have e1:=zN hx0;simp only[xC,decide_eq_true_eq,bne_iff_ne,ne_eq,beq_iff_eq];exact⟨⟨⟨⟨hd,e1⟩,e0⟩,by omega⟩,by omega⟩
def PN (w:World) (A:Value) (t:Bool×Nat×Int):Prop:=∃ ao cap,A=.agg #[.bool t.1,.slice ao (dlen t.2.1) cap,.int .i64 t.2.2]∧Is w (.slice ao (dlen t.2.1) cap) t.2.1
def Ok (t:Bool×Nat×Int):Prop:=okN t.1 (dlen t.2.1) t.2.1 t.2.2=true
theorem PN.later {w w':World} {A:Value} {t:Bool×Nat×Int} (h:PN w A t) (hb:Bw w w'):PN w' A t:=by
 obtain⟨ao,cap,h1,h2⟩:=h;exact⟨ao,cap,h1,h2.later hb⟩
theorem PN.shape {w:World} {A:Value} {t:Bool×Nat×Int} (h:PN w A t):∃ s ao n cap e,A=.agg #[.bool s,.slice ao n cap,.int .i64 e]:=by
 obtain⟨ao,cap,h1,-⟩:=h;exact⟨_,_,_,_,_,h1⟩
theorem Nrm.pn {w:World} {base:Nat} {A:Value} {s:Bool} {z:Nat} {e:Int} (h:Nrm w base A s z e):PN w A (cn s z e):=by
 unfold cn;rcases h with ⟨rfl,rfl⟩|⟨h0,v,rfl,ho⟩
 ·rw[if_pos rfl];exact⟨none,0,by rw[qQ5];rfl,by rw[qQ5];exact zA5 w⟩
 ·rw[if_neg h0];obtain⟨ao,cap,rfl,h1,h2,h3⟩:=ho.is;exact⟨ao,cap,rfl,ao,cap,rfl,h1,h2,h3⟩
theorem ok_cn {s:Bool} {z:Nat} {e:Int} (h:okR s z e=true):Ok (cn s z e):=by
 unfold Ok cn;unfold okR at h;by_cases h0:z=0
 ·rw[if_pos h0,qQ5];rfl
 ·rw[if_neg h0] at h ⊢; exact h
theorem Ok.facts {t:Bool×Nat×Int} (h:Ok t):dlen t.2.1≤2048 ∧ -65536≤t.2.2∧t.2.2≤65536∧(t.2.1=0→t=(false,0,0))∧(t.2.1≠0→t.2.1 % 2=1):=by
 obtain⟨s,x,e⟩:=t;unfold Ok okN at h;simp only at h ⊢
 by_cases h0:x=0
 ·subst h0;rw[qQ5,if_pos rfl] at h;simp at h
  obtain⟨rfl,rfl⟩:=h;rw[qQ5];exact⟨by omega,by omega,by omega,fun _=>rfl,fun h=>absurd rfl h⟩
 ·rw[if_neg (fun e=>h0 (qQ7.1 e))] at h;simp only[xC,decide_eq_true_eq,bne_iff_ne,ne_eq,beq_iff_eq] at h;obtain⟨⟨⟨⟨h1,h2⟩,h3⟩,h4⟩,h5⟩:=h;refine⟨h1,h4,h5,fun h=>absurd h h0,fun _=>?_⟩
  unfold dg at h3;rw[xC7,Nat.div_one] at h3;unfold B at h3;omega
def Op2 (f:FuncId) (t1 t2 t3:Bool×Nat×Int):Prop:=∀ W X Y,Tab32 W→PN W X t1→PN W Y t2→Calls Tryz.prog f #[X,Y] W fun r w'=>∃ s ao n cap e,r=.returned (.tuple #[.agg #[.bool s,.slice ao n cap,.int .i64 e],.int .i64 0])∧PN w' (.agg #[.bool s,.slice ao n cap,.int .i64 e]) t3∧Bw W w'
theorem zK4 {w:World} {s:Bool} {z:Nat} {e:Int} {r:Ending} {w':World} (h:Held w s z e r w') (hok:okR s z e=true) :
  ∃ s' ao n cap e',r=.returned (.tuple #[.agg #[.bool s',.slice ao n cap,.int .i64 e'],.int .i64 0])∧PN w' (.agg #[.bool s',.slice ao n cap,.int .i64 e']) (cn s z e)∧Bw w w':=by
 obtain⟨A,rfl,hN,hb⟩:=h;rw[hok];have hp:=hN.pn;obtain⟨s',ao,n,cap,e',rfl⟩:=hp.shape;exact⟨s',ao,n,cap,e',rfl,hp,hb⟩
theorem xR6 {t1 t2:Bool×Nat×Int} (h1:Ok t1) (h2:Ok t2) (hok:okR (sumN t1.1 t1.2.1 t1.2.2 t2.1 t2.2.1 t2.2.2).1 (sumN t1.1 t1.2.1 t1.2.2 t2.1 t2.2.1 t2.2.2).2.1 (sumN t1.1 t1.2.1 t1.2.2 t2.1 t2.2.1 t2.2.2).2.2=true) :
  Op2 117 t1 t2 (cn (sumN t1.1 t1.2.1 t1.2.2 t2.1 t2.2.1 t2.2.2).1 (sumN t1.1 t1.2.1 t1.2.2 t2.1 t2.2.1 t2.2.2).2.1 (sumN t1.1 t1.2.1 t1.2.2 t2.1 t2.2.1 t2.2.2).2.2):=by
 intro W X Y hT hX hY;obtain⟨ua,uc,rfl,i1⟩:=hX;obtain⟨va,vc,rfl,i2⟩:=hY;obtain⟨a1,a2,a3,-,-⟩:=h1.facts;obtain⟨b1,b2,b3,-,-⟩:=h2.facts;have hl:=zZ4 t1.1 t1.2.1 t1.2.2 t2.1 t2.2.1 t2.2.2 (by omega) (by omega) (by omega) (by omega)
 refine(c34_1 t1.1 t2.1 ua va _ uc _ vc t1.2.1 t2.2.1 _ t1.2.2 t2.2.2 _ _ W (by omega) (fun W' g hW hg=>?_) (fun W' hW=>c87 (i1.later hW) (i2.later hW) (by omega) (by omega) (by omega) (by omega) (hT.later hW))).mono fun r w' h=>zK4 h hok
 have:=zQ8 hg (i1.later hW) (i2.later hW) (by omega) (by omega)
 unfold Ok at h1 h2;rw[h1,h2] at this;exact this
theorem xJ {t1 t2:Bool×Nat×Int} (h1:Ok t1) (h2:Ok t2) (hok:okR (sumN t1.1 t1.2.1 t1.2.2 (!t2.1&&decide (0<dlen t2.2.1)) t2.2.1 t2.2.2).1 (sumN t1.1 t1.2.1 t1.2.2 (!t2.1&&decide (0<dlen t2.2.1)) t2.2.1 t2.2.2).2.1 (sumN t1.1 t1.2.1 t1.2.2 (!t2.1&&decide (0<dlen t2.2.1)) t2.2.1 t2.2.2).2.2=true) :
  Op2 194 t1 t2 (cn (sumN t1.1 t1.2.1 t1.2.2 (!t2.1&&decide (0<dlen t2.2.1)) t2.2.1 t2.2.2).1 (sumN t1.1 t1.2.1 t1.2.2 (!t2.1&&decide (0<dlen t2.2.1)) t2.2.1 t2.2.2).2.1 (sumN t1.1 t1.2.1 t1.2.2 (!t2.1&&decide (0<dlen t2.2.1)) t2.2.1 t2.2.2).2.2):=by
 intro W X Y hT hX hY;obtain⟨ua,uc,rfl,i1⟩:=hX;obtain⟨va,vc,rfl,i2⟩:=hY;obtain⟨a1,a2,a3,-,-⟩:=h1.facts;obtain⟨b1,b2,b3,-,-⟩:=h2.facts;exact(xJ0 i1 i2 (by omega) (by omega) (by omega) (by omega) h1 h2 hT).mono fun r w' h=>zK4 h hok
theorem xF2 {t1 t2:Bool×Nat×Int} (h1:Ok t1) (h2:Ok t2) (hok:okR (!(t1.1==t2.1)) (t1.2.1*t2.2.1) (t1.2.2+t2.2.2)=true) :
  Op2 89 t1 t2 (cn (!(t1.1==t2.1)) (t1.2.1*t2.2.1) (t1.2.2+t2.2.2)):=by
 intro W X Y hT hX hY;obtain⟨ua,uc,rfl,i1⟩:=hX;obtain⟨va,vc,rfl,i2⟩:=hY;obtain⟨a1,a2,a3,-,-⟩:=h1.facts;obtain⟨b1,b2,b3,-,-⟩:=h2.facts;exact(xF3 i1 i2 (by omega) (by omega) (by omega) (by omega) h1 h2 hT).mono fun r w' h=>zK4 h hok
end Go.Proofs.YtbanebginnakhaaGreatDoor
namespace Go.Proofs.YtbanebginnakhaaGreatDoor
open Go.RowKit Go.Fl64
theorem xQ9 {x:Nat} (h:x≠0):bl x=bl (x / 2)+1:=by
 have h1:=qV0 (x / 2);apply xZ0
 ·rw[xC5];omega
 ·refine .inr ?_;rw[xE5];by_cases h2:x / 2=0
  ·rw[h2];have:bl 0=0:=by unfold bl;simp
   rw[this];omega
  ·have h3:=qP6 h2;have h4:bl (x / 2)≠0:=by unfold bl;rw[if_neg h2];omega
   obtain⟨k,hk⟩:∃ k,bl (x / 2)=k+1:=⟨bl (x / 2) - 1,by omega⟩
   rw[hk] at h3 ⊢;rw[xE5] at h3;rw[xC5];omega
theorem r42 (b o n cap x:Nat) (w:World) (hn0:0<n) (hn:n≤1000000000) (hx:dlen x=n) (hcell:∀ i,i<n→w.cell? ⟨b,o+i,none⟩=some (.int .u32 (dg x i:Nat))) :
  Calls Tryz.prog 185 #[.slice (some ⟨b,o,none⟩) n cap] w fun e w'=>e=.returned (.int .i64 (bl x:Nat))∧w'=w:=by
 have hx0:x≠0:=by intro e;subst e;rw[qQ5] at hx;omega
 have hbt:=qE hx0;have hlt:=qZ4 x (n - 1);have g:=hcell (n - 1) (by omega)
 rw[hx] at hbt;obtain⟨k,rfl⟩:∃ k,n=k+1:=⟨n - 1,by omega⟩
 rw[xE5] at hbt hlt g;generalize hd:dg x k=d at *;have HB:Hid (bl x=32*k+bl d∧d<4294967296):=⟨hbt,hlt⟩;have hn0':(((k+1:Nat):Int)==0)=false:=by simp;omega
 clear hcell hbt hlt hx hx0 hd
 go_enter Tryz.func185,Tryz.ntmps185
 go_wp2
 go_loop [3,4] (fun c t=>∃ (j u:Nat),c=.int .i64 (32*(k:Int)+j)∧t=.int .u32 (u:Int)∧Hid (bl d=j+bl u∧u<4294967296)∧j≤32) (fun _ t=>(intOf t).toNat)
 case atStart=>exact⟨0,d,by simp,rfl,⟨by omega,HB.out.2⟩,by omega⟩
 case round =>
  obtain⟨j,u,rfl,rfl,HU,hj⟩:=hrel;by_cases hu:u=0
  ·subst hu;have e:bl x=32*k+j:=by
    have h1:=HU.out.1;have:bl 0=0:=by unfold bl;simp
    rw[this] at h1;have:=HB.out.1
    omega
   have HE:Hid (((bl x:Nat):Int)=32*(k:Int)+j):=(by rw[e];simp:((bl x:Nat):Int)=32*(k:Int)+j)
   clear e
   go_wp2
   go_ret;rw[HE.out];exact⟨rfl,rfl⟩
  ·have hu0:0<(u:Int):=by omega
   have hb:=xQ9 hu;have hj':j+1≤32:=by
    have h1:=HU.out.1;have:=qN7 (x:=d) HB.out.2
    omega
   have HN:Hid (bl d=(j+1)+bl (u / 2)∧u / 2<4294967296):=⟨by have:=HU.out.1;omega,by have:=HU.out.2;omega⟩
   clear hb
   go_wp2;exact⟨⟨j+1,u / 2,by congr 1,by simp,HN,hj'⟩,by simp[intOf];omega⟩
end Go.Proofs.YtbanebginnakhaaGreatDoor
namespace Go.Proofs.YtbanebginnakhaaGreatDoor
open Go.ChangeShapes Go.WideShapes Go.ChangeAt Go.RowKit Go.Joins
end Go.Proofs.YtbanebginnakhaaGreatDoor
