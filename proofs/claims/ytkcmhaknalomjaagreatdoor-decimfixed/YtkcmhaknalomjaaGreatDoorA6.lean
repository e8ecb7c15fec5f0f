/- Own work: contracts of the program's functions, part 6: Shelf S1 S2 T1 T2 T3 T4 R4 R5 E1 Tab F3 F4 G1 G2 Q1 Q2 R6 Q3 ON. -/
import Derived.Shelf.Strings.Builder1
import Derived.Shelf.LaysM
import Derived.Shelf.Strconv.Itoa3
import Derived.Test.YtkcmhaknalomjaaGreatDoorProg
import Derived.Test.YtkcmhaknalomjaaGreatDoorA5
import Derived.Test.YtkcmhaknalomjaaGreatDoorA2
import Derived.Test.YtkcmhaknalomjaaGreatDoorA4
import Derived.Lib.LaidTab
import Derived.Deep.CutRange
import Derived.Deep.RegionLawGrows
import Derived.Deep.RegionHeld3
import Derived.Laws.AppendOwnNone
import Derived.Test.YtkcmhaknalomjaaGreatDoorA3
import Derived.Test.YtkcmhaknalomjaaGreatDoorRows
import Derived.Carry
import Derived.ChangeSlices
import Derived.WalkKit
import Derived.ProofKit
import Derived.OpenShut
import Derived.WalkLawsBesides
import Derived.ChangeAlike
import Derived.Lib.SmallJoins
import Derived.SizedLaws

set_option maxHeartbeats 16000000
set_option maxRecDepth 200000
set_option linter.unusedVariables false
set_option linter.unusedSimpArgs false
/- The library's contracts at this program that are used: the builder's text, a whole number's decimal digits. -/
namespace Go.Proofs
open Go.Shelf
def Tryz.lays169_ren:Go.Shelf.Ren:=⟨fun|169=>181|n=>n,fun|70=>177|9=>9|0=>0|72=>179|37=>79|127=>211|3=>3|5=>5|n=>n,fun|n=>n⟩
theorem Tryz.lays169:Go.Proofs.Lays.n169 Tryz.prog Tryz.lays169_ren:={
 mixed:=by kernel_rfl
 f169:=Tryz.func181.trans (congrArg some (by kernel_rfl))
 t0:=Tryz.underlying0
 a0:=Tryz.isAgg0
 z0:=Tryz.sizeOf0
 v0:=Tryz.zeroValue0
 t3:=Tryz.underlying3
 a3:=Tryz.isAgg3
 z3:=Tryz.sizeOf3
 v3:=Tryz.zeroValue3
 t9:=Tryz.underlying9
 a9:=Tryz.isAgg9
 z9:=Tryz.sizeOf9
 v9:=Tryz.zeroValue9
 t37:=Tryz.underlying79
 a37:=Tryz.isAgg79
 z37:=Tryz.sizeOf79
 v37:=Tryz.zeroValue79
 t70:=Tryz.underlying177
 a70:=Tryz.isAgg177
 z70:=Tryz.sizeOf177
 v70:=Tryz.zeroValue177
 t72:=Tryz.underlying179
 a72:=Tryz.isAgg179
 z72:=Tryz.sizeOf179
 v72:=Tryz.zeroValue179
 t127:=Tryz.underlying211
 a127:=Tryz.isAgg211
 z127:=Tryz.sizeOf211
 v127:=Tryz.zeroValue211 }
theorem Tryz.Builder_Extra_169:Builder.Extra Tryz.prog Tryz.lays169_ren:={
 sizeBuilder:=by kernel_rfl
 liesBuilder:=by kernel_rfl
 t5:=Tryz.underlying5
 a5:=Tryz.isAgg5
 z5:=Tryz.sizeOf5
 v5:=Tryz.zeroValue5
 infoByte:=by kernel_rfl
 cellsByte:=by kernel_rfl
 sizeByte:=by kernel_rfl
 neB5:=by decide }
open Go.RowKit in
theorem Tryz.Builder_String (B b:Nat) (l:List UInt8) (w:World) (h:Lib.IsBuilder 179 5 B b (Lib.byteCells l) w) (h0:l ≠ []) :
  Calls Tryz.prog 181 #[.pointer (some ⟨b,0,none⟩)] w fun e w'=>e=.returned (.string ⟨l.toArray⟩)∧Below B w w':=Any.Builder_String Tryz.lays169 Tryz.Builder_Extra_169 B b l w h h0
def Tryz.laysM171_ren:Go.Shelf.Ren:=⟨fun|171=>92|243=>157|246=>213|283=>219|284=>220|285=>221|286=>222|129=>117|317=>247|318=>248|319=>249|320=>250|337=>240|338=>115|n=>n,fun|3=>3|9=>9|2=>2|4=>4|171=>204|0=>0|53=>54|37=>79|5=>5|173=>206|212=>222|51=>125|20=>20|213=>223|46=>134|232=>234|233=>174|n=>n,fun|17=>3|18=>6|19=>1|n=>n⟩
theorem Tryz.laysM171:Go.Proofs.LaysM.n171 Tryz.prog Tryz.laysM171_ren:={
 mixed:=by kernel_rfl
 f129:=Tryz.func117.trans (congrArg some (by kernel_rfl))
 f171:=Tryz.func92.trans (congrArg some (by kernel_rfl))
 f243:=Tryz.func157.trans (congrArg some (by kernel_rfl))
 f246:=Tryz.func213.trans (congrArg some (by kernel_rfl))
 f283:=Tryz.func219.trans (congrArg some (by kernel_rfl))
 f284:=Tryz.func220.trans (congrArg some (by kernel_rfl))
 f285:=Tryz.func221.trans (congrArg some (by kernel_rfl))
 f286:=Tryz.func222.trans (congrArg some (by kernel_rfl))
 f317:=Tryz.func247.trans (congrArg some (by kernel_rfl))
 f318:=Tryz.func248.trans (congrArg some (by kernel_rfl))
 f319:=Tryz.func249.trans (congrArg some (by kernel_rfl))
 f320:=Tryz.func250.trans (congrArg some (by kernel_rfl))
 f337:=Tryz.func240.trans (congrArg some (by kernel_rfl))
 f338:=Tryz.func115.trans (congrArg some (by kernel_rfl))
 t0:=Tryz.underlying0
 a0:=Tryz.isAgg0
 z0:=Tryz.sizeOf0
 v0:=Tryz.zeroValue0
 t2:=Tryz.underlying2
 a2:=Tryz.isAgg2
 z2:=Tryz.sizeOf2
 v2:=Tryz.zeroValue2
 t3:=Tryz.underlying3
 a3:=Tryz.isAgg3
 z3:=Tryz.sizeOf3
 v3:=Tryz.zeroValue3
 t4:=Tryz.underlying4
 a4:=Tryz.isAgg4
 z4:=Tryz.sizeOf4
 v4:=Tryz.zeroValue4
 t5:=Tryz.underlying5
 a5:=Tryz.isAgg5
 z5:=Tryz.sizeOf5
 v5:=Tryz.zeroValue5
 t9:=Tryz.underlying9
 a9:=Tryz.isAgg9
 z9:=Tryz.sizeOf9
 v9:=Tryz.zeroValue9
 t20:=Tryz.underlying20
 a20:=Tryz.isAgg20
 z20:=Tryz.sizeOf20
 v20:=Tryz.zeroValue20
 t37:=Tryz.underlying79
 a37:=Tryz.isAgg79
 z37:=Tryz.sizeOf79
 v37:=Tryz.zeroValue79
 t46:=Tryz.underlying134
 a46:=Tryz.isAgg134
 z46:=Tryz.sizeOf134
 v46:=Tryz.zeroValue134
 t51:=Tryz.underlying125
 a51:=Tryz.isAgg125
 z51:=Tryz.sizeOf125
 v51:=Tryz.zeroValue125
 t53:=Tryz.underlying54
 a53:=Tryz.isAgg54
 z53:=Tryz.sizeOf54
 v53:=Tryz.zeroValue54
 t171:=Tryz.underlying204
 a171:=Tryz.isAgg204
 z171:=Tryz.sizeOf204
 v171:=Tryz.zeroValue204
 t173:=Tryz.underlying206
 a173:=Tryz.isAgg206
 z173:=Tryz.sizeOf206
 v173:=Tryz.zeroValue206
 t212:=Tryz.underlying222
 a212:=Tryz.isAgg222
 z212:=Tryz.sizeOf222
 v212:=Tryz.zeroValue222
 t213:=Tryz.underlying223
 a213:=Tryz.isAgg223
 z213:=Tryz.sizeOf223
 t232:=Tryz.underlying234
 a232:=Tryz.isAgg234
 z232:=Tryz.sizeOf234
 v232:=Tryz.zeroValue234
 t233:=Tryz.underlying174
 a233:=Tryz.isAgg174
 z233:=Tryz.sizeOf174
 v233:=Tryz.zeroValue174
 g17:=by kernel_rfl
 g18:=by kernel_rfl
 g19:=by kernel_rfl
 i0:=by kernel_rfl
 i2:=by kernel_rfl
 i3:=by kernel_rfl
 i4:=by kernel_rfl
 i5:=by kernel_rfl
 i9:=by kernel_rfl
 i20:=by kernel_rfl
 i37:=by kernel_rfl
 i46:=by kernel_rfl
 i51:=by kernel_rfl
 i53:=by kernel_rfl
 i171:=by kernel_rfl
 i173:=by kernel_rfl
 i212:=by kernel_rfl
 i232:=by kernel_rfl
 i233:=by kernel_rfl
 m17:=by kernel_rfl
 m18:=by kernel_rfl
 m19:=by kernel_rfl }
open Go.RowKit Go.Sort Go.Lib in
theorem Tryz.strconv_Itoa (n : Int) (h0 : -9223372036854775808 ≤ n) (h1 : n ≤ 9223372036854775807) (w : World) (htab : Lib.TabIs Tryz.prog w "internal/strconv.uint64pow10" .u64 Lib.pow10Tab) :
  Calls Tryz.prog 92 #[.int .i64 n] w fun e w'=>e=.returned (.string ⟨(Lib.itoa n).toArray⟩)∧∃ k os,w'=grow (w.drewN k) os:=Any.strconv_Itoa Tryz.laysM171 n h0 h1 w htab
end Go.Proofs
namespace Go.Proofs.YtkcmhaknalomjaaGreatDoor
open Go.RowKit
theorem qO9:(Tryz.prog.info? 5).map (fun i=>(i.zero,i.size,i.bytes))=some (some (.int .u8 0),1,1):=by kernel_rfl
end Go.Proofs.YtkcmhaknalomjaaGreatDoor
namespace Go.Proofs.YtkcmhaknalomjaaGreatDoor
open Go.RowKit Go.Fl64
theorem zR8 (w:World):Is w (.slice none 0 0) 0:=⟨none,0,by rw[qQ4],by rw[qQ4];omega,by omega,0,0,fun h=>by rw[qQ4] at h;omega,fun i hi=>by rw[qQ4] at hi;omega⟩
def Tab10 (w : World) : Prop := Lib.TabIs Tryz.prog w "internal/strconv.uint64pow10" .u64 Lib.pow10Tab
theorem g10 : Tryz.prog.globalNamed "internal/strconv.uint64pow10" = some 3 := by kernel_rfl
theorem Tab10.lt {w:World} (h:Tab10 w):3<w.heap.size:=by
 unfold Tab10 Lib.TabIs World.var? at h;rw[g10] at h;rcases Nat.lt_or_ge 3 w.heap.size with h1|h1
 ·exact h1
 ·simp[Array.getElem?_eq_none h1] at h
theorem Tab10.later {w w':World} (h:Tab10 w) (hb:Bw w w'):Tab10 w':=var?_below hb g10 h.lt h
theorem zB (w:World) (k:Nat) (os:Array Obj):Below w.heap.size w (Sort.grow (w.drewN k) os) :=
 ⟨rfl,rfl,rfl,by show w.heap.size≤(w.heap++os).size;rw[Array.size_append];omega,fun j hj=>by
  show(w.heap++os)[j]?=w.heap[j]?
  rw[Array.getElem?_append_left hj]⟩
theorem yL9 (m:Nat) (w:World) (hm:m<18446744073709551616):At (w.alloc (Obj.cells #[Value.int IntKind.u32 ((m:Int) % 4294967296),Value.int IntKind.u32 ((m:Int) / 4294967296)] 125)) (some ⟨w.heap.size,0,none⟩) 2 m:=by
 have hM:Mk w (w.alloc (Obj.cells #[Value.int IntKind.u32 ((m:Int) % 4294967296),Value.int IntKind.u32 ((m:Int) / 4294967296)] 125)) 2 (dg m):=by
  refine⟨(xV9 _ _).alloc (xV8 _) _,by simp,World.rowIs_alloc w _ _ _ fun i hi=>?_⟩
  match i,hi with
  | 0,_=>simp[dg,B]
  | 1,_=>simp[dg,B];omega
 exact hM.at
theorem zC {w:World} {g:Nat} {q:Addr} (h:q.block≠g) (a b c:Value):(((w.setCell ⟨g,0,none⟩ a).setCell ⟨g,1,none⟩ b).setCell ⟨g,2,none⟩ c).cell? q=w.cell? q:=by
 have h1:∀ i,(⟨g,i,none⟩:Addr)≠q:=fun i e=>h (by rw[←e])
 rw[World.cell?_setCell_other _ _ _ _ (h1 2),World.cell?_setCell_other _ _ _ _ (h1 1),World.cell?_setCell_other _ _ _ _ (h1 0)]
theorem yX9 (x:Nat) (h:x<18446744073709551616):bits .and .u64 (x:Int) 2047=((x % 2048:Nat):Int):=by
 have e:=u64_and_nat x 2047 h (by decide)
 rw[show((2047:Nat):Int)=2047 from rfl] at e;rw[e];congr 1
 have:=Nat.and_two_pow_sub_one_eq_mod x 11
 simpa using this
theorem own:ownKnob Tryz.prog.godebug=none:=by kernel_rfl
theorem g64 : Tryz.prog.globalNamed "math/bits.deBruijn64tab" = some 1 := by kernel_rfl
theorem g64t:(Tryz.prog.globals[1]?).map (·.type)=some 174:=by kernel_rfl
theorem g32 : Tryz.prog.globalNamed "math/bits.deBruijn32tab" = some 6 := by kernel_rfl
theorem g32t:(Tryz.prog.globals[6]?).map (·.type)=some 234:=by kernel_rfl
theorem g10t:(Tryz.prog.globals[3]?).map (·.type)=some 222:=by kernel_rfl
theorem cells114:Tryz.prog.cellsOf 174=64:=by kernel_rfl
theorem cells130:Tryz.prog.cellsOf 234=32:=by kernel_rfl
theorem cells146:Tryz.prog.cellsOf 222=20:=by kernel_rfl
theorem cells5:Tryz.prog.cellsOf 5=1:=by kernel_rfl
theorem cells58:Tryz.prog.cellsOf 54=1:=by kernel_rfl
def zs64:List Int := [0,1,56,2,57,49,28,3,61,58,42,50,38,29,17,4,62,47,59,36,45,43,51,22,53,39,33,30,24,18,12,5,63,55,48,27,60,41,37,16,46,35,44,21,52,32,23,11,54,26,40,15,34,20,31,10,25,14,19,9,13,8,7,6]
def zs32:List Int := [0,1,28,2,29,14,24,3,30,22,20,15,25,17,4,8,31,27,13,23,21,19,16,7,26,12,18,6,11,5,10,9]
def zs10:List Int := [1,10,100,1000,10000,100000,1000000,10000000,100000000,1000000000,10000000000,100000000000,1000000000000,10000000000000,100000000000000,1000000000000000,10000000000000000,100000000000000000,1000000000000000000,10000000000000000000]
theorem yH4:∀ i,i<64→zs64.getD i 0=((Lib.deBruijn64tab.getD i 0:Nat):Int):=by decide +kernel
theorem yH5:∀ i,i<32→zs32.getD i 0=((Lib.deBruijn32tab.getD i 0:Nat):Int):=by decide +kernel
theorem yH6:zs10=Lib.pow10Tab:=by decide +kernel
theorem tab64_of {W : World} (h : Lib.TabIs Tryz.prog W "math/bits.deBruijn64tab" .u8 zs64) : Ie.Tab W := by
 intro i hi;have:=h.cell g64 i (by exact hi)
 rw[yH4 i hi] at this;exact this
theorem tab32_of {W : World} (h : Lib.TabIs Tryz.prog W "math/bits.deBruijn32tab" .u8 zs32) : Tab32 W := by
 intro i hi;have:=h.cell g32 i (by exact hi)
 rw[yH5 i hi] at this;exact this
theorem tab10_of {W : World} (h : Lib.TabIs Tryz.prog W "internal/strconv.uint64pow10" .u64 zs10) : Tab10 W := by
 rw[yH6] at h;exact h
theorem laid_tail {P:Program} {W:World} {x:String×DataW Unit} {rest:List (String×DataW Unit)} (h:laidMet P (x :: rest) W):laidMet P rest W:=by
 obtain⟨ps,⟨g',t',cs,fuel,p,q,hg',ht',hvar,hd,hr,rfl⟩,hn,hc⟩:=h;exact⟨q,hr,(List.nodup_append.1 hn).2.1,fun b off hm=>hc b off (List.mem_append_right _ hm)⟩
def laidOn (w:World):World :=
 { w with heap:=((w.heap.modify 1 fun
   | .cells _ t frozen=>.cells #[.int .u8 0,.int .u8 1,.int .u8 56,.int .u8 2,.int .u8 57,.int .u8 49,.int .u8 28,.int .u8 3,.int .u8 61,.int .u8 58,.int .u8 42,.int .u8 50,.int .u8 38,.int .u8 29,.int .u8 17,.int .u8 4,.int .u8 62,.int .u8 47,.int .u8 59,.int .u8 36,.int .u8 45,.int .u8 43,.int .u8 51,.int .u8 22,.int .u8 53,.int .u8 39,.int .u8 33,.int .u8 30,.int .u8 24,.int .u8 18,.int .u8 12,.int .u8 5,.int .u8 63,.int .u8 55,.int .u8 48,.int .u8 27,.int .u8 60,.int .u8 41,.int .u8 37,.int .u8 16,.int .u8 46,.int .u8 35,.int .u8 44,.int .u8 21,.int .u8 52,.int .u8 32,.int .u8 23,.int .u8 11,.int .u8 54,.int .u8 26,.int .u8 40,.int .u8 15,.int .u8 34,.int .u8 20,.int .u8 31,.int .u8 10,.int .u8 25,.int .u8 14,.int .u8 19,.int .u8 9,.int .u8 13,.int .u8 8,.int .u8 7,.int .u8 6] t frozen
   | o=>o).modify 6 fun
   | .cells _ t frozen=>.cells #[.int .u8 0,.int .u8 1,.int .u8 28,.int .u8 2,.int .u8 29,.int .u8 14,.int .u8 24,.int .u8 3,.int .u8 30,.int .u8 22,.int .u8 20,.int .u8 15,.int .u8 25,.int .u8 17,.int .u8 4,.int .u8 8,.int .u8 31,.int .u8 27,.int .u8 13,.int .u8 23,.int .u8 21,.int .u8 19,.int .u8 16,.int .u8 7,.int .u8 26,.int .u8 12,.int .u8 18,.int .u8 6,.int .u8 11,.int .u8 5,.int .u8 10,.int .u8 9] t frozen
   | o=>o).modify 3 fun
   | .cells _ t frozen=>.cells #[.int .u64 1,.int .u64 10,.int .u64 100,.int .u64 1000,.int .u64 10000,.int .u64 100000,.int .u64 1000000,.int .u64 10000000,.int .u64 100000000,.int .u64 1000000000,.int .u64 10000000000,.int .u64 100000000000,.int .u64 1000000000000,.int .u64 10000000000000,.int .u64 100000000000000,.int .u64 1000000000000000,.int .u64 10000000000000000,.int .u64 100000000000000000,.int .u64 1000000000000000000,.int .u64 10000000000000000000] t frozen
   | o=>o }
theorem c75 {neg:Bool} {ao:Option Addr} {cap x:Nat} {e:Int} {w:World} (h:Is w (.slice ao (dlen x) cap) x) (hx:dlen x≤1000000) (he1 : -4000000≤e) (he2:e≤4000000) :
  Calls Tryz.prog 182 #[.agg #[.bool neg,.slice ao (dlen x) cap,.int .i64 e]] w fun r w'=>r=.returned (.int .i64 (bl x+e))∧Bw w w':=by
 have hb:=qY8 x;exact c75_1 neg ao _ cap (bl x) e w (by omega) he1 he2 fun W hW=>c74 (h.later hW) (by omega)
theorem c77_0 (na nb:Bool) (ua va:Option Addr) (uc vc:Nat) (ea eb:Int) (w:World) :
  Calls Tryz.prog 218 #[.agg #[.bool na,.slice ua 0 uc,.int .i64 ea],.agg #[.bool nb,.slice va 0 vc,.int .i64 eb]] w fun r w'=>r=.returned (.int .i64 0)∧Bw w w':=by
 obtain⟨W,hW⟩:∃ W,W=(w.alloc (.cells #[.bool na,.slice ua 0 uc,.int .i64 ea] 65)).alloc (.cells #[.bool nb,.slice va 0 vc,.int .i64 eb] 65):=⟨_,rfl⟩;have hBW:Bw w W:=by rw[hW];exact((xV9 _ _).alloc (xV8 _) _).alloc (by simp) _
 have hbB:W.heap[w.heap.size+1]?=some (.cells #[.bool nb,.slice va 0 vc,.int .i64 eb] 65 (0,0)):=by
  have:=xG5 (w.alloc (.cells #[.bool na,.slice ua 0 uc,.int .i64 ea] 65)) (.cells #[.bool nb,.slice va 0 vc,.int .i64 eb] 65)
  rw[hW];simpa using this
 have hsz:W.heap.size=w.heap.size+1+1:=by rw[hW];simp
 have HC:Hid (∀ w',Bw W w'→(w'.cell? ⟨w.heap.size+1,0,none⟩=some (.bool nb)∧w'.cell? ⟨w.heap.size+1,1,none⟩=some (.slice va 0 vc)∧w'.cell? ⟨w.heap.size+1,2,none⟩=some (.int .i64 eb))):=fun w' hb=>(qQ1 (qQ hbB hb (by omega))).1
 have ka:∀ W',Calls Tryz.prog 136 #[.agg #[.bool na,.slice ua 0 uc,.int .i64 ea]] W' fun r w'=>r=.returned (.int .i64 0)∧Bw W' w':=fun W' =>
  (c72 na ua 0 uc ea W' (by omega)).mono fun r w' ⟨e1,e2⟩=>⟨e1,by rw[e2];exact(xV9 _ _).alloc (xV8 _) _⟩
 have kb:∀ W',Calls Tryz.prog 136 #[.agg #[.bool nb,.slice va 0 vc,.int .i64 eb]] W' fun r w'=>r=.returned (.int .i64 0)∧Bw W' w':=fun W' =>
  (c72 nb va 0 vc eb W' (by omega)).mono fun r w' ⟨e1,e2⟩=>⟨e1,by rw[e2];exact(xV9 _ _).alloc (xV8 _) _⟩
 have HB:Hid (Bw w W):=hBW;clear hBW hbB hsz
 go_enter Tryz.func218,Tryz.ntmps218
 go_wp2_with fail;rw[←hW];clear hW;refine(ka W).mono ?_
 rintro r w1 ⟨rfl,hB1⟩;obtain⟨x1,x2,x3⟩:=HC.out w1 hB1;have HB1:Hid (Bw W w1):=hB1;clear hB1
 go_wp2_with fail;refine(kb _).mono ?_
 rintro r w2 ⟨rfl,hB2⟩;have HF:Hid (Bw w w2):=HB.out.trans ((qU HB1.out hB2).mono HB.out.size);clear x1 x2 x3 hB2
 go_wp2_with fail
 go_ret;exact⟨rfl,HF.out⟩
theorem c77_2 (na : Bool) (ua va : Option Addr) (un uc vn vc : Nat) (ea eb s ta tb cv pv : Int) (w : World) (hs : Hid (sgI na un = s ∧ sgI na vn = s)) (hs0 : (s == 0) = false) (hss : (s != s) = false) (htt : (ta != tb) = true) (hun : un ≤ 35184372088832) (hvn : vn ≤ 35184372088832)
    (hcv : Hid (∀ W, Calls Tryz.prog 235 #[.int .i64 ta, .int .i64 tb] W fun r w' => r = .returned (.int .i64 cv) ∧ w' = W)) (hpv : IntKind.i64.wrap (s * cv) = pv)
    (kta : ∀ W, Bw w W → Calls Tryz.prog 182 #[.agg #[.bool na, .slice ua un uc, .int .i64 ea]] W fun r w' => r = .returned (.int .i64 ta) ∧ Bw W w')
    (ktb : ∀ W, Bw w W → Calls Tryz.prog 182 #[.agg #[.bool na, .slice va vn vc, .int .i64 eb]] W fun r w' => r = .returned (.int .i64 tb) ∧ Bw W w') :
    Calls Tryz.prog 218 #[.agg #[.bool na, .slice ua un uc, .int .i64 ea], .agg #[.bool na, .slice va vn vc, .int .i64 eb]] w fun r w' => r = .returned (.int .i64 pv) ∧ Bw w w' := by
  obtain ⟨W, hW⟩ : ∃ W, W = (w.alloc (.cells #[.bool na, .slice ua un uc, .int .i64 ea] 65)).alloc (.cells #[.bool na, .slice va vn vc, .int .i64 eb] 65) := ⟨_, rfl⟩
  have hBW : Bw w W := by rw [hW]; exact ((xV9 _ _).alloc (xV8 _) _).alloc (by simp) _
  have hbA : W.heap[w.heap.size]? = some (.cells #[.bool na, .slice ua un uc, .int .i64 ea] 65 (0, 0)) := by
    rw [hW, Below.heap_alloc _ _ _ (by simp)]; exact xG5 _ _
  have hbB : W.heap[w.heap.size + 1]? = some (.cells #[.bool na, .slice va vn vc, .int .i64 eb] 65 (0, 0)) := by
    have := xG5 (w.alloc (.cells #[.bool na, .slice ua un uc, .int .i64 ea] 65)) (.cells #[.bool na, .slice va vn vc, .int .i64 eb] 65)
    rw [hW]; simpa using this
  have hsz : W.heap.size = w.heap.size + 1 + 1 := by rw [hW]; simp
  have HCC : Hid (∀ w', Bw W w' → ((w'.cell? ⟨w.heap.size, 0, none⟩ = some (.bool na) ∧ w'.cell? ⟨w.heap.size, 1, none⟩ = some (.slice ua un uc) ∧ w'.cell? ⟨w.heap.size, 2, none⟩ = some (.int .i64 ea)) ∧ (w'.cell? ⟨w.heap.size + 1, 0, none⟩ = some (.bool na) ∧ w'.cell? ⟨w.heap.size + 1, 1, none⟩ = some (.slice va vn vc) ∧ w'.cell? ⟨w.heap.size + 1, 2, none⟩ = some (.int .i64 eb))) ∧ Bw W w') := fun w' hb => ⟨⟨(qQ1 (qQ hbA hb (by omega))).1, (qQ1 (qQ hbB hb (by omega))).1⟩, hb⟩
  have ka : ∀ W', Calls Tryz.prog 136 #[.agg #[.bool na, .slice ua un uc, .int .i64 ea]] W' fun r w' => r = .returned (.int .i64 s) ∧ Bw W' w' := fun W' =>
    (c72 na ua un uc ea W' hun).mono fun r w' ⟨e1, e2⟩ => ⟨by rw [e1, hs.out.1], by rw [e2]; exact (xV9 _ _).alloc (xV8 _) _⟩
  have kb : ∀ W', Calls Tryz.prog 136 #[.agg #[.bool na, .slice va vn vc, .int .i64 eb]] W' fun r w' => r = .returned (.int .i64 s) ∧ Bw W' w' := fun W' =>
    (c72 na va vn vc eb W' hvn).mono fun r w' ⟨e1, e2⟩ => ⟨by rw [e1, hs.out.2], by rw [e2]; exact (xV9 _ _).alloc (xV8 _) _⟩
  have HB : Hid (Bw w W) := hBW
  have k1 : ∀ w', Bw W w' → Calls Tryz.prog 182 #[.agg #[.bool na, .slice ua un uc, .int .i64 ea]] w' fun r w'' => r = .returned (.int .i64 ta) ∧ Bw W w'' := fun w' h => (kta w' (hBW.trans (h.mono hBW.size))).mono fun r w'' ⟨e1, e2⟩ => ⟨e1, h.trans (e2.mono h.size)⟩
  have k2 : ∀ w', Bw W w' → Calls Tryz.prog 182 #[.agg #[.bool na, .slice va vn vc, .int .i64 eb]] w' fun r w'' => r = .returned (.int .i64 tb) ∧ Bw W w'' := fun w' h => (ktb w' (hBW.trans (h.mono hBW.size))).mono fun r w'' ⟨e1, e2⟩ => ⟨e1, h.trans (e2.mono h.size)⟩
  clear hBW hbA hbB hsz hs kta ktb hun hvn
  go_enter Tryz.func218, Tryz.ntmps218
  go_wp2_with fail
  rw [← hW]
  clear hW
  refine (ka W).mono ?_
  rintro r w1 ⟨rfl, hB1⟩
  obtain ⟨⟨-, x1, x2, x3⟩, -⟩ := HCC.out w1 hB1
  have HB1 : Hid (Bw W w1) := hB1
  clear hB1
  go_wp2_with fail
  refine (kb _).mono ?_
  rintro r w2 ⟨rfl, hB2⟩
  have HB2 : Hid (Bw W w2) := qU HB1.out hB2
  clear x1 x2 x3 hB2 ka kb HB1
  go_upto_region 6 with fail
  obtain ⟨⟨⟨a0, a1, a2⟩, b0, b1, b2⟩, hB0⟩ := HCC.out w2 HB2.out
  have hBR : Bw W w2.drew := hB0.drew
  go_cut [23] from 24 to 28 (fun v wx => v = .bool true ∧ Hid (Bw W wx))
  case first =>
    go_region_held3 (fun w' => ((w'.cell? ⟨w.heap.size, 0, none⟩ = some (.bool na) ∧ w'.cell? ⟨w.heap.size, 1, none⟩ = some (.slice ua un uc) ∧ w'.cell? ⟨w.heap.size, 2, none⟩ = some (.int .i64 ea)) ∧ (w'.cell? ⟨w.heap.size + 1, 0, none⟩ = some (.bool na) ∧ w'.cell? ⟨w.heap.size + 1, 1, none⟩ = some (.slice va vn vc) ∧ w'.cell? ⟨w.heap.size + 1, 2, none⟩ = some (.int .i64 eb))) ∧ Bw W w') (first | (with_reducible assumption) | exact HCC.out _ hBR | exact ⟨⟨⟨a0, a1, a2⟩, b0, b1, b2⟩, hBR⟩ | (refine HCC.out _ ?_; with_reducible assumption) | go_keep)
      (first | (go_at_call_of 182 (Value.slice ua un uc); refine (k1 _ (by first | (with_reducible assumption) | exact Below.drew (by assumption))).mono ?_; rintro r w5 ⟨rfl, hb5⟩)
             | (go_at_call_of 182 (Value.slice va vn vc); refine (k2 _ (by first | (with_reducible assumption) | exact Below.drew (by assumption))).mono ?_; rintro r w6 ⟨rfl, hb6⟩))
    all_goals go_wp2_with fail
    all_goals go_meet
    all_goals exact ⟨rfl, hb6⟩
  case rest =>
    obtain ⟨W2, rfl⟩ : ∃ W2 : World, W2 = wc := ⟨_, rfl⟩
    obtain ⟨rfl, HB3⟩ := hcut
    clear a0 a1 a2 b0 b1 b2 hBR hB0
    go_upto_region 7 with fail
    obtain ⟨⟨⟨a0, a1, a2⟩, b0, b1, b2⟩, hB0⟩ := HCC.out W2 HB3.out
    have hBR : Bw W W2.drew := hB0.drew
    have k3 := hcv.out
    go_region_held3 (fun w' => ((w'.cell? ⟨w.heap.size, 0, none⟩ = some (.bool na) ∧ w'.cell? ⟨w.heap.size, 1, none⟩ = some (.slice ua un uc) ∧ w'.cell? ⟨w.heap.size, 2, none⟩ = some (.int .i64 ea)) ∧ (w'.cell? ⟨w.heap.size + 1, 0, none⟩ = some (.bool na) ∧ w'.cell? ⟨w.heap.size + 1, 1, none⟩ = some (.slice va vn vc) ∧ w'.cell? ⟨w.heap.size + 1, 2, none⟩ = some (.int .i64 eb))) ∧ Bw W w') (first | (with_reducible assumption) | exact HCC.out _ hBR | exact ⟨⟨⟨a0, a1, a2⟩, b0, b1, b2⟩, hBR⟩ | (refine HCC.out _ ?_; with_reducible assumption) | go_keep)
      (first | (go_at_call_of 182 (Value.slice ua un uc); refine (k1 _ (by first | (with_reducible assumption) | exact Below.drew (by assumption))).mono ?_; rintro r w5 ⟨rfl, hb5⟩)
             | (go_at_call_of 182 (Value.slice va vn vc); refine (k2 _ (by first | (with_reducible assumption) | exact Below.drew (by assumption))).mono ?_; rintro r w6 ⟨rfl, hb6⟩)
             | (go_at_call 235; refine (k3 _).mono ?_; rintro r w7 ⟨rfl, rfl⟩))
    all_goals go_wp2_with fail
    all_goals go_ret
    all_goals exact ⟨rfl, HB.out.trans (hb6.mono HB.out.size)⟩
theorem c77_3 (na : Bool) (ua va : Option Addr) (un uc vn vc : Nat) (ea eb s ta tb cv pv : Int) (PQ : World → Value → Value → Prop) (w : World) (hs : Hid (sgI na un = s ∧ sgI na vn = s)) (hs0 : (s == 0) = false) (hss : (s != s) = false) (htt : (ta != tb) = false) (hun : un ≤ 35184372088832) (hvn : vn ≤ 35184372088832)
    (kal : ∀ W, Bw w W → Calls Tryz.prog 167 #[.agg #[.bool na, .slice ua un uc, .int .i64 ea], .agg #[.bool na, .slice va vn vc, .int .i64 eb]] W fun r w' => ∃ p q e', r = .returned (.tuple #[p, q, .int .i64 e']) ∧ PQ w' p q ∧ Bw W w')
    (kcd : ∀ W p q, PQ W p q → Calls Tryz.prog 194 #[p, q] W fun r w' => r = .returned (.int .i64 cv) ∧ Bw W w') (hpv : IntKind.i64.wrap (s * cv) = pv)
    (kta : ∀ W, Bw w W → Calls Tryz.prog 182 #[.agg #[.bool na, .slice ua un uc, .int .i64 ea]] W fun r w' => r = .returned (.int .i64 ta) ∧ Bw W w')
    (ktb : ∀ W, Bw w W → Calls Tryz.prog 182 #[.agg #[.bool na, .slice va vn vc, .int .i64 eb]] W fun r w' => r = .returned (.int .i64 tb) ∧ Bw W w') :
    Calls Tryz.prog 218 #[.agg #[.bool na, .slice ua un uc, .int .i64 ea], .agg #[.bool na, .slice va vn vc, .int .i64 eb]] w fun r w' => r = .returned (.int .i64 pv) ∧ Bw w w' := by
  obtain ⟨W, hW⟩ : ∃ W, W = (w.alloc (.cells #[.bool na, .slice ua un uc, .int .i64 ea] 65)).alloc (.cells #[.bool na, .slice va vn vc, .int .i64 eb] 65) := ⟨_, rfl⟩
  have hBW : Bw w W := by rw [hW]; exact ((xV9 _ _).alloc (xV8 _) _).alloc (by simp) _
  have hbA : W.heap[w.heap.size]? = some (.cells #[.bool na, .slice ua un uc, .int .i64 ea] 65 (0, 0)) := by
    rw [hW, Below.heap_alloc _ _ _ (by simp)]; exact xG5 _ _
  have hbB : W.heap[w.heap.size + 1]? = some (.cells #[.bool na, .slice va vn vc, .int .i64 eb] 65 (0, 0)) := by
    have := xG5 (w.alloc (.cells #[.bool na, .slice ua un uc, .int .i64 ea] 65)) (.cells #[.bool na, .slice va vn vc, .int .i64 eb] 65)
    rw [hW]; simpa using this
  have hsz : W.heap.size = w.heap.size + 1 + 1 := by rw [hW]; simp
  have HCC : Hid (∀ w', Bw W w' → ((w'.cell? ⟨w.heap.size, 0, none⟩ = some (.bool na) ∧ w'.cell? ⟨w.heap.size, 1, none⟩ = some (.slice ua un uc) ∧ w'.cell? ⟨w.heap.size, 2, none⟩ = some (.int .i64 ea)) ∧ (w'.cell? ⟨w.heap.size + 1, 0, none⟩ = some (.bool na) ∧ w'.cell? ⟨w.heap.size + 1, 1, none⟩ = some (.slice va vn vc) ∧ w'.cell? ⟨w.heap.size + 1, 2, none⟩ = some (.int .i64 eb))) ∧ Bw W w') := fun w' hb => ⟨⟨(qQ1 (qQ hbA hb (by omega))).1, (qQ1 (qQ hbB hb (by omega))).1⟩, hb⟩
  have ka : ∀ W', Calls Tryz.prog 136 #[.agg #[.bool na, .slice ua un uc, .int .i64 ea]] W' fun r w' => r = .returned (.int .i64 s) ∧ Bw W' w' := fun W' =>
    (c72 na ua un uc ea W' hun).mono fun r w' ⟨e1, e2⟩ => ⟨by rw [e1, hs.out.1], by rw [e2]; exact (xV9 _ _).alloc (xV8 _) _⟩
  have kb : ∀ W', Calls Tryz.prog 136 #[.agg #[.bool na, .slice va vn vc, .int .i64 eb]] W' fun r w' => r = .returned (.int .i64 s) ∧ Bw W' w' := fun W' =>
    (c72 na va vn vc eb W' hvn).mono fun r w' ⟨e1, e2⟩ => ⟨by rw [e1, hs.out.2], by rw [e2]; exact (xV9 _ _).alloc (xV8 _) _⟩
  have HB : Hid (Bw w W) := hBW
  have k1 : ∀ w', Bw W w' → Calls Tryz.prog 182 #[.agg #[.bool na, .slice ua un uc, .int .i64 ea]] w' fun r w'' => r = .returned (.int .i64 ta) ∧ Bw W w'' := fun w' h => (kta w' (hBW.trans (h.mono hBW.size))).mono fun r w'' ⟨e1, e2⟩ => ⟨e1, h.trans (e2.mono h.size)⟩
  have k2 : ∀ w', Bw W w' → Calls Tryz.prog 182 #[.agg #[.bool na, .slice va vn vc, .int .i64 eb]] w' fun r w'' => r = .returned (.int .i64 tb) ∧ Bw W w'' := fun w' h => (ktb w' (hBW.trans (h.mono hBW.size))).mono fun r w'' ⟨e1, e2⟩ => ⟨e1, h.trans (e2.mono h.size)⟩
  have KLN : Hid _ := kal
  have KCD : Hid _ := kcd
  clear hBW hbA hbB hsz hs kta ktb hun hvn kal kcd
  go_enter Tryz.func218, Tryz.ntmps218
  go_wp2_with fail
  rw [← hW]
  clear hW
  refine (ka W).mono ?_
  rintro r w1 ⟨rfl, hB1⟩
  obtain ⟨⟨-, x1, x2, x3⟩, -⟩ := HCC.out w1 hB1
  have HB1 : Hid (Bw W w1) := hB1
  clear hB1
  go_wp2_with fail
  refine (kb _).mono ?_
  rintro r w2 ⟨rfl, hB2⟩
  have HB2 : Hid (Bw W w2) := qU HB1.out hB2
  clear x1 x2 x3 hB2 ka kb HB1
  go_upto_region 6 with fail
  obtain ⟨⟨⟨a0, a1, a2⟩, b0, b1, b2⟩, hB0⟩ := HCC.out w2 HB2.out
  have hBR : Bw W w2.drew := hB0.drew
  go_cut [23] from 24 to 28 (fun v wx => v = .bool false ∧ Hid (Bw W wx))
  case first =>
    go_region_held3 (fun w' => ((w'.cell? ⟨w.heap.size, 0, none⟩ = some (.bool na) ∧ w'.cell? ⟨w.heap.size, 1, none⟩ = some (.slice ua un uc) ∧ w'.cell? ⟨w.heap.size, 2, none⟩ = some (.int .i64 ea)) ∧ (w'.cell? ⟨w.heap.size + 1, 0, none⟩ = some (.bool na) ∧ w'.cell? ⟨w.heap.size + 1, 1, none⟩ = some (.slice va vn vc) ∧ w'.cell? ⟨w.heap.size + 1, 2, none⟩ = some (.int .i64 eb))) ∧ Bw W w') (first | (with_reducible assumption) | exact HCC.out _ hBR | exact ⟨⟨⟨a0, a1, a2⟩, b0, b1, b2⟩, hBR⟩ | (refine HCC.out _ ?_; with_reducible assumption) | go_keep)
      (first | (go_at_call_of 182 (Value.slice ua un uc); refine (k1 _ (by first | (with_reducible assumption) | exact Below.drew (by assumption))).mono ?_; rintro r w5 ⟨rfl, hb5⟩)
             | (go_at_call_of 182 (Value.slice va vn vc); refine (k2 _ (by first | (with_reducible assumption) | exact Below.drew (by assumption))).mono ?_; rintro r w6 ⟨rfl, hb6⟩))
    all_goals go_wp2_with fail
    all_goals go_meet
    all_goals exact ⟨rfl, hb6⟩
  case rest =>
    obtain ⟨W2, rfl⟩ : ∃ W2 : World, W2 = wc := ⟨_, rfl⟩
    obtain ⟨rfl, HB3⟩ := hcut
    clear a0 a1 a2 b0 b1 b2 hBR hB0
    obtain ⟨⟨⟨a0, a1, a2⟩, b0, b1, b2⟩, hB0⟩ := HCC.out W2 HB3.out
    have HB3' : Hid (Bw w W2) := HB.out.trans (hB0.mono HB.out.size)
    have k4 := KLN.out W2 HB3'.out
    go_wp2_with fail
    refine k4.mono ?_
    rintro r w5 ⟨p, q, e', rfl, hpq, hb5⟩
    have k5 := KCD.out w5 p q hpq
    have HB5 : Hid (Bw w w5) := HB3'.out.trans (hb5.mono HB3'.out.size)
    clear k4 hb5 hpq a0 a1 a2 b0 b1 b2 hB0
    go_wp2_with fail
    refine k5.mono ?_
    rintro r w6 ⟨rfl, hb6⟩
    have HB6 : Hid (Bw w w6) := HB5.out.trans (hb6.mono HB5.out.size)
    clear k5 hb6
    go_wp2_with fail
    go_ret
    exact ⟨rfl, HB6.out⟩
def ordN (na:Bool) (x:Nat) (ea:Int) (nb:Bool) (y:Nat) (eb:Int):Int :=
 if sgI na (dlen x)=sgI nb (dlen y)then sgI na (dlen x)*cmpI (x*2^(ea - min ea eb).toNat:Nat) (y*2^(eb - min ea eb).toNat:Nat)else cmpI (sgI na (dlen x)) (sgI nb (dlen y))
theorem qX7 (x y:Int):(x<y∧cmpI x y = -1)∨(y<x∧cmpI x y=1)∨(x=y∧cmpI x y=0):=by
 unfold cmpI;by_cases h1:x<y
 ·rw[if_pos h1];exact .inl ⟨h1,rfl⟩
 ·rw[if_neg h1];by_cases h2:y<x
  ·rw[if_pos h2];exact .inr (.inl ⟨h2,rfl⟩)
  ·rw[if_neg h2];exact .inr (.inr ⟨by omega,rfl⟩)
theorem qB9 {na:Bool} {n:Nat} (h:n≠0):sgI na n=if na then -1 else 1:=by unfold sgI;rw[if_neg h]
theorem qC1 {na:Bool}:sgI na 0=0:=by unfold sgI;rw[if_pos rfl]
theorem zJ8 {x y k l:Nat} (hy:y≠0) (h:bl x+k<bl y+l):x*2^k<y*2^l:=by
 have h1:=qD7 x;have h2:=zR7 hy;have hb:bl y≠0:=by unfold bl;rw[if_neg hy];omega
 have h3:x*2^k<2^(bl x+k):=by rw[xH0];exact xF0 h1 (xU2 k)
 have h4:2^(bl x+k)≤2^(bl y - 1+l):=xU3 (by omega) (by omega)
 have h5:2^(bl y - 1+l)≤y*2^l:=by rw[xH0];exact xU4 _ h2
 omega
theorem c77 {na nb:Bool} {ua va:Option Addr} {uc vc x y:Nat} {ea eb:Int} {w:World} (h1:Is w (.slice ua (dlen x) uc) x) (h2:Is w (.slice va (dlen y) vc) y) (hx:dlen x≤500000) (hy:dlen y≤500000) (ha : -2000000≤ea∧ea≤2000000) (hb : -2000000≤eb∧eb≤2000000) :
  Calls Tryz.prog 218 #[.agg #[.bool na,.slice ua (dlen x) uc,.int .i64 ea],.agg #[.bool nb,.slice va (dlen y) vc,.int .i64 eb]] w fun r w'=>r=.returned (.int .i64 (ordN na x ea nb y eb))∧Bw w w':=by
 unfold ordN;by_cases hs:sgI na (dlen x)=sgI nb (dlen y)
 ·rw[if_pos hs];by_cases hx0:x=0
  ·subst hx0;have hy0:y=0:=by
    rw[qQ4,qC1] at hs;apply qQ7.1
    apply Decidable.byContradiction
    intro h;rw[qB9 h] at hs;cases nb <;> simp at hs
   subst hy0;rw[qQ4,qC1,Int.zero_mul];exact c77_0 na nb ua va uc vc ea eb w
  ·have hdx:dlen x≠0:=fun e=>hx0 (qQ7.1 e);have hdy:dlen y≠0:=by
    intro e;rw[e,qC1,qB9 hdx] at hs;cases na <;> simp at hs
   have hy0:y≠0:=fun e=>hdy (by rw[e,qQ4])
   obtain rfl:na=nb:=by
    rw[qB9 hdx,qB9 hdy] at hs;cases na <;> cases nb <;> simp at hs ⊢
   have hs1:sgI na (dlen x) = -1∨sgI na (dlen x)=1:=by rw[qB9 hdx];cases na <;> simp
   have kta:∀ W,Bw w W→Calls Tryz.prog 182 #[.agg #[.bool na,.slice ua (dlen x) uc,.int .i64 ea]] W fun r w'=>r=.returned (.int .i64 (bl x+ea))∧Bw W w':=fun W hW=>c75 (h1.later hW) (by omega) (by omega) (by omega)
   have ktb:∀ W,Bw w W→Calls Tryz.prog 182 #[.agg #[.bool na,.slice va (dlen y) vc,.int .i64 eb]] W fun r w'=>r=.returned (.int .i64 (bl y+eb))∧Bw W w':=fun W hW=>c75 (h2.later hW) (by omega) (by omega) (by omega)
   have hsz:(sgI na (dlen x)==0)=false:=by rcases hs1 with h|h <;> rw[h] <;> decide
   have hss:(sgI na (dlen x) != sgI na (dlen x))=false:=by simp
   have hw:∀ c:Int,c = -1∨c=1∨c=0→IntKind.i64.wrap (sgI na (dlen x)*c)=sgI na (dlen x)*c:=by
    intro c hc;rcases hs1 with h|h <;> rcases hc with rfl|rfl|rfl <;> rw[h] <;> decide
   have hem:(ea - min ea eb).toNat=ea - min ea eb∧(eb - min ea eb).toNat=eb - min ea eb:=by omega
   by_cases ht:(bl x:Int)+ea=bl y+eb
   ·refine c77_3 na ua va _ uc _ vc ea eb (sgI na (dlen x)) (bl x+ea) (bl y+eb) (cmpI (x*2^(ea - min ea eb).toNat:Nat) (y*2^(eb - min ea eb).toNat:Nat)) _ (fun W p q=>Is W p (x*2^(ea - min ea eb).toNat)∧Is W q (y*2^(eb - min ea eb).toNat)) w ⟨rfl,hs.symm⟩ hsz hss (by rw[ht];simp) (by omega) (by omega) ?_ ?_ (hw _ ?_) kta ktb
    ·intro W hW;refine Calls.mono (c99 (na:=na) (nb:=na) (h1.later hW) (h2.later hW) (by omega) (by omega) (by omega) (by omega)) ?_
     rintro r w' ⟨p,q,rfl,hp,hq,hb'⟩;exact⟨p,q,_,rfl,⟨hp.is,hq.is⟩,hb'⟩
    ·rintro W p q ⟨hp,hq⟩;have l1:dlen (x*2^(ea - min ea eb).toNat)≤760000:=by have:=qY4 (x:=x) (k:=(ea - min ea eb).toNat) rfl;omega
     have l2:dlen (y*2^(eb - min ea eb).toNat)≤760000:=by have:=qY4 (x:=y) (k:=(eb - min ea eb).toNat) rfl;omega
     refine(c129 hp hq (by omega) (by omega)).mono ?_
     rintro r w' ⟨rfl,d,rfl⟩;exact⟨rfl,rfl,rfl,rfl,xV8 _,fun _ _=>rfl⟩
    ·rcases qX7 (x*2^(ea - min ea eb).toNat:Nat) (y*2^(eb - min ea eb).toNat:Nat)with h|h|h
     ·exact .inl h.2
     ·exact .inr (.inl h.2)
     ·exact .inr (.inr h.2)
   ·have ec:cmpI (x*2^(ea - min ea eb).toNat:Nat) (y*2^(eb - min ea eb).toNat:Nat)=cmpI (bl x+ea) (bl y+eb):=by
     rcases qX7 (bl x+ea) (bl y+eb)with h|h|h
     ·have:=zJ8 (x:=x) (k:=(ea - min ea eb).toNat) (l:=(eb - min ea eb).toNat) hy0 (by omega)
      rw[h.2];unfold cmpI;rw[if_pos (by omega)]
     ·have:=zJ8 (x:=y) (y:=x) (k:=(eb - min ea eb).toNat) (l:=(ea - min ea eb).toNat) hx0 (by omega)
      rw[h.2];unfold cmpI;rw[if_neg (by omega),if_pos (by omega)]
     ·exact absurd h.1 ht
    rw[ec];refine c77_2 na ua va _ uc _ vc ea eb (sgI na (dlen x)) (bl x+ea) (bl y+eb) (cmpI (bl x+ea) (bl y+eb)) _ w ⟨rfl,hs.symm⟩ hsz hss (by simp;omega) (by omega) (by omega) (fun W=>c128 _ _ W) (hw _ ?_) kta ktb
    rcases qX7 (bl x+ea) (bl y+eb)with h|h|h
    ·exact .inl h.2
    ·exact .inr (.inl h.2)
    ·exact .inr (.inr h.2)
 ·rw[if_neg hs];exact c77_1 na nb ua va _ uc _ vc ea eb _ _ w rfl rfl (by simp;exact hs) (by omega) (by omega)
theorem xX2 {na nb:Bool} {ua va:Option Addr} {uc vc x y:Nat} {ea eb:Int} {w:World} (h1:Is w (.slice ua (dlen x) uc) x) (h2:Is w (.slice va (dlen y) vc) y) (hx:dlen x≤500000) (hy:dlen y≤500000) (ha : -2000000≤ea∧ea≤2000000) (hb : -2000000≤eb∧eb≤2000000)
  (hoka:okN na (dlen x) x ea=true) (hokb:okN nb (dlen y) y eb=true) :
  Calls Tryz.prog 173 #[.agg #[.bool na,.slice ua (dlen x) uc,.int .i64 ea],.agg #[.bool nb,.slice va (dlen y) vc,.int .i64 eb]] w fun r w'=>r=.returned (.int .i64 (ordN na x ea nb y eb))∧Bw w w' :=
 c30_1 na nb ua va _ uc _ vc ea eb _ w (fun W g hW hg=>by
  have:=qL6 hg (h1.later hW) (h2.later hW) (by omega) (by omega)
  rw[hoka,hokb] at this;exact this) (fun W hW=>c77 (h1.later hW) (h2.later hW) hx hy ha hb)
theorem c48 (m:Int) (hm:m=1∨m=2∨m=3) (w:World):Calls Tryz.prog 140 #[.int .i64 m] w fun r w'=>r=.returned (.bool true)∧w'=w:=by
 rcases hm with rfl|rfl|rfl
 all_goals go_enter Tryz.func140,Tryz.ntmps140
 all_goals go_wp2
 all_goals go_ret
 all_goals exact⟨rfl,rfl⟩
theorem c24_1 (na:Bool) (ua:Option Addr) (un uc F:Nat) (ea mode:Int) (w:World)
  (k43:∀ W g,Bw w W→W.heap[g]?=some (.cells #[.bool na,.slice ua un uc,.int .i64 ea] 65 (0,0))→Calls Tryz.prog 126 #[.slice (some ⟨g,0,none⟩) 1 1] W fun r w'=>r=.returned (.bool true)∧Bw W w')
  (k48:∀ W,Calls Tryz.prog 140 #[.int .i64 mode] W fun r w'=>r=.returned (.bool true)∧w'=W)
  (k49:∀ W,Bw w W→Calls Tryz.prog 261 #[.agg #[.bool na,.slice ua un uc,.int .i64 ea],.int .i64 mode] W fun r w'=>r=.returned (.float .f64 F)∧Bw W w') :
  Calls Tryz.prog 243 #[.agg #[.bool na,.slice ua un uc,.int .i64 ea],.int .i64 mode] w fun r w'=>r=.returned (.tuple #[.float .f64 F,.int .i64 0])∧Bw w w':=by
 obtain⟨W,hW⟩:∃ W,W=w.alloc (.cells #[.bool na,.slice ua un uc,.int .i64 ea] 65):=⟨_,rfl⟩;have hBW:Bw w W:=by rw[hW];exact(xV9 _ _).alloc (xV8 _) _
 have hsz:W.heap.size=w.heap.size+1:=by rw[hW];simp
 have hbx:W.heap[w.heap.size]?=some (.cells #[.bool na,.slice ua un uc,.int .i64 ea] 65 (0,0)):=by rw[hW];exact xG5 _ _
 have k1:=k43 (W.alloc (.cells #[.bool na,.slice ua un uc,.int .i64 ea] 65)) (w.heap.size+1) (hBW.alloc hBW.size _) (by rw[←hsz];exact xG5 _ _)
 have HX:Hid (Bw w W∧W.heap.size=w.heap.size+1∧W.heap[w.heap.size]?=some (.cells #[.bool na,.slice ua un uc,.int .i64 ea] 65 (0,0))):=⟨hBW,hsz,hbx⟩;have HK:Hid _:=k49;clear hBW hsz hbx k43 k49
 go_enter Tryz.func243,Tryz.ntmps243
 go_wp2_with fail;rw[←hW];clear hW;refine k1.mono ?_;rintro r w1 ⟨rfl,hb1⟩;have HB1:Hid (Bw W w1):=((xV9 W.heap.size W).alloc (xV8 _) _).trans (hb1.mono (by simp))
 clear k1 hb1;obtain⟨⟨x0,x1,x2⟩,-⟩:=qQ1 (qQ HX.out.2.2 HB1.out (by have:=HX.out.2.1;omega))
 have HB2:Hid (Bw w w1):=HX.out.1.trans (HB1.out.mono HX.out.1.size);have k2:=k48 w1;clear k48
 go_wp2_with fail;refine k2.mono ?_;rintro r w2 ⟨rfl,hw2⟩;replace hw2:=hw2.symm;subst hw2;clear k2;have k3:=HK.out w1 HB2.out
 go_wp2_with fail;refine k3.mono ?_;rintro r w3 ⟨rfl,hb3⟩;have HB3:Hid (Bw w w3):=HB2.out.trans (hb3.mono HB2.out.size);clear k3 hb3 x0 x1 x2
 go_wp2_with fail;refine xG6 (xF rfl _ _ _) rfl ?_;exact⟨rfl,HB3.out⟩
end Go.Proofs.YtkcmhaknalomjaaGreatDoor
namespace Go.Proofs.YtkcmhaknalomjaaGreatDoor
open Go.RowKit
theorem qM3 {w:World} {g k:Nat} (i:Nat) (v:Value) (h:k≠g):(w.setCell ⟨g,i,none⟩ v).heap[k]?=w.heap[k]?:=by
 simp[World.setCell,Array.getElem?_modify,Ne.symm h]
def Dn (w:World) (base:Nat) (v:Value) (n z:Nat):Prop :=
 (v=.slice none 0 0∧n=0)∨∃ g cap c,v=.slice (some ⟨g,0,none⟩) n cap∧base≤g∧(n≤cap∧cap≤9223372036854775807)∧w.heap[g]?=some (.cells c 125 (0,0))∧c.size=cap∧∀ i,i<n→c[i]?=some (.int .u32 (dg z i:Nat))
structure Arg (w:World) (ao:Option Addr) (n cap z:Nat):Prop where
 nil:n=0→(∃ ad,ao=some ad)∨(ao=none∧cap=0)
 at_:At w ao n z
 le:n≤cap
 small:n≤35184372088832
theorem Arg.later {w w':World} {ao:Option Addr} {n cap z:Nat} (h:Arg w ao n cap z) (hb:Bw w w'):Arg w' ao n cap z:=⟨h.nil,h.at_.later hb,h.le,h.small⟩
theorem Dn.mono {w:World} {base base':Nat} {v:Value} {n z:Nat} (h:Dn w base v n z) (hb:base'≤base):Dn w base' v n z:=by
 rcases h with h|⟨g,cap,c,h0,h1,h2⟩
 ·exact .inl h
 ·exact .inr ⟨g,cap,c,h0,by omega,h2⟩
def putL (a:Act) (l:List (Tmp×Value)):Act:=l.foldl (fun a p=>a.put (some p.1) p.2) a
theorem zZ8 (l:List (Tmp×Value)):∀ a:Act,(putL a l).defers=a.defers:=by
 induction l with
 | nil=>intro a;rfl
 | cons p r ih=>intro a;show(putL (a.put (some p.1) p.2) r).defers=_;rw[ih,qG1]
theorem qL4 {s:Tmp} (l:List (Tmp×Value)):∀ a:Act,s ∉ l.map (·.1)→(putL a l).tmps[s]?=a.tmps[s]?:=by
 induction l with
 | nil=>intro a _;rfl
 | cons p r ih =>
  intro a h;simp only[List.map_cons,List.mem_cons,not_or] at h;show(putL (a.put (some p.1) p.2) r).tmps[s]?=_
  rw[ih _ h.2,qX1 h.1]
theorem zI7 {s:Tmp} {v:Value} (l:List (Tmp×Value)):∀ a:Act,(s,v) ∈ l→(l.map (·.1)).Nodup→s<a.tmps.size→(putL a l).tmps[s]?=some v:=by
 induction l with
 | nil=>intro a h;cases h
 | cons p r ih =>
  intro a h hn hs;simp only[List.map_cons,List.nodup_cons] at hn;show(putL (a.put (some p.1) p.2) r).tmps[s]?=_
  rcases List.mem_cons.1 h with h|h
  ·subst h;rw[qL4 _ _ hn.1,qN0 hs]
  ·exact ih _ h hn.2 (by rw[qM6];exact hs)
theorem qE5 {a a0:Act} {l:List (Tmp×Value)} (hn:(l.map (·.1)).Nodup) (hs:a.tmps.size=a0.tmps.size) (hd:a.defers=a0.defers) (hl:∀ p ∈ l,a.tmps[p.1]?=some p.2) (ho:∀ s,s ∉ l.map (·.1)→a.tmps[s]?=a0.tmps[s]?):a=putL a0 l:=by
 have ht:a.tmps=(putL a0 l).tmps:=by
  refine Array.ext_getElem? fun s=>?_;by_cases h:s ∈ l.map (·.1)
  ·obtain⟨p,hp,rfl⟩:=List.mem_map.1 h;have h1:=hl p hp;rw[h1,zI7 l a0 hp hn (by rw[←hs];exact(Array.getElem?_eq_some_iff.1 h1).1)]
  ·rw[qL4 l a0 h];exact ho s h
 have hd':a.defers=(putL a0 l).defers:=by rw[zZ8];exact hd
 cases a with
 | mk t d =>
  cases hp:putL a0 l with
  | mk t' d' =>
   rw[hp] at ht hd';simp only at ht hd'
   rw[ht,hd']
theorem qZ7:Tryz.prog.follows .mixedOrders=true:=by kernel_rfl
def sv (s:Bool) (x:Nat):Int:=if s then -(x:Int)else x
def vz (K:Nat) (s:Bool) (x:Nat) (e:Int):Int:=sv s x*((2^(e+K).toNat:Nat):Int)
theorem qD3 (s:Bool):sv s 0=0:=by cases s <;> rfl
theorem zG7 {s:Bool} {x:Nat}:sv s x=0↔x=0:=by
 cases s <;> simp[sv]
theorem yW3 (s s':Bool) (x y:Nat):sv (!(s==s')) (x*y)=sv s x*sv s' y:=by
 cases s <;> cases s' <;> simp[sv,xH5,Int.neg_mul,Int.mul_neg]
theorem zI1 (s:Bool) (x k:Nat):sv s (x*k)=sv s x*(k:Int):=by
 cases s <;> simp[sv,xH5,Int.neg_mul]
theorem zZ1 (k:Nat):(0:Int)<((2^k:Nat):Int):=by
 have:=xU2 k;omega
theorem qP9 (K:Nat) (s:Bool) (e:Int):vz K s 0 e=0:=by unfold vz;rw[qD3,Int.zero_mul]
theorem qD0 {K:Nat} {s:Bool} {x:Nat} {e:Int}:vz K s x e=0↔x=0:=by
 unfold vz;constructor
 ·intro h;rcases Int.mul_eq_zero.1 h with h|h
  ·exact zG7.1 h
  ·have:=zZ1 (e+K).toNat;omega
 ·rintro rfl;rw[qD3,Int.zero_mul]
theorem qN9 {K:Nat} {s:Bool} {x k:Nat} {e:Int} (h:0≤e+K):vz K s (x*2^k) e=vz K s x (e+k):=by
 unfold vz;rw[zI1,Int.mul_assoc,show(e+(k:Int)+K).toNat=k+(e+K).toNat by omega,xH0,xH5]
def cn (s:Bool) (z:Nat) (e:Int):Bool×Nat×Int:=if z=0 then(false,0,0) else(s,z / 2^tz z,e+tz z)
theorem yH9 {K:Nat} {s:Bool} {z:Nat} {e:Int} (h:0≤e+K):vz K (cn s z e).1 (cn s z e).2.1 (cn s z e).2.2=vz K s z e:=by
 unfold cn;by_cases h0:z=0
 ·subst h0;rw[if_pos rfl,qP9,qP9]
 ·rw[if_neg h0];have h1:=(qX9 z z (xV8 _) h0).1;show vz K s (z / 2^tz z) (e+tz z)=_
  rw[←qN9 h,xH1,h1]
theorem zH7 {x x' a b:Nat} (hx:x % 2=1) (hx':x' % 2=1) (h:x*2^a=x'*2^b):x=x'∧a=b:=by
 have key:∀ {x x' a b:Nat},x % 2=1→a≤b→x*2^a=x'*2^b→x=x'∧a=b:=by
  intro x x' a b hx hab h;obtain⟨d,rfl⟩:∃ d,b=a+d:=⟨b - a,by omega⟩
  have h1:x=x'*2^d:=by
   have:x*2^a=(x'*2^d)*2^a:=by rw[h,xH0];grind
   exact Nat.eq_of_mul_eq_mul_right (xU2 a) this
  cases d with
  | zero=>simp at h1;exact⟨h1,rfl⟩
  | succ d =>
   exfalso;rw[xH2,←xH3] at h1;omega
 rcases Nat.le_total a b with h1|h1
 ·exact key hx h1 h
 ·have:=key hx' h1 h.symm
  exact⟨this.1.symm,this.2.symm⟩
theorem cn_eq {K:Nat} {s s':Bool} {z z':Nat} {e e':Int} (h1:0≤e+K) (h2:0≤e'+K) (h:vz K s z e=vz K s' z' e'):cn s z e=cn s' z' e':=by
 by_cases h0:z=0
 ·subst h0;rw[qP9] at h;obtain rfl:=qD0.1 h.symm;simp[cn]
 ·have h0':z'≠0:=fun e0=>by subst e0;rw[qP9] at h;exact h0 (qD0.1 h)
  have v1:=yH9 (s:=s) (z:=z) h1;have v2:=yH9 (s:=s') (z:=z') h2;rw[←v1,←v2] at h;unfold cn at h ⊢;rw[if_neg h0,if_neg h0'] at h ⊢;have o1:=(qX9 z z (xV8 _) h0).2;have o2:=(qX9 z' z' (xV8 _) h0').2;generalize z / 2^tz z=x at *;generalize z' / 2^tz z'=x' at *;simp only at h
  have hp:0≤e+tz z+(K:Int):=by omega
  have hp':0≤e'+tz z'+(K:Int):=by omega
  generalize e+(tz z:Int)=f at *;generalize e'+(tz z':Int)=f' at *;unfold vz sv at h;have e1:=zZ1 (f+K).toNat;have e2:=zZ1 (f'+K).toNat;have hb:s=s'∧x*2^(f+K).toNat=x'*2^(f'+K).toNat:=by
   have p1:(0:Int)<(x:Int)*((2^(f+K).toNat:Nat):Int):=Int.mul_pos (by omega) e1
   have p2:(0:Int)<(x':Int)*((2^(f'+K).toNat:Nat):Int):=Int.mul_pos (by omega) e2
   have c1:((x*2^(f+K).toNat:Nat):Int)=(x:Int)*((2^(f+K).toNat:Nat):Int):=xH5 ..;have c2:((x'*2^(f'+K).toNat:Nat):Int)=(x':Int)*((2^(f'+K).toNat:Nat):Int):=xH5 ..;generalize (x:Int)*((2^(f+K).toNat:Nat):Int)=A at *;generalize (x':Int)*((2^(f'+K).toNat:Nat):Int)=A' at *;have n1 : -(x:Int)*((2^(f+K).toNat:Nat):Int) = -((x:Int)*((2^(f+K).toNat:Nat):Int)):=Int.neg_mul ..;have n2 : -(x':Int)*((2^(f'+K).toNat:Nat):Int) = -((x':Int)*((2^(f'+K).toNat:Nat):Int)):=Int.neg_mul ..;cases s <;> cases s' <;> simp only[if_true,if_false,Bool.false_eq_true,Int.neg_mul] at h
   ·exact⟨rfl,by omega⟩
   ·exfalso;omega
   ·exfalso;omega
   ·exact⟨rfl,by omega⟩
  obtain⟨rfl,hb⟩:=hb;obtain⟨rfl,hab⟩:=zH7 o1 o2 hb;rw[show f=f' by omega]
theorem yH8 {K:Nat} {na nb:Bool} {x y:Nat} {ea eb:Int} (h1:0≤ea+K) (h2:0≤eb+K) :
  vz K (sumN na x ea nb y eb).1 (sumN na x ea nb y eb).2.1 (sumN na x ea nb y eb).2.2=vz K na x ea+vz K nb y eb:=by
 unfold sumN;by_cases x0:x=0
 ·subst x0;rw[if_pos rfl,qP9,Int.zero_add]
 ·rw[if_neg x0];by_cases y0:y=0
  ·subst y0;rw[if_pos rfl,qP9,Int.add_zero]
  ·rw[if_neg y0];have hm:0≤min ea eb+(K:Int):=by omega
   have e1:vz K na x ea=vz K na (x*2^(ea - min ea eb).toNat) (min ea eb):=by
    rw[qN9 hm,show min ea eb+((ea - min ea eb).toNat:Int)=ea by omega]
   have e2:vz K nb y eb=vz K nb (y*2^(eb - min ea eb).toNat) (min ea eb):=by
    rw[qN9 hm,show min ea eb+((eb - min ea eb).toNat:Int)=eb by omega]
   rw[e1,e2];generalize x*2^(ea - min ea eb).toNat=X at *;generalize y*2^(eb - min ea eb).toNat=Y at *;unfold vz;rw[←Int.add_mul];by_cases hs:na=nb
   ·subst hs;rw[if_pos rfl];congr 1
    cases na <;> simp[sv]
    omega
   ·rw[if_neg hs];by_cases hlt:X<Y
    ·rw[if_pos hlt];congr 1
     cases na <;> cases nb <;> simp[sv] at hs ⊢ <;> omega
    ·rw[if_neg hlt];congr 1
     cases na <;> cases nb <;> simp[sv] at hs ⊢ <;> omega
theorem yL2 {K L:Nat} {na nb:Bool} {x y:Nat} {ea eb:Int} (h1:0≤ea+K) (h2:0≤eb+L) :
  vz (K+L) (!(na==nb)) (x*y) (ea+eb)=vz K na x ea*vz L nb y eb:=by
 unfold vz;rw[yW3,show(ea+eb+((K+L:Nat):Int)).toNat=(ea+K).toNat+(eb+L).toNat by omega,xH0,xH5]
 grind
def Fits (lo hi:Int) (x:Nat) (e:Int):Prop:=x=0∨(lo≤e∧e≤hi∧x<2^(hi - e).toNat)
theorem Fits.cn {lo hi:Int} {s:Bool} {z:Nat} {e:Int} (h:Fits lo hi z e):Fits lo hi (cn s z e).2.1 (cn s z e).2.2:=by
 rcases h with rfl|⟨h1,h2,h3⟩
 ·left;simp[YtkcmhaknalomjaaGreatDoor.cn]
 ·unfold YtkcmhaknalomjaaGreatDoor.cn;by_cases h0:z=0
  ·subst h0;left;simp
  ·rw[if_neg h0];right
   have hs:=(qX9 z z (xV8 _) h0).1;have ho:=(qX9 z z (xV8 _) h0).2;have hq:1≤z / 2^tz z:=xU9 fun e0=>by rw[e0] at ho;simp at ho
   have ht:tz z<(hi - e).toNat:=by
    refine Nat.lt_of_not_le fun h=>?_;have h4:=xU3 (n:=2) (by omega) h
    have h5:=xG (2^tz z) hq;omega
   refine⟨by show lo≤e+(tz z:Int);omega,by show e+(tz z:Int)≤hi;omega,?_⟩
   show z / 2^tz z<2^(hi - (e+(tz z:Int))).toNat
   refine(xF2 (xU2 _)).2 ?_
   rw[←xH0,show(hi - (e+(tz z:Int))).toNat+tz z=(hi - e).toNat by omega]
   exact h3
theorem Fits.dlen {lo hi:Int} {x:Nat} {e:Int} (h:Fits lo hi x e) (hb:hi - lo≤65536):dlen x≤2048:=by
 rcases h with rfl|⟨h1,h2,h3⟩
 ·rw[qQ4];omega
 ·refine(qZ0 _ _).2 (xU5 h3 ?_)
  have hB:∀ n,B^n=2^(32*n):=fun n=>by
   have:(B:Nat)=2^32:=by decide
   rw[this,←Nat.pow_mul]
  have hn:(hi - e).toNat≤32*2048:=by omega
  generalize 2048=n at *;rw[hB];exact xU3 (by omega) hn
theorem Fits.ok {lo hi:Int} {s:Bool} {z:Nat} {e:Int} (h:Fits lo hi z e) (hb:hi - lo≤65536) (h1 : -65536≤lo) (h2:hi≤65536):okR s z e=true:=by
 unfold okR;by_cases h0:z=0
 ·rw[if_pos h0]
 ·rw[if_neg h0];have hc:=h.cn (s:=s);have hd:=hc.dlen hb;unfold YtkcmhaknalomjaaGreatDoor.cn at hc hd;rw[if_neg h0] at hc hd;have ho:=(qX9 z z (xV8 _) h0).2;simp only at hc hd
  generalize z / 2^tz z=x at *;have hx0:x≠0:=by omega
  obtain⟨c1,c2,c3⟩:=hc.resolve_left hx0;unfold okN;rw[if_neg (fun e=>hx0 (qQ7.1 e))];have e0:dg x 0 % 2=1:=by
   unfold dg;rw[xH4,Nat.div_one];unfold B;omega
  have e1:=zU6 hx0;simp only[xG7,decide_eq_true_eq,bne_iff_ne,ne_eq,beq_iff_eq];exact⟨⟨⟨⟨hd,e1⟩,e0⟩,by omega⟩,by omega⟩
def PN (w:World) (A:Value) (t:Bool×Nat×Int):Prop:=∃ ao cap,A=.agg #[.bool t.1,.slice ao (dlen t.2.1) cap,.int .i64 t.2.2]∧Is w (.slice ao (dlen t.2.1) cap) t.2.1
def Ok (t:Bool×Nat×Int):Prop:=okN t.1 (dlen t.2.1) t.2.1 t.2.2=true
theorem PN.later {w w':World} {A:Value} {t:Bool×Nat×Int} (h:PN w A t) (hb:Bw w w'):PN w' A t:=by
 obtain⟨ao,cap,h1,h2⟩:=h;exact⟨ao,cap,h1,h2.later hb⟩
theorem PN.shape {w:World} {A:Value} {t:Bool×Nat×Int} (h:PN w A t):∃ s ao n cap e,A=.agg #[.bool s,.slice ao n cap,.int .i64 e]:=by
 obtain⟨ao,cap,h1,-⟩:=h;exact⟨_,_,_,_,_,h1⟩
theorem Nrm.pn {w:World} {base:Nat} {A:Value} {s:Bool} {z:Nat} {e:Int} (h:Nrm w base A s z e):PN w A (cn s z e):=by
 unfold cn;rcases h with ⟨rfl,rfl⟩|⟨h0,v,rfl,ho⟩
 ·rw[if_pos rfl];exact⟨none,0,by rw[qQ4];rfl,by rw[qQ4];exact zR8 w⟩
 ·rw[if_neg h0];obtain⟨ao,cap,rfl,h1,h2,h3⟩:=ho.is;exact⟨ao,cap,rfl,ao,cap,rfl,h1,h2,h3⟩
theorem ok_cn {s:Bool} {z:Nat} {e:Int} (h:okR s z e=true):Ok (cn s z e):=by
 unfold Ok cn;unfold okR at h;by_cases h0:z=0
 ·rw[if_pos h0,qQ4];rfl
 ·rw[if_neg h0] at h ⊢; exact h
theorem Ok.facts {t:Bool×Nat×Int} (h:Ok t):dlen t.2.1≤2048 ∧ -65536≤t.2.2∧t.2.2≤65536∧(t.2.1=0→t=(false,0,0))∧(t.2.1≠0→t.2.1 % 2=1):=by
 obtain⟨s,x,e⟩:=t;unfold Ok okN at h;simp only at h ⊢
 by_cases h0:x=0
 ·subst h0;rw[qQ4,if_pos rfl] at h;simp at h
  obtain⟨rfl,rfl⟩:=h;rw[qQ4];exact⟨by omega,by omega,by omega,fun _=>rfl,fun h=>absurd rfl h⟩
 ·rw[if_neg (fun e=>h0 (qQ7.1 e))] at h;simp only[xG7,decide_eq_true_eq,bne_iff_ne,ne_eq,beq_iff_eq] at h;obtain⟨⟨⟨⟨h1,h2⟩,h3⟩,h4⟩,h5⟩:=h;refine⟨h1,h4,h5,fun h=>absurd h h0,fun _=>?_⟩
  unfold dg at h3;rw[xH4,Nat.div_one] at h3;unfold B at h3;omega
def Op2 (f:FuncId) (t1 t2 t3:Bool×Nat×Int):Prop:=∀ W X Y,Tab32 W→PN W X t1→PN W Y t2→Calls Tryz.prog f #[X,Y] W fun r w'=>∃ s ao n cap e,r=.returned (.tuple #[.agg #[.bool s,.slice ao n cap,.int .i64 e],.int .i64 0])∧PN w' (.agg #[.bool s,.slice ao n cap,.int .i64 e]) t3∧Bw W w'
theorem zX6 {w:World} {s:Bool} {z:Nat} {e:Int} {r:Ending} {w':World} (h:Held w s z e r w') (hok:okR s z e=true) :
  ∃ s' ao n cap e',r=.returned (.tuple #[.agg #[.bool s',.slice ao n cap,.int .i64 e'],.int .i64 0])∧PN w' (.agg #[.bool s',.slice ao n cap,.int .i64 e']) (cn s z e)∧Bw w w':=by
 obtain⟨A,rfl,hN,hb⟩:=h;rw[hok];have hp:=hN.pn;obtain⟨s',ao,n,cap,e',rfl⟩:=hp.shape;exact⟨s',ao,n,cap,e',rfl,hp,hb⟩
theorem xJ7 {t1 t2:Bool×Nat×Int} (h1:Ok t1) (h2:Ok t2) (hok:okR (sumN t1.1 t1.2.1 t1.2.2 t2.1 t2.2.1 t2.2.2).1 (sumN t1.1 t1.2.1 t1.2.2 t2.1 t2.2.1 t2.2.2).2.1 (sumN t1.1 t1.2.1 t1.2.2 t2.1 t2.2.1 t2.2.2).2.2=true) :
  Op2 174 t1 t2 (cn (sumN t1.1 t1.2.1 t1.2.2 t2.1 t2.2.1 t2.2.2).1 (sumN t1.1 t1.2.1 t1.2.2 t2.1 t2.2.1 t2.2.2).2.1 (sumN t1.1 t1.2.1 t1.2.2 t2.1 t2.2.1 t2.2.2).2.2):=by
 intro W X Y hT hX hY;obtain⟨ua,uc,rfl,i1⟩:=hX;obtain⟨va,vc,rfl,i2⟩:=hY;obtain⟨a1,a2,a3,-,-⟩:=h1.facts;obtain⟨b1,b2,b3,-,-⟩:=h2.facts;have hl:=qI9 t1.1 t1.2.1 t1.2.2 t2.1 t2.2.1 t2.2.2 (by omega) (by omega) (by omega) (by omega)
 refine(c34_1 t1.1 t2.1 ua va _ uc _ vc t1.2.1 t2.2.1 _ t1.2.2 t2.2.2 _ _ W (by omega) (fun W' g hW hg=>?_) (fun W' hW=>c87 (i1.later hW) (i2.later hW) (by omega) (by omega) (by omega) (by omega) (hT.later hW))).mono fun r w' h=>zX6 h hok
 have:=qL6 hg (i1.later hW) (i2.later hW) (by omega) (by omega)
 unfold Ok at h1 h2;rw[h1,h2] at this;exact this
theorem yW4 {t1 t2:Bool×Nat×Int} (h1:Ok t1) (h2:Ok t2) (hok:okR (sumN t1.1 t1.2.1 t1.2.2 (!t2.1&&decide (0<dlen t2.2.1)) t2.2.1 t2.2.2).1 (sumN t1.1 t1.2.1 t1.2.2 (!t2.1&&decide (0<dlen t2.2.1)) t2.2.1 t2.2.2).2.1 (sumN t1.1 t1.2.1 t1.2.2 (!t2.1&&decide (0<dlen t2.2.1)) t2.2.1 t2.2.2).2.2=true) :
  Op2 169 t1 t2 (cn (sumN t1.1 t1.2.1 t1.2.2 (!t2.1&&decide (0<dlen t2.2.1)) t2.2.1 t2.2.2).1 (sumN t1.1 t1.2.1 t1.2.2 (!t2.1&&decide (0<dlen t2.2.1)) t2.2.1 t2.2.2).2.1 (sumN t1.1 t1.2.1 t1.2.2 (!t2.1&&decide (0<dlen t2.2.1)) t2.2.1 t2.2.2).2.2):=by
 intro W X Y hT hX hY;obtain⟨ua,uc,rfl,i1⟩:=hX;obtain⟨va,vc,rfl,i2⟩:=hY;obtain⟨a1,a2,a3,-,-⟩:=h1.facts;obtain⟨b1,b2,b3,-,-⟩:=h2.facts;exact(yW5 i1 i2 (by omega) (by omega) (by omega) (by omega) h1 h2 hT).mono fun r w' h=>zX6 h hok
theorem yI9 {t1 t2:Bool×Nat×Int} (h1:Ok t1) (h2:Ok t2) (hok:okR (!(t1.1==t2.1)) (t1.2.1*t2.2.1) (t1.2.2+t2.2.2)=true) :
  Op2 145 t1 t2 (cn (!(t1.1==t2.1)) (t1.2.1*t2.2.1) (t1.2.2+t2.2.2)):=by
 intro W X Y hT hX hY;obtain⟨ua,uc,rfl,i1⟩:=hX;obtain⟨va,vc,rfl,i2⟩:=hY;obtain⟨a1,a2,a3,-,-⟩:=h1.facts;obtain⟨b1,b2,b3,-,-⟩:=h2.facts;exact(yO i1 i2 (by omega) (by omega) (by omega) (by omega) h1 h2 hT).mono fun r w' h=>zX6 h hok
end Go.Proofs.YtkcmhaknalomjaaGreatDoor
namespace Go.Proofs.YtkcmhaknalomjaaGreatDoor
open Go.RowKit Go.Fl64
theorem yT {x:Nat} (h:x≠0):bl x=bl (x / 2)+1:=by
 have h1:=qD7 (x / 2);apply xJ2
 ·rw[xH2];omega
 ·refine .inr ?_;rw[xF1];by_cases h2:x / 2=0
  ·rw[h2];have:bl 0=0:=by unfold bl;simp
   rw[this];omega
  ·have h3:=zR7 h2;have h4:bl (x / 2)≠0:=by unfold bl;rw[if_neg h2];omega
   obtain⟨k,hk⟩:∃ k,bl (x / 2)=k+1:=⟨bl (x / 2) - 1,by omega⟩
   rw[hk] at h3 ⊢;rw[xF1] at h3;rw[xH2];omega
theorem r42 (b o n cap x:Nat) (w:World) (hn0:0<n) (hn:n≤1000000000) (hx:dlen x=n) (hcell:∀ i,i<n→w.cell? ⟨b,o+i,none⟩=some (.int .u32 (dg x i:Nat))) :
  Calls Tryz.prog 119 #[.slice (some ⟨b,o,none⟩) n cap] w fun e w'=>e=.returned (.int .i64 (bl x:Nat))∧w'=w:=by
 have hx0:x≠0:=by intro e;subst e;rw[qQ4] at hx;omega
 have hbt:=qW6 hx0;have hlt:=qZ6 x (n - 1);have g:=hcell (n - 1) (by omega)
 rw[hx] at hbt;obtain⟨k,rfl⟩:∃ k,n=k+1:=⟨n - 1,by omega⟩
 rw[xF1] at hbt hlt g;generalize hd:dg x k=d at *;have HB:Hid (bl x=32*k+bl d∧d<4294967296):=⟨hbt,hlt⟩;have hn0':(((k+1:Nat):Int)==0)=false:=by simp;omega
 clear hcell hbt hlt hx hx0 hd
 go_enter Tryz.func119,Tryz.ntmps119
 go_wp2
 go_loop [3,4] (fun c t=>∃ (j u:Nat),c=.int .i64 (32*(k:Int)+j)∧t=.int .u32 (u:Int)∧Hid (bl d=j+bl u∧u<4294967296)∧j≤32) (fun _ t=>(intOf t).toNat)
 case atStart=>exact⟨0,d,by simp,rfl,⟨by omega,HB.out.2⟩,by omega⟩
 case round =>
  obtain⟨j,u,rfl,rfl,HU,hj⟩:=hrel;by_cases hu:u=0
  ·subst hu;have e:bl x=32*k+j:=by
    have h1:=HU.out.1;have:bl 0=0:=by unfold bl;simp
    rw[this] at h1;have:=HB.out.1
    omega
   have HE:Hid (((bl x:Nat):Int)=32*(k:Int)+j):=(by rw[e];simp:((bl x:Nat):Int)=32*(k:Int)+j)
   clear e
   go_wp2
   go_ret;rw[HE.out];exact⟨rfl,rfl⟩
  ·have hu0:0<(u:Int):=by omega
   have hb:=yT hu;have hj':j+1≤32:=by
    have h1:=HU.out.1;have:=qN3 (x:=d) HB.out.2
    omega
   have HN:Hid (bl d=(j+1)+bl (u / 2)∧u / 2<4294967296):=⟨by have:=HU.out.1;omega,by have:=HU.out.2;omega⟩
   clear hb
   go_wp2;exact⟨⟨j+1,u / 2,by congr 1,by simp,HN,hj'⟩,by simp[intOf];omega⟩
end Go.Proofs.YtkcmhaknalomjaaGreatDoor
namespace Go.Proofs.YtkcmhaknalomjaaGreatDoor
open Go.ChangeShapes Go.WideShapes Go.ChangeAt Go.RowKit Go.Joins
end Go.Proofs.YtkcmhaknalomjaaGreatDoor
