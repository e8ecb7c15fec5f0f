/- Own work: contracts of the program's functions, part 10: SA8 SA9 UA1 UA2 UA3 UA4 UA5 UA6 UA7 ShelfD RE1 RE3 RE4 DL1 DE1 FR1 FR2 FR3 FR4 DL5. -/
import Derived.Test.YtfkaogdmlcdceaaGreatDoorA6
import Derived.Test.YtfkaogdmlcdceaaGreatDoorA9
import Derived.Test.YtfkaogdmlcdceaaGreatDoorA7
import Derived.RangeFuncNested
import Derived.RangeFuncBound
import Derived.RangeFuncCalls
import Derived.RangeFuncLeaves
import Derived.Test.YtfkaogdmlcdceaaGreatDoorA2
import Derived.Shelf.Abstract
import Derived.Shelf.RegionOpen
import Derived.WalkKit
import Derived.OwnWalkIn
import Derived.TacticsInMore
import Derived.LoopNIn
import Derived.LoopIn
import Derived.Shelf.Strings.Builder1
import Derived.Shelf.Strings.Builder2
import Derived.Shelf.Strings.Trim
import Derived.Shelf.Small.Utf8
import Derived.Shelf.Small.Strs
import Derived.Shelf.Strings.Search1
import Derived.Shelf.Strings.Search2
import Derived.Shelf.Strings.Prefix
import Derived.Shelf.Strings.Runes
import Derived.Shelf.Strings.IndexAny
import Derived.Shelf.Strings.AsciiSet
import Derived.Shelf.Strings.IndexAnyAll
import Derived.Shelf.Strings.Repeat
import Derived.Test.YtfkaogdmlcdceaaGreatDoorProg
import Derived.Test.YtfkaogdmlcdceaaGreatDoorA8
import Derived.Test.YtfkaogdmlcdceaaGreatDoorA1
import Derived.Test.YtfkaogdmlcdceaaGreatDoorA4

set_option maxHeartbeats 16000000
set_option maxRecDepth 200000
set_option linter.unusedVariables false
set_option linter.unusedSimpArgs false
namespace Go.Proofs.YtfkaogdmlcdceaaGreatDoor
open Go.RowKit Go.Fl64
attribute [local go_sem] iV Nu
theorem yT7 (a m:Nat) (H:a<18446744073709551616) (V:mag a<9218868437227405312) (J:Ie.sM a=(m:Int)):cn (neg a) m (Ie.sE a)=tF a:=by
 unfold tF cn;rcases yP8 a m H V J with ⟨Y,u⟩|⟨Y,u,-,D,F⟩
 ·rw[kU6 Y,kU6 u]
 ·rw[kU5 Y,kU5 u,D,F]
theorem psign {t:Bool×Nat×Int} {A:Value} {w:World} (u:Ok t) (h:PN w A t):Ca 89 #[A] w (Rq w (iV (sgI t.1 (dlen t.2.1)))):=by
 obtain⟨ao,cap,rfl,Y⟩:=h;obtain⟨J,-,-,-,-⟩:=u.facts;exact xX5 Y ω u
end Go.Proofs.YtfkaogdmlcdceaaGreatDoor
namespace Go.Proofs.YtfkaogdmlcdceaaGreatDoor
open Go Go.RowKit
attribute [local go_sem] iV Nu
end Go.Proofs.YtfkaogdmlcdceaaGreatDoor
namespace Go.Proofs.YtfkaogdmlcdceaaGreatDoor
open Go.RowKit Go.Fl64
attribute [local go_sem] iV Nu
end Go.Proofs.YtfkaogdmlcdceaaGreatDoor
namespace Go.Proofs.YtfkaogdmlcdceaaGreatDoor
open Go Go.RowKit Go.Fl64 Go.Shelf
attribute [local go_sem] iV Nu
attribute [local go_sem] Oper.semAt_some
attribute [local go_sem] Oper.semAt_some
end Go.Proofs.YtfkaogdmlcdceaaGreatDoor
namespace Go.Proofs.YtfkaogdmlcdceaaGreatDoor
open Go.RowKit Go.Fl64
attribute [local go_sem] iV Nu
end Go.Proofs.YtfkaogdmlcdceaaGreatDoor
/- The library's contracts at this program that decim uses. -/
namespace Go.Proofs
open Go.Shelf
def Tryz.lays161_ren:Go.Shelf.Ren:=⟨fun|161=>95|231=>163|227=>142|233=>164|235=>165|228=>173|197=>222|151=>206|260=>259|152=>171|137=>228|119=>229|224=>230|225=>231|217=>264|266=>279|n=>n,fun|9=>9|4=>4|3=>3|5=>5|117=>159|116=>158|0=>0|124=>162|105=>205|21=>21|119=>251|46=>130|139=>254|138=>253|n=>n,fun|3=>5|4=>6|n=>n⟩
theorem Tryz.lays161:Go.Proofs.Lays.n161 Tryz.prog Tryz.lays161_ren:={
 mixed:=by kernel_rfl
 f119:=Tryz.func229.trans (congrArg some (by kernel_rfl))
 f137:=Tryz.func228.trans (congrArg some (by kernel_rfl))
 f151:=Tryz.func206.trans (congrArg some (by kernel_rfl))
 f152:=Tryz.func171.trans (congrArg some (by kernel_rfl))
 f161:=Tryz.func95.trans (congrArg some (by kernel_rfl))
 f197:=Tryz.func222.trans (congrArg some (by kernel_rfl))
 f217:=Tryz.func264.trans (congrArg some (by kernel_rfl))
 f224:=Tryz.func230.trans (congrArg some (by kernel_rfl))
 f225:=Tryz.func231.trans (congrArg some (by kernel_rfl))
 f227:=Tryz.func142.trans (congrArg some (by kernel_rfl))
 f228:=Tryz.func173.trans (congrArg some (by kernel_rfl))
 f231:=Tryz.func163.trans (congrArg some (by kernel_rfl))
 f233:=Tryz.func164.trans (congrArg some (by kernel_rfl))
 f235:=Tryz.func165.trans (congrArg some (by kernel_rfl))
 f260:=Tryz.func259.trans (congrArg some (by kernel_rfl))
 f266:=Tryz.func279.trans (congrArg some (by kernel_rfl))
 t0:=Tryz.underlying0
 a0:=Tryz.isAgg0
 z0:=Tryz.sizeOf0
 v0:=Tryz.zeroValue0
 t3:=Tryz.underlying3
 a3:=Tryz.isAgg3
 z3:=Tryz.sizeOf3
 v3:=Tryz.zeroValue3
 t4:=Tryz.underlying4
 a4:=Tryz.isAgg4
 z4:=Tryz.sizeOf4
 v4:=Tryz.zeroValue4
 t5:=Tryz.underlying5
 a5:=Tryz.isAgg5
 z5:=Tryz.sizeOf5
 v5:=Tryz.zeroValue5
 t9:=Tryz.underlying9
 a9:=Tryz.isAgg9
 z9:=Tryz.sizeOf9
 v9:=Tryz.zeroValue9
 t21:=Tryz.underlying21
 a21:=Tryz.isAgg21
 z21:=Tryz.sizeOf21
 v21:=Tryz.zeroValue21
 t46:=Tryz.underlying130
 a46:=Tryz.isAgg130
 z46:=Tryz.sizeOf130
 v46:=Tryz.zeroValue130
 t105:=Tryz.underlying205
 a105:=Tryz.isAgg205
 z105:=Tryz.sizeOf205
 v105:=Tryz.zeroValue205
 t116:=Tryz.underlying158
 a116:=Tryz.isAgg158
 z116:=Tryz.sizeOf158
 t117:=Tryz.underlying159
 a117:=Tryz.isAgg159
 z117:=Tryz.sizeOf159
 v117:=Tryz.zeroValue159
 t119:=Tryz.underlying251
 a119:=Tryz.isAgg251
 z119:=Tryz.sizeOf251
 t124:=Tryz.underlying162
 a124:=Tryz.isAgg162
 z124:=Tryz.sizeOf162
 v124:=Tryz.zeroValue162
 t138:=Tryz.underlying253
 a138:=Tryz.isAgg253
 z138:=Tryz.sizeOf253
 v138:=Tryz.zeroValue253
 t139:=Tryz.underlying254
 a139:=Tryz.isAgg254
 z139:=Tryz.sizeOf254
 v139:=Tryz.zeroValue254
 g3:=by kernel_rfl
 g4:=by kernel_rfl }
open Go.RowKit in
theorem Tryz.strings_TrimLeft_one (s:ByteArray) (c:UInt8) (hc:c.toNat<128) (w:World) :
  Calls Tryz.prog 95 #[.string s,.string ⟨#[c]⟩] w fun e w'=>e=.returned (.string ⟨(Lib.trimLeftB s.data.toList c).toArray⟩)∧w'=w:=Any.strings_TrimLeft_one Tryz.lays161 s c hc w
def Tryz.lays162_ren:Go.Shelf.Ren:=⟨fun|162=>78|232=>141|227=>142|234=>143|236=>144|228=>173|271=>205|151=>206|120=>250|197=>222|152=>171|260=>259|137=>228|119=>229|224=>230|225=>231|217=>264|266=>279|n=>n,fun|9=>9|4=>4|3=>3|5=>5|117=>159|116=>158|0=>0|124=>162|21=>21|105=>205|46=>130|119=>251|139=>254|138=>253|n=>n,fun|3=>5|4=>6|n=>n⟩
theorem Tryz.lays162:Go.Proofs.Lays.n162 Tryz.prog Tryz.lays162_ren:={
 mixed:=by kernel_rfl
 f119:=Tryz.func229.trans (congrArg some (by kernel_rfl))
 f120:=Tryz.func250.trans (congrArg some (by kernel_rfl))
 f137:=Tryz.func228.trans (congrArg some (by kernel_rfl))
 f151:=Tryz.func206.trans (congrArg some (by kernel_rfl))
 f152:=Tryz.func171.trans (congrArg some (by kernel_rfl))
 f162:=Tryz.func78.trans (congrArg some (by kernel_rfl))
 f197:=Tryz.func222.trans (congrArg some (by kernel_rfl))
 f217:=Tryz.func264.trans (congrArg some (by kernel_rfl))
 f224:=Tryz.func230.trans (congrArg some (by kernel_rfl))
 f225:=Tryz.func231.trans (congrArg some (by kernel_rfl))
 f227:=Tryz.func142.trans (congrArg some (by kernel_rfl))
 f228:=Tryz.func173.trans (congrArg some (by kernel_rfl))
 f232:=Tryz.func141.trans (congrArg some (by kernel_rfl))
 f234:=Tryz.func143.trans (congrArg some (by kernel_rfl))
 f236:=Tryz.func144.trans (congrArg some (by kernel_rfl))
 f260:=Tryz.func259.trans (congrArg some (by kernel_rfl))
 f266:=Tryz.func279.trans (congrArg some (by kernel_rfl))
 f271:=Tryz.func205.trans (congrArg some (by kernel_rfl))
 t0:=Tryz.underlying0
 a0:=Tryz.isAgg0
 z0:=Tryz.sizeOf0
 v0:=Tryz.zeroValue0
 t3:=Tryz.underlying3
 a3:=Tryz.isAgg3
 z3:=Tryz.sizeOf3
 v3:=Tryz.zeroValue3
 t4:=Tryz.underlying4
 a4:=Tryz.isAgg4
 z4:=Tryz.sizeOf4
 v4:=Tryz.zeroValue4
 t5:=Tryz.underlying5
 a5:=Tryz.isAgg5
 z5:=Tryz.sizeOf5
 v5:=Tryz.zeroValue5
 t9:=Tryz.underlying9
 a9:=Tryz.isAgg9
 z9:=Tryz.sizeOf9
 v9:=Tryz.zeroValue9
 t21:=Tryz.underlying21
 a21:=Tryz.isAgg21
 z21:=Tryz.sizeOf21
 v21:=Tryz.zeroValue21
 t46:=Tryz.underlying130
 a46:=Tryz.isAgg130
 z46:=Tryz.sizeOf130
 v46:=Tryz.zeroValue130
 t105:=Tryz.underlying205
 a105:=Tryz.isAgg205
 z105:=Tryz.sizeOf205
 v105:=Tryz.zeroValue205
 t116:=Tryz.underlying158
 a116:=Tryz.isAgg158
 z116:=Tryz.sizeOf158
 t117:=Tryz.underlying159
 a117:=Tryz.isAgg159
 z117:=Tryz.sizeOf159
 v117:=Tryz.zeroValue159
 t119:=Tryz.underlying251
 a119:=Tryz.isAgg251
 z119:=Tryz.sizeOf251
 t124:=Tryz.underlying162
 a124:=Tryz.isAgg162
 z124:=Tryz.sizeOf162
 v124:=Tryz.zeroValue162
 t138:=Tryz.underlying253
 a138:=Tryz.isAgg253
 z138:=Tryz.sizeOf253
 v138:=Tryz.zeroValue253
 t139:=Tryz.underlying254
 a139:=Tryz.isAgg254
 z139:=Tryz.sizeOf254
 v139:=Tryz.zeroValue254
 g3:=by kernel_rfl
 g4:=by kernel_rfl }
open Go.RowKit in
theorem Tryz.strings_TrimRight_one (s:ByteArray) (c:UInt8) (hc:c.toNat<128) (w:World) (hs:s.size≤9223372036854775807) :
  Calls Tryz.prog 78 #[.string s,.string ⟨#[c]⟩] w fun e w'=>e=.returned (.string ⟨(Lib.trimRightB s.data.toList c).toArray⟩)∧w'=w:=Any.strings_TrimRight_one Tryz.lays162 s c hc w hs
def Tryz.lays119_ren:Go.Shelf.Ren:=⟨fun|119=>229|n=>n,fun|21=>21|4=>4|n=>n,fun|n=>n⟩
theorem Tryz.lays119:Go.Proofs.Lays.n119 Tryz.prog Tryz.lays119_ren:={
 mixed:=by kernel_rfl
 f119:=Tryz.func229.trans (congrArg some (by kernel_rfl))
 t4:=Tryz.underlying4
 a4:=Tryz.isAgg4
 z4:=Tryz.sizeOf4
 v4:=Tryz.zeroValue4
 t21:=Tryz.underlying21
 a21:=Tryz.isAgg21
 z21:=Tryz.sizeOf21
 v21:=Tryz.zeroValue21 }
theorem Tryz.utf8_ValidRune (r:Int) (w:World) :
  Calls Tryz.prog 229 #[.int .i32 r] w fun e w'=>e=.returned (.bool (Lib.validRune r))∧w'=w:=Any.utf8_ValidRune Tryz.lays119 r w
def Tryz.lays137_ren:Go.Shelf.Ren:=⟨fun|137=>228|217=>264|266=>279|n=>n,fun|9=>9|5=>5|3=>3|n=>n,fun|n=>n⟩
theorem Tryz.lays137:Go.Proofs.Lays.n137 Tryz.prog Tryz.lays137_ren:={
 mixed:=by kernel_rfl
 f137:=Tryz.func228.trans (congrArg some (by kernel_rfl))
 f217:=Tryz.func264.trans (congrArg some (by kernel_rfl))
 f266:=Tryz.func279.trans (congrArg some (by kernel_rfl))
 t3:=Tryz.underlying3
 a3:=Tryz.isAgg3
 z3:=Tryz.sizeOf3
 v3:=Tryz.zeroValue3
 t5:=Tryz.underlying5
 a5:=Tryz.isAgg5
 z5:=Tryz.sizeOf5
 v5:=Tryz.zeroValue5
 t9:=Tryz.underlying9
 a9:=Tryz.isAgg9
 z9:=Tryz.sizeOf9
 v9:=Tryz.zeroValue9 }
open Go.RowKit in
theorem Tryz.strings_IndexByte (s:ByteArray) (c:Int) (w:World) :
  Calls Tryz.prog 228 #[.string s,.int .u8 c] w fun e w'=>e=.returned (.int .i64 (Lib.indexByte s.data.toList c.toNat.toUInt8))∧w'=w:=Any.strings_IndexByte Tryz.lays137 s c w
def Tryz.lays219_ren:Go.Shelf.Ren:=⟨fun|219=>232|217=>264|225=>231|224=>230|267=>265|266=>279|314=>280|n=>n,fun|9=>9|3=>3|4=>4|5=>5|46=>130|146=>224|51=>96|n=>n,fun|1=>3|n=>n⟩
theorem Tryz.lays219:Go.Proofs.Lays.n219 Tryz.prog Tryz.lays219_ren:={
 mixed:=by kernel_rfl
 f217:=Tryz.func264.trans (congrArg some (by kernel_rfl))
 f219:=Tryz.func232.trans (congrArg some (by kernel_rfl))
 f224:=Tryz.func230.trans (congrArg some (by kernel_rfl))
 f225:=Tryz.func231.trans (congrArg some (by kernel_rfl))
 f266:=Tryz.func279.trans (congrArg some (by kernel_rfl))
 f267:=Tryz.func265.trans (congrArg some (by kernel_rfl))
 f314:=Tryz.func280.trans (congrArg some (by kernel_rfl))
 t3:=Tryz.underlying3
 a3:=Tryz.isAgg3
 z3:=Tryz.sizeOf3
 v3:=Tryz.zeroValue3
 t4:=Tryz.underlying4
 a4:=Tryz.isAgg4
 z4:=Tryz.sizeOf4
 v4:=Tryz.zeroValue4
 t5:=Tryz.underlying5
 a5:=Tryz.isAgg5
 z5:=Tryz.sizeOf5
 v5:=Tryz.zeroValue5
 t9:=Tryz.underlying9
 a9:=Tryz.isAgg9
 z9:=Tryz.sizeOf9
 v9:=Tryz.zeroValue9
 t46:=Tryz.underlying130
 a46:=Tryz.isAgg130
 z46:=Tryz.sizeOf130
 v46:=Tryz.zeroValue130
 t51:=Tryz.underlying96
 a51:=Tryz.isAgg96
 z51:=Tryz.sizeOf96
 v51:=Tryz.zeroValue96
 t146:=Tryz.underlying224
 a146:=Tryz.isAgg224
 z146:=Tryz.sizeOf224
 v146:=Tryz.zeroValue224
 g1:=by kernel_rfl }
open Go.RowKit Go.Lib in
theorem Tryz.stringslite_Index_one (s:ByteArray) (c:UInt8) (w:World) :
  Calls Tryz.prog 232 #[.string s,.string ⟨#[c]⟩] w fun e w'=>e=.returned (.int .i64 (Lib.indexByte s.data.toList c))∧w'=w:=Any.stringslite_Index_one Tryz.lays219 s c w
def Tryz.lays99_ren:Go.Shelf.Ren:=⟨fun|99=>116|206=>170|n=>n,fun|9=>9|4=>4|3=>3|n=>n,fun|n=>n⟩
theorem Tryz.lays99:Go.Proofs.Lays.n99 Tryz.prog Tryz.lays99_ren:={
 mixed:=by kernel_rfl
 f99:=Tryz.func116.trans (congrArg some (by kernel_rfl))
 f206:=Tryz.func170.trans (congrArg some (by kernel_rfl))
 t3:=Tryz.underlying3
 a3:=Tryz.isAgg3
 z3:=Tryz.sizeOf3
 v3:=Tryz.zeroValue3
 t4:=Tryz.underlying4
 a4:=Tryz.isAgg4
 z4:=Tryz.sizeOf4
 v4:=Tryz.zeroValue4
 t9:=Tryz.underlying9
 a9:=Tryz.isAgg9
 z9:=Tryz.sizeOf9
 v9:=Tryz.zeroValue9 }
open Go.RowKit Go.Lib in
theorem Tryz.strings_HasPrefix (s p:ByteArray) (w:World) :
  Calls Tryz.prog 116 #[.string s,.string p] w fun e w'=>e=.returned (.bool (Lib.hasPrefix s.data.toList p.data.toList))∧w'=w:=Any.strings_HasPrefix Tryz.lays99 s p w
def Tryz.lays152_ren:Go.Shelf.Ren:=⟨fun|152=>171|137=>228|119=>229|224=>230|225=>231|217=>264|266=>279|n=>n,fun|9=>9|21=>21|3=>3|4=>4|5=>5|0=>0|46=>130|n=>n,fun|n=>n⟩
theorem Tryz.lays152:Go.Proofs.Lays.n152 Tryz.prog Tryz.lays152_ren:={
 mixed:=by kernel_rfl
 f119:=Tryz.func229.trans (congrArg some (by kernel_rfl))
 f137:=Tryz.func228.trans (congrArg some (by kernel_rfl))
 f152:=Tryz.func171.trans (congrArg some (by kernel_rfl))
 f217:=Tryz.func264.trans (congrArg some (by kernel_rfl))
 f224:=Tryz.func230.trans (congrArg some (by kernel_rfl))
 f225:=Tryz.func231.trans (congrArg some (by kernel_rfl))
 f266:=Tryz.func279.trans (congrArg some (by kernel_rfl))
 t0:=Tryz.underlying0
 a0:=Tryz.isAgg0
 z0:=Tryz.sizeOf0
 v0:=Tryz.zeroValue0
 t3:=Tryz.underlying3
 a3:=Tryz.isAgg3
 z3:=Tryz.sizeOf3
 v3:=Tryz.zeroValue3
 t4:=Tryz.underlying4
 a4:=Tryz.isAgg4
 z4:=Tryz.sizeOf4
 v4:=Tryz.zeroValue4
 t5:=Tryz.underlying5
 a5:=Tryz.isAgg5
 z5:=Tryz.sizeOf5
 v5:=Tryz.zeroValue5
 t9:=Tryz.underlying9
 a9:=Tryz.isAgg9
 z9:=Tryz.sizeOf9
 v9:=Tryz.zeroValue9
 t21:=Tryz.underlying21
 a21:=Tryz.isAgg21
 z21:=Tryz.sizeOf21
 v21:=Tryz.zeroValue21
 t46:=Tryz.underlying130
 a46:=Tryz.isAgg130
 z46:=Tryz.sizeOf130
 v46:=Tryz.zeroValue130 }
open Go.RowKit Go.Lib in
theorem Tryz.strings_IndexRune_ascii (s:ByteArray) (r:Int) (w:World) (h0:0≤r) (h1:r<128) :
  Calls Tryz.prog 171 #[.string s,.int .i32 r] w fun e w'=>e=.returned (.int .i64 (Lib.indexByte s.data.toList r.toNat.toUInt8))∧w'=w:=Any.strings_IndexRune_ascii Tryz.lays152 s r w h0 h1
def Tryz.lays226_ren:Go.Shelf.Ren:=⟨fun|226=>172|n=>n,fun|3=>3|4=>4|n=>n,fun|n=>n⟩
theorem Tryz.lays226:Go.Proofs.Lays.n226 Tryz.prog Tryz.lays226_ren:={
 mixed:=by kernel_rfl
 f226:=Tryz.func172.trans (congrArg some (by kernel_rfl))
 t3:=Tryz.underlying3
 a3:=Tryz.isAgg3
 z3:=Tryz.sizeOf3
 v3:=Tryz.zeroValue3
 t4:=Tryz.underlying4
 a4:=Tryz.isAgg4
 z4:=Tryz.sizeOf4
 v4:=Tryz.zeroValue4 }
open Go.RowKit Go.Lib in
theorem Tryz.strings_shouldUseASCIISet (n:Int) (w:World) :
  Calls Tryz.prog 172 #[.int .i64 n] w fun e w'=>e=.returned (.bool (decide (8<n)))∧w'=w:=Any.strings_shouldUseASCIISet Tryz.lays226 n w
def Tryz.lays153_ren:Go.Shelf.Ren:=⟨fun|153=>117|152=>171|226=>172|227=>142|228=>173|137=>228|119=>229|224=>230|225=>231|217=>264|266=>279|n=>n,fun|9=>9|3=>3|4=>4|5=>5|21=>21|117=>159|116=>158|0=>0|46=>130|124=>162|n=>n,fun|n=>n⟩
theorem Tryz.lays153:Go.Proofs.Lays.n153 Tryz.prog Tryz.lays153_ren:={
 mixed:=by kernel_rfl
 f119:=Tryz.func229.trans (congrArg some (by kernel_rfl))
 f137:=Tryz.func228.trans (congrArg some (by kernel_rfl))
 f152:=Tryz.func171.trans (congrArg some (by kernel_rfl))
 f153:=Tryz.func117.trans (congrArg some (by kernel_rfl))
 f217:=Tryz.func264.trans (congrArg some (by kernel_rfl))
 f224:=Tryz.func230.trans (congrArg some (by kernel_rfl))
 f225:=Tryz.func231.trans (congrArg some (by kernel_rfl))
 f226:=Tryz.func172.trans (congrArg some (by kernel_rfl))
 f227:=Tryz.func142.trans (congrArg some (by kernel_rfl))
 f228:=Tryz.func173.trans (congrArg some (by kernel_rfl))
 f266:=Tryz.func279.trans (congrArg some (by kernel_rfl))
 t0:=Tryz.underlying0
 a0:=Tryz.isAgg0
 z0:=Tryz.sizeOf0
 v0:=Tryz.zeroValue0
 t3:=Tryz.underlying3
 a3:=Tryz.isAgg3
 z3:=Tryz.sizeOf3
 v3:=Tryz.zeroValue3
 t4:=Tryz.underlying4
 a4:=Tryz.isAgg4
 z4:=Tryz.sizeOf4
 v4:=Tryz.zeroValue4
 t5:=Tryz.underlying5
 a5:=Tryz.isAgg5
 z5:=Tryz.sizeOf5
 v5:=Tryz.zeroValue5
 t9:=Tryz.underlying9
 a9:=Tryz.isAgg9
 z9:=Tryz.sizeOf9
 v9:=Tryz.zeroValue9
 t21:=Tryz.underlying21
 a21:=Tryz.isAgg21
 z21:=Tryz.sizeOf21
 v21:=Tryz.zeroValue21
 t46:=Tryz.underlying130
 a46:=Tryz.isAgg130
 z46:=Tryz.sizeOf130
 v46:=Tryz.zeroValue130
 t116:=Tryz.underlying158
 a116:=Tryz.isAgg158
 z116:=Tryz.sizeOf158
 t117:=Tryz.underlying159
 a117:=Tryz.isAgg159
 z117:=Tryz.sizeOf159
 v117:=Tryz.zeroValue159
 t124:=Tryz.underlying162
 a124:=Tryz.isAgg162
 z124:=Tryz.sizeOf162
 v124:=Tryz.zeroValue162 }
open Go.RowKit Go.Lib in
theorem Tryz.strings_IndexAny_short (s chars:ByteArray) (w:World) (h2:2≤chars.size) (h8:s.size≤8) (hascii:∀ (j:Nat) b,s.data.toList[j]?=some b→b.toNat<128) :
  Calls Tryz.prog 117 #[.string s,.string chars] w fun e w'=>e=.returned (.int .i64 (Lib.indexAny s.data.toList chars.data.toList))∧∃ pos,w'=w.iter s pos:=Any.strings_IndexAny_short Tryz.lays153 s chars w h2 h8 hascii
open Go.RowKit Go.Lib in
theorem Tryz.strings_IndexAny_long (hv116:∀ w,(zeroValue 158).run Tryz.prog w=.ok (.agg (Array.replicate 256 (.bool false))) w) (s chars:ByteArray) (w:World) (h2:2≤chars.size) (h8:8<s.size) (hs:s.size<4294967281) (hcs:chars.size<4294967281) (hascii:∀ (j:Nat) b,chars.data.toList[j]?=some b→b.toNat<128) :
  Calls Tryz.prog 117 #[.string s,.string chars] w fun e w'=>e=.returned (.int .i64 (Lib.indexAny s.data.toList chars.data.toList))∧w'=((w.alloc (.cells (Lib.setCells chars.data.toList) 158)).alloc (.cells (Lib.setCells chars.data.toList) 158)):=Any.strings_IndexAny_long Tryz.lays153 hv116 (by kernel_rfl) s chars w h2 h8 hs hcs hascii
def Tryz.lays105_ren:Go.Shelf.Ren:=⟨fun|105=>126|212=>184|99=>116|165=>185|166=>186|170=>187|169=>188|263=>238|264=>239|206=>170|240=>240|241=>241|276=>272|277=>273|n=>n,fun|9=>9|3=>3|4=>4|20=>20|0=>0|46=>130|109=>185|5=>5|72=>189|76=>191|51=>96|146=>224|53=>60|148=>153|70=>187|37=>65|75=>180|127=>227|164=>244|80=>44|n=>n,fun|n=>n⟩
theorem Tryz.lays105:Go.Proofs.Lays.n105 Tryz.prog Tryz.lays105_ren:={
 mixed:=by kernel_rfl
 f99:=Tryz.func116.trans (congrArg some (by kernel_rfl))
 f105:=Tryz.func126.trans (congrArg some (by kernel_rfl))
 f165:=Tryz.func185.trans (congrArg some (by kernel_rfl))
 f166:=Tryz.func186.trans (congrArg some (by kernel_rfl))
 f169:=Tryz.func188.trans (congrArg some (by kernel_rfl))
 f170:=Tryz.func187.trans (congrArg some (by kernel_rfl))
 f206:=Tryz.func170.trans (congrArg some (by kernel_rfl))
 f212:=Tryz.func184.trans (congrArg some (by kernel_rfl))
 f240:=Tryz.func240.trans (congrArg some (by kernel_rfl))
 f241:=Tryz.func241.trans (congrArg some (by kernel_rfl))
 f263:=Tryz.func238.trans (congrArg some (by kernel_rfl))
 f264:=Tryz.func239.trans (congrArg some (by kernel_rfl))
 f276:=Tryz.func272.trans (congrArg some (by kernel_rfl))
 f277:=Tryz.func273.trans (congrArg some (by kernel_rfl))
 t0:=Tryz.underlying0
 a0:=Tryz.isAgg0
 z0:=Tryz.sizeOf0
 v0:=Tryz.zeroValue0
 t3:=Tryz.underlying3
 a3:=Tryz.isAgg3
 z3:=Tryz.sizeOf3
 v3:=Tryz.zeroValue3
 t4:=Tryz.underlying4
 a4:=Tryz.isAgg4
 z4:=Tryz.sizeOf4
 v4:=Tryz.zeroValue4
 t5:=Tryz.underlying5
 a5:=Tryz.isAgg5
 z5:=Tryz.sizeOf5
 v5:=Tryz.zeroValue5
 t9:=Tryz.underlying9
 a9:=Tryz.isAgg9
 z9:=Tryz.sizeOf9
 v9:=Tryz.zeroValue9
 t20:=Tryz.underlying20
 a20:=Tryz.isAgg20
 z20:=Tryz.sizeOf20
 v20:=Tryz.zeroValue20
 t37:=Tryz.underlying65
 a37:=Tryz.isAgg65
 z37:=Tryz.sizeOf65
 v37:=Tryz.zeroValue65
 t46:=Tryz.underlying130
 a46:=Tryz.isAgg130
 z46:=Tryz.sizeOf130
 v46:=Tryz.zeroValue130
 t51:=Tryz.underlying96
 a51:=Tryz.isAgg96
 z51:=Tryz.sizeOf96
 v51:=Tryz.zeroValue96
 t53:=Tryz.underlying60
 a53:=Tryz.isAgg60
 z53:=Tryz.sizeOf60
 v53:=Tryz.zeroValue60
 t70:=Tryz.underlying187
 a70:=Tryz.isAgg187
 z70:=Tryz.sizeOf187
 v70:=Tryz.zeroValue187
 t72:=Tryz.underlying189
 a72:=Tryz.isAgg189
 z72:=Tryz.sizeOf189
 v72:=Tryz.zeroValue189
 t75:=Tryz.underlying180
 a75:=Tryz.isAgg180
 z75:=Tryz.sizeOf180
 v75:=Tryz.zeroValue180
 t76:=Tryz.underlying191
 a76:=Tryz.isAgg191
 z76:=Tryz.sizeOf191
 v76:=Tryz.zeroValue191
 t109:=Tryz.underlying185
 a109:=Tryz.isAgg185
 z109:=Tryz.sizeOf185
 v109:=Tryz.zeroValue185
 t127:=Tryz.underlying227
 a127:=Tryz.isAgg227
 z127:=Tryz.sizeOf227
 v127:=Tryz.zeroValue227
 t146:=Tryz.underlying224
 a146:=Tryz.isAgg224
 z146:=Tryz.sizeOf224
 v146:=Tryz.zeroValue224
 t148:=Tryz.underlying153
 a148:=Tryz.isAgg153
 z148:=Tryz.sizeOf153
 v148:=Tryz.zeroValue153
 t164:=Tryz.underlying244
 a164:=Tryz.isAgg244
 z164:=Tryz.sizeOf244
 v164:=Tryz.zeroValue244 }
theorem Tryz.Builder_Extra_105:Builder.Extra Tryz.prog Tryz.lays105_ren:={
 sizeBuilder:=by kernel_rfl
 liesBuilder:=by kernel_rfl
 t5:=Tryz.underlying5
 a5:=Tryz.isAgg5
 z5:=Tryz.sizeOf5
 v5:=Tryz.zeroValue5
 infoByte:=by kernel_rfl
 cellsByte:=by kernel_rfl
 sizeByte:=by kernel_rfl
 neB5:=by decide }
open Go.RowKit Go.Lib in
theorem Tryz.strings_Repeat (s:ByteArray) (c:Nat) (w:World) (hc:c≤9223372036854775807) (hlen:s.size*c≤140737488355328) :
  Calls Tryz.prog 126 #[.string s,.int .i64 c] w fun e w'=>e=.returned (.string ⟨(Lib.repeatL s.data.toList c).toArray⟩)∧Go.Proofs.YtfkaogdmlcdceaaGreatDoor.Bw w w':=Any.strings_Repeat Tryz.lays105 Tryz.Builder_Extra_105 s c w hc hlen
end Go.Proofs
namespace Go.Proofs.YtfkaogdmlcdceaaGreatDoor
open Go.RowKit
attribute [local go_sem] iV Nu
theorem xL6 (na nb:Bool) (ua va:Option Addr) (un uc C I:Nat) (ea eb F Y:Int) (w:World) (qP:((un:Int)==0)=false) (qM:((C:Int)==0)=false)
  (qH : -64000000000≤F) (qG:F≤64000000000) (qU : -64000000000≤Y) (qV:Y≤64000000000) (qY:F≠Y)
  (kA:∀ W,Bw w W→Ca 44 #[.agg (Nu na ua un uc ea)] W (Rq W (iV F)))
  (kB:∀ W,Bw w W→Ca 44 #[.agg (Nu nb va C I eb)] W (Rq W (iV Y))) :
  Ca 114 #[.agg (Nu na ua un uc ea),.agg (Nu nb va C I eb)] w (Rq w (iV (F - Y))):=by
 obtain⟨W,hW⟩:=eE ((w.alloc (.cells (Nu na ua un uc ea) 54)).alloc (.cells (Nu nb va C I eb) 54));obtain⟨hA,qQ,qJ,H⟩:=qU9 _ _ hW;have HX:Hid _:=H;have V:∀ D,Bw W D→Ca 44 #[.agg (Nu na ua un uc ea)] D (Rq W (iV F)):=fun D h4=>(kA D (H.trans (h4.mono H.size))).mono fun r w' ⟨e1,o2⟩=>⟨e1,h4.trans (o2.mono h4.size)⟩;have J:∀ D,Bw W D→Ca 44 #[.agg (Nu nb va C I eb)] D (Rq W (iV Y)):=fun D h4=>(kB D (H.trans (h4.mono H.size))).mono fun r w' ⟨e1,o2⟩=>⟨e1,h4.trans (o2.mono h4.size)⟩;have qK:Hid _:=V;have qX:Hid _:=J;obtain⟨⟨a0,a1,a2⟩,-⟩:=qQ1 hA;obtain⟨⟨b0,b1,b2⟩,-⟩:=qQ1 qQ;have HK:Hid (∀ w',Bw W w'→((C3 w' w.heap.size na ua un uc ea)∧(C3 w' (w.heap.size+1) nb va C I eb))):=fun w' Y=>⟨(qQ1 (qQ0 hA Y ω)).1,(qQ1 (qQ0 qQ Y ω)).1⟩;have qF:Hid (∀ w',Bw W w'→Bw W w'.drew):=fun w' h=>h.trans ⟨rfl,rfl,rfl,kH8 _,fun _ _=>rfl⟩;have u:Bw W W.drew:=bR.drew;have HZ:Hid (IntKind.i64.wrap (F - Y)=F - Y):=(by rw[kB5];omega:IntKind.i64.wrap (F - Y)=F - Y)
 have qZ:(F==Y)=false:=by simpa using qY
 clear kA kB hA qQ qJ H qY qH qG qU qV
 go_enter Tryz.func114,Tryz.ntmps114
 go_upto_region 3 with fail;rw[←hW];clear hW
 go_cut [24] from 25 to 29 (fun v w'=>v=.bool true∧Hid (Bw W w'))
 case first =>
  go_region_held3 (fun w'=>((C3 w' w.heap.size na ua un uc ea)∧(C3 w' (w.heap.size+1) nb va C I eb))) (first|(with_reducible assumption)|exact⟨⟨a0,a1,a2⟩,b0,b1,b2⟩|(refine HK.out _ ?_;with_reducible assumption)|go_keep)
   (first|(go_at_call 44;first|(with_reducible refine(V _ (by first|(with_reducible assumption)|exact u)).mono ?_;rintro r w5 ⟨rfl,L⟩)|(with_reducible refine(J _ (by first|(with_reducible assumption)|exact u)).mono ?_;rintro r w6 ⟨rfl,T⟩)))
  all_goals go_wp2_with fail
  all_goals go_meet
  all_goals exact⟨by rw[bne,qZ];rfl,by first|exact T|exact L⟩
 case rest =>
  obtain⟨rfl,hc⟩:=hcut;obtain⟨W2,rfl⟩:∃ W2:World,W2=wc:=⟨_,rfl⟩;clear a0 a1 a2 b0 b1 b2 V J u;obtain⟨⟨a0,a1,a2⟩,b0,b1,b2⟩:=HK.out W2 hc.out;have u:Bw W W2.drew:=qF.out _ hc.out;have V:=qK.out;have J:=qX.out
  go_upto_region 4 with fail
  go_region_held3 (fun w'=>((C3 w' w.heap.size na ua un uc ea)∧(C3 w' (w.heap.size+1) nb va C I eb))) (first|(with_reducible assumption)|exact⟨⟨a0,a1,a2⟩,b0,b1,b2⟩|(refine HK.out _ ?_;with_reducible assumption)|go_keep)
   (first|(go_at_call 44;first|(with_reducible refine(V _ (by first|(with_reducible assumption)|exact u)).mono ?_;rintro r w5 ⟨rfl,L⟩)|(with_reducible refine(J _ (by first|(with_reducible assumption)|exact u)).mono ?_;rintro r w6 ⟨rfl,T⟩)))
  all_goals (have qN:Hid (Bw W w5):=L;have qB:Hid (Bw W w6):=T;clear V J HK qK qX a0 a1 a2 b0 b1 b2 u L T;go_wp2;go_ret;first|exact⟨by rw[HZ.out];rfl,HX.out.trans (qB.out.mono HX.out.size)⟩|exact⟨by rw[HZ.out];rfl,HX.out.trans (qN.out.mono HX.out.size)⟩)
theorem xL5 (na nb:Bool) (ua T:Option Addr) (un uc F D X Y:Nat) (ea eb ha:Int) (w:World) (qR:((un:Int)==0)=false) (qS:((F:Int)==0)=false) (hX:dlen X≤1000000) (hY:dlen Y≤1000000)
  (qC : -4000000≤ea) (qW:ea≤4000000) (qL : -4000000≤eb) (qT:eb≤4000000)
  (kA:∀ W,Bw w W→Ca 44 #[.agg (Nu na ua un uc ea)] W (Rq W (iV ha)))
  (kB:∀ W,Bw w W→Ca 44 #[.agg (Nu nb T F D eb)] W (Rq W (iV ha)))
  (ku:∀ W i,Bw w W→i=ea - min ea eb→Ca 101 #[.slice ua un uc,iV i] W fun r w'=>∃ v,r=.returned v∧Ir w' v X∧Bw W w')
  (kv:∀ W i,Bw w W→i=eb - min ea eb→Ca 101 #[.slice T F D,iV i] W fun r w'=>∃ v,r=.returned v∧Ir w' v Y∧Bw W w') :
  Ca 114 #[.agg (Nu na ua un uc ea),.agg (Nu nb T F D eb)] w (Rq w (iV (cmpI X Y))):=by
 obtain⟨W,hW⟩:=eE ((w.alloc (.cells (Nu na ua un uc ea) 54)).alloc (.cells (Nu nb T F D eb) 54));obtain⟨hA,qX,qM,J⟩:=qU9 _ _ hW;have HX:Hid _:=J;have qV:∀ u,Bw W u→Ca 44 #[.agg (Nu na ua un uc ea)] u (Rq W (iV ha)):=fun u V=>(kA u (J.trans (V.mono J.size))).mono fun r w' ⟨e1,L⟩=>⟨e1,V.trans (L.mono V.size)⟩;have qJ:∀ u,Bw W u→Ca 44 #[.agg (Nu nb T F D eb)] u (Rq W (iV ha)):=fun u V=>(kB u (J.trans (V.mono J.size))).mono fun r w' ⟨e1,L⟩=>⟨e1,V.trans (L.mono V.size)⟩;obtain⟨i1,qG⟩:=eE (ea - min ea eb);obtain⟨i2,qU⟩:=eE (eb - min ea eb);have qN:Hid (∀ u,Bw W u→Ca 101 #[.slice ua un uc,iV i1] u fun r w'=>∃ v,r=.returned v∧Ir w' v X∧Bw W w'∧Bw u w'):=(fun u V=>(ku u i1 (J.trans (V.mono J.size)) qG).mono fun r w' ⟨v,e1,o1,L⟩=>⟨v,e1,o1,V.trans (L.mono V.size),L⟩:∀ u,Bw W u→Ca 101 #[.slice ua un uc,iV i1] u fun r w'=>∃ v,r=.returned v∧Ir w' v X∧Bw W w'∧Bw u w');have qB:Hid (∀ u,Bw W u→Ca 101 #[.slice T F D,iV i2] u fun r w'=>∃ v,r=.returned v∧Ir w' v Y∧Bw W w'∧Bw u w'):=(fun u V=>(kv u i2 (J.trans (V.mono J.size)) qU).mono fun r w' ⟨v,e1,o1,L⟩=>⟨v,e1,o1,V.trans (L.mono V.size),L⟩:∀ u,Bw W u→Ca 101 #[.slice T F D,iV i2] u fun r w'=>∃ v,r=.returned v∧Ir w' v Y∧Bw W w'∧Bw u w');have kO:∀ u p q,Ir u p X→Ir u q Y→Bw W u→Ca 149 #[p,q] u (Rq W (iV (cmpI X Y))):=fun u p q hp hq V=>(rord hp hq ω ω).mono fun r w' ⟨e1,d,e2⟩=>⟨e1,by rw[e2];exact V.trans ⟨rfl,rfl,rfl,kH8 _,fun _ _=>rfl⟩⟩
 have qK:Hid _:=kO;obtain⟨⟨a0,a1,a2⟩,-⟩:=qQ1 hA;obtain⟨⟨b0,b1,b2⟩,-⟩:=qQ1 qX;have HK:Hid (∀ w',Bw W w'→((C3 w' w.heap.size na ua un uc ea)∧(C3 w' (w.heap.size+1) nb T F D eb))):=fun w' hb=>⟨(qQ1 (qQ0 hA hb ω)).1,(qQ1 (qQ0 qX hb ω)).1⟩;have qP:Hid (∀ w',Bw W w'→Bw W w'.drew):=fun w' h=>h.trans ⟨rfl,rfl,rfl,kH8 _,fun _ _=>rfl⟩;have H:Bw W W.drew:=bR.drew;have HI:Hid (∀ i,(i=ea - min ea eb∨i=IntKind.i64.wrap (ea - min ea eb))→i=i1):=(fun i h=>by rw[kB5] at h;omega:∀ i,(i=ea - min ea eb∨i=IntKind.i64.wrap (ea - min ea eb))→i=i1)
 have HJ:Hid (∀ i,(i=eb - min ea eb∨i=IntKind.i64.wrap (eb - min ea eb))→i=i2):=(fun i h=>by rw[kB5] at h;omega:∀ i,(i=eb - min ea eb∨i=IntKind.i64.wrap (eb - min ea eb))→i=i2)
 obtain⟨c,hc⟩:=eE (cmpI X Y);rw[←hc] at qK ⊢;clear kA kB ku kv kO hA qX qM J hX hY qG qU hc
 go_enter Tryz.func114,Tryz.ntmps114
 go_upto_region 3 with fail;rw[←hW];clear hW
 go_cut [24] from 25 to 29 (fun v w'=>v=.bool false∧Hid (Bw W w'))
 case first =>
  go_region_held3 (fun w'=>((C3 w' w.heap.size na ua un uc ea)∧(C3 w' (w.heap.size+1) nb T F D eb))) (first|(with_reducible assumption)|exact⟨⟨a0,a1,a2⟩,b0,b1,b2⟩|(refine HK.out _ ?_;with_reducible assumption)|go_keep)
   (first|(go_at_call 44;first|(with_reducible refine(qV _ (by first|(with_reducible assumption)|exact H)).mono ?_;rintro r w5 ⟨rfl,I⟩)|(with_reducible refine(qJ _ (by first|(with_reducible assumption)|exact H)).mono ?_;rintro r w6 ⟨rfl,C⟩)))
  all_goals go_wp2_with fail
  all_goals go_meet
  all_goals exact⟨by first|rfl|simp,by first|exact C|exact I⟩
 case rest =>
  obtain⟨rfl,hc⟩:=hcut;obtain⟨W2,rfl⟩:∃ W2:World,W2=wc:=⟨_,rfl⟩;clear a0 a1 a2 b0 b1 b2 qV qJ H;obtain⟨⟨a0,a1,a2⟩,b0,b1,b2⟩:=HK.out W2 hc.out;have H:Bw W W2.drew:=qP.out _ hc.out;have kU:∀ i u,(i=ea - min ea eb∨i=IntKind.i64.wrap (ea - min ea eb))→Bw W u→Ca 101 #[.slice ua un uc,iV i] u fun r w'=>∃ v,r=.returned v∧Ir w' v X∧Bw W w'∧Bw u w':=fun i u hi=>by rw[HI.out i hi];exact qN.out u
  have kV:∀ i u,(i=eb - min ea eb∨i=IntKind.i64.wrap (eb - min ea eb))→Bw W u→Ca 101 #[.slice T F D,iV i] u fun r w'=>∃ v,r=.returned v∧Ir w' v Y∧Bw W w'∧Bw u w':=fun i u hi=>by rw[HJ.out i hi];exact qB.out u
  have kO:=qK.out
  go_upto_region 6 with fail
  go_region_held3 (fun w'=>((C3 w' w.heap.size na ua un uc ea)∧(C3 w' (w.heap.size+1) nb T F D eb))) (first|(with_reducible assumption)|exact⟨⟨a0,a1,a2⟩,b0,b1,b2⟩|(refine HK.out _ ?_;with_reducible assumption)|go_keep)
   (first|(go_at_call 101;first|(with_reducible refine(kU _ _ (by first|exact .inl rfl|exact .inr rfl) (by first|(with_reducible assumption)|exact H)).mono ?_;rintro r w5 ⟨p5,rfl,qZ,I,qF⟩)|(with_reducible refine(kV _ _ (by first|exact .inl rfl|exact .inr rfl) (by first|(with_reducible assumption)|exact H)).mono ?_;rintro r w6 ⟨p6,rfl,qQ,C,qH⟩))|(go_at_call 149;first|(with_reducible refine(kO _ _ _ (qZ.later qH) qQ C).mono ?_;rintro r w7 ⟨rfl,qY⟩)|(with_reducible refine(kO _ _ _ qZ (qQ.later qF) I).mono ?_;rintro r w7 ⟨rfl,qY⟩)))
  all_goals (have qD:Hid (Bw W w7):=qY;clear kU kV kO HK qN qB qK a0 a1 a2 b0 b1 b2 H I C qY qZ qQ qF qH;go_wp2;go_ret;exact⟨rfl,HX.out.trans (qD.out.mono HX.out.size)⟩)
theorem xL7 (na nb:Bool) (ua D:Option Addr) (un uc u F:Nat) (ea eb:Int) (w:World) (C:un=0∨u=0) (qY:un≤35184372088832) (qZ:u≤35184372088832) :
  Ca 114 #[.agg (Nu na ua un uc ea),.agg (Nu nb D u F eb)] w (Rq w (iV ((un:Int) - u))):=by
 obtain⟨W,V⟩:=eE ((w.alloc (.cells (Nu na ua un uc ea) 54)).alloc (.cells (Nu nb D u F eb) 54));obtain⟨L,Y,H,J⟩:=qU9 _ _ V;have I:Hid _:=J;obtain⟨⟨a0,a1,a2⟩,-⟩:=qQ1 L;obtain⟨⟨b0,b1,b2⟩,-⟩:=qQ1 Y;rw[V] at a0 a1 a2 b0 b1 b2;have hw:IntKind.i64.wrap ((un:Int) - u)=(un:Int) - u:=by rw[kB5];omega
 have HD:Hid ((un:Int) - u=(un:Int) - u):=rfl;clear L Y H J;by_cases T:un=0
 ·subst T;clear C
  go_enter Tryz.func114,Tryz.ntmps114
  go_wp2
  go_ret;exact⟨by simp,V ▸ I.out⟩
 ·obtain rfl:u=0:=ω;have qQ:((un:Int)==0)=false:=by simp;omega
  clear C T
  go_enter Tryz.func114,Tryz.ntmps114
  go_wp2
  go_ret;exact⟨by simp,V ▸ I.out⟩
def magI (x:Nat) (ea:Int) (y:Nat) (eb:Int):Int:=if x=0∨y=0 then(dlen x:Int) - dlen y else if(bl x:Int)+ea=bl y+eb then cmpI (x*2^(ea - min ea eb).toNat:Nat) (y*2^(eb - min ea eb).toNat:Nat) else(bl x:Int)+ea - (bl y+eb)
theorem rmag {na nb:Bool} {ua Y:Option Addr} {uc u x y:Nat} {ea eb:Int} {w:World} (I:Arg w ua (dlen x) uc x) (C:Arg w Y (dlen y) u y) (hx:dlen x≤400000) (hy:dlen y≤400000) (ha : -2000000≤ea∧ea≤2000000) (hb : -2000000≤eb∧eb≤2000000) :
  Ca 114 #[.agg (Nu na ua (dlen x) uc ea),.agg (Nu nb Y (dlen y) u eb)] w (Rq w (iV (magI x ea y eb))):=by
 unfold magI;by_cases D:x=0∨y=0
 ·rw[kU6 D];exact xL7 na nb ua Y _ uc _ u ea eb w (D.imp (fun h=>by rw[h,qQ5]) (fun h=>by rw[h,qQ5])) ω ω
 ·rw[kU5 D];have V:x≠0:=fun e=>D (.inl e);have J:y≠0:=fun e=>D (.inr e);have b1:=qY3 x;have b2:=qY3 y;have kA:∀ W,Bw w W→Ca 44 #[.agg (Nu na ua (dlen x) uc ea)] W (Rq W (iV (bl x+ea))):=fun W F=>zW7 (I.later F).at_ V ω ω;have L:∀ W,Bw w W→Ca 44 #[.agg (Nu nb Y (dlen y) u eb)] W (Rq W (iV (bl y+eb))):=fun W F=>zW7 (C.later F).at_ J ω ω;by_cases T:(bl x:Int)+ea=bl y+eb
  ·rw[kU6 T];rw[←T] at L;have l1:dlen (x*2^(ea - min ea eb).toNat)≤760000:=by have:=qK2 (x:=x) (k:=(ea - min ea eb).toNat) rfl;omega
   have l2:dlen (y*2^(eb - min ea eb).toNat)≤760000:=by have:=qK2 (x:=y) (k:=(eb - min ea eb).toNat) rfl;omega
   refine xL5 na nb ua Y _ uc _ u _ _ ea eb _ w (qY8 (n:=0) V) (qY8 (n:=0) J) ω ω ω ω ω ω kA L (fun W i F hi=>?_) (fun W i F hi=>?_)
   ·have H:i=(((ea - min ea eb).toNat:Nat):Int):=ω;rw[H];exact rup ⟨ua,uc,rfl,I.le,(I.later F).at_⟩ _ ω ω
   ·have H:i=(((eb - min ea eb).toNat:Nat):Int):=ω;rw[H];exact rup ⟨Y,u,rfl,C.le,(C.later F).at_⟩ _ ω ω
  ·rw[kU5 T];exact xL6 na nb ua Y _ uc _ u ea eb _ _ w (qY8 (n:=0) V) (qY8 (n:=0) J) ω ω ω ω T kA L
theorem yZ9 (na nb:Bool) (ua L:Option Addr) (un uc D T:Nat) (ea eb I C c:Int) (w:World) (hs:I<C)
  (kA:∀ W,Bw w W→Ca 47 #[.agg (Nu na ua un uc ea)] W (Rq W (iV I)))
  (kB:∀ W,Bw w W→Ca 47 #[.agg (Nu nb L D T eb)] W (Rq W (iV C))) :
  Ca 49 #[.agg (Nu na ua un uc ea),.agg (Nu nb L D T eb)] w (Rq w (iV (-1))):=by
 obtain⟨W,hW⟩:=eE ((w.alloc (.cells (Nu na ua un uc ea) 54)).alloc (.cells (Nu nb L D T eb) 54));obtain⟨hA,V,qY,Y⟩:=qU9 _ _ hW;have HX:Hid _:=Y;have qZ:∀ J,Bw W J→Ca 47 #[.agg (Nu na ua un uc ea)] J (Rq W (iV I)):=fun J F=>(kA J (Y.trans (F.mono Y.size))).mono fun r w' ⟨e1,o2⟩=>⟨e1,F.trans (o2.mono F.size)⟩;have qQ:∀ J,Bw W J→Ca 47 #[.agg (Nu nb L D T eb)] J (Rq W (iV C)):=fun J F=>(kB J (Y.trans (F.mono Y.size))).mono fun r w' ⟨e1,o2⟩=>⟨e1,F.trans (o2.mono F.size)⟩;obtain⟨⟨a0,a1,a2⟩,-⟩:=qQ1 hA;obtain⟨⟨b0,b1,b2⟩,-⟩:=qQ1 V;have HK:Hid (∀ w',Bw W w'→((C3 w' w.heap.size na ua un uc ea)∧(C3 w' (w.heap.size+1) nb L D T eb))):=fun w' hb=>⟨(qQ1 (qQ0 hA hb ω)).1,(qQ1 (qQ0 V hb ω)).1⟩;have qU:Hid (∀ w',Bw W w'→Bw W w'.drew):=fun w' h=>h.trans ⟨rfl,rfl,rfl,kH8 _,fun _ _=>rfl⟩;have H:Bw W W.drew:=bR.drew;have qV:(I==C)=false:=by simp;omega
 have qJ:(I != C)=true:=by simp;omega
 clear kA kB hA V qY Y 
 go_enter Tryz.func49,Tryz.ntmps49
 go_upto_region 1 with fail;rw[←hW];clear hW
 go_cut [5,6] from 8 to 11 (fun u v w'=>u=iV I∧v=iV C∧Hid (Bw W w'))
 case first =>
  go_region_held3 (fun w'=>((C3 w' w.heap.size na ua un uc ea)∧(C3 w' (w.heap.size+1) nb L D T eb))) (first|(with_reducible assumption)|exact⟨⟨a0,a1,a2⟩,b0,b1,b2⟩|(refine HK.out _ ?_;with_reducible assumption)|go_keep)
   (first|(go_at_call 47;first|(with_reducible refine(qZ _ (by first|(with_reducible assumption)|exact H)).mono ?_;rintro r w5 ⟨rfl,qK⟩)|(with_reducible refine(qQ _ (by first|(with_reducible assumption)|exact H)).mono ?_;rintro r w6 ⟨rfl,qX⟩)))
  all_goals go_wp2_with fail
  all_goals go_meet
  all_goals exact⟨rfl,rfl,by first|exact qX|exact qK⟩
 case rest =>
  obtain⟨rfl,rfl,hc⟩:=hcut;obtain⟨W2,rfl⟩:∃ W2:World,W2=wc:=⟨_,rfl⟩;clear a0 a1 a2 b0 b1 b2 qZ qQ H
  go_wp2
  go_ret;exact⟨rfl,HX.out.trans (hc.out.mono HX.out.size)⟩
theorem yX0 (na nb:Bool) (ua I:Option Addr) (un uc L C:Nat) (ea eb H V c:Int) (w:World) (hs:¬ H<V) (hn:H≠V)
  (kA:∀ W,Bw w W→Ca 47 #[.agg (Nu na ua un uc ea)] W (Rq W (iV H)))
  (kB:∀ W,Bw w W→Ca 47 #[.agg (Nu nb I L C eb)] W (Rq W (iV V))) :
  Ca 49 #[.agg (Nu na ua un uc ea),.agg (Nu nb I L C eb)] w (Rq w (iV (1))):=by
 obtain⟨W,hW⟩:=eE ((w.alloc (.cells (Nu na ua un uc ea) 54)).alloc (.cells (Nu nb I L C eb) 54));obtain⟨hA,F,qY,Y⟩:=qU9 _ _ hW;have HX:Hid _:=Y;have qZ:∀ J,Bw W J→Ca 47 #[.agg (Nu na ua un uc ea)] J (Rq W (iV H)):=fun J T=>(kA J (Y.trans (T.mono Y.size))).mono fun r w' ⟨e1,o2⟩=>⟨e1,T.trans (o2.mono T.size)⟩;have qQ:∀ J,Bw W J→Ca 47 #[.agg (Nu nb I L C eb)] J (Rq W (iV V)):=fun J T=>(kB J (Y.trans (T.mono Y.size))).mono fun r w' ⟨e1,o2⟩=>⟨e1,T.trans (o2.mono T.size)⟩;obtain⟨⟨a0,a1,a2⟩,-⟩:=qQ1 hA;obtain⟨⟨b0,b1,b2⟩,-⟩:=qQ1 F;have HK:Hid (∀ w',Bw W w'→((C3 w' w.heap.size na ua un uc ea)∧(C3 w' (w.heap.size+1) nb I L C eb))):=fun w' hb=>⟨(qQ1 (qQ0 hA hb ω)).1,(qQ1 (qQ0 F hb ω)).1⟩;have qU:Hid (∀ w',Bw W w'→Bw W w'.drew):=fun w' h=>h.trans ⟨rfl,rfl,rfl,kH8 _,fun _ _=>rfl⟩;have D:Bw W W.drew:=bR.drew;have qV:(H==V)=false:=by simp;omega
 have qJ:(H != V)=true:=by simp;omega
 clear kA kB hA F qY Y hn
 go_enter Tryz.func49,Tryz.ntmps49
 go_upto_region 1 with fail;rw[←hW];clear hW
 go_cut [5,6] from 8 to 11 (fun u v w'=>u=iV H∧v=iV V∧Hid (Bw W w'))
 case first =>
  go_region_held3 (fun w'=>((C3 w' w.heap.size na ua un uc ea)∧(C3 w' (w.heap.size+1) nb I L C eb))) (first|(with_reducible assumption)|exact⟨⟨a0,a1,a2⟩,b0,b1,b2⟩|(refine HK.out _ ?_;with_reducible assumption)|go_keep)
   (first|(go_at_call 47;first|(with_reducible refine(qZ _ (by first|(with_reducible assumption)|exact D)).mono ?_;rintro r w5 ⟨rfl,qK⟩)|(with_reducible refine(qQ _ (by first|(with_reducible assumption)|exact D)).mono ?_;rintro r w6 ⟨rfl,qX⟩)))
  all_goals go_wp2_with fail
  all_goals go_meet
  all_goals exact⟨rfl,rfl,by first|exact qX|exact qK⟩
 case rest =>
  obtain⟨rfl,rfl,hc⟩:=hcut;obtain⟨W2,rfl⟩:∃ W2:World,W2=wc:=⟨_,rfl⟩;clear a0 a1 a2 b0 b1 b2 qZ qQ D
  go_wp2
  go_ret;exact⟨rfl,HX.out.trans (hc.out.mono HX.out.size)⟩
theorem qU5 (na nb:Bool) (ua I:Option Addr) (un uc L C:Nat) (ea eb T sb c R:Int) (w:World) (qV:T=sb) (qZ:Hid ((0≤T∧(c=0∧R=0∨0<c∧R=1∨c<0∧R = -1))∨(T<0∧(c=0∧R=0∨0<c∧R = -1∨c<0∧R=1)))) (qH : -90000000000≤c) (qG:c≤90000000000)
  (kA:∀ W,Bw w W→Ca 47 #[.agg (Nu na ua un uc ea)] W (Rq W (iV T)))
  (kB:∀ W,Bw w W→Ca 47 #[.agg (Nu nb I L C eb)] W (Rq W (iV sb)))
  (kM:∀ W,Bw w W→Ca 114 #[.agg (Nu na ua un uc ea),.agg (Nu nb I L C eb)] W (Rq W (iV c))) :
  Ca 49 #[.agg (Nu na ua un uc ea),.agg (Nu nb I L C eb)] w (Rq w (iV R)):=by
 obtain⟨W,hW⟩:=eE ((w.alloc (.cells (Nu na ua un uc ea) 54)).alloc (.cells (Nu nb I L C eb) 54));obtain⟨hA,qY,qN,Y⟩:=qU9 _ _ hW;have H:Hid _:=Y;have qJ:∀ J,Bw W J→Ca 47 #[.agg (Nu na ua un uc ea)] J (Rq W (iV T)):=fun J D=>(kA J (Y.trans (D.mono Y.size))).mono fun r w' ⟨e1,o2⟩=>⟨e1,D.trans (o2.mono D.size)⟩;have qK:∀ J,Bw W J→Ca 47 #[.agg (Nu nb I L C eb)] J (Rq W (iV sb)):=fun J D=>(kB J (Y.trans (D.mono Y.size))).mono fun r w' ⟨e1,o2⟩=>⟨e1,D.trans (o2.mono D.size)⟩;have F:∀ J,Bw W J→Ca 114 #[.agg (Nu na ua un uc ea),.agg (Nu nb I L C eb)] J (Rq W (iV c)):=fun J D=>(kM J (Y.trans (D.mono Y.size))).mono fun r w' ⟨e1,o2⟩=>⟨e1,D.trans (o2.mono D.size)⟩;have qB:Hid _:=F;obtain⟨⟨a0,a1,a2⟩,-⟩:=qQ1 hA;obtain⟨⟨b0,b1,b2⟩,-⟩:=qQ1 qY;have HK:Hid (∀ w',Bw W w'→((C3 w' w.heap.size na ua un uc ea)∧(C3 w' (w.heap.size+1) nb I L C eb))):=fun w' hb=>⟨(qQ1 (qQ0 hA hb ω)).1,(qQ1 (qQ0 qY hb ω)).1⟩;have qA:Hid (∀ w',Bw W w'→Bw W w'.drew):=fun w' h=>h.trans ⟨rfl,rfl,rfl,kH8 _,fun _ _=>rfl⟩;have qX:Bw W W.drew:=bR.drew;have qT:(T==sb)=true:=by simp;omega
 have qR:(T != sb)=false:=by simp;omega
 have HC:Hid _:=And.intro qH qG;clear kA kB kM F hA qY qN Y qH qG qV
 go_enter Tryz.func49,Tryz.ntmps49
 go_upto_region 1 with fail;rw[←hW];clear hW
 go_cut [5,6] from 8 to 11 (fun u v w'=>u=iV T∧v=iV sb∧Hid (Bw W w'))
 case first =>
  go_region_held3 (fun w'=>((C3 w' w.heap.size na ua un uc ea)∧(C3 w' (w.heap.size+1) nb I L C eb))) (first|(with_reducible assumption)|exact⟨⟨a0,a1,a2⟩,b0,b1,b2⟩|(refine HK.out _ ?_;with_reducible assumption)|go_keep)
   (first|(go_at_call 47;first|(with_reducible refine(qJ _ (by first|(with_reducible assumption)|exact qX)).mono ?_;rintro r w5 ⟨rfl,qS⟩)|(with_reducible refine(qK _ (by first|(with_reducible assumption)|exact qX)).mono ?_;rintro r w6 ⟨rfl,qD⟩)))
  all_goals go_wp2_with fail
  all_goals go_meet
  all_goals exact⟨rfl,rfl,by first|exact qD|exact qS⟩
 case rest =>
  obtain⟨rfl,rfl,hc⟩:=hcut;obtain⟨W2,rfl⟩:∃ W2:World,W2=wc:=⟨_,rfl⟩;clear a0 a1 a2 b0 b1 b2 qJ qK qX;have F:=qB.out W2 hc.out;obtain⟨⟨a0,a1,a2⟩,b0,b1,b2⟩:=HK.out W2 hc.out
  go_wp2_with fail;refine F.mono ?_;rintro r w7 ⟨rfl,qF⟩;have V:Hid _:=qF;clear F HK qB a0 a1 a2 b0 b1 b2 qF;rcases qZ.out with ⟨hs,h⟩|⟨hs,h⟩
  ·have qL:¬ T<0:=ω;rcases h with ⟨h,rfl⟩|⟨h,rfl⟩|⟨h,rfl⟩
   ·have qP:¬ c<0:=ω;have qE:¬ 0<c:=ω;clear h
    go_wp2
    go_ret;exact⟨rfl,H.out.trans (V.out.mono H.out.size)⟩
   ·have qP:¬ c<0:=ω
    go_wp2
    go_ret;exact⟨rfl,H.out.trans (V.out.mono H.out.size)⟩
   ·go_wp2
    go_ret;exact⟨rfl,H.out.trans (V.out.mono H.out.size)⟩
  ·have qQ:=HC.out;obtain⟨d,hd⟩:=eE (-c);have qW:IntKind.i64.wrap d=d:=by rw[kB5];omega
   have qC:=hd.symm;rcases h with ⟨h,rfl⟩|⟨h,rfl⟩|⟨h,rfl⟩
   ·have qU:¬ d<0:=ω;have qM:¬ 0<d:=ω;clear hd h qQ
    go_wp2
    go_ret;exact⟨rfl,H.out.trans (V.out.mono H.out.size)⟩
   ·have qU:d<0:=ω;clear hd h qQ
    go_wp2
    go_ret;exact⟨rfl,H.out.trans (V.out.mono H.out.size)⟩
   ·have qU:¬ d<0:=ω;have qM:0<d:=ω;clear hd h qQ
    go_wp2
    go_ret;exact⟨rfl,H.out.trans (V.out.mono H.out.size)⟩
theorem yY8 {x y:Nat} {ea eb:Int}:cmpI (magI x ea y eb) 0=cmpI (x*2^(ea - min ea eb).toNat:Nat) (y*2^(eb - min ea eb).toNat:Nat):=by
 unfold magI;by_cases Y:x=0∨y=0
 ·rw[kU6 Y];by_cases hx:x=0
  ·subst hx;rw[qQ5,Nat.zero_mul];by_cases u:y=0
   ·subst u;rw[qQ5,Nat.zero_mul];rfl
   ·have D:dlen y≠0:=fun e=>u (qQ8.1 e);have F:0<y*2^(eb - min ea eb).toNat:=Nat.mul_pos ω (kF3 _);unfold cmpI;rw[kU6 ω,kU6 ω]
  ·have u:y=0:=ω;subst u;rw[qQ5,Nat.zero_mul];have D:dlen x≠0:=fun e=>hx (qQ8.1 e);have F:0<x*2^(ea - min ea eb).toNat:=Nat.mul_pos ω (kF3 _);unfold cmpI;rw[kU5 ω,kU6 ω,kU5 ω,kU6 ω]
 ·rw[kU5 Y];have V:x≠0:=fun e=>Y (.inl e);have J:y≠0:=fun e=>Y (.inr e);by_cases H:(bl x:Int)+ea=bl y+eb
  ·rw[kU6 H];rcases qY2 (x*2^(ea - min ea eb).toNat:Nat) (y*2^(eb - min ea eb).toNat:Nat)with h|h|h <;> rw[h.2] <;> rfl
  ·rw[kU5 H];rcases qY2 (bl x+ea) (bl y+eb)with h|h|h
   ·have:=zD5 (x:=x) (k:=(ea - min ea eb).toNat) (l:=(eb - min ea eb).toNat) J ω
    unfold cmpI;rw[kU6 ω,kU6 ω]
   ·have:=zD5 (x:=y) (y:=x) (k:=(eb - min ea eb).toNat) (l:=(ea - min ea eb).toNat) V ω
    unfold cmpI;rw[kU5 ω,kU6 ω,kU5 ω,kU6 ω]
   ·exact absurd h.1 H
theorem xG2 {x y:Nat} {ea eb:Int} (hx:dlen x≤400000) (u:dlen y≤400000) (J : -2000000≤ea∧ea≤2000000) (Y : -2000000≤eb∧eb≤2000000) : -90000000000≤magI x ea y eb∧magI x ea y eb≤90000000000:=by
 have H:=qY3 x;have V:=qY3 y;unfold magI;split
 ·omega
 ·split
  ·rcases qY2 (x*2^(ea - min ea eb).toNat:Nat) (y*2^(eb - min ea eb).toNat:Nat)with h|h|h <;> rw[h.2] <;> omega
  ·omega
theorem xL {na nb:Bool} {ua V:Option Addr} {uc J x y:Nat} {ea eb:Int} {w:World} (h1:Arg w ua (dlen x) uc x) (h2:Arg w V (dlen y) J y) (hx:dlen x≤400000) (hy:dlen y≤400000) (ha : -2000000≤ea∧ea≤2000000) (hb : -2000000≤eb∧eb≤2000000) :
  Ca 49 #[.agg (Nu na ua (dlen x) uc ea),.agg (Nu nb V (dlen y) J eb)] w (Rq w (iV (ordN na x ea nb y eb))):=by
 have T:∀ W,Bw w W→Ca 47 #[.agg (Nu na ua (dlen x) uc ea)] W (Rq W (iV (sgI na (dlen x)))):=fun W hW=>rsgn ω;have D:∀ W,Bw w W→Ca 47 #[.agg (Nu nb V (dlen y) J eb)] W (Rq W (iV (sgI nb (dlen y)))):=fun W hW=>rsgn ω;have C:∀ W,Bw w W→Ca 114 #[.agg (Nu na ua (dlen x) uc ea),.agg (Nu nb V (dlen y) J eb)] W (Rq W (iV (magI x ea y eb))):=fun W hW=>rmag (h1.later hW) (h2.later hW) hx hy ha hb;have Y:=xG2 (ea:=ea) (eb:=eb) hx hy ha hb;have hm:=yY8 (x:=x) (y:=y) (ea:=ea) (eb:=eb);unfold ordN;rw[←hm];generalize qQ:sgI na (dlen x)=u at *;generalize qY:sgI nb (dlen y)=H at *;generalize magI x ea y eb=c at *;by_cases F:u=H
 ·rw[kU6 F];have qU:u=0∨u = -1∨u=1:=by
   rw[←qQ];unfold sgI;split
   ·exact .inl rfl
   ·split
    ·exact .inr (.inl rfl)
    ·exact .inr (.inr rfl)
  by_cases I:u<0
  ·have qX:u = -1:=ω;rcases qY2 c 0 with h|h|h
   ·rw[h.2,show u * -1=1 by omega];exact qU5 na nb ua V _ uc _ J ea eb u H c _ w F (.inr ⟨I,.inr (.inr ⟨h.1,rfl⟩)⟩) Y.1 Y.2 T D C
   ·rw[h.2,show u*1 = -1 by omega];exact qU5 na nb ua V _ uc _ J ea eb u H c _ w F (.inr ⟨I,.inr (.inl ⟨h.1,rfl⟩)⟩) Y.1 Y.2 T D C
   ·rw[h.2,Int.mul_zero];exact qU5 na nb ua V _ uc _ J ea eb u H c _ w F (.inr ⟨I,.inl ⟨h.1,rfl⟩⟩) Y.1 Y.2 T D C
  ·by_cases h0:u=0
   ·have qV:c=0:=by
     have qJ:dlen x=0:=by
      apply Decidable.byContradiction
      intro qZ;rw[h0,qP7 qZ] at qQ;cases na <;> simp at qQ
     have qK:dlen y=0:=by
      apply Decidable.byContradiction
      intro qZ;rw[←F,h0,qP7 qZ] at qY;cases nb <;> simp at qY
     have ex:=qQ8.1 qJ;have ey:=qQ8.1 qK;subst ex;subst ey;rw[Nat.zero_mul,Nat.zero_mul] at hm;rcases qY2 c 0 with h|h|h
     ·rw[h.2] at hm;exact absurd hm δ
     ·rw[h.2] at hm;exact absurd hm δ
     ·exact h.1
    rw[show u*cmpI c 0=0 by rw[h0,Int.zero_mul]]
    exact qU5 na nb ua V _ uc _ J ea eb u H c _ w F (.inl ⟨ω,.inl ⟨qV,rfl⟩⟩) Y.1 Y.2 T D C
   ·have qX:u=1:=ω;rw[show u*cmpI c 0=cmpI c 0 by rw[qX,Int.one_mul]]
    rcases qY2 c 0 with h|h|h
    ·rw[h.2];exact qU5 na nb ua V _ uc _ J ea eb u H c _ w F (.inl ⟨ω,.inr (.inr ⟨h.1,rfl⟩)⟩) Y.1 Y.2 T D C
    ·rw[h.2];exact qU5 na nb ua V _ uc _ J ea eb u H c _ w F (.inl ⟨ω,.inr (.inl ⟨h.1,rfl⟩)⟩) Y.1 Y.2 T D C
    ·rw[h.2];exact qU5 na nb ua V _ uc _ J ea eb u H c _ w F (.inl ⟨ω,.inl ⟨h.1,rfl⟩⟩) Y.1 Y.2 T D C
 ·rw[kU5 F];unfold cmpI;by_cases L:u<H
  ·rw[kU6 L];exact yZ9 na nb ua V _ uc _ J ea eb u H c w L T D
  ·rw[kU5 L,kU6 ω];exact yX0 na nb ua V _ uc _ J ea eb u H c w L F T D
end Go.Proofs.YtfkaogdmlcdceaaGreatDoor
namespace Go.Proofs.YtfkaogdmlcdceaaGreatDoor
open Go.RowKit Go.Fl64
attribute [local go_sem] iV Nu
def gS (t1 t2:Bool×Nat×Int):Bool×Nat×Int:=cn (sumN t1.1 t1.2.1 t1.2.2 t2.1 t2.2.1 t2.2.2).1 (sumN t1.1 t1.2.1 t1.2.2 t2.1 t2.2.1 t2.2.2).2.1 (sumN t1.1 t1.2.1 t1.2.2 t2.1 t2.2.1 t2.2.2).2.2
def gM (t1 t2:Bool×Nat×Int):Bool×Nat×Int:=cn (!(t1.1==t2.1)) (t1.2.1*t2.2.1) (t1.2.2+t2.2.2)
def gD (t1 t2:Bool×Nat×Int):Bool×Nat×Int:=cn (sumN t1.1 t1.2.1 t1.2.2 (!t2.1&&decide (0<dlen t2.2.1)) t2.2.1 t2.2.2).1 (sumN t1.1 t1.2.1 t1.2.2 (!t2.1&&decide (0<dlen t2.2.1)) t2.2.1 t2.2.2).2.1 (sumN t1.1 t1.2.1 t1.2.2 (!t2.1&&decide (0<dlen t2.2.1)) t2.2.1 t2.2.2).2.2
def gN (t:Bool×Nat×Int):Bool×Nat×Int:=if t.2.1=0 then(false,0,0) else(!t.1,t.2.1,t.2.2)
theorem yS9 (na nb sg:Bool) (ua C:Option Addr) (un uc T L x y:Nat) (ea eb:Int) (w:World) (h1:Ir w (.slice ua un uc) x) (h2:Ir w (.slice C T L) y) (hx:dlen x≤400000) (hy:dlen y≤400000) (qC : -4000000≤ea) (qW:ea≤4000000) (qL : -4000000≤eb) (qT:eb≤4000000) (qF:(!(na==nb))=sg) :
  Ca 39 #[.agg (Nu na ua un uc ea),.agg (Nu nb C T L eb)] w fun r w'=>∃ a,r=.returned a∧NC w' w.heap.size a sg (x*y) (ea+eb)∧Bw w w':=by
 obtain⟨W,hW⟩:=eE (((w.alloc (.cells (Nu na ua un uc ea) 54)).alloc (.cells (Nu nb C T L eb) 54)).alloc (.cells (Nu false none 0 0 0) 54));obtain⟨hA,V,hC,qY,Y⟩:=qK9 _ _ _ hW;have qH:dlen (x*y)≤1000000:=by
  have l1:=(qZ3 (dlen x) x).1 lR;have l2:=(qZ3 (dlen y) y).1 lR;have:dlen (x*y)≤dlen x+dlen y:=(qZ3 _ _).2 (by
   rw[kN3];rcases Nat.eq_zero_or_pos x with h|h
   ·rw[h,Nat.zero_mul];exact Nat.mul_pos (qZ2 _) (qZ2 _)
   ·exact Nat.mul_lt_mul_of_lt_of_le l1 (kM8 l2) (qZ2 _))
  omega
 have HH:Hid _:=aI3 hC qY Y;have qQ:∀ w4,Bw W w4→Ca 104 #[.slice ua un uc,.slice C T L] w4 fun r w'=>∃ v,r=.returned v∧Own w' W.heap.size v (x*y)∧Bw W w':=fun w4 u =>
  (rprod ((h1.later Y).later u) ((h2.later Y).later u) ω ω).mono fun r w' ⟨v,e1,o1,o2⟩=>⟨v,e1,o1.mono u.size,u.trans (o2.mono u.size)⟩
 have qZ:∀ v5 D,Own D W.heap.size v5 (x*y)→Bw W D→Ca 103 #[.bool sg,v5,iV (ea+eb)] D fun r w'=>∃ s ao n cap ex,r=.returned (.agg (Nu s ao n cap ex)) ∧
   Hid (NC w' D.heap.size (.agg (Nu s ao n cap ex)) sg (x*y) (ea+eb)∧W.heap.size≤D.heap.size)∧Bw W w'∧Hid (Hn w' (w.heap.size+1+1) false none 0 0 0 54) ∧
   (C3 w' (w.heap.size+1+1) false none 0 0 0)∧(w'.frozen? ⟨w.heap.size+1+1,0,none⟩=false∧w'.frozen? ⟨w.heap.size+1+1,1,none⟩=false∧w'.frozen? ⟨w.heap.size+1+1,2,none⟩=false):=by
  intro v5 D ho u;obtain⟨qE,qS,rfl,qB,-,qJ⟩:=ho.is;refine(yA6 qJ lR qB ω ω).mono ?_
  rintro r w6 ⟨a,rfl,hN,J⟩;obtain⟨s,ao,n,cap,ex,rfl⟩:=hN.shape;have F:=u.trans (J.mono u.size);have H:=qQ0 HH.out.1 F (by have:=HH.out.2.1;omega)
  obtain⟨f1,f2⟩:=qQ1 H;exact⟨s,ao,n,cap,ex,rfl,⟨hN,u.size⟩,F,H,f1,f2⟩
 obtain⟨⟨a0,a1,a2⟩,-⟩:=qQ1 hA;obtain⟨⟨b0,b1,b2⟩,-⟩:=qQ1 V;have HK:Hid (∀ w',Bw W w'→((C3 w' w.heap.size na ua un uc ea)∧(C3 w' (w.heap.size+1) nb C T L eb))):=fun w' u=>⟨(qQ1 (qQ0 hA u ω)).1,(qQ1 (qQ0 V u ω)).1⟩;have qG:Hid (∀ w',Below (w.heap.size+1+1) W w'→((C3 w' w.heap.size na ua un uc ea)∧(C3 w' (w.heap.size+1) nb C T L eb))):=fun w' u=>⟨(qQ1 (qQ0 hA u ω)).1,(qQ1 (qQ0 V u ω)).1⟩;have qD:Hid (w.heap.size+1+1≤W.heap.size):=(by omega:w.heap.size+1+1≤W.heap.size)
 have qN:Bw W W.drew:=bR.drew;have wz:IntKind.i64.wrap (ea+eb)=ea+eb:=by rw[kB5];omega
 clear hA V hC qY Y h1 h2 hx hy qH
 go_enter Tryz.func39,Tryz.ntmps39
 go_upto_region 1 with fail;rw[←hW];clear hW
 go_region_held3 (fun w'=>((C3 w' w.heap.size na ua un uc ea)∧(C3 w' (w.heap.size+1) nb C T L eb))) (first|(with_reducible assumption)|exact⟨⟨a0,a1,a2⟩,b0,b1,b2⟩|(refine HK.out _ ?_;with_reducible assumption)|(refine qG.out _ (qQ4 (Below.mono J qD.out) lR _ _ _))|go_keep)
  (first|(go_at_call 104;refine(qQ _ (by first|(with_reducible assumption)|exact qN)).mono ?_;rintro r D ⟨v5,rfl,qX,qK⟩)|(go_at_call 103;(try simp only[qF,wz]);refine(qZ _ _ qX qK).mono ?_;rintro r w6 ⟨s6,qP,n6,qU,qM,rfl,qV,J,I,⟨x1,x2,x3⟩,x4,x5,x6⟩))
 have HF:Hid _:=J;clear qX qK J qZ qQ x1 x2 x3 x4 x5 x6 a0 a1 a2 b0 b1 b2 HK qG
 go_wp2;refine kB8 (kM2 rfl _ _ (w.heap.size+1+1) 54 (Nu s6 qP n6 qU qM) (0,0) _ rfl (qZ9 _ _ _ I.out) Tryz.underlying54 rfl Tryz.info54) rfl ?_;obtain⟨-,hs,Y⟩:=HH.out;have qR:=qV.out.2;exact⟨_,rfl,(qV.out.1.store ω _ _ _).mono ω,qQ4 (Y.trans (HF.out.mono Y.size)) ω _ _ _⟩
theorem garg0 (w:World):Arg w none 0 0 0:=⟨fun _=>.inr ⟨rfl,rfl⟩,⟨0,0,fun h=>absurd h ω,fun i hi=>absurd hi ω⟩,kH8 _,ω⟩
theorem yJ5 (w:World):Arg w none (dlen 0) 0 0:=by rw[qQ5];exact garg0 w
theorem gdn0 (w:World):DN w (.agg (Nu false none 0 0 0)) (false,0,0):=⟨none,0,by show _=Value.agg (Nu false none (dlen 0) 0 0);rw[qQ5],yJ5 w⟩
def Gn (t:Bool×Nat×Int):Prop:=cn t.1 t.2.1 t.2.2=t∧dlen t.2.1≤60000 ∧ -1000000≤t.2.2∧t.2.2≤1000000
theorem gplus {J u:Bool×Nat×Int} {X Y:Value} {w:World} (F:Gn J) (H:Gn u) (L:DN w X J) (T:DN w Y u):Ca 83 #[X,Y] w fun r w'=>∃ A,r=.returned A∧DN w' A (gS J u)∧Bw w w':=by
 obtain⟨ao,cap,rfl,I⟩:=L;obtain⟨C,V,rfl,a2⟩:=T;obtain⟨W,f1,f2,f3⟩:=F;obtain⟨c2,g1,g2,g3⟩:=H;exact(qO5 I a2 W c2 ω ω ω ω ω ω).mono fun r w' ⟨A,e,h,D⟩=>⟨A,e,h.dn,D⟩
theorem xI5 {u J:Bool×Nat×Int} {X Y:Value} {w:World} (D:Gn u) (F:Gn J) (W:DN w X u) (L:DN w Y J) (V:u.1=J.1∨u.2.1=0):Ca 83 #[X,Y] w fun r w'=>∃ A,r=.returned A∧DN w' A (gS u J)∧Bw w w':=by
 obtain⟨ao,cap,rfl,a1⟩:=W;obtain⟨I,H,rfl,a2⟩:=L;obtain⟨C,f1,f2,f3⟩:=D;obtain⟨c2,g1,g2,g3⟩:=F;exact(yA5 a1 a2 C c2 ω ω ω ω ω ω V).mono fun r w' ⟨A,e,h,T⟩=>⟨A,e,h.dn,T⟩
theorem yJ2 {V J:Bool×Nat×Int} {X Y:Value} {w:World} (T:Gn V) (D:Gn J) (C:DN w X V) (W:DN w Y J):Ca 39 #[X,Y] w fun r w'=>∃ A,r=.returned A∧DN w' A (gM V J)∧Bw w w':=by
 obtain⟨ao,cap,rfl,F⟩:=C;obtain⟨H,u,rfl,a2⟩:=W;obtain⟨c1,f1,f2,f3⟩:=T;obtain⟨c2,g1,g2,I⟩:=D;exact(yS9 V.1 J.1 _ ao H _ cap _ u V.2.1 J.2.1 V.2.2 J.2.2 w ⟨ao,cap,rfl,F.le,F.at_⟩ ⟨H,u,rfl,a2.le,a2.at_⟩ ω ω ω ω ω ω rfl).mono fun r w' ⟨A,e,h,L⟩=>⟨A,e,h.dn,L⟩
theorem xI7 {J u:Bool×Nat×Int} {X Y:Value} {w:World} (F:Gn J) (H:Gn u) (T:DN w X J) (D:DN w Y u):Ca 49 #[X,Y] w (Rq w (iV (ordN J.1 J.2.1 J.2.2 u.1 u.2.1 u.2.2))):=by
 obtain⟨ao,cap,rfl,W⟩:=T;obtain⟨L,V,rfl,a2⟩:=D;obtain⟨c1,f1,f2,f3⟩:=F;obtain⟨c2,g1,I,C⟩:=H;exact xL W a2 ω ω ω ω
theorem Gn.zero {t:Bool×Nat×Int} (h:Gn t) (u:t.2.1=0):t=(false,0,0):=by
 have e:=h.1;unfold cn at e;rw[kU6 u] at e;exact e.symm
theorem zY1 {t:Bool×Nat×Int} (h:cn t.1 t.2.1 t.2.2=t) (u:t.2.1≠0) (s:Bool):cn s t.2.1 t.2.2=(s,t.2.1,t.2.2):=by
 unfold cn at h ⊢;rw[kU5 u] at h ⊢;rw[Prod.ext_iff] at h;exact Prod.ext rfl h.2
theorem xH4 {H J:Bool×Nat×Int} {X Y:Value} {w:World} (o1:Gn H) (L:Gn J) (h1:DN w X H) (h2:DN w Y J):Ca 45 #[X,Y] w fun r w'=>∃ A,r=.returned A∧DN w' A (gD H J)∧Bw w w':=by
 obtain⟨ao,cap,rfl,a1⟩:=h1;obtain⟨V,u,rfl,a2⟩:=h2;have z2:=L.zero;obtain⟨I,f1,f2,f3⟩:=o1;obtain⟨c2,g1,g2,g3⟩:=L;unfold gD;by_cases D:J.2.1=0
 ·have e2:=z2 D;have e3:J.1=false:=by rw[e2]
  have e4:J.2.2=0:=by rw[e2]
  rw[D,e3,e4,qQ5];have C:=fun(W:World) (F:Bw w W)=>qO5 (nb:=false) (y:=0) (eb:=0) (a1.later F) (yJ5 W) I rfl ω ω ω ω ω (by rw[qQ5];omega)
  simp only[qQ5] at C;exact(qS8 H.1 false ao V (dlen H.2.1) cap 0 u H.2.2 0 false none 0 0 0 _ _ _ w (fun W=>zX5 false V u 0 W) C).mono fun r w' ⟨A,e,h,T⟩=>⟨A,e,h.dn,T⟩
 ·have hl:0<dlen J.2.1:=by have:=qJ1 D;omega
  rw[kF2 hl,Bool.and_true];exact(qS8 H.1 J.1 ao V (dlen H.2.1) cap (dlen J.2.1) u H.2.2 J.2.2 (!J.1) V (dlen J.2.1) u J.2.2 _ _ _ w (fun W=>qC0 J.1 V (dlen J.2.1) u J.2.2 W ω (by rw[kN2];omega)) (fun W F=>qO5 (a1.later F) (a2.later F) I (zY1 c2 D _) ω ω ω ω ω ω)).mono fun r w' ⟨A,e,h,T⟩=>⟨A,e,h.dn,T⟩
theorem yJ4 (na:Bool) (ua:Option Addr) (uc:Nat) (ea k:Int) (w:World) :
  Ca 37 #[.agg (Nu na ua 0 uc ea),iV k] w (Rq w (.agg (Nu false none 0 0 0))):=by
 obtain⟨W,Y⟩:=eE ((w.alloc (.cells (Nu na ua 0 uc ea) 54)).alloc (.cells (Nu false none 0 0 0) 54));obtain⟨H,V,J,u⟩:=qU9 _ _ Y;obtain⟨⟨a0,a1,a2⟩,-⟩:=qQ1 H;obtain⟨⟨I,C,L⟩,T,D,F⟩:=qQ1 V;have HX:Hid _:=And.intro u V;clear H V J u;have HE:Hid _:=Y;rw[Y] at a0 a1 a2 I C L T D F;clear Y
 go_enter Tryz.func37,Tryz.ntmps37
 go_wp2;refine kB8 (kM2 rfl _ _ (w.heap.size+1) 54 (Nu false none 0 0 0) (0,0) _ rfl (qU9 _ _ rfl).2.1 Tryz.underlying54 rfl Tryz.info54) rfl ?_;exact⟨rfl,(qU9 _ _ rfl).2.2.2⟩
def gK (k:Int) (t:Bool×Nat×Int):Bool×Nat×Int:=if t.2.1=0 then(false,0,0) else(t.1,t.2.1,t.2.2+k)
theorem yJ3 (na:Bool) (ua:Option Addr) (un uc:Nat) (ea k:Int) (w:World) (hn:un≤35184372088832) (F:((un:Int)==0)=false) (he : -2000000≤ea∧ea≤2000000) (L : -2000000≤k∧k≤2000000) :
  Ca 37 #[.agg (Nu na ua un uc ea),iV k] w (Rq w (.agg (Nu na ua un uc (ea+k)))):=by
 obtain⟨W,Y⟩:=eE ((w.alloc (.cells (Nu na ua un uc ea) 54)).alloc (.cells (Nu false none 0 0 0) 54));obtain⟨H,V,u,J⟩:=qU9 _ _ Y;obtain⟨⟨a0,a1,a2⟩,-⟩:=qQ1 H;obtain⟨⟨b0,b1,b2⟩,b3,b4,b5⟩:=qQ1 V;obtain⟨I,C⟩:=he;obtain⟨T,D⟩:=L;clear H V u J;rw[Y] at a0 a1 a2 b0 b1 b2 b3 b4 b5;clear Y
 go_enter Tryz.func37,Tryz.ntmps37
 go_wp2;refine kB8 (kM2 rfl _ _ (w.heap.size+1) 54 (Nu na ua un uc (ea+k)) (0,0) _ rfl (qU9 _ _ rfl).2.1 Tryz.underlying54 rfl Tryz.info54) rfl ?_;exact⟨rfl,(qU9 _ _ rfl).2.2.2⟩
theorem zY0 {t:Bool×Nat×Int} {X:Value} {w:World} {k:Int} (o:Gn t) (h:DN w X t) (F : -1000000≤k∧k≤1000000):Ca 37 #[X,iV k] w fun r w'=>∃ A,r=.returned A∧DN w' A (gK k t)∧Bw w w':=by
 obtain⟨ao,cap,rfl,J⟩:=h;have V:=o.zero;obtain⟨W,L,T,D⟩:=o;unfold gK;by_cases Y:t.2.1=0
 ·rw[kU6 Y,Y,qQ5];refine(yJ4 t.1 ao cap t.2.2 k w).mono ?_
  rintro r w' ⟨rfl,u⟩;exact⟨_,rfl,gdn0 _,u⟩
 ·rw[kU5 Y];have H:0<dlen t.2.1:=by have:=qJ1 Y;omega
  refine(yJ3 t.1 ao (dlen t.2.1) cap t.2.2 k w ω (by rw[kN2];omega) ⟨ω,ω⟩ ⟨ω,ω⟩).mono ?_
  rintro r w' ⟨rfl,u⟩;exact⟨_,rfl,⟨ao,cap,rfl,J.later u⟩,u⟩
theorem xI8 {t:Bool×Nat×Int} {A:Value} {w:World} (h:DN w A t):Ca 111 #[A] w fun r w'=>∃ B,r=.returned B∧DN w' B (gN t)∧Bw w w':=by
 obtain⟨ao,cap,rfl,J⟩:=h;unfold gN;by_cases Y:t.2.1=0
 ·rw[kU6 Y,qQ8.2 Y];refine(zX5 t.1 ao cap t.2.2 w).mono ?_
  rintro r w' ⟨rfl,u⟩;exact⟨_,rfl,gdn0 _,u⟩
 ·rw[kU5 Y];have V:dlen t.2.1≠0:=fun e=>Y (qQ8.1 e);refine(qC0 t.1 ao (dlen t.2.1) cap t.2.2 w J.small (by simp;omega)).mono ?_
  rintro r w' ⟨rfl,u⟩;exact⟨_,rfl,⟨ao,cap,rfl,J.later u⟩,u⟩
theorem yS7 (n:Int) (m:Nat) (w:World) (hm:m<18446744073709551616) (qZ:0≤n) (qQ:n≤9223372036854775807) (C:IntKind.u64.wrap n=(m:Int)) :
  Ca 46 #[iV n] w fun r w'=>∃ A,r=.returned A∧NC w' w.heap.size A false m 0∧Bw w w':=by
 have I:¬ n<0:=ω;obtain⟨W,J⟩:=eE (w.alloc (.cells (Nu false none 0 0 0) 54));have Y:=qD7 (ng:=false) (m:=m) (e:=0) (W:=W) hm ω;have u:Hid (Bw w W∧Hn W w.heap.size false none 0 0 0 54∧W.heap.size=w.heap.size+1):=⟨by rw[J];exact bR.alloc lR _,by rw[J];exact kB7 _ _,by rw[J];simp⟩
 (try unfold Bw at Y);rw[u.out.2.2] at Y
 go_enter Tryz.func46,Tryz.ntmps46
 go_wp2_with fail;rw[←J];clear J;refine Y.mono ?_;rintro r H ⟨s,ao,n,cap,ex,rfl,T,F⟩;have D:=u.out.2.2;have V:Hid (Hn H w.heap.size false none 0 0 0 54):=qQ0 u.out.2.1 F ω;obtain⟨⟨a1,a2,a3⟩,a4,a5,a6⟩:=qQ1 V.out;have L:Hid (NC H (w.heap.size+1) (.agg (Nu s ao n cap ex)) false m 0∧Below (w.heap.size+1) W H):=⟨T.mono ω,F⟩;clear T F Y D
 go_wp2;refine kB8 (kM2 rfl _ _ w.heap.size 54 (Nu s ao n cap ex) (0,0) _ rfl (qZ9 _ _ _ V.out) Tryz.underlying54 rfl Tryz.info54) rfl ?_;have D:=u.out.2.2;exact⟨_,rfl,(L.out.1.store ω _ _ _).mono ω,qQ4 (u.out.1.trans (L.out.2.mono ω)) lR _ _ _⟩
theorem yS6 (n:Int) (m:Nat) (w:World) (hm:m<18446744073709551616) (qQ:n<0) (I : -9223372036854775808≤n) (C : -(n+1)+1=(m:Int)) :
  Ca 46 #[iV n] w fun r w'=>∃ A,r=.returned A∧NC w' w.heap.size A true m 0∧Bw w w':=by
 obtain⟨W,J⟩:=eE (w.alloc (.cells (Nu false none 0 0 0) 54));have Y:=qD7 (ng:=true) (m:=m) (e:=0) (W:=W) hm ω;have u:Hid (Bw w W∧Hn W w.heap.size false none 0 0 0 54∧W.heap.size=w.heap.size+1):=⟨by rw[J];exact bR.alloc lR _,by rw[J];exact kB7 _ _,by rw[J];simp⟩
 (try unfold Bw at Y);rw[u.out.2.2] at Y
 go_enter Tryz.func46,Tryz.ntmps46
 go_wp2_with fail;rw[←J];clear J;refine Y.mono ?_;rintro r H ⟨s,ao,n,cap,ex,rfl,T,F⟩;have D:=u.out.2.2;have V:Hid (Hn H w.heap.size false none 0 0 0 54):=qQ0 u.out.2.1 F ω;obtain⟨⟨a1,a2,a3⟩,a4,a5,a6⟩:=qQ1 V.out;have L:Hid (NC H (w.heap.size+1) (.agg (Nu s ao n cap ex)) true m 0∧Below (w.heap.size+1) W H):=⟨T.mono ω,F⟩;clear T F Y D
 go_wp2;refine kB8 (kM2 rfl _ _ w.heap.size 54 (Nu s ao n cap ex) (0,0) _ rfl (qZ9 _ _ _ V.out) Tryz.underlying54 rfl Tryz.info54) rfl ?_;have D:=u.out.2.2;exact⟨_,rfl,(L.out.1.store ω _ _ _).mono ω,qQ4 (u.out.1.trans (L.out.2.mono ω)) lR _ _ _⟩
theorem xI4 {n:Int} {w:World} (Y : -9223372036854775808≤n∧n≤9223372036854775807) :
  Ca 46 #[iV n] w fun r w'=>∃ A,r=.returned A∧DN w' A (cn (decide (n<0)) n.natAbs 0)∧Bw w w':=by
 by_cases h:n<0
 ·rw[kF2 h];exact(yS6 n n.natAbs w ω h ω ω).mono fun r w' ⟨A,e,h,u⟩=>⟨A,e,h.dn,u⟩
 ·rw[kF1 h];exact(yS7 n n.natAbs w ω ω ω (by rw[kB6];omega)).mono fun r w' ⟨A,e,h,u⟩=>⟨A,e,h.dn,u⟩
def un (Z:Int) (p:Nat):Bool×Nat×Int:=cn (decide (Z<0)) Z.natAbs (-(p:Int))
theorem zO9 (Z:Int):sv (decide (Z<0)) Z.natAbs=Z:=by
 unfold sv;by_cases h:Z<0
 ·rw[kU6 (kF2 h)];omega
 ·rw[kU5 (by simpa using h)];omega
theorem qT5 {K p:Nat} (Z:Int) (h:p≤K):vz K (un Z p).1 (un Z p).2.1 (un Z p).2.2=Z*((2^(K - p):Nat):Int):=by
 unfold un;rw[xZ8 ω];unfold vz;rw[zO9,show(-(p:Int)+(K:Int)).toNat=K - p by omega]
theorem tz_le {x b:Nat} (h:x<2^b):tz x≤b:=by
 by_cases Y:x=0
 ·rw[Y];exact kF8 (Nat.le_of_eq (by rw[tz];rfl)) (kB4 _)
 ·have u:=(qX0 x x lR Y).1;have V:2^tz x≤x:=by
   have J:0<x / 2^tz x:=by
    rcases Nat.eq_zero_or_pos (x / 2^tz x)with h|h
    ·rw[h,Nat.mul_zero] at u;omega
    ·exact h
   exact kF8 (Nat.le_mul_of_pos_right _ J) (Nat.le_of_eq u)
  exact kM8 ((Nat.pow_lt_pow_iff_right ω).1 (kF7 V h))
theorem un_e {Z:Int} {p b:Nat} (h:Z.natAbs<2^b) : -(p:Int)≤(un Z p).2.2∧(un Z p).2.2≤b∧0≤(un Z p).2.2+(p:Int):=by
 have Y:=tz_le h;unfold un cn;by_cases u:Z.natAbs=0
 ·rw[kU6 u];simp only;omega
 ·rw[kU5 u];simp only;omega
theorem qV9 {x b:Nat} (h:x<2^b):dlen x≤b / 32+1:=by
 refine(qZ3 _ _).2 (kF6 h ?_)
 rw[show B=2^32 by rfl,←Nat.pow_mul]
 exact kF4 δ ω
theorem zN9 (s:Bool) (z:Nat) (e:Int):cn (cn s z e).1 (cn s z e).2.1 (cn s z e).2.2=cn s z e:=by
 by_cases u:z=0
 ·unfold cn;rw[kU6 u,kU6 rfl]
 ·have Y:=(qX0 z z lR u).2;have:cn s z e=(s,z / 2^tz z,e+tz z):=by unfold cn;rw[kU5 u]
  rw[this];exact zG4 Y
theorem qH6 {Z:Int} {p b:Nat} (h:Z.natAbs<2^b):(un Z p).2.1<2^b:=by
 unfold un cn;split
 ·exact kF3 _
 ·exact kF7 (kF9 _ _) h
theorem qG3 {Z:Int} {p b:Nat} (h:Z.natAbs<2^b) (Y:b≤90000) (u:p≤90000):Gn (un Z p):=by
 have V:=un_e (p:=p) h;have J:=qV9 (qH6 (p:=p) h);exact⟨zN9 _ _ _,ω,ω,ω⟩
theorem zF1 {s:Bool} {z:Nat} {e:Int} {Z:Int} {p K:Nat} (Y:p≤K) (u:0≤e+K) (h:vz K s z e=Z*((2^(K - p):Nat):Int)):cn s z e=un Z p:=by
 unfold un;refine cn_eq u ω ?_;rw[h];unfold vz;rw[zO9,show(-(p:Int)+(K:Int)).toNat=K - p by omega]
theorem xH5 {a b:Int} {p:Nat}:gS (un a p) (un b p)=un (a+b) p:=by
 have u:=(un_e (p:=p) (Nat.lt_two_pow_self (n:=a.natAbs))).2.2;have e2:=(un_e (p:=p) (Nat.lt_two_pow_self (n:=b.natAbs))).2.2;unfold gS;have Y:0≤(sumN (un a p).1 (un a p).2.1 (un a p).2.2 (un b p).1 (un b p).2.1 (un b p).2.2).2.2+(p:Int):=by
  unfold sumN;split
  ·exact e2
  ·split
   ·exact u
   ·split
    ·simp only;omega
    ·split <;> (simp only;omega)
 refine zF1 (K:=p) lR Y ?_;rw[xZ7 u e2,qT5 a lR,qT5 b lR,←Int.add_mul]
theorem qU2 {Z:Int} {p:Nat}:((un Z p).1=true→0<dlen (un Z p).2.1)∧((un Z p).2.1=0↔Z=0):=by
 have Y:(un Z p).2.1=0↔Z=0:=by
  have h:=qT5 (K:=p) (p:=p) Z lR;have e:=qT6 (K:=p) (s:=(un Z p).1) (x:=(un Z p).2.1) (e:=(un Z p).2.2);rw[h,Nat.sub_self,kN7] at e;constructor
  ·intro u;have:=e.2 u;simpa using this
  ·intro u;exact e.1 (by rw[u];simp)
 refine⟨fun h=>?_,Y⟩
 by_cases u:(un Z p).2.1=0
 ·have:Z=0:=Y.1 u
  subst this;exact absurd h (by unfold un cn;rw[kU6 δ];decide)
 ·have:dlen (un Z p).2.1≠0:=fun e=>u (qQ8.1 e)
  omega
theorem xH6 {a:Int} {p:Nat}:gN (un a p)=un (-a) p:=by
 unfold gN;by_cases u:(un a p).2.1=0
 ·rw[kU6 u];have:=qU2.2.1 u
  subst this;unfold un cn;rw[kU6 δ]
 ·rw[kU5 u];have J:=(un_e (p:=p) (Nat.lt_two_pow_self (n:=a.natAbs))).2.2;have k:cn (!(un a p).1) (un a p).2.1 (un a p).2.2=(!(un a p).1,(un a p).2.1,(un a p).2.2):=zY1 (zN9 _ _ _) u _;rw[←k];refine zF1 (K:=p) lR J ?_;have h:=qT5 (K:=p) (p:=p) a lR;unfold vz at h ⊢;have Y:sv (!(un a p).1) (un a p).2.1 = - sv (un a p).1 (un a p).2.1:=by unfold sv;cases (un a p).1 <;> simp
  rw[Y,Int.neg_mul,h,Int.neg_mul]
theorem yJ7 {a b:Int} {p:Nat}:gD (un a p) (un b p)=un (a - b) p:=by
 have h:gD (un a p) (un b p)=gS (un a p) (gN (un b p)):=by
  unfold gD gS gN;by_cases u:(un b p).2.1=0
  ·rw[kU6 u];have Y:=qU2.2.1 u;subst Y;have e:un 0 p=(false,0,0):=by unfold un cn;rw[kU6 δ]
   rw[e,qQ5];rfl
  ·rw[kU5 u];have J:dlen (un b p).2.1≠0:=fun e=>u (qQ8.1 e);rw[kF2 (show 0<dlen (un b p).2.1 by omega),Bool.and_true]
 rw[h,xH6,xH5,Int.sub_eq_add_neg]
theorem yR0 {a b:Int} {p q:Nat}:gM (un a p) (un b q)=un (a*b) (p+q):=by
 have u:=(un_e (p:=p) (Nat.lt_two_pow_self (n:=a.natAbs))).2.2;have e2:=(un_e (p:=q) (Nat.lt_two_pow_self (n:=b.natAbs))).2.2;unfold gM;refine zF1 (K:=p+q) lR ω ?_;rw[xP4 u e2,qT5 a lR,qT5 b lR,Nat.sub_self,Nat.sub_self,Nat.sub_self];simp
theorem yJ6 {a:Int} {p:Nat} {k:Int} {q:Nat} (h:(p:Int) - k=q):gK k (un a p)=un a q:=by
 unfold gK;by_cases u:(un a p).2.1=0
 ·rw[kU6 u];have J:=qU2.2.1 u;subst J;unfold un cn;rw[kU6 δ]
 ·rw[kU5 u];unfold un at u ⊢;unfold cn at u ⊢;by_cases Y:a.natAbs=0
  ·rw[kU6 Y] at u;exact absurd rfl u
  ·rw[kU5 Y,kU5 Y];refine Prod.ext rfl (Prod.ext rfl ?_);simp only;omega
theorem yN5 (n:Int):cn (decide (n<0)) n.natAbs 0=un n 0:=rfl
end Go.Proofs.YtfkaogdmlcdceaaGreatDoor
namespace Go.Proofs.YtfkaogdmlcdceaaGreatDoor
attribute [local go_sem] iV Nu
inductive Smp:Nat→Nat→Nat→Nat→Nat→Nat→Prop
 | whole {a b c d:Nat}:0<b→a % b=0→Smp a b c d (a / b) 1
 | above {a b c d:Nat}:0<b→a % b≠0→(a / b+1)*d≤c→Smp a b c d (a / b+1) 1
 | more {a b c d p q:Nat}:0<b→a % b≠0→c<(a / b+1)*d→Smp d (c - a / b*d) b (a % b) p q→Smp a b c d (a / b*p+q) p
end Go.Proofs.YtfkaogdmlcdceaaGreatDoor
namespace Go.Proofs.YtfkaogdmlcdceaaGreatDoor
open Go.RowKit Go.Fl64
attribute [local go_sem] iV Nu
theorem zS9 {Z:Int} {p b:Nat} (h:Z.natAbs<2^b) (Y:b≤60000) (u:p≤60000):okR (decide (Z<0)) Z.natAbs (-(p:Int))=true :=
 Fits.ok (lo := -(p:Int)) (hi:=(b:Int) - p) (.inr ⟨ω,ω,by rw[show((b:Int) - p - (-(p:Int))).toNat=b by omega];exact h⟩) ω ω ω
theorem qH2 {Z:Int} {p b:Nat} (h:Z.natAbs<2^b) (Y:b≤60000) (u:p≤60000):Ok (un Z p):=ok_cn (zS9 h Y u)
theorem qM6 {x b:Nat} (k:Nat) (h:x<2^b):x<2^(b+k):=kF6 h (kF4 δ ω)
theorem zP1 {a b:Int} {k:Nat} (Y:a.natAbs<2^k) (u:b.natAbs<2^k):(a+b).natAbs<2^(k+1):=by rw[kN5];omega
theorem xM2 {a b:Int} {k:Nat} (Y:a.natAbs<2^k) (u:b.natAbs<2^k):(a - b).natAbs<2^(k+1):=by rw[kN5];omega
theorem qM0 {a b:Int} {k l:Nat} (Y:a.natAbs<2^k) (u:b.natAbs<2^l):(a*b).natAbs<2^(k+l):=by
 rw[Int.natAbs_mul,kN3];exact Nat.mul_lt_mul'' Y u
theorem qE7 {a b:Int} {p k:Nat} (J:a.natAbs<2^k) (Y:b.natAbs<2^k) (V:k<60000) (u:p≤60000):Op2 167 (un a p) (un b p) (un (a+b) p):=by
 have e:=xH5 (a:=a) (b:=b) (p:=p);have:=kV1 (qH2 (p:=p) J ω u) (qH2 (p:=p) Y ω u) (by
  rw[yY2];have o:=qH2 (p:=p) (zP1 J Y) ω u;rw[←e] at o;exact o)
 rw[←e];exact this
theorem xJ5 {a b:Int} {p k:Nat} (J:a.natAbs<2^k) (Y:b.natAbs<2^k) (V:k<60000) (u:p≤60000):Op2 161 (un a p) (un b p) (un (a - b) p):=by
 have e:=yJ7 (a:=a) (b:=b) (p:=p);have:=xS4 (qH2 (p:=p) J ω u) (qH2 (p:=p) Y ω u) (by
  rw[yY2];have o:=qH2 (p:=p) (xM2 J Y) ω u;rw[←e] at o;exact o)
 rw[←e];exact this
theorem xV0 {a b:Int} {p q k l:Nat} (Y:a.natAbs<2^k) (u:b.natAbs<2^l) (V:k+l≤60000) (J:p+q≤60000):Op2 162 (un a p) (un b q) (un (a*b) (p+q)):=by
 have e:=yR0 (a:=a) (b:=b) (p:=p) (q:=q);have:=xE6 (qH2 (p:=p) Y ω ω) (qH2 (p:=q) u ω ω) (by
  rw[yY2];have o:=qH2 (p:=p+q) (qM0 Y u) ω J;rw[←e] at o;exact o)
 rw[←e];exact this
theorem yI2 {a b:Int} {p:Nat}:ordN (un a p).1 (un a p).2.1 (un a p).2.2 (un b p).1 (un b p).2.1 (un b p).2.2=cmpI a b:=by
 have u:=(un_e (p:=p) (Nat.lt_two_pow_self (n:=a.natAbs))).2.2;have e2:=(un_e (p:=p) (Nat.lt_two_pow_self (n:=b.natAbs))).2.2;rw[xV7 u e2,qT5 a lR,qT5 b lR,Nat.sub_self,kN7];simp
theorem xV1 {a b:Int} {p k:Nat} (I:a.natAbs<2^k) (C:b.natAbs<2^k) (H:k≤60000) (V:p≤60000) {W:World} {X Y:Value} (L:PN W X (un a p)) (T:PN W Y (un b p)) :
  Ca 166 #[X,Y] W (Rq W (iV (cmpI a b))):=by
 have J:=qH2 (p:=p) I H V;have u:=qH2 (p:=p) C H V;have f1:=J.facts;have f2:=u.facts;obtain⟨ua,uc,rfl,D⟩:=L;obtain⟨va,vc,rfl,F⟩:=T;have:=kZ9 D F ω ω ω ω J u
 rw[yI2] at this;exact this
theorem zG0 {X Y A B:Nat} (H:0<Y) (F:0<B) (h:X*B=A*Y):X / Y=A / B∧(X % Y=0↔A % B=0):=by
 have V:X / Y=A / B:=by
  rw[←Nat.mul_div_mul_right X Y F,h,kN4 Y B,Nat.mul_div_mul_right A B H]
 refine⟨V,?_⟩
 have D:=Nat.div_add_mod X Y;have e2:=Nat.div_add_mod A B;have u:X % Y*B=A % B*Y:=by
  have W:X*B=Y*(A / B)*B+X % Y*B:=by rw[←Nat.add_mul,←V,D]
  have L:A*Y=B*(A / B)*Y+A % B*Y:=by rw[←Nat.add_mul,e2]
  have T:Y*(A / B)*B=B*(A / B)*Y:=by ac_rfl
  omega
 constructor
 ·intro J;rw[J,Nat.zero_mul] at u;rcases Nat.mul_eq_zero.1 u.symm with h|h
  ·exact h
  ·omega
 ·intro J;rw[J,Nat.zero_mul] at u;rcases Nat.mul_eq_zero.1 u with h|h
  ·exact h
  ·omega
theorem zI8 {A p:Nat}:(un (A:Int) p).1=false:=by
 unfold un cn;rw[kF1 ω];split <;> rfl
theorem yX8 {A B p k:Nat} (h1:A<2^k) (h2:B<2^k) (h0:0<B) (hk:k≤60000) (hp:p≤60000) {W:World} {X Y:Value} (hT:Tab32 W) (hX:PN W X (un (A:Int) p)) (hY:PN W Y (un (B:Int) p)) :
  Ca 90 #[X,Y,iV 0] W fun r w'=>∃ s ao n cap e,r=.returned (.tuple #[.agg (Nu s ao n cap e),.bool (decide (A % B=0)),iV 0])∧PN w' (.agg (Nu s ao n cap e)) (un ((A / B:Nat):Int) 0)∧Bw W w':=by
 have a1:((A:Nat):Int).natAbs<2^k:=by rw[kN1];exact h1
 have b1:((B:Nat):Int).natAbs<2^k:=by rw[kN1];exact h2
 have L:=qH2 (p:=p) a1 hk hp;have T:=qH2 (p:=p) b1 hk hp;have I:=L.facts;have C:=T.facts;have V:=qT5 (K:=p) (p:=p) (A:Int) lR;have J:=qT5 (K:=p) (p:=p) (B:Int) lR;have g1:=(un_e (p:=p) a1).2.2;have g2:=(un_e (p:=p) b1).2.2;have n1:=zI8 (A:=A) (p:=p);have n2:=zI8 (A:=B) (p:=p);have D:(un (B:Int) p).2.1≠0:=fun h=>by have:=qU2.2.1 h;omega
 obtain⟨ua,uc,rfl,i1⟩:=hX;obtain⟨va,vc,rfl,i2⟩:=hY;obtain⟨t1,qZ⟩:∃ t,t=un (A:Int) p:=⟨_,rfl⟩;obtain⟨t2,qQ⟩:∃ t,t=un (B:Int) p:=⟨_,rfl⟩;rw[←qZ] at L I V g1 n1 i1 ⊢;rw[←qQ] at T C J g2 n2 D i2 ⊢;obtain⟨s1,x,ea⟩:=t1;obtain⟨s2,y,eb⟩:=t2;simp only at L I V g1 n1 i1 T C J g2 n2 D i2 ⊢
 subst n1;subst n2;have eA:x*2^(ea+(p:Int)).toNat=A:=by
  unfold vz sv at V;rw[Nat.sub_self,kN7] at V;simp only[Bool.false_eq_true,if_false,Int.mul_one] at V;have:((x*2^(ea+(p:Int)).toNat:Nat):Int)=(A:Int):=by
   rw[kN8];simpa using V
  exact Int.ofNat.inj this
 have eB:y*2^(eb+(p:Int)).toNat=B:=by
  unfold vz sv at J;rw[Nat.sub_self,kN7] at J;simp only[Bool.false_eq_true,if_false,Int.mul_one] at J;have:((y*2^(eb+(p:Int)).toNat:Nat):Int)=(B:Int):=by
   rw[kN8];simpa using J
  exact Int.ofNat.inj this
 obtain⟨P,hP⟩:∃ P,x*2^(ea+0 - min (ea+0) eb).toNat=P:=⟨_,rfl⟩;obtain⟨Q,hQ⟩:∃ Q,y*2^(eb - min (ea+0) eb).toNat=Q:=⟨_,rfl⟩;have qK:0<Q:=by rw[←hQ];exact Nat.mul_pos (kB0 D) (kF3 _)
 have qX:P*B=A*Q:=by
  rw[←hP,←hQ,←eA,←eB];have e1:(ea+0 - min (ea+0) eb).toNat+(eb+(p:Int)).toNat=(ea+(p:Int)).toNat+(eb - min (ea+0) eb).toNat:=ω;generalize (ea+0 - min (ea+0) eb).toNat=j1 at *;generalize (eb+(p:Int)).toNat=j2 at *;generalize (ea+(p:Int)).toNat=j3 at *;generalize (eb - min (ea+0) eb).toNat=j4 at *;have e2:(2:Nat)^j1*2^j2=2^j3*2^j4:=by rw[←kN3,←kN3,e1]
  calc x*2^j1*(y*2^j2)=x*y*(2^j1*2^j2):=by ac_rfl
   _=x*y*(2^j3*2^j4):=by rw[e2]
   _=x*2^j3*(y*2^j4):=by ac_rfl
 obtain⟨d1,d2⟩:=zG0 qK h0 qX;refine(c44 (na:=false) (nb:=false) (place:=0) i1 i2 hT D ω ω L T ⟨I.2.1,I.2.2.1⟩ ⟨C.2.1,C.2.2.1⟩ ω P Q hP hQ).mono ?_
 rintro r w' ⟨N,rfl,hN,hb⟩;have hz:(if((false:Bool) != false) && !(decide (P % Q=0))then P / Q+1 else P / Q)=A / B:=by rw[←d1];rfl
 have F:decide (P % Q=0)=decide (A % B=0):=by
  by_cases h:A % B=0
  ·rw[kF2 h,kF2 (d2.2 h)]
  ·rw[kF1 h,kF1 (fun g=>h (d2.1 g))]
 rw[hz] at hN;have qY:((A / B:Nat):Int).natAbs<2^k:=by rw[kN1];exact kF7 (kF9 _ _) h1
 have H:okR ((false:Bool) != false) (A / B) (-(0:Int))=true:=by
  have:=zS9 (p:=0) qY hk ω
  rw[kF1 ω,kN1] at this;exact this
 rw[hz,H,F];have u:=hN.pn;have he:cn ((false:Bool) != false) (A / B) (-(0:Int))=un ((A / B:Nat):Int) 0:=by
  unfold un;rw[kF1 ω,kN1];rfl
 rw[he] at u;obtain⟨s',ao,n,cap,e',rfl⟩:=u.shape;exact⟨s',ao,n,cap,e',by rw[Bool.and_true];rfl,u,hb⟩
def Fv (W:World) (U:Value) (t1 t2:Bool×Nat×Int):Prop:=∃ (s1:Bool) (ao1:Option Addr) (n1 cp1:Nat) (e1:Int) (s2:Bool) (ao2:Option Addr) (n2 cp2:Nat) (e2:Int),U=.agg #[.bool s1,.slice ao1 n1 cp1,.int .i64 e1,.bool s2,.slice ao2 n2 cp2,.int .i64 e2]∧PN W (.agg #[.bool s1,.slice ao1 n1 cp1,.int .i64 e1]) t1∧PN W (.agg #[.bool s2,.slice ao2 n2 cp2,.int .i64 e2]) t2
theorem Fv.later {W w':World} {U:Value} {Y u:Bool×Nat×Int} (h:Fv W U Y u) (J:Bw W w'):Fv w' U Y u:=by
 obtain⟨_,_,_,_,_,_,_,_,_,_,e,H,V⟩:=h;exact⟨_,_,_,_,_,_,_,_,_,_,e,H.later J,V.later J⟩
theorem qU1 {w:World} {g:Nat} {a b c d e f:Value} {T:TypeId} (h:w.heap[g]?=some (.cells #[a,b,c,d,e,f] T (0,0))) :
  (w.cell? ⟨g,0,none⟩=some a∧w.cell? ⟨g,1,none⟩=some b∧w.cell? ⟨g,2,none⟩=some c∧w.cell? ⟨g,3,none⟩=some d∧w.cell? ⟨g,4,none⟩=some e∧w.cell? ⟨g,5,none⟩=some f)∧(w.frozen? ⟨g,0,none⟩=false∧w.frozen? ⟨g,1,none⟩=false∧w.frozen? ⟨g,2,none⟩=false∧w.frozen? ⟨g,3,none⟩=false∧w.frozen? ⟨g,4,none⟩=false∧w.frozen? ⟨g,5,none⟩=false):=by
 simp[World.cell?,World.frozen?,h]
theorem qK8 {w:World} {g:Nat} {a b c:Value} {T:TypeId} (h:w.heap[g]?=some (.cells #[a,b,c] T (0,0))) :
  (w.cell? ⟨g,0,none⟩=some a∧w.cell? ⟨g,1,none⟩=some b∧w.cell? ⟨g,2,none⟩=some c)∧(w.frozen? ⟨g,0,none⟩=false∧w.frozen? ⟨g,1,none⟩=false∧w.frozen? ⟨g,2,none⟩=false):=by
 simp[World.cell?,World.frozen?,h]
theorem qG9 {w W:World} (a b:Obj) (u:W=(w.alloc a).alloc b):W.heap[w.heap.size]?=some a∧W.heap[w.heap.size+1]?=some b∧W.heap.size=w.heap.size+1+1∧Bw w W:=by
 subst u;refine⟨?_,?_,by simp,(bR.alloc lR _).alloc (by simp) _⟩
 ·rw[Below.heap_alloc _ _ _ (by simp)];exact kB7 _ _
 ·have:=kB7 (w.alloc a) b
  simpa using this
theorem yL3 {W I:World} {ao:Option Addr} {n z g:Nat} {T:TypeId} {H s2:Bool} {C a2:Option Addr} {F L m2 c2:Nat} {D e2:Int} (h:At W ao n z) (Y:Hn W g H C F L D T∨W.heap[g]?=some (.cells #[.bool H,.slice C F L,iV D,.bool s2,.slice a2 m2 c2,iV e2] T (0,0))) (hW:∀ b,b≠g→I.heap[b]?=W.heap[b]?):At I ao n z:=by
 obtain⟨V,o,h1,h2⟩:=h;refine⟨V,o,h1,fun i hi=>?_⟩
 have u:=h2 i hi;have J:V≠g:=by
  rintro rfl;rcases Y with Y|Y
  ·simp only[World.cell?,Y] at u;rcases(show o+i=0∨o+i=1∨o+i=2∨3≤o+i by omega)with e|e|e|e
   ·rw[e] at u;simp at u
   ·rw[e] at u;simp at u
   ·rw[e] at u;simp at u
   ·rw[Array.getElem?_eq_none (by simpa using e)] at u;cases u
  ·simp only[World.cell?,Y] at u;rcases(show o+i=0∨o+i=1∨o+i=2∨o+i=3∨o+i=4∨o+i=5∨6≤o+i by omega)with e|e|e|e|e|e|e
   ·rw[e] at u;simp at u
   ·rw[e] at u;simp at u
   ·rw[e] at u;simp at u
   ·rw[e] at u;simp at u
   ·rw[e] at u;simp at u
   ·rw[e] at u;simp at u
   ·rw[Array.getElem?_eq_none (by simpa using e)] at u;cases u
 unfold World.cell? at u ⊢;rw[hW V J];exact u
theorem qK5 (W:World) (g b i:Nat) (v:Value) (h:b≠g):(W.setCell ⟨g,i,none⟩ v).heap[b]?=W.heap[b]?:=by
 simp[World.setCell,Array.getElem?_modify,Ne.symm h]
theorem PN.cells {W F:World} {A:Value} {t:Bool×Nat×Int} {g:Nat} {T:TypeId} {u s2:Bool} {H a2:Option Addr} {Y V m2 c2:Nat} {J e2:Int} (h:PN W A t) (L:Hn W g u H Y V J T∨W.heap[g]?=some (.cells #[.bool u,.slice H Y V,iV J,.bool s2,.slice a2 m2 c2,iV e2] T (0,0))) (D:∀ b,b≠g→F.heap[b]?=W.heap[b]?):PN F A t:=by
 obtain⟨ao,cap,rfl,a',c',h1,h2,I,C⟩:=h;exact⟨ao,cap,rfl,a',c',h1,h2,I,yL3 C L D⟩
theorem PN.set3 {W:World} {A:Value} {t:Bool×Nat×Int} {g:Nat} {T:TypeId} {Y:Bool} {D:Option Addr} {J F:Nat} {H:Int} (h:PN W A t) (V:Hn W g Y D J F H T) (x y z:Value):PN (((W.setCell ⟨g,0,none⟩ x).setCell ⟨g,1,none⟩ y).setCell ⟨g,2,none⟩ z) A t :=
 h.cells (s2:=false) (a2:=none) (m2:=0) (c2:=0) (e2:=0) (.inl V) fun b u=>by rw[qK5 _ _ _ _ _ u,qK5 _ _ _ _ _ u,qK5 _ _ _ _ _ u]
theorem qE4 {w:World} {g:Nat} {a b c d e f:Value} {T:TypeId} (V J u a2 Y c2:Value) (h:w.heap[g]?=some (.cells #[a,b,c,d,e,f] T (0,0))) :
  ((((((w.setCell ⟨g,0,none⟩ V).setCell ⟨g,1,none⟩ J).setCell ⟨g,2,none⟩ u).setCell ⟨g,3,none⟩ a2).setCell ⟨g,4,none⟩ Y).setCell ⟨g,5,none⟩ c2).heap[g]?=some (.cells #[V,J,u,a2,Y,c2] T (0,0)):=by
 simp[World.setCell,Array.getElem?_modify,h]
theorem PN.set6 {W:World} {A:Value} {t:Bool×Nat×Int} {g:Nat} {T:TypeId} {H s2:Bool} {I a2:Option Addr} {F C m2 c2:Nat} {L e2:Int} (h:PN W A t) (D:W.heap[g]?=some (.cells #[.bool H,.slice I F C,iV L,.bool s2,.slice a2 m2 c2,iV e2] T (0,0))) (x y z V J Y:Value):PN ((((((W.setCell ⟨g,0,none⟩ x).setCell ⟨g,1,none⟩ y).setCell ⟨g,2,none⟩ z).setCell ⟨g,3,none⟩ V).setCell ⟨g,4,none⟩ J).setCell ⟨g,5,none⟩ Y) A t :=
 h.cells (.inr D) fun b u=>by rw[qK5 _ _ _ _ _ u,qK5 _ _ _ _ _ u,qK5 _ _ _ _ _ u,qK5 _ _ _ _ _ u,qK5 _ _ _ _ _ u,qK5 _ _ _ _ _ u]
theorem qL9 {B:Nat} {Y w:World} {g:Nat} (h:Below B Y w) (u:B≤g) (x y z:Value):Below B Y (((w.setCell ⟨g,0,none⟩ x).setCell ⟨g,1,none⟩ y).setCell ⟨g,2,none⟩ z):=((h.setCell u _).setCell u _).setCell u _
theorem qB1 {B:Nat} {Y w:World} {g:Nat} (h:Below B Y w) (u:B≤g) (x y z H V J:Value):Below B Y ((((((w.setCell ⟨g,0,none⟩ x).setCell ⟨g,1,none⟩ y).setCell ⟨g,2,none⟩ z).setCell ⟨g,3,none⟩ H).setCell ⟨g,4,none⟩ V).setCell ⟨g,5,none⟩ J):=(((((h.setCell u _).setCell u _).setCell u _).setCell u _).setCell u _).setCell u _
theorem zF7 {w:World} {g:Nat} {a b c:Value} {T:TypeId} (J Y u:Value) (h:w.heap[g]?=some (.cells #[a,b,c] T (0,0))) :
  (((w.setCell ⟨g,0,none⟩ J).setCell ⟨g,1,none⟩ Y).setCell ⟨g,2,none⟩ u).heap[g]?=some (.cells #[J,Y,u] T (0,0)):=by
 simp[World.setCell,Array.getElem?_modify,h]
theorem qF4 {w W:World} (a b c:Obj) (J:W=((w.alloc a).alloc b).alloc c):W.heap[w.heap.size]?=some a∧W.heap[w.heap.size+1]?=some b∧W.heap[w.heap.size+1+1]?=some c∧Bw w W:=by
 obtain⟨V,Y⟩:=eE ((w.alloc a).alloc b);obtain⟨T,D,F,H⟩:=qG9 a b Y;have u:Bw V W:=by rw[J,←Y];exact bR.alloc lR _
 refine⟨qQ0 T u ω,qQ0 D u ω,?_,H.trans (u.mono H.size)⟩
 rw[J,←Y,←F];exact kB7 _ _
def OutP (W:World) (T:Bool×Nat×Int) (r:Ending) (w':World):Prop:=∃ s ao n cap e,r=.returned (.agg #[.bool s,.slice ao n cap,.int .i64 e])∧PN w' (.agg #[.bool s,.slice ao n cap,.int .i64 e]) T∧Bw W w'
def qT3 (W:World) (t1 t2:Bool×Nat×Int) (r:Ending) (w':World):Prop:=∃ U,r=.returned U∧Fv w' U t1 t2∧Bw W w'
end Go.Proofs.YtfkaogdmlcdceaaGreatDoor
namespace Go.Proofs.YtfkaogdmlcdceaaGreatDoor
open Go.RowKit
attribute [local go_sem] iV Nu
structure ParL (W0:World) (a0:Act) (m:Nat) (slot:Nat→Tmp) (V:Nat→World→Value→Prop) (listed:Array Bool) (a:Act) (w:World):Prop where
 below:Bw W0 w
 size:a.tmps.size=a0.tmps.size
 defers:a.defers=a0.defers
 other:∀ s,(∀ j,j<m→s≠slot j)→a.tmps[s]?=a0.tmps[s]?
 val:∀ j,j<m→listed.getD j false=true→∃ u,a.tmps[slot j]?=some u∧V j w u
theorem zB6 {P:Program} {H:Array Oper} {Q:Exit→Act→World→Prop} {id:Nat} (hm:P.follows .mixedOrders=true) (m:Nat) (J:Nat→Tmp) (qN:Nat→List Nat)
  (W0:World) (a0:Act) (V:Nat→World→Value→Prop) (qT:H.size=m+1)
  (qZ:∀ (i:Nat) (o:Oper),H[i]?=some o→∀ e ∈ o.after,e.on<i)
  (qR:∀ j w w' u,Bw w w'→V j w u→V j w' u)
  (qB:∀ j,j<m→∀ T ∈ qN j,T<m∧∀ o,H[j]?=some o→∃ e ∈ o.after,e.on=T∧Region.binds .any e=true)
  (hA:∀ j,j<m→∀ (a:Act) (w:World),Bw W0 w→(∀ s,(∀ j,j<m→s≠J j)→a.tmps[s]?=a0.tmps[s]?) →
   (∀ T ∈ qN j,∃ u,a.tmps[J T]?=some u∧V T w u)→wpOp P H Q j (fun a' w'=>∃ u,a'=a.put (some (J j)) u∧V j w' u∧Bw w w') a w)
  (qK:∀ o,H[m]?=some o→∀ j,j<m→∃ e ∈ o.after,e.on=j∧Region.binds .any e=true)
  (qS:∀ j,j<m→J j<a0.tmps.size)
  (qF:∀ j T,j<m→T<m→J j=J T→j=T)
  (hL:∀ (u:Nat→Value) (a:Act) (w:World),Bw W0 w→(∀ j,j<m→a.tmps[J j]?=some (u j)∧V j w (u j)) →
   a.tmps.size=a0.tmps.size→a.defers=a0.defers→(∀ s,(∀ j,j<m→s≠J j)→a.tmps[s]?=a0.tmps[s]?)→wpOp P H Q m (fun a' w'=>Q .normal a' w') a w) :
  (Code.region id H true).wp P Q a0 W0:=by
 refine wp_region_any hm ?_;refine qC7 (fun Y a w=>(Y.getD m false=false∧ParL W0 a0 m J V Y a w)∨((∀ i,i<m+1→Y.getD i false=true)∧Q .normal a w)) ?_ ?_ H.size _ a0 _ (by simp) ?_ (by simp)
 ·intro Y a w i hl F hr;obtain⟨qM,o,ho,qY⟩:=mem_ready.1 hr;have qQ:=qL1 qM;have qL:=(Array.getElem?_eq_some_iff.1 ho).1;have qJ:i<Y.size:=ω;have qG:=qL2 qJ;have qX:∀ x,x≠i→(Y.setIfInBounds i true).getD x false=Y.getD x false:=fun x hx=>getD_set_ne false (Ne.symm hx);rcases F with ⟨W,F⟩|⟨D,-⟩
  ·by_cases L:i<m
   ·refine wpOp_mono ?_ (hA i L a w F.below F.other fun T qD=>?_)
    ·rintro a' w' ⟨u,rfl,hu,hb⟩;have qP:J i<a.tmps.size:=by rw[F.size];exact qS i L
     refine .inl ⟨by rw[qX m ω];exact W,F.below.trans (hb.mono F.below.size),by rw[qR0];exact F.size,by rw[qF8];exact F.defers,fun s I=>?_,fun j C I=>?_⟩
     ·rw[qX7 (I i L)];exact F.other s I
     ·by_cases e:j=i
      ·subst e;exact⟨u,qP9 qP,hu⟩
      ·rw[qX j e] at I;obtain⟨u',g1,g2⟩:=F.val j C I;exact⟨u',by rw[qX7 (fun e2=>e (qF j i C L e2))];exact g1,qR _ _ _ _ hb g2⟩
    ·obtain⟨I,h2⟩:=qB i L T qD;obtain⟨e,he,rfl,qV⟩:=h2 o ho;exact F.val _ I (qY e he qV)
   ·obtain rfl:i=m:=ω;have qH:∀ j,j<i→Y.getD j false=true:=fun j C=>by
     obtain⟨e,he,rfl,qV⟩:=qK o ho j C;exact qY e he qV
    have qU:∀ j,∃ u,j<i→a.tmps[J j]?=some u∧V j w u:=fun j=>by
     by_cases C:j<i
     ·obtain⟨u,I,h2⟩:=F.val j C (qH j C);exact⟨u,fun _=>⟨I,h2⟩⟩
     ·exact⟨undef,fun h=>absurd h C⟩
    obtain⟨u,hu⟩:=Classical.axiomOfChoice qU;refine wpOp_mono ?_ (hL u a w F.below hu F.size F.defers F.other);intro a' w' hq;refine .inr ⟨fun j C=>?_,hq⟩;by_cases e:j=i
    ·rw[e];exact qG
    ·rw[qX j e];exact qH j ω
  ·rw[D i ω] at qQ;cases qQ
 ·intro Y a w hl F hr;rcases F with ⟨W,F⟩|⟨-,hq⟩
  ·exfalso;have D:∀ i,i<H.size→Y.getD i false=true:=by
    intro i;induction i using Nat.strongRecOn with
    | _ i ih =>
     intro hi;cases hx:Y.getD i false with
     | true=>rfl
     | false =>
      exfalso;have ho:=Array.getElem?_eq_getElem hi;have:i ∈ Region.ready .any H Y:=by
       refine mem_ready.2 ⟨?_,H[i],ho,fun e he _=>ih e.on (qZ i _ ho e he) (Nat.lt_trans (qZ i _ ho e he) hi)⟩;have qJ:i<Y.size:=ω;simp only[Array.getD_eq_getD_getElem?,Array.getElem?_eq_getElem qJ,Option.getD_some] at hx ⊢;exact hx
      rw[hr] at this;cases this
   rw[D m ω] at W;cases W
  ·exact hq
 ·have h0:∀ x,(Array.replicate H.size false).getD x false=true→False:=fun x h=>by
   simp[Array.getD_eq_getD_getElem?,Array.getElem?_replicate] at h;split at h <;> simp at h
  refine .inl ⟨?_,bR.drew,rfl,rfl,fun _ _=>rfl,fun j _ h=>(h0 _ h).elim⟩;cases hx:(Array.replicate H.size false).getD m false with
  | false=>rfl
  | true=>exact(h0 _ hx).elim
end Go.Proofs.YtfkaogdmlcdceaaGreatDoor
