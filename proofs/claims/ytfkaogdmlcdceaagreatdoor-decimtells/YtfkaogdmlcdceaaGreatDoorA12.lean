/- Own work: contracts of the program's functions, part 12: ShelfD RE1 RE3 RE4 DL1 DE1 FR1 FR2. -/
import Derived.Shelf.Strings.Builder1
import Derived.Shelf.Strings.Builder2
import Derived.Shelf.Strings.Trim
import Derived.Shelf.Small.Utf8
import Derived.Shelf.Small.Strs
import Derived.Shelf.Strings.Search1
import Derived.Shelf.Strings.Search2
import Derived.Shelf.Strings.Prefix
import Derived.Shelf.Strings.Runes
import Derived.Shelf.Strings.IndexAny
import Derived.Shelf.Strings.AsciiSet
import Derived.Shelf.Strings.IndexAnyAll
import Derived.Shelf.Strings.Repeat
import Derived.Test.YtfkaogdmlcdceaaGreatDoorProg
import Derived.Test.YtfkaogdmlcdceaaGreatDoorA8
import Derived.Test.YtfkaogdmlcdceaaGreatDoorA10
import Derived.Test.YtfkaogdmlcdceaaGreatDoorA7
import Derived.Test.YtfkaogdmlcdceaaGreatDoorA1

set_option maxHeartbeats 16000000
set_option maxRecDepth 200000
set_option linter.unusedVariables false
set_option linter.unusedSimpArgs false
/- The library's contracts at this program that decim uses. -/
namespace Go.Proofs
open Go.Shelf
def Tryz.lays161_ren:Go.Shelf.Ren:=⟨fun|161=>95|231=>163|227=>142|233=>164|235=>165|228=>173|197=>222|151=>206|260=>259|152=>171|137=>228|119=>229|224=>230|225=>231|217=>264|266=>279|n=>n,fun|9=>9|4=>4|3=>3|5=>5|117=>159|116=>158|0=>0|124=>162|105=>205|21=>21|119=>251|46=>130|139=>254|138=>253|n=>n,fun|3=>5|4=>6|n=>n⟩
theorem Tryz.lays161:Go.Proofs.Lays.n161 Tryz.prog Tryz.lays161_ren:={
 mixed:=by kernel_rfl
 f119:=Tryz.func229.trans (congrArg some (by kernel_rfl))
 f137:=Tryz.func228.trans (congrArg some (by kernel_rfl))
 f151:=Tryz.func206.trans (congrArg some (by kernel_rfl))
 f152:=Tryz.func171.trans (congrArg some (by kernel_rfl))
 f161:=Tryz.func95.trans (congrArg some (by kernel_rfl))
 f197:=Tryz.func222.trans (congrArg some (by kernel_rfl))
 f217:=Tryz.func264.trans (congrArg some (by kernel_rfl))
 f224:=Tryz.func230.trans (congrArg some (by kernel_rfl))
 f225:=Tryz.func231.trans (congrArg some (by kernel_rfl))
 f227:=Tryz.func142.trans (congrArg some (by kernel_rfl))
 f228:=Tryz.func173.trans (congrArg some (by kernel_rfl))
 f231:=Tryz.func163.trans (congrArg some (by kernel_rfl))
 f233:=Tryz.func164.trans (congrArg some (by kernel_rfl))
 f235:=Tryz.func165.trans (congrArg some (by kernel_rfl))
 f260:=Tryz.func259.trans (congrArg some (by kernel_rfl))
 f266:=Tryz.func279.trans (congrArg some (by kernel_rfl))
 t0:=Tryz.underlying0
 a0:=Tryz.isAgg0
 z0:=Tryz.sizeOf0
 v0:=Tryz.zeroValue0
 t3:=Tryz.underlying3
 a3:=Tryz.isAgg3
 z3:=Tryz.sizeOf3
 v3:=Tryz.zeroValue3
 t4:=Tryz.underlying4
 a4:=Tryz.isAgg4
 z4:=Tryz.sizeOf4
 v4:=Tryz.zeroValue4
 t5:=Tryz.underlying5
 a5:=Tryz.isAgg5
 z5:=Tryz.sizeOf5
 v5:=Tryz.zeroValue5
 t9:=Tryz.underlying9
 a9:=Tryz.isAgg9
 z9:=Tryz.sizeOf9
 v9:=Tryz.zeroValue9
 t21:=Tryz.underlying21
 a21:=Tryz.isAgg21
 z21:=Tryz.sizeOf21
 v21:=Tryz.zeroValue21
 t46:=Tryz.underlying130
 a46:=Tryz.isAgg130
 z46:=Tryz.sizeOf130
 v46:=Tryz.zeroValue130
 t105:=Tryz.underlying205
 a105:=Tryz.isAgg205
 z105:=Tryz.sizeOf205
 v105:=Tryz.zeroValue205
 t116:=Tryz.underlying158
 a116:=Tryz.isAgg158
 z116:=Tryz.sizeOf158
 t117:=Tryz.underlying159
 a117:=Tryz.isAgg159
 z117:=Tryz.sizeOf159
 v117:=Tryz.zeroValue159
 t119:=Tryz.underlying251
 a119:=Tryz.isAgg251
 z119:=Tryz.sizeOf251
 t124:=Tryz.underlying162
 a124:=Tryz.isAgg162
 z124:=Tryz.sizeOf162
 v124:=Tryz.zeroValue162
 t138:=Tryz.underlying253
 a138:=Tryz.isAgg253
 z138:=Tryz.sizeOf253
 v138:=Tryz.zeroValue253
 t139:=Tryz.underlying254
 a139:=Tryz.isAgg254
 z139:=Tryz.sizeOf254
 v139:=Tryz.zeroValue254
 g3:=by kernel_rfl
 g4:=by kernel_rfl }
open Go.RowKit in
theorem Tryz.strings_TrimLeft_one (s:ByteArray) (c:UInt8) (hc:c.toNat<128) (w:World) :
  Calls Tryz.prog 95 #[.string s,.string ⟨#[c]⟩] w fun e w'=>e=.returned (.string ⟨(Lib.trimLeftB s.data.toList c).toArray⟩)∧w'=w:=Any.strings_TrimLeft_one Tryz.lays161 s c hc w
def Tryz.lays162_ren:Go.Shelf.Ren:=⟨fun|162=>78|232=>141|227=>142|234=>143|236=>144|228=>173|271=>205|151=>206|120=>250|197=>222|152=>171|260=>259|137=>228|119=>229|224=>230|225=>231|217=>264|266=>279|n=>n,fun|9=>9|4=>4|3=>3|5=>5|117=>159|116=>158|0=>0|124=>162|21=>21|105=>205|46=>130|119=>251|139=>254|138=>253|n=>n,fun|3=>5|4=>6|n=>n⟩
theorem Tryz.lays162:Go.Proofs.Lays.n162 Tryz.prog Tryz.lays162_ren:={
 mixed:=by kernel_rfl
 f119:=Tryz.func229.trans (congrArg some (by kernel_rfl))
 f120:=Tryz.func250.trans (congrArg some (by kernel_rfl))
 f137:=Tryz.func228.trans (congrArg some (by kernel_rfl))
 f151:=Tryz.func206.trans (congrArg some (by kernel_rfl))
 f152:=Tryz.func171.trans (congrArg some (by kernel_rfl))
 f162:=Tryz.func78.trans (congrArg some (by kernel_rfl))
 f197:=Tryz.func222.trans (congrArg some (by kernel_rfl))
 f217:=Tryz.func264.trans (congrArg some (by kernel_rfl))
 f224:=Tryz.func230.trans (congrArg some (by kernel_rfl))
 f225:=Tryz.func231.trans (congrArg some (by kernel_rfl))
 f227:=Tryz.func142.trans (congrArg some (by kernel_rfl))
 f228:=Tryz.func173.trans (congrArg some (by kernel_rfl))
 f232:=Tryz.func141.trans (congrArg some (by kernel_rfl))
 f234:=Tryz.func143.trans (congrArg some (by kernel_rfl))
 f236:=Tryz.func144.trans (congrArg some (by kernel_rfl))
 f260:=Tryz.func259.trans (congrArg some (by kernel_rfl))
 f266:=Tryz.func279.trans (congrArg some (by kernel_rfl))
 f271:=Tryz.func205.trans (congrArg some (by kernel_rfl))
 t0:=Tryz.underlying0
 a0:=Tryz.isAgg0
 z0:=Tryz.sizeOf0
 v0:=Tryz.zeroValue0
 t3:=Tryz.underlying3
 a3:=Tryz.isAgg3
 z3:=Tryz.sizeOf3
 v3:=Tryz.zeroValue3
 t4:=Tryz.underlying4
 a4:=Tryz.isAgg4
 z4:=Tryz.sizeOf4
 v4:=Tryz.zeroValue4
 t5:=Tryz.underlying5
 a5:=Tryz.isAgg5
 z5:=Tryz.sizeOf5
 v5:=Tryz.zeroValue5
 t9:=Tryz.underlying9
 a9:=Tryz.isAgg9
 z9:=Tryz.sizeOf9
 v9:=Tryz.zeroValue9
 t21:=Tryz.underlying21
 a21:=Tryz.isAgg21
 z21:=Tryz.sizeOf21
 v21:=Tryz.zeroValue21
 t46:=Tryz.underlying130
 a46:=Tryz.isAgg130
 z46:=Tryz.sizeOf130
 v46:=Tryz.zeroValue130
 t105:=Tryz.underlying205
 a105:=Tryz.isAgg205
 z105:=Tryz.sizeOf205
 v105:=Tryz.zeroValue205
 t116:=Tryz.underlying158
 a116:=Tryz.isAgg158
 z116:=Tryz.sizeOf158
 t117:=Tryz.underlying159
 a117:=Tryz.isAgg159
 z117:=Tryz.sizeOf159
 v117:=Tryz.zeroValue159
 t119:=Tryz.underlying251
 a119:=Tryz.isAgg251
 z119:=Tryz.sizeOf251
 t124:=Tryz.underlying162
 a124:=Tryz.isAgg162
 z124:=Tryz.sizeOf162
 v124:=Tryz.zeroValue162
 t138:=Tryz.underlying253
 a138:=Tryz.isAgg253
 z138:=Tryz.sizeOf253
 v138:=Tryz.zeroValue253
 t139:=Tryz.underlying254
 a139:=Tryz.isAgg254
 z139:=Tryz.sizeOf254
 v139:=Tryz.zeroValue254
 g3:=by kernel_rfl
 g4:=by kernel_rfl }
open Go.RowKit in
theorem Tryz.strings_TrimRight_one (s:ByteArray) (c:UInt8) (hc:c.toNat<128) (w:World) (hs:s.size≤9223372036854775807) :
  Calls Tryz.prog 78 #[.string s,.string ⟨#[c]⟩] w fun e w'=>e=.returned (.string ⟨(Lib.trimRightB s.data.toList c).toArray⟩)∧w'=w:=Any.strings_TrimRight_one Tryz.lays162 s c hc w hs
def Tryz.lays119_ren:Go.Shelf.Ren:=⟨fun|119=>229|n=>n,fun|21=>21|4=>4|n=>n,fun|n=>n⟩
theorem Tryz.lays119:Go.Proofs.Lays.n119 Tryz.prog Tryz.lays119_ren:={
 mixed:=by kernel_rfl
 f119:=Tryz.func229.trans (congrArg some (by kernel_rfl))
 t4:=Tryz.underlying4
 a4:=Tryz.isAgg4
 z4:=Tryz.sizeOf4
 v4:=Tryz.zeroValue4
 t21:=Tryz.underlying21
 a21:=Tryz.isAgg21
 z21:=Tryz.sizeOf21
 v21:=Tryz.zeroValue21 }
theorem Tryz.utf8_ValidRune (r:Int) (w:World) :
  Calls Tryz.prog 229 #[.int .i32 r] w fun e w'=>e=.returned (.bool (Lib.validRune r))∧w'=w:=Any.utf8_ValidRune Tryz.lays119 r w
def Tryz.lays137_ren:Go.Shelf.Ren:=⟨fun|137=>228|217=>264|266=>279|n=>n,fun|9=>9|5=>5|3=>3|n=>n,fun|n=>n⟩
theorem Tryz.lays137:Go.Proofs.Lays.n137 Tryz.prog Tryz.lays137_ren:={
 mixed:=by kernel_rfl
 f137:=Tryz.func228.trans (congrArg some (by kernel_rfl))
 f217:=Tryz.func264.trans (congrArg some (by kernel_rfl))
 f266:=Tryz.func279.trans (congrArg some (by kernel_rfl))
 t3:=Tryz.underlying3
 a3:=Tryz.isAgg3
 z3:=Tryz.sizeOf3
 v3:=Tryz.zeroValue3
 t5:=Tryz.underlying5
 a5:=Tryz.isAgg5
 z5:=Tryz.sizeOf5
 v5:=Tryz.zeroValue5
 t9:=Tryz.underlying9
 a9:=Tryz.isAgg9
 z9:=Tryz.sizeOf9
 v9:=Tryz.zeroValue9 }
open Go.RowKit in
theorem Tryz.strings_IndexByte (s:ByteArray) (c:Int) (w:World) :
  Calls Tryz.prog 228 #[.string s,.int .u8 c] w fun e w'=>e=.returned (.int .i64 (Lib.indexByte s.data.toList c.toNat.toUInt8))∧w'=w:=Any.strings_IndexByte Tryz.lays137 s c w
def Tryz.lays219_ren:Go.Shelf.Ren:=⟨fun|219=>232|217=>264|225=>231|224=>230|267=>265|266=>279|314=>280|n=>n,fun|9=>9|3=>3|4=>4|5=>5|46=>130|146=>224|51=>96|n=>n,fun|1=>3|n=>n⟩
theorem Tryz.lays219:Go.Proofs.Lays.n219 Tryz.prog Tryz.lays219_ren:={
 mixed:=by kernel_rfl
 f217:=Tryz.func264.trans (congrArg some (by kernel_rfl))
 f219:=Tryz.func232.trans (congrArg some (by kernel_rfl))
 f224:=Tryz.func230.trans (congrArg some (by kernel_rfl))
 f225:=Tryz.func231.trans (congrArg some (by kernel_rfl))
 f266:=Tryz.func279.trans (congrArg some (by kernel_rfl))
 f267:=Tryz.func265.trans (congrArg some (by kernel_rfl))
 f314:=Tryz.func280.trans (congrArg some (by kernel_rfl))
 t3:=Tryz.underlying3
 a3:=Tryz.isAgg3
 z3:=Tryz.sizeOf3
 v3:=Tryz.zeroValue3
 t4:=Tryz.underlying4
 a4:=Tryz.isAgg4
 z4:=Tryz.sizeOf4
 v4:=Tryz.zeroValue4
 t5:=Tryz.underlying5
 a5:=Tryz.isAgg5
 z5:=Tryz.sizeOf5
 v5:=Tryz.zeroValue5
 t9:=Tryz.underlying9
 a9:=Tryz.isAgg9
 z9:=Tryz.sizeOf9
 v9:=Tryz.zeroValue9
 t46:=Tryz.underlying130
 a46:=Tryz.isAgg130
 z46:=Tryz.sizeOf130
 v46:=Tryz.zeroValue130
 t51:=Tryz.underlying96
 a51:=Tryz.isAgg96
 z51:=Tryz.sizeOf96
 v51:=Tryz.zeroValue96
 t146:=Tryz.underlying224
 a146:=Tryz.isAgg224
 z146:=Tryz.sizeOf224
 v146:=Tryz.zeroValue224
 g1:=by kernel_rfl }
open Go.RowKit Go.Lib in
theorem Tryz.stringslite_Index_one (s:ByteArray) (c:UInt8) (w:World) :
  Calls Tryz.prog 232 #[.string s,.string ⟨#[c]⟩] w fun e w'=>e=.returned (.int .i64 (Lib.indexByte s.data.toList c))∧w'=w:=Any.stringslite_Index_one Tryz.lays219 s c w
def Tryz.lays99_ren:Go.Shelf.Ren:=⟨fun|99=>116|206=>170|n=>n,fun|9=>9|4=>4|3=>3|n=>n,fun|n=>n⟩
theorem Tryz.lays99:Go.Proofs.Lays.n99 Tryz.prog Tryz.lays99_ren:={
 mixed:=by kernel_rfl
 f99:=Tryz.func116.trans (congrArg some (by kernel_rfl))
 f206:=Tryz.func170.trans (congrArg some (by kernel_rfl))
 t3:=Tryz.underlying3
 a3:=Tryz.isAgg3
 z3:=Tryz.sizeOf3
 v3:=Tryz.zeroValue3
 t4:=Tryz.underlying4
 a4:=Tryz.isAgg4
 z4:=Tryz.sizeOf4
 v4:=Tryz.zeroValue4
 t9:=Tryz.underlying9
 a9:=Tryz.isAgg9
 z9:=Tryz.sizeOf9
 v9:=Tryz.zeroValue9 }
open Go.RowKit Go.Lib in
theorem Tryz.strings_HasPrefix (s p:ByteArray) (w:World) :
  Calls Tryz.prog 116 #[.string s,.string p] w fun e w'=>e=.returned (.bool (Lib.hasPrefix s.data.toList p.data.toList))∧w'=w:=Any.strings_HasPrefix Tryz.lays99 s p w
def Tryz.lays152_ren:Go.Shelf.Ren:=⟨fun|152=>171|137=>228|119=>229|224=>230|225=>231|217=>264|266=>279|n=>n,fun|9=>9|21=>21|3=>3|4=>4|5=>5|0=>0|46=>130|n=>n,fun|n=>n⟩
theorem Tryz.lays152:Go.Proofs.Lays.n152 Tryz.prog Tryz.lays152_ren:={
 mixed:=by kernel_rfl
 f119:=Tryz.func229.trans (congrArg some (by kernel_rfl))
 f137:=Tryz.func228.trans (congrArg some (by kernel_rfl))
 f152:=Tryz.func171.trans (congrArg some (by kernel_rfl))
 f217:=Tryz.func264.trans (congrArg some (by kernel_rfl))
 f224:=Tryz.func230.trans (congrArg some (by kernel_rfl))
 f225:=Tryz.func231.trans (congrArg some (by kernel_rfl))
 f266:=Tryz.func279.trans (congrArg some (by kernel_rfl))
 t0:=Tryz.underlying0
 a0:=Tryz.isAgg0
 z0:=Tryz.sizeOf0
 v0:=Tryz.zeroValue0
 t3:=Tryz.underlying3
 a3:=Tryz.isAgg3
 z3:=Tryz.sizeOf3
 v3:=Tryz.zeroValue3
 t4:=Tryz.underlying4
 a4:=Tryz.isAgg4
 z4:=Tryz.sizeOf4
 v4:=Tryz.zeroValue4
 t5:=Tryz.underlying5
 a5:=Tryz.isAgg5
 z5:=Tryz.sizeOf5
 v5:=Tryz.zeroValue5
 t9:=Tryz.underlying9
 a9:=Tryz.isAgg9
 z9:=Tryz.sizeOf9
 v9:=Tryz.zeroValue9
 t21:=Tryz.underlying21
 a21:=Tryz.isAgg21
 z21:=Tryz.sizeOf21
 v21:=Tryz.zeroValue21
 t46:=Tryz.underlying130
 a46:=Tryz.isAgg130
 z46:=Tryz.sizeOf130
 v46:=Tryz.zeroValue130 }
open Go.RowKit Go.Lib in
theorem Tryz.strings_IndexRune_ascii (s:ByteArray) (r:Int) (w:World) (h0:0≤r) (h1:r<128) :
  Calls Tryz.prog 171 #[.string s,.int .i32 r] w fun e w'=>e=.returned (.int .i64 (Lib.indexByte s.data.toList r.toNat.toUInt8))∧w'=w:=Any.strings_IndexRune_ascii Tryz.lays152 s r w h0 h1
def Tryz.lays226_ren:Go.Shelf.Ren:=⟨fun|226=>172|n=>n,fun|3=>3|4=>4|n=>n,fun|n=>n⟩
theorem Tryz.lays226:Go.Proofs.Lays.n226 Tryz.prog Tryz.lays226_ren:={
 mixed:=by kernel_rfl
 f226:=Tryz.func172.trans (congrArg some (by kernel_rfl))
 t3:=Tryz.underlying3
 a3:=Tryz.isAgg3
 z3:=Tryz.sizeOf3
 v3:=Tryz.zeroValue3
 t4:=Tryz.underlying4
 a4:=Tryz.isAgg4
 z4:=Tryz.sizeOf4
 v4:=Tryz.zeroValue4 }
open Go.RowKit Go.Lib in
theorem Tryz.strings_shouldUseASCIISet (n:Int) (w:World) :
  Calls Tryz.prog 172 #[.int .i64 n] w fun e w'=>e=.returned (.bool (decide (8<n)))∧w'=w:=Any.strings_shouldUseASCIISet Tryz.lays226 n w
def Tryz.lays153_ren:Go.Shelf.Ren:=⟨fun|153=>117|152=>171|226=>172|227=>142|228=>173|137=>228|119=>229|224=>230|225=>231|217=>264|266=>279|n=>n,fun|9=>9|3=>3|4=>4|5=>5|21=>21|117=>159|116=>158|0=>0|46=>130|124=>162|n=>n,fun|n=>n⟩
theorem Tryz.lays153:Go.Proofs.Lays.n153 Tryz.prog Tryz.lays153_ren:={
 mixed:=by kernel_rfl
 f119:=Tryz.func229.trans (congrArg some (by kernel_rfl))
 f137:=Tryz.func228.trans (congrArg some (by kernel_rfl))
 f152:=Tryz.func171.trans (congrArg some (by kernel_rfl))
 f153:=Tryz.func117.trans (congrArg some (by kernel_rfl))
 f217:=Tryz.func264.trans (congrArg some (by kernel_rfl))
 f224:=Tryz.func230.trans (congrArg some (by kernel_rfl))
 f225:=Tryz.func231.trans (congrArg some (by kernel_rfl))
 f226:=Tryz.func172.trans (congrArg some (by kernel_rfl))
 f227:=Tryz.func142.trans (congrArg some (by kernel_rfl))
 f228:=Tryz.func173.trans (congrArg some (by kernel_rfl))
 f266:=Tryz.func279.trans (congrArg some (by kernel_rfl))
 t0:=Tryz.underlying0
 a0:=Tryz.isAgg0
 z0:=Tryz.sizeOf0
 v0:=Tryz.zeroValue0
 t3:=Tryz.underlying3
 a3:=Tryz.isAgg3
 z3:=Tryz.sizeOf3
 v3:=Tryz.zeroValue3
 t4:=Tryz.underlying4
 a4:=Tryz.isAgg4
 z4:=Tryz.sizeOf4
 v4:=Tryz.zeroValue4
 t5:=Tryz.underlying5
 a5:=Tryz.isAgg5
 z5:=Tryz.sizeOf5
 v5:=Tryz.zeroValue5
 t9:=Tryz.underlying9
 a9:=Tryz.isAgg9
 z9:=Tryz.sizeOf9
 v9:=Tryz.zeroValue9
 t21:=Tryz.underlying21
 a21:=Tryz.isAgg21
 z21:=Tryz.sizeOf21
 v21:=Tryz.zeroValue21
 t46:=Tryz.underlying130
 a46:=Tryz.isAgg130
 z46:=Tryz.sizeOf130
 v46:=Tryz.zeroValue130
 t116:=Tryz.underlying158
 a116:=Tryz.isAgg158
 z116:=Tryz.sizeOf158
 t117:=Tryz.underlying159
 a117:=Tryz.isAgg159
 z117:=Tryz.sizeOf159
 v117:=Tryz.zeroValue159
 t124:=Tryz.underlying162
 a124:=Tryz.isAgg162
 z124:=Tryz.sizeOf162
 v124:=Tryz.zeroValue162 }
open Go.RowKit Go.Lib in
theorem Tryz.strings_IndexAny_short (s chars:ByteArray) (w:World) (h2:2≤chars.size) (h8:s.size≤8) (hascii:∀ (j:Nat) b,s.data.toList[j]?=some b→b.toNat<128) :
  Calls Tryz.prog 117 #[.string s,.string chars] w fun e w'=>e=.returned (.int .i64 (Lib.indexAny s.data.toList chars.data.toList))∧∃ pos,w'=w.iter s pos:=Any.strings_IndexAny_short Tryz.lays153 s chars w h2 h8 hascii
open Go.RowKit Go.Lib in
theorem Tryz.strings_IndexAny_long (hv116:∀ w,(zeroValue 158).run Tryz.prog w=.ok (.agg (Array.replicate 256 (.bool false))) w) (s chars:ByteArray) (w:World) (h2:2≤chars.size) (h8:8<s.size) (hs:s.size<4294967281) (hcs:chars.size<4294967281) (hascii:∀ (j:Nat) b,chars.data.toList[j]?=some b→b.toNat<128) :
  Calls Tryz.prog 117 #[.string s,.string chars] w fun e w'=>e=.returned (.int .i64 (Lib.indexAny s.data.toList chars.data.toList))∧w'=((w.alloc (.cells (Lib.setCells chars.data.toList) 158)).alloc (.cells (Lib.setCells chars.data.toList) 158)):=Any.strings_IndexAny_long Tryz.lays153 hv116 (by kernel_rfl) s chars w h2 h8 hs hcs hascii
def Tryz.lays105_ren:Go.Shelf.Ren:=⟨fun|105=>126|212=>184|99=>116|165=>185|166=>186|170=>187|169=>188|263=>238|264=>239|206=>170|240=>240|241=>241|276=>272|277=>273|n=>n,fun|9=>9|3=>3|4=>4|20=>20|0=>0|46=>130|109=>185|5=>5|72=>189|76=>191|51=>96|146=>224|53=>60|148=>153|70=>187|37=>65|75=>180|127=>227|164=>244|80=>44|n=>n,fun|n=>n⟩
theorem Tryz.lays105:Go.Proofs.Lays.n105 Tryz.prog Tryz.lays105_ren:={
 mixed:=by kernel_rfl
 f99:=Tryz.func116.trans (congrArg some (by kernel_rfl))
 f105:=Tryz.func126.trans (congrArg some (by kernel_rfl))
 f165:=Tryz.func185.trans (congrArg some (by kernel_rfl))
 f166:=Tryz.func186.trans (congrArg some (by kernel_rfl))
 f169:=Tryz.func188.trans (congrArg some (by kernel_rfl))
 f170:=Tryz.func187.trans (congrArg some (by kernel_rfl))
 f206:=Tryz.func170.trans (congrArg some (by kernel_rfl))
 f212:=Tryz.func184.trans (congrArg some (by kernel_rfl))
 f240:=Tryz.func240.trans (congrArg some (by kernel_rfl))
 f241:=Tryz.func241.trans (congrArg some (by kernel_rfl))
 f263:=Tryz.func238.trans (congrArg some (by kernel_rfl))
 f264:=Tryz.func239.trans (congrArg some (by kernel_rfl))
 f276:=Tryz.func272.trans (congrArg some (by kernel_rfl))
 f277:=Tryz.func273.trans (congrArg some (by kernel_rfl))
 t0:=Tryz.underlying0
 a0:=Tryz.isAgg0
 z0:=Tryz.sizeOf0
 v0:=Tryz.zeroValue0
 t3:=Tryz.underlying3
 a3:=Tryz.isAgg3
 z3:=Tryz.sizeOf3
 v3:=Tryz.zeroValue3
 t4:=Tryz.underlying4
 a4:=Tryz.isAgg4
 z4:=Tryz.sizeOf4
 v4:=Tryz.zeroValue4
 t5:=Tryz.underlying5
 a5:=Tryz.isAgg5
 z5:=Tryz.sizeOf5
 v5:=Tryz.zeroValue5
 t9:=Tryz.underlying9
 a9:=Tryz.isAgg9
 z9:=Tryz.sizeOf9
 v9:=Tryz.zeroValue9
 t20:=Tryz.underlying20
 a20:=Tryz.isAgg20
 z20:=Tryz.sizeOf20
 v20:=Tryz.zeroValue20
 t37:=Tryz.underlying65
 a37:=Tryz.isAgg65
 z37:=Tryz.sizeOf65
 v37:=Tryz.zeroValue65
 t46:=Tryz.underlying130
 a46:=Tryz.isAgg130
 z46:=Tryz.sizeOf130
 v46:=Tryz.zeroValue130
 t51:=Tryz.underlying96
 a51:=Tryz.isAgg96
 z51:=Tryz.sizeOf96
 v51:=Tryz.zeroValue96
 t53:=Tryz.underlying60
 a53:=Tryz.isAgg60
 z53:=Tryz.sizeOf60
 v53:=Tryz.zeroValue60
 t70:=Tryz.underlying187
 a70:=Tryz.isAgg187
 z70:=Tryz.sizeOf187
 v70:=Tryz.zeroValue187
 t72:=Tryz.underlying189
 a72:=Tryz.isAgg189
 z72:=Tryz.sizeOf189
 v72:=Tryz.zeroValue189
 t75:=Tryz.underlying180
 a75:=Tryz.isAgg180
 z75:=Tryz.sizeOf180
 v75:=Tryz.zeroValue180
 t76:=Tryz.underlying191
 a76:=Tryz.isAgg191
 z76:=Tryz.sizeOf191
 v76:=Tryz.zeroValue191
 t109:=Tryz.underlying185
 a109:=Tryz.isAgg185
 z109:=Tryz.sizeOf185
 v109:=Tryz.zeroValue185
 t127:=Tryz.underlying227
 a127:=Tryz.isAgg227
 z127:=Tryz.sizeOf227
 v127:=Tryz.zeroValue227
 t146:=Tryz.underlying224
 a146:=Tryz.isAgg224
 z146:=Tryz.sizeOf224
 v146:=Tryz.zeroValue224
 t148:=Tryz.underlying153
 a148:=Tryz.isAgg153
 z148:=Tryz.sizeOf153
 v148:=Tryz.zeroValue153
 t164:=Tryz.underlying244
 a164:=Tryz.isAgg244
 z164:=Tryz.sizeOf244
 v164:=Tryz.zeroValue244 }
theorem Tryz.Builder_Extra_105:Builder.Extra Tryz.prog Tryz.lays105_ren:={
 sizeBuilder:=by kernel_rfl
 liesBuilder:=by kernel_rfl
 t5:=Tryz.underlying5
 a5:=Tryz.isAgg5
 z5:=Tryz.sizeOf5
 v5:=Tryz.zeroValue5
 infoByte:=by kernel_rfl
 cellsByte:=by kernel_rfl
 sizeByte:=by kernel_rfl
 neB5:=by decide }
open Go.RowKit Go.Lib in
theorem Tryz.strings_Repeat (s:ByteArray) (c:Nat) (w:World) (hc:c≤9223372036854775807) (hlen:s.size*c≤140737488355328) :
  Calls Tryz.prog 126 #[.string s,.int .i64 c] w fun e w'=>e=.returned (.string ⟨(Lib.repeatL s.data.toList c).toArray⟩)∧Go.Proofs.YtfkaogdmlcdceaaGreatDoor.Bw w w':=Any.strings_Repeat Tryz.lays105 Tryz.Builder_Extra_105 s c w hc hlen
end Go.Proofs
namespace Go.Proofs.YtfkaogdmlcdceaaGreatDoor
open Go.RowKit
theorem rmag_1 (na nb:Bool) (ua va:Option Addr) (un uc vn vc:Nat) (ea eb ha hb:Int) (w:World) (hn1:((un:Int)==0)=false) (hn2:((vn:Int)==0)=false)
  (hh1 : -64000000000≤ha) (hh2:ha≤64000000000) (hh3 : -64000000000≤hb) (hh4:hb≤64000000000) (hne:ha≠hb)
  (kA:∀ W,Bw w W→Calls Tryz.prog 44 #[.agg #[.bool na,.slice ua un uc,.int .i64 ea]] W fun r w'=>r=.returned (.int .i64 ha)∧Bw W w')
  (kB:∀ W,Bw w W→Calls Tryz.prog 44 #[.agg #[.bool nb,.slice va vn vc,.int .i64 eb]] W fun r w'=>r=.returned (.int .i64 hb)∧Bw W w') :
  Calls Tryz.prog 114 #[.agg #[.bool na,.slice ua un uc,.int .i64 ea],.agg #[.bool nb,.slice va vn vc,.int .i64 eb]] w fun r w'=>r=.returned (.int .i64 (ha - hb))∧Bw w w':=by
 obtain⟨W,hW⟩:∃ W,W=(w.alloc (.cells #[.bool na,.slice ua un uc,.int .i64 ea] 54)).alloc (.cells #[.bool nb,.slice va vn vc,.int .i64 eb] 54):=⟨_,rfl⟩
 obtain⟨hA,hBb,hsz,hBW⟩:=two29 _ _ hW
 have HX:Hid (Bw w W):=hBW
 have kA':∀ w4,Bw W w4→Calls Tryz.prog 44 #[.agg #[.bool na,.slice ua un uc,.int .i64 ea]] w4 fun r w'=>r=.returned (.int .i64 ha)∧Bw W w':=fun w4 h4=>(kA w4 (hBW.trans (h4.mono hBW.size))).mono fun r w' ⟨e1,o2⟩=>⟨e1,h4.trans (o2.mono h4.size)⟩
 have kB':∀ w4,Bw W w4→Calls Tryz.prog 44 #[.agg #[.bool nb,.slice va vn vc,.int .i64 eb]] w4 fun r w'=>r=.returned (.int .i64 hb)∧Bw W w':=fun w4 h4=>(kB w4 (hBW.trans (h4.mono hBW.size))).mono fun r w' ⟨e1,o2⟩=>⟨e1,h4.trans (o2.mono h4.size)⟩
 have HKA:Hid (∀ w4,Bw W w4→Calls Tryz.prog 44 #[.agg #[.bool na,.slice ua un uc,.int .i64 ea]] w4 fun r w'=>r=.returned (.int .i64 ha)∧Bw W w'):=kA'
 have HKB:Hid (∀ w4,Bw W w4→Calls Tryz.prog 44 #[.agg #[.bool nb,.slice va vn vc,.int .i64 eb]] w4 fun r w'=>r=.returned (.int .i64 hb)∧Bw W w'):=kB'
 obtain⟨⟨a0,a1,a2⟩,-⟩:=box_cells29 hA
 obtain⟨⟨b0,b1,b2⟩,-⟩:=box_cells29 hBb
 have HK:Hid (∀ w',Bw W w'→((w'.cell? ⟨w.heap.size,0,none⟩=some (.bool na)∧w'.cell? ⟨w.heap.size,1,none⟩=some (.slice ua un uc)∧w'.cell? ⟨w.heap.size,2,none⟩=some (.int .i64 ea))∧(w'.cell? ⟨w.heap.size+1,0,none⟩=some (.bool nb)∧w'.cell? ⟨w.heap.size+1,1,none⟩=some (.slice va vn vc)∧w'.cell? ⟨w.heap.size+1,2,none⟩=some (.int .i64 eb)))):=fun w' hb=>⟨(box_cells29 (box_later hA hb (by omega))).1,(box_cells29 (box_later hBb hb (by omega))).1⟩
 have HRD:Hid (∀ w',Bw W w'→Bw W w'.drew):=fun w' h=>h.trans ⟨rfl,rfl,rfl,Nat.le_refl _,fun _ _=>rfl⟩
 have hBR:Bw W W.drew:=(Below.refl _ _).drew
 have HZ:Hid (IntKind.i64.wrap (ha - hb)=ha - hb):=(by rw[IntKind.wrap_i64];omega:IntKind.i64.wrap (ha - hb)=ha - hb)
 have hne':(ha==hb)=false:=by simpa using hne
 clear kA kB hA hBb hsz hBW hne hh1 hh2 hh3 hh4
 go_enter Tryz.func114,Tryz.ntmps114
 go_upto_region 3 with fail
 rw[←hW]
 clear hW
 go_cut [24] from 25 to 29 (fun v w'=>v=.bool true∧Hid (Bw W w'))
 case first =>
  go_region_held3 (fun w'=>((w'.cell? ⟨w.heap.size,0,none⟩=some (.bool na)∧w'.cell? ⟨w.heap.size,1,none⟩=some (.slice ua un uc)∧w'.cell? ⟨w.heap.size,2,none⟩=some (.int .i64 ea))∧(w'.cell? ⟨w.heap.size+1,0,none⟩=some (.bool nb)∧w'.cell? ⟨w.heap.size+1,1,none⟩=some (.slice va vn vc)∧w'.cell? ⟨w.heap.size+1,2,none⟩=some (.int .i64 eb)))) (first|(with_reducible assumption)|exact⟨⟨a0,a1,a2⟩,b0,b1,b2⟩|(refine HK.out _ ?_;with_reducible assumption)|go_keep)
   (first|(go_at_call 44;first|(with_reducible refine(kA' _ (by first|(with_reducible assumption)|exact hBR)).mono ?_;rintro r w5 ⟨rfl,hb5⟩)|(with_reducible refine(kB' _ (by first|(with_reducible assumption)|exact hBR)).mono ?_;rintro r w6 ⟨rfl,hb6⟩)))
  all_goals go_wp2_with fail
  all_goals go_meet
  all_goals exact⟨by rw[bne,hne'];rfl,by first|exact hb6|exact hb5⟩
 case rest =>
  obtain⟨rfl,hc⟩:=hcut
  obtain⟨W2,rfl⟩:∃ W2:World,W2=wc:=⟨_,rfl⟩
  clear a0 a1 a2 b0 b1 b2 kA' kB' hBR
  obtain⟨⟨a0,a1,a2⟩,b0,b1,b2⟩:=HK.out W2 hc.out
  have hBR:Bw W W2.drew:=HRD.out _ hc.out
  have kA':=HKA.out
  have kB':=HKB.out
  go_upto_region 4 with fail
  go_region_held3 (fun w'=>((w'.cell? ⟨w.heap.size,0,none⟩=some (.bool na)∧w'.cell? ⟨w.heap.size,1,none⟩=some (.slice ua un uc)∧w'.cell? ⟨w.heap.size,2,none⟩=some (.int .i64 ea))∧(w'.cell? ⟨w.heap.size+1,0,none⟩=some (.bool nb)∧w'.cell? ⟨w.heap.size+1,1,none⟩=some (.slice va vn vc)∧w'.cell? ⟨w.heap.size+1,2,none⟩=some (.int .i64 eb)))) (first|(with_reducible assumption)|exact⟨⟨a0,a1,a2⟩,b0,b1,b2⟩|(refine HK.out _ ?_;with_reducible assumption)|go_keep)
   (first|(go_at_call 44;first|(with_reducible refine(kA' _ (by first|(with_reducible assumption)|exact hBR)).mono ?_;rintro r w5 ⟨rfl,hb5⟩)|(with_reducible refine(kB' _ (by first|(with_reducible assumption)|exact hBR)).mono ?_;rintro r w6 ⟨rfl,hb6⟩)))
  all_goals (have HL5:Hid (Bw W w5):=hb5;have HL6:Hid (Bw W w6):=hb6;clear kA' kB' HK HKA HKB a0 a1 a2 b0 b1 b2 hBR hb5 hb6;go_wp2;go_ret;first|exact⟨by rw[HZ.out];rfl,HX.out.trans (HL6.out.mono HX.out.size)⟩|exact⟨by rw[HZ.out];rfl,HX.out.trans (HL5.out.mono HX.out.size)⟩)
theorem rmag_2 (na nb:Bool) (ua va:Option Addr) (un uc vn vc X Y:Nat) (ea eb ha:Int) (w:World) (hn1:((un:Int)==0)=false) (hn2:((vn:Int)==0)=false) (hX:dlen X≤1000000) (hY:dlen Y≤1000000)
  (he1 : -4000000≤ea) (he2:ea≤4000000) (he3 : -4000000≤eb) (he4:eb≤4000000)
  (kA:∀ W,Bw w W→Calls Tryz.prog 44 #[.agg #[.bool na,.slice ua un uc,.int .i64 ea]] W fun r w'=>r=.returned (.int .i64 ha)∧Bw W w')
  (kB:∀ W,Bw w W→Calls Tryz.prog 44 #[.agg #[.bool nb,.slice va vn vc,.int .i64 eb]] W fun r w'=>r=.returned (.int .i64 ha)∧Bw W w')
  (ku:∀ W i,Bw w W→i=ea - min ea eb→Calls Tryz.prog 101 #[.slice ua un uc,.int .i64 i] W fun r w'=>∃ v,r=.returned v∧Ir w' v X∧Bw W w')
  (kv:∀ W i,Bw w W→i=eb - min ea eb→Calls Tryz.prog 101 #[.slice va vn vc,.int .i64 i] W fun r w'=>∃ v,r=.returned v∧Ir w' v Y∧Bw W w') :
  Calls Tryz.prog 114 #[.agg #[.bool na,.slice ua un uc,.int .i64 ea],.agg #[.bool nb,.slice va vn vc,.int .i64 eb]] w fun r w'=>r=.returned (.int .i64 (cmpI X Y))∧Bw w w':=by
 obtain⟨W,hW⟩:∃ W,W=(w.alloc (.cells #[.bool na,.slice ua un uc,.int .i64 ea] 54)).alloc (.cells #[.bool nb,.slice va vn vc,.int .i64 eb] 54):=⟨_,rfl⟩
 obtain⟨hA,hBb,hsz,hBW⟩:=two29 _ _ hW
 have HX:Hid (Bw w W):=hBW
 have kA':∀ w4,Bw W w4→Calls Tryz.prog 44 #[.agg #[.bool na,.slice ua un uc,.int .i64 ea]] w4 fun r w'=>r=.returned (.int .i64 ha)∧Bw W w':=fun w4 h4=>(kA w4 (hBW.trans (h4.mono hBW.size))).mono fun r w' ⟨e1,o2⟩=>⟨e1,h4.trans (o2.mono h4.size)⟩
 have kB':∀ w4,Bw W w4→Calls Tryz.prog 44 #[.agg #[.bool nb,.slice va vn vc,.int .i64 eb]] w4 fun r w'=>r=.returned (.int .i64 ha)∧Bw W w':=fun w4 h4=>(kB w4 (hBW.trans (h4.mono hBW.size))).mono fun r w' ⟨e1,o2⟩=>⟨e1,h4.trans (o2.mono h4.size)⟩
 obtain⟨i1,hi1⟩:∃ i1,i1=ea - min ea eb:=⟨_,rfl⟩
 obtain⟨i2,hi2⟩:∃ i2,i2=eb - min ea eb:=⟨_,rfl⟩
 have HKU:Hid (∀ w4,Bw W w4→Calls Tryz.prog 101 #[.slice ua un uc,.int .i64 i1] w4 fun r w'=>∃ v,r=.returned v∧Ir w' v X∧Bw W w'∧Bw w4 w'):=(fun w4 h4=>(ku w4 i1 (hBW.trans (h4.mono hBW.size)) hi1).mono fun r w' ⟨v,e1,o1,o2⟩=>⟨v,e1,o1,h4.trans (o2.mono h4.size),o2⟩:∀ w4,Bw W w4→Calls Tryz.prog 101 #[.slice ua un uc,.int .i64 i1] w4 fun r w'=>∃ v,r=.returned v∧Ir w' v X∧Bw W w'∧Bw w4 w')
 have HKV:Hid (∀ w4,Bw W w4→Calls Tryz.prog 101 #[.slice va vn vc,.int .i64 i2] w4 fun r w'=>∃ v,r=.returned v∧Ir w' v Y∧Bw W w'∧Bw w4 w'):=(fun w4 h4=>(kv w4 i2 (hBW.trans (h4.mono hBW.size)) hi2).mono fun r w' ⟨v,e1,o1,o2⟩=>⟨v,e1,o1,h4.trans (o2.mono h4.size),o2⟩:∀ w4,Bw W w4→Calls Tryz.prog 101 #[.slice va vn vc,.int .i64 i2] w4 fun r w'=>∃ v,r=.returned v∧Ir w' v Y∧Bw W w'∧Bw w4 w')
 have kO:∀ w4 p q,Ir w4 p X→Ir w4 q Y→Bw W w4→Calls Tryz.prog 149 #[p,q] w4 fun r w'=>r=.returned (.int .i64 (cmpI X Y))∧Bw W w':=fun w4 p q hp hq h4=>(rord hp hq (by omega) (by omega)).mono fun r w' ⟨e1,d,e2⟩=>⟨e1,by rw[e2];exact h4.trans ⟨rfl,rfl,rfl,Nat.le_refl _,fun _ _=>rfl⟩⟩
 have HKO:Hid _:=kO
 obtain⟨⟨a0,a1,a2⟩,-⟩:=box_cells29 hA
 obtain⟨⟨b0,b1,b2⟩,-⟩:=box_cells29 hBb
 have HK:Hid (∀ w',Bw W w'→((w'.cell? ⟨w.heap.size,0,none⟩=some (.bool na)∧w'.cell? ⟨w.heap.size,1,none⟩=some (.slice ua un uc)∧w'.cell? ⟨w.heap.size,2,none⟩=some (.int .i64 ea))∧(w'.cell? ⟨w.heap.size+1,0,none⟩=some (.bool nb)∧w'.cell? ⟨w.heap.size+1,1,none⟩=some (.slice va vn vc)∧w'.cell? ⟨w.heap.size+1,2,none⟩=some (.int .i64 eb)))):=fun w' hb=>⟨(box_cells29 (box_later hA hb (by omega))).1,(box_cells29 (box_later hBb hb (by omega))).1⟩
 have HRD:Hid (∀ w',Bw W w'→Bw W w'.drew):=fun w' h=>h.trans ⟨rfl,rfl,rfl,Nat.le_refl _,fun _ _=>rfl⟩
 have hBR:Bw W W.drew:=(Below.refl _ _).drew
 have HI:Hid (∀ i,(i=ea - min ea eb∨i=IntKind.i64.wrap (ea - min ea eb))→i=i1):=(fun i h=>by rw[IntKind.wrap_i64] at h;omega:∀ i,(i=ea - min ea eb∨i=IntKind.i64.wrap (ea - min ea eb))→i=i1)
 have HJ:Hid (∀ i,(i=eb - min ea eb∨i=IntKind.i64.wrap (eb - min ea eb))→i=i2):=(fun i h=>by rw[IntKind.wrap_i64] at h;omega:∀ i,(i=eb - min ea eb∨i=IntKind.i64.wrap (eb - min ea eb))→i=i2)
 obtain⟨c,hc⟩:∃ c,c=cmpI X Y:=⟨_,rfl⟩
 rw[←hc] at HKO ⊢
 clear kA kB ku kv kO hA hBb hsz hBW hX hY hi1 hi2 hc
 go_enter Tryz.func114,Tryz.ntmps114
 go_upto_region 3 with fail
 rw[←hW]
 clear hW
 go_cut [24] from 25 to 29 (fun v w'=>v=.bool false∧Hid (Bw W w'))
 case first =>
  go_region_held3 (fun w'=>((w'.cell? ⟨w.heap.size,0,none⟩=some (.bool na)∧w'.cell? ⟨w.heap.size,1,none⟩=some (.slice ua un uc)∧w'.cell? ⟨w.heap.size,2,none⟩=some (.int .i64 ea))∧(w'.cell? ⟨w.heap.size+1,0,none⟩=some (.bool nb)∧w'.cell? ⟨w.heap.size+1,1,none⟩=some (.slice va vn vc)∧w'.cell? ⟨w.heap.size+1,2,none⟩=some (.int .i64 eb)))) (first|(with_reducible assumption)|exact⟨⟨a0,a1,a2⟩,b0,b1,b2⟩|(refine HK.out _ ?_;with_reducible assumption)|go_keep)
   (first|(go_at_call 44;first|(with_reducible refine(kA' _ (by first|(with_reducible assumption)|exact hBR)).mono ?_;rintro r w5 ⟨rfl,hb5⟩)|(with_reducible refine(kB' _ (by first|(with_reducible assumption)|exact hBR)).mono ?_;rintro r w6 ⟨rfl,hb6⟩)))
  all_goals go_wp2_with fail
  all_goals go_meet
  all_goals exact⟨by first|rfl|simp,by first|exact hb6|exact hb5⟩
 case rest =>
  obtain⟨rfl,hc⟩:=hcut
  obtain⟨W2,rfl⟩:∃ W2:World,W2=wc:=⟨_,rfl⟩
  clear a0 a1 a2 b0 b1 b2 kA' kB' hBR
  obtain⟨⟨a0,a1,a2⟩,b0,b1,b2⟩:=HK.out W2 hc.out
  have hBR:Bw W W2.drew:=HRD.out _ hc.out
  have kU:∀ i w4,(i=ea - min ea eb∨i=IntKind.i64.wrap (ea - min ea eb))→Bw W w4→Calls Tryz.prog 101 #[.slice ua un uc,.int .i64 i] w4 fun r w'=>∃ v,r=.returned v∧Ir w' v X∧Bw W w'∧Bw w4 w':=fun i w4 hi=>by rw[HI.out i hi];exact HKU.out w4
  have kV:∀ i w4,(i=eb - min ea eb∨i=IntKind.i64.wrap (eb - min ea eb))→Bw W w4→Calls Tryz.prog 101 #[.slice va vn vc,.int .i64 i] w4 fun r w'=>∃ v,r=.returned v∧Ir w' v Y∧Bw W w'∧Bw w4 w':=fun i w4 hi=>by rw[HJ.out i hi];exact HKV.out w4
  have kO:=HKO.out
  go_upto_region 6 with fail
  go_region_held3 (fun w'=>((w'.cell? ⟨w.heap.size,0,none⟩=some (.bool na)∧w'.cell? ⟨w.heap.size,1,none⟩=some (.slice ua un uc)∧w'.cell? ⟨w.heap.size,2,none⟩=some (.int .i64 ea))∧(w'.cell? ⟨w.heap.size+1,0,none⟩=some (.bool nb)∧w'.cell? ⟨w.heap.size+1,1,none⟩=some (.slice va vn vc)∧w'.cell? ⟨w.heap.size+1,2,none⟩=some (.int .i64 eb)))) (first|(with_reducible assumption)|exact⟨⟨a0,a1,a2⟩,b0,b1,b2⟩|(refine HK.out _ ?_;with_reducible assumption)|go_keep)
   (first|(go_at_call 101;first|(with_reducible refine(kU _ _ (by first|exact .inl rfl|exact .inr rfl) (by first|(with_reducible assumption)|exact hBR)).mono ?_;rintro r w5 ⟨p5,rfl,hp5,hb5,hc5⟩)|(with_reducible refine(kV _ _ (by first|exact .inl rfl|exact .inr rfl) (by first|(with_reducible assumption)|exact hBR)).mono ?_;rintro r w6 ⟨p6,rfl,hp6,hb6,hc6⟩))|(go_at_call 149;first|(with_reducible refine(kO _ _ _ (hp5.later hc6) hp6 hb6).mono ?_;rintro r w7 ⟨rfl,hb7⟩)|(with_reducible refine(kO _ _ _ hp5 (hp6.later hc5) hb5).mono ?_;rintro r w7 ⟨rfl,hb7⟩)))
  all_goals (have HL7:Hid (Bw W w7):=hb7;clear kU kV kO HK HKU HKV HKO a0 a1 a2 b0 b1 b2 hBR hb5 hb6 hb7 hp5 hp6 hc5 hc6;go_wp2;go_ret;exact⟨rfl,HX.out.trans (HL7.out.mono HX.out.size)⟩)
theorem rmag_0 (na nb:Bool) (ua va:Option Addr) (un uc vn vc:Nat) (ea eb:Int) (w:World) (h0:un=0∨vn=0) (hn1:un≤35184372088832) (hn2:vn≤35184372088832) :
  Calls Tryz.prog 114 #[.agg #[.bool na,.slice ua un uc,.int .i64 ea],.agg #[.bool nb,.slice va vn vc,.int .i64 eb]] w fun r w'=>r=.returned (.int .i64 ((un:Int) - vn))∧Bw w w':=by
 obtain⟨W,hW⟩:∃ W,W=(w.alloc (.cells #[.bool na,.slice ua un uc,.int .i64 ea] 54)).alloc (.cells #[.bool nb,.slice va vn vc,.int .i64 eb] 54):=⟨_,rfl⟩
 obtain⟨hA,hBb,hsz,hBW⟩:=two29 _ _ hW
 have HX:Hid (Bw w W):=hBW
 obtain⟨⟨a0,a1,a2⟩,-⟩:=box_cells29 hA
 obtain⟨⟨b0,b1,b2⟩,-⟩:=box_cells29 hBb
 rw[hW] at a0 a1 a2 b0 b1 b2
 have hw:IntKind.i64.wrap ((un:Int) - vn)=(un:Int) - vn:=by rw[IntKind.wrap_i64];omega
 have HD:Hid ((un:Int) - vn=(un:Int) - vn):=rfl
 clear hA hBb hsz hBW
 by_cases hu:un=0
 ·subst hu
  clear h0
  go_enter Tryz.func114,Tryz.ntmps114
  go_wp2
  go_ret
  exact⟨by simp,hW ▸ HX.out⟩
 ·obtain rfl:vn=0:=by omega
  have hu1:((un:Int)==0)=false:=by simp;omega
  clear h0 hu
  go_enter Tryz.func114,Tryz.ntmps114
  go_wp2
  go_ret
  exact⟨by simp,hW ▸ HX.out⟩
def magI (x:Nat) (ea:Int) (y:Nat) (eb:Int):Int:=if x=0∨y=0 then(dlen x:Int) - dlen y else if(bl x:Int)+ea=bl y+eb then cmpI (x*2^(ea - min ea eb).toNat:Nat) (y*2^(eb - min ea eb).toNat:Nat) else(bl x:Int)+ea - (bl y+eb)
theorem rmag {na nb:Bool} {ua va:Option Addr} {uc vc x y:Nat} {ea eb:Int} {w:World} (h1:Arg w ua (dlen x) uc x) (h2:Arg w va (dlen y) vc y) (hx:dlen x≤400000) (hy:dlen y≤400000) (ha : -2000000≤ea∧ea≤2000000) (hb : -2000000≤eb∧eb≤2000000) :
  Calls Tryz.prog 114 #[.agg #[.bool na,.slice ua (dlen x) uc,.int .i64 ea],.agg #[.bool nb,.slice va (dlen y) vc,.int .i64 eb]] w fun r w'=>r=.returned (.int .i64 (magI x ea y eb))∧Bw w w':=by
 unfold magI
 by_cases h0:x=0∨y=0
 ·rw[if_pos h0]
  exact rmag_0 na nb ua va _ uc _ vc ea eb w (h0.imp (fun h=>by rw[h,dlen_zero]) (fun h=>by rw[h,dlen_zero])) (by omega) (by omega)
 ·rw[if_neg h0]
  have hx0:x≠0:=fun e=>h0 (.inl e)
  have hy0:y≠0:=fun e=>h0 (.inr e)
  have b1:=bl_le_dlen x
  have b2:=bl_le_dlen y
  have kA:∀ W,Bw w W→Calls Tryz.prog 44 #[.agg #[.bool na,.slice ua (dlen x) uc,.int .i64 ea]] W fun r w'=>r=.returned (.int .i64 (bl x+ea))∧Bw W w':=fun W hW=>rhigh (h1.later hW).at_ hx0 (by omega) (by omega)
  have kB:∀ W,Bw w W→Calls Tryz.prog 44 #[.agg #[.bool nb,.slice va (dlen y) vc,.int .i64 eb]] W fun r w'=>r=.returned (.int .i64 (bl y+eb))∧Bw W w':=fun W hW=>rhigh (h2.later hW).at_ hy0 (by omega) (by omega)
  by_cases ht:(bl x:Int)+ea=bl y+eb
  ·rw[if_pos ht]
   rw[←ht] at kB
   have l1:dlen (x*2^(ea - min ea eb).toNat)≤760000:=by have:=shl_len (x:=x) (k:=(ea - min ea eb).toNat) rfl;omega
   have l2:dlen (y*2^(eb - min ea eb).toNat)≤760000:=by have:=shl_len (x:=y) (k:=(eb - min ea eb).toNat) rfl;omega
   refine rmag_2 na nb ua va _ uc _ vc _ _ ea eb _ w (len_ne (n:=0) hx0) (len_ne (n:=0) hy0) (by omega) (by omega) (by omega) (by omega) (by omega) (by omega) kA kB (fun W i hW hi=>?_) (fun W i hW hi=>?_)
   ·have hik:i=(((ea - min ea eb).toNat:Nat):Int):=by omega
    rw[hik]
    exact rup ⟨ua,uc,rfl,h1.le,(h1.later hW).at_⟩ _ (by omega) (by omega)
   ·have hik:i=(((eb - min ea eb).toNat:Nat):Int):=by omega
    rw[hik]
    exact rup ⟨va,vc,rfl,h2.le,(h2.later hW).at_⟩ _ (by omega) (by omega)
  ·rw[if_neg ht]
   exact rmag_1 na nb ua va _ uc _ vc ea eb _ _ w (len_ne (n:=0) hx0) (len_ne (n:=0) hy0) (by omega) (by omega) (by omega) (by omega) ht kA kB
theorem rorder_lt (na nb:Bool) (ua va:Option Addr) (un uc vn vc:Nat) (ea eb sa sb c:Int) (w:World) (hs:sa<sb)
  (kA:∀ W,Bw w W→Calls Tryz.prog 47 #[.agg #[.bool na,.slice ua un uc,.int .i64 ea]] W fun r w'=>r=.returned (.int .i64 sa)∧Bw W w')
  (kB:∀ W,Bw w W→Calls Tryz.prog 47 #[.agg #[.bool nb,.slice va vn vc,.int .i64 eb]] W fun r w'=>r=.returned (.int .i64 sb)∧Bw W w') :
  Calls Tryz.prog 49 #[.agg #[.bool na,.slice ua un uc,.int .i64 ea],.agg #[.bool nb,.slice va vn vc,.int .i64 eb]] w fun r w'=>r=.returned (.int .i64 (-1))∧Bw w w':=by
 obtain⟨W,hW⟩:∃ W,W=(w.alloc (.cells #[.bool na,.slice ua un uc,.int .i64 ea] 54)).alloc (.cells #[.bool nb,.slice va vn vc,.int .i64 eb] 54):=⟨_,rfl⟩
 obtain⟨hA,hBb,hsz,hBW⟩:=two29 _ _ hW
 have HX:Hid (Bw w W):=hBW
 have kA':∀ w4,Bw W w4→Calls Tryz.prog 47 #[.agg #[.bool na,.slice ua un uc,.int .i64 ea]] w4 fun r w'=>r=.returned (.int .i64 sa)∧Bw W w':=fun w4 h4=>(kA w4 (hBW.trans (h4.mono hBW.size))).mono fun r w' ⟨e1,o2⟩=>⟨e1,h4.trans (o2.mono h4.size)⟩
 have kB':∀ w4,Bw W w4→Calls Tryz.prog 47 #[.agg #[.bool nb,.slice va vn vc,.int .i64 eb]] w4 fun r w'=>r=.returned (.int .i64 sb)∧Bw W w':=fun w4 h4=>(kB w4 (hBW.trans (h4.mono hBW.size))).mono fun r w' ⟨e1,o2⟩=>⟨e1,h4.trans (o2.mono h4.size)⟩
 obtain⟨⟨a0,a1,a2⟩,-⟩:=box_cells29 hA
 obtain⟨⟨b0,b1,b2⟩,-⟩:=box_cells29 hBb
 have HK:Hid (∀ w',Bw W w'→((w'.cell? ⟨w.heap.size,0,none⟩=some (.bool na)∧w'.cell? ⟨w.heap.size,1,none⟩=some (.slice ua un uc)∧w'.cell? ⟨w.heap.size,2,none⟩=some (.int .i64 ea))∧(w'.cell? ⟨w.heap.size+1,0,none⟩=some (.bool nb)∧w'.cell? ⟨w.heap.size+1,1,none⟩=some (.slice va vn vc)∧w'.cell? ⟨w.heap.size+1,2,none⟩=some (.int .i64 eb)))):=fun w' hb=>⟨(box_cells29 (box_later hA hb (by omega))).1,(box_cells29 (box_later hBb hb (by omega))).1⟩
 have HRD:Hid (∀ w',Bw W w'→Bw W w'.drew):=fun w' h=>h.trans ⟨rfl,rfl,rfl,Nat.le_refl _,fun _ _=>rfl⟩
 have hBR:Bw W W.drew:=(Below.refl _ _).drew
 have hne:(sa==sb)=false:=by simp;omega
 have hne2:(sa != sb)=true:=by simp;omega
 clear kA kB hA hBb hsz hBW 
 go_enter Tryz.func49,Tryz.ntmps49
 go_upto_region 1 with fail
 rw[←hW]
 clear hW
 go_cut [5,6] from 8 to 11 (fun u v w'=>u=.int .i64 sa∧v=.int .i64 sb∧Hid (Bw W w'))
 case first =>
  go_region_held3 (fun w'=>((w'.cell? ⟨w.heap.size,0,none⟩=some (.bool na)∧w'.cell? ⟨w.heap.size,1,none⟩=some (.slice ua un uc)∧w'.cell? ⟨w.heap.size,2,none⟩=some (.int .i64 ea))∧(w'.cell? ⟨w.heap.size+1,0,none⟩=some (.bool nb)∧w'.cell? ⟨w.heap.size+1,1,none⟩=some (.slice va vn vc)∧w'.cell? ⟨w.heap.size+1,2,none⟩=some (.int .i64 eb)))) (first|(with_reducible assumption)|exact⟨⟨a0,a1,a2⟩,b0,b1,b2⟩|(refine HK.out _ ?_;with_reducible assumption)|go_keep)
   (first|(go_at_call 47;first|(with_reducible refine(kA' _ (by first|(with_reducible assumption)|exact hBR)).mono ?_;rintro r w5 ⟨rfl,hb5⟩)|(with_reducible refine(kB' _ (by first|(with_reducible assumption)|exact hBR)).mono ?_;rintro r w6 ⟨rfl,hb6⟩)))
  all_goals go_wp2_with fail
  all_goals go_meet
  all_goals exact⟨rfl,rfl,by first|exact hb6|exact hb5⟩
 case rest =>
  obtain⟨rfl,rfl,hc⟩:=hcut
  obtain⟨W2,rfl⟩:∃ W2:World,W2=wc:=⟨_,rfl⟩
  clear a0 a1 a2 b0 b1 b2 kA' kB' hBR
  go_wp2
  go_ret;exact⟨rfl,HX.out.trans (hc.out.mono HX.out.size)⟩
theorem rorder_gt (na nb:Bool) (ua va:Option Addr) (un uc vn vc:Nat) (ea eb sa sb c:Int) (w:World) (hs:¬ sa<sb) (hn:sa≠sb)
  (kA:∀ W,Bw w W→Calls Tryz.prog 47 #[.agg #[.bool na,.slice ua un uc,.int .i64 ea]] W fun r w'=>r=.returned (.int .i64 sa)∧Bw W w')
  (kB:∀ W,Bw w W→Calls Tryz.prog 47 #[.agg #[.bool nb,.slice va vn vc,.int .i64 eb]] W fun r w'=>r=.returned (.int .i64 sb)∧Bw W w') :
  Calls Tryz.prog 49 #[.agg #[.bool na,.slice ua un uc,.int .i64 ea],.agg #[.bool nb,.slice va vn vc,.int .i64 eb]] w fun r w'=>r=.returned (.int .i64 (1))∧Bw w w':=by
 obtain⟨W,hW⟩:∃ W,W=(w.alloc (.cells #[.bool na,.slice ua un uc,.int .i64 ea] 54)).alloc (.cells #[.bool nb,.slice va vn vc,.int .i64 eb] 54):=⟨_,rfl⟩
 obtain⟨hA,hBb,hsz,hBW⟩:=two29 _ _ hW
 have HX:Hid (Bw w W):=hBW
 have kA':∀ w4,Bw W w4→Calls Tryz.prog 47 #[.agg #[.bool na,.slice ua un uc,.int .i64 ea]] w4 fun r w'=>r=.returned (.int .i64 sa)∧Bw W w':=fun w4 h4=>(kA w4 (hBW.trans (h4.mono hBW.size))).mono fun r w' ⟨e1,o2⟩=>⟨e1,h4.trans (o2.mono h4.size)⟩
 have kB':∀ w4,Bw W w4→Calls Tryz.prog 47 #[.agg #[.bool nb,.slice va vn vc,.int .i64 eb]] w4 fun r w'=>r=.returned (.int .i64 sb)∧Bw W w':=fun w4 h4=>(kB w4 (hBW.trans (h4.mono hBW.size))).mono fun r w' ⟨e1,o2⟩=>⟨e1,h4.trans (o2.mono h4.size)⟩
 obtain⟨⟨a0,a1,a2⟩,-⟩:=box_cells29 hA
 obtain⟨⟨b0,b1,b2⟩,-⟩:=box_cells29 hBb
 have HK:Hid (∀ w',Bw W w'→((w'.cell? ⟨w.heap.size,0,none⟩=some (.bool na)∧w'.cell? ⟨w.heap.size,1,none⟩=some (.slice ua un uc)∧w'.cell? ⟨w.heap.size,2,none⟩=some (.int .i64 ea))∧(w'.cell? ⟨w.heap.size+1,0,none⟩=some (.bool nb)∧w'.cell? ⟨w.heap.size+1,1,none⟩=some (.slice va vn vc)∧w'.cell? ⟨w.heap.size+1,2,none⟩=some (.int .i64 eb)))):=fun w' hb=>⟨(box_cells29 (box_later hA hb (by omega))).1,(box_cells29 (box_later hBb hb (by omega))).1⟩
 have HRD:Hid (∀ w',Bw W w'→Bw W w'.drew):=fun w' h=>h.trans ⟨rfl,rfl,rfl,Nat.le_refl _,fun _ _=>rfl⟩
 have hBR:Bw W W.drew:=(Below.refl _ _).drew
 have hne:(sa==sb)=false:=by simp;omega
 have hne2:(sa != sb)=true:=by simp;omega
 clear kA kB hA hBb hsz hBW hn
 go_enter Tryz.func49,Tryz.ntmps49
 go_upto_region 1 with fail
 rw[←hW]
 clear hW
 go_cut [5,6] from 8 to 11 (fun u v w'=>u=.int .i64 sa∧v=.int .i64 sb∧Hid (Bw W w'))
 case first =>
  go_region_held3 (fun w'=>((w'.cell? ⟨w.heap.size,0,none⟩=some (.bool na)∧w'.cell? ⟨w.heap.size,1,none⟩=some (.slice ua un uc)∧w'.cell? ⟨w.heap.size,2,none⟩=some (.int .i64 ea))∧(w'.cell? ⟨w.heap.size+1,0,none⟩=some (.bool nb)∧w'.cell? ⟨w.heap.size+1,1,none⟩=some (.slice va vn vc)∧w'.cell? ⟨w.heap.size+1,2,none⟩=some (.int .i64 eb)))) (first|(with_reducible assumption)|exact⟨⟨a0,a1,a2⟩,b0,b1,b2⟩|(refine HK.out _ ?_;with_reducible assumption)|go_keep)
   (first|(go_at_call 47;first|(with_reducible refine(kA' _ (by first|(with_reducible assumption)|exact hBR)).mono ?_;rintro r w5 ⟨rfl,hb5⟩)|(with_reducible refine(kB' _ (by first|(with_reducible assumption)|exact hBR)).mono ?_;rintro r w6 ⟨rfl,hb6⟩)))
  all_goals go_wp2_with fail
  all_goals go_meet
  all_goals exact⟨rfl,rfl,by first|exact hb6|exact hb5⟩
 case rest =>
  obtain⟨rfl,rfl,hc⟩:=hcut
  obtain⟨W2,rfl⟩:∃ W2:World,W2=wc:=⟨_,rfl⟩
  clear a0 a1 a2 b0 b1 b2 kA' kB' hBR
  go_wp2
  go_ret;exact⟨rfl,HX.out.trans (hc.out.mono HX.out.size)⟩
theorem rorder_all (na nb:Bool) (ua va:Option Addr) (un uc vn vc:Nat) (ea eb sa sb c R:Int) (w:World) (hse0:sa=sb) (hcase:Hid ((0≤sa∧(c=0∧R=0∨0<c∧R=1∨c<0∧R = -1))∨(sa<0∧(c=0∧R=0∨0<c∧R = -1∨c<0∧R=1)))) (hc3 : -90000000000≤c) (hc4:c≤90000000000)
  (kA:∀ W,Bw w W→Calls Tryz.prog 47 #[.agg #[.bool na,.slice ua un uc,.int .i64 ea]] W fun r w'=>r=.returned (.int .i64 sa)∧Bw W w')
  (kB:∀ W,Bw w W→Calls Tryz.prog 47 #[.agg #[.bool nb,.slice va vn vc,.int .i64 eb]] W fun r w'=>r=.returned (.int .i64 sb)∧Bw W w')
  (kM:∀ W,Bw w W→Calls Tryz.prog 114 #[.agg #[.bool na,.slice ua un uc,.int .i64 ea],.agg #[.bool nb,.slice va vn vc,.int .i64 eb]] W fun r w'=>r=.returned (.int .i64 c)∧Bw W w') :
  Calls Tryz.prog 49 #[.agg #[.bool na,.slice ua un uc,.int .i64 ea],.agg #[.bool nb,.slice va vn vc,.int .i64 eb]] w fun r w'=>r=.returned (.int .i64 R)∧Bw w w':=by
 obtain⟨W,hW⟩:∃ W,W=(w.alloc (.cells #[.bool na,.slice ua un uc,.int .i64 ea] 54)).alloc (.cells #[.bool nb,.slice va vn vc,.int .i64 eb] 54):=⟨_,rfl⟩
 obtain⟨hA,hBb,hsz,hBW⟩:=two29 _ _ hW
 have HX:Hid (Bw w W):=hBW
 have kA':∀ w4,Bw W w4→Calls Tryz.prog 47 #[.agg #[.bool na,.slice ua un uc,.int .i64 ea]] w4 fun r w'=>r=.returned (.int .i64 sa)∧Bw W w':=fun w4 h4=>(kA w4 (hBW.trans (h4.mono hBW.size))).mono fun r w' ⟨e1,o2⟩=>⟨e1,h4.trans (o2.mono h4.size)⟩
 have kB':∀ w4,Bw W w4→Calls Tryz.prog 47 #[.agg #[.bool nb,.slice va vn vc,.int .i64 eb]] w4 fun r w'=>r=.returned (.int .i64 sb)∧Bw W w':=fun w4 h4=>(kB w4 (hBW.trans (h4.mono hBW.size))).mono fun r w' ⟨e1,o2⟩=>⟨e1,h4.trans (o2.mono h4.size)⟩
 have kM':∀ w4,Bw W w4→Calls Tryz.prog 114 #[.agg #[.bool na,.slice ua un uc,.int .i64 ea],.agg #[.bool nb,.slice va vn vc,.int .i64 eb]] w4 fun r w'=>r=.returned (.int .i64 c)∧Bw W w':=fun w4 h4=>(kM w4 (hBW.trans (h4.mono hBW.size))).mono fun r w' ⟨e1,o2⟩=>⟨e1,h4.trans (o2.mono h4.size)⟩
 have HKM:Hid (∀ w4,Bw W w4→Calls Tryz.prog 114 #[.agg #[.bool na,.slice ua un uc,.int .i64 ea],.agg #[.bool nb,.slice va vn vc,.int .i64 eb]] w4 fun r w'=>r=.returned (.int .i64 c)∧Bw W w'):=kM'
 obtain⟨⟨a0,a1,a2⟩,-⟩:=box_cells29 hA
 obtain⟨⟨b0,b1,b2⟩,-⟩:=box_cells29 hBb
 have HK:Hid (∀ w',Bw W w'→((w'.cell? ⟨w.heap.size,0,none⟩=some (.bool na)∧w'.cell? ⟨w.heap.size,1,none⟩=some (.slice ua un uc)∧w'.cell? ⟨w.heap.size,2,none⟩=some (.int .i64 ea))∧(w'.cell? ⟨w.heap.size+1,0,none⟩=some (.bool nb)∧w'.cell? ⟨w.heap.size+1,1,none⟩=some (.slice va vn vc)∧w'.cell? ⟨w.heap.size+1,2,none⟩=some (.int .i64 eb)))):=fun w' hb=>⟨(box_cells29 (box_later hA hb (by omega))).1,(box_cells29 (box_later hBb hb (by omega))).1⟩
 have HRD:Hid (∀ w',Bw W w'→Bw W w'.drew):=fun w' h=>h.trans ⟨rfl,rfl,rfl,Nat.le_refl _,fun _ _=>rfl⟩
 have hBR:Bw W W.drew:=(Below.refl _ _).drew
 have hse:(sa==sb)=true:=by simp;omega
 have hse2:(sa != sb)=false:=by simp;omega
 have HC:Hid (-90000000000≤c∧c≤90000000000):=⟨hc3,hc4⟩
 clear kA kB kM kM' hA hBb hsz hBW hc3 hc4 hse0
 go_enter Tryz.func49,Tryz.ntmps49
 go_upto_region 1 with fail
 rw[←hW]
 clear hW
 go_cut [5,6] from 8 to 11 (fun u v w'=>u=.int .i64 sa∧v=.int .i64 sb∧Hid (Bw W w'))
 case first =>
  go_region_held3 (fun w'=>((w'.cell? ⟨w.heap.size,0,none⟩=some (.bool na)∧w'.cell? ⟨w.heap.size,1,none⟩=some (.slice ua un uc)∧w'.cell? ⟨w.heap.size,2,none⟩=some (.int .i64 ea))∧(w'.cell? ⟨w.heap.size+1,0,none⟩=some (.bool nb)∧w'.cell? ⟨w.heap.size+1,1,none⟩=some (.slice va vn vc)∧w'.cell? ⟨w.heap.size+1,2,none⟩=some (.int .i64 eb)))) (first|(with_reducible assumption)|exact⟨⟨a0,a1,a2⟩,b0,b1,b2⟩|(refine HK.out _ ?_;with_reducible assumption)|go_keep)
   (first|(go_at_call 47;first|(with_reducible refine(kA' _ (by first|(with_reducible assumption)|exact hBR)).mono ?_;rintro r w5 ⟨rfl,hb5⟩)|(with_reducible refine(kB' _ (by first|(with_reducible assumption)|exact hBR)).mono ?_;rintro r w6 ⟨rfl,hb6⟩)))
  all_goals go_wp2_with fail
  all_goals go_meet
  all_goals exact⟨rfl,rfl,by first|exact hb6|exact hb5⟩
 case rest =>
  obtain⟨rfl,rfl,hc⟩:=hcut
  obtain⟨W2,rfl⟩:∃ W2:World,W2=wc:=⟨_,rfl⟩
  clear a0 a1 a2 b0 b1 b2 kA' kB' hBR
  have kM':=HKM.out W2 hc.out
  obtain⟨⟨a0,a1,a2⟩,b0,b1,b2⟩:=HK.out W2 hc.out
  go_wp2_with fail
  refine kM'.mono ?_
  rintro r w7 ⟨rfl,hb7⟩
  have HL7:Hid (Bw W w7):=hb7
  clear kM' HK HKM a0 a1 a2 b0 b1 b2 hb7
  rcases hcase.out with ⟨hs,h⟩|⟨hs,h⟩
  ·have hs1:¬ sa<0:=by omega
   rcases h with ⟨h,rfl⟩|⟨h,rfl⟩|⟨h,rfl⟩
   ·have hc1:¬ c<0:=by omega
    have hc2:¬ 0<c:=by omega
    clear h
    go_wp2
    go_ret
    exact⟨rfl,HX.out.trans (HL7.out.mono HX.out.size)⟩
   ·have hc1:¬ c<0:=by omega
    go_wp2
    go_ret
    exact⟨rfl,HX.out.trans (HL7.out.mono HX.out.size)⟩
   ·go_wp2
    go_ret
    exact⟨rfl,HX.out.trans (HL7.out.mono HX.out.size)⟩
  ·have hcb:=HC.out
   obtain⟨d,hd⟩:∃ d,d = -c:=⟨_,rfl⟩
   have hdw:IntKind.i64.wrap d=d:=by rw[IntKind.wrap_i64];omega
   have hdn : -c=d:=hd.symm
   rcases h with ⟨h,rfl⟩|⟨h,rfl⟩|⟨h,rfl⟩
   ·have hd1:¬ d<0:=by omega
    have hd2:¬ 0<d:=by omega
    clear hd h hcb
    go_wp2
    go_ret
    exact⟨rfl,HX.out.trans (HL7.out.mono HX.out.size)⟩
   ·have hd1:d<0:=by omega
    clear hd h hcb
    go_wp2
    go_ret
    exact⟨rfl,HX.out.trans (HL7.out.mono HX.out.size)⟩
   ·have hd1:¬ d<0:=by omega
    have hd2:0<d:=by omega
    clear hd h hcb
    go_wp2
    go_ret
    exact⟨rfl,HX.out.trans (HL7.out.mono HX.out.size)⟩
theorem magI_sign {x y:Nat} {ea eb:Int}:cmpI (magI x ea y eb) 0=cmpI (x*2^(ea - min ea eb).toNat:Nat) (y*2^(eb - min ea eb).toNat:Nat):=by
 unfold magI
 by_cases h0:x=0∨y=0
 ·rw[if_pos h0]
  by_cases hx:x=0
  ·subst hx
   rw[dlen_zero,Nat.zero_mul]
   by_cases hy:y=0
   ·subst hy;rw[dlen_zero,Nat.zero_mul];rfl
   ·have h1:dlen y≠0:=fun e=>hy (dlen_eq_zero.1 e)
    have h2:0<y*2^(eb - min ea eb).toNat:=Nat.mul_pos (by omega) (Nat.two_pow_pos _)
    unfold cmpI
    rw[if_pos (by omega),if_pos (by omega)]
  ·have hy:y=0:=by omega
   subst hy
   rw[dlen_zero,Nat.zero_mul]
   have h1:dlen x≠0:=fun e=>hx (dlen_eq_zero.1 e)
   have h2:0<x*2^(ea - min ea eb).toNat:=Nat.mul_pos (by omega) (Nat.two_pow_pos _)
   unfold cmpI
   rw[if_neg (by omega),if_pos (by omega),if_neg (by omega),if_pos (by omega)]
 ·rw[if_neg h0]
  have hx0:x≠0:=fun e=>h0 (.inl e)
  have hy0:y≠0:=fun e=>h0 (.inr e)
  by_cases ht:(bl x:Int)+ea=bl y+eb
  ·rw[if_pos ht]
   rcases cmpI_cases (x*2^(ea - min ea eb).toNat:Nat) (y*2^(eb - min ea eb).toNat:Nat)with h|h|h <;> rw[h.2] <;> rfl
  ·rw[if_neg ht]
   rcases cmpI_cases (bl x+ea) (bl y+eb)with h|h|h
   ·have:=top_lt (x:=x) (k:=(ea - min ea eb).toNat) (l:=(eb - min ea eb).toNat) hy0 (by omega)
    unfold cmpI;rw[if_pos (by omega),if_pos (by omega)]
   ·have:=top_lt (x:=y) (y:=x) (k:=(eb - min ea eb).toNat) (l:=(ea - min ea eb).toNat) hx0 (by omega)
    unfold cmpI;rw[if_neg (by omega),if_pos (by omega),if_neg (by omega),if_pos (by omega)]
   ·exact absurd h.1 ht
theorem magI_le {x y:Nat} {ea eb:Int} (hx:dlen x≤400000) (hy:dlen y≤400000) (ha : -2000000≤ea∧ea≤2000000) (hb : -2000000≤eb∧eb≤2000000) : -90000000000≤magI x ea y eb∧magI x ea y eb≤90000000000:=by
 have b1:=bl_le_dlen x
 have b2:=bl_le_dlen y
 unfold magI
 split
 ·omega
 ·split
  ·rcases cmpI_cases (x*2^(ea - min ea eb).toNat:Nat) (y*2^(eb - min ea eb).toNat:Nat)with h|h|h <;> rw[h.2] <;> omega
  ·omega
theorem rorder {na nb:Bool} {ua va:Option Addr} {uc vc x y:Nat} {ea eb:Int} {w:World} (h1:Arg w ua (dlen x) uc x) (h2:Arg w va (dlen y) vc y) (hx:dlen x≤400000) (hy:dlen y≤400000) (ha : -2000000≤ea∧ea≤2000000) (hb : -2000000≤eb∧eb≤2000000) :
  Calls Tryz.prog 49 #[.agg #[.bool na,.slice ua (dlen x) uc,.int .i64 ea],.agg #[.bool nb,.slice va (dlen y) vc,.int .i64 eb]] w fun r w'=>r=.returned (.int .i64 (ordN na x ea nb y eb))∧Bw w w':=by
 have kA:∀ W,Bw w W→Calls Tryz.prog 47 #[.agg #[.bool na,.slice ua (dlen x) uc,.int .i64 ea]] W fun r w'=>r=.returned (.int .i64 (sgI na (dlen x)))∧Bw W w':=fun W hW=>rsgn (by omega)
 have kB:∀ W,Bw w W→Calls Tryz.prog 47 #[.agg #[.bool nb,.slice va (dlen y) vc,.int .i64 eb]] W fun r w'=>r=.returned (.int .i64 (sgI nb (dlen y)))∧Bw W w':=fun W hW=>rsgn (by omega)
 have kM:∀ W,Bw w W→Calls Tryz.prog 114 #[.agg #[.bool na,.slice ua (dlen x) uc,.int .i64 ea],.agg #[.bool nb,.slice va (dlen y) vc,.int .i64 eb]] W fun r w'=>r=.returned (.int .i64 (magI x ea y eb))∧Bw W w':=fun W hW=>rmag (h1.later hW) (h2.later hW) hx hy ha hb
 have hl:=magI_le (ea:=ea) (eb:=eb) hx hy ha hb
 have hm:=magI_sign (x:=x) (y:=y) (ea:=ea) (eb:=eb)
 unfold ordN
 rw[←hm]
 generalize hsa:sgI na (dlen x)=sa at *
 generalize hsb:sgI nb (dlen y)=sb at *
 generalize magI x ea y eb=c at *
 by_cases hs:sa=sb
 ·rw[if_pos hs]
  have hs3:sa=0∨sa = -1∨sa=1:=by
   rw[←hsa];unfold sgI
   split
   ·exact .inl rfl
   ·split
    ·exact .inr (.inl rfl)
    ·exact .inr (.inr rfl)
  by_cases hsn:sa<0
  ·have hs1:sa = -1:=by omega
   rcases cmpI_cases c 0 with h|h|h
   ·rw[h.2,show sa * -1=1 by omega];exact rorder_all na nb ua va _ uc _ vc ea eb sa sb c _ w hs (.inr ⟨hsn,.inr (.inr ⟨h.1,rfl⟩)⟩) hl.1 hl.2 kA kB kM
   ·rw[h.2,show sa*1 = -1 by omega];exact rorder_all na nb ua va _ uc _ vc ea eb sa sb c _ w hs (.inr ⟨hsn,.inr (.inl ⟨h.1,rfl⟩)⟩) hl.1 hl.2 kA kB kM
   ·rw[h.2,Int.mul_zero];exact rorder_all na nb ua va _ uc _ vc ea eb sa sb c _ w hs (.inr ⟨hsn,.inl ⟨h.1,rfl⟩⟩) hl.1 hl.2 kA kB kM
  ·by_cases h0:sa=0
   ·have hc0:c=0:=by
     have hdx:dlen x=0:=by
      apply Decidable.byContradiction
      intro hne
      rw[h0,sgI_pos hne] at hsa
      cases na <;> simp at hsa
     have hdy:dlen y=0:=by
      apply Decidable.byContradiction
      intro hne
      rw[←hs,h0,sgI_pos hne] at hsb
      cases nb <;> simp at hsb
     have ex:x=0:=dlen_eq_zero.1 hdx
     have ey:y=0:=dlen_eq_zero.1 hdy
     subst ex;subst ey
     rw[Nat.zero_mul,Nat.zero_mul] at hm
     rcases cmpI_cases c 0 with h|h|h
     ·rw[h.2] at hm;exact absurd hm (by decide)
     ·rw[h.2] at hm;exact absurd hm (by decide)
     ·exact h.1
    rw[show sa*cmpI c 0=0 by rw[h0,Int.zero_mul]]
    exact rorder_all na nb ua va _ uc _ vc ea eb sa sb c _ w hs (.inl ⟨(by omega),.inl ⟨hc0,rfl⟩⟩) hl.1 hl.2 kA kB kM
   ·have hs1:sa=1:=by omega
    rw[show sa*cmpI c 0=cmpI c 0 by rw[hs1,Int.one_mul]]
    rcases cmpI_cases c 0 with h|h|h
    ·rw[h.2];exact rorder_all na nb ua va _ uc _ vc ea eb sa sb c _ w hs (.inl ⟨(by omega),.inr (.inr ⟨h.1,rfl⟩)⟩) hl.1 hl.2 kA kB kM
    ·rw[h.2];exact rorder_all na nb ua va _ uc _ vc ea eb sa sb c _ w hs (.inl ⟨(by omega),.inr (.inl ⟨h.1,rfl⟩)⟩) hl.1 hl.2 kA kB kM
    ·rw[h.2];exact rorder_all na nb ua va _ uc _ vc ea eb sa sb c _ w hs (.inl ⟨(by omega),.inl ⟨h.1,rfl⟩⟩) hl.1 hl.2 kA kB kM
 ·rw[if_neg hs]
  unfold cmpI
  by_cases hlt:sa<sb
  ·rw[if_pos hlt];exact rorder_lt na nb ua va _ uc _ vc ea eb sa sb c w hlt kA kB
  ·rw[if_neg hlt,if_pos (by omega)];exact rorder_gt na nb ua va _ uc _ vc ea eb sa sb c w hlt hs kA kB
end Go.Proofs.YtfkaogdmlcdceaaGreatDoor
namespace Go.Proofs.YtfkaogdmlcdceaaGreatDoor
open Go.RowKit Go.Fl64
def gS (t1 t2:Bool×Nat×Int):Bool×Nat×Int:=cn (sumN t1.1 t1.2.1 t1.2.2 t2.1 t2.2.1 t2.2.2).1 (sumN t1.1 t1.2.1 t1.2.2 t2.1 t2.2.1 t2.2.2).2.1 (sumN t1.1 t1.2.1 t1.2.2 t2.1 t2.2.1 t2.2.2).2.2
def gM (t1 t2:Bool×Nat×Int):Bool×Nat×Int:=cn (!(t1.1==t2.1)) (t1.2.1*t2.2.1) (t1.2.2+t2.2.2)
def gD (t1 t2:Bool×Nat×Int):Bool×Nat×Int:=cn (sumN t1.1 t1.2.1 t1.2.2 (!t2.1&&decide (0<dlen t2.2.1)) t2.2.1 t2.2.2).1 (sumN t1.1 t1.2.1 t1.2.2 (!t2.1&&decide (0<dlen t2.2.1)) t2.2.1 t2.2.2).2.1 (sumN t1.1 t1.2.1 t1.2.2 (!t2.1&&decide (0<dlen t2.2.1)) t2.2.1 t2.2.2).2.2
def gN (t:Bool×Nat×Int):Bool×Nat×Int:=if t.2.1=0 then(false,0,0) else(!t.1,t.2.1,t.2.2)
theorem gtimes_1 (na nb sg:Bool) (ua va:Option Addr) (un uc vn vc x y:Nat) (ea eb:Int) (w:World) (h1:Ir w (.slice ua un uc) x) (h2:Ir w (.slice va vn vc) y) (hx:dlen x≤400000) (hy:dlen y≤400000) (he1 : -4000000≤ea) (he2:ea≤4000000) (he3 : -4000000≤eb) (he4:eb≤4000000) (hsg:(!(na==nb))=sg) :
  Calls Tryz.prog 39 #[.agg #[.bool na,.slice ua un uc,.int .i64 ea],.agg #[.bool nb,.slice va vn vc,.int .i64 eb]] w fun r w'=>∃ a,r=.returned a∧NC w' w.heap.size a sg (x*y) (ea+eb)∧Bw w w':=by
 obtain⟨W,hW⟩:∃ W,W=((w.alloc (.cells #[.bool na,.slice ua un uc,.int .i64 ea] 54)).alloc (.cells #[.bool nb,.slice va vn vc,.int .i64 eb] 54)).alloc (.cells #[.bool false,.slice none 0 0,.int .i64 0] 54):=⟨_,rfl⟩
 obtain⟨hA,hBb,hC,hsz,hBW⟩:=boxes3 _ _ _ hW
 have hxy:dlen (x*y)≤1000000:=by
  have l1:=(dlen_le (dlen x) x).1 (Nat.le_refl _)
  have l2:=(dlen_le (dlen y) y).1 (Nat.le_refl _)
  have:dlen (x*y)≤dlen x+dlen y:=(dlen_le _ _).2 (by
   rw[Nat.pow_add]
   rcases Nat.eq_zero_or_pos x with h|h
   ·rw[h,Nat.zero_mul];exact Nat.mul_pos (Bpow_pos _) (Bpow_pos _)
   ·exact Nat.mul_lt_mul_of_lt_of_le l1 (Nat.le_of_lt l2) (Bpow_pos _))
  omega
 have HH:Hid (W.heap[w.heap.size+1+1]?=some (.cells #[.bool false,.slice none 0 0,.int .i64 0] 54 (0,0))∧W.heap.size=w.heap.size+1+1+1∧Bw w W):=⟨hC,hsz,hBW⟩
 have k78:∀ w4,Bw W w4→Calls Tryz.prog 104 #[.slice ua un uc,.slice va vn vc] w4 fun r w'=>∃ v,r=.returned v∧Own w' W.heap.size v (x*y)∧Bw W w':=fun w4 hb =>
  (rprod ((h1.later hBW).later hb) ((h2.later hBW).later hb) (by omega) (by omega)).mono fun r w' ⟨v,e1,o1,o2⟩=>⟨v,e1,o1.mono hb.size,hb.trans (o2.mono hb.size)⟩
 have k31:∀ v5 w5,Own w5 W.heap.size v5 (x*y)→Bw W w5→Calls Tryz.prog 103 #[.bool sg,v5,.int .i64 (ea+eb)] w5 fun r w'=>∃ s ao n cap ex,r=.returned (.agg #[.bool s,.slice ao n cap,.int .i64 ex]) ∧
   Hid (NC w' w5.heap.size (.agg #[.bool s,.slice ao n cap,.int .i64 ex]) sg (x*y) (ea+eb)∧W.heap.size≤w5.heap.size)∧Bw W w'∧Hid (w'.heap[w.heap.size+1+1]?=some (.cells #[.bool false,.slice none 0 0,.int .i64 0] 54 (0,0))) ∧
   (w'.cell? ⟨w.heap.size+1+1,0,none⟩=some (.bool false)∧w'.cell? ⟨w.heap.size+1+1,1,none⟩=some (.slice none 0 0)∧w'.cell? ⟨w.heap.size+1+1,2,none⟩=some (.int .i64 0))∧(w'.frozen? ⟨w.heap.size+1+1,0,none⟩=false∧w'.frozen? ⟨w.heap.size+1+1,1,none⟩=false∧w'.frozen? ⟨w.heap.size+1+1,2,none⟩=false):=by
  intro v5 w5 ho hb
  obtain⟨ao0,cap0,rfl,hl0,-,hat0⟩:=ho.is
  refine(rnormN hat0 (Nat.le_refl _) hl0 (by omega) (by omega)).mono ?_
  rintro r w6 ⟨a,rfl,hN,hb6⟩
  obtain⟨s,ao,n,cap,ex,rfl⟩:=hN.shape
  have hb46:Bw W w6:=hb.trans (hb6.mono hb.size)
  have hblk:=box_later HH.out.1 hb46 (by have:=HH.out.2.1;omega)
  obtain⟨f1,f2⟩:=box_cells29 hblk
  exact⟨s,ao,n,cap,ex,rfl,⟨hN,hb.size⟩,hb46,hblk,f1,f2⟩
 obtain⟨⟨a0,a1,a2⟩,-⟩:=box_cells29 hA
 obtain⟨⟨b0,b1,b2⟩,-⟩:=box_cells29 hBb
 have HK:Hid (∀ w',Bw W w'→((w'.cell? ⟨w.heap.size,0,none⟩=some (.bool na)∧w'.cell? ⟨w.heap.size,1,none⟩=some (.slice ua un uc)∧w'.cell? ⟨w.heap.size,2,none⟩=some (.int .i64 ea))∧(w'.cell? ⟨w.heap.size+1,0,none⟩=some (.bool nb)∧w'.cell? ⟨w.heap.size+1,1,none⟩=some (.slice va vn vc)∧w'.cell? ⟨w.heap.size+1,2,none⟩=some (.int .i64 eb)))):=fun w' hb=>⟨(box_cells29 (box_later hA hb (by omega))).1,(box_cells29 (box_later hBb hb (by omega))).1⟩
 have HK2:Hid (∀ w',Below (w.heap.size+1+1) W w'→((w'.cell? ⟨w.heap.size,0,none⟩=some (.bool na)∧w'.cell? ⟨w.heap.size,1,none⟩=some (.slice ua un uc)∧w'.cell? ⟨w.heap.size,2,none⟩=some (.int .i64 ea))∧(w'.cell? ⟨w.heap.size+1,0,none⟩=some (.bool nb)∧w'.cell? ⟨w.heap.size+1,1,none⟩=some (.slice va vn vc)∧w'.cell? ⟨w.heap.size+1,2,none⟩=some (.int .i64 eb)))):=fun w' hb=>⟨(box_cells29 (box_later hA hb (by omega))).1,(box_cells29 (box_later hBb hb (by omega))).1⟩
 have HS2:Hid (w.heap.size+1+1≤W.heap.size):=(by omega:w.heap.size+1+1≤W.heap.size)
 have hBR:Bw W W.drew:=(Below.refl _ _).drew
 have wz:IntKind.i64.wrap (ea+eb)=ea+eb:=by rw[IntKind.wrap_i64];omega
 clear hA hBb hC hsz hBW h1 h2 hx hy hxy
 go_enter Tryz.func39,Tryz.ntmps39
 go_upto_region 1 with fail
 rw[←hW]
 clear hW
 go_region_held3 (fun w'=>((w'.cell? ⟨w.heap.size,0,none⟩=some (.bool na)∧w'.cell? ⟨w.heap.size,1,none⟩=some (.slice ua un uc)∧w'.cell? ⟨w.heap.size,2,none⟩=some (.int .i64 ea))∧(w'.cell? ⟨w.heap.size+1,0,none⟩=some (.bool nb)∧w'.cell? ⟨w.heap.size+1,1,none⟩=some (.slice va vn vc)∧w'.cell? ⟨w.heap.size+1,2,none⟩=some (.int .i64 eb)))) (first|(with_reducible assumption)|exact⟨⟨a0,a1,a2⟩,b0,b1,b2⟩|(refine HK.out _ ?_;with_reducible assumption)|(refine HK2.out _ (below_store3 (Below.mono hb6 HS2.out) (Nat.le_refl _) _ _ _))|go_keep)
  (first|(go_at_call 104;refine(k78 _ (by first|(with_reducible assumption)|exact hBR)).mono ?_;rintro r w5 ⟨v5,rfl,ho5,hb5⟩)|(go_at_call 103;(try simp only[hsg,wz]);refine(k31 _ _ ho5 hb5).mono ?_;rintro r w6 ⟨s6,ao6,n6,cap6,ex6,rfl,hN6,hb6,hblk6,⟨x1,x2,x3⟩,x4,x5,x6⟩))
 have HF:Hid (Bw W w6):=hb6
 clear ho5 hb5 hb6 k31 k78 x1 x2 x3 x4 x5 x6 a0 a1 a2 b0 b1 b2 HK HK2
 go_wp2
 refine bodyPost_ret (results_cell_row rfl _ _ (w.heap.size+1+1) 54 #[.bool s6,.slice ao6 n6 cap6,.int .i64 ex6] (0,0) _ rfl (store3_29 _ _ _ hblk6.out) Tryz.underlying54 rfl Tryz.info54) rfl ?_
 obtain⟨-,hs,hBW⟩:=HH.out
 have hs5:=hN6.out.2
 exact⟨_,rfl,(hN6.out.1.store (by omega) _ _ _).mono (by omega),below_store3 (hBW.trans (HF.out.mono hBW.size)) (by omega) _ _ _⟩
theorem garg0 (w:World):Arg w none 0 0 0:=⟨fun _=>.inr ⟨rfl,rfl⟩,⟨0,0,fun h=>absurd h (by omega),fun i hi=>absurd hi (by omega)⟩,Nat.le_refl _,by omega⟩
theorem garg0D (w:World):Arg w none (dlen 0) 0 0:=by rw[dlen_zero];exact garg0 w
theorem gdn0 (w:World):DN w (.agg #[.bool false,.slice none 0 0,.int .i64 0]) (false,0,0):=⟨none,0,by show _=Value.agg #[.bool false,.slice none (dlen 0) 0,.int .i64 0];rw[dlen_zero],garg0D w⟩
def Gn (t:Bool×Nat×Int):Prop:=cn t.1 t.2.1 t.2.2=t∧dlen t.2.1≤60000 ∧ -1000000≤t.2.2∧t.2.2≤1000000
theorem gplus {t1 t2:Bool×Nat×Int} {X Y:Value} {w:World} (o1:Gn t1) (o2:Gn t2) (h1:DN w X t1) (h2:DN w Y t2):Calls Tryz.prog 83 #[X,Y] w fun r w'=>∃ A,r=.returned A∧DN w' A (gS t1 t2)∧Bw w w':=by
 obtain⟨ao,cap,rfl,a1⟩:=h1
 obtain⟨ao',cap',rfl,a2⟩:=h2
 obtain⟨c1,f1,f2,f3⟩:=o1
 obtain⟨c2,g1,g2,g3⟩:=o2
 exact(rplusG a1 a2 c1 c2 (by omega) (by omega) (by omega) (by omega) (by omega) (by omega)).mono fun r w' ⟨A,e,h,hb⟩=>⟨A,e,h.dn,hb⟩
theorem gplusS {t1 t2:Bool×Nat×Int} {X Y:Value} {w:World} (o1:Gn t1) (o2:Gn t2) (h1:DN w X t1) (h2:DN w Y t2) (hsm:t1.1=t2.1∨t1.2.1=0):Calls Tryz.prog 83 #[X,Y] w fun r w'=>∃ A,r=.returned A∧DN w' A (gS t1 t2)∧Bw w w':=by
 obtain⟨ao,cap,rfl,a1⟩:=h1
 obtain⟨ao',cap',rfl,a2⟩:=h2
 obtain⟨c1,f1,f2,f3⟩:=o1
 obtain⟨c2,g1,g2,g3⟩:=o2
 exact(rplusS a1 a2 c1 c2 (by omega) (by omega) (by omega) (by omega) (by omega) (by omega) hsm).mono fun r w' ⟨A,e,h,hb⟩=>⟨A,e,h.dn,hb⟩
theorem gtimes {t1 t2:Bool×Nat×Int} {X Y:Value} {w:World} (o1:Gn t1) (o2:Gn t2) (h1:DN w X t1) (h2:DN w Y t2):Calls Tryz.prog 39 #[X,Y] w fun r w'=>∃ A,r=.returned A∧DN w' A (gM t1 t2)∧Bw w w':=by
 obtain⟨ao,cap,rfl,a1⟩:=h1
 obtain⟨ao',cap',rfl,a2⟩:=h2
 obtain⟨c1,f1,f2,f3⟩:=o1
 obtain⟨c2,g1,g2,g3⟩:=o2
 exact(gtimes_1 t1.1 t2.1 _ ao ao' _ cap _ cap' t1.2.1 t2.2.1 t1.2.2 t2.2.2 w ⟨ao,cap,rfl,a1.le,a1.at_⟩ ⟨ao',cap',rfl,a2.le,a2.at_⟩ (by omega) (by omega) (by omega) (by omega) (by omega) (by omega) rfl).mono fun r w' ⟨A,e,h,hb⟩=>⟨A,e,h.dn,hb⟩
theorem gorder {t1 t2:Bool×Nat×Int} {X Y:Value} {w:World} (o1:Gn t1) (o2:Gn t2) (h1:DN w X t1) (h2:DN w Y t2):Calls Tryz.prog 49 #[X,Y] w fun r w'=>r=.returned (.int .i64 (ordN t1.1 t1.2.1 t1.2.2 t2.1 t2.2.1 t2.2.2))∧Bw w w':=by
 obtain⟨ao,cap,rfl,a1⟩:=h1
 obtain⟨ao',cap',rfl,a2⟩:=h2
 obtain⟨c1,f1,f2,f3⟩:=o1
 obtain⟨c2,g1,g2,g3⟩:=o2
 exact rorder a1 a2 (by omega) (by omega) (by omega) (by omega)
theorem Gn.zero {t:Bool×Nat×Int} (h:Gn t) (h0:t.2.1=0):t=(false,0,0):=by
 have e:=h.1
 unfold cn at e
 rw[if_pos h0] at e
 exact e.symm
theorem gcn_turn {t:Bool×Nat×Int} (h:cn t.1 t.2.1 t.2.2=t) (h0:t.2.1≠0) (s:Bool):cn s t.2.1 t.2.2=(s,t.2.1,t.2.2):=by
 unfold cn at h ⊢
 rw[if_neg h0] at h ⊢
 rw[Prod.ext_iff] at h
 exact Prod.ext rfl h.2
theorem gless {t1 t2:Bool×Nat×Int} {X Y:Value} {w:World} (o1:Gn t1) (o2:Gn t2) (h1:DN w X t1) (h2:DN w Y t2):Calls Tryz.prog 45 #[X,Y] w fun r w'=>∃ A,r=.returned A∧DN w' A (gD t1 t2)∧Bw w w':=by
 obtain⟨ao,cap,rfl,a1⟩:=h1
 obtain⟨ao',cap',rfl,a2⟩:=h2
 have z2:=o2.zero
 obtain⟨c1,f1,f2,f3⟩:=o1
 obtain⟨c2,g1,g2,g3⟩:=o2
 unfold gD
 by_cases h0:t2.2.1=0
 ·have e2:=z2 h0
  have e3:t2.1=false:=by rw[e2]
  have e4:t2.2.2=0:=by rw[e2]
  rw[h0,e3,e4,dlen_zero]
  have k2:=fun(W:World) (hW:Bw w W)=>rplusG (nb:=false) (y:=0) (eb:=0) (a1.later hW) (garg0D W) c1 rfl (by omega) (by omega) (by omega) (by omega) (by omega) (by rw[dlen_zero];omega)
  simp only[dlen_zero] at k2
  exact(rlessN_1 t1.1 false ao ao' (dlen t1.2.1) cap 0 cap' t1.2.2 0 false none 0 0 0 _ _ _ w (fun W=>rminus_0 false ao' cap' 0 W) k2).mono fun r w' ⟨A,e,h,hb⟩=>⟨A,e,h.dn,hb⟩
 ·have hl:0<dlen t2.2.1:=by have:=dlen_pos h0;omega
  rw[decide_eq_true hl,Bool.and_true]
  exact(rlessN_1 t1.1 t2.1 ao ao' (dlen t1.2.1) cap (dlen t2.2.1) cap' t1.2.2 t2.2.2 (!t2.1) ao' (dlen t2.2.1) cap' t2.2.2 _ _ _ w (fun W=>rminus_1 t2.1 ao' (dlen t2.2.1) cap' t2.2.2 W (by omega) (by rw[beq_eq_false_iff_ne];omega)) (fun W hW=>rplusG (a1.later hW) (a2.later hW) c1 (gcn_turn c2 h0 _) (by omega) (by omega) (by omega) (by omega) (by omega) (by omega))).mono fun r w' ⟨A,e,h,hb⟩=>⟨A,e,h.dn,hb⟩
theorem gscaled_0 (na:Bool) (ua:Option Addr) (uc:Nat) (ea k:Int) (w:World) :
  Calls Tryz.prog 37 #[.agg #[.bool na,.slice ua 0 uc,.int .i64 ea],.int .i64 k] w fun r w'=>r=.returned (.agg #[.bool false,.slice none 0 0,.int .i64 0])∧Bw w w':=by
 obtain⟨W,hW⟩:∃ W,W=(w.alloc (.cells #[.bool na,.slice ua 0 uc,.int .i64 ea] 54)).alloc (.cells #[.bool false,.slice none 0 0,.int .i64 0] 54):=⟨_,rfl⟩
 obtain⟨hA,hB,hsz,hBW⟩:=two29 _ _ hW
 obtain⟨⟨a0,a1,a2⟩,-⟩:=box_cells29 hA
 obtain⟨⟨b0,b1,b2⟩,b3,b4,b5⟩:=box_cells29 hB
 have HX:Hid (Bw w W∧W.heap[w.heap.size+1]?=some (.cells #[.bool false,.slice none 0 0,.int .i64 0] 54 (0,0))):=⟨hBW,hB⟩
 clear hA hB hsz hBW
 have HE:Hid (W=(w.alloc (.cells #[.bool na,.slice ua 0 uc,.int .i64 ea] 54)).alloc (.cells #[.bool false,.slice none 0 0,.int .i64 0] 54)):=hW
 rw[hW] at a0 a1 a2 b0 b1 b2 b3 b4 b5
 clear hW
 go_enter Tryz.func37,Tryz.ntmps37
 go_wp2
 refine bodyPost_ret (results_cell_row rfl _ _ (w.heap.size+1) 54 #[.bool false,.slice none 0 0,.int .i64 0] (0,0) _ rfl (two29 _ _ rfl).2.1 Tryz.underlying54 rfl Tryz.info54) rfl ?_
 exact⟨rfl,(two29 _ _ rfl).2.2.2⟩
def gK (k:Int) (t:Bool×Nat×Int):Bool×Nat×Int:=if t.2.1=0 then(false,0,0) else(t.1,t.2.1,t.2.2+k)
theorem gscaled_1 (na:Bool) (ua:Option Addr) (un uc:Nat) (ea k:Int) (w:World) (hn:un≤35184372088832) (hn0:((un:Int)==0)=false) (he : -2000000≤ea∧ea≤2000000) (hk : -2000000≤k∧k≤2000000) :
  Calls Tryz.prog 37 #[.agg #[.bool na,.slice ua un uc,.int .i64 ea],.int .i64 k] w fun r w'=>r=.returned (.agg #[.bool na,.slice ua un uc,.int .i64 (ea+k)])∧Bw w w':=by
 obtain⟨W,hW⟩:∃ W,W=(w.alloc (.cells #[.bool na,.slice ua un uc,.int .i64 ea] 54)).alloc (.cells #[.bool false,.slice none 0 0,.int .i64 0] 54):=⟨_,rfl⟩
 obtain⟨hA,hB,hsz,hBW⟩:=two29 _ _ hW
 obtain⟨⟨a0,a1,a2⟩,-⟩:=box_cells29 hA
 obtain⟨⟨b0,b1,b2⟩,b3,b4,b5⟩:=box_cells29 hB
 obtain⟨he1,he2⟩:=he
 obtain⟨hk1,hk2⟩:=hk
 clear hA hB hsz hBW
 rw[hW] at a0 a1 a2 b0 b1 b2 b3 b4 b5
 clear hW
 go_enter Tryz.func37,Tryz.ntmps37
 go_wp2
 refine bodyPost_ret (results_cell_row rfl _ _ (w.heap.size+1) 54 #[.bool na,.slice ua un uc,.int .i64 (ea+k)] (0,0) _ rfl (two29 _ _ rfl).2.1 Tryz.underlying54 rfl Tryz.info54) rfl ?_
 exact⟨rfl,(two29 _ _ rfl).2.2.2⟩
theorem gscaled {t:Bool×Nat×Int} {X:Value} {w:World} {k:Int} (o:Gn t) (h:DN w X t) (hk : -1000000≤k∧k≤1000000):Calls Tryz.prog 37 #[X,.int .i64 k] w fun r w'=>∃ A,r=.returned A∧DN w' A (gK k t)∧Bw w w':=by
 obtain⟨ao,cap,rfl,a1⟩:=h
 have hz:=o.zero
 obtain⟨c1,f1,f2,f3⟩:=o
 unfold gK
 by_cases h0:t.2.1=0
 ·rw[if_pos h0,h0,dlen_zero]
  refine(gscaled_0 t.1 ao cap t.2.2 k w).mono ?_
  rintro r w' ⟨rfl,hb⟩
  exact⟨_,rfl,gdn0 _,hb⟩
 ·rw[if_neg h0]
  have hl:0<dlen t.2.1:=by have:=dlen_pos h0;omega
  refine(gscaled_1 t.1 ao (dlen t.2.1) cap t.2.2 k w (by omega) (by rw[beq_eq_false_iff_ne];omega) ⟨by omega,by omega⟩ ⟨by omega,by omega⟩).mono ?_
  rintro r w' ⟨rfl,hb⟩
  exact⟨_,rfl,⟨ao,cap,rfl,a1.later hb⟩,hb⟩
theorem gminus {t:Bool×Nat×Int} {A:Value} {w:World} (h:DN w A t):Calls Tryz.prog 111 #[A] w fun r w'=>∃ B,r=.returned B∧DN w' B (gN t)∧Bw w w':=by
 obtain⟨ao,cap,rfl,hA⟩:=h
 unfold gN
 by_cases h0:t.2.1=0
 ·rw[if_pos h0,dlen_eq_zero.2 h0]
  refine(rminus_0 t.1 ao cap t.2.2 w).mono ?_
  rintro r w' ⟨rfl,hb⟩
  exact⟨_,rfl,gdn0 _,hb⟩
 ·rw[if_neg h0]
  have hd:dlen t.2.1≠0:=fun e=>h0 (dlen_eq_zero.1 e)
  refine(rminus_1 t.1 ao (dlen t.2.1) cap t.2.2 w hA.small (by simp;omega)).mono ?_
  rintro r w' ⟨rfl,hb⟩
  exact⟨_,rfl,⟨ao,cap,rfl,hA.later hb⟩,hb⟩
theorem gwhole_1 (n:Int) (m:Nat) (w:World) (hm:m<18446744073709551616) (hn1:0≤n) (hn2:n≤9223372036854775807) (hwr:IntKind.u64.wrap n=(m:Int)) :
  Calls Tryz.prog 46 #[.int .i64 n] w fun r w'=>∃ A,r=.returned A∧NC w' w.heap.size A false m 0∧Bw w w':=by
 have hnn:¬ n<0:=by omega
 obtain⟨W,hW⟩:∃ W,W=w.alloc (.cells #[.bool false,.slice none 0 0,.int .i64 0] 54):=⟨_,rfl⟩
 have k34:=xnorm_two (ng:=false) (m:=m) (e:=0) (W:=W) hm (by omega)
 have HB0:Hid (Bw w W∧W.heap[w.heap.size]?=some (.cells #[.bool false,.slice none 0 0,.int .i64 0] 54 (0,0))∧W.heap.size=w.heap.size+1):=⟨by rw[hW];exact(Below.refl _ _).alloc (Nat.le_refl _) _,by rw[hW];exact heap_alloc_new _ _,by rw[hW];simp⟩
 (try unfold Bw at k34);rw[HB0.out.2.2] at k34
 go_enter Tryz.func46,Tryz.ntmps46
 go_wp2_with fail
 rw[←hW]
 clear hW
 refine k34.mono ?_
 rintro r w3 ⟨s,ao,n,cap,ex,rfl,hn,hb⟩
 have hs:=HB0.out.2.2
 have HC3:Hid (w3.heap[w.heap.size]?=some (.cells #[.bool false,.slice none 0 0,.int .i64 0] 54 (0,0))):=box_later HB0.out.2.1 hb (by omega)
 obtain⟨⟨a1,a2,a3⟩,a4,a5,a6⟩:=box_cells29 HC3.out
 have HN:Hid (NC w3 (w.heap.size+1) (.agg #[.bool s,.slice ao n cap,.int .i64 ex]) false m 0∧Below (w.heap.size+1) W w3):=⟨hn.mono (by omega),hb⟩
 clear hn hb k34 hs
 go_wp2
 refine bodyPost_ret (results_cell_row rfl _ _ w.heap.size 54 #[.bool s,.slice ao n cap,.int .i64 ex] (0,0) _ rfl (store3_29 _ _ _ HC3.out) Tryz.underlying54 rfl Tryz.info54) rfl ?_
 have hs:=HB0.out.2.2
 exact⟨_,rfl,(HN.out.1.store (by omega) _ _ _).mono (by omega),below_store3 (HB0.out.1.trans (HN.out.2.mono (by omega))) (Nat.le_refl _) _ _ _⟩
theorem gwhole_2 (n:Int) (m:Nat) (w:World) (hm:m<18446744073709551616) (hn1:n<0) (hn2 : -9223372036854775808≤n) (hwr : -(n+1)+1=(m:Int)) :
  Calls Tryz.prog 46 #[.int .i64 n] w fun r w'=>∃ A,r=.returned A∧NC w' w.heap.size A true m 0∧Bw w w':=by
 obtain⟨W,hW⟩:∃ W,W=w.alloc (.cells #[.bool false,.slice none 0 0,.int .i64 0] 54):=⟨_,rfl⟩
 have k34:=xnorm_two (ng:=true) (m:=m) (e:=0) (W:=W) hm (by omega)
 have HB0:Hid (Bw w W∧W.heap[w.heap.size]?=some (.cells #[.bool false,.slice none 0 0,.int .i64 0] 54 (0,0))∧W.heap.size=w.heap.size+1):=⟨by rw[hW];exact(Below.refl _ _).alloc (Nat.le_refl _) _,by rw[hW];exact heap_alloc_new _ _,by rw[hW];simp⟩
 (try unfold Bw at k34);rw[HB0.out.2.2] at k34
 go_enter Tryz.func46,Tryz.ntmps46
 go_wp2_with fail
 rw[←hW]
 clear hW
 refine k34.mono ?_
 rintro r w3 ⟨s,ao,n,cap,ex,rfl,hn,hb⟩
 have hs:=HB0.out.2.2
 have HC3:Hid (w3.heap[w.heap.size]?=some (.cells #[.bool false,.slice none 0 0,.int .i64 0] 54 (0,0))):=box_later HB0.out.2.1 hb (by omega)
 obtain⟨⟨a1,a2,a3⟩,a4,a5,a6⟩:=box_cells29 HC3.out
 have HN:Hid (NC w3 (w.heap.size+1) (.agg #[.bool s,.slice ao n cap,.int .i64 ex]) true m 0∧Below (w.heap.size+1) W w3):=⟨hn.mono (by omega),hb⟩
 clear hn hb k34 hs
 go_wp2
 refine bodyPost_ret (results_cell_row rfl _ _ w.heap.size 54 #[.bool s,.slice ao n cap,.int .i64 ex] (0,0) _ rfl (store3_29 _ _ _ HC3.out) Tryz.underlying54 rfl Tryz.info54) rfl ?_
 have hs:=HB0.out.2.2
 exact⟨_,rfl,(HN.out.1.store (by omega) _ _ _).mono (by omega),below_store3 (HB0.out.1.trans (HN.out.2.mono (by omega))) (Nat.le_refl _) _ _ _⟩
theorem gwhole {n:Int} {w:World} (hn : -9223372036854775808≤n∧n≤9223372036854775807) :
  Calls Tryz.prog 46 #[.int .i64 n] w fun r w'=>∃ A,r=.returned A∧DN w' A (cn (decide (n<0)) n.natAbs 0)∧Bw w w':=by
 by_cases h:n<0
 ·rw[decide_eq_true h]
  exact(gwhole_2 n n.natAbs w (by omega) h (by omega) (by omega)).mono fun r w' ⟨A,e,h,hb⟩=>⟨A,e,h.dn,hb⟩
 ·rw[decide_eq_false h]
  exact(gwhole_1 n n.natAbs w (by omega) (by omega) (by omega) (by rw[IntKind.wrap_u64];omega)).mono fun r w' ⟨A,e,h,hb⟩=>⟨A,e,h.dn,hb⟩
def un (Z:Int) (p:Nat):Bool×Nat×Int:=cn (decide (Z<0)) Z.natAbs (-(p:Int))
theorem sv_nat (Z:Int):sv (decide (Z<0)) Z.natAbs=Z:=by
 unfold sv
 by_cases h:Z<0
 ·rw[if_pos (decide_eq_true h)];omega
 ·rw[if_neg (by simpa using h)];omega
theorem vz_un {K p:Nat} (Z:Int) (h:p≤K):vz K (un Z p).1 (un Z p).2.1 (un Z p).2.2=Z*((2^(K - p):Nat):Int):=by
 unfold un
 rw[vz_cn (by omega)]
 unfold vz
 rw[sv_nat,show(-(p:Int)+(K:Int)).toNat=K - p by omega]
theorem tz_le {x b:Nat} (h:x<2^b):tz x≤b:=by
 by_cases h0:x=0
 ·rw[h0];exact Nat.le_trans (Nat.le_of_eq (by rw[tz];rfl)) (Nat.zero_le _)
 ·have h2:=(tz_spec x x (Nat.le_refl _) h0).1
  have h3:2^tz x≤x:=by
   have h4:0<x / 2^tz x:=by
    rcases Nat.eq_zero_or_pos (x / 2^tz x)with h|h
    ·rw[h,Nat.mul_zero] at h2;omega
    ·exact h
   exact Nat.le_trans (Nat.le_mul_of_pos_right _ h4) (Nat.le_of_eq h2)
  exact Nat.le_of_lt ((Nat.pow_lt_pow_iff_right (by omega)).1 (Nat.lt_of_le_of_lt h3 h))
theorem un_e {Z:Int} {p b:Nat} (h:Z.natAbs<2^b) : -(p:Int)≤(un Z p).2.2∧(un Z p).2.2≤b∧0≤(un Z p).2.2+(p:Int):=by
 have ht:=tz_le h
 unfold un cn
 by_cases h0:Z.natAbs=0
 ·rw[if_pos h0];simp only;omega
 ·rw[if_neg h0];simp only;omega
theorem dlen_two9 {x b:Nat} (h:x<2^b):dlen x≤b / 32+1:=by
 refine(dlen_le _ _).2 (Nat.lt_of_lt_of_le h ?_)
 rw[show B=2^32 by rfl,←Nat.pow_mul]
 exact Nat.pow_le_pow_right (by decide) (by omega)
theorem cn_idem (s:Bool) (z:Nat) (e:Int):cn (cn s z e).1 (cn s z e).2.1 (cn s z e).2.2=cn s z e:=by
 by_cases h0:z=0
 ·unfold cn;rw[if_pos h0,if_pos rfl]
 ·have h2:=(tz_spec z z (Nat.le_refl _) h0).2
  have:cn s z e=(s,z / 2^tz z,e+tz z):=by unfold cn;rw[if_neg h0]
  rw[this]
  exact cn_odd h2
theorem un_small {Z:Int} {p b:Nat} (h:Z.natAbs<2^b):(un Z p).2.1<2^b:=by
 unfold un cn
 split
 ·exact Nat.two_pow_pos _
 ·exact Nat.lt_of_le_of_lt (Nat.div_le_self _ _) h
theorem un_gn {Z:Int} {p b:Nat} (h:Z.natAbs<2^b) (hb:b≤90000) (hp:p≤90000):Gn (un Z p):=by
 have h1:=un_e (p:=p) h
 have h2:=dlen_two9 (un_small (p:=p) h)
 exact⟨cn_idem _ _ _,by omega,by omega,by omega⟩
theorem un_eq {s:Bool} {z:Nat} {e:Int} {Z:Int} {p K:Nat} (hp:p≤K) (he:0≤e+K) (h:vz K s z e=Z*((2^(K - p):Nat):Int)):cn s z e=un Z p:=by
 unfold un
 refine cn_eq he (by omega) ?_
 rw[h]
 unfold vz
 rw[sv_nat,show(-(p:Int)+(K:Int)).toNat=K - p by omega]
theorem gS_un {a b:Int} {p:Nat}:gS (un a p) (un b p)=un (a+b) p:=by
 have e1:=(un_e (p:=p) (Nat.lt_two_pow_self (n:=a.natAbs))).2.2
 have e2:=(un_e (p:=p) (Nat.lt_two_pow_self (n:=b.natAbs))).2.2
 unfold gS
 have hs:0≤(sumN (un a p).1 (un a p).2.1 (un a p).2.2 (un b p).1 (un b p).2.1 (un b p).2.2).2.2+(p:Int):=by
  unfold sumN
  split
  ·exact e2
  ·split
   ·exact e1
   ·split
    ·simp only;omega
    ·split <;> (simp only;omega)
 refine un_eq (K:=p) (Nat.le_refl _) hs ?_
 rw[vz_sumN e1 e2,vz_un a (Nat.le_refl _),vz_un b (Nat.le_refl _),←Int.add_mul]
theorem un_sign {Z:Int} {p:Nat}:((un Z p).1=true→0<dlen (un Z p).2.1)∧((un Z p).2.1=0↔Z=0):=by
 have hz:(un Z p).2.1=0↔Z=0:=by
  have h:=vz_un (K:=p) (p:=p) Z (Nat.le_refl _)
  have e:=vz_eq_zero (K:=p) (s:=(un Z p).1) (x:=(un Z p).2.1) (e:=(un Z p).2.2)
  rw[h,Nat.sub_self,Nat.pow_zero] at e
  constructor
  ·intro h0;have:=e.2 h0;simpa using this
  ·intro h0;exact e.1 (by rw[h0];simp)
 refine⟨fun h=>?_,hz⟩
 by_cases h0:(un Z p).2.1=0
 ·have:Z=0:=hz.1 h0
  subst this
  exact absurd h (by unfold un cn;rw[if_pos (by decide)];decide)
 ·have:dlen (un Z p).2.1≠0:=fun e=>h0 (dlen_eq_zero.1 e)
  omega
theorem gN_un {a:Int} {p:Nat}:gN (un a p)=un (-a) p:=by
 unfold gN
 by_cases h0:(un a p).2.1=0
 ·rw[if_pos h0]
  have:=un_sign.2.1 h0
  subst this
  unfold un cn;rw[if_pos (by decide)]
 ·rw[if_neg h0]
  have e1:=(un_e (p:=p) (Nat.lt_two_pow_self (n:=a.natAbs))).2.2
  have k:cn (!(un a p).1) (un a p).2.1 (un a p).2.2=(!(un a p).1,(un a p).2.1,(un a p).2.2):=gcn_turn (cn_idem _ _ _) h0 _
  rw[←k]
  refine un_eq (K:=p) (Nat.le_refl _) e1 ?_
  have h:=vz_un (K:=p) (p:=p) a (Nat.le_refl _)
  unfold vz at h ⊢
  have hs:sv (!(un a p).1) (un a p).2.1 = - sv (un a p).1 (un a p).2.1:=by unfold sv;cases (un a p).1 <;> simp
  rw[hs,Int.neg_mul,h,Int.neg_mul]
theorem gD_un {a b:Int} {p:Nat}:gD (un a p) (un b p)=un (a - b) p:=by
 have h:gD (un a p) (un b p)=gS (un a p) (gN (un b p)):=by
  unfold gD gS gN
  by_cases h0:(un b p).2.1=0
  ·rw[if_pos h0]
   have hb:=un_sign.2.1 h0
   subst hb
   have e:un 0 p=(false,0,0):=by unfold un cn;rw[if_pos (by decide)]
   rw[e,dlen_zero]
   rfl
  ·rw[if_neg h0]
   have hd:dlen (un b p).2.1≠0:=fun e=>h0 (dlen_eq_zero.1 e)
   rw[decide_eq_true (show 0<dlen (un b p).2.1 by omega),Bool.and_true]
 rw[h,gN_un,gS_un,Int.sub_eq_add_neg]
theorem gM_un {a b:Int} {p q:Nat}:gM (un a p) (un b q)=un (a*b) (p+q):=by
 have e1:=(un_e (p:=p) (Nat.lt_two_pow_self (n:=a.natAbs))).2.2
 have e2:=(un_e (p:=q) (Nat.lt_two_pow_self (n:=b.natAbs))).2.2
 unfold gM
 refine un_eq (K:=p+q) (Nat.le_refl _) (by omega) ?_
 rw[vz_mul e1 e2,vz_un a (Nat.le_refl _),vz_un b (Nat.le_refl _),Nat.sub_self,Nat.sub_self,Nat.sub_self]
 simp
theorem gK_un {a:Int} {p:Nat} {k:Int} {q:Nat} (h:(p:Int) - k=q):gK k (un a p)=un a q:=by
 unfold gK
 by_cases h0:(un a p).2.1=0
 ·rw[if_pos h0]
  have hb:=un_sign.2.1 h0
  subst hb
  unfold un cn;rw[if_pos (by decide)]
 ·rw[if_neg h0]
  unfold un at h0 ⊢
  unfold cn at h0 ⊢
  by_cases hz:a.natAbs=0
  ·rw[if_pos hz] at h0;exact absurd rfl h0
  ·rw[if_neg hz,if_neg hz]
   refine Prod.ext rfl (Prod.ext rfl ?_)
   simp only;omega
theorem un_whole (n:Int):cn (decide (n<0)) n.natAbs 0=un n 0:=rfl
end Go.Proofs.YtfkaogdmlcdceaaGreatDoor
namespace Go.Proofs.YtfkaogdmlcdceaaGreatDoor
inductive Smp:Nat→Nat→Nat→Nat→Nat→Nat→Prop
 | whole {a b c d:Nat}:0<b→a % b=0→Smp a b c d (a / b) 1
 | above {a b c d:Nat}:0<b→a % b≠0→(a / b+1)*d≤c→Smp a b c d (a / b+1) 1
 | more {a b c d p q:Nat}:0<b→a % b≠0→c<(a / b+1)*d→Smp d (c - a / b*d) b (a % b) p q→Smp a b c d (a / b*p+q) p
end Go.Proofs.YtfkaogdmlcdceaaGreatDoor
namespace Go.Proofs.YtfkaogdmlcdceaaGreatDoor
open Go.RowKit Go.Fl64
theorem okR_un {Z:Int} {p b:Nat} (h:Z.natAbs<2^b) (hb:b≤60000) (hp:p≤60000):okR (decide (Z<0)) Z.natAbs (-(p:Int))=true :=
 Fits.ok (lo := -(p:Int)) (hi:=(b:Int) - p) (.inr ⟨by omega,by omega,by rw[show((b:Int) - p - (-(p:Int))).toNat=b by omega];exact h⟩) (by omega) (by omega) (by omega)
theorem ok_un {Z:Int} {p b:Nat} (h:Z.natAbs<2^b) (hb:b≤60000) (hp:p≤60000):Ok (un Z p):=ok_cn (okR_un h hb hp)
theorem pow_grow {x b:Nat} (k:Nat) (h:x<2^b):x<2^(b+k):=Nat.lt_of_lt_of_le h (Nat.pow_le_pow_right (by decide) (by omega))
theorem abs_add {a b:Int} {k:Nat} (h1:a.natAbs<2^k) (h2:b.natAbs<2^k):(a+b).natAbs<2^(k+1):=by rw[Nat.pow_succ];omega
theorem abs_sub {a b:Int} {k:Nat} (h1:a.natAbs<2^k) (h2:b.natAbs<2^k):(a - b).natAbs<2^(k+1):=by rw[Nat.pow_succ];omega
theorem abs_mul {a b:Int} {k l:Nat} (h1:a.natAbs<2^k) (h2:b.natAbs<2^l):(a*b).natAbs<2^(k+l):=by
 rw[Int.natAbs_mul,Nat.pow_add]
 exact Nat.mul_lt_mul'' h1 h2
theorem padd_un {a b:Int} {p k:Nat} (h1:a.natAbs<2^k) (h2:b.natAbs<2^k) (hk:k<60000) (hp:p≤60000):Op2 167 (un a p) (un b p) (un (a+b) p):=by
 have e:=gS_un (a:=a) (b:=b) (p:=p)
 have:=add_op (ok_un (p:=p) h1 (by omega) hp) (ok_un (p:=p) h2 (by omega) hp) (by
  rw[okR_cn]
  have o:=ok_un (p:=p) (abs_add h1 h2) (by omega) hp
  rw[←e] at o
  exact o)
 rw[←e]
 exact this
theorem psub_un {a b:Int} {p k:Nat} (h1:a.natAbs<2^k) (h2:b.natAbs<2^k) (hk:k<60000) (hp:p≤60000):Op2 161 (un a p) (un b p) (un (a - b) p):=by
 have e:=gD_un (a:=a) (b:=b) (p:=p)
 have:=sub_op (ok_un (p:=p) h1 (by omega) hp) (ok_un (p:=p) h2 (by omega) hp) (by
  rw[okR_cn]
  have o:=ok_un (p:=p) (abs_sub h1 h2) (by omega) hp
  rw[←e] at o
  exact o)
 rw[←e]
 exact this
theorem pmul_un {a b:Int} {p q k l:Nat} (h1:a.natAbs<2^k) (h2:b.natAbs<2^l) (hk:k+l≤60000) (hp:p+q≤60000):Op2 162 (un a p) (un b q) (un (a*b) (p+q)):=by
 have e:=gM_un (a:=a) (b:=b) (p:=p) (q:=q)
 have:=mul_op (ok_un (p:=p) h1 (by omega) (by omega)) (ok_un (p:=q) h2 (by omega) (by omega)) (by
  rw[okR_cn]
  have o:=ok_un (p:=p+q) (abs_mul h1 h2) (by omega) hp
  rw[←e] at o
  exact o)
 rw[←e]
 exact this
theorem ord_un {a b:Int} {p:Nat}:ordN (un a p).1 (un a p).2.1 (un a p).2.2 (un b p).1 (un b p).2.1 (un b p).2.2=cmpI a b:=by
 have e1:=(un_e (p:=p) (Nat.lt_two_pow_self (n:=a.natAbs))).2.2
 have e2:=(un_e (p:=p) (Nat.lt_two_pow_self (n:=b.natAbs))).2.2
 rw[ordN_vz e1 e2,vz_un a (Nat.le_refl _),vz_un b (Nat.le_refl _),Nat.sub_self,Nat.pow_zero]
 simp
theorem pcmp_un {a b:Int} {p k:Nat} (h1:a.natAbs<2^k) (h2:b.natAbs<2^k) (hk:k≤60000) (hp:p≤60000) {W:World} {X Y:Value} (hX:PN W X (un a p)) (hY:PN W Y (un b p)) :
  Calls Tryz.prog 166 #[X,Y] W fun r w'=>r=.returned (.int .i64 (cmpI a b))∧Bw W w':=by
 have o1:=ok_un (p:=p) h1 hk hp
 have o2:=ok_un (p:=p) h2 hk hp
 have f1:=o1.facts
 have f2:=o2.facts
 obtain⟨ua,uc,rfl,i1⟩:=hX
 obtain⟨va,vc,rfl,i2⟩:=hY
 have:=cmp_ok i1 i2 (by omega) (by omega) (by omega) (by omega) o1 o2
 rw[ord_un] at this
 exact this
theorem div_cross {X Y A B:Nat} (hY:0<Y) (hB:0<B) (h:X*B=A*Y):X / Y=A / B∧(X % Y=0↔A % B=0):=by
 have h1:X / Y=A / B:=by
  rw[←Nat.mul_div_mul_right X Y hB,h,Nat.mul_comm Y B,Nat.mul_div_mul_right A B hY]
 refine⟨h1,?_⟩
 have e1:=Nat.div_add_mod X Y
 have e2:=Nat.div_add_mod A B
 have e3:X % Y*B=A % B*Y:=by
  have g1:X*B=Y*(A / B)*B+X % Y*B:=by rw[←Nat.add_mul,←h1,e1]
  have g2:A*Y=B*(A / B)*Y+A % B*Y:=by rw[←Nat.add_mul,e2]
  have g3:Y*(A / B)*B=B*(A / B)*Y:=by ac_rfl
  omega
 constructor
 ·intro h0
  rw[h0,Nat.zero_mul] at e3
  rcases Nat.mul_eq_zero.1 e3.symm with h|h
  ·exact h
  ·omega
 ·intro h0
  rw[h0,Nat.zero_mul] at e3
  rcases Nat.mul_eq_zero.1 e3 with h|h
  ·exact h
  ·omega
theorem un_nat {A p:Nat}:(un (A:Int) p).1=false:=by
 unfold un cn
 rw[decide_eq_false (by omega)]
 split <;> rfl
theorem pquo_un {A B p k:Nat} (h1:A<2^k) (h2:B<2^k) (h0:0<B) (hk:k≤60000) (hp:p≤60000) {W:World} {X Y:Value} (hT:Tab32 W) (hX:PN W X (un (A:Int) p)) (hY:PN W Y (un (B:Int) p)) :
  Calls Tryz.prog 90 #[X,Y,.int .i64 0] W fun r w'=>∃ s ao n cap e,r=.returned (.tuple #[.agg #[.bool s,.slice ao n cap,.int .i64 e],.bool (decide (A % B=0)),.int .i64 0])∧PN w' (.agg #[.bool s,.slice ao n cap,.int .i64 e]) (un ((A / B:Nat):Int) 0)∧Bw W w':=by
 have a1:((A:Nat):Int).natAbs<2^k:=by rw[Int.natAbs_natCast];exact h1
 have b1:((B:Nat):Int).natAbs<2^k:=by rw[Int.natAbs_natCast];exact h2
 have o1:=ok_un (p:=p) a1 hk hp
 have o2:=ok_un (p:=p) b1 hk hp
 have f1:=o1.facts
 have f2:=o2.facts
 have v1:=vz_un (K:=p) (p:=p) (A:Int) (Nat.le_refl _)
 have v2:=vz_un (K:=p) (p:=p) (B:Int) (Nat.le_refl _)
 have g1:=(un_e (p:=p) a1).2.2
 have g2:=(un_e (p:=p) b1).2.2
 have n1:=un_nat (A:=A) (p:=p)
 have n2:=un_nat (A:=B) (p:=p)
 have z2:(un (B:Int) p).2.1≠0:=fun h=>by have:=un_sign.2.1 h;omega
 obtain⟨ua,uc,rfl,i1⟩:=hX
 obtain⟨va,vc,rfl,i2⟩:=hY
 obtain⟨t1,ht1⟩:∃ t,t=un (A:Int) p:=⟨_,rfl⟩
 obtain⟨t2,ht2⟩:∃ t,t=un (B:Int) p:=⟨_,rfl⟩
 rw[←ht1] at o1 f1 v1 g1 n1 i1 ⊢
 rw[←ht2] at o2 f2 v2 g2 n2 z2 i2 ⊢
 obtain⟨s1,x,ea⟩:=t1
 obtain⟨s2,y,eb⟩:=t2
 simp only at o1 f1 v1 g1 n1 i1 o2 f2 v2 g2 n2 z2 i2 ⊢
 subst n1
 subst n2
 have eA:x*2^(ea+(p:Int)).toNat=A:=by
  unfold vz sv at v1
  rw[Nat.sub_self,Nat.pow_zero] at v1
  simp only[Bool.false_eq_true,if_false,Int.mul_one] at v1
  have:((x*2^(ea+(p:Int)).toNat:Nat):Int)=(A:Int):=by
   rw[Int.natCast_mul];simpa using v1
  exact Int.ofNat.inj this
 have eB:y*2^(eb+(p:Int)).toNat=B:=by
  unfold vz sv at v2
  rw[Nat.sub_self,Nat.pow_zero] at v2
  simp only[Bool.false_eq_true,if_false,Int.mul_one] at v2
  have:((y*2^(eb+(p:Int)).toNat:Nat):Int)=(B:Int):=by
   rw[Int.natCast_mul];simpa using v2
  exact Int.ofNat.inj this
 obtain⟨P,hP⟩:∃ P,x*2^(ea+0 - min (ea+0) eb).toNat=P:=⟨_,rfl⟩
 obtain⟨Q,hQ⟩:∃ Q,y*2^(eb - min (ea+0) eb).toNat=Q:=⟨_,rfl⟩
 have hQ0:0<Q:=by rw[←hQ];exact Nat.mul_pos (Nat.pos_of_ne_zero z2) (Nat.two_pow_pos _)
 have hcr:P*B=A*Q:=by
  rw[←hP,←hQ,←eA,←eB]
  have e1:(ea+0 - min (ea+0) eb).toNat+(eb+(p:Int)).toNat=(ea+(p:Int)).toNat+(eb - min (ea+0) eb).toNat:=by omega
  generalize (ea+0 - min (ea+0) eb).toNat=j1 at *
  generalize (eb+(p:Int)).toNat=j2 at *
  generalize (ea+(p:Int)).toNat=j3 at *
  generalize (eb - min (ea+0) eb).toNat=j4 at *
  have e2:(2:Nat)^j1*2^j2=2^j3*2^j4:=by rw[←Nat.pow_add,←Nat.pow_add,e1]
  calc x*2^j1*(y*2^j2)=x*y*(2^j1*2^j2):=by ac_rfl
   _=x*y*(2^j3*2^j4):=by rw[e2]
   _=x*2^j3*(y*2^j4):=by ac_rfl
 obtain⟨d1,d2⟩:=div_cross hQ0 h0 hcr
 refine(c44 (na:=false) (nb:=false) (place:=0) i1 i2 hT z2 (by omega) (by omega) o1 o2 ⟨f1.2.1,f1.2.2.1⟩ ⟨f2.2.1,f2.2.2.1⟩ (by omega) P Q hP hQ).mono ?_
 rintro r w' ⟨N,rfl,hN,hb⟩
 have hz:(if((false:Bool) != false) && !(decide (P % Q=0))then P / Q+1 else P / Q)=A / B:=by rw[←d1];rfl
 have hdec:decide (P % Q=0)=decide (A % B=0):=by
  by_cases h:A % B=0
  ·rw[decide_eq_true h,decide_eq_true (d2.2 h)]
  ·rw[decide_eq_false h,decide_eq_false (fun g=>h (d2.1 g))]
 rw[hz] at hN
 have hq1:((A / B:Nat):Int).natAbs<2^k:=by rw[Int.natAbs_natCast];exact Nat.lt_of_le_of_lt (Nat.div_le_self _ _) h1
 have hokq:okR ((false:Bool) != false) (A / B) (-(0:Int))=true:=by
  have:=okR_un (p:=0) hq1 hk (by omega)
  rw[decide_eq_false (by omega),Int.natAbs_natCast] at this
  exact this
 rw[hz,hokq,hdec]
 have hpn:=hN.pn
 have he:cn ((false:Bool) != false) (A / B) (-(0:Int))=un ((A / B:Nat):Int) 0:=by
  unfold un
  rw[decide_eq_false (by omega),Int.natAbs_natCast]
  rfl
 rw[he] at hpn
 obtain⟨s',ao,n,cap,e',rfl⟩:=hpn.shape
 exact⟨s',ao,n,cap,e',by rw[Bool.and_true];rfl,hpn,hb⟩
end Go.Proofs.YtfkaogdmlcdceaaGreatDoor
