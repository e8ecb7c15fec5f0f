/- Own work: contracts of the program's functions, part 14: VR1 DHX PTJ PTK SN1 SN2 SN3 SN4 SN5 SN6 SN7 SN8 SN9 SNB SNC SND SNE FR7 DC2 SP1 DC3 DC4 SNP PX DL2 PQ PW PW2 PQ2 PZ PZ2. -/
import Derived.Test.YtbanebginnakhaaGreatDoorA5
import Derived.Laws.IdiomStrings
import Derived.Test.YtbanebginnakhaaGreatDoorA4
import Derived.Test.YtbanebginnakhaaGreatDoorA7
import Derived.Test.YtbanebginnakhaaGreatDoorA11
import Derived.Test.YtbanebginnakhaaGreatDoorA10
import Derived.Test.YtbanebginnakhaaGreatDoorA12
import Derived.Test.YtbanebginnakhaaGreatDoorA8
import Derived.Test.YtbanebginnakhaaGreatDoorA2

set_option maxHeartbeats 16000000
set_option maxRecDepth 200000
set_option linter.unusedVariables false
set_option linter.unusedSimpArgs false
namespace Go.Proofs.YtbanebginnakhaaGreatDoor
open Go Go.RowKit Go.Fl64
def lowB (c:Nat):Nat:=c ||| 32
def dgB (c:Nat):Nat:=if 48≤c∧c≤57 then c - 48 else if 97≤lowB c∧lowB c≤102 then lowB c - 87 else 99
def btA (s:ByteArray) (i:Nat):Nat:=(s.data[i]?.getD 0).toNat
theorem zA {c:Nat} (h:c<256):lowB c<256:=Nat.or_lt_two_pow (n:=8) h (by decide)
theorem zE9 {c:Nat} (h:c<48):lowB c<97:=by
 have:∀ c:Fin 48,lowB c.val<97:=by decide +kernel
 exact this ⟨c,h⟩
theorem u8_or (c:Nat) (h:c<256):bits .or .u8 (c:Int) 32=((lowB c:Nat):Int):=by
 have:∀ c:Fin 256,bits .or .u8 (c.val:Int) 32=((lowB c.val:Nat):Int):=by decide +kernel
 exact this ⟨c,h⟩
theorem yR7 (c:Nat) (h:c<256) (w:World):Calls Tryz.prog 167 #[.int .u8 (c:Int)] w fun r w'=>r=.returned (.int .u8 ((lowB c:Nat):Int))∧w'=w:=by
 have ho:=u8_or c h
 go_enter Tryz.func167,Tryz.ntmps167
 go_wp2
 go_ret;exact⟨rfl,rfl⟩
theorem qC9 (s:ByteArray) (w:World):∃ cap W,(convert 9 129 (.string s)).run Tryz.prog w=.ok (.slice (some ⟨w.heap.size,0,none⟩) s.size cap) W∧Bw w W∧∀ j,j<s.size→W.cell? ⟨w.heap.size,j,none⟩=some (.int .u8 ((btA s j:Nat):Int)):=by
 have h:=run_bytes_of_string (P:=Tryz.prog) w 9 129 5 s Tryz.underlying9 Tryz.underlying129 Tryz.underlying5;refine⟨_,_,h,(xL1 _ _).drew.alloc (xL0 _) _,fun j hj=>?_⟩
 have hb:=xW8 w.drew (.cells (bytesRow s (grownCap w s.size 0 5)) 5 ((bytesRow s (grownCap w s.size 0 5)).size,(bytesRow s (grownCap w s.size 0 5)).size+1));have hb':(w.drew.alloc (.cells (bytesRow s (grownCap w s.size 0 5)) 5 ((bytesRow s (grownCap w s.size 0 5)).size,(bytesRow s (grownCap w s.size 0 5)).size+1))).heap[w.heap.size]?=some (.cells (bytesRow s (grownCap w s.size 0 5)) 5 ((bytesRow s (grownCap w s.size 0 5)).size,(bytesRow s (grownCap w s.size 0 5)).size+1)):=hb;unfold World.cell?;rw[hb'];show(if false then none else(bytesRow s (grownCap w s.size 0 5))[j]?)=_
 rw[if_neg (by decide)]
 have hj':j<s.data.size:=hj;unfold bytesRow btA;rw[Array.getElem?_append_left (by simpa using hj')]
 simp only[Array.getElem?_map];rw[Array.getElem?_eq_getElem hj'];rfl
theorem zO6 {c:Nat} (h1:48≤c) (h2:c≤57):dgB c=c - 48:=by unfold dgB;rw[if_pos ⟨h1,h2⟩]
theorem xQ0 {c:Nat} (h1:¬ (48≤c∧c≤57)) (h2:97≤lowB c) (h3:lowB c≤102):dgB c=lowB c - 87:=by unfold dgB;rw[if_neg h1,if_pos ⟨h2,h3⟩]
theorem yT3 (a:Nat) (ha:a<18446744073709551616) (w:World) :
  Calls Tryz.prog 31 #[.float .f64 a,.float .f64 a] w fun r w'=>r=.returned (.bool true)∧w'=w:=by
 have kb:=Ie.run_bits;have q1:=zY1 a ha;cases ha':qG2 a
 ·rw[ha'] at q1;clear ha'
  go_enter Tryz.func31,Tryz.ntmps31
  go_wp2
  go_ret;exact⟨by simp,rfl⟩
 ·rw[ha'] at q1;clear ha'
  go_enter Tryz.func31,Tryz.ntmps31
  go_wp2
  go_ret;exact⟨by simp,rfl⟩
theorem xT3 (a b:Nat) (w:World)
  (k1:∀ w,Calls Tryz.prog 31 #[.float .f64 a,.float .f64 a] w fun r w'=>r=.returned (.bool true)∧w'=w)
  (k2:∀ w,Calls Tryz.prog 31 #[.float .f64 b,.float .f64 b] w fun r w'=>r=.returned (.bool true)∧w'=w) :
  Calls Tryz.prog 13 #[.complex .f64 a b,.complex .f64 a b] w fun r w'=>r=.returned (.bool true)∧w'=w:=by
 go_enter Tryz.func13,Tryz.ntmps13
 go_wp2_with fail;refine(k1 _).mono ?_
 rintro r w' ⟨rfl,hw⟩;replace hw:=hw.symm;subst hw;clear k1
 go_wp2_with fail;refine(k2 _).mono ?_
 rintro r w' ⟨rfl,hw⟩;replace hw:=hw.symm;subst hw
 go_wp2
 go_ret;exact⟨rfl,rfl⟩
theorem yB8 (a b:Nat) (w:World)
  (k1:∀ w,Calls Tryz.prog 13 #[.complex .f64 a b,.complex .f64 a b] w fun r w'=>r=.returned (.bool true)∧w'=w) :
  Calls Tryz.prog 6 #[.complex .f64 a b,.complex .f64 a b] w fun r w'=>r=.returned (.bool true)∧w'=w:=by
 go_enter Tryz.func6,Tryz.ntmps6
 go_wp2_with fail;refine(k1 _).mono ?_
 rintro r w' ⟨rfl,hw⟩;replace hw:=hw.symm;subst hw
 go_wp2
 go_ret;exact⟨rfl,rfl⟩
theorem yK2 {a b:Nat} (ha:a<18446744073709551616) (hb:b<18446744073709551616) (w:World) :
  Calls Tryz.prog 6 #[.complex .f64 a b,.complex .f64 a b] w fun r w'=>r=.returned (.bool true)∧w'=w :=
 yB8 a b w (fun W=>xT3 a b W (yT3 a ha) (yT3 b hb))
theorem yV9 (w:World):(Op.unary UnOp.neg (Value.float .f64 0)).run Tryz.prog w=.ok (Value.float .f64 9223372036854775808) w:=by kernel_rfl
theorem yT2 (w:World):Calls Tryz.prog 16 #[.float .f64 0,.float .f64 13830554455654793216] w fun r w'=>r=.returned (.float .f64 9223372036854775808)∧w'=w:=by
 have kb:=Ie.run_bits;have kf:=Ie.run_frombits
 go_enter Tryz.func16,Tryz.ntmps16
 go_wp2
 go_ret;exact⟨by kernel_rfl,rfl⟩
theorem xX7 (w:World):Calls Tryz.prog 19 #[.int .i64 1] w fun r w'=>r=.returned (.float .f64 9218868437227405312)∧w'=w:=by
 have kf:=Ie.run_frombits
 go_enter Tryz.func19,Tryz.ntmps19
 go_wp2
 go_ret;exact⟨rfl,rfl⟩
theorem xX8 (w:World):Calls Tryz.prog 19 #[.int .i64 (-1)] w fun r w'=>r=.returned (.float .f64 18442240474082181120)∧w'=w:=by
 have kf:=Ie.run_frombits
 go_enter Tryz.func19,Tryz.ntmps19
 go_wp2
 go_ret;exact⟨rfl,rfl⟩
theorem P6nan (w:World):Calls Tryz.prog 20 #[] w fun r w'=>r=.returned (.float .f64 9221120237041090561)∧w'=w:=by
 have kf:=Ie.run_frombits
 go_enter Tryz.func20,Tryz.ntmps20
 go_wp2
 go_ret;exact⟨rfl,rfl⟩
theorem xR9 (w:World):Calls Tryz.prog 15 #[.complex .f64 4613937818241073152 0,.int .i64 1] w fun r w'=>r=.returned (.complex .f64 9223372036854775808 4613937818241073152)∧w'=w:=by
 have hu:=yV9
 go_enter Tryz.func15,Tryz.ntmps15
 go_wp2
 go_ret;exact⟨rfl,rfl⟩
theorem qC (a:Nat) (w:World):(callFunc 21 #[.float .f32 a]).run Tryz.prog w=.ok (.value (.int .u32 a)) w :=
 run_callFunc_extern Tryz.func21 (e:=Extern.MathFloatBits.float32bits) (by kernel_rfl) (by kernel_rfl) (by kernel_rfl) (by kernel_rfl) #[.float .f32 a] w
theorem qW3 (a:Int) (w:World):(callFunc 102 #[.int .u32 a]).run Tryz.prog w=.ok (.value (.float .f32 a.toNat)) w :=
 run_callFunc_extern Tryz.func102 (e:=Extern.MathFloatBits.float32frombits) (by kernel_rfl) (by kernel_rfl) (by kernel_rfl) (by kernel_rfl) #[.int .u32 a] w
theorem yW9 (w:World):(convert 34 52 (.float .f64 4591870180066957722)).run Tryz.prog w=.ok (.float .f32 1036831949) w:=run_convert_float_float w _ _ _ _ _ _ (by kernel_rfl) (by kernel_rfl) (by kernel_rfl)
theorem zW2 (w:World):(convert 52 34 (.float .f32 1036831949)).run Tryz.prog w=.ok (.float .f64 4591870180174331904) w:=run_convert_float_float w _ _ _ _ _ _ (by kernel_rfl) (by kernel_rfl) (by kernel_rfl)
theorem yW8 (w:World):(convert 34 52 (.float .f64 18442240474082181120)).run Tryz.prog w=.ok (.float .f32 4286578688) w:=run_convert_float_float w _ _ _ _ _ _ (by kernel_rfl) (by kernel_rfl) (by kernel_rfl)
theorem yW7 (w:World):(convert 52 34 (.float .f32 4286578688)).run Tryz.prog w=.ok (.float .f64 18442240474082181120) w:=run_convert_float_float w _ _ _ _ _ _ (by kernel_rfl) (by kernel_rfl) (by kernel_rfl)
theorem yW6 (w:World):(convert 34 52 (.float .f64 0)).run Tryz.prog w=.ok (.float .f32 0) w:=run_convert_float_float w _ _ _ _ _ _ (by kernel_rfl) (by kernel_rfl) (by kernel_rfl)
theorem yW5 (w:World):(convert 52 34 (.float .f32 0)).run Tryz.prog w=.ok (.float .f64 0) w:=run_convert_float_float w _ _ _ _ _ _ (by kernel_rfl) (by kernel_rfl) (by kernel_rfl)
theorem xT2 (w:World):Calls Tryz.prog 101 #[.float .f64 4591870180174331904] w fun e w'=>e=.returned (.bool false)∧w'=w:=by
 go_enter Tryz.func101,Tryz.ntmps101
 go_wp2
 go_ret;exact⟨by kernel_rfl,rfl⟩
theorem xT1 (w:World):Calls Tryz.prog 101 #[.float .f64 18442240474082181120] w fun e w'=>e=.returned (.bool false)∧w'=w:=by
 go_enter Tryz.func101,Tryz.ntmps101
 go_wp2
 go_ret;exact⟨by kernel_rfl,rfl⟩
theorem xT0 (w:World):Calls Tryz.prog 57 #[.float .f32 1036831949,.float .f32 4286578688] w fun r w'=>r=.returned (.float .f32 1036831948)∧w'=w:=by
 have kb:=qC;have kf:=qW3;have c2:=zW2;have c4:=yW7;have hn1:=xT2;have hn2:=xT1
 go_enter Tryz.func57,Tryz.ntmps57
 go_wp2_with (first|(with_reducible refine(hn1 _).mono ?_;rintro r w' ⟨rfl,hw⟩;replace hw:=hw.symm;subst hw)|(with_reducible refine(hn2 _).mono ?_;rintro r w' ⟨rfl,hw⟩;replace hw:=hw.symm;subst hw))
 go_ret;exact⟨rfl,rfl⟩
theorem xX6 (w:World):Calls Tryz.prog 8 #[.int .i64 1] w fun r w'=>r=.returned (.bool true)∧w'=w:=by
 go_enter Tryz.func8,Tryz.ntmps8
 go_wp2
 go_ret;exact⟨rfl,rfl⟩
theorem zU4 (w:World):Calls Tryz.prog 32 #[.float .f64 4591870180066957722,.int .i64 1] w fun r w'=>r=.returned (.float .f32 1036831948)∧w'=w:=by
 have c1:=yW9;have c2:=zW2;have c3:=yW8
 go_enter Tryz.func32,Tryz.ntmps32
 go_wp2_with (first|(go_at_call 19;refine(xX8 _).mono ?_;rintro r w' ⟨rfl,hw⟩;replace hw:=hw.symm;subst hw)|(go_at_call 57;refine(xT0 _).mono ?_;rintro r w' ⟨rfl,hw⟩;replace hw:=hw.symm;subst hw))
 go_ret;exact⟨rfl,rfl⟩
theorem zU3 (w:World):Calls Tryz.prog 32 #[.float .f64 0,.int .i64 1] w fun r w'=>r=.returned (.float .f32 0)∧w'=w:=by
 have c1:=yW6;have c2:=yW5
 go_enter Tryz.func32,Tryz.ntmps32
 go_wp2
 go_ret;exact⟨rfl,rfl⟩
theorem yN (w:World):Calls Tryz.prog 14 #[.complex .f64 4591870180066957722 0,.int .i64 1] w fun r w'=>r=.returned (.tuple #[.complex .f32 1036831948 0,.int .i64 0])∧w'=w:=by
 go_enter Tryz.func14,Tryz.ntmps14
 go_wp2_with (first|(go_at_call 8;refine(xX6 _).mono ?_;rintro r w' ⟨rfl,hw⟩;replace hw:=hw.symm;subst hw)|(go_at_call 32;first|(with_reducible refine(zU4 _).mono ?_;rintro r w' ⟨rfl,hw⟩;replace hw:=hw.symm;subst hw)|(with_reducible refine(zU3 _).mono ?_;rintro r w' ⟨rfl,hw⟩;replace hw:=hw.symm;subst hw)))
 refine xW9 (xE3 rfl _ _ _) rfl ?_;exact⟨rfl,rfl⟩
theorem xX9 (w:World):Calls Tryz.prog 18 #[.complex .f64 9218868437227405312 9221120237041090561] w fun r w'=>r=.returned (.int .i64 3)∧w'=w:=by
 have k1:∀ W,Calls Tryz.prog 36 #[.float .f64 9218868437227405312] W fun e w'=>e=.returned (.tuple #[.int .i64 2,.bool false])∧w'=W:=fun W=>Ie.c9 9218868437227405312 (by decide) W
 have k2:∀ W,Calls Tryz.prog 36 #[.float .f64 9221120237041090561] W fun e w'=>e=.returned (.tuple #[.int .i64 1,.bool false])∧w'=W:=fun W=>Ie.c9 9221120237041090561 (by decide) W
 go_enter Tryz.func18,Tryz.ntmps18
 go_wp2_with (first|(with_reducible refine(k1 _).mono ?_;rintro r w' ⟨rfl,hw⟩;replace hw:=hw.symm;subst hw)|(with_reducible refine(k2 _).mono ?_;rintro r w' ⟨rfl,hw⟩;replace hw:=hw.symm;subst hw))
 go_ret;exact⟨rfl,rfl⟩
theorem xT (w:World)
  (k1:∀ W,Bw w W→Calls Tryz.prog 37 #[.float .f64 4609434218613702656] W fun r w'=>r=.returned (.string ⟨#[49,46,53]⟩)∧Bw W w')
  (k2:∀ W,Bw w W→Calls Tryz.prog 37 #[.float .f64 9223372036854775808] W fun r w'=>r=.returned (.string ⟨#[45,48]⟩)∧Bw W w') :
  Calls Tryz.prog 17 #[.complex .f64 4609434218613702656 9223372036854775808] w fun r w'=>r=.returned (.string ⟨#[49,46,53,45,48,105]⟩)∧Bw w w':=by
 have kC:=fun W=>Ie.c9 9223372036854775808 (by decide) W
 rw[show cneg 9223372036854775808=true by decide] at kC
 generalize cls 9223372036854775808=cc at kC;have q1:=k1 w (xL1 _ _);have K2:Hid _:=k2;clear k1 k2
 go_enter Tryz.func17,Tryz.ntmps17
 go_wp2_with (go_at_call 36;refine(kC _).mono ?_;rintro r w' ⟨rfl,hw⟩;replace hw:=hw.symm;subst hw)
 refine q1.mono ?_;rintro r w1 ⟨rfl,b1⟩;have B1:Hid (Bw w w1):=b1;have q2:=K2.out w1 b1;clear q1 b1 K2 kC
 go_wp2_with fail;refine q2.mono ?_;rintro r w2 ⟨rfl,b2⟩;have B2:Hid (Bw w w2):=B1.out.trans (b2.mono B1.out.size);clear q2 b2 B1
 go_wp2
 go_ret;exact⟨rfl,B2.out⟩
theorem yK1 (x y:Nat) (w:World)
  (k1:∀ W,Bw w W→Calls Tryz.prog 4 #[.string ⟨#[49,101,45,50,45,51,105]⟩,.int .i64 2] W fun r w'=>r=.returned (.tuple #[.complex .f64 4576918229304087675 13837309855095848960,.int .i64 0])∧Bw W w')
  (k2:∀ W,Bw w W→Calls Tryz.prog 4 #[.string ⟨#[49,43,105]⟩,.int .i64 2] W fun r w'=>r=.returned (.tuple #[.complex .f64 x y,.int .i64 3])∧Bw W w')
  (k3:∀ W,Bw w W→Calls Tryz.prog 17 #[.complex .f64 4609434218613702656 9223372036854775808] W fun r w'=>r=.returned (.string ⟨#[49,46,53,45,48,105]⟩)∧Bw W w') :
  Calls Tryz.prog 7 #[] w fun r w'=>r=.returned (.bool true)∧Bw w w':=by
 have kb:=qC;have m1:=fun W=>yK2 (a:=4576918229304087675) (b:=13837309855095848960) (by decide) (by decide) W
 have m2:=fun W=>yK2 (a:=9223372036854775808) (b:=4613937818241073152) (by decide) (by decide) W
 have q1:=k1 w (xL1 _ _);have K2:Hid _:=k2;have K3:Hid _:=k3;clear k1 k2 k3
 go_enter Tryz.func7,Tryz.ntmps7
 go_wp2_with fail;refine q1.mono ?_;rintro r w1 ⟨rfl,b1⟩;have B1:Hid (Bw w w1):=b1;have q2:=K2.out w1 b1;clear q1 b1 K2
 go_wp2_with fail;refine q2.mono ?_;rintro r w2 ⟨rfl,b2⟩;have B2:Hid (Bw w w2):=B1.out.trans (b2.mono B1.out.size);have q3:=K3.out w2 B2.out;clear q2 b2 B1 K3
 go_wp2_with fail;refine(yN _).mono ?_
 rintro r w' ⟨rfl,hw⟩;replace hw:=hw.symm;subst hw
 go_wp2_with fail;refine(m1 _).mono ?_
 rintro r w' ⟨rfl,hw⟩;replace hw:=hw.symm;subst hw;clear m1
 go_wp2_with fail;refine(xR9 _).mono ?_
 rintro r w' ⟨rfl,hw⟩;replace hw:=hw.symm;subst hw
 go_wp2_with fail;refine(yT2 _).mono ?_
 rintro r w' ⟨rfl,hw⟩;replace hw:=hw.symm;subst hw
 go_wp2_with fail;refine(m2 _).mono ?_
 rintro r w' ⟨rfl,hw⟩;replace hw:=hw.symm;subst hw;clear m2
 go_wp2_with fail;refine(yT2 _).mono ?_
 rintro r w' ⟨rfl,hw⟩;replace hw:=hw.symm;subst hw
 go_wp2_with fail;refine q3.mono ?_;rintro r w3 ⟨rfl,b3⟩;have B3:Hid (Bw w w3):=B2.out.trans (b3.mono B2.out.size);clear q3 b3 B2
 go_wp2_with fail;refine(xX7 _).mono ?_
 rintro r w' ⟨rfl,hw⟩;replace hw:=hw.symm;subst hw
 go_wp2_with fail;refine(P6nan _).mono ?_
 rintro r w' ⟨rfl,hw⟩;replace hw:=hw.symm;subst hw
 go_wp2_with fail;refine(xX9 _).mono ?_
 rintro r w' ⟨rfl,hw⟩;replace hw:=hw.symm;subst hw
 go_wp2
 go_ret;exact⟨rfl,B3.out⟩
theorem zQ1 (R:ByteArray) (m E:Int) (F G:Nat) (w:World)
  (k1:∀ W,Bw w W→Calls Tryz.prog 4 #[.string R,.int .i64 m] W fun r w'=>r=.returned (.tuple #[.complex .f64 F G,.int .i64 E])∧Bw W w')
  (k2:∀ W,Bw w W→Calls Tryz.prog 5 #[.string R,.int .i64 m] W fun r w'=>r=.returned (.tuple #[.complex .f64 F G,.int .i64 E])∧Bw W w')
  (k3:∀ W,Calls Tryz.prog 6 #[.complex .f64 F G,.complex .f64 F G] W fun r w'=>r=.returned (.bool true)∧w'=W)
  (k4:∀ W,Bw w W→Calls Tryz.prog 7 #[] W fun r w'=>r=.returned (.bool true)∧Bw W w') :
  Calls Tryz.prog 3 #[.string R,.int .i64 m] w fun r w'=>r=.returned (.bool true)∧Bw w w':=by
 have j1:=k1 w (xL1 _ _);clear k1
 go_enter Tryz.func3,Tryz.ntmps3
 go_wp2_with fail;refine j1.mono ?_;rintro r w1 ⟨rfl,hb1⟩;have j2:=k2 w1 hb1;clear j1 k2
 go_wp2_with fail;refine j2.mono ?_;rintro r w2 ⟨rfl,hb2⟩;have hb:=hb1.trans (hb2.mono hb1.size);have j3:=k3 w2;have j4:=k4 w2 hb;have HB:Hid (Bw w w2):=hb;clear j2 hb1 hb2 k3 k4 hb
 go_wp2_with fail;refine j3.mono ?_;rintro r w3 ⟨rfl,hw⟩;replace hw:=hw.symm;subst hw;clear j3
 go_wp2_with fail;refine j4.mono ?_;rintro r w4 ⟨rfl,hb4⟩;have HB4:Hid (Bw w w4):=HB.out.trans (hb4.mono HB.out.size);clear j4 hb4
 go_wp2_with fail
 go_ret;exact⟨rfl,HB4.out⟩
end Go.Proofs.YtbanebginnakhaaGreatDoor
/- Floats in order: not above, the lesser and the greater of two; intervals that may be. -/
namespace Go.Fl64
def le (a b:Nat):Bool := !qG2 a && !qG2 b&&decide (stp a≤stp b)
def pl (a:Nat):Nat:=if a=9223372036854775808 then 0 else a
end Go.Fl64
namespace Go.Proofs.YtbanebginnakhaaGreatDoor
open Go.RowKit Go.Fl64
theorem qD3 {B:Nat} {a w:World} (h:Below B a w) (n:Nat):Below B a (w.drewN n):=h.trans ⟨rfl,rfl,rfl,xL0 _,fun _ _=>rfl⟩
theorem yR8 (w:World):Calls Tryz.prog 19 #[.int .i64 1] w fun r w'=>r=.returned (.float .f64 9218868437227405312)∧w'=w:=by
 have hb:=Ie.run_frombits
 go_enter Tryz.func19,Tryz.ntmps19
 go_wp2
 go_ret;exact⟨rfl,rfl⟩
theorem qZ (P:Program) (w:World) (a:Addr) (m:Mode) (k:FloatKind) (n:Nat):(store a (.float k n) m).run P w=stored P w a (.float k n) m:=run_store P w a _ m rfl
attribute [local go_sem] qZ
attribute [local go_sem] qZ
attribute [local go_sem] qZ
attribute [local go_sem] qZ
attribute [local go_sem] qZ
attribute [local go_sem] qZ
attribute [local go_sem] qZ
attribute [local go_sem] qZ
def yK3 (W:World) (t:Bool×Nat×Int) (r:Ending) (w':World):Prop:=∃ s ao n cap e,r=.returned (.tuple #[.agg #[.bool s,.slice ao n cap,.int .i64 e],.int .i64 0])∧PN w' (.agg #[.bool s,.slice ao n cap,.int .i64 e]) t∧Bw W w'
def tSh (t:Bool×Nat×Int) (k:Int):Bool×Nat×Int:=if t.2.1=0 then(false,0,0) else(t.1,t.2.1,t.2.2+k)
theorem xH {t:Bool×Nat×Int} {A:Value} {k0:Int} {w:World} (ok:Ok t) (h:PN w A t) (hk1:¬ k0 < -65536 - t.2.2) (hk2:¬ 65536 - t.2.2<k0) :
  Calls Tryz.prog 177 #[A,.int .i64 k0] w fun r w'=>yK3 w (tSh t k0) r w':=by
 obtain⟨pa,pc,rfl,i1⟩:=h;obtain⟨f1,f2,f3,f4,f5⟩:=ok.facts;have km:∀ W g,Bw w W→W.heap[g]?=some (.cells #[.bool t.1,.slice pa (dlen t.2.1) pc,.int .i64 t.2.2] 84 (0,0))→Calls Tryz.prog 78 #[.slice (some ⟨g,0,none⟩) 1 1] W fun r w'=>r=.returned (.bool true)∧Bw W w':=fun W g hW hg=>by
  have:=zQ9 hg (i1.later hW) (by omega)
  rw[show okN t.1 (dlen t.2.1) t.2.1 t.2.2=true from ok] at this;exact this
 unfold tSh;by_cases h0:t.2.1=0
 ·rw[if_pos h0];have hd:dlen t.2.1=0:=by rw[h0,qQ5]
  rw[hd] at km ⊢;refine(yL7 t.1 pa pc t.2.2 k0 w km).mono ?_
  rintro r w' ⟨rfl,hb⟩;exact⟨_,_,_,_,_,rfl,⟨none,0,by rw[qQ5],by rw[qQ5];exact zA5 _⟩,hb⟩
 ·rw[if_neg h0];refine(yL6 t.1 pa (dlen t.2.1) pc t.2.2 k0 w t.2.1 i1 (by omega) (by omega) (by have:=qK6 h0;simp;omega) (by omega) (by omega) hk1 hk2 km).mono ?_
  rintro r w' ⟨v,rfl,ho,hb⟩;obtain⟨ao,cap,rfl,h1,h2,h3⟩:=ho.is;exact⟨_,_,_,_,_,rfl,⟨ao,cap,rfl,ao,cap,rfl,h1,h2,h3⟩,hb⟩
theorem ofN (a:Nat) (ha:a<18446744073709551616) (hf:mag a<9218868437227405312) (w:World) (hT:Tab32 w) (hJ:Ie.Tab w):Calls Tryz.prog 151 #[.float .f64 a] w fun r w'=>yK3 w (tF a) r w':=by
 obtain⟨m,hm,hml⟩:=xV2 a ha;refine(xH9 a m ha w hT hJ hf hm).mono ?_
 rintro r w' ⟨A,rfl,hN,hb⟩;have hp:=hN.pn;rw[yB3 a m ha hf hm] at hp;obtain⟨s,ao,n,cap,e,rfl⟩:=hp.shape;exact⟨s,ao,n,cap,e,rfl,hp,hb⟩
def fU (a:Nat):Nat:=Ie.mant a*2^(Ie.lp a+1074).toNat
theorem qR3 {n:Int} {w:World} (hT:Tab32 w) (hn : -9223372036854775808≤n∧n≤9223372036854775807):Calls Tryz.prog 118 #[.int .i64 n] w fun r w'=>OutP w (un n 0) r w':=by
 refine(c12 hT hn).mono ?_
 rintro r w' ⟨A,rfl,hN,hb⟩;have hp:=hN.pn;obtain⟨s,ao,m,cap,e,rfl⟩:=hp.shape;exact⟨_,_,_,_,_,rfl,hp,hb⟩
def nilN:Bool×Nat×Int:=(false,0,0)
theorem un_0 (p:Nat):un 0 p=nilN:=by unfold un cn nilN;rw[if_pos (by decide)]
theorem yE9 (w:World):PN w (.agg #[.bool false,.slice none 0 0,.int .i64 0]) nilN:=⟨none,0,by unfold nilN;rw[qQ5],by unfold nilN;rw[qQ5];exact zA5 w⟩
def PBx (W:World) (g:Nat) (s1:Bool) (ao1:Option Addr) (n1 cp1:Nat) (e1:Int) (t:Bool×Nat×Int):Prop:=W.heap[g]?=some (.cells #[.bool s1,.slice ao1 n1 cp1,.int .i64 e1] 84 (0,0))∧PN W (.agg #[.bool s1,.slice ao1 n1 cp1,.int .i64 e1]) t
theorem PBx.later {W V:World} {g:Nat} {s1:Bool} {ao1:Option Addr} {n1 cp1:Nat} {e1:Int} {t:Bool×Nat×Int} (h:PBx W g s1 ao1 n1 cp1 e1 t) (hb:Bw W V):PBx V g s1 ao1 n1 cp1 e1 t:=⟨qQ h.1 hb (qQ6 h.1),h.2.later hb⟩
theorem PBx.lt {W:World} {g:Nat} {s1:Bool} {ao1:Option Addr} {n1 cp1:Nat} {e1:Int} {t:Bool×Nat×Int} (h:PBx W g s1 ao1 n1 cp1 e1 t):g<W.heap.size:=qQ6 h.1
theorem PN.shape1 {w:World} {A:Value} {t:Bool×Nat×Int} (h:PN w A t):∃ s ao n cap e,A=.agg #[.bool s,.slice ao n cap,.int .i64 e]:=by
 obtain⟨ao,cap,rfl,-⟩:=h;exact⟨_,_,_,_,_,rfl⟩
theorem zC4 {a k:Int} {p q b:Nat} {X:Value} {w:World} (ha:a.natAbs<2^b) (hb:b≤60000) (hp:p≤60000) (hq:q≤60000) (hk:(p:Int) - k=q) (hX:PN w X (un a p)) :
  Calls Tryz.prog 177 #[X,.int .i64 k] w fun r w'=>yK3 w (un a q) r w':=by
 have e:=un_e (p:=p) ha;have e2:=un_e (p:=q) ha;have g:tSh (un a p) k=un a q:=yF1 hk;have e3:(un a p).2.2=0∨(un a q).2.2=(un a p).2.2+k:=by
  by_cases h0:(un a p).2.1=0
  ·left
   rw[show a=0 from qG8.2.1 h0,un_0];rfl
  ·right
   rw[←g];unfold tSh;rw[if_neg h0]
 have k1:=xH (k0:=k) (qG0 ha hb hp) hX (by omega) (by omega)
 rw[g] at k1;exact k1
theorem zS6 (s1:Bool) (ao1:Option Addr) (n1 cp1:Nat) (e1:Int) (k:Int) (t:Bool×Nat×Int) (w:World)
  (kk:∀ W,Bw w W→Calls Tryz.prog 177 #[.agg #[.bool s1,.slice ao1 n1 cp1,.int .i64 e1],.int .i64 k] W fun r w'=>yK3 W t r w') :
  Calls Tryz.prog 125 #[.agg #[.bool s1,.slice ao1 n1 cp1,.int .i64 e1],.int .i64 k] w fun r w'=>OutA w t r w':=by
 obtain⟨W,hW⟩:∃ W,W=(w.alloc (.cells #[.bool s1,.slice ao1 n1 cp1,.int .i64 e1] 84)).alloc (.cells #[.bool false,.slice none 0 0,.int .i64 0] 84):=⟨_,rfl⟩;obtain⟨hA,hC,hsz,hBW⟩:=qG9 _ _ hW;obtain⟨⟨a0,a1,a2⟩,-⟩:=qQ1 hA;have HX:Hid (Bw w W∧W.heap[w.heap.size+1]?=some (.cells #[.bool false,.slice none 0 0,.int .i64 0] 84 (0,0))):=⟨hBW,hC⟩;have k1:=kk W HX.out.1;clear kk hA hC hBW hsz;rw[hW] at a0 a1 a2
 go_enter Tryz.func125,Tryz.ntmps125
 go_wp2_with fail;rw[←hW];clear hW a0 a1 a2;refine k1.mono ?_;rintro r w1 ⟨s2,ao2,n2,cp2,e2,rfl,hA,hb1⟩;obtain⟨W1,hW1⟩:∃ W1,W1=w1.alloc (.cells #[.bool s2,.slice ao2 n2 cp2,.int .i64 e2] 84):=⟨_,rfl⟩;have hb2:Bw W W1:=by rw[hW1];exact hb1.alloc hb1.size _
 have HY:Hid (PN W1 (.agg #[.bool s2,.slice ao2 n2 cp2,.int .i64 e2]) t∧Bw w W1∧W1.heap[w1.heap.size]?=some (.cells #[.bool s2,.slice ao2 n2 cp2,.int .i64 e2] 84 (0,0))∧W1.heap[w.heap.size+1]?=some (.cells #[.bool false,.slice none 0 0,.int .i64 0] 84 (0,0))) :=
  ⟨by rw[hW1];exact hA.later ((xL1 _ _).alloc (xL0 _) _),HX.out.1.trans (hb2.mono HX.out.1.size),by rw[hW1];exact xW8 _ _,qQ HX.out.2 hb2 (qQ6 HX.out.2)⟩
 clear k1 hA hb1 hb2
 go_upto_region 2 with fail;rw[←hW1];clear hW1;generalize w1.heap.size=g1 at *;obtain⟨⟨c0,c1,c2⟩,-⟩:=qQ1 HY.out.2.2.1;obtain⟨⟨x1,x2,x3⟩,x4,x5,x6⟩:=qQ1 HY.out.2.2.2
 go_wp2;refine xW9 (xE2 rfl _ _ (w.heap.size+1) 84 #[.bool s2,.slice ao2 n2 cp2,.int .i64 e2] (0,0) _ rfl (qX4 _ _ _ HY.out.2.2.2) Tryz.underlying84 rfl Tryz.info84) rfl ?_;exact⟨_,_,_,_,_,rfl,qB0 HY.out.1 HY.out.2.2.2 _ _ _,qQ3 HY.out.2.1 (by omega) _ _ _⟩
theorem qT1 {a k:Int} {p q b:Nat} {X:Value} {w:World} (ha:a.natAbs<2^b) (hb:b≤60000) (hp:p≤60000) (hq:q≤60000) (hk:(p:Int) - k=q) (hX:PN w X (un a p)) :
  Calls Tryz.prog 125 #[X,.int .i64 k] w fun r w'=>OutA w (un a q) r w':=by
 obtain⟨s1,ao1,n1,cp1,e1,rfl⟩:=hX.shape1;exact zS6 _ _ _ _ _ k _ w (fun W hW=>zC4 ha hb hp hq hk (hX.later hW))
theorem qF2 {w:World} {A:Value} {t:Bool×Nat×Int} {g:Nat} {s:Bool} {ao:Option Addr} {n cap:Nat} {e:Int} (h:PN w A t) (hg:w.heap[g]?=some (.cells #[.bool s,.slice ao n cap,.int .i64 e] 84 (0,0))) (a b c:Value):PN (((w.setCell ⟨g,0,none⟩ a).setCell ⟨g,1,none⟩ b).setCell ⟨g,2,none⟩ c) A t:=by
 obtain⟨oo,cc,h1,ao',cap',h2,h3,h4,h5⟩:=h;exact⟨oo,cc,h1,ao',cap',h2,h3,h4,yY6 h5 hg (by simp) (by simp) (by simp) a b c⟩
theorem qU3 {w:World} {g k:Nat} (a b c:Value) (h:k≠g):(((w.setCell ⟨g,0,none⟩ a).setCell ⟨g,1,none⟩ b).setCell ⟨g,2,none⟩ c).heap[k]?=w.heap[k]?:=by
 have h':¬ g=k:=fun e=>h e.symm;simp[World.setCell,Array.getElem?_modify,h']
theorem zG3 (n q:Nat):n / 2^(q+1)+n / 2^(q+1)+n / 2^q % 2=n / 2^q:=by
 rw[xC5,←xC0];omega
def RdD (w:World) (g:Nat) (b p:Bool×Nat×Int) (sb:Bool) (aob:Option Addr) (nb cpb:Nat) (eb:Int) (wr:World) (s1:Bool) (ao1:Option Addr) (n1 cp1:Nat) (e1:Int):Prop :=
 PBx wr g s1 ao1 n1 cp1 e1 p∧PBx wr (g+1) sb aob nb cpb eb b∧wr.heap[w.heap.size]?=some (.cells #[.bool false,.slice none 0 0,.int .i64 0] 84 (0,0))∧Bw w wr∧w.heap.size<g∧g+1<wr.heap.size
theorem RdD.next {w:World} {g:Nat} {b p q:Bool×Nat×Int} {sb:Bool} {aob:Option Addr} {nb cpb:Nat} {eb:Int} {wr w':World} {s1:Bool} {ao1:Option Addr} {n1 cp1:Nat} {e1:Int} {s2:Bool} {ao2:Option Addr} {n2 cp2:Nat} {e2:Int}
  (h:RdD w g b p sb aob nb cpb eb wr s1 ao1 n1 cp1 e1) (hb:Bw wr w') (hp:PN w' (.agg #[.bool s2,.slice ao2 n2 cp2,.int .i64 e2]) q) :
  RdD w g b q sb aob nb cpb eb (((w'.setCell ⟨g,0,none⟩ (.bool s2)).setCell ⟨g,1,none⟩ (.slice ao2 n2 cp2)).setCell ⟨g,2,none⟩ (.int .i64 e2)) s2 ao2 n2 cp2 e2:=by
 obtain⟨h1,h2,h3,h4,h5,h6⟩:=h;have hs:=hb.size;have b1:=qQ h1.1 hb (by omega)
 refine⟨⟨qX4 _ _ _ b1,qF2 hp b1 _ _ _⟩,⟨?_,qF2 (h2.2.later hb) b1 _ _ _⟩,?_,qQ3 (h4.trans (hb.mono h4.size)) (by omega) _ _ _,h5,by simp[World.setCell];omega⟩
 ·rw[qU3 _ _ _ (by omega)];exact qQ h2.1 hb (by omega)
 ·rw[qU3 _ _ _ (by omega)];exact qQ h3 hb (by omega)
theorem yY1 (m:Nat) (h:m<8192):(bits BinOp.and IntKind.i64 ((m:Nat):Int) 1==1)=(m % 2==1):=by
 have t:∀ a:Fin 8,∀ b:Fin 1024,(bits BinOp.and IntKind.i64 ((1024*a.val+b.val:Nat):Int) 1==1)=((1024*a.val+b.val) % 2==1):=by decide +kernel
 have:=t ⟨m / 1024,by omega⟩ ⟨m % 1024,by omega⟩
 simp only[Nat.div_add_mod] at this;exact this
theorem yB5 {n q:Nat} (h:n≤8191):(bits BinOp.and IntKind.i64 ((n:Int) / 2^q) 1==1)=(n / 2^q % 2==1):=by
 have h1:=xW0 n (2^q);have h2:=yY1 (n / 2^q) (by omega)
 rw[show(n:Int) / 2^q=((n / 2^q:Nat):Int) by simp]
 exact h2
theorem yM0 (P:Nat→Bool×Nat×Int) (bs:Int) (n L:Nat) (w:World) (hn:n≤8191) (hL:Hid (bl n=L)) (hL2:L≤13)
  (kW:∀ W,Bw w W→Calls Tryz.prog 118 #[.int .i64 1] W fun r w'=>OutP W (P 0) r w')
  (kB:∀ W,Bw w W→Calls Tryz.prog 118 #[.int .i64 bs] W fun r w'=>OutP W (P 1) r w')
  (kM:∀ W X Y a b,Bw w W→PN W X (P a)→PN W Y (P b)→a+b≤n→Calls Tryz.prog 52 #[X,Y] W fun r w'=>OutA W (P (a+b)) r w')
  (kL:∀ W,Calls Tryz.prog 119 #[.int .u64 n] W fun r w'=>r=.returned (.int .i64 L)∧w'=W) :
  Calls Tryz.prog 76 #[.int .i64 bs,.int .i64 n] w fun r w'=>OutA w (P n) r w':=by
 obtain⟨W,hW⟩:∃ W,W=w.alloc (.cells #[.bool false,.slice none 0 0,.int .i64 0] 84):=⟨_,rfl⟩;have hsz:W.heap.size=w.heap.size+1:=by rw[hW];simp
 have hBW:Bw w W:=by rw[hW];exact(xL1 _ _).alloc (xL0 _) _
 have hA2:W.heap[w.heap.size]?=some (.cells #[.bool false,.slice none 0 0,.int .i64 0] 84 (0,0)):=by rw[hW];exact xW8 _ _
 have k1:=kW W hBW;have HH:Hid (W.heap[w.heap.size]?=some (.cells #[.bool false,.slice none 0 0,.int .i64 0] 84 (0,0))∧Bw w W∧W.heap.size=w.heap.size+1):=⟨hA2,hBW,hsz⟩;have HKB:Hid _:=kB;clear hA2 hBW hsz kW kB
 go_enter Tryz.func76,Tryz.ntmps76
 go_wp2_with fail;rw[←hW];clear hW;refine k1.mono ?_;rintro r w1 ⟨s1,ao1,n1,cp1,e1,rfl,hp,hb⟩;clear k1;have k2:=HKB.out w1 (HH.out.2.1.trans (hb.mono HH.out.2.1.size));have H1:Hid (PN w1 (.agg #[.bool s1,.slice ao1 n1 cp1,.int .i64 e1]) (P 0)∧Bw W w1):=⟨hp,hb⟩;clear hp hb HKB
 go_wp2_with fail;refine k2.mono ?_;rintro r w2 ⟨sb,aob,nb,cpb,eb,rfl,hq,hb⟩;clear k2;obtain⟨V,hV⟩:∃ V,V=(w2.alloc (.cells #[.bool s1,.slice ao1 n1 cp1,.int .i64 e1] 84)).alloc (.cells #[.bool sb,.slice aob nb cpb,.int .i64 eb] 84):=⟨_,rfl⟩;obtain⟨g,hg⟩:∃ g,g=w2.heap.size:=⟨_,rfl⟩;have HR:Hid (RdD w g (P 1) (P 0) sb aob nb cpb eb V s1 ao1 n1 cp1 e1):=by
  obtain⟨h1,h2,h3⟩:=HH.out;obtain⟨z1,z2,z3,z4⟩:=qG9 _ _ hV;have hWw:=H1.out.2.trans (hb.mono H1.out.2.size);have hc:=hWw.trans (z4.mono hWw.size);have hs:=hWw.size;refine⟨⟨by rw[hg];exact z1,(H1.out.1.later hb).later z4⟩,⟨by rw[hg];exact z2,hq.later z4⟩,qQ h1 hc (by omega),h2.trans (hc.mono h2.size),by omega,by omega⟩
 go_upto_region 2 with fail;rw[←hV,←hg];clear hV hg HH hq hb H1
 go_wp2_with fail;refine(kL _).mono ?_
 rintro r w2 ⟨rfl,rfl⟩
 go_wp2
 go_loopw [7] (fun v wr=>∃ (p:Nat) (s1:Bool) (ao1:Option Addr) (n1 cp1:Nat) (e1:Int),p≤L∧v=.int .i64 ((p:Int) - 1)∧Hid (RdD w g (P 1) (P (n / 2^p)) sb aob nb cpb eb wr s1 ao1 n1 cp1 e1)) (fun v _=>(intOf v+1).toNat)
 case atStart=>exact⟨L,s1,ao1,n1,cp1,e1,xL0 _,rfl,by rw[←hL.out,Nat.div_eq_of_lt (qV0 n)];exact HR⟩
 case round =>
  obtain⟨p,s1,ao1,n1,cp1,e1,hp,rfl,HI⟩:=hrel;clear HR;by_cases h0:0<p
  ·obtain⟨q,rfl⟩:∃ q,p=q+1:=⟨p - 1,by omega⟩
   have e1':((q+1:Nat):Int) - 1=(q:Int):=by omega
   have hq0:(0:Int)≤(q:Int):=by omega
   have hq1:(q:Int)<64:=by omega
   rw[e1'];obtain⟨⟨a0,a1,a2⟩,-⟩:=qQ1 HI.out.1.1;have k1:=kM wr _ _ (n / 2^(q+1)) (n / 2^(q+1)) HI.out.2.2.2.1 HI.out.1.2 HI.out.1.2 (by have:=zG3 n q;have:=xW0 n (2^q);omega)
   go_wp2_with fail;refine k1.mono ?_;rintro r w3 ⟨s2,ao2,n2,cp2,e2,rfl,hp1,hb1⟩;have HI3:Hid (RdD w g (P 1) (P (n / 2^(q+1)+n / 2^(q+1))) sb aob nb cpb eb (((w3.setCell ⟨g,0,none⟩ (.bool s2)).setCell ⟨g,1,none⟩ (.slice ao2 n2 cp2)).setCell ⟨g,2,none⟩ (.int .i64 e2)) s2 ao2 n2 cp2 e2):=HI.out.next hb1 hp1;clear k1 a0 a1 a2;obtain⟨⟨a0,a1,a2⟩,f0,f1,f2⟩:=qQ1 (qQ HI.out.1.1 hb1 HI.out.1.lt);clear hp1 hb1 HI
   go_upto_region 6 with fail;obtain⟨U,hU⟩:∃ U,U=(((w3.setCell ⟨g,0,none⟩ (.bool s2)).setCell ⟨g,1,none⟩ (.slice ao2 n2 cp2)).setCell ⟨g,2,none⟩ (.int .i64 e2)):=⟨_,rfl⟩;rw[←hU] at HI3 ⊢;clear hU a0 a1 a2 f0 f1 f2;have hbit:=yB5 (q:=q) hn;have h2:=zG3 n q;by_cases hodd:n / 2^q % 2=1
   ·rw[show(n / 2^q % 2==1)=true by simp[hodd]] at hbit
    obtain⟨⟨a0,a1,a2⟩,-⟩:=qQ1 HI3.out.1.1;obtain⟨⟨b0,b1,b2⟩,-⟩:=qQ1 HI3.out.2.1.1;have k2:=kM U _ _ (n / 2^(q+1)+n / 2^(q+1)) 1 HI3.out.2.2.2.1 HI3.out.1.2 HI3.out.2.1.2 (by have:=xW0 n (2^q);omega)
    rw[show n / 2^(q+1)+n / 2^(q+1)+1=n / 2^q by omega] at k2
    clear h2
    go_wp2_with fail;refine k2.mono ?_;rintro r w4 ⟨s3,ao3,n3,cp3,e3,rfl,hp4,hb4⟩;have HI4:Hid (RdD w g (P 1) (P (n / 2^q)) sb aob nb cpb eb (((w4.setCell ⟨g,0,none⟩ (.bool s3)).setCell ⟨g,1,none⟩ (.slice ao3 n3 cp3)).setCell ⟨g,2,none⟩ (.int .i64 e3)) s3 ao3 n3 cp3 e3):=HI3.out.next hb4 hp4;clear k2 a0 a1 a2 b0 b1 b2;obtain⟨⟨a0,a1,a2⟩,f0,f1,f2⟩:=qQ1 (qQ HI3.out.1.1 hb4 HI3.out.1.lt);clear hp4 hb4 HI3 hbit hodd
    go_wp2_with fail;exact⟨⟨q,s3,ao3,n3,cp3,e3,by omega,rfl,HI4⟩,by simp[intOf]⟩
   ·rw[show(n / 2^q % 2==1)=false by simp[hodd]] at hbit
    rw[show n / 2^(q+1)+n / 2^(q+1)=n / 2^q by omega] at HI3
    clear h2 hodd
    go_wp2_with fail;exact⟨⟨q,s2,ao2,n2,cp2,e2,by omega,rfl,HI3⟩,by simp[intOf]⟩
  ·obtain rfl:p=0:=by omega
   rw[xC7,Nat.div_one] at HI;obtain⟨⟨a0,a1,a2⟩,-⟩:=qQ1 HI.out.1.1;obtain⟨⟨b0,b1,b2⟩,f0,f1,f2⟩:=qQ1 HI.out.2.2.1
   go_wp2_with fail;refine xW9 (xE2 rfl _ _ (w.heap.size) 84 #[.bool s1,.slice ao1 n1 cp1,.int .i64 e1] (0,0) _ rfl (qX4 _ _ _ HI.out.2.2.1) Tryz.underlying84 rfl Tryz.info84) rfl ?_;exact⟨s1,ao1,n1,cp1,e1,rfl,qF2 HI.out.1.2 HI.out.2.2.1 _ _ _,qQ3 HI.out.2.2.2.1 (xL0 _) _ _ _⟩
theorem qU2 {a b:Int} {p q k l:Nat} (h1:a.natAbs<2^k) (h2:b.natAbs<2^l) (hk:k+l≤60000) (hp:p+q≤60000) {X Y:Value} {w:World} (hT:Tab32 w) (hX:PN w X (un a p)) (hY:PN w Y (un b q)):Calls Tryz.prog 52 #[X,Y] w fun r w'=>OutA w (un (a*b) (p+q)) r w':=qW7 (yA h1 h2 hk hp) hT hX hY
theorem zM1 {bs n b:Nat} {w:World} (hT:Tab32 w) (hb1:1≤bs) (hb2:bs≤16) (hn:n≤8191) (hlt:bs^n<2^b) (hbb:b≤30000) (kL:∀ W,Calls Tryz.prog 119 #[.int .u64 n] W fun r w'=>r=.returned (.int .i64 (bl n:Nat))∧w'=W) :
  Calls Tryz.prog 76 #[.int .i64 bs,.int .i64 n] w fun r w'=>OutA w (un ((bs^n:Nat):Int) 0) r w':=by
 have hle:∀ a,a≤n→(((bs^a:Nat):Int)).natAbs<2^b:=fun a ha=>by
  rw[xC1];exact xL9 (xL6 hb1 ha) hlt
 refine yM0 (fun a=>un ((bs^a:Nat):Int) 0) (bs:Int) n (bl n) w hn rfl ?_ (fun W hW=>?_) (fun W hW=>?_) (fun W X Y a c hW hX hY hac=>?_) kL
 ·exact(qJ8 n 13).2 (xL9 hn (by decide:8191<2^13))
 ·have k:=qR3 (n:=1) (hT.later hW) (by omega)
  rw[show((bs^0:Nat):Int)=1 by rw[xC7];rfl]
  exact k
 ·have k:=qR3 (n:=(bs:Int)) (hT.later hW) (by omega)
  rw[show((bs^1:Nat):Int)=(bs:Int) by rw[Nat.pow_one]]
  exact k
 ·have k:=qU2 (hle a (by omega)) (hle c (by omega)) (by omega) (by omega) (hT.later hW) hX hY
  rw[←xC8,←xC3] at k;exact k
theorem yN5 (k:Int) (T1 T2:Bool×Nat×Int) (w:World) (hk:k<0) (hk2 : -1000000≤k) (hw:IntKind.i64.wrap (-k) = -k)
  (k1:∀ W,Bw w W→Calls Tryz.prog 118 #[.int .i64 1] W fun r w'=>OutP W T1 r w') (k2:∀ W,Bw w W→Calls Tryz.prog 76 #[.int .i64 10,.int .i64 (-k)] W fun r w'=>OutA W T2 r w'):Calls Tryz.prog 83 #[.int .i64 k] w fun r w'=>qS7 w T1 T2 r w':=by
 obtain⟨W,hW⟩:∃ W,W=w.alloc (.cells #[.bool false,.slice none 0 0,.int .i64 0,.bool false,.slice none 0 0,.int .i64 0] 90):=⟨_,rfl⟩;have HC:Hid (W.heap[w.heap.size]?=some (.cells #[.bool false,.slice none 0 0,.int .i64 0,.bool false,.slice none 0 0,.int .i64 0] 90 (0,0))∧Bw w W):=(by rw[hW];exact⟨xW8 _ _,(xL1 _ _).alloc (xL0 _) _⟩:_∧_)
 have kk:=k1 W HC.out.2;have HK2:Hid _:=k2;clear k1 k2
 go_enter Tryz.func83,Tryz.ntmps83
 go_upto_region 1 with fail;rw[←hW];clear hW
 go_wp2_with fail;refine kk.mono ?_;rintro r w1 ⟨s1,ao1,n1,cp1,e1,rfl,hp,hb1⟩;clear kk;have HG:Hid (w1.heap[w.heap.size]?=some (.cells #[.bool false,.slice none 0 0,.int .i64 0,.bool false,.slice none 0 0,.int .i64 0] 90 (0,0))∧Bw w w1∧PN w1 (.agg #[.bool s1,.slice ao1 n1 cp1,.int .i64 e1]) T1):=⟨qQ HC.out.1 hb1 (qQ6 HC.out.1),HC.out.2.trans (hb1.mono HC.out.2.size),hp⟩;have kk:=HK2.out w1 HG.out.2.1;clear hp hb1 HC HK2
 go_wp2_with fail;refine kk.mono ?_;rintro r w2 ⟨s2,ao2,n2,cp2,e2,rfl,hp,hb2⟩;clear kk;have HH:Hid (w2.heap[w.heap.size]?=some (.cells #[.bool false,.slice none 0 0,.int .i64 0,.bool false,.slice none 0 0,.int .i64 0] 90 (0,0))∧Bw w w2∧PN w2 (.agg #[.bool s1,.slice ao1 n1 cp1,.int .i64 e1]) T1∧PN w2 (.agg #[.bool s2,.slice ao2 n2 cp2,.int .i64 e2]) T2):=⟨qQ HG.out.1 hb2 (qQ6 HG.out.1),HG.out.2.1.trans (hb2.mono HG.out.2.1.size),HG.out.2.2.later hb2,hp⟩;clear hp hb2 HG;obtain⟨⟨c0,c1,c2,c3,c4,c5⟩,d0,d1,d2,d3,d4,d5⟩:=qV9 HH.out.1
 go_wp2_with fail;refine xW9 (xE2 rfl _ _ w.heap.size 90 #[.bool s1,.slice ao1 n1 cp1,.int .i64 e1,.bool s2,.slice ao2 n2 cp2,.int .i64 e2] (0,0) _ rfl (qT8 _ _ _ _ _ _ HH.out.1) Tryz.underlying90 rfl (by kernel_rfl)) rfl ?_
 exact⟨_,rfl,⟨_,_,_,_,_,_,_,_,_,_,rfl,HH.out.2.2.1.set6 HH.out.1 _ _ _ _ _ _,HH.out.2.2.2.set6 HH.out.1 _ _ _ _ _ _⟩,qG6 HH.out.2.1 (xL0 _) _ _ _ _ _ _⟩
theorem yN4 (k:Int) (T1 T2:Bool×Nat×Int) (w:World) (hk:¬ k<0)
  (k1:∀ W,Bw w W→Calls Tryz.prog 118 #[.int .i64 1] W fun r w'=>OutP W T1 r w') (k2:∀ W,Bw w W→Calls Tryz.prog 76 #[.int .i64 10,.int .i64 (k)] W fun r w'=>OutA W T2 r w'):Calls Tryz.prog 83 #[.int .i64 k] w fun r w'=>qS7 w T2 T1 r w':=by
 obtain⟨W,hW⟩:∃ W,W=w.alloc (.cells #[.bool false,.slice none 0 0,.int .i64 0,.bool false,.slice none 0 0,.int .i64 0] 90):=⟨_,rfl⟩;have HC:Hid (W.heap[w.heap.size]?=some (.cells #[.bool false,.slice none 0 0,.int .i64 0,.bool false,.slice none 0 0,.int .i64 0] 90 (0,0))∧Bw w W):=(by rw[hW];exact⟨xW8 _ _,(xL1 _ _).alloc (xL0 _) _⟩:_∧_)
 have kk:=k2 W HC.out.2;have HK2:Hid _:=k1;clear k2 k1
 go_enter Tryz.func83,Tryz.ntmps83
 go_upto_region 1 with fail;rw[←hW];clear hW
 go_wp2_with fail;refine kk.mono ?_;rintro r w1 ⟨s1,ao1,n1,cp1,e1,rfl,hp,hb1⟩;clear kk;have HG:Hid (w1.heap[w.heap.size]?=some (.cells #[.bool false,.slice none 0 0,.int .i64 0,.bool false,.slice none 0 0,.int .i64 0] 90 (0,0))∧Bw w w1∧PN w1 (.agg #[.bool s1,.slice ao1 n1 cp1,.int .i64 e1]) T2):=⟨qQ HC.out.1 hb1 (qQ6 HC.out.1),HC.out.2.trans (hb1.mono HC.out.2.size),hp⟩;have kk:=HK2.out w1 HG.out.2.1;clear hp hb1 HC HK2
 go_wp2_with fail;refine kk.mono ?_;rintro r w2 ⟨s2,ao2,n2,cp2,e2,rfl,hp,hb2⟩;clear kk;have HH:Hid (w2.heap[w.heap.size]?=some (.cells #[.bool false,.slice none 0 0,.int .i64 0,.bool false,.slice none 0 0,.int .i64 0] 90 (0,0))∧Bw w w2∧PN w2 (.agg #[.bool s1,.slice ao1 n1 cp1,.int .i64 e1]) T2∧PN w2 (.agg #[.bool s2,.slice ao2 n2 cp2,.int .i64 e2]) T1):=⟨qQ HG.out.1 hb2 (qQ6 HG.out.1),HG.out.2.1.trans (hb2.mono HG.out.2.1.size),HG.out.2.2.later hb2,hp⟩;clear hp hb2 HG;obtain⟨⟨c0,c1,c2,c3,c4,c5⟩,d0,d1,d2,d3,d4,d5⟩:=qV9 HH.out.1
 go_wp2_with fail;refine xW9 (xE2 rfl _ _ w.heap.size 90 #[.bool s1,.slice ao1 n1 cp1,.int .i64 e1,.bool s2,.slice ao2 n2 cp2,.int .i64 e2] (0,0) _ rfl (qT8 _ _ _ _ _ _ HH.out.1) Tryz.underlying90 rfl (by kernel_rfl)) rfl ?_
 exact⟨_,rfl,⟨_,_,_,_,_,_,_,_,_,_,rfl,HH.out.2.2.1.set6 HH.out.1 _ _ _ _ _ _,HH.out.2.2.2.set6 HH.out.1 _ _ _ _ _ _⟩,qG6 HH.out.2.1 (xL0 _) _ _ _ _ _ _⟩
def tnO (k:Int):Nat:=10^k.toNat
def tnU (k:Int):Nat:=10^(-k).toNat
def KLen (n:Nat):Prop:=∀ W,Calls Tryz.prog 119 #[.int .u64 n] W fun r w'=>r=.returned (.int .i64 (bl n:Nat))∧w'=W
theorem yL3 (m:Nat) {n:Nat} (h:n≤3*m) (hm:m≠0):10^n<2^(10*m):=by
 refine xL9 (xL6 (by decide) h) ?_
 rw[Nat.pow_mul,Nat.pow_mul];exact Nat.pow_lt_pow_left (by decide) hm
def dM:Nat:=2500
def dB:Nat:=10*dM
theorem zD1:dB≤25000:=by unfold dB dM;omega
theorem qO3 {n:Nat} (h:n≤7500):10^n<2^dB:=by
 unfold dB;exact yL3 dM (by unfold dM;omega) (by unfold dM;omega)
theorem yK5 {k:Int} {w:World} (hT:Tab32 w) (h1 : -7500≤k) (h2:k≤7500) (kL:∀ n,n≤7500→KLen n) :
  Calls Tryz.prog 83 #[.int .i64 k] w fun r w'=>qS7 w (un (tnO k:Int) 0) (un (tnU k:Int) 0) r w':=by
 have hone:∀ W,Bw w W→Calls Tryz.prog 118 #[.int .i64 1] W fun r w'=>OutP W (un ((1:Nat):Int) 0) r w':=fun W hW=>qR3 (n:=1) (hT.later hW) (by omega)
 have hpow:∀ n:Nat,n≤7500→∀ W,Bw w W→Calls Tryz.prog 76 #[.int .i64 10,.int .i64 (n:Int)] W fun r w'=>OutA W (un ((10^n:Nat):Int) 0) r w':=fun n hn W hW=>zM1 (bs:=10) (hT.later hW) (by omega) (by omega) (by omega) (qO3 hn) (by have:=zD1;omega) (kL n hn)
 unfold tnO tnU;by_cases hk:k<0
 ·obtain⟨n,hn⟩:∃ n:Nat,-k=(n:Int):=⟨(-k).toNat,by omega⟩
  rw[show k.toNat=0 by omega,show(-k).toNat=n by omega,xC7]
  refine yN5 k _ _ w hk (by omega) (by rw[xW6];omega) hone ?_
  rw[hn];exact hpow n (by omega)
 ·obtain⟨n,hn⟩:∃ n:Nat,k=(n:Int):=⟨k.toNat,by omega⟩
  rw[show(-k).toNat=0 by omega,show k.toNat=n by omega,xC7]
  refine yN4 k _ _ w hk hone ?_;rw[hn];exact hpow n (by omega)
end Go.Proofs.YtbanebginnakhaaGreatDoor
namespace Go.Proofs.YtbanebginnakhaaGreatDoor
open Go.RowKit
structure ParX (pv pa ps:Nat→Nat) (W0:World) (a0:Act) (m n:Nat) (slot bx:Nat→Tmp) (vs:Nat→Nat) (T:TypeId) (zs:Array Value) (V:Nat→World→Value→Prop) (listed:Array Bool) (a:Act) (w:World):Prop where
 below:Bw W0 w
 size:a.tmps.size=a0.tmps.size
 defers:a.defers=a0.defers
 other:∀ s,(∀ j,j<m→s≠slot j)→(∀ k,k<n→s≠bx k)→a.tmps[s]?=a0.tmps[s]?
 val:∀ j,j<m→listed.getD (pv j) false=true→∃ u,a.tmps[slot j]?=some u∧V j w u
 box:∀ k,k<n→listed.getD (pa k) false=true→∃ g cs,a.tmps[bx k]?=some (.pointer (some ⟨g,0,none⟩))∧W0.heap.size≤g∧w.heap[g]?=some (.cells cs T (0,0))∧cs.size=zs.size ∧
  (listed.getD (ps k) false=true→a.tmps[slot (vs k)]?=some (.agg cs))∧(listed.getD (ps k) false=false→cs=zs)
 apart:∀ k k',k<n→k'<n→k≠k'→listed.getD (pa k) false=true→listed.getD (pa k') false=true→a.tmps[bx k]?≠a.tmps[bx k']?
 stored:∀ k,k<n→listed.getD (ps k) false=true→listed.getD (pa k) false=true∧listed.getD (pv (vs k)) false=true
theorem zY8 {P:Program} {ops:Array Oper} {Q:Exit→Act→World→Prop} {id:Nat} (hm:P.follows .mixedOrders=true) (pv pa ps:Nat→Nat) (m n:Nat) (slot bx:Nat→Tmp) (vs:Nat→Nat) (dep:Nat→List Nat) (T:TypeId) (zs:Array Value)
  (W0:World) (a0:Act) (V:Nat→World→Value→Prop) (hall0:∀ i,i<ops.size→(∃ j,j<m∧i=pv j)∨(∃ k,k<n∧i=pa k)∨∃ k,k<n∧i=ps k)
  (hpv:∀ j,j<m→pv j<ops.size) (hpa:∀ k,k<n→pa k<ops.size) (hps:∀ k,k<n→ps k<ops.size)
  (hvv:∀ j j',j<m→j'<m→pv j=pv j'→j=j') (haa:∀ k k',k<n→k'<n→pa k=pa k'→k=k') (hss:∀ k k',k<n→k'<n→ps k=ps k'→k=k')
  (hva:∀ j k,j<m→k<n→pv j≠pa k) (hvs:∀ j k,j<m→k<n→pv j≠ps k) (has:∀ k k',k<n→k'<n→pa k≠ps k')
  (hord:∀ (i:Nat) (o:Oper),ops[i]?=some o→∀ e ∈ o.after,Region.binds .any e=true→e.on<i)
  (hV1:∀ j w w' u,Bw w w'→V j w u→V j w' u)
  (hV2:∀ j w u g cs',w.heap[g]?=some (.cells zs T (0,0))→V j w u→V j (w.setRow g cs') u)
  (hVs:∀ k,k<n→∀ w u,V (vs k) w u→∃ cs:Array Value,u=.agg cs∧cs.size=zs.size∧cs.all (·.oneCell')=true)
  (hdep:∀ j,j<m→∀ j' ∈ dep j,j'<m∧∀ o,ops[pv j]?=some o→∃ e ∈ o.after,e.on=pv j'∧Region.binds .any e=true)
  (hA:∀ j,j<m→∀ (a:Act) (w:World),Bw W0 w→(∀ s,(∀ j,j<m→s≠slot j)→(∀ k,k<n→s≠bx k)→a.tmps[s]?=a0.tmps[s]?) →
   (∀ j' ∈ dep j,∃ u,a.tmps[slot j']?=some u∧V j' w u)→wpOp P ops Q (pv j) (fun a' w'=>∃ u,a'=a.put (some (slot j)) u∧V j w' u∧Bw w w') a w)
  (hal:∀ k,k<n→∃ o,ops[pa k]?=some o∧o.guard=none∧o.op=.alloc T∧o.dst=some (bx k))
  (hz:∀ w,(zeroValue T).run P w=.ok (.agg zs) w) (hi:(P.info? T).map (·.size)=some zs.size)
  (hst:∀ k,k<n→vs k<m∧∃ o,ops[ps k]?=some o∧o.guard=none∧o.op=.store T (.tmp (bx k)) (.tmp (slot (vs k)))∧o.dst=none∧(∃ e ∈ o.after,e.on=pa k∧Region.binds .any e=true)∧(∃ e ∈ o.after,e.on=pv (vs k)∧Region.binds .any e=true))
  (hin:∀ j,j<m→slot j<a0.tmps.size) (hbin:∀ k,k<n→bx k<a0.tmps.size)
  (hinj:∀ j j',j<m→j'<m→slot j=slot j'→j=j') (hbinj:∀ k k',k<n→k'<n→bx k=bx k'→k=k') (hsb:∀ j k,j<m→k<n→slot j≠bx k)
  (hQ:∀ (u:Nat→Value) (g:Nat→Nat) (a:Act) (w:World),Bw W0 w→(∀ j,j<m→a.tmps[slot j]?=some (u j)∧V j w (u j)) →
   (∀ k,k<n→a.tmps[bx k]?=some (.pointer (some ⟨g k,0,none⟩))∧W0.heap.size≤g k∧∃ cs,u (vs k)=.agg cs∧w.heap[g k]?=some (.cells cs T (0,0))) →
   (∀ k k',k<n→k'<n→k≠k'→g k≠g k')→a.tmps.size=a0.tmps.size→a.defers=a0.defers→(∀ s,(∀ j,j<m→s≠slot j)→(∀ k,k<n→s≠bx k)→a.tmps[s]?=a0.tmps[s]?)→Q .normal a w) :
  (Code.region id ops true).wp P Q a0 W0:=by
 refine wp_region_any hm ?_;refine qT2 (ParX pv pa ps W0 a0 m n slot bx vs T zs V) ?_ ?_ ops.size _ a0 _ (by simp) ?_ (by simp)
 ·-- a step
  intro listed a w i hl hI hr;obtain⟨hun,o,ho,hall⟩:=mem_ready.1 hr;have hunf:=qS1 hun;have hio:i<ops.size:=(Array.getElem?_eq_some_iff.1 ho).1;have hil:i<listed.size:=by omega
  have hset:=qS2 hil;have hne:∀ x,x≠i→(listed.setIfInBounds i true).getD x false=listed.getD x false:=fun x hx=>getD_set_ne false (Ne.symm hx);rcases hall0 i hio with ⟨i,him,rfl⟩|⟨k,hk,rfl⟩|⟨k,hk,rfl⟩
  ·have nv:∀ j,j<m→j≠i→pv j≠pv i:=fun j hj e e2=>e (hvv j i hj him e2);have na:∀ k,k<n→pa k≠pv i:=fun k hk e=>hva i k him hk e.symm;have ns:∀ k,k<n→ps k≠pv i:=fun k hk e=>hvs i k him hk e.symm;refine wpOp_mono ?_ (hA i him a w hI.below hI.other fun j' hj'=>?_)
   ·rintro a' w' ⟨u,rfl,hu,hb⟩;have hlt:slot i<a.tmps.size:=by rw[hI.size];exact hin i him
    refine⟨hI.below.trans (hb.mono hI.below.size),by rw[qP1];exact hI.size,by rw[qG];exact hI.defers,fun s h1 h2=>?_,fun j hj h1=>?_,fun k hk h1=>?_,fun k k' hk hk' hkk h1 h2=>?_,fun k hk h1=>?_⟩
    ·rw[qX (h1 i him)];exact hI.other s h1 h2
    ·by_cases e:j=i
     ·subst e;exact⟨u,qN4 hlt,hu⟩
     ·rw[hne _ (nv j hj e)] at h1;obtain⟨u',g1,g2⟩:=hI.val j hj h1;exact⟨u',by rw[qX (fun e2=>e (hinj j i hj him e2))];exact g1,hV1 _ _ _ _ hb g2⟩
    ·rw[hne _ (na k hk)] at h1;obtain⟨g,cs,g1,g2,g3,g4,g5,g6⟩:=hI.box k hk h1;refine⟨g,cs,by rw[qX (Ne.symm (hsb i k him hk))];exact g1,g2,(hb.block g (Array.getElem?_eq_some_iff.1 g3).1).trans g3,g4,fun h2=>?_,fun h2=>g6 (by rw[←hne (ps k) (ns k hk)];exact h2)⟩
     rw[hne _ (ns k hk)] at h2;have h3:=(hI.stored k hk h2).2;have h4:vs k≠i:=fun e=>by rw[e,hunf] at h3;cases h3
     rw[qX (fun e2=>h4 (hinj _ _ (hst k hk).1 him e2))];exact g5 h2
    ·rw[hne _ (na k hk)] at h1;rw[hne _ (na k' hk')] at h2;rw[qX (Ne.symm (hsb i k him hk)),qX (Ne.symm (hsb i k' him hk'))];exact hI.apart k k' hk hk' hkk h1 h2
    ·rw[hne _ (ns k hk)] at h1;obtain⟨h2,h3⟩:=hI.stored k hk h1;exact⟨getD_set_true h2,getD_set_true h3⟩
   ·obtain⟨h1,h2⟩:=hdep i him j' hj';obtain⟨e,he,h3,hbd⟩:=h2 o ho;exact hI.val _ h1 (by rw[←h3];exact hall e he hbd)
  ·have nv:∀ j,j<m→pv j≠pa k:=fun j hj=>hva j k hj hk;have na:∀ k1,k1<n→k1≠k→pa k1≠pa k:=fun k1 hk1 e e2=>e (haa k1 k hk1 hk e2);have ns:∀ k1,k1<n→ps k1≠pa k:=fun k1 hk1 e=>has k k1 hk hk1 e.symm;obtain⟨o',ho',hg,hop,hd⟩:=hal k hk;refine zM8 ho' hg hop hz ?_;rw[hd];have hlt:bx k<a.tmps.size:=by rw[hI.size];exact hbin k hk
   have hbw:Below w.heap.size w (w.alloc (.cells zs T)):=(xL1 _ _).alloc (xL0 _) _;refine⟨hI.below.trans (hbw.mono hI.below.size),by rw[qP1];exact hI.size,by rw[qG];exact hI.defers,fun s h1 h2=>?_,fun j hj h1=>?_,fun k1 hk1 h1=>?_,fun k1 k2 hk1 hk2 hkk h1 h2=>?_,fun k1 hk1 h1=>?_⟩
   ·rw[qX (h2 k hk)];exact hI.other s h1 h2
   ·rw[hne _ (nv j hj)] at h1;obtain⟨u',g1,g2⟩:=hI.val j hj h1;exact⟨u',by rw[qX (hsb j k hj hk)];exact g1,hV1 _ _ _ _ hbw g2⟩
   ·by_cases e:k1=k
    ·subst e;refine⟨w.heap.size,zs,qN4 hlt,hI.below.size,xW8 _ _,rfl,fun h2=>?_,fun _=>rfl⟩
     rw[hne _ (ns k1 hk)] at h2;have:=(hI.stored k1 hk h2).1
     rw[hunf] at this;cases this
    ·rw[hne _ (na k1 hk1 e)] at h1;obtain⟨g,cs,g1,g2,g3,g4,g5,g6⟩:=hI.box k1 hk1 h1;refine⟨g,cs,by rw[qX (fun e2=>e (hbinj _ _ hk1 hk e2))];exact g1,g2,(hbw.block g (Array.getElem?_eq_some_iff.1 g3).1).trans g3,g4,fun h2=>?_,fun h2=>g6 (by rw[←hne (ps k1) (ns k1 hk1)];exact h2)⟩
     rw[hne _ (ns k1 hk1)] at h2;rw[qX (hsb _ k (hst k1 hk1).1 hk)];exact g5 h2
   ·have old:∀ k1,k1<n→k1≠k→listed.getD (pa k1) false=true→a.tmps[bx k1]?≠some (.pointer (some ⟨w.heap.size,0,none⟩)):=fun k1 hk1 e h1 h2=>by
     obtain⟨g,cs,g1,g2,g3,g4,g5,g6⟩:=hI.box k1 hk1 h1;have hlt:=(Array.getElem?_eq_some_iff.1 g3).1;rw[g1] at h2;simp only[Option.some.injEq,Value.pointer.injEq,Addr.mk.injEq] at h2;omega
    by_cases e1:k1=k
    ·subst e1;rw[hne _ (na k2 hk2 (Ne.symm hkk))] at h2;rw[qN4 hlt,qX (fun e2=>hkk (hbinj _ _ hk hk2 e2.symm))];exact Ne.symm (old k2 hk2 (Ne.symm hkk) h2)
    ·rw[hne _ (na k1 hk1 e1)] at h1;by_cases e2:k2=k
     ·subst e2;rw[qN4 hlt,qX (fun e2=>e1 (hbinj _ _ hk1 hk e2))];exact old k1 hk1 e1 h1
     ·rw[hne _ (na k2 hk2 e2)] at h2;rw[qX (fun e3=>e1 (hbinj _ _ hk1 hk e3)),qX (fun e3=>e2 (hbinj _ _ hk2 hk e3))];exact hI.apart k1 k2 hk1 hk2 hkk h1 h2
   ·rw[hne _ (ns k1 hk1)] at h1;obtain⟨h2,h3⟩:=hI.stored k1 hk1 h1;exact⟨getD_set_true h2,getD_set_true h3⟩
  ·have nv:∀ j,j<m→pv j≠ps k:=fun j hj=>hvs j k hj hk;have na:∀ k1,k1<n→pa k1≠ps k:=fun k1 hk1=>has k1 k hk1 hk;have ns:∀ k1,k1<n→k1≠k→ps k1≠ps k:=fun k1 hk1 e e2=>e (hss k1 k hk1 hk e2);obtain⟨hvm,o',ho',hg,hop,hd,⟨e1,he1,hon1,hb1⟩,e2,he2,hon2,hb2⟩:=hst k hk;obtain rfl:o'=o:=xL2 (ho'.symm.trans ho);have l1:=hall e1 he1 hb1;have l2:=hall e2 he2 hb2;rw[hon1] at l1;rw[hon2] at l2;obtain⟨u,hu1,hu2⟩:=hI.val _ hvm l2;obtain⟨cs,rfl,hc1,hc2⟩:=hVs k hk w u hu2;obtain⟨g,old,g1,g2,g3,g4,g5,g6⟩:=hI.box k hk l1;rw[g6 hunf] at g3 g4;refine qS ho' hg hop g1 hu1 g3 (by rw[hc1];exact hi) (by omega) hc2 ?_
   rw[hd];show ParX pv pa ps W0 a0 m n slot bx vs T zs V _ a _
   refine⟨qG7 hI.below g2 _,hI.size,hI.defers,hI.other,fun j hj h1=>?_,fun k1 hk1 h1=>?_,fun k1 k2 hk1 hk2 hkk h1 h2=>?_,fun k1 hk1 h1=>?_⟩
   ·rw[hne _ (nv j hj)] at h1;obtain⟨u',q1,q2⟩:=hI.val j hj h1;exact⟨u',q1,hV2 _ _ _ _ _ g3 q2⟩
   ·rw[hne _ (na k1 hk1)] at h1;by_cases e:k1=k
    ·subst e;exact⟨g,cs,g1,g2,setRow_heap w g _ cs T _ g3,hc1,fun _=>hu1,fun h2=>by rw[hset] at h2;cases h2⟩
    ·obtain⟨g',cs',q1,q2,q3,q4,q5,q6⟩:=hI.box k1 hk1 h1;have hgg:g'≠g:=fun e2=>by
      subst e2;exact hI.apart k1 k hk1 hk e h1 l1 (q1.trans g1.symm)
     refine⟨g',cs',q1,q2,(setRow_other w g g' cs hgg).trans q3,q4,fun h2=>?_,fun h2=>q6 (by rw[←hne (ps k1) (ns k1 hk1 e)];exact h2)⟩
     rw[hne _ (ns k1 hk1 e)] at h2;exact q5 h2
   ·rw[hne _ (na k1 hk1)] at h1;rw[hne _ (na k2 hk2)] at h2;exact hI.apart k1 k2 hk1 hk2 hkk h1 h2
   ·by_cases e:k1=k
    ·subst e;exact⟨getD_set_true l1,getD_set_true l2⟩
    ·rw[hne _ (ns k1 hk1 e)] at h1;obtain⟨h2,h3⟩:=hI.stored k1 hk1 h1;exact⟨getD_set_true h2,getD_set_true h3⟩
 ·-- the end: all have come up
  intro listed a w hl hI hr;have hfull:∀ i,i<ops.size→listed.getD i false=true:=by
   intro i;induction i using Nat.strongRecOn with
   | _ i ih =>
    intro hi;cases hx:listed.getD i false with
    | true=>rfl
    | false =>
     exfalso;have ho:ops[i]?=some ops[i]:=Array.getElem?_eq_getElem hi;have:i ∈ Region.ready .any ops listed:=by
      refine mem_ready.2 ⟨?_,ops[i],ho,fun e he hbe=>ih e.on (hord i _ ho e he hbe) (Nat.lt_trans (hord i _ ho e he hbe) hi)⟩;have hil:i<listed.size:=by omega
      simp only[Array.getD_eq_getD_getElem?,Array.getElem?_eq_getElem hil,Option.getD_some] at hx ⊢;exact hx
     rw[hr] at this;cases this
  have hval:∀ j,∃ u,j<m→a.tmps[slot j]?=some u∧V j w u:=fun j=>by
   by_cases hj:j<m
   ·obtain⟨u,h1,h2⟩:=hI.val j hj (hfull _ (hpv j hj));exact⟨u,fun _=>⟨h1,h2⟩⟩
   ·exact⟨undef,fun h=>absurd h hj⟩
  obtain⟨u,hu⟩:=Classical.axiomOfChoice hval;have hbox:∀ k,∃ g,k<n→a.tmps[bx k]?=some (.pointer (some ⟨g,0,none⟩))∧W0.heap.size≤g∧∃ cs,u (vs k)=.agg cs∧w.heap[g]?=some (.cells cs T (0,0)):=fun k=>by
   by_cases hk:k<n
   ·obtain⟨g,cs,h1,h2,h3,h4,h5,-⟩:=hI.box k hk (hfull _ (hpa k hk));refine⟨g,fun _=>⟨h1,h2,cs,?_,h3⟩⟩
    have h6:=h5 (hfull _ (hps k hk));rw[(hu _ (hst k hk).1).1] at h6;exact xL2 h6
   ·exact⟨0,fun h=>absurd h hk⟩
  obtain⟨g,hg⟩:=Classical.axiomOfChoice hbox;exact hQ u g a w hI.below hu hg (fun k k' hk hk' hkk e=>hI.apart k k' hk hk' hkk (hfull _ (hpa k hk)) (hfull _ (hpa k' hk')) (by rw[(hg k hk).1,(hg k' hk').1,e])) hI.size hI.defers hI.other
 ·-- the start
  have h0:∀ x,(Array.replicate ops.size false).getD x false=true→False:=fun x h=>by
   simp[Array.getD_eq_getD_getElem?,Array.getElem?_replicate] at h;split at h <;> simp at h
  exact⟨(xL1 _ _).drew,rfl,rfl,fun _ _ _=>rfl,fun j _ h=>(h0 _ h).elim,fun k _ h=>(h0 _ h).elim,fun k k' _ _ _ h=>(h0 _ h).elim,fun k _ h=>(h0 _ h).elim⟩
structure KeepB (n:Nat) (gs:Nat→Nat) (B:Nat) (W0 w:World):Prop where
 below:Below B W0 w
 size:W0.heap.size≤w.heap.size
 keep:∀ b,b<W0.heap.size→(∀ k,k<n→b≠gs k)→w.heap[b]?=W0.heap[b]?
theorem KeepB.step {n:Nat} {gs:Nat→Nat} {B:Nat} {W0 w w':World} (h:KeepB n gs B W0 w) (hB:B≤W0.heap.size) (hb:Bw w w'):KeepB n gs B W0 w' :=
 ⟨h.below.trans (hb.mono (xW hB h.size)),xW h.size hb.size,fun b h1 h2=>(hb.block b (xL8 h1 h.size)).trans (h.keep b h1 h2)⟩
theorem KeepB.row {n:Nat} {gs:Nat→Nat} {B:Nat} {W0 w:World} (h:KeepB n gs B W0 w) {k:Nat} (hk:k<n) (hB:B≤gs k) (cs:Array Value):KeepB n gs B W0 (w.setRow (gs k) cs) :=
 ⟨qG7 h.below hB _,by simpa using h.size,fun b h1 h2=>(setRow_other w (gs k) b cs (h2 k hk)).trans (h.keep b h1 h2)⟩
structure ParQ (pv ps:Nat→Nat) (rd:Nat→List Nat) (W0:World) (a0:Act) (m n:Nat) (slot:Nat→Tmp) (vs gs:Nat→Nat) (B:Nat) (T:TypeId) (C:Array Value→Prop) (z:Nat) (V:Nat→World→Value→Prop) (listed:Array Bool) (a:Act) (w:World):Prop where
 kept:KeepB n gs B W0 w
 size:a.tmps.size=a0.tmps.size
 defers:a.defers=a0.defers
 other:∀ s,(∀ j,j<m→s≠slot j)→a.tmps[s]?=a0.tmps[s]?
 val:∀ j,j<m→listed.getD (pv j) false=true→∃ u,a.tmps[slot j]?=some u∧V j w u
 box:∀ k,k<n→∃ cs,w.heap[gs k]?=some (.cells cs T (0,0))∧cs.size=z∧C cs∧(listed.getD (ps k) false=true→a.tmps[slot (vs k)]?=some (.agg cs))∧(listed.getD (ps k) false=false→w.heap[gs k]?=W0.heap[gs k]?)
 stored:∀ k,k<n→listed.getD (ps k) false=true→∀ j ∈ rd k,listed.getD (pv j) false=true
theorem zY9 {P:Program} {ops:Array Oper} {Q:Exit→Act→World→Prop} {id:Nat} (hm:P.follows .mixedOrders=true) (pv ps:Nat→Nat) (m n:Nat) (slot bx:Nat→Tmp) (vs gs:Nat→Nat) (B:Nat) (dep rd:Nat→List Nat) (T:TypeId) (C:Array Value→Prop) (z:Nat)
  (W0:World) (a0:Act) (V:Nat→World→Value→Prop) (hcov:∀ i,i<ops.size→(∃ j,j<m∧i=pv j)∨∃ k,k<n∧i=ps k) (hpv:∀ j,j<m→pv j<ops.size) (hps:∀ k,k<n→ps k<ops.size) (dvs:∀ j k,j<m→k<n→pv j≠ps k) (ivv:∀ j j',j<m→j'<m→pv j=pv j'→j=j') (iss:∀ k k',k<n→k'<n→ps k=ps k'→k=k')
  (hord:∀ (i:Nat) (o:Oper),ops[i]?=some o→∀ e ∈ o.after,Region.binds .any e=true→e.on<i)
  (hV1:∀ j w w' u,Bw w w'→V j w u→V j w' u)
  (hV2:∀ j w u g cs cs',w.heap[g]?=some (.cells cs T (0,0))→C cs→V j w u→V j (w.setRow g cs') u)
  (hVs:∀ k,k<n→∀ w u,V (vs k) w u→∃ cs:Array Value,u=.agg cs∧cs.size=z∧C cs∧cs.all (·.oneCell')=true)
  (hdep:∀ j,j<m→∀ j' ∈ dep j,j'<m∧∀ o,ops[pv j]?=some o→∃ e ∈ o.after,e.on=pv j'∧Region.binds .any e=true)
  (hA:∀ j,j<m→∀ (a:Act) (w:World),KeepB n gs B W0 w→(∀ s,(∀ j,j<m→s≠slot j)→a.tmps[s]?=a0.tmps[s]?) →
   (∀ j' ∈ dep j,∃ u,a.tmps[slot j']?=some u∧V j' w u)→(∀ k,k<n→j ∈ rd k→w.heap[gs k]?=W0.heap[gs k]?)→wpOp P ops Q (pv j) (fun a' w'=>∃ u,a'=a.put (some (slot j)) u∧V j w' u∧Bw w w') a w)
  (hi:(P.info? T).map (·.size)=some z)
  (hst:∀ k,k<n→vs k<m∧∃ o,ops[ps k]?=some o∧o.guard=none∧o.op=.store T (.tmp (bx k)) (.tmp (slot (vs k)))∧o.dst=none∧vs k ∈ rd k∧∀ j ∈ rd k,j<m∧∃ e ∈ o.after,e.on=pv j∧Region.binds .any e=true)
  (hbx:∀ k,k<n→a0.tmps[bx k]?=some (.pointer (some ⟨gs k,0,none⟩))∧∀ j,j<m→bx k≠slot j)
  (hbox:∀ k,k<n→B≤gs k∧∃ cs,W0.heap[gs k]?=some (.cells cs T (0,0))∧cs.size=z∧C cs)
  (hgs:∀ k k',k<n→k'<n→gs k=gs k'→k=k') (hB:B≤W0.heap.size)
  (hin:∀ j,j<m→slot j<a0.tmps.size)
  (hinj:∀ j j',j<m→j'<m→slot j=slot j'→j=j')
  (hQ:∀ (u:Nat→Value) (a:Act) (w:World),KeepB n gs B W0 w→(∀ j,j<m→a.tmps[slot j]?=some (u j)∧V j w (u j)) →
   (∀ k,k<n→∃ cs,u (vs k)=.agg cs∧w.heap[gs k]?=some (.cells cs T (0,0))) →
   a.tmps.size=a0.tmps.size→a.defers=a0.defers→(∀ s,(∀ j,j<m→s≠slot j)→a.tmps[s]?=a0.tmps[s]?)→Q .normal a w) :
  (Code.region id ops true).wp P Q a0 W0:=by
 have hvrd:∀ k,k<n→vs k ∈ rd k:=fun k hk=>by
  obtain⟨_,_,_,_,_,_,h,_⟩:=hst k hk;exact h
 refine wp_region_any hm ?_;refine qT2 (ParQ pv ps rd W0 a0 m n slot vs gs B T C z V) ?_ ?_ ops.size _ a0 _ (by simp) ?_ (by simp)
 ·-- a step
  intro listed a w i hl hI hr;obtain⟨hun,o,ho,hall⟩:=mem_ready.1 hr;have hunf:=qS1 hun;have hio:i<ops.size:=(Array.getElem?_eq_some_iff.1 ho).1;have hil:i<listed.size:=by omega
  have hset:=qS2 hil;have hne:∀ x,x≠i→(listed.setIfInBounds i true).getD x false=listed.getD x false:=fun x hx=>getD_set_ne false (Ne.symm hx);rcases hcov i hio with ⟨i,him,rfl⟩|⟨k,hk,rfl⟩
  ·refine wpOp_mono ?_ (hA i him a w hI.kept hI.other (fun j' hj'=>?_) (fun k hk hjk=>?_))
   ·rintro a' w' ⟨u,rfl,hu,hb⟩;have hlt:slot i<a.tmps.size:=by rw[hI.size];exact hin i him
    refine⟨hI.kept.step hB hb,by rw[qP1];exact hI.size,by rw[qG];exact hI.defers,fun s h1=>?_,fun j hj h1=>?_,fun k hk=>?_,fun k hk h1 jr hjr=>?_⟩
    ·rw[qX (h1 i him)];exact hI.other s h1
    ·by_cases e:j=i
     ·subst e;exact⟨u,qN4 hlt,hu⟩
     ·rw[hne (pv j) (fun e2=>e (ivv j i hj him e2))] at h1;obtain⟨u',g1,g2⟩:=hI.val j hj h1;exact⟨u',by rw[qX (fun e2=>e (hinj j i hj him e2))];exact g1,hV1 _ _ _ _ hb g2⟩
    ·obtain⟨cs,g3,g4,g5,g6,g7⟩:=hI.box k hk;refine⟨cs,(hb.block _ (Array.getElem?_eq_some_iff.1 g3).1).trans g3,g4,g5,fun h2=>?_,fun h2=>(hb.block _ (Array.getElem?_eq_some_iff.1 g3).1).trans (g7 (by rw[←hne (ps k) (Ne.symm (dvs i k him hk))];exact h2))⟩
     rw[hne _ (Ne.symm (dvs i k him hk))] at h2;have h3:=hI.stored k hk h2 (vs k) (hvrd k hk);have h4:vs k≠i:=fun e=>by rw[e,hunf] at h3;cases h3
     rw[qX (fun e2=>h4 (hinj _ _ (hst k hk).1 him e2))];exact g6 h2
    ·rw[hne _ (Ne.symm (dvs i k him hk))] at h1;exact getD_set_true (hI.stored k hk h1 jr hjr)
   ·obtain⟨h1,h2⟩:=hdep i him j' hj';obtain⟨e,he,hon,hbd⟩:=h2 o ho;exact hI.val _ h1 (by rw[←hon];exact hall e he hbd)
   ·obtain⟨cs,g3,g4,g5,g6,g7⟩:=hI.box k hk;refine g7 ?_;cases hs:listed.getD (ps k) false
    ·rfl
    ·have h3:=hI.stored k hk hs i hjk;rw[hunf] at h3;cases h3
  ·obtain⟨hvm,o',ho',hg,hop,hd,hvr,hrd⟩:=hst k hk;obtain rfl:o'=o:=xL2 (ho'.symm.trans ho);have lr:∀ j ∈ rd k,listed.getD (pv j) false=true:=fun j hj=>by
    obtain⟨-,e2,he2,hon2,hb2⟩:=hrd j hj;rw[←hon2];exact hall e2 he2 hb2
   have l2:=lr _ hvr;obtain⟨u,hu1,hu2⟩:=hI.val _ hvm l2;obtain⟨cs,rfl,hc1,hcC,hc2⟩:=hVs k hk w u hu2;obtain⟨old,g3,g4,g5,g6,-⟩:=hI.box k hk;have hbk:a.tmps[bx k]?=some (.pointer (some ⟨gs k,0,none⟩)):=by rw[hI.other _ (hbx k hk).2];exact(hbx k hk).1
   refine qS ho' hg hop hbk hu1 g3 (by rw[hc1];exact hi) (by omega) hc2 ?_
   rw[hd];show ParQ pv ps rd W0 a0 m n slot vs gs B T C z V _ a _
   refine⟨hI.kept.row hk (hbox k hk).1 _,hI.size,hI.defers,hI.other,fun j hj h1=>?_,fun k1 hk1=>?_,fun k1 hk1 h1 jr hjr=>?_⟩
   ·rw[hne (pv j) (dvs j k hj hk)] at h1;obtain⟨u',q1,q2⟩:=hI.val j hj h1;exact⟨u',q1,hV2 _ _ _ _ _ _ g3 g5 q2⟩
   ·by_cases e:k1=k
    ·subst e;exact⟨cs,setRow_heap w (gs k1) old cs T _ g3,hc1,hcC,fun _=>hu1,fun h2=>by rw[hset] at h2;cases h2⟩
    ·obtain⟨cs',q3,q4,q5,q6,q7⟩:=hI.box k1 hk1;have hgg:gs k1≠gs k:=fun e2=>e (hgs k1 k hk1 hk e2);refine⟨cs',(setRow_other w (gs k) (gs k1) cs hgg).trans q3,q4,q5,fun h2=>?_,fun h2=>(setRow_other w (gs k) (gs k1) cs hgg).trans (q7 (by rw[←hne (ps k1) (fun e2=>e (iss k1 k hk1 hk e2))];exact h2))⟩
     rw[hne _ (fun e2=>e (iss k1 k hk1 hk e2))] at h2;exact q6 h2
   ·by_cases e:k1=k
    ·subst e;exact getD_set_true (lr jr hjr)
    ·rw[hne _ (fun e2=>e (iss k1 k hk1 hk e2))] at h1;exact getD_set_true (hI.stored k1 hk1 h1 jr hjr)
 ·-- the end: all have come up
  intro listed a w hl hI hr;have hfull:∀ i,i<ops.size→listed.getD i false=true:=by
   intro i;induction i using Nat.strongRecOn with
   | _ i ih =>
    intro hi;cases hx:listed.getD i false with
    | true=>rfl
    | false =>
     exfalso;have ho:ops[i]?=some ops[i]:=Array.getElem?_eq_getElem hi;have:i ∈ Region.ready .any ops listed:=by
      refine mem_ready.2 ⟨?_,ops[i],ho,fun e he hbe=>ih e.on (hord i _ ho e he hbe) (Nat.lt_trans (hord i _ ho e he hbe) hi)⟩;have hil:i<listed.size:=by omega
      simp only[Array.getD_eq_getD_getElem?,Array.getElem?_eq_getElem hil,Option.getD_some] at hx ⊢;exact hx
     rw[hr] at this;cases this
  have hval:∀ j,∃ u,j<m→a.tmps[slot j]?=some u∧V j w u:=fun j=>by
   by_cases hj:j<m
   ·obtain⟨u,h1,h2⟩:=hI.val j hj (hfull (pv j) (hpv j hj));exact⟨u,fun _=>⟨h1,h2⟩⟩
   ·exact⟨undef,fun h=>absurd h hj⟩
  obtain⟨u,hu⟩:=Classical.axiomOfChoice hval;refine hQ u a w hI.kept hu (fun k hk=>?_) hI.size hI.defers hI.other;obtain⟨cs,h3,h4,h5,h6,-⟩:=hI.box k hk;have h7:=h6 (hfull _ (hps k hk));rw[(hu _ (hst k hk).1).1] at h7;exact⟨cs,xL2 h7,h3⟩
 ·-- the start
  have h0:∀ x,(Array.replicate ops.size false).getD x false=true→False:=fun x h=>by
   simp[Array.getD_eq_getD_getElem?,Array.getElem?_replicate] at h;split at h <;> simp at h
  refine⟨⟨(xL1 _ _).drew,xL0 _,fun _ _ _=>rfl⟩,rfl,rfl,fun _ _=>rfl,fun j _ h=>(h0 _ h).elim,fun k hk=>?_,fun k _ h=>(h0 _ h).elim⟩
  obtain⟨-,cs,h1,h2,h3⟩:=hbox k hk;exact⟨cs,h1,h2,h3,fun h=>(h0 _ h).elim,fun _=>rfl⟩
def qI7 (T:TypeId) (C:Array Value→Prop):List (World→Value→Prop)→Prop
 | []=>True
 | P :: r=>(∀ w u g cs cs',w.heap[g]?=some (.cells cs T (0,0))→C cs→P w u→P (w.setRow g cs') u)∧qI7 T C r
theorem zR9 {T:TypeId} {C:Array Value→Prop}:∀ {L:List (World→Value→Prop)},qI7 T C L→∀ j w u g cs cs',w.heap[g]?=some (.cells cs T (0,0))→C cs→vL L j w u→vL L j (w.setRow g cs') u
 | [],_,j=>fun w u g cs cs' _ _ h=>by simp[vL] at h
 | P :: r,hL,0=>hL.1
 | P :: r,hL,j+1=>fun w u g cs cs' h1 h2 h=>zR9 hL.2 j w u g cs cs' h1 h2 h
def qrow (PVL PSL SL:List Nat) (D rd:List (List Nat)) (vs:List Nat) (i:Nat) (o:Oper):Bool :=
 o.after.all (fun e => !(Region.binds .any e)||decide (e.on<i))&&(PVL.contains i||PSL.contains i)
def qval (ops:Array Oper) (PVL SL:List Nat) (D:List (List Nat)) (j:Nat):Bool :=
 match ops[PVL.getD j 0]? with
 | some o=>o.dst==some (SL.getD j 0)&&(dL D j).all (fun j'=>decide (j'<PVL.length)&&vhas o (PVL.getD j' 0))
 | none=>false
def qsto (ops:Array Oper) (PVL PSL:List Nat) (rd:List (List Nat)) (vs:List Nat) (k:Nat):Bool :=
 match ops[PSL.getD k 0]? with
 | some o=>o.dst==none&&o.guard.isNone&&decide (vs.getD k 0<PVL.length)&&(dL rd k).contains (vs.getD k 0)&&(dL rd k).all (fun j=>decide (j<PVL.length)&&vhas o (PVL.getD j 0))
 | none=>false
def qchk (ops:Array Oper) (PVL PSL SL:List Nat) (D rd:List (List Nat)) (vs:List Nat):Bool :=
 ((List.range ops.size).all fun i=>match ops[i]? with|some o=>qrow PVL PSL SL D rd vs i o|none=>false)&&(List.range PVL.length).all (qval ops PVL SL D)&&(List.range PSL.length).all (qsto ops PVL PSL rd vs)&&decide (PVL++PSL).Nodup&&decide SL.Nodup&&decide (SL.length=PVL.length)
theorem qY1 {l:List Nat} {j:Nat} (h:j<l.length):l.getD j 0 ∈ l:=by
 rw[List.getD_eq_getElem?_getD,List.getElem?_eq_getElem h];exact List.getElem_mem h
theorem qJ3 {l:List Nat} (hn:l.Nodup) {i j:Nat} (hi:i<l.length) (hj:j<l.length) (h:l.getD i 0=l.getD j 0):i=j:=by
 rw[List.getD_eq_getElem?_getD,List.getD_eq_getElem?_getD,List.getElem?_eq_getElem hi,List.getElem?_eq_getElem hj] at h;exact(List.getElem_inj hn).1 h
theorem qP4 {l:List Nat} {x:Nat} (h:x ∈ l):∃ j,j<l.length∧x=l.getD j 0:=by
 obtain⟨j,hj,e⟩:=List.mem_iff_getElem.1 h;exact⟨j,hj,by rw[List.getD_eq_getElem?_getD,List.getElem?_eq_getElem hj];exact e.symm⟩
theorem qE9 {P:Program} {ops:Array Oper} {Q:Exit→Act→World→Prop} {id:Nat} (hm:P.follows .mixedOrders=true) (PVL PSL SL:List Nat) (D rd:List (List Nat)) (vs:List Nat) (bx gs:Nat→Nat) (B:Nat) (T:TypeId) (C:Array Value→Prop) (z:Nat)
  (W0:World) (a0:Act) (L:List (World→Value→Prop)) (hchk:qchk ops PVL PSL SL D rd vs=true)
  (hV1:qH5 L) (hV2:qI7 T C L) (hsl:∀ s ∈ SL,s<a0.tmps.size)
  (hVs:∀ k,k<PSL.length→∀ w u,vL L (vs.getD k 0) w u→∃ cs:Array Value,u=.agg cs∧cs.size=z∧C cs∧cs.all (·.oneCell')=true)
  (hA:∀ j,j<PVL.length→∀ o,ops[PVL.getD j 0]?=some o→∀ (a:Act) (w:World),KeepB PSL.length gs B W0 w→(∀ s:Nat,SL.contains s=false→a.tmps[s]?=a0.tmps[s]?) →
   (∀ j' ∈ dL D j,∃ u,a.tmps[SL.getD j' 0]?=some u∧vL L j' w u)→(∀ k,k<PSL.length→j ∈ dL rd k→w.heap[gs k]?=W0.heap[gs k]?) →
   (o.guard=none∧o.wp P a w (fun a' w'=>∃ u,a'=a.put o.dst u∧vL L j w' u∧Bw w w') Q)∨wpOp P ops Q (PVL.getD j 0) (fun a' w'=>∃ u,a'=a.put o.dst u∧vL L j w' u∧Bw w w') a w)
  (hi:(P.info? T).map (·.size)=some z)
  (hst:∀ k,k<PSL.length→∃ o,ops[PSL.getD k 0]?=some o∧o.op=.store T (.tmp (bx k)) (.tmp (SL.getD (vs.getD k 0) 0)))
  (hbx:∀ k,k<PSL.length→a0.tmps[bx k]?=some (.pointer (some ⟨gs k,0,none⟩))∧SL.contains (bx k)=false)
  (hbox:∀ k,k<PSL.length→B≤gs k∧∃ cs,W0.heap[gs k]?=some (.cells cs T (0,0))∧cs.size=z∧C cs)
  (hgs:∀ k k',k<PSL.length→k'<PSL.length→gs k=gs k'→k=k') (hB:B≤W0.heap.size)
  (hQ:∀ (u:Nat→Value) (w:World),KeepB PSL.length gs B W0 w→(∀ j,j<PVL.length→vL L j w (u j)) →
   (∀ k,k<PSL.length→∃ cs,u (vs.getD k 0)=.agg cs∧w.heap[gs k]?=some (.cells cs T (0,0)))→Q .normal (putL a0 ((List.range PVL.length).map (fun j=>(SL.getD j 0,u j)))) w) :
  (Code.region id ops true).wp P Q a0 W0:=by
 unfold qchk at hchk;simp only[xC,decide_eq_true_eq] at hchk;obtain⟨⟨⟨⟨⟨h1,h2⟩,h3⟩,h4⟩,h5⟩,h6⟩:=hchk;obtain⟨n1,n2,n3⟩:=List.nodup_append.1 h4;have row:∀ {i o},ops[i]?=some o→qrow PVL PSL SL D rd vs i o=true:=fun {i o} ho=>by
  have:=List.all_eq_true.1 h1 i (List.mem_range.2 (Array.getElem?_eq_some_iff.1 ho).1)
  simp only[ho] at this;exact this
 have val:∀ j,j<PVL.length→∃ o,ops[PVL.getD j 0]?=some o∧o.dst=some (SL.getD j 0)∧∀ j' ∈ dL D j,j'<PVL.length∧∃ e ∈ o.after,e.on=PVL.getD j' 0∧Region.binds .any e=true:=fun j hj=>by
  have:=List.all_eq_true.1 h2 j (List.mem_range.2 hj)
  unfold qval at this;cases ho:ops[PVL.getD j 0]? with
  | none=>rw[ho] at this;cases this
  | some o =>
   rw[ho] at this;simp only[xC] at this;refine⟨o,rfl,by simpa using this.1,fun j' hj'=>?_⟩
   have:=List.all_eq_true.1 this.2 j' hj'
   rw[xC] at this;exact⟨of_decide_eq_true this.1,qN0 this.2⟩
 have sto:∀ k,k<PSL.length→∃ o,ops[PSL.getD k 0]?=some o∧o.dst=none∧o.guard=none∧vs.getD k 0<PVL.length∧vs.getD k 0 ∈ dL rd k∧∀ j ∈ dL rd k,j<PVL.length∧∃ e ∈ o.after,e.on=PVL.getD j 0∧Region.binds .any e=true:=fun k hk=>by
  have:=List.all_eq_true.1 h3 k (List.mem_range.2 hk)
  unfold qsto at this;cases ho:ops[PSL.getD k 0]? with
  | none=>rw[ho] at this;cases this
  | some o =>
   rw[ho] at this;simp only[xC] at this;obtain⟨⟨⟨⟨x1,x2⟩,x3⟩,x4⟩,x5⟩:=this;refine⟨o,rfl,by simpa using x1,Option.isNone_iff_eq_none.1 x2,of_decide_eq_true x3,by simpa using x4,fun j hj=>?_⟩
   have:=List.all_eq_true.1 x5 j hj
   rw[xC] at this;exact⟨of_decide_eq_true this.1,qN0 this.2⟩
 have hoth:∀ {s:Nat},SL.contains s=false→∀ j,j<PVL.length→s≠SL.getD j 0:=fun {s} h j hj e=>by
  have h7:=qY1 (l:=SL) (j:=j) (by omega)
  rw[←e] at h7;have:SL.contains s=true:=by simpa using h7
  rw[h] at this;cases this
 refine zY9 hm (fun j=>PVL.getD j 0) (fun k=>PSL.getD k 0) PVL.length PSL.length (fun j=>SL.getD j 0) bx (fun k=>vs.getD k 0) gs B (dL D) (dL rd) T C z W0 a0 (vL L) ?_ ?_ ?_ ?_ (fun j j' hj hj' e=>qJ3 n1 hj hj' e) (fun k k' hk hk' e=>qJ3 n2 hk hk' e) ?_ (fun j w w' u hb h=>qM2 hV1 j w w' u hb h) (fun j w u g cs cs' y1 y2 h=>zR9 hV2 j w u g cs cs' y1 y2 h) hVs ?_ ?_ hi ?_ ?_ hbox hgs hB (fun j hj=>hsl _ (qY1 (by omega))) (fun j j' hj hj' e=>qJ3 h5 (by omega) (by omega) e) ?_
 ·intro i hi';have ho:ops[i]?=some ops[i]:=Array.getElem?_eq_getElem hi';have:=row ho
  unfold qrow at this;rw[xC,Bool.or_eq_true] at this;rcases this.2 with h|h
  ·exact .inl (qP4 (by simpa using h))
  ·exact .inr (qP4 (by simpa using h))
 ·intro j hj;obtain⟨o,ho,-⟩:=val j hj;exact(Array.getElem?_eq_some_iff.1 ho).1
 ·intro k hk;obtain⟨o,ho,-⟩:=sto k hk;exact(Array.getElem?_eq_some_iff.1 ho).1
 ·intro j k hj hk;exact n3 _ (qY1 hj) _ (qY1 hk)
 ·intro i o ho e he hb;have:=row ho
  unfold qrow at this;rw[xC] at this;have h7:=Array.all_eq_true_iff_forall_mem.1 this.1 e he;rw[hb] at h7;exact of_decide_eq_true (by simpa using h7)
 ·intro j hj j' hj';obtain⟨o,ho,-,hd⟩:=val j hj;obtain⟨x1,x2⟩:=hd j' hj';refine⟨x1,fun o' ho'=>?_⟩
  obtain rfl:o=o':=xL2 (ho.symm.trans ho');exact x2
 ·intro j hj a w hk ho1 hd hrd;obtain⟨o,ho,hds,-⟩:=val j hj;have h7:=hA j hj o ho a w hk (fun s hs=>ho1 s (hoth hs)) hd hrd;rw[hds] at h7;rcases h7 with ⟨hg,h7⟩|h7
  ·exact qY8 ho hg h7
  ·exact h7
 ·intro k hk;obtain⟨o,ho,hop⟩:=hst k hk;obtain⟨o',ho',x1,x2,x3,x4,x5⟩:=sto k hk;obtain rfl:o'=o:=xL2 (ho'.symm.trans ho);exact⟨x3,o',ho,x2,hop,x1,x4,x5⟩
 ·intro k hk;exact⟨(hbx k hk).1,hoth (hbx k hk).2⟩
 ·intro u a w hk hu hcs hs hd ho1;have q1:((List.range PVL.length).map (fun j=>((SL.getD j 0,u j):Tmp×Value))).map (fun p:Tmp×Value=>p.1)=(List.range PVL.length).map (fun j=>SL.getD j 0):=by simp[Function.comp_def]
  have ha:=qT0 (a:=a) (a0:=a0) (l:=(List.range PVL.length).map (fun j=>((SL.getD j 0,u j):Tmp×Value))) (by
    rw[q1];refine List.pairwise_map.2 ((List.nodup_range (n:=PVL.length)).imp_of_mem ?_);intro x y hx hy hne he;have:=List.mem_range.1 hx
    have:=List.mem_range.1 hy
    exact hne (qJ3 h5 (by omega) (by omega) he)) hs hd (by
    intro p hp;obtain⟨i,hi,rfl⟩:=List.mem_map.1 hp;exact(hu i (List.mem_range.1 hi)).1) (fun s hsn=>ho1 s (fun i hi he=>hsn (List.mem_map.2 ⟨_,List.mem_map.2 ⟨i,List.mem_range.2 hi,rfl⟩,he.symm⟩)))
  rw[ha];exact hQ u w hk (fun j hj=>(hu j hj).2) hcs
theorem qH7 {P:Program} {ops:Array Oper} {Q:Exit→Act→World→Prop} {i:Nat} {o og:Oper} {K:Act→World→Prop} {a:Act} {w:World} {j:Nat} {s:Tmp} {b b':Bool}
  (ho:ops[i]?=some o) (hg:o.guard=some (j,b)) (hog:ops[j]?=some og) (hd:og.dst=some s) (hs:a.tmps[s]?=some (.bool b')) (hb:b'≠b) (h:K (a.put o.dst undef) w):wpOp P ops Q i K a w:=by
 unfold wpOp;simp only[ho];rw[if_neg (by simp[Region.wanted,hg,yielded,hog,hd,hs,hb])]
 exact h
theorem qH6 {P:Program} {ops:Array Oper} {Q:Exit→Act→World→Prop} {i:Nat} {o og:Oper} {K:Act→World→Prop} {a:Act} {w:World} {j:Nat} {s:Tmp} {b:Bool}
  (ho:ops[i]?=some o) (hg:o.guard=some (j,b)) (hog:ops[j]?=some og) (hd:og.dst=some s) (hs:a.tmps[s]?=some (.bool b)) (h:o.wp P a w K Q):wpOp P ops Q i K a w:=by
 unfold wpOp;simp only[ho];rw[if_pos (by simp[Region.wanted,hg,yielded,hog,hd,hs])]
 exact .inl h
def qI6 (T:TypeId) (zs:Array Value):List (World→Value→Prop)→Prop
 | []=>True
 | P :: r=>(∀ w u g cs',w.heap[g]?=some (.cells zs T (0,0))→P w u→P (w.setRow g cs') u)∧qI6 T zs r
theorem zG1 {T:TypeId} {zs:Array Value}:∀ {L:List (World→Value→Prop)},qI6 T zs L→∀ j w u g cs',w.heap[g]?=some (.cells zs T (0,0))→vL L j w u→vL L j (w.setRow g cs') u
 | [],_,j=>fun w u g cs' _ h=>by simp[vL] at h
 | P :: r,hL,0=>hL.1
 | P :: r,hL,j+1=>fun w u g cs' h1 h=>zG1 hL.2 j w u g cs' h1 h
end Go.Proofs.YtbanebginnakhaaGreatDoor
