/- Own work: contracts of the program's functions, part 12: DD0 DCD DCE DCF DCG DCH DCI DCJ DCK DCL DCM DCN DIA DCV DCO. -/
import Derived.Test.YtfkaogdmlcdceaaGreatDoorA10
import Derived.Test.YtfkaogdmlcdceaaGreatDoorA8
import Derived.Test.YtfkaogdmlcdceaaGreatDoorA11
import Derived.BigQuiet
import Derived.Lib.Bytealg
import Derived.Laws.RangeAny
import Derived.Laws.Runes
import Derived.WalkMore
import Derived.Lib.OthersKept

set_option maxHeartbeats 16000000
set_option maxRecDepth 200000
set_option linter.unusedVariables false
set_option linter.unusedSimpArgs false
namespace Go.Proofs.YtfkaogdmlcdceaaGreatDoor
open Go Go.RowKit Go.Fl64
def IxD:Prop:=∀ (s:ByteArray) (w:World),
  Calls Tryz.prog 232 #[.string s,.string ⟨#[46]⟩] w fun e w'=>e=.returned (.int .i64 (Lib.indexByte s.data.toList 46))∧w'=w
theorem lcutD_1 (ki:IxD) (s:ByteArray) (w:World) (hs:s.size≤1099511627776) (i:Nat) (hi:Lib.indexByte s.data.toList 46=(i:Int)) (hi2:i<s.size) :
  Calls Tryz.prog 174 #[.string s,.string ⟨#[46]⟩] w fun r w'=>r=.returned (.tuple #[.string (s.extract 0 i),.string (s.extract (i+1) s.size),.bool true])∧Bw w w':=by
 have k:=ki s
 clear ki
 rw[hi] at k
 have q0:(i:Int) ≥ 0:=by omega
 clear hi
 go_enter Tryz.func174,Tryz.ntmps174
 go_wp2_with (first|(go_at_call 232;refine(k _).mono ?_;rintro e w' ⟨rfl,hw'⟩;replace hw':=hw'.symm;subst hw')|fail)
 have q1:(0:Int)≤i∧(i:Int)≤(s.size:Int):=by omega
 have q2:(0:Int)≤(i:Int)+1∧(i:Int)+1≤(s.size:Int):=by omega
 have q3:((i:Int)+1).toNat=i+1:=by omega
 go_quiet (fail)
 have HB:Hid (Below w.heap.size w (w.drewN nq)):=bdrewN (Below.refl _ _) nq
 generalize w.drewN nq=wd at *
 go_wp2_with fail
 refine bodyPost_ret (results_tmp3 rfl _ _ _) rfl ?_
 exact⟨rfl,HB.out⟩
theorem lcutD_2 (ki:IxD) (s:ByteArray) (w:World) (hi:Lib.indexByte s.data.toList 46 = -1) :
  Calls Tryz.prog 174 #[.string s,.string ⟨#[46]⟩] w fun r w'=>r=.returned (.tuple #[.string s,.string ⟨#[]⟩,.bool false])∧Bw w w':=by
 have k:=ki s
 clear ki
 rw[hi] at k
 clear hi
 go_enter Tryz.func174,Tryz.ntmps174
 go_wp2_with (first|(go_at_call 232;refine(k _).mono ?_;rintro e w' ⟨rfl,hw'⟩;replace hw':=hw'.symm;subst hw')|fail)
 refine bodyPost_ret (results_tmp3 rfl _ _ _) rfl ?_
 exact⟨rfl,Below.refl _ _⟩
def cutAD (s:ByteArray):ByteArray:=if Lib.indexByte s.data.toList 46<0 then s else s.extract 0 (Lib.indexByte s.data.toList 46).toNat
def cutBD (s:ByteArray):ByteArray:=if Lib.indexByte s.data.toList 46<0 then⟨#[]⟩else s.extract ((Lib.indexByte s.data.toList 46).toNat+1) s.size
theorem ixbD (l:List UInt8) (c:UInt8):Lib.indexByte l c = -1∨∃ i:Nat,Lib.indexByte l c=(i:Int)∧i<l.length:=by
 induction l with
 | nil=>left;rfl
 | cons b l ih =>
  unfold Lib.indexByte
  by_cases h1:(b==c)=true
  ·rw[if_pos h1];right;exact⟨0,rfl,by simp⟩
  ·rw[if_neg h1]
   rcases ih with h2|⟨i,h2,h3⟩
   ·left;rw[h2];rfl
   ·right
    refine⟨i+1,?_,by rw[List.length_cons];omega⟩
    rw[h2,if_neg (by rw[beq_iff_eq];omega)]
    omega
theorem lcutD (ki:IxD) (s:ByteArray) (w:World) (hs:s.size≤1099511627776) :
  Calls Tryz.prog 174 #[.string s,.string ⟨#[46]⟩] w fun r w'=>∃ b,r=.returned (.tuple #[.string (cutAD s),.string (cutBD s),.bool b])∧Bw w w':=by
 rcases ixbD s.data.toList 46 with h|⟨i,h,h2⟩
 ·refine(lcutD_2 ki s w h).mono ?_
  rintro r w' ⟨rfl,hb⟩
  refine⟨false,?_,hb⟩
  unfold cutAD cutBD
  rw[h,if_pos (by decide),if_pos (by decide)]
 ·have h3:s.data.toList.length=s.size:=by rw[Array.length_toList];rfl
  refine(lcutD_1 ki s w hs i h (by omega)).mono ?_
  rintro r w' ⟨rfl,hb⟩
  refine⟨true,?_,hb⟩
  unfold cutAD cutBD
  rw[h,if_neg (by omega),if_neg (by omega),Int.toNat_natCast]
theorem scutD (ki:IxD) (s:ByteArray) (w:World) (hs:s.size≤1099511627776) :
  Calls Tryz.prog 119 #[.string s,.string ⟨#[46]⟩] w fun r w'=>∃ b,r=.returned (.tuple #[.string (cutAD s),.string (cutBD s),.bool b])∧Bw w w':=by
 have k:=lcutD ki s w hs
 clear ki
 generalize cutAD s=A at *
 generalize cutBD s=C at *
 go_enter Tryz.func119,Tryz.ntmps119
 go_wp2_with fail
 refine k.mono ?_
 rintro r w1 ⟨b,rfl,hb⟩
 have HB:Hid (Bw w w1):=hb
 clear k hb
 go_wp2_with fail
 refine bodyPost_ret (results_tmp3 rfl _ _ _) rfl ?_
 exact⟨_,rfl,HB.out⟩
def cuA (L:List UInt8):List UInt8:=if Lib.indexByte L 46<0 then L else L.take (Lib.indexByte L 46).toNat
def cuB (L:List UInt8):List UInt8:=if Lib.indexByte L 46<0 then [] else L.drop ((Lib.indexByte L 46).toNat+1)
theorem cu_len (L:List UInt8):(cuA L).length+(cuB L).length≤L.length:=by
 unfold cuA cuB
 split
 ·simp
 ·rw[List.length_take,List.length_drop];omega
theorem Dcut (L:List UInt8) (w:World) (hs:L.length≤1099511627776) :
  Calls Tryz.prog 119 #[.string ⟨L.toArray⟩,.string ⟨#[46]⟩] w fun r w'=>∃ b,r=.returned (.tuple #[.string ⟨(cuA L).toArray⟩,.string ⟨(cuB L).toArray⟩,.bool b])∧Bw w w':=by
 have k:=scutD (fun s w=>Tryz.stringslite_Index_one s 46 w) ⟨L.toArray⟩ w hs
 have e1:cutAD ⟨L.toArray⟩=⟨(cuA L).toArray⟩:=by
  unfold cutAD cuA
  show(if Lib.indexByte L 46<0 then _ else _)=_
  split
  ·rfl
  ·exact ext_take L _
 have e2:cutBD ⟨L.toArray⟩=⟨(cuB L).toArray⟩:=by
  unfold cutBD cuB
  show(if Lib.indexByte L 46<0 then _ else _)=_
  split
  ·rfl
  ·exact ext_drop L _
 rw[e1,e2] at k
 exact k
end Go.Proofs.YtfkaogdmlcdceaaGreatDoor
namespace Go.Proofs.YtfkaogdmlcdceaaGreatDoor
open Go.RowKit Go.Fl64
def exL (d t:List UInt8):List UInt8:=d.take 1++(if 1<d.length then 46 :: d.drop 1 else [])++101 :: t
theorem Dexpon_1 (d t:List UInt8) (x:Int) (w:World) (hd0:0<d.length) (hd:d.length≤20000) (ht:Hid (t.length≤100))
  (kI:Hid (∀ W,Bw w W→Calls Tryz.prog 79 #[.int .i64 x] W fun r w'=>r=.returned (.string ⟨t.toArray⟩)∧Bw W w')) :
  Calls Tryz.prog 25 #[.string ⟨d.toArray⟩,.int .i64 x] w fun r w'=>r=.returned (.string ⟨(exL d t).toArray⟩)∧Bw w w':=by
 have hsz:(⟨d.toArray⟩:ByteArray).size=d.length:=rfl
 have h1:(1:Int)≤(d.length:Int):=by omega
 obtain⟨A,hA⟩:∃ A:List UInt8,A=d.take 1++(if 1<d.length then 46 :: d.drop 1 else []):=⟨_,rfl⟩
 have hAl:A.length≤20001:=by
  rw[hA,List.length_append,List.length_take]
  split
  ·rw[List.length_cons,List.length_drop];omega
  ·simp;omega
 have HA:Hid (A=d.take 1++(if 1<d.length then 46 :: d.drop 1 else [])):=hA
 have kk:=kI.out w (Below.refl _ _)
 have hc3:(⟨A.toArray⟩:ByteArray).size+(⟨#[101]⟩:ByteArray).size≤9223372036854775807:=by
  rw[bsz,show(⟨#[101]⟩:ByteArray).size=1 from rfl];omega
 have eC:(⟨A.toArray⟩:ByteArray)++⟨#[101]⟩=⟨(A ++ [101]).toArray⟩:=bytes_cat A [101]
 have hc4:(⟨(A ++ [101]).toArray⟩:ByteArray).size+(⟨t.toArray⟩:ByteArray).size≤9223372036854775807:=by
  rw[bsz,bsz,List.length_append];have:=ht.out;simp;omega
 have et:=ext_take d 1
 have ed:=ext_drop d 1
 have fin:(⟨(A ++ [101]).toArray⟩:ByteArray)++⟨t.toArray⟩=⟨(exL d t).toArray⟩:=by
  rw[bytes_cat,List.append_assoc]
  unfold exL
  rw[←HA.out]
  rfl
 by_cases hl:1<d.length
 ·have hl':(1:Int)<(d.length:Int):=by omega
  rw[List.drop_one] at ed
  have hc1:(⟨#[46]⟩:ByteArray).size+(⟨d.tail.toArray⟩:ByteArray).size≤9223372036854775807:=by
   rw[show(⟨#[46]⟩:ByteArray).size=1 from rfl,bsz,List.length_tail];omega
  have e1:(⟨#[46]⟩:ByteArray)++⟨d.tail.toArray⟩=⟨(46 :: d.tail).toArray⟩:=bytes_cat [46] d.tail
  have hc2:(⟨(d.take 1).toArray⟩:ByteArray).size+(⟨(46 :: d.tail).toArray⟩:ByteArray).size≤9223372036854775807:=by
   rw[bsz,bsz,List.length_cons,List.length_take,List.length_tail];omega
  have e2:(⟨(d.take 1).toArray⟩:ByteArray)++⟨(46 :: d.tail).toArray⟩=⟨A.toArray⟩:=by rw[bytes_cat,hA,if_pos hl,List.drop_one]
  clear hA hAl hl
  go_enter Tryz.func25,Tryz.ntmps25
  go_wp2_with fail
  refine kk.mono ?_
  rintro r w1 ⟨rfl,hb1⟩
  have HB:Hid (Bw w w1):=hb1
  clear kk hb1
  go_wp2
  go_ret
  exact⟨rfl,HB.out⟩
 ·have hl':¬ (1:Int)<(d.length:Int):=by omega
  have e2:d.take 1=A:=by rw[hA,if_neg hl,List.append_nil]
  rw[e2] at et
  clear hA hAl hl ed
  go_enter Tryz.func25,Tryz.ntmps25
  go_wp2_with fail
  refine kk.mono ?_
  rintro r w1 ⟨rfl,hb1⟩
  have HB:Hid (Bw w w1):=hb1
  clear kk hb1
  go_wp2
  go_ret
  exact⟨rfl,HB.out⟩
def sgL (s:Bool) (t:List UInt8):List UInt8:=if s then 45 :: t else t
theorem Dtold_nan (f:Nat) (b:Bool) (V:Value) (w:World)
  (kC:∀ w,Calls Tryz.prog 74 #[.float .f64 f] w fun e w'=>e=.returned (.tuple #[.int .i64 1,.bool b])∧w'=w) :
  Calls Tryz.prog 22 #[.float .f64 f,V] w fun r w'=>r=.returned (.string ⟨#[110,97,110]⟩)∧w'=w:=by
 go_enter Tryz.func22,Tryz.ntmps22
 go_wp2_with (first|(go_at_call 74;refine(kC _).mono ?_;rintro e w' ⟨rfl,rfl⟩))
 go_ret
 exact⟨rfl,rfl⟩
theorem Dtold_inf (f:Nat) (b:Bool) (V:Value) (w:World)
  (kC:∀ w,Calls Tryz.prog 74 #[.float .f64 f] w fun e w'=>e=.returned (.tuple #[.int .i64 2,.bool b])∧w'=w) :
  Calls Tryz.prog 22 #[.float .f64 f,V] w fun r w'=>r=.returned (.string ⟨(sgL b [105,110,102]).toArray⟩)∧w'=w:=by
 have e1:(⟨#[45]⟩:ByteArray)++⟨#[105,110,102]⟩=⟨#[45,105,110,102]⟩:=bytes_cat [45] [105,110,102]
 have h1:(⟨#[45]⟩:ByteArray).size+(⟨#[105,110,102]⟩:ByteArray).size≤9223372036854775807:=by
  rw[show(⟨#[45]⟩:ByteArray).size=1 from rfl,show(⟨#[105,110,102]⟩:ByteArray).size=3 from rfl];omega
 cases b
 ·go_enter Tryz.func22,Tryz.ntmps22
  go_wp2_with (first|(go_at_call 74;refine(kC _).mono ?_;rintro e w' ⟨rfl,rfl⟩))
  go_ret
  exact⟨rfl,rfl⟩
 ·go_enter Tryz.func22,Tryz.ntmps22
  go_wp2_with (first|(go_at_call 74;refine(kC _).mono ?_;rintro e w' ⟨rfl,rfl⟩))
  go_ret
  exact⟨rfl,rfl⟩
theorem Dtold_fin (f gf:Nat) (c:Int) (b:Bool) (lb:Array Value) (t:List UInt8) (w:World) (hc:¬ c=1) (hc2:¬ c=2) (ht:t.length≤20000)
  (kC:∀ w,Calls Tryz.prog 74 #[.float .f64 f] w fun e w'=>e=.returned (.tuple #[.int .i64 c,.bool b])∧w'=w)
  (eg:∀ args w,(callFunc gf args).run Tryz.prog w=.ok (.enter gf args) w)
  (kT:Calls Tryz.prog gf lb w fun r w'=>r=.returned (.string ⟨t.toArray⟩)∧Bw w w') :
  Calls Tryz.prog 22 #[.float .f64 f,.func (.func gf) #[] lb] w fun r w'=>r=.returned (.string ⟨(sgL b t).toArray⟩)∧Bw w w':=by
 have e1:(⟨#[45]⟩:ByteArray)++⟨t.toArray⟩=⟨(45 :: t).toArray⟩:=bytes_cat [45] t
 have h1:(⟨#[45]⟩:ByteArray).size+(⟨t.toArray⟩:ByteArray).size≤9223372036854775807:=by
  rw[show(⟨#[45]⟩:ByteArray).size=1 from rfl,bsz];omega
 cases b
 ·go_enter Tryz.func22,Tryz.ntmps22
  go_wp2_with (first|(go_at_call 74;refine(kC _).mono ?_;rintro e w' ⟨rfl,rfl⟩))
  refine kT.mono ?_
  rintro r w1 ⟨rfl,hb1⟩
  have HB:Hid (Below _ _ w1):=hb1
  clear kT hb1
  go_wp2
  go_ret
  exact⟨rfl,HB.out⟩
 ·go_enter Tryz.func22,Tryz.ntmps22
  go_wp2_with (first|(go_at_call 74;refine(kC _).mono ?_;rintro e w' ⟨rfl,rfl⟩))
  refine kT.mono ?_
  rintro r w1 ⟨rfl,hb1⟩
  have HB:Hid (Below _ _ w1):=hb1
  clear kT hb1
  go_wp2
  go_ret
  exact⟨rfl,HB.out⟩
theorem cell_blk {w V:World} {g:Nat} {v:Value} {T:TypeId} (h:w.heap[g]?=some (.cells #[v] T (0,0))) (hb:Bw w V):V.cell? ⟨g,0,none⟩=some (v):=by
 have h2:=box_later h hb (lt_of_box h)
 simp[World.cell?,h2]
theorem owp_ldJ {Q:Exit→Act→World→Prop} {o:Oper} {K:Act→World→Prop} {a:Act} {w:World} {s:Tmp} {g f:Nat} {x:Int} (hop:o.op=.load 3 (.tmp s)) (hs:a.tmps[s]?=some (.pointer (some ⟨g,f,none⟩))) (hc:w.cell? ⟨g,f,none⟩=some (.int .i64 x)) (h:K (a.put o.dst (.int .i64 x)) w):o.wp Tryz.prog a w K Q :=
 owp_run1 (w':=w) (by simp[execOp,hop,Act.eval,hs,hc,go_sem]) h
theorem map3t {a:Act} {s t r:Tmp} {v u c:Value} (h:a.tmps[s]?=some v) (h':a.tmps[t]?=some u) (h2:a.tmps[r]?=some c) : #[Operand.tmp s,Operand.tmp t,Operand.tmp r].map a.eval = #[v,u,c]:=by simp[eval_get h,eval_get h',eval_get h2]
theorem DFixed1_1 (f:Nat) (p m:Int) (tr:Bool×Nat×Int) (d t:List UInt8) (g1 g2 g3:Nat) (w:World)
  (h1:w.heap[g1]?=some (.cells #[.float .f64 f] 22 (0,0))) (h2:w.heap[g2]?=some (.cells #[.int .i64 p] 3 (0,0))) (h3:w.heap[g3]?=some (.cells #[.int .i64 m] 3 (0,0)))
  (k1:Hid (∀ W,Bw w W→Calls Tryz.prog 34 #[.float .f64 f,.int .i64 p,.int .i64 m] W fun r w'=>OutA W tr r w'))
  (k2:Hid (∀ W X,Bw w W→PN W X tr→Calls Tryz.prog 33 #[X] W fun r w'=>r=.returned (.string ⟨d.toArray⟩)∧Bw W w'))
  (k3:Hid (∀ W,Bw w W→Calls Tryz.prog 26 #[.string ⟨d.toArray⟩,.int .i64 p] W fun r w'=>r=.returned (.string ⟨t.toArray⟩)∧Bw W w')) :
  Calls Tryz.prog 115 #[.pointer (some ⟨g1,0,none⟩),.pointer (some ⟨g2,0,none⟩),.pointer (some ⟨g3,0,none⟩)] w fun r w'=>r=.returned (.string ⟨t.toArray⟩)∧Bw w w':=by
 have H0:Hid (w.heap[g1]?=some (.cells #[.float .f64 f] 22 (0,0))∧w.heap[g2]?=some (.cells #[.int .i64 p] 3 (0,0))∧w.heap[g3]?=some (.cells #[.int .i64 m] 3 (0,0))):=⟨h1,h2,h3⟩
 clear h1 h2 h3
 go_enter Tryz.func115,Tryz.ntmps115
 go_upto_region 1 with fail
 refine r_region [0,1,2,3,4,5,6,7] [4,5,6,7,8,9,10,3] [[],[],[],[0,1,2],[3],[],[4,5],[6]] w _ [isV (.float .f64 f),isV (.int .i64 p),isV (.int .i64 m),isP tr,isV (.string ⟨d.toArray⟩),isV (.int .i64 p),isV (.string ⟨t.toArray⟩),isV (.string ⟨t.toArray⟩)] (by kernel_rfl) ⟨isV_stays _,isV_stays _,isV_stays _,isP_stays _,isV_stays _,isV_stays _,isV_stays _,isV_stays _,trivial⟩ (by show ∀ s ∈ [4,5,6,7,8,9,10,3],s<11;decide) ?_ ?_
 ·intro j hj o ho act U hb hoth hdep
  have hj':j<8:=hj
  have t0':act.tmps[(0:Nat)]?=some (Value.pointer (some ⟨g1,0,none⟩)):=(hoth 0 (by decide)).trans rfl
  have t1':act.tmps[(1:Nat)]?=some (Value.pointer (some ⟨g2,0,none⟩)):=(hoth 1 (by decide)).trans rfl
  have t2':act.tmps[(2:Nat)]?=some (Value.pointer (some ⟨g3,0,none⟩)):=(hoth 2 (by decide)).trans rfl
  have d0:=cell_blk H0.out.1 hb
  have d1:=cell_blk H0.out.2.1 hb
  have d2:=cell_blk H0.out.2.2 hb
  rcases(by omega:j=0∨j=1∨j=2∨j=3∨j=4∨j=5∨j=6∨j=7)with rfl|rfl|rfl|rfl|rfl|rfl|rfl|rfl
  ·obtain rfl:=Option.some.inj ho
   exact .inl ⟨rfl,owp_ldF rfl t0' d0 ⟨_,rfl,rfl,Below.refl _ _⟩⟩
  ·obtain rfl:=Option.some.inj ho
   exact .inl ⟨rfl,owp_ldJ rfl t1' d1 ⟨_,rfl,rfl,Below.refl _ _⟩⟩
  ·obtain rfl:=Option.some.inj ho
   exact .inl ⟨rfl,owp_ldJ rfl t2' d2 ⟨_,rfl,rfl,Below.refl _ _⟩⟩
  ·obtain rfl:=Option.some.inj ho
   have y0:act.tmps[(4:Nat)]?=_:=dV (hdep 0 (by simp[dL])) rfl
   have y1:act.tmps[(5:Nat)]?=_:=dV (hdep 1 (by simp[dL])) rfl
   have y2:act.tmps[(6:Nat)]?=_:=dV (hdep 2 (by simp[dL])) rfl
   refine .inl ⟨rfl,owp_call rfl (enters Tryz.func34 (by kernel_rfl) (by kernel_rfl)) (map3t y0 y1 y2) ?_⟩
   refine(k1.out U hb).mono ?_
   rintro r w' ⟨_,_,_,_,_,rfl,hA,hb'⟩
   exact⟨_,rfl,_,rfl,hA,hb'⟩
  ·obtain rfl:=Option.some.inj ho
   obtain⟨u3,y3,v3⟩:=hdep 3 (by simp[dL])
   have y3':act.tmps[(7:Nat)]?=_:=y3
   refine .inl ⟨rfl,owp_call rfl (enters Tryz.func33 (by kernel_rfl) (by kernel_rfl)) (map1t8 y3') ?_⟩
   refine(k2.out U _ hb v3).mono ?_
   rintro r w' ⟨rfl,hb'⟩
   exact⟨_,rfl,_,rfl,rfl,hb'⟩
  ·obtain rfl:=Option.some.inj ho
   exact .inl ⟨rfl,owp_ldJ rfl t1' d1 ⟨_,rfl,rfl,Below.refl _ _⟩⟩
  ·obtain rfl:=Option.some.inj ho
   have y4:act.tmps[(8:Nat)]?=_:=dV (hdep 4 (by simp[dL])) rfl
   have y5:act.tmps[(9:Nat)]?=_:=dV (hdep 5 (by simp[dL])) rfl
   refine .inl ⟨rfl,owp_call rfl (enters Tryz.func26 (by kernel_rfl) (by kernel_rfl)) (map2 y4 y5) ?_⟩
   refine(k3.out U hb).mono ?_
   rintro r w' ⟨rfl,hb'⟩
   exact⟨_,rfl,_,rfl,rfl,hb'⟩
  ·obtain rfl:=Option.some.inj ho
   have y6:act.tmps[(10:Nat)]?=_:=dV (hdep 6 (by simp[dL])) rfl
   exact .inl ⟨rfl,owp_assign rfl y6 ⟨_,rfl,rfl,Below.refl _ _⟩⟩
 ·intro u W5 hb5 hu
  have u7:u 7=.string ⟨t.toArray⟩:=hu 7 (by show 7<8;decide)
  have HB:Hid (Bw w W5):=hb5
  clear hu hb5 k1 k2 k3 H0
  simp only[putL,show List.range 8 = [0,1,2,3,4,5,6,7] from rfl,show List.range 8 = [0,1,2,3,4,5,6,7] from rfl,List.length_cons,List.length_nil,List.getD_cons_zero,List.getD_cons_succ,List.map_cons,List.map_nil,List.cons_append,List.nil_append,List.foldl_cons,List.foldl_nil,Nat.reduceLT,Nat.reduceMod,Nat.reduceDiv,Nat.reduceMul,Nat.reduceAdd,Nat.reduceEqDiff,reduceIte,Nat.one_ne_zero,Act.put,List.setIfInBounds_toArray,List.set_cons_zero,List.set_cons_succ]
  rw[u7]
  clear u7
  go_wp2
  go_ret
  exact⟨rfl,HB.out⟩
theorem DFixed_no (f:Nat) (p m:Int) (b:Bool) (w:World)
  (k1:∀ W,Calls Tryz.prog 51 #[.int .i64 m] W fun r w'=>r=.returned (.bool b)∧w'=W) (hno:b=false∨p<0∨1100<p) :
  Calls Tryz.prog 50 #[.float .f64 f,.int .i64 p,.int .i64 m] w fun r w'=>r=.returned (.tuple #[.string ⟨#[]⟩,.int .i64 1])∧Bw w w':=by
 obtain⟨W,hW⟩:∃ W,W=((w.alloc (.cells #[.float .f64 f] 22)).alloc (.cells #[.int .i64 p] 3)).alloc (.cells #[.int .i64 m] 3):=⟨_,rfl⟩
 obtain⟨m1,m2,m3,m4⟩:=three_new _ _ _ hW
 have c1:=cell_blk m1 (Below.refl _ _)
 have c2:=cell_blk m2 (Below.refl _ _)
 have c3:=cell_blk m3 (Below.refl _ _)
 have HB:Hid (Bw w W):=m4
 clear m1 m2 m3 m4
 cases b
 ·clear hno
  go_enter Tryz.func50,Tryz.ntmps50
  go_upto_region 1 with fail
  rw[←hW]
  clear hW
  go_wp2_with (first|(go_at_call 51;refine(k1 _).mono ?_;rintro e w' ⟨rfl,rfl⟩))
  refine bodyPost_ret (results_tmp2 rfl _ _ _) rfl ?_
  exact⟨rfl,HB.out⟩
 ·rcases(by simpa using hno:p<0∨1100<p)with h|h
  ·clear hno
   go_enter Tryz.func50,Tryz.ntmps50
   go_upto_region 1 with fail
   rw[←hW]
   clear hW
   go_wp2_with (first|(go_at_call 51;refine(k1 _).mono ?_;rintro e w' ⟨rfl,rfl⟩))
   refine bodyPost_ret (results_tmp2 rfl _ _ _) rfl ?_
   exact⟨rfl,HB.out⟩
  ·have h0:¬ p<0:=by omega
   clear hno
   go_enter Tryz.func50,Tryz.ntmps50
   go_upto_region 1 with fail
   rw[←hW]
   clear hW
   go_wp2_with (first|(go_at_call 51;refine(k1 _).mono ?_;rintro e w' ⟨rfl,rfl⟩))
   refine bodyPost_ret (results_tmp2 rfl _ _ _) rfl ?_
   exact⟨rfl,HB.out⟩
theorem DFixed_1 (f:Nat) (p m:Int) (t:List UInt8) (w:World) (h0:¬ p<0) (h1:¬ 1100<p)
  (k1:∀ W,Calls Tryz.prog 51 #[.int .i64 m] W fun r w'=>r=.returned (.bool true)∧w'=W)
  (kT:Hid (∀ W g1 g2 g3,Bw w W→W.heap[g1]?=some (.cells #[.float .f64 f] 22 (0,0))→W.heap[g2]?=some (.cells #[.int .i64 p] 3 (0,0))→W.heap[g3]?=some (.cells #[.int .i64 m] 3 (0,0)) →
   Calls Tryz.prog 22 #[.float .f64 f,.func (.func 115) #[] #[.pointer (some ⟨g1,0,none⟩),.pointer (some ⟨g2,0,none⟩),.pointer (some ⟨g3,0,none⟩)]] W fun r w'=>r=.returned (.string ⟨t.toArray⟩)∧Bw W w')) :
  Calls Tryz.prog 50 #[.float .f64 f,.int .i64 p,.int .i64 m] w fun r w'=>r=.returned (.tuple #[.string ⟨t.toArray⟩,.int .i64 0])∧Bw w w':=by
 obtain⟨W,hW⟩:∃ W,W=((w.alloc (.cells #[.float .f64 f] 22)).alloc (.cells #[.int .i64 p] 3)).alloc (.cells #[.int .i64 m] 3):=⟨_,rfl⟩
 obtain⟨m1,m2,m3,m4⟩:=three_new _ _ _ hW
 have c1:=cell_blk m1 (Below.refl _ _)
 have c2:=cell_blk m2 (Below.refl _ _)
 have c3:=cell_blk m3 (Below.refl _ _)
 have HB:Hid (Bw w W):=m4
 have kk:=kT.out W _ _ _ m4 m1 m2 m3
 clear m1 m2 m3 m4 kT
 go_enter Tryz.func50,Tryz.ntmps50
 go_upto_region 1 with fail
 rw[←hW]
 clear hW
 go_wp2_with (first|(go_at_call 51;refine(k1 _).mono ?_;rintro e w' ⟨rfl,rfl⟩)|(go_at_call 22;refine kk.mono ?_;rintro r w1 ⟨rfl,hb1⟩))
 refine bodyPost_ret (results_tmp2 rfl _ _ _) rfl ?_
 exact⟨rfl,HB.out.trans (hb1.mono HB.out.size)⟩
theorem run_fieldE (s:Bool) (ao:Option Addr) (n cp:Nat) (e:Int) (w:World):(Instr.field 50 (.agg #[.bool s,.slice ao n cp,.int .i64 e]) 2).run Tryz.prog w=.ok (.int .i64 e) w:=by kernel_rfl
attribute [local go_sem] run_fieldE
theorem DExact_1 (f:Nat) (t:List UInt8) (w:World)
  (kT:Hid (∀ W g1,Bw w W→W.heap[g1]?=some (.cells #[.float .f64 f] 22 (0,0)) →
   Calls Tryz.prog 22 #[.float .f64 f,.func (.func 31) #[] #[.pointer (some ⟨g1,0,none⟩)]] W fun r w'=>r=.returned (.string ⟨t.toArray⟩)∧Bw W w')) :
  Calls Tryz.prog 9 #[.float .f64 f] w fun r w'=>r=.returned (.string ⟨t.toArray⟩)∧Bw w w':=by
 obtain⟨W,hW⟩:∃ W,W=w.alloc (.cells #[.float .f64 f] 22):=⟨_,rfl⟩
 have m1:W.heap[w.heap.size]?=some (.cells #[.float .f64 f] 22 (0,0)):=by rw[hW];exact heap_alloc_new _ _
 have m4:Bw w W:=by rw[hW];exact(Below.refl _ _).alloc (Nat.le_refl _) _
 have c1:=cell_blk m1 (Below.refl _ _)
 have HB:Hid (Bw w W):=m4
 have kk:=kT.out W _ m4 m1
 clear m1 m4 kT
 go_enter Tryz.func9,Tryz.ntmps9
 go_upto_region 1 with fail
 rw[←hW]
 clear hW
 go_wp2_with (first|(go_at_call 22;refine kk.mono ?_;rintro r w1 ⟨rfl,hb1⟩))
 go_ret
 exact⟨rfl,HB.out.trans (hb1.mono HB.out.size)⟩
theorem DHex_1 (f:Nat) (t:List UInt8) (w:World)
  (kT:Hid (∀ W g1,Bw w W→W.heap[g1]?=some (.cells #[.float .f64 f] 22 (0,0)) →
   Calls Tryz.prog 22 #[.float .f64 f,.func (.func 41) #[] #[.pointer (some ⟨g1,0,none⟩)]] W fun r w'=>r=.returned (.string ⟨t.toArray⟩)∧Bw W w')) :
  Calls Tryz.prog 11 #[.float .f64 f] w fun r w'=>r=.returned (.string ⟨t.toArray⟩)∧Bw w w':=by
 obtain⟨W,hW⟩:∃ W,W=w.alloc (.cells #[.float .f64 f] 22):=⟨_,rfl⟩
 have m1:W.heap[w.heap.size]?=some (.cells #[.float .f64 f] 22 (0,0)):=by rw[hW];exact heap_alloc_new _ _
 have m4:Bw w W:=by rw[hW];exact(Below.refl _ _).alloc (Nat.le_refl _) _
 have c1:=cell_blk m1 (Below.refl _ _)
 have HB:Hid (Bw w W):=m4
 have kk:=kT.out W _ m4 m1
 clear m1 m4 kT
 go_enter Tryz.func11,Tryz.ntmps11
 go_upto_region 1 with fail
 rw[←hW]
 clear hW
 go_wp2_with (first|(go_at_call 22;refine kk.mono ?_;rintro r w1 ⟨rfl,hb1⟩))
 go_ret
 exact⟨rfl,HB.out.trans (hb1.mono HB.out.size)⟩
theorem DShortest_1 (f:Nat) (t:List UInt8) (w:World)
  (kT:Hid (∀ W g1,Bw w W→W.heap[g1]?=some (.cells #[.float .f64 f] 22 (0,0)) →
   Calls Tryz.prog 22 #[.float .f64 f,.func (.func 23) #[] #[.pointer (some ⟨g1,0,none⟩)]] W fun r w'=>r=.returned (.string ⟨t.toArray⟩)∧Bw W w')) :
  Calls Tryz.prog 7 #[.float .f64 f] w fun r w'=>r=.returned (.string ⟨t.toArray⟩)∧Bw w w':=by
 obtain⟨W,hW⟩:∃ W,W=w.alloc (.cells #[.float .f64 f] 22):=⟨_,rfl⟩
 have m1:W.heap[w.heap.size]?=some (.cells #[.float .f64 f] 22 (0,0)):=by rw[hW];exact heap_alloc_new _ _
 have m4:Bw w W:=by rw[hW];exact(Below.refl _ _).alloc (Nat.le_refl _) _
 have c1:=cell_blk m1 (Below.refl _ _)
 have HB:Hid (Bw w W):=m4
 have kk:=kT.out W _ m4 m1
 clear m1 m4 kT
 go_enter Tryz.func7,Tryz.ntmps7
 go_upto_region 1 with fail
 rw[←hW]
 clear hW
 go_wp2_with (first|(go_at_call 22;refine kk.mono ?_;rintro r w1 ⟨rfl,hb1⟩))
 go_ret
 exact⟨rfl,HB.out.trans (hb1.mono HB.out.size)⟩
theorem DExact1_1 (f:Nat) (ta tr:Bool×Nat×Int) (p:Int) (d t:List UInt8) (g1:Nat) (w:World)
  (h1:w.heap[g1]?=some (.cells #[.float .f64 f] 22 (0,0))) (hp:Hid (max 0 (-ta.2.2)=p)) (hp2:Hid (-100000≤ta.2.2∧ta.2.2≤100000))
  (k0:Hid (∀ W,Bw w W→Calls Tryz.prog 32 #[.float .f64 f] W fun r w'=>OutA W ta r w'))
  (k1:Hid (∀ W,Bw w W→Calls Tryz.prog 34 #[.float .f64 f,.int .i64 p,.int .i64 2] W fun r w'=>OutA W tr r w'))
  (k2:Hid (∀ W X,Bw w W→PN W X tr→Calls Tryz.prog 33 #[X] W fun r w'=>r=.returned (.string ⟨d.toArray⟩)∧Bw W w'))
  (k3:Hid (∀ W,Bw w W→Calls Tryz.prog 26 #[.string ⟨d.toArray⟩,.int .i64 p] W fun r w'=>r=.returned (.string ⟨t.toArray⟩)∧Bw W w')) :
  Calls Tryz.prog 31 #[.pointer (some ⟨g1,0,none⟩)] w fun r w'=>r=.returned (.string ⟨t.toArray⟩)∧Bw w w':=by
 have c1:=cell_blk h1 (Below.refl _ _)
 have kk:=k0.out w (Below.refl _ _)
 have H1:Hid (w.heap[g1]?=some (.cells #[.float .f64 f] 22 (0,0))):=h1
 clear k0 h1
 go_enter Tryz.func31,Tryz.ntmps31
 go_wp2_with fail
 refine kk.mono ?_
 rintro r w1 ⟨s1,ao1,n1,cp1,e1,rfl,hA,hb1⟩
 have he:e1=ta.2.2:=by
  obtain⟨_,_,h,-⟩:=hA
  simp at h
  exact h.2.2
 clear kk c1
 have HB:Hid (Bw w w1):=hb1
 have c2:=cell_blk H1.out hb1
 have kk:=k1.out w1 hb1
 clear k1 hA hb1
 have hw:IntKind.i64.wrap (-e1) = -e1:=by rw[he,IntKind.wrap_i64];have:=hp2.out;omega
 have hmx:max 0 (-e1)=p:=by rw[he];exact hp.out
 clear hp hp2 he
 go_wp2_with fail
 refine kk.mono ?_
 rintro r w2 ⟨s2,ao2,n2,cp2,e2,rfl,hA,hb2⟩
 clear kk c2
 have HB2:Hid (Bw w w2):=HB.out.trans (hb2.mono HB.out.size)
 have kk:=k2.out w2 _ HB2.out hA
 clear k2 hA hb2 HB
 go_wp2_with fail
 refine kk.mono ?_
 rintro r w3 ⟨rfl,hb3⟩
 clear kk
 have HB3:Hid (Bw w w3):=HB2.out.trans (hb3.mono HB2.out.size)
 have kk:=k3.out w3 HB3.out
 clear k3 hb3 HB2
 go_wp2_with fail
 refine kk.mono ?_
 rintro r w4 ⟨rfl,hb4⟩
 clear kk
 have HB4:Hid (Bw w w4):=HB3.out.trans (hb4.mono HB3.out.size)
 clear hb4 HB3
 go_wp2
 go_ret
 exact⟨rfl,HB4.out⟩
theorem DHex1_1 (f:Nat) (m:Nat) (e:Int) (a3 a4:Value) (t:List UInt8) (g1:Nat) (w:World)
  (h1:w.heap[g1]?=some (.cells #[.float .f64 f] 22 (0,0)))
  (k0:Hid (Calls Tryz.prog 42 #[.float .f64 f] w fun r w'=>r=.returned (.tuple #[.int .u64 m,.int .i64 e,a3,a4])∧Bw w w'))
  (k1:Hid (m≠0→∀ W,Bw w W→Calls Tryz.prog 43 #[.int .u64 m,.int .i64 e] W fun r w'=>r=.returned (.string ⟨t.toArray⟩)∧Bw W w'))
  (h0:Hid (m=0→t = [48,120,48,112,48])) :
  Calls Tryz.prog 41 #[.pointer (some ⟨g1,0,none⟩)] w fun r w'=>r=.returned (.string ⟨t.toArray⟩)∧Bw w w':=by
 have c1:=cell_blk h1 (Below.refl _ _)
 have kk:=k0.out
 clear k0 h1
 by_cases hm:m=0
 ·obtain rfl:=h0.out hm
  subst hm
  clear h0 k1
  go_enter Tryz.func41,Tryz.ntmps41
  go_wp2_with fail
  refine kk.mono ?_
  rintro r w1 ⟨rfl,hb1⟩
  have HB:Hid (Below _ _ w1):=hb1
  clear kk hb1
  go_wp2
  go_ret
  exact⟨rfl,HB.out⟩
 ·have k2:=k1.out hm
  have hm':¬ (m:Int)=0:=by omega
  clear h0 k1
  go_enter Tryz.func41,Tryz.ntmps41
  go_wp2_with fail
  refine kk.mono ?_
  rintro r w1 ⟨rfl,hb1⟩
  have HB1:Hid (Below _ _ w1):=hb1
  have k3:=k2 w1 hb1
  clear kk hb1 k2
  go_wp2_with fail
  refine k3.mono ?_
  rintro r w2 ⟨rfl,hb2⟩
  have HB:Hid (Below _ _ w2):=HB1.out.trans (hb2.mono HB1.out.size)
  clear k3 hb2 HB1
  go_wp2
  go_ret
  exact⟨rfl,HB.out⟩
def hxL (L:Nat) (c t:List UInt8):List UInt8 := [48,120,49]++(if 1<L then 46 :: c else [])++112 :: t
theorem DhexText_1 (m L:Nat) (e:Int) (b c t:List UInt8) (w:World) (hL:L≤64) (he : -100000≤e∧e≤100000) (hb:Hid (b.length≤16)) (hc:Hid (c.length≤16)) (ht:Hid (t.length≤100))
  (k1:∀ W,Calls Tryz.prog 108 #[.int .u64 m] W fun r w'=>r=.returned (.int .i64 L)∧w'=W)
  (k2:Hid (1<L→Calls Tryz.prog 109 #[.int .u64 (IntKind.u64.wrap ((m:Int)*2^(65 - L))),.int .i64 16] w fun r w'=>r=.returned (.string ⟨b.toArray⟩)∧Bw w w'))
  (k3:Hid (KNz w))
  (k4:Hid (∀ W,Calls Tryz.prog 78 #[.string ⟨(nzL (16 - b.length)++b).toArray⟩,.string ⟨#[48]⟩] W fun r w'=>r=.returned (.string ⟨c.toArray⟩)∧Bw W w'))
  (k5:Hid (∀ W,Bw w W→Calls Tryz.prog 79 #[.int .i64 (e+L - 1)] W fun r w'=>r=.returned (.string ⟨t.toArray⟩)∧Bw W w')) :
  Calls Tryz.prog 43 #[.int .u64 m,.int .i64 e] w fun r w'=>r=.returned (.string ⟨(hxL L c t).toArray⟩)∧Bw w w':=by
 have hw1:IntKind.i64.wrap (e+L)=e+L:=by rw[IntKind.wrap_i64];omega
 have hw2:IntKind.i64.wrap (e+L - 1)=e+L - 1:=by rw[IntKind.wrap_i64];omega
 have hw3:IntKind.i64.wrap (65 - (L:Int))=65 - (L:Int):=by rw[IntKind.wrap_i64];omega
 by_cases hl:1<L
 ·have hl':(1:Int)<(L:Int):=by omega
  have hs0:¬ (65 - (L:Int))<0:=by omega
  have hs1:(65 - (L:Int))<64:=by omega
  have hsz:(⟨b.toArray⟩:ByteArray).size=b.length:=rfl
  have hw4:IntKind.i64.wrap (16 - (b.length:Int))=16 - (b.length:Int):=by rw[IntKind.wrap_i64];have:=hb.out;omega
  have hlz:(nzL (16 - (b.length:Int))).length≤16:=by rw[nzL_len];omega
  have s1:(⟨(nzL (16 - (b.length:Int))).toArray⟩:ByteArray).size+(⟨b.toArray⟩:ByteArray).size≤9223372036854775807:=by
   rw[bsz,bsz];have:=hb.out;omega
  have e1:(⟨(nzL (16 - (b.length:Int))).toArray⟩:ByteArray)++⟨b.toArray⟩=⟨(nzL (16 - b.length)++b).toArray⟩:=bytes_cat _ _
  have s2:(⟨#[46]⟩:ByteArray).size+(⟨c.toArray⟩:ByteArray).size≤9223372036854775807:=by
   rw[show(⟨#[46]⟩:ByteArray).size=1 from rfl,bsz];have:=hc.out;omega
  have e2:(⟨#[46]⟩:ByteArray)++⟨c.toArray⟩=⟨(46 :: c).toArray⟩:=bytes_cat [46] c
  obtain⟨A,hA⟩:∃ A:List UInt8,A=48 :: 120 :: 49 :: 46 :: c:=⟨_,rfl⟩
  have s3:(⟨#[48,120,49]⟩:ByteArray).size+(⟨(46 :: c).toArray⟩:ByteArray).size≤9223372036854775807:=by
   rw[show(⟨#[48,120,49]⟩:ByteArray).size=3 from rfl,bsz,List.length_cons];have:=hc.out;omega
  have e3:(⟨#[48,120,49]⟩:ByteArray)++⟨(46 :: c).toArray⟩=⟨A.toArray⟩:=by rw[hA];exact bytes_cat [48,120,49] (46 :: c)
  have hAl:A.length≤20:=by rw[hA];simp only[List.length_cons];have:=hc.out;omega
  have s4:(⟨A.toArray⟩:ByteArray).size+(⟨#[112]⟩:ByteArray).size≤9223372036854775807:=by
   rw[show(⟨#[112]⟩:ByteArray).size=1 from rfl,bsz];omega
  have e4:(⟨A.toArray⟩:ByteArray)++⟨#[112]⟩=⟨(A ++ [112]).toArray⟩:=bytes_cat A [112]
  have s5:(⟨(A ++ [112]).toArray⟩:ByteArray).size+(⟨t.toArray⟩:ByteArray).size≤9223372036854775807:=by
   rw[bsz,bsz,List.length_append];have:=ht.out;simp;omega
  have fin:(⟨(A ++ [112]).toArray⟩:ByteArray)++⟨t.toArray⟩=⟨(hxL L c t).toArray⟩:=by
   rw[bytes_cat,hA]
   unfold hxL
   rw[if_pos hl]
   simp
  have kk2:=k2.out hl
  clear hA hAl hlz k2 hl
  go_enter Tryz.func43,Tryz.ntmps43
  go_wp2_with (first|(go_at_call 108;refine(k1 _).mono ?_;rintro r w' ⟨rfl,rfl⟩)|(go_at_call 109;refine kk2.mono ?_;rintro r w1 ⟨rfl,hb1⟩))
  have kk:=k3.out (16 - (b.length:Int)) w1 (by have:=hb.out;omega) hb1
  have HB:Hid (Below _ _ w1):=hb1
  clear k3 hb1 kk2
  go_wp2_with fail
  refine kk.mono ?_
  rintro r w2 ⟨rfl,hb2⟩
  have HB2:Hid (Below _ _ w2):=HB.out.trans (hb2.mono HB.out.size)
  have kk4:=k4.out w2
  clear kk hb2 HB k4
  go_wp2_with fail
  refine kk4.mono ?_
  rintro r w3 ⟨rfl,hb3⟩
  have HB3:Hid (Below _ _ w3):=HB2.out.trans (hb3.mono HB2.out.size)
  have kk5:=k5.out w3 HB3.out
  clear kk4 hb3 HB2 k5
  go_wp2_with fail
  refine kk5.mono ?_
  rintro r w4 ⟨rfl,hb4⟩
  have HB4:Hid (Below _ _ w4):=HB3.out.trans (hb4.mono HB3.out.size)
  clear kk5 hb4 HB3
  go_wp2
  go_ret
  exact⟨rfl,HB4.out⟩
 ·have hl':¬ (1:Int)<(L:Int):=by omega
  have e1:(⟨#[48,120,49]⟩:ByteArray)++⟨#[112]⟩=⟨#[48,120,49,112]⟩:=bytes_cat [48,120,49] [112]
  have s1:(⟨#[48,120,49]⟩:ByteArray).size+(⟨#[112]⟩:ByteArray).size≤9223372036854775807:=by decide
  have s2:(⟨#[48,120,49,112]⟩:ByteArray).size+(⟨t.toArray⟩:ByteArray).size≤9223372036854775807:=by
   rw[show(⟨#[48,120,49,112]⟩:ByteArray).size=4 from rfl,bsz];have:=ht.out;omega
  have fin:(⟨#[48,120,49,112]⟩:ByteArray)++⟨t.toArray⟩=⟨(hxL L c t).toArray⟩:=by
   rw[show(⟨#[48,120,49,112]⟩:ByteArray)=⟨[48,120,49,112].toArray⟩from rfl,bytes_cat]
   unfold hxL
   rw[if_neg hl]
   rfl
  have kk:=k5.out w (Below.refl _ _)
  clear k2 k3 k4 k5 hl
  go_enter Tryz.func43,Tryz.ntmps43
  go_wp2_with (first|(go_at_call 108;refine(k1 _).mono ?_;rintro r w' ⟨rfl,rfl⟩)|(go_at_call 79;refine kk.mono ?_;rintro r w1 ⟨rfl,hb1⟩))
  go_ret
  exact⟨rfl,hb1⟩
theorem DDigits_no (f:Nat) (p m:Int) (b:Bool) (w:World)
  (k1:∀ W,Calls Tryz.prog 51 #[.int .i64 m] W fun r w'=>r=.returned (.bool b)∧w'=W) (hno:b=false∨p<1∨1100<p) :
  Calls Tryz.prog 16 #[.float .f64 f,.int .i64 p,.int .i64 m] w fun r w'=>r=.returned (.tuple #[.string ⟨#[]⟩,.int .i64 1])∧Bw w w':=by
 obtain⟨W,hW⟩:∃ W,W=((w.alloc (.cells #[.float .f64 f] 22)).alloc (.cells #[.int .i64 p] 3)).alloc (.cells #[.int .i64 m] 3):=⟨_,rfl⟩
 obtain⟨m1,m2,m3,m4⟩:=three_new _ _ _ hW
 have c1:=cell_blk m1 (Below.refl _ _)
 have c2:=cell_blk m2 (Below.refl _ _)
 have c3:=cell_blk m3 (Below.refl _ _)
 have HB:Hid (Bw w W):=m4
 clear m1 m2 m3 m4
 cases b
 ·clear hno
  go_enter Tryz.func16,Tryz.ntmps16
  go_upto_region 1 with fail
  rw[←hW]
  clear hW
  go_wp2_with (first|(go_at_call 51;refine(k1 _).mono ?_;rintro e w' ⟨rfl,rfl⟩))
  refine bodyPost_ret (results_tmp2 rfl _ _ _) rfl ?_
  exact⟨rfl,HB.out⟩
 ·rcases(by simpa using hno:p<1∨1100<p)with h|h
  ·clear hno
   go_enter Tryz.func16,Tryz.ntmps16
   go_upto_region 1 with fail
   rw[←hW]
   clear hW
   go_wp2_with (first|(go_at_call 51;refine(k1 _).mono ?_;rintro e w' ⟨rfl,rfl⟩))
   refine bodyPost_ret (results_tmp2 rfl _ _ _) rfl ?_
   exact⟨rfl,HB.out⟩
  ·have h0:¬ p<1:=by omega
   clear hno
   go_enter Tryz.func16,Tryz.ntmps16
   go_upto_region 1 with fail
   rw[←hW]
   clear hW
   go_wp2_with (first|(go_at_call 51;refine(k1 _).mono ?_;rintro e w' ⟨rfl,rfl⟩))
   refine bodyPost_ret (results_tmp2 rfl _ _ _) rfl ?_
   exact⟨rfl,HB.out⟩
theorem DDigits_1 (f:Nat) (p m:Int) (t:List UInt8) (w:World) (h0:¬ p<1) (h1:¬ 1100<p)
  (k1:∀ W,Calls Tryz.prog 51 #[.int .i64 m] W fun r w'=>r=.returned (.bool true)∧w'=W)
  (kT:Hid (∀ W g1 g2 g3,Bw w W→W.heap[g1]?=some (.cells #[.float .f64 f] 22 (0,0))→W.heap[g2]?=some (.cells #[.int .i64 p] 3 (0,0))→W.heap[g3]?=some (.cells #[.int .i64 m] 3 (0,0)) →
   Calls Tryz.prog 22 #[.float .f64 f,.func (.func 58) #[] #[.pointer (some ⟨g1,0,none⟩),.pointer (some ⟨g2,0,none⟩),.pointer (some ⟨g3,0,none⟩)]] W fun r w'=>r=.returned (.string ⟨t.toArray⟩)∧Bw W w')) :
  Calls Tryz.prog 16 #[.float .f64 f,.int .i64 p,.int .i64 m] w fun r w'=>r=.returned (.tuple #[.string ⟨t.toArray⟩,.int .i64 0])∧Bw w w':=by
 obtain⟨W,hW⟩:∃ W,W=((w.alloc (.cells #[.float .f64 f] 22)).alloc (.cells #[.int .i64 p] 3)).alloc (.cells #[.int .i64 m] 3):=⟨_,rfl⟩
 obtain⟨m1,m2,m3,m4⟩:=three_new _ _ _ hW
 have c1:=cell_blk m1 (Below.refl _ _)
 have c2:=cell_blk m2 (Below.refl _ _)
 have c3:=cell_blk m3 (Below.refl _ _)
 have HB:Hid (Bw w W):=m4
 have kk:=kT.out W _ _ _ m4 m1 m2 m3
 clear m1 m2 m3 m4 kT
 go_enter Tryz.func16,Tryz.ntmps16
 go_upto_region 1 with fail
 rw[←hW]
 clear hW
 go_wp2_with (first|(go_at_call 51;refine(k1 _).mono ?_;rintro e w' ⟨rfl,rfl⟩)|(go_at_call 22;refine kk.mono ?_;rintro r w1 ⟨rfl,hb1⟩))
 refine bodyPost_ret (results_tmp2 rfl _ _ _) rfl ?_
 exact⟨rfl,HB.out.trans (hb1.mono HB.out.size)⟩
theorem DDigits1_0 (f:Nat) (n m:Int) (t:List UInt8) (g1 g2 g3:Nat) (w:World)
  (h1:w.heap[g1]?=some (.cells #[.float .f64 f] 22 (0,0))) (h2:w.heap[g2]?=some (.cells #[.int .i64 n] 3 (0,0))) (hn:Hid (1≤n∧n≤1100)) (hf:f=0∨f=9223372036854775808)
  (k3:Hid (KNz w))
  (k2:Hid (∀ W,Bw w W→Calls Tryz.prog 25 #[.string ⟨(nzL n).toArray⟩,.int .i64 0] W fun r w'=>r=.returned (.string ⟨t.toArray⟩)∧Bw W w')) :
  Calls Tryz.prog 58 #[.pointer (some ⟨g1,0,none⟩),.pointer (some ⟨g2,0,none⟩),.pointer (some ⟨g3,0,none⟩)] w fun r w'=>r=.returned (.string ⟨t.toArray⟩)∧Bw w w':=by
 have c1:=cell_blk h1 (Below.refl _ _)
 have c2:=cell_blk h2 (Below.refl _ _)
 have kk:=k3.out n w (by have:=hn.out;omega) (Below.refl _ _)
 clear h1 h2 k3
 rcases hf with rfl|rfl
 ·go_enter Tryz.func58,Tryz.ntmps58
  go_wp2_with fail
  refine kk.mono ?_
  rintro r w1 ⟨rfl,hb1⟩
  have HB:Hid (Bw w w1):=hb1
  have k4:=k2.out w1 hb1
  clear kk hb1 k2
  go_wp2_with fail
  refine k4.mono ?_
  rintro r w2 ⟨rfl,hb2⟩
  have HB2:Hid (Bw w w2):=HB.out.trans (hb2.mono HB.out.size)
  clear k4 hb2 HB
  go_wp2
  go_ret
  exact⟨rfl,HB2.out⟩
 ·go_enter Tryz.func58,Tryz.ntmps58
  go_wp2_with fail
  refine kk.mono ?_
  rintro r w1 ⟨rfl,hb1⟩
  have HB:Hid (Bw w w1):=hb1
  have k4:=k2.out w1 hb1
  clear kk hb1 k2
  go_wp2_with fail
  refine k4.mono ?_
  rintro r w2 ⟨rfl,hb2⟩
  have HB2:Hid (Bw w w2):=HB.out.trans (hb2.mono HB.out.size)
  clear k4 hb2 HB
  go_wp2
  go_ret
  exact⟨rfl,HB2.out⟩
theorem DDigits1_1 (f:Nat) (n m x:Int) (N:Nat) (ta tb tr:Bool×Nat×Int) (d t:List UInt8) (g1 g2 g3:Nat) (w:World)
  (h1:w.heap[g1]?=some (.cells #[.float .f64 f] 22 (0,0))) (h2:w.heap[g2]?=some (.cells #[.int .i64 n] 3 (0,0))) (h3:w.heap[g3]?=some (.cells #[.int .i64 m] 3 (0,0))) (hn:Hid (1≤n∧n≤1100)) (hN:Hid (n=(N:Int))) (hx : -10000≤x∧x≤10000)
  (hf:(FloatKind.f64.format.order f 0==some Ordering.eq)=false)
  (k1:Hid (∀ W,Bw w W→Calls Tryz.prog 32 #[.float .f64 f] W fun r w'=>OutA W ta r w'))
  (k2:Hid (∀ W X,Bw w W→PN W X ta→Calls Tryz.prog 61 #[X] W fun r w'=>OutA W tb r w'))
  (k3:Hid (∀ W X,Bw w W→PN W X tb→Calls Tryz.prog 60 #[X] W fun r w'=>r=.returned (.int .i64 x)∧Bw W w'))
  (k4:Hid (∀ W,Bw w W→Calls Tryz.prog 34 #[.float .f64 f,.int .i64 (n - 1 - x),.int .i64 m] W fun r w'=>OutA W tr r w'))
  (k5:Hid (∀ W X,Bw w W→PN W X tr→Calls Tryz.prog 33 #[X] W fun r w'=>r=.returned (.string ⟨d.toArray⟩)∧Bw W w'))
  (k6:Hid (∀ W,Bw w W→Calls Tryz.prog 25 #[.string ⟨(d.take N).toArray⟩,.int .i64 (if N<d.length then x+1 else x)] W fun r w'=>r=.returned (.string ⟨t.toArray⟩)∧Bw W w')) :
  Calls Tryz.prog 58 #[.pointer (some ⟨g1,0,none⟩),.pointer (some ⟨g2,0,none⟩),.pointer (some ⟨g3,0,none⟩)] w fun r w'=>r=.returned (.string ⟨t.toArray⟩)∧Bw w w':=by
 have H0:Hid (w.heap[g1]?=some (.cells #[.float .f64 f] 22 (0,0))∧w.heap[g2]?=some (.cells #[.int .i64 n] 3 (0,0))∧w.heap[g3]?=some (.cells #[.int .i64 m] 3 (0,0))):=⟨h1,h2,h3⟩
 have c1:=cell_blk h1 (Below.refl _ _)
 have kk:=k1.out w (Below.refl _ _)
 have hw1:IntKind.i64.wrap (n - 1)=n - 1:=by rw[IntKind.wrap_i64];have:=hn.out;omega
 have hw2:IntKind.i64.wrap (n - 1 - x)=n - 1 - x:=by rw[IntKind.wrap_i64];have:=hn.out;omega
 have hw3:IntKind.i64.wrap (x+1)=x+1:=by rw[IntKind.wrap_i64];omega
 clear h1 h2 h3 k1 hx
 go_enter Tryz.func58,Tryz.ntmps58
 go_wp2_with fail
 refine kk.mono ?_
 rintro r w1 ⟨s1,ao1,n1,cp1,e1,rfl,hA,hb1⟩
 have HB1:Hid (Bw w w1):=hb1
 have kk2:=k2.out w1 _ hb1 hA
 clear k2 kk hA hb1 c1
 go_wp2_with fail
 refine kk2.mono ?_
 rintro r w2 ⟨s2,ao2,n2,cp2,e2,rfl,hA,hb2⟩
 have HB2:Hid (Bw w w2):=HB1.out.trans (hb2.mono HB1.out.size)
 have kk3:=k3.out w2 _ HB2.out hA
 clear k3 kk2 hA hb2 HB1
 go_wp2_with fail
 refine kk3.mono ?_
 rintro r w3 ⟨rfl,hb3⟩
 have HB3:Hid (Bw w w3):=HB2.out.trans (hb3.mono HB2.out.size)
 have kk4:=k4.out w3 HB3.out
 have c1:=cell_blk H0.out.1 HB3.out
 have c2:=cell_blk H0.out.2.1 HB3.out
 have c3:=cell_blk H0.out.2.2 HB3.out
 clear k4 kk3 hb3 HB2
 go_wp2_with fail
 refine kk4.mono ?_
 rintro r w4 ⟨s4,ao4,n4,cp4,e4,rfl,hA,hb4⟩
 have HB4:Hid (Bw w w4):=HB3.out.trans (hb4.mono HB3.out.size)
 have kk5:=k5.out w4 _ HB4.out hA
 clear k5 kk4 hA hb4 HB3 c1 c2 c3
 go_wp2_with fail
 refine kk5.mono ?_
 rintro r w5 ⟨rfl,hb5⟩
 have HB5:Hid (Bw w w5):=HB4.out.trans (hb5.mono HB4.out.size)
 have c2:=cell_blk H0.out.2.1 HB5.out
 have kk6:=k6.out w5 HB5.out
 clear k6 kk5 hb5 HB4 H0 hw1 hw2
 obtain rfl:=hN.out
 clear hN
 have hsz:(⟨d.toArray⟩:ByteArray).size=d.length:=rfl
 by_cases hl:N<d.length
 ·have hl':(N:Int)<(d.length:Int):=by omega
  have hl2:(N:Int)≤(d.length:Int):=by omega
  rw[if_pos hl] at kk6
  have et:=ext_take d N
  clear hl
  go_wp2_with fail
  refine kk6.mono ?_
  rintro r w6 ⟨rfl,hb6⟩
  have HB6:Hid (Bw w w6):=HB5.out.trans (hb6.mono HB5.out.size)
  clear kk6 hb6 HB5
  go_wp2
  go_ret
  exact⟨rfl,HB6.out⟩
 ·have hl':¬ (N:Int)<(d.length:Int):=by omega
  rw[if_neg hl,List.take_of_length_le (by omega)] at kk6
  clear hl
  go_wp2_with fail
  refine kk6.mono ?_
  rintro r w6 ⟨rfl,hb6⟩
  have HB6:Hid (Bw w w6):=HB5.out.trans (hb6.mono HB5.out.size)
  clear kk6 hb6 HB5
  go_wp2
  go_ret
  exact⟨rfl,HB6.out⟩
theorem DShort1_0 (f:Nat) (g1:Nat) (w:World)
  (h1:w.heap[g1]?=some (.cells #[.float .f64 f] 22 (0,0))) (hf:(FloatKind.f64.format.order f 0==some Ordering.eq)=true) :
  Calls Tryz.prog 23 #[.pointer (some ⟨g1,0,none⟩)] w fun r w'=>r=.returned (.string ⟨#[48]⟩)∧w'=w:=by
 have c1:=cell_blk h1 (Below.refl _ _)
 clear h1
 go_enter Tryz.func23,Tryz.ntmps23
 go_wp2
 go_ret
 exact⟨rfl,rfl⟩
theorem DShort1_1 (f fa:Nat) (x:Int) (d t:List UInt8) (g1:Nat) (w:World)
  (h1:w.heap[g1]?=some (.cells #[.float .f64 f] 22 (0,0))) (hf:(FloatKind.f64.format.order f 0==some Ordering.eq)=false) (hx : -10000≤x∧x≤10000) (hd:d.length≤20000)
  (k1:∀ W,Calls Tryz.prog 17 #[.float .f64 f] W fun r w'=>r=.returned (.float .f64 fa)∧w'=W)
  (k2:Hid (Calls Tryz.prog 24 #[.float .f64 fa] w fun r w'=>r=.returned (.tuple #[.string ⟨d.toArray⟩,.int .i64 x])∧Bw w w'))
  (k3:Hid ((x < -5∨20<x)→∀ W,Bw w W→Calls Tryz.prog 25 #[.string ⟨d.toArray⟩,.int .i64 x] W fun r w'=>r=.returned (.string ⟨t.toArray⟩)∧Bw W w'))
  (k4:Hid (¬ (x < -5∨20<x)→∀ W,Bw w W→Calls Tryz.prog 26 #[.string ⟨d.toArray⟩,.int .i64 (d.length - 1 - x)] W fun r w'=>r=.returned (.string ⟨t.toArray⟩)∧Bw W w')) :
  Calls Tryz.prog 23 #[.pointer (some ⟨g1,0,none⟩)] w fun r w'=>r=.returned (.string ⟨t.toArray⟩)∧Bw w w':=by
 have c1:=cell_blk h1 (Below.refl _ _)
 have hsz:(⟨d.toArray⟩:ByteArray).size=d.length:=rfl
 have hw1:IntKind.i64.wrap ((d.length:Int) - 1)=d.length - 1:=by rw[IntKind.wrap_i64];omega
 have hw2:IntKind.i64.wrap ((d.length:Int) - 1 - x)=d.length - 1 - x:=by rw[IntKind.wrap_i64];omega
 have kk:=k2.out
 clear h1 k2
 by_cases hc:x < -5∨20<x
 ·have k5:=k3.out hc
  clear k3 k4
  rcases hc with h|h
  ·clear hx
   go_enter Tryz.func23,Tryz.ntmps23
   go_wp2_with (first|(go_at_call 17;refine(k1 _).mono ?_;rintro r w' ⟨rfl,rfl⟩))
   refine kk.mono ?_
   rintro r w1 ⟨rfl,hb1⟩
   have HB:Hid (Below _ _ w1):=hb1
   have k6:=k5 w1 hb1
   clear kk hb1 c1 k5
   go_wp2_with fail
   refine k6.mono ?_
   rintro r w2 ⟨rfl,hb2⟩
   have HB2:Hid (Below _ _ w2):=HB.out.trans (hb2.mono HB.out.size)
   clear k6 hb2 HB
   go_wp2
   go_ret
   exact⟨rfl,HB2.out⟩
  ·have h0:¬ x < -5:=by omega
   go_enter Tryz.func23,Tryz.ntmps23
   go_wp2_with (first|(go_at_call 17;refine(k1 _).mono ?_;rintro r w' ⟨rfl,rfl⟩))
   refine kk.mono ?_
   rintro r w1 ⟨rfl,hb1⟩
   have HB:Hid (Below _ _ w1):=hb1
   have k6:=k5 w1 hb1
   clear kk hb1 c1 k5
   go_wp2_with fail
   refine k6.mono ?_
   rintro r w2 ⟨rfl,hb2⟩
   have HB2:Hid (Below _ _ w2):=HB.out.trans (hb2.mono HB.out.size)
   clear k6 hb2 HB
   go_wp2
   go_ret
   exact⟨rfl,HB2.out⟩
 ·have k5:=k4.out hc
  have h0:¬ x < -5:=fun h=>hc (.inl h)
  have h1:¬ 20<x:=fun h=>hc (.inr h)
  clear k3 k4 hc
  go_enter Tryz.func23,Tryz.ntmps23
  go_wp2_with (first|(go_at_call 17;refine(k1 _).mono ?_;rintro r w' ⟨rfl,rfl⟩))
  refine kk.mono ?_
  rintro r w1 ⟨rfl,hb1⟩
  have HB:Hid (Below _ _ w1):=hb1
  have k6:=k5 w1 hb1
  clear kk hb1 c1 k5
  go_wp2_with fail
  refine k6.mono ?_
  rintro r w2 ⟨rfl,hb2⟩
  have HB2:Hid (Below _ _ w2):=HB.out.trans (hb2.mono HB.out.size)
  clear k6 hb2 HB
  go_wp2
  go_ret
  exact⟨rfl,HB2.out⟩
theorem DisReadAs_1 (s1:Bool) (ao1:Option Addr) (n1 cp1:Nat) (e1:Int) (ta:Bool×Nat×Int) (f g:Nat) (b:Bool) (er:Int) (w:World) (h1:PN w (.agg #[.bool s1,.slice ao1 n1 cp1,.int .i64 e1]) ta)
  (k1:Hid (∀ W,Bw w W→PN W (.agg #[.bool s1,.slice ao1 n1 cp1,.int .i64 e1]) ta→Calls Tryz.prog 249 #[.agg #[.bool s1,.slice ao1 n1 cp1,.int .i64 e1],.int .i64 2] W fun r w'=>r=.returned (.tuple #[.float .f64 g,.int .i64 er])∧Bw W w'))
  (hb:(FloatKind.f64.format.order g f==some Ordering.eq)=b) :
  Calls Tryz.prog 203 #[.agg #[.bool s1,.slice ao1 n1 cp1,.int .i64 e1],.float .f64 f] w fun r w'=>r=.returned (.bool b)∧Bw w w':=by
 obtain⟨W,hW⟩:∃ W,W=w.alloc (.cells #[.bool s1,.slice ao1 n1 cp1,.int .i64 e1] 50):=⟨_,rfl⟩
 have H0:Hid (PBx W w.heap.size s1 ao1 n1 cp1 e1 ta∧Bw w W):=(by
  have hb:Bw w W:=by rw[hW];exact(Below.refl _ _).alloc (Nat.le_refl _) _
  exact⟨⟨by rw[hW];exact heap_alloc_new _ _,h1.later hb⟩,hb⟩:_∧_)
 obtain⟨⟨c0,c1,c2⟩,-⟩:=box_cells H0.out.1.1
 have kk:=k1.out W H0.out.2 H0.out.1.2
 clear k1 h1
 go_enter Tryz.func203,Tryz.ntmps203
 go_upto_region 1 with fail
 rw[←hW]
 clear hW
 go_wp2_with fail
 refine kk.mono ?_
 rintro r w1 ⟨rfl,hb1⟩
 have HB:Hid (Bw w w1):=H0.out.2.trans (hb1.mono H0.out.2.size)
 clear kk hb1 H0 c0 c1 c2
 go_wp2
 go_ret
 exact⟨rfl,HB.out⟩
theorem Dshortest_1 (f:Nat) (x:Int) (N:Nat) (ta t1 t2 tn:Bool×Nat×Int) (d c:List UInt8) (w:World) (hx : -10000≤x∧x≤10000) (hd:d.length≤20000)
  (k1:Hid (∀ W,Bw w W→Calls Tryz.prog 32 #[.float .f64 f] W fun r w'=>OutA W ta r w'))
  (k2:Hid (∀ W X,Bw w W→PN W X ta→Calls Tryz.prog 60 #[X] W fun r w'=>r=.returned (.int .i64 x)∧Bw W w'))
  (k3:Hid (∀ W,Bw w W→Calls Tryz.prog 77 #[.int .i64 (16 - x)] W fun r w'=>OutFv W t1 t2 r w'))
  (k4:Hid (∀ W X S,Bw w W→PN W X ta→Fv W S t1 t2→Calls Tryz.prog 76 #[.float .f64 f,X,S] W fun r w'=>r=.returned (.int .u64 N)∧Bw W w'))
  (k5:Hid (∀ W,Bw w W→Calls Tryz.prog 75 #[.int .u64 N] W fun r w'=>OutA W tn r w'))
  (k6:Hid (∀ W X,Bw w W→PN W X tn→Calls Tryz.prog 33 #[X] W fun r w'=>r=.returned (.string ⟨d.toArray⟩)∧Bw W w'))
  (k7:Hid (∀ W,Bw w W→Calls Tryz.prog 78 #[.string ⟨d.toArray⟩,.string ⟨#[48]⟩] W fun r w'=>r=.returned (.string ⟨c.toArray⟩)∧Bw W w')) :
  Calls Tryz.prog 24 #[.float .f64 f] w fun r w'=>r=.returned (.tuple #[.string ⟨c.toArray⟩,.int .i64 (d.length - 1 - (16 - x))])∧Bw w w':=by
 have hw1:IntKind.i64.wrap (16 - x)=16 - x:=by rw[IntKind.wrap_i64];omega
 have hw2:IntKind.i64.wrap ((d.length:Int) - 1)=d.length - 1:=by rw[IntKind.wrap_i64];omega
 have hw3:IntKind.i64.wrap ((d.length:Int) - 1 - (16 - x))=d.length - 1 - (16 - x):=by rw[IntKind.wrap_i64];omega
 have hsz:(⟨d.toArray⟩:ByteArray).size=d.length:=rfl
 have kk:=k1.out w (Below.refl _ _)
 clear k1
 go_enter Tryz.func24,Tryz.ntmps24
 go_wp2_with fail
 refine kk.mono ?_
 rintro r w1 ⟨s1,ao1,n1,cp1,e1,rfl,hA,hb1⟩
 clear kk
 obtain⟨W1,hW1⟩:∃ W1,W1=w1.alloc (.cells #[.bool s1,.slice ao1 n1 cp1,.int .i64 e1] 50):=⟨_,rfl⟩
 have hbV:Bw w1 W1:=by rw[hW1];exact(Below.refl _ _).alloc (Nat.le_refl _) _
 have n6:W1.heap[w1.heap.size]?=some (.cells #[.bool s1,.slice ao1 n1 cp1,.int .i64 e1] 50 (0,0)):=by rw[hW1];exact heap_alloc_new _ _
 go_upto_region 2 with fail
 rw[←hW1]
 clear hW1
 have hA':=hA.later hbV
 have hB1:Bw w W1:=hb1.trans (hbV.mono hb1.size)
 clear hbV hA hb1
 generalize w1.heap.size=gqA at *
 have H1:Hid (PBx W1 gqA s1 ao1 n1 cp1 e1 ta∧Bw w W1):=⟨⟨n6,hA'⟩,hB1⟩
 obtain⟨⟨c0,c1,c2⟩,-⟩:=box_cells H1.out.1.1
 have kk:=k2.out W1 _ hB1 hA'
 clear k2 n6 hA' hB1
 go_wp2_with fail
 refine kk.mono ?_
 rintro r w2 ⟨rfl,hb2⟩
 have H2:Hid (PBx w2 gqA s1 ao1 n1 cp1 e1 ta∧Bw w w2):=⟨H1.out.1.later hb2,H1.out.2.trans (hb2.mono H1.out.2.size)⟩
 clear kk hb2 H1 c0 c1 c2
 go_upto_region 4 with fail
 obtain⟨m1,hBW⟩:=H2.out
 refine r_region [0,1,2,3,4,5,6,7] [14,15,16,17,18,19,20,7] [[],[],[],[2],[0,1,3],[4],[5],[6]] w2 _ [isV (.float .f64 f),isV (.agg #[.bool s1,.slice ao1 n1 cp1,.int .i64 e1]),isV (.int .i64 (16 - x)),isF t1 t2,isV (.int .u64 N),isP tn,isV (.string ⟨d.toArray⟩),isV (.string ⟨d.toArray⟩)] (by kernel_rfl) ⟨isV_stays _,isV_stays _,isV_stays _,isF_stays _ _,isV_stays _,isP_stays _,isV_stays _,isV_stays _,trivial⟩ (by show ∀ s ∈ [14,15,16,17,18,19,20,7],s<28;decide) ?_ ?_
 ·intro j hj o ho act U hb hoth hdep
  have hj':j<8:=hj
  have hbU:Bw w U:=hBW.trans (hb.mono hBW.size)
  have t0':act.tmps[(0:Nat)]?=some (Value.float .f64 f):=(hoth 0 (by decide)).trans rfl
  have t4':act.tmps[(4:Nat)]?=some (Value.pointer (some ⟨gqA,0,none⟩)):=(hoth 4 (by decide)).trans rfl
  have t6':act.tmps[(6:Nat)]?=some (Value.int .i64 (16 - x)):=(hoth 6 (by decide)).trans rfl
  have d4:=(cells3N (box_later m1.1 hb (lt_of_box m1.1))).1
  rcases(by omega:j=0∨j=1∨j=2∨j=3∨j=4∨j=5∨j=6∨j=7)with rfl|rfl|rfl|rfl|rfl|rfl|rfl|rfl
  ·obtain rfl:=Option.some.inj ho
   exact .inl ⟨rfl,owp_move rfl t0' ⟨_,rfl,rfl,Below.refl _ _⟩⟩
  ·obtain rfl:=Option.some.inj ho
   exact .inl ⟨rfl,owp_ldP (f:=0) rfl t4' d4.1 d4.2.1 d4.2.2 ⟨_,rfl,rfl,Below.refl _ _⟩⟩
  ·obtain rfl:=Option.some.inj ho
   exact .inl ⟨rfl,owp_move rfl t6' ⟨_,rfl,rfl,Below.refl _ _⟩⟩
  ·obtain rfl:=Option.some.inj ho
   have y2:act.tmps[(16:Nat)]?=_:=dV (hdep 2 (by simp[dL])) rfl
   refine .inl ⟨rfl,owp_call rfl (enters Tryz.func77 (by kernel_rfl) (by kernel_rfl)) (map1t8 y2) ?_⟩
   refine(k3.out U hbU).mono ?_
   rintro r w' ⟨A,rfl,hA,hb'⟩
   exact⟨_,rfl,_,rfl,hA,hb'⟩
  ·obtain rfl:=Option.some.inj ho
   have y0:act.tmps[(14:Nat)]?=_:=dV (hdep 0 (by simp[dL])) rfl
   have y1:act.tmps[(15:Nat)]?=_:=dV (hdep 1 (by simp[dL])) rfl
   obtain⟨u3,y3,v3⟩:=hdep 3 (by simp[dL])
   have y3':act.tmps[(17:Nat)]?=_:=y3
   refine .inl ⟨rfl,owp_call rfl (enters Tryz.func76 (by kernel_rfl) (by kernel_rfl)) (map3t y0 y1 y3') ?_⟩
   refine(k4.out U _ _ hbU (m1.2.later hb) v3).mono ?_
   rintro r w' ⟨rfl,hb'⟩
   exact⟨_,rfl,_,rfl,rfl,hb'⟩
  ·obtain rfl:=Option.some.inj ho
   have y4:act.tmps[(18:Nat)]?=_:=dV (hdep 4 (by simp[dL])) rfl
   refine .inl ⟨rfl,owp_call rfl (enters Tryz.func75 (by kernel_rfl) (by kernel_rfl)) (map1t8 y4) ?_⟩
   refine(k5.out U hbU).mono ?_
   rintro r w' ⟨_,_,_,_,_,rfl,hA,hb'⟩
   exact⟨_,rfl,_,rfl,hA,hb'⟩
  ·obtain rfl:=Option.some.inj ho
   obtain⟨u5,y5,v5⟩:=hdep 5 (by simp[dL])
   have y5':act.tmps[(19:Nat)]?=_:=y5
   refine .inl ⟨rfl,owp_call rfl (enters Tryz.func33 (by kernel_rfl) (by kernel_rfl)) (map1t8 y5') ?_⟩
   refine(k6.out U _ hbU v5).mono ?_
   rintro r w' ⟨rfl,hb'⟩
   exact⟨_,rfl,_,rfl,rfl,hb'⟩
  ·obtain rfl:=Option.some.inj ho
   have y6:act.tmps[(20:Nat)]?=_:=dV (hdep 6 (by simp[dL])) rfl
   exact .inl ⟨rfl,owp_assign rfl y6 ⟨_,rfl,rfl,Below.refl _ _⟩⟩
 ·intro u W5 hb5 hu
  have u7:u 7=.string ⟨d.toArray⟩:=hu 7 (by show 7<8;decide)
  have HB:Hid (Bw w W5):=hBW.trans (hb5.mono hBW.size)
  have kk:=k7.out W5 HB.out
  clear hu hb5 k3 k4 k5 k6 k7 H2 m1 hBW hw1
  simp only[putL,show List.range 8 = [0,1,2,3,4,5,6,7] from rfl,show List.range 8 = [0,1,2,3,4,5,6,7] from rfl,List.length_cons,List.length_nil,List.getD_cons_zero,List.getD_cons_succ,List.map_cons,List.map_nil,List.cons_append,List.nil_append,List.foldl_cons,List.foldl_nil,Nat.reduceLT,Nat.reduceMod,Nat.reduceDiv,Nat.reduceMul,Nat.reduceAdd,Nat.reduceEqDiff,reduceIte,Nat.one_ne_zero,Act.put,List.setIfInBounds_toArray,List.set_cons_zero,List.set_cons_succ]
  rw[u7]
  clear u7
  go_wp2_with fail
  refine kk.mono ?_
  rintro r w6 ⟨rfl,hb6⟩
  have HB6:Hid (Bw w w6):=HB.out.trans (hb6.mono HB.out.size)
  clear kk hb6 HB
  go_wp2
  refine bodyPost_ret (results_tmp2 rfl _ _ _) rfl ?_
  exact⟨rfl,HB6.out⟩
def isDg (c:Nat) (b:Int):Bool:=(decide (48≤c)&&decide (c≤57))||(((decide (97≤c)&&decide (c≤102))||(decide (65≤c)&&decide (c≤70)))&&(b==16))
theorem DisDigit (c:Nat) (b:Int) (w:World) (hc:c<256) :
  Calls Tryz.prog 175 #[.int .u8 c,.int .i64 b] w fun r w'=>r=.returned (.bool (isDg c b))∧w'=w:=by
 rcases(by omega:c≤47∨(48≤c∧c≤57)∨(58≤c∧c≤64)∨(65≤c∧c≤70)∨(71≤c∧c≤96)∨(97≤c∧c≤102)∨103≤c)with h|h|h|h|h|h|h
 ·have hr:isDg c b=false:=by
   unfold isDg
   rw[show(decide (48≤c)&&decide (c≤57))=false by simp;omega,show((decide (97≤c)&&decide (c≤102))||(decide (65≤c)&&decide (c≤70)))=false by simp;omega];simp
  have z48:¬ (48:Int)≤(c:Int):=by omega
  have z57:(c:Int)≤57:=by omega
  have z97:¬ (97:Int)≤(c:Int):=by omega
  have z102:(c:Int)≤102:=by omega
  have z65:¬ (65:Int)≤(c:Int):=by omega
  have z70:(c:Int)≤70:=by omega
  rw[hr]
  clear hr h hc
  go_enter Tryz.func175,Tryz.ntmps175
  go_wp2
  go_ret
  exact⟨rfl,rfl⟩
 ·have hr:isDg c b=true:=by
   unfold isDg
   simp;omega
  have z48:(48:Int)≤(c:Int):=by omega
  have z57:(c:Int)≤57:=by omega
  have z97:¬ (97:Int)≤(c:Int):=by omega
  have z102:(c:Int)≤102:=by omega
  have z65:¬ (65:Int)≤(c:Int):=by omega
  have z70:(c:Int)≤70:=by omega
  rw[hr]
  clear hr h hc
  go_enter Tryz.func175,Tryz.ntmps175
  go_wp2
  go_ret
  exact⟨rfl,rfl⟩
 ·have hr:isDg c b=false:=by
   unfold isDg
   rw[show(decide (48≤c)&&decide (c≤57))=false by simp;omega,show((decide (97≤c)&&decide (c≤102))||(decide (65≤c)&&decide (c≤70)))=false by simp;omega];simp
  have z48:(48:Int)≤(c:Int):=by omega
  have z57:¬ (c:Int)≤57:=by omega
  have z97:¬ (97:Int)≤(c:Int):=by omega
  have z102:(c:Int)≤102:=by omega
  have z65:¬ (65:Int)≤(c:Int):=by omega
  have z70:(c:Int)≤70:=by omega
  rw[hr]
  clear hr h hc
  go_enter Tryz.func175,Tryz.ntmps175
  go_wp2
  go_ret
  exact⟨rfl,rfl⟩
 ·have hr:isDg c b=(b==16):=by
   unfold isDg
   rw[show(decide (48≤c)&&decide (c≤57))=false by simp;omega,show((decide (97≤c)&&decide (c≤102))||(decide (65≤c)&&decide (c≤70)))=true by simp;omega];simp
  have z48:(48:Int)≤(c:Int):=by omega
  have z57:¬ (c:Int)≤57:=by omega
  have z97:¬ (97:Int)≤(c:Int):=by omega
  have z102:(c:Int)≤102:=by omega
  have z65:(65:Int)≤(c:Int):=by omega
  have z70:(c:Int)≤70:=by omega
  rw[hr]
  clear hr h hc
  go_enter Tryz.func175,Tryz.ntmps175
  go_wp2
  go_ret
  exact⟨rfl,rfl⟩
 ·have hr:isDg c b=false:=by
   unfold isDg
   rw[show(decide (48≤c)&&decide (c≤57))=false by simp;omega,show((decide (97≤c)&&decide (c≤102))||(decide (65≤c)&&decide (c≤70)))=false by simp;omega];simp
  have z48:(48:Int)≤(c:Int):=by omega
  have z57:¬ (c:Int)≤57:=by omega
  have z97:¬ (97:Int)≤(c:Int):=by omega
  have z102:(c:Int)≤102:=by omega
  have z65:(65:Int)≤(c:Int):=by omega
  have z70:¬ (c:Int)≤70:=by omega
  rw[hr]
  clear hr h hc
  go_enter Tryz.func175,Tryz.ntmps175
  go_wp2
  go_ret
  exact⟨rfl,rfl⟩
 ·have hr:isDg c b=(b==16):=by
   unfold isDg
   rw[show(decide (48≤c)&&decide (c≤57))=false by simp;omega,show((decide (97≤c)&&decide (c≤102))||(decide (65≤c)&&decide (c≤70)))=true by simp;omega];simp
  have z48:(48:Int)≤(c:Int):=by omega
  have z57:¬ (c:Int)≤57:=by omega
  have z97:(97:Int)≤(c:Int):=by omega
  have z102:(c:Int)≤102:=by omega
  have z65:(65:Int)≤(c:Int):=by omega
  have z70:¬ (c:Int)≤70:=by omega
  rw[hr]
  clear hr h hc
  go_enter Tryz.func175,Tryz.ntmps175
  go_wp2
  go_ret
  exact⟨rfl,rfl⟩
 ·have hr:isDg c b=false:=by
   unfold isDg
   rw[show(decide (48≤c)&&decide (c≤57))=false by simp;omega,show((decide (97≤c)&&decide (c≤102))||(decide (65≤c)&&decide (c≤70)))=false by simp;omega];simp
  have z48:(48:Int)≤(c:Int):=by omega
  have z57:¬ (c:Int)≤57:=by omega
  have z97:(97:Int)≤(c:Int):=by omega
  have z102:¬ (c:Int)≤102:=by omega
  have z65:(65:Int)≤(c:Int):=by omega
  have z70:¬ (c:Int)≤70:=by omega
  rw[hr]
  clear hr h hc
  go_enter Tryz.func175,Tryz.ntmps175
  go_wp2
  go_ret
  exact⟨rfl,rfl⟩
def bL (L:List UInt8) (k:Nat):Nat:=((L[k]?).getD 0).toNat
theorem bL_lt (L:List UInt8) (k:Nat):bL L k<256:=UInt8.toNat_lt _
theorem bL_get (L:List UInt8) (k:Nat) (h:k<(⟨L.toArray⟩:ByteArray).size):((⟨L.toArray⟩:ByteArray)[k]'h).toNat=bL L k:=by
 unfold bL
 have h2:k<L.length:=h
 rw[List.getElem?_eq_getElem h2]
 rfl
def allDg (L:List UInt8) (b:Int):Bool:=L.all (fun c=>isDg c.toNat b)
theorem allDg_iff (L:List UInt8) (b:Int):allDg L b=true↔∀ k,k<L.length→isDg (bL L k) b=true:=by
 unfold allDg bL
 rw[List.all_eq_true]
 constructor
 ·intro h k hk
  rw[List.getElem?_eq_getElem hk]
  exact h _ (List.getElem_mem hk)
 ·intro h x hx
  obtain⟨k,hk,rfl⟩:=List.getElem_of_mem hx
  have:=h k hk
  rw[List.getElem?_eq_getElem hk] at this
  exact this
theorem DareDigits (L:List UInt8) (b:Int) (w:World) (hL:L.length≤2000000) :
  Calls Tryz.prog 120 #[.string ⟨L.toArray⟩,.int .i64 b] w fun r w'=>r=.returned (.bool (allDg L b&&decide (L ≠ [])))∧w'=w:=by
 have hsz:(⟨L.toArray⟩:ByteArray).size=L.length:=rfl
 have HL:Hid (allDg L b=true↔∀ k,k<L.length→isDg (bL L k) b=true):=allDg_iff L b
 obtain⟨n,hn⟩:∃ n,n=L.length:=⟨_,rfl⟩
 rw[←hn] at hsz hL HL
 have hg:∀ k (h:k<(⟨L.toArray⟩:ByteArray).size),((⟨L.toArray⟩:ByteArray)[k]'h).toNat=bL L k:=bL_get L
 have Hn:Hid (n=L.length):=hn
 obtain⟨al,hal⟩:∃ al,al=allDg L b:=⟨_,rfl⟩
 have Hal:Hid (al=allDg L b):=hal
 rw[←hal] at HL ⊢
 clear hn hal
 go_enter Tryz.func120,Tryz.ntmps120
 go_wp2
 go_loopw [8] (fun v wr=>∃ i:Nat,i≤n∧v=.int .i64 i∧wr=w∧Hid (∀ k,k<i→isDg (bL L k) b=true)) (fun v _=>n - (intOf v).toNat)
 case atStart=>exact⟨0,Nat.zero_le _,rfl,rfl,(fun k hk=>absurd hk (Nat.not_lt_zero _):∀ k,k<0→isDg (bL L k) b=true)⟩
 case round =>
  obtain⟨i,hi,rfl,rfl,hM⟩:=hrel
  by_cases hic:i<n
  ·have hii:(i:Int)<(n:Int):=by omega
   have hwi:IntKind.i64.wrap ((i:Int)+1)=(i:Int)+1:=by rw[IntKind.wrap_i64];omega
   have kd:=DisDigit (bL L i) b
   have hlt:=bL_lt L i
   go_wp2_with fail
   refine(kd _ hlt).mono ?_
   rintro r w1 ⟨rfl,rfl⟩
   clear kd hlt
   obtain⟨q,hq⟩:∃ q,q=isDg (bL L i) b:=⟨_,rfl⟩
   rw[←hq]
   have Hq:Hid (q=isDg (bL L i) b):=hq
   clear hq
   cases q
   ·have ha:al=false:=by
     cases al
     ·rfl
     ·have h3:=HL.out.1 rfl i hic
      rw[←Hq.out] at h3
      cases h3
    subst ha
    clear hg
    go_wp2
    go_ret
    exact⟨rfl,rfl⟩
   ·clear hg
    go_wp2
    refine⟨⟨i+1,by omega,by push_cast;rfl,by first|rfl|trivial,(fun k hk=>?_:∀ k,k<i+1→isDg (bL L k) b=true)⟩,by simp[intOf];omega⟩
    by_cases hk2:k<i
    ·exact hM.out k hk2
    ·obtain rfl:k=i:=by omega
     exact Hq.out.symm
  ·have hii:¬ (i:Int)<(n:Int):=by omega
   have ha:al=true:=HL.out.2 fun k hk=>hM.out k (by omega)
   subst ha
   clear hg hM
   go_wp2
   go_ret
   have he:L.isEmpty=decide (L = []):=by cases L <;> simp
   refine⟨?_,rfl⟩
   show Ending.returned (Value.bool (!L.isEmpty))=_
   rw[he]
end Go.Proofs.YtfkaogdmlcdceaaGreatDoor
namespace Go.Proofs.YtfkaogdmlcdceaaGreatDoor
open Go Go.RowKit Go.Fl64
theorem below_iter (w:World) (s:ByteArray) (p:Nat):Below w.heap.size w (w.iter s p):=(Below.refl _ _).alloc (Nat.le_refl _) _
theorem Drune_1 (c0 c1:UInt8) (h0:c0.toNat<128) (h1:c1.toNat<128) (r:Int) (hr:128≤r) (hr2:r≤2147483647) (w:World) :
  Calls Tryz.prog 171 #[.string ⟨#[c0,c1]⟩,.int .i32 r] w fun e w'=>e=.returned (.int .i64 (-1))∧Bw w w':=by
 have hsz:(⟨#[c0,c1]⟩:ByteArray).size=2:=rfl
 obtain⟨s,hs⟩:∃ s:ByteArray,s=⟨#[c0,c1]⟩:=⟨_,rfl⟩
 rw[←hs] at hsz ⊢
 have q1:(0:Int)≤r:=by omega
 have q2:¬ (r<128):=by omega
 have g0:s[0]'(by omega)=c0:=by subst hs;rfl
 have g1:s[1]'(by omega)=c1:=by subst hs;rfl
 by_cases h3:r=65533
 ·subst h3
  have n0:=fun ty=>run_next_ascii (P:=Tryz.prog) w s 0 ty (by omega) (by rw[g0];exact h0)
  have n1:=fun ty=>run_next_ascii (P:=Tryz.prog) w s 1 ty (by omega) (by rw[g1];exact h1)
  have n2:=fun ty=>run_next_end (P:=Tryz.prog) w s 2 ty (by omega)
  rw[g0] at n0
  rw[g1] at n1
  have e0:((c0.toNat:Int)==65533)=false:=by rw[beq_eq_false_iff_ne];omega
  have e1:((c1.toNat:Int)==65533)=false:=by rw[beq_eq_false_iff_ne];omega
  have HB:Hid (Below w.heap.size w (w.iter s 2)):=below_iter _ _ _
  clear hs g0 g1 hr hr2 q1 q2 h0 h1
  go_enter Tryz.func171,Tryz.ntmps171
  go_wp2_with fail
  go_loopg [5,6] 2 (fun g _ _ wx=>∃ i:Nat,i+g=2∧wx=w.iter s i)
  case atStart=>exact⟨0,rfl,rfl⟩
  case round =>
   obtain⟨i,hig,rfl⟩:=hrel
   rcases(by omega:i=0∨i=1∨i=2)with rfl|rfl|rfl
   ·go_wp2
    go_roundg 1
    case measure=>omega
    case rel=>exact⟨1,rfl,rfl⟩
   ·go_wp2
    go_roundg 0
    case measure=>omega
    case rel=>exact⟨2,rfl,rfl⟩
   ·go_wp2
    go_ret
    exact⟨rfl,HB.out⟩
 ·have h3':(r==65533)=false:=by rw[beq_eq_false_iff_ne];exact h3
  have kv:=Tryz.utf8_ValidRune r
  cases hv:Lib.validRune r
  ·rw[hv] at kv
   clear hs g0 g1 hsz h3 hv
   go_enter Tryz.func171,Tryz.ntmps171
   go_wp2_with (first|(go_at_call 229;refine(kv _).mono ?_;rintro e w' ⟨rfl,hw⟩;replace hw:=hw.symm;subst hw))
   go_ret
   exact⟨rfl,Below.refl _ _⟩
  ·rw[hv] at kv
   have hval:Utf8.valid r=true:=by
    rw[validRune_eq]
    unfold Lib.validRune at hv
    simpa [validRune] using hv
   obtain⟨f1,f2,f3⟩:=encode_facts r hval hr
   have hcv:∀ w,(convert 21 9 (.int .i32 r)).run Tryz.prog w=.ok (.string (Utf8.encode r)) w:=fun w=>run_convert_int_string w _ _ _ _ (by rw[Tryz.underlying21];rfl) Tryz.underlying9
   generalize hE:Utf8.encode r=E at *
   obtain⟨lz,hlz⟩:∃ lz,E.size=lz:=⟨_,rfl⟩
   have wl:IntKind.i64.wrap ((lz:Int) - 1)=((lz - 1:Nat):Int):=by rw[IntKind.wrap_i64];omega
   clear hv hval h3 hE
   rw[hlz] at f1 f2
   clear g0 hr hr2
   by_cases hl:lz=2
   ·obtain⟨cl,hcl⟩:∃ cl:UInt8,E[1]'(by omega)=cl:=⟨_,rfl⟩
    have hc128:128≤cl.toNat:=by
     have:=f3 (by omega)
     rw[←hcl]
     simpa [hlz,hl] using this
    subst hl
    have kk:∀ w,Calls Tryz.prog 228 #[.string ByteArray.empty,.int .u8 (cl.toNat:Int)] w fun e w'=>e=.returned (.int .i64 (-1))∧w'=w:=fun w=>Tryz.strings_IndexByte ByteArray.empty (cl.toNat:Int) w
    have x2:IntKind.i64.wrap (1+1)=2:=by decide
    have x3:IntKind.i64.wrap 2=2:=by decide
    have ne:((c1.toNat:Int)==(cl.toNat:Int))=false:=by rw[beq_eq_false_iff_ne];omega
    have gs:∀ h,(s[1]'h).toNat=c1.toNat:=fun h=>by rw[g1]
    have gE:∀ h,(E[1]'h).toNat=cl.toNat:=fun h=>by rw[hcl]
    have x1:(1:Int)<2:=by decide
    clear f3 f1 f2 g1 hcl hs
    go_enter Tryz.func171,Tryz.ntmps171
    go_wp2_with (first|(go_at_call 229;refine(kv _).mono ?_;rintro e w' ⟨rfl,hw⟩;replace hw:=hw.symm;subst hw))
    go_step3
    go_wp2_with fail
    go_loopg [9] 0 (fun g v wx=>v=.int .i64 1∧wx=w)
    case atStart=>exact⟨rfl,rfl⟩
    case round =>
     obtain⟨rfl,hw⟩:=hrel
     replace hw:=hw.symm
     subst hw
     go_wp2_with fail
     go_step3
     go_upto_region 6 with fail
     go_quiet (fail)
     have HB:Hid (Below w.heap.size w (w.drewN nq)):=bdrewN (Below.refl _ _) _
     go_upto_region 7 with fail
     generalize w.drewN nq=w1 at *
     go_quiet (first|(go_at_call 228;refine Calls.quiet_of_same (kk _)))
     go_wp2
     rw[Exit.noGoto_ret]
     simp only[Exit.inBlock,Exit.then,Exit.noGoto_ret]
     go_ret
     exact⟨rfl,bdrewN HB.out _⟩
   ·have hn:¬ ((lz - 1:Nat):Int)<2:=by omega
    clear f3 hs g1 hl f1 f2
    go_enter Tryz.func171,Tryz.ntmps171
    go_wp2_with (first|(go_at_call 229;refine(kv _).mono ?_;rintro e w' ⟨rfl,hw⟩;replace hw:=hw.symm;subst hw))
    go_step3
    go_wp2_with fail
    go_loopg [9] 0 (fun g v wx=>v=.int .i64 ((lz - 1:Nat):Int)∧wx=w)
    case atStart=>exact⟨rfl,rfl⟩
    case round =>
     obtain⟨rfl,hw⟩:=hrel
     replace hw:=hw.symm
     subst hw
     go_wp2
     rw[Exit.noGoto_ret]
     go_ret
     exact⟨rfl,Below.refl _ _⟩
def asc (L:List UInt8):Bool:=L.all (fun c=>decide (c.toNat<128))
def IxA (L M:List UInt8) (v:Int):Prop:=((asc L=true∨8<L.length)→v=Lib.indexAny L M)∧(v = -1∨∃ i,i<L.length∧v=(i:Int)∧∃ c,L[i]?=some c∧M.contains c=true)
theorem Dany_1 (L:List UInt8) (c0 c1:UInt8) (h0:c0.toNat<128) (h1:c1.toNat<128) (w:World) (h8:L.length≤8) :
  Calls Tryz.prog 117 #[.string ⟨L.toArray⟩,.string ⟨#[c0,c1]⟩] w fun e w'=>∃ v:Int,e=.returned (.int .i64 v)∧(v = -1∨∃ i,i<L.length∧v=(i:Int)∧∃ c,L[i]?=some c ∧ [c0,c1].contains c=true)∧Bw w w':=by
 obtain⟨s,hs⟩:∃ s:ByteArray,s=⟨L.toArray⟩:=⟨_,rfl⟩
 obtain⟨t,ht⟩:∃ t:ByteArray,t=⟨#[c0,c1]⟩:=⟨_,rfl⟩
 have hsz:s.size=L.length:=by rw[hs];rfl
 have htz:t.size=2:=by rw[ht];rfl
 have hte:t.toList.isEmpty=false:=by rw[Lib.toList_data,ht];rfl
 have Hl:Hid (∀ i (h:i<s.size),L[i]?=some (s[i]'h)):=fun i h=>by
  have h2:i<L.length:=by omega
  subst hs
  rw[List.getElem?_eq_getElem h2]
  rfl
 have kr:∀ (r:Int) W,128≤r→r≤2147483647→Calls Tryz.prog 171 #[.string t,.int .i32 r] W fun e w'=>e=.returned (.int .i64 (-1))∧Bw W w':=fun r W a b=>by rw[ht];exact Drune_1 c0 c1 h0 h1 r a b W
 have ka:∀ (r:Int) W,0≤r→r<128→Calls Tryz.prog 171 #[.string t,.int .i32 r] W fun e w'=>e=.returned (.int .i64 (Lib.indexByte [c0,c1] r.toNat.toUInt8))∧w'=W:=fun r W a b=>by
  have h:=Tryz.strings_IndexRune_ascii t r W a b
  rw[ht] at h ⊢
  exact h
 have ku:=Tryz.strings_shouldUseASCIISet
 rw[←hs,←ht]
 clear hs ht
 go_enter Tryz.func117,Tryz.ntmps117
 have hu:∀ W,Calls Tryz.prog 172 #[.int .i64 (L.length:Int)] W fun e w'=>e=.returned (.bool false)∧w'=W:=fun W=>by
  have h:=ku (L.length:Int) W
  rw[show decide ((8:Int)<(L.length:Int))=false from decide_eq_false (by omega)] at h
  exact h
 clear ku
 obtain⟨n,hn⟩:∃ n,L.length=n:=⟨_,rfl⟩
 rw[hn] at hsz h8
 go_wp2_with (first|(go_at_call 172;rw[hn] at hu;refine(hu _).mono ?_;rintro e w' ⟨rfl,hw⟩;replace hw:=hw.symm;subst hw))
 go_loopg [9,10] n (fun g _ _ wx=>∃ p:Nat,n≤p+g∧Hid (wx.heap[w.heap.size]?=some (.stringIter s p)∧Bw w wx))
 case atStart=>exact⟨0,by omega,⟨World.iter_heap _ _ _,below_iter _ _ _⟩⟩
 case round =>
  obtain⟨p,hpg,HI⟩:=hrel
  by_cases hp:p<n
  ·have hp':p<s.size:=by omega
   have hnx:=fun ty=>Lib.run_next_any_at (P:=Tryz.prog) wr w.heap.size s p ty HI.out.1 hp'
   obtain⟨x,hx⟩:∃ x:UInt8,s[p]'hp'=x:=⟨_,rfl⟩
   have HX:Hid (L[p]?=some x):=(by rw[Hl.out p hp',hx]:L[p]?=some x)
   have hd2:1≤(Utf8.decode s p).2:=by
    by_cases h:(s[p]'hp').toNat<128
    ·rw[decode_ascii s p hp' h];exact Nat.le_refl 1
    ·exact(decode_high s p hp' (by omega)).2
   have HN:Hid ((wr.iterAt w.heap.size s (p+(Utf8.decode s p).2)).heap[w.heap.size]?=some (.stringIter s (p+(Utf8.decode s p).2))∧Below w.heap.size w (wr.iterAt w.heap.size s (p+(Utf8.decode s p).2))):=⟨Lib.iterAt_heap _ _ _ _ _ HI.out.1,Lib.below_iterAt HI.out.2 (Nat.le_refl _) _ _⟩
   generalize hp2:p+(Utf8.decode s p).2=p2 at *
   have hpp:p<p2:=by omega
   generalize wr.iterAt w.heap.size s p2=W2 at *
   by_cases ha:x.toNat<128
   ·have hd1:(Utf8.decode s p).1=x.toNat:=by rw[decode_ascii s p hp' (by rw[hx];exact ha),hx]
    rw[hd1] at hnx
    have hk:=ka (x.toNat:Int) W2 (by omega) (by omega)
    have hback:((x.toNat:Int)).toNat.toUInt8=x:=by simp
    rw[hback] at hk
    have hcon:=Lib.contains_iff_indexByte [c0,c1] x
    clear hd2 hd1 hp2 hx ka kr hback
    cases hin : [c0,c1].contains x
    ·rw[hin] at hcon
     have hlt:¬ ((0:Int)≤Lib.indexByte [c0,c1] x):=of_decide_eq_false hcon.symm
     clear hcon
     generalize Lib.indexByte [c0,c1] x=v at *
     go_wp2_with fail
     refine hk.mono ?_
     rintro e w' ⟨rfl,hw⟩
     replace hw:=hw.symm
     subst hw
     go_wp2
     go_roundg (gk - 1)
     case measure=>omega
     case rel=>exact⟨p2,by omega,HN⟩
    ·rw[hin] at hcon
     have hge:(0:Int)≤Lib.indexByte [c0,c1] x:=of_decide_eq_true hcon.symm
     clear hcon
     generalize Lib.indexByte [c0,c1] x=v at *
     have HC:Hid ([c0,c1].contains x=true):=hin
     clear hin
     go_wp2_with fail
     refine hk.mono ?_
     rintro e w' ⟨rfl,hw⟩
     replace hw:=hw.symm
     subst hw
     go_wp2
     go_ret
     exact⟨_,rfl,.inr ⟨p,by omega,rfl,x,HX.out,HC.out⟩,HN.out.2⟩
   ·have hd1:=(decode_high s p hp' (by rw[hx];omega)).1
    have hd3:=decode_le s p
    have hk:=kr ((Utf8.decode s p).1:Int) W2 (by omega) (by omega)
    generalize (Utf8.decode s p).1=r at *
    clear hd2 hd1 hd3 hp2 hx ka kr
    go_wp2_with fail
    refine hk.mono ?_
    rintro e w3 ⟨rfl,hb⟩
    have HN3:Hid (w3.heap[w.heap.size]?=some (.stringIter s p2)∧Bw w w3):=⟨(hb.block _ (Array.getElem?_eq_some_iff.1 HN.out.1).1).trans HN.out.1,HN.out.2.trans (hb.mono HN.out.2.size)⟩
    clear hk hb HN
    go_wp2
    go_roundg (gk - 1)
    case measure=>omega
    case rel=>exact⟨p2,by omega,HN3⟩
  ·have hp':¬ p<s.size:=by omega
   have hnx:=fun ty=>Lib.run_next_end_at (P:=Tryz.prog) wr w.heap.size s p ty HI.out.1 hp'
   clear ka kr
   go_wp2
   go_ret
   exact⟨_,rfl,.inl rfl,HI.out.2⟩
theorem set_zero:(∀ w,(zeroValue 158).run Tryz.prog w=.ok (.agg (Array.replicate 256 (.bool false))) w)∧(Tryz.prog.info? 158).map (·.size)=some 256:=zero_of_info (by kernel_rfl)
theorem indexAny_in (L M:List UInt8):Lib.indexAny L M = -1∨∃ i,i<L.length∧Lib.indexAny L M=(i:Int)∧∃ c,L[i]?=some c∧M.contains c=true:=by
 induction L with
 | nil=>exact .inl rfl
 | cons b l ih =>
  unfold Lib.indexAny
  by_cases hb:M.contains b=true
  ·rw[if_pos hb]
   exact .inr ⟨0,by simp,rfl,b,rfl,hb⟩
  ·rw[if_neg hb]
   rcases ih with h|⟨i,h1,h2,c,h3,h4⟩
   ·rw[h];exact .inl rfl
   ·rw[h2]
    have hne:((i:Int) == -1)=false:=by rw[beq_eq_false_iff_ne];omega
    rw[hne]
    exact .inr ⟨i+1,by simp;omega,by simp,c,by simpa using h3,h4⟩
theorem Dany (L:List UInt8) (c0 c1:UInt8) (h0:c0.toNat<128) (h1:c1.toNat<128) (w:World) (hL:L.length≤1100000) :
  Calls Tryz.prog 117 #[.string ⟨L.toArray⟩,.string ⟨#[c0,c1]⟩] w fun e w'=>∃ v:Int,e=.returned (.int .i64 v)∧IxA L [c0,c1] v∧Bw w w':=by
 have hc:∀ (j:Nat) (b:UInt8),(⟨#[c0,c1]⟩:ByteArray).data.toList[j]?=some b→b.toNat<128:=fun j b hb=>by
  have hb' : [c0,c1][j]?=some b:=hb
  rcases(by omega:j=0∨j=1∨2≤j)with rfl|rfl|h
  ·obtain rfl:c0=b:=by simpa using hb'
   exact h0
  ·obtain rfl:c1=b:=by simpa using hb'
   exact h1
  ·rw[List.getElem?_eq_none (by simpa using h)] at hb'
   cases hb'
 have hsz:(⟨L.toArray⟩:ByteArray).size=L.length:=rfl
 by_cases h8:L.length≤8
 ·by_cases ha:asc L=true
  ·refine(Tryz.strings_IndexAny_short ⟨L.toArray⟩ ⟨#[c0,c1]⟩ w (by show 2≤2;omega) h8 ?_).mono ?_
   ·intro j b hb
    have hb':L[j]?=some b:=by simpa using hb
    have:=List.all_eq_true.1 ha b (List.mem_of_getElem? hb')
    simpa using this
   ·rintro e w' ⟨rfl,p,rfl⟩
    exact⟨_,rfl,⟨fun _=>rfl,indexAny_in _ _⟩,below_iter _ _ _⟩
  ·refine(Dany_1 L c0 c1 h0 h1 w h8).mono ?_
   rintro e w' ⟨v,rfl,hv,hb⟩
   exact⟨v,rfl,⟨fun h=>(h.elim ha (by omega)).elim,hv⟩,hb⟩
 ·refine(Tryz.strings_IndexAny_long set_zero.1 ⟨L.toArray⟩ ⟨#[c0,c1]⟩ w (by show 2≤2;omega) (by omega) (by omega) (by show 2<_;omega) hc).mono ?_
  rintro e w' ⟨rfl,rfl⟩
  exact⟨_,rfl,⟨fun _=>rfl,indexAny_in _ _⟩,((Below.refl _ _).alloc (Nat.le_refl _) _).alloc (by simp) _⟩
def dvP (b:Nat) (L:List UInt8):Nat→Nat
 | 0=>0
 | i+1=>dvP b L i*b+dgB (bL L i)
theorem dvP_lt {b:Nat} {L:List UInt8}:∀ {i:Nat},(∀ j,j<i→dgB (bL L j)<b)→dvP b L i<b^i
 | 0,_=>Nat.one_pos
 | i+1,h=>by
  have h1:=dvP_lt (i:=i) fun j hj=>h j (by omega)
  have h2:=h i (by omega)
  show dvP b L i*b+dgB (bL L i)<b^(i+1)
  rw[Nat.pow_succ]
  have h3:(dvP b L i+1)*b≤b^i*b:=Nat.mul_le_mul_right _ h1
  rw[Nat.add_mul] at h3
  omega
theorem btA_bL (L:List UInt8) (i:Nat):btA ⟨L.toArray⟩ i=bL L i:=by
 unfold btA bL
 simp
theorem dgB_10 {c:Nat} (h:dgB c<10):48≤c∧c≤57:=by
 unfold dgB at h
 split at h
 ·assumption
 ·split at h <;> omega
theorem dgB_16 {c:Nat} (h0:¬ (48≤c∧c≤57)) (h:dgB c<16):97≤lowB c∧lowB c≤102:=by
 unfold dgB at h
 rw[if_neg h0] at h
 split at h
 ·assumption
 ·omega
theorem Dpu_10 (L:List UInt8) (w:World) (hs:L.length≤15) (h00:0<L.length) (hd:∀ j,j<L.length→dgB (bL L j)<10) :
  Calls Tryz.prog 233 #[.string ⟨L.toArray⟩,.int .i64 10,.int .i64 64] w fun r w'=>r=.returned (.tuple #[.int .u64 ((dvP 10 L L.length:Nat):Int),.nilIface])∧Bw w w':=by
 obtain⟨s,hse⟩:∃ s:ByteArray,s=⟨L.toArray⟩:=⟨_,rfl⟩
 have hsn:s.size=L.length:=by rw[hse];rfl
 have h0:s.toList.isEmpty=false:=by
  rw[Lib.toList_data,hse]
  cases L with
  | nil=>simp at h00
  | cons a t=>rfl
 obtain⟨cap,W,hc,hB,hcell⟩:=conv_bytes s w
 have HB:Hid (Bw w W):=hB
 have HC:Hid (∀ j,j<L.length→W.cell? ⟨w.heap.size,j,none⟩=some (.int .u8 ((bL L j:Nat):Int))):=fun j hj=>by
  rw[hcell j (by omega),hse,btA_bL]
 have HD:Hid (∀ j,j<L.length→dgB (bL L j)<10):=hd
 rw[←hse]
 clear hB hcell hd hse
 have mx1:IntKind.u64.wrap 18446744073709551616=0:=by decide
 have mx2:IntKind.u64.wrap (0 - 1)=18446744073709551615:=by decide
 have mx3:IntKind.u64.wrap (-1)=18446744073709551615:=by decide
 rw[hsn] at hc
 generalize hn:L.length=n at *
 go_enter Tryz.func233,Tryz.ntmps233
 go_wp2_with fail
 clear hc mx1 mx2 mx3
 go_loopw [101,13,12] (fun i v u wr=>∃ j:Nat,j≤n∧i=.int .i64 (j:Int)∧v=.int .u64 ((dvP 10 L j:Nat):Int)∧u=.bool false∧wr=W) (fun i _ _ _=>n - (intOf i).toNat)
 case atStart=>exact⟨0,by omega,rfl,rfl,rfl,rfl⟩
 case round =>
  obtain⟨j,hj,rfl,rfl,rfl,rfl⟩:=hrel
  by_cases hlt:j<n
  ·have hcj:=HC.out j hlt
   have hb:=bL_lt L j
   have hlb:=lowB_lt hb
   have hp:dvP 10 L j<10^j:=dvP_lt fun k hk=>HD.out k (by omega)
   have hp7:dvP 10 L j<72057594037927936:=Nat.lt_of_lt_of_le hp (Nat.le_trans (Nat.pow_le_pow_right (by omega) (show j≤14 by omega)) (by decide))
   have kl:=clower (bL L j) hb
   have hdc:=HD.out j hlt
   have HS:Hid (dvP 10 L (j+1)=dvP 10 L j*10+dgB (bL L j)):=rfl
   generalize hce:bL L j=c at *
   generalize hve:dvP 10 L j=v at *
   have hdec:48≤c∧c≤57:=dgB_10 hdc
   obtain⟨D,hDe⟩:∃ D:Nat,D=dgB c:=⟨_,rfl⟩
   have hdg:=dgB_dec hdec.1 hdec.2
   have hD16:D<10:=by omega
   have q0:((c:Int)==95)=false:=by rw[beq_eq_false_iff_ne];omega
   have q1:(48:Int)≤(c:Int):=by omega
   have q2:(c:Int)≤57:=by omega
   have q3:IntKind.u8.wrap ((c:Int) - 48)=(D:Int):=by rw[IntKind.wrap_u8];omega
   obtain⟨M,hM⟩:∃ M:Nat,M=v*10:=⟨_,rfl⟩
   obtain⟨N1,hN⟩:∃ N1:Nat,N1=M+D:=⟨_,rfl⟩
   have v1:IntKind.u64.wrap ((v:Int)*10)=(M:Int):=by rw[IntKind.wrap_u64];omega
   have v2:IntKind.u64.wrap ((M:Int)+(D:Int))=(N1:Int):=by rw[IntKind.wrap_u64];omega
   have v3:IntKind.u64.wrap (D:Int)=(D:Int):=by rw[IntKind.wrap_u64];omega
   have v4:IntKind.u8.wrap 10=10:=by decide
   have v5:IntKind.u64.wrap 10=10:=by decide
   have HN:Hid (dvP 10 L (j+1)=N1):=(by rw[HS.out,←hDe];omega:dvP 10 L (j+1)=N1)
   have y1:decide ((10:Int)≤(D:Int))=false:=decide_eq_false (by omega)
   have y2:decide ((1844674407370955162:Int)≤(v:Int))=false:=decide_eq_false (by omega)
   have y3:decide ((N1:Int)<(M:Int))=false:=decide_eq_false (by omega)
   have y4:decide ((18446744073709551615:Int)<(N1:Int))=false:=decide_eq_false (by omega)
   clear hN hM hp hp7 hDe HS hve hce hlb hdec hdg hb hD16 hdc
   go_upto_region 46 with (first|(go_at_call 266;refine(kl _).mono ?_;rintro e w' ⟨rfl,hw'⟩;replace hw':=hw'.symm;subst hw'))
   clear q0 q1 q2 q3 kl
   clear h0 h00 hn hcj
   go_upto_region 48 with fail
   go_upto_region 50 with fail
   go_wp2_with fail
   go_roundw
   case rel=>exact⟨j+1,by omega,by simp,by rw[HN.out],(by first|rfl|trivial),(by first|rfl|trivial)⟩
   case measure=>simp[intOf];omega
   all_goals (exfalso;have q:=of_decide_eq_false y3;omega)
  ·obtain rfl:n=j:=by omega
   go_wp2_with fail
   refine bodyPost_ret (results_tmp2 rfl _ _ _) rfl ?_
   exact⟨rfl,HB.out⟩
theorem Dpu_16 (L:List UInt8) (w:World) (hs:L.length≤15) (h00:0<L.length) (hd:∀ j,j<L.length→dgB (bL L j)<16) :
  Calls Tryz.prog 233 #[.string ⟨L.toArray⟩,.int .i64 16,.int .i64 64] w fun r w'=>r=.returned (.tuple #[.int .u64 ((dvP 16 L L.length:Nat):Int),.nilIface])∧Bw w w':=by
 obtain⟨s,hse⟩:∃ s:ByteArray,s=⟨L.toArray⟩:=⟨_,rfl⟩
 have hsn:s.size=L.length:=by rw[hse];rfl
 have h0:s.toList.isEmpty=false:=by
  rw[Lib.toList_data,hse]
  cases L with
  | nil=>simp at h00
  | cons a t=>rfl
 obtain⟨cap,W,hc,hB,hcell⟩:=conv_bytes s w
 have HB:Hid (Bw w W):=hB
 have HC:Hid (∀ j,j<L.length→W.cell? ⟨w.heap.size,j,none⟩=some (.int .u8 ((bL L j:Nat):Int))):=fun j hj=>by
  rw[hcell j (by omega),hse,btA_bL]
 have HD:Hid (∀ j,j<L.length→dgB (bL L j)<16):=hd
 rw[←hse]
 clear hB hcell hd hse
 have mx1:IntKind.u64.wrap 18446744073709551616=0:=by decide
 have mx2:IntKind.u64.wrap (0 - 1)=18446744073709551615:=by decide
 have mx3:IntKind.u64.wrap (-1)=18446744073709551615:=by decide
 rw[hsn] at hc
 generalize hn:L.length=n at *
 go_enter Tryz.func233,Tryz.ntmps233
 go_wp2_with fail
 clear hc mx1 mx2 mx3
 go_loopw [101,13,12] (fun i v u wr=>∃ j:Nat,j≤n∧i=.int .i64 (j:Int)∧v=.int .u64 ((dvP 16 L j:Nat):Int)∧u=.bool false∧wr=W) (fun i _ _ _=>n - (intOf i).toNat)
 case atStart=>exact⟨0,by omega,rfl,rfl,rfl,rfl⟩
 case round =>
  obtain⟨j,hj,rfl,rfl,rfl,rfl⟩:=hrel
  by_cases hlt:j<n
  ·have hcj:=HC.out j hlt
   have hb:=bL_lt L j
   have hlb:=lowB_lt hb
   have hp:dvP 16 L j<16^j:=dvP_lt fun k hk=>HD.out k (by omega)
   have hp7:dvP 16 L j<72057594037927936:=Nat.lt_of_lt_of_le hp (Nat.le_trans (Nat.pow_le_pow_right (by omega) (show j≤14 by omega)) (by decide))
   have kl:=clower (bL L j) hb
   have hdc:=HD.out j hlt
   have HS:Hid (dvP 16 L (j+1)=dvP 16 L j*16+dgB (bL L j)):=rfl
   generalize hce:bL L j=c at *
   generalize hve:dvP 16 L j=v at *
   by_cases hdec:48≤c∧c≤57
   ·obtain⟨D,hDe⟩:∃ D:Nat,D=dgB c:=⟨_,rfl⟩
    have hdg:=dgB_dec hdec.1 hdec.2
    have hD16:D<16:=by omega
    have q0:((c:Int)==95)=false:=by rw[beq_eq_false_iff_ne];omega
    have q1:(48:Int)≤(c:Int):=by omega
    have q2:(c:Int)≤57:=by omega
    have q3:IntKind.u8.wrap ((c:Int) - 48)=(D:Int):=by rw[IntKind.wrap_u8];omega
    obtain⟨M,hM⟩:∃ M:Nat,M=v*16:=⟨_,rfl⟩
    obtain⟨N1,hN⟩:∃ N1:Nat,N1=M+D:=⟨_,rfl⟩
    have v1:IntKind.u64.wrap ((v:Int)*16)=(M:Int):=by rw[IntKind.wrap_u64];omega
    have v2:IntKind.u64.wrap ((M:Int)+(D:Int))=(N1:Int):=by rw[IntKind.wrap_u64];omega
    have v3:IntKind.u64.wrap (D:Int)=(D:Int):=by rw[IntKind.wrap_u64];omega
    have v4:IntKind.u8.wrap 16=16:=by decide
    have v5:IntKind.u64.wrap 16=16:=by decide
    have HN:Hid (dvP 16 L (j+1)=N1):=(by rw[HS.out,←hDe];omega:dvP 16 L (j+1)=N1)
    have y1:decide ((16:Int)≤(D:Int))=false:=decide_eq_false (by omega)
    have y2:decide ((1152921504606846976:Int)≤(v:Int))=false:=decide_eq_false (by omega)
    have y3:decide ((N1:Int)<(M:Int))=false:=decide_eq_false (by omega)
    have y4:decide ((18446744073709551615:Int)<(N1:Int))=false:=decide_eq_false (by omega)
    clear hN hM hp hp7 hDe HS hve hce hlb hdec hdg hb hD16 hdc
    go_upto_region 46 with (first|(go_at_call 266;refine(kl _).mono ?_;rintro e w' ⟨rfl,hw'⟩;replace hw':=hw'.symm;subst hw'))
    clear q0 q1 q2 q3 kl
    clear h0 h00 hn hcj
    go_upto_region 48 with fail
    go_upto_region 50 with fail
    go_wp2_with fail
    go_roundw
    case rel=>exact⟨j+1,by omega,by simp,by rw[HN.out],(by first|rfl|trivial),(by first|rfl|trivial)⟩
    case measure=>simp[intOf];omega
    all_goals (exfalso;have q:=of_decide_eq_false y3;omega)
   ·have hlet:97≤lowB c∧lowB c≤102:=dgB_16 hdec hdc
    have hc95:c≠95:=by
     intro h
     rw[h] at hlet
     exact absurd hlet.2 (by decide)
    have hc48:57<c:=by
     apply Decidable.byContradiction
     intro h
     have:=low_small (show c<48 by omega)
     omega
    have q95:((c:Int)==95)=false:=by rw[beq_eq_false_iff_ne];omega
    have qd:¬ ((c:Int)≤57):=by omega
    have qe:(48:Int)≤(c:Int):=by omega
    obtain⟨D,hDe⟩:∃ D:Nat,D=dgB c:=⟨_,rfl⟩
    have hdg:=dgB_let hdec hlet.1 hlet.2
    have hD16:D<16:=by omega
    obtain⟨L1,hL1⟩:∃ L1:Nat,L1=lowB c:=⟨_,rfl⟩
    rw[←hL1] at kl hlet hdg
    obtain⟨L2,hL2⟩:∃ L2:Nat,L2=L1 - 97:=⟨_,rfl⟩
    have q1:(97:Int)≤(L1:Int):=by omega
    have q2:(L1:Int)≤122:=by omega
    have q3:IntKind.u8.wrap ((L1:Int) - 97)=(L2:Int):=by rw[IntKind.wrap_u8];omega
    have q4:IntKind.u8.wrap ((L2:Int)+10)=(D:Int):=by rw[IntKind.wrap_u8];omega
    obtain⟨M,hM⟩:∃ M:Nat,M=v*16:=⟨_,rfl⟩
    obtain⟨N1,hN⟩:∃ N1:Nat,N1=M+D:=⟨_,rfl⟩
    have v1:IntKind.u64.wrap ((v:Int)*16)=(M:Int):=by rw[IntKind.wrap_u64];omega
    have v2:IntKind.u64.wrap ((M:Int)+(D:Int))=(N1:Int):=by rw[IntKind.wrap_u64];omega
    have v3:IntKind.u64.wrap (D:Int)=(D:Int):=by rw[IntKind.wrap_u64];omega
    have v4:IntKind.u8.wrap 16=16:=by decide
    have v5:IntKind.u64.wrap 16=16:=by decide
    have HN:Hid (dvP 16 L (j+1)=N1):=(by rw[HS.out,←hDe];omega:dvP 16 L (j+1)=N1)
    have y1:decide ((16:Int)≤(D:Int))=false:=decide_eq_false (by omega)
    have y2:decide ((1152921504606846976:Int)≤(v:Int))=false:=decide_eq_false (by omega)
    have y3:decide ((N1:Int)<(M:Int))=false:=decide_eq_false (by omega)
    have y4:decide ((18446744073709551615:Int)<(N1:Int))=false:=decide_eq_false (by omega)
    clear hN hM hp hp7 hDe HS hve hce hlb hL1 hL2 hlet hdec hdg hb hD16 hdc hc95 hc48
    go_upto_region 46 with (first|(go_at_call 266;refine(kl _).mono ?_;rintro e w' ⟨rfl,hw'⟩;replace hw':=hw'.symm;subst hw'))
    clear q1 q2 q3 q4 qd qe q95 kl
    clear h0 h00 hn hcj
    go_upto_region 48 with fail
    go_upto_region 50 with fail
    go_wp2_with fail
    go_roundw
    case rel=>exact⟨j+1,by omega,by simp,by rw[HN.out],(by first|rfl|trivial),(by first|rfl|trivial)⟩
    case measure=>simp[intOf];omega
    all_goals (exfalso;have q:=of_decide_eq_false y3;omega)
  ·obtain rfl:n=j:=by omega
   go_wp2_with fail
   refine bodyPost_ret (results_tmp2 rfl _ _ _) rfl ?_
   exact⟨rfl,HB.out⟩
theorem Dspu_10 (L:List UInt8) (w:World) (hs:L.length≤15) (h00:0<L.length) (hd:∀ j,j<L.length→dgB (bL L j)<10) :
  Calls Tryz.prog 176 #[.string ⟨L.toArray⟩,.int .i64 10,.int .i64 64] w fun r w'=>r=.returned (.tuple #[.int .u64 ((dvP 10 L L.length:Nat):Int),.nilIface])∧Bw w w':=by
 have k:=Dpu_10 L w hs h00 hd
 clear hd
 generalize dvP 10 L L.length=D at *
 go_enter Tryz.func176,Tryz.ntmps176
 go_wp2_with fail
 refine k.mono ?_
 rintro r w1 ⟨rfl,hb⟩
 have HB:Hid (Bw w w1):=hb
 clear k hb
 go_wp2_with fail
 refine bodyPost_ret (results_tmp2 rfl _ _ _) rfl ?_
 exact⟨rfl,HB.out⟩
theorem Dspu_16 (L:List UInt8) (w:World) (hs:L.length≤15) (h00:0<L.length) (hd:∀ j,j<L.length→dgB (bL L j)<16) :
  Calls Tryz.prog 176 #[.string ⟨L.toArray⟩,.int .i64 16,.int .i64 64] w fun r w'=>r=.returned (.tuple #[.int .u64 ((dvP 16 L L.length:Nat):Int),.nilIface])∧Bw w w':=by
 have k:=Dpu_16 L w hs h00 hd
 clear hd
 generalize dvP 16 L L.length=D at *
 go_enter Tryz.func176,Tryz.ntmps176
 go_wp2_with fail
 refine k.mono ?_
 rintro r w1 ⟨rfl,hb⟩
 have HB:Hid (Bw w w1):=hb
 clear k hb
 go_wp2_with fail
 refine bodyPost_ret (results_tmp2 rfl _ _ _) rfl ?_
 exact⟨rfl,HB.out⟩
end Go.Proofs.YtfkaogdmlcdceaaGreatDoor
namespace Go.Proofs.YtfkaogdmlcdceaaGreatDoor
open Go.RowKit Go.Fl64
def rdE (L:List UInt8):Nat→Nat
 | 0=>0
 | k+1=>min (10*rdE L k+(bL L k - 48)) 6000
theorem rdE_le (L:List UInt8) (k:Nat):rdE L k≤6000:=by
 cases k with
 | zero=>exact Nat.zero_le _
 | succ k=>exact Nat.min_le_right _ _
theorem isDg_ten {c:Nat} (h:isDg c 10=true):48≤c∧c≤57:=by
 unfold isDg at h
 simp at h
 exact h
theorem DreadExp_no (s D:List UInt8) (sg:Int) (w:World)
  (k1:∀ W,Calls Tryz.prog 52 #[.string ⟨s.toArray⟩] W fun r w'=>r=.returned (.tuple #[.int .i64 sg,.string ⟨D.toArray⟩])∧Bw W w')
  (k2:∀ W,Calls Tryz.prog 120 #[.string ⟨D.toArray⟩,.int .i64 10] W fun r w'=>r=.returned (.bool false)∧w'=W) :
  Calls Tryz.prog 118 #[.string ⟨s.toArray⟩] w fun r w'=>r=.returned (.tuple #[.int .i64 0,.bool false])∧Bw w w':=by
 go_enter Tryz.func118,Tryz.ntmps118
 go_wp2_with (first|(go_at_call 52;refine(k1 _).mono ?_;rintro r w1 ⟨rfl,hb1⟩)|(go_at_call 120;refine(k2 _).mono ?_;rintro r w' ⟨rfl,rfl⟩))
 refine bodyPost_ret (results_tmp2 rfl _ _ _) rfl ?_
 exact⟨rfl,hb1⟩
theorem DreadExp_1 (s D:List UInt8) (sg:Int) (w:World) (hL:D.length≤2000000) (hs:sg=1∨sg = -1)
  (k1:∀ W,Calls Tryz.prog 52 #[.string ⟨s.toArray⟩] W fun r w'=>r=.returned (.tuple #[.int .i64 sg,.string ⟨D.toArray⟩])∧Bw W w')
  (k2:∀ W,Calls Tryz.prog 120 #[.string ⟨D.toArray⟩,.int .i64 10] W fun r w'=>r=.returned (.bool true)∧w'=W)
  (hd:Hid (∀ k,k<D.length→isDg (bL D k) 10=true)) :
  Calls Tryz.prog 118 #[.string ⟨s.toArray⟩] w fun r w'=>r=.returned (.tuple #[.int .i64 (sg*rdE D D.length),.bool true])∧Bw w w':=by
 have hsz:(⟨D.toArray⟩:ByteArray).size=D.length:=rfl
 obtain⟨n,hn⟩:∃ n,n=D.length:=⟨_,rfl⟩
 rw[←hn] at hsz hL hd ⊢
 have hg:∀ k (h:k<(⟨D.toArray⟩:ByteArray).size),((⟨D.toArray⟩:ByteArray)[k]'h).toNat=bL D k:=bL_get D
 have Hn:Hid (n=D.length):=hn
 have Hs:Hid (sg=1∨sg = -1):=hs
 clear hn hs
 go_enter Tryz.func118,Tryz.ntmps118
 go_wp2_with (first|(go_at_call 52;refine(k1 _).mono ?_;rintro r w1 ⟨rfl,hb1⟩)|(go_at_call 120;refine(k2 _).mono ?_;rintro r w' ⟨rfl,rfl⟩))
 clear k1 k2
 rename World=>w0
 have HB:Hid (Bw w w0):=hb1
 clear hb1
 go_loopw [6,18] (fun e v wr=>∃ i:Nat,i≤n∧e=.int .i64 (rdE D i:Nat)∧v=.int .i64 i∧wr=w0) (fun _ v _=>n - (intOf v).toNat)
 case atStart=>exact⟨0,Nat.zero_le _,rfl,rfl,rfl⟩
 case round =>
  obtain⟨i,hi,rfl,rfl,rfl⟩:=hrel
  obtain⟨E,hE⟩:∃ E,E=rdE D i:=⟨_,rfl⟩
  have hE6:E≤6000:=by rw[hE];exact rdE_le _ _
  rw[←hE]
  by_cases hic:i<n
  ·have hii:(i:Int)<(n:Int):=by omega
   obtain⟨c,hc⟩:∃ c,c=bL D i:=⟨_,rfl⟩
   have hcd:=isDg_ten (hd.out i hic)
   have hg2:=hg i
   rw[←hc] at hcd hg2
   have hwi:IntKind.i64.wrap ((i:Int)+1)=(i:Int)+1:=by rw[IntKind.wrap_i64];omega
   obtain⟨q,hq⟩:∃ q,c=48+q:=⟨c - 48,by omega⟩
   have hw1:IntKind.i64.wrap (10*(E:Int))=10*E:=by rw[IntKind.wrap_i64];omega
   have hw2:IntKind.u8.wrap ((c:Int) - 48)=(q:Int):=by rw[IntKind.wrap_u8];omega
   have hw3:IntKind.i64.wrap (q:Int)=(q:Int):=by rw[IntKind.wrap_i64];omega
   have hw4:IntKind.i64.wrap (10*(E:Int)+q)=10*E+q:=by rw[IntKind.wrap_i64];omega
   obtain⟨M,hM⟩:∃ M,M=rdE D (i+1):=⟨_,rfl⟩
   have hmin:min (10*(E:Int)+q) 6000=(M:Int):=by
    rw[hM]
    unfold rdE
    rw[←hE,←hc,hq]
    omega
   have HM:Hid (M=rdE D (i+1)):=hM
   clear hM hE hc hg
   go_wp2
   have e48:(48+(q:Int) - 48)=q:=by omega
   rw[e48,hmin]
   refine⟨⟨i+1,by omega,by rw[HM.out],by push_cast;rfl,trivial⟩,by simp[intOf];omega⟩
  ·have hii:¬ (i:Int)<(n:Int):=by omega
   obtain rfl:i=n:=by omega
   have HE:Hid (E=rdE D i):=hE
   clear hg hE
   rcases Hs.out with rfl|rfl
   ·have hw:IntKind.i64.wrap (1*(E:Int))=1*E:=by rw[IntKind.wrap_i64];omega
    go_wp2
    refine bodyPost_ret (results_tmp2 rfl _ _ _) rfl ?_
    rw[←HE.out]
    exact⟨rfl,HB.out⟩
   ·have hw:IntKind.i64.wrap (-1*(E:Int)) = -1*E:=by rw[IntKind.wrap_i64];omega
    have hw':IntKind.i64.wrap (-(E:Int)) = -E:=by rw[IntKind.wrap_i64];omega
    go_wp2
    refine bodyPost_ret (results_tmp2 rfl _ _ _) rfl ?_
    rw[←HE.out]
    refine⟨?_,HB.out⟩
    simp
end Go.Proofs.YtfkaogdmlcdceaaGreatDoor
