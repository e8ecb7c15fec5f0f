/- Own work: contracts of the program's functions, part 5: CNN CNO. -/
import Derived.Test.YtolefllepcdagaaA4

set_option maxHeartbeats 16000000
set_option maxRecDepth 200000
set_option linter.unusedVariables false
set_option linter.unusedSimpArgs false
namespace Go.Proofs.Ytolefllepcdagaa
open Go.RowKit
attribute [local go_sem] run_store_fltK
theorem dig_pi {w:World}:Calls Try.prog 4 #[.int .i64 1,.int .i64 5] w fun r w'=>r=.returned (.tuple #[.string ⟨#[51,46,49,52,49,53,57]⟩,.int .i64 0])∧Bw w w':=by
 have:=dig_ok (k:=1) (n:=5) (w:=w) (by omega) (by omega) (by omega)
 rw[txD_pi5] at this
 exact this
theorem bsure {w:World}:Calls Try.prog 5 #[] w fun r w'=>r=.returned (.bool true)∧Bw w w':=by
 have ho1:(FloatKind.f64.format.order 4614256656552045848 4614256656552045848==some Ordering.eq)=true:=by decide +kernel
 have ho2:(FloatKind.f64.format.order 4614256656552045849 4614256656552045849==some Ordering.eq)=true:=by decide +kernel
 go_enter Try.func5,Try.ntmps5
 go_wp2_with fail
 refine(dig_pi (w:=w)).mono ?_
 rintro r w1 ⟨rfl,hb1⟩
 have H1:Hid (Bw w w1):=hb1
 clear hb1
 go_wp2_with fail
 refine(tight_1 (w:=w1)).mono ?_
 rintro r w2 ⟨rfl,hb2⟩
 have H2:Hid (Bw w w2):=H1.out.trans (hb2.mono H1.out.size)
 clear hb2 H1
 obtain⟨W3,hW3⟩:∃ W3,W3=w2.alloc (.cells #[.float .f64 0,.float .f64 0] 38):=⟨_,rfl⟩
 have HV3:Hid (IvK W3 w2.heap.size 0 0∧Bw w W3):=(by rw[hW3];exact⟨IvK.new _ _ _,H2.out.alloc H2.out.size _⟩:IvK W3 w2.heap.size 0 0∧Bw w W3)
 obtain⟨⟨y0,y1⟩,y2,y3⟩:=HV3.out.1.facts
 go_upto_region 3 with (rw[←hW3];clear hW3)
 obtain⟨W4,hW4⟩:∃ W4,W4=(W3.setCell ⟨w2.heap.size,0,none⟩ (.float .f64 4614256656552045848)).setCell ⟨w2.heap.size,1,none⟩ (.float .f64 4614256656552045849):=⟨_,rfl⟩
 have HV4:Hid (IvK W4 w2.heap.size 4614256656552045848 4614256656552045849∧Bw w W4):=(by rw[hW4];exact⟨HV3.out.1.set _ _,below_set HV3.out.2 H2.out.size _ _⟩:IvK W4 w2.heap.size 4614256656552045848 4614256656552045849∧Bw w W4)
 rw[←hW4]
 clear hW4 HV3 y0 y1 y2 y3 H2
 go_wp2_with fail
 refine(tight_0 (w:=W4)).mono ?_
 rintro r w5 ⟨rfl,hb5⟩
 have HV5:Hid (IvK w5 w2.heap.size 4614256656552045848 4614256656552045849∧Bw w w5):=⟨HV4.out.1.box hb5,HV4.out.2.trans (hb5.mono HV4.out.2.size)⟩
 clear hb5 HV4
 obtain⟨W6,hW6⟩:∃ W6,W6=w5.alloc (.cells #[.float .f64 0,.float .f64 0] 38):=⟨_,rfl⟩
 have hb6:Bw w5 W6:=by rw[hW6];exact(Below.refl _ _).alloc (Nat.le_refl _) _
 have HV6:Hid (IvK W6 w5.heap.size 0 0∧IvK W6 w2.heap.size 4614256656552045848 4614256656552045849∧Bw w W6∧w2.heap.size<w5.heap.size∧w.heap.size≤w5.heap.size):=(by
  refine⟨?_,HV5.out.1.box hb6,HV5.out.2.trans (hb6.mono HV5.out.2.size),HV5.out.1.lt,HV5.out.2.size⟩
  rw[hW6];exact IvK.new _ _ _:IvK W6 w5.heap.size 0 0∧IvK W6 w2.heap.size 4614256656552045848 4614256656552045849∧Bw w W6∧w2.heap.size<w5.heap.size∧w.heap.size≤w5.heap.size)
 obtain⟨⟨y0,y1⟩,y2,y3⟩:=HV6.out.1.facts
 clear hb6
 go_upto_region 4 with (rw[←hW6];clear hW6)
 obtain⟨W7,hW7⟩:∃ W7,W7=(W6.setCell ⟨w5.heap.size,0,none⟩ (.float .f64 0)).setCell ⟨w5.heap.size,1,none⟩ (.float .f64 0):=⟨_,rfl⟩
 have HV7:Hid (IvK W7 w2.heap.size 4614256656552045848 4614256656552045849∧Bw w W7):=(by rw[hW7];exact⟨HV6.out.2.1.other (by have:=HV6.out.2.2.2.1;omega) _ _,below_set HV6.out.2.2.1 HV6.out.2.2.2.2 _ _⟩:IvK W7 w2.heap.size 4614256656552045848 4614256656552045849∧Bw w W7)
 rw[←hW7]
 clear hW7 HV6 HV5 y0 y1 y2 y3
 obtain⟨⟨y0,y1⟩,y2,y3⟩:=HV7.out.1.facts
 go_wp2_with fail
 go_ret
 exact⟨rfl,HV7.out.2⟩
theorem dig_any {k n:Int} {w:World}:Calls Try.prog 4 #[.int .i64 k,.int .i64 n] w fun r w'=>∃ s e,r=.returned (.tuple #[.string s,.int .i64 e])∧Bw w w':=by
 by_cases h:¬ (1≤k∧k≤8)∨n<0∨1000<n
 ·exact(dig_bad h).mono fun r w' ⟨e,hb⟩=>⟨_,_,e,hb⟩
 ·obtain⟨k',rfl⟩:∃ k':Nat,k=k':=⟨k.toNat,by omega⟩
  obtain⟨n',rfl⟩:∃ n':Nat,n=n':=⟨n.toNat,by omega⟩
  exact(dig_ok (by omega) (by omega) (by omega)).mono fun r w' ⟨e,hb⟩=>⟨_,_,e,hb⟩
theorem pre_ext {S T:List UInt8} (h:T.take S.length=S) (hl:S.length≤T.length):(⟨T.toArray⟩:ByteArray).extract 0 S.length=⟨S.toArray⟩:=by
 apply ByteArray.ext
 simp[ByteArray.data_extract]
 rw[h]
theorem cut_le {s t:ByteArray} {k n m:Int} {w:World} (hl:s.size≤t.size) (hp:t.extract 0 s.size=s)
  (k1:∀ W,Calls Try.prog 4 #[.int .i64 k,.int .i64 n] W fun r w'=>r=.returned (.tuple #[.string s,.int .i64 0])∧Bw W w')
  (k2:∀ W,Calls Try.prog 4 #[.int .i64 k,.int .i64 m] W fun r w'=>r=.returned (.tuple #[.string t,.int .i64 0])∧Bw W w') :
  Calls Try.prog 3 #[.int .i64 k,.int .i64 n,.int .i64 m] w fun r w'=>r=.returned (.bool true)∧Bw w w':=by
 have hl':¬ (t.size:Int)<(s.size:Int):=by omega
 go_enter Try.func3,Try.ntmps3
 go_wp2_with fail
 refine(k1 _).mono ?_
 rintro r w1 ⟨rfl,hb1⟩
 go_wp2_with fail
 refine(k2 _).mono ?_
 rintro r w2 ⟨rfl,hb2⟩
 have H2:Hid (Bw w w2):=hb1.trans (hb2.mono hb1.size)
 clear hb1 hb2
 go_wp2_with (go_at_call 5;refine bsure.mono ?_;rintro r w3 ⟨rfl,hb3⟩)
 go_ret
 exact⟨rfl,H2.out.trans (hb3.mono H2.out.size)⟩
theorem cut_gt {s t:ByteArray} {k n m:Int} {w:World} (hl:t.size<s.size) (hp:s.extract 0 t.size=t)
  (k1:∀ W,Calls Try.prog 4 #[.int .i64 k,.int .i64 n] W fun r w'=>r=.returned (.tuple #[.string s,.int .i64 0])∧Bw W w')
  (k2:∀ W,Calls Try.prog 4 #[.int .i64 k,.int .i64 m] W fun r w'=>r=.returned (.tuple #[.string t,.int .i64 0])∧Bw W w') :
  Calls Try.prog 3 #[.int .i64 k,.int .i64 n,.int .i64 m] w fun r w'=>r=.returned (.bool true)∧Bw w w':=by
 have hl':(t.size:Int)<(s.size:Int):=by omega
 have hl2:(t.size:Int)≤(s.size:Int):=by omega
 go_enter Try.func3,Try.ntmps3
 go_wp2_with fail
 refine(k1 _).mono ?_
 rintro r w1 ⟨rfl,hb1⟩
 go_wp2_with fail
 refine(k2 _).mono ?_
 rintro r w2 ⟨rfl,hb2⟩
 have H2:Hid (Bw w w2):=hb1.trans (hb2.mono hb1.size)
 clear hb1 hb2
 go_wp2_with (go_at_call 5;refine bsure.mono ?_;rintro r w3 ⟨rfl,hb3⟩)
 go_ret
 exact⟨rfl,H2.out.trans (hb3.mono H2.out.size)⟩
theorem cut_k0 {k n m:Int} {w:World} (h:k<1)
  (k1:∀ W,Calls Try.prog 4 #[.int .i64 k,.int .i64 n] W fun r w'=>(∃ s,r=.returned (.tuple #[.string s,.int .i64 1]))∧Bw W w')
  (k2:∀ W,Calls Try.prog 4 #[.int .i64 k,.int .i64 m] W fun r w'=>(∃ s e,r=.returned (.tuple #[.string s,.int .i64 e]))∧Bw W w') :
  Calls Try.prog 3 #[.int .i64 k,.int .i64 n,.int .i64 m] w fun r w'=>r=.returned (.bool true)∧Bw w w':=by
 go_enter Try.func3,Try.ntmps3
 go_wp2_with fail
 refine(k1 _).mono ?_
 rintro r w1 ⟨⟨s1,rfl⟩,hb1⟩
 go_wp2_with fail
 refine(k2 _).mono ?_
 rintro r w2 ⟨⟨s2,e2,rfl⟩,hb2⟩
 have H2:Hid (Bw w w2):=hb1.trans (hb2.mono hb1.size)
 clear hb1 hb2 k1 k2
 go_wp2_with (go_at_call 5;refine bsure.mono ?_;rintro r w3 ⟨rfl,hb3⟩)
 all_goals go_ret
 all_goals exact⟨rfl,H2.out.trans (hb3.mono H2.out.size)⟩
theorem cut_k9 {k n m:Int} {w:World} (h:8<k)
  (k1:∀ W,Calls Try.prog 4 #[.int .i64 k,.int .i64 n] W fun r w'=>(∃ s,r=.returned (.tuple #[.string s,.int .i64 1]))∧Bw W w')
  (k2:∀ W,Calls Try.prog 4 #[.int .i64 k,.int .i64 m] W fun r w'=>(∃ s e,r=.returned (.tuple #[.string s,.int .i64 e]))∧Bw W w') :
  Calls Try.prog 3 #[.int .i64 k,.int .i64 n,.int .i64 m] w fun r w'=>r=.returned (.bool true)∧Bw w w':=by
 have h0:¬ k<1:=by omega
 go_enter Try.func3,Try.ntmps3
 go_wp2_with fail
 refine(k1 _).mono ?_
 rintro r w1 ⟨⟨s1,rfl⟩,hb1⟩
 go_wp2_with fail
 refine(k2 _).mono ?_
 rintro r w2 ⟨⟨s2,e2,rfl⟩,hb2⟩
 have H2:Hid (Bw w w2):=hb1.trans (hb2.mono hb1.size)
 clear hb1 hb2 k1 k2
 go_wp2_with (go_at_call 5;refine bsure.mono ?_;rintro r w3 ⟨rfl,hb3⟩)
 all_goals go_ret
 all_goals exact⟨rfl,H2.out.trans (hb3.mono H2.out.size)⟩
theorem cut_neg_n {k n m:Int} {w:World} (hk:1≤k∧k≤8) (hmn:min n m<0)
  (k1:∀ W,Calls Try.prog 4 #[.int .i64 k,.int .i64 n] W fun r w'=>(∃ s,r=.returned (.tuple #[.string s,.int .i64 1]))∧Bw W w')
  (k2:∀ W,Calls Try.prog 4 #[.int .i64 k,.int .i64 m] W fun r w'=>(∃ s e,r=.returned (.tuple #[.string s,.int .i64 e]))∧Bw W w') :
  Calls Try.prog 3 #[.int .i64 k,.int .i64 n,.int .i64 m] w fun r w'=>r=.returned (.bool true)∧Bw w w':=by
 have g1:¬ k<1:=by omega
 have g2:¬ 8<k:=by omega
 go_enter Try.func3,Try.ntmps3
 go_wp2_with fail
 refine(k1 _).mono ?_
 rintro r w1 ⟨⟨s1,rfl⟩,hb1⟩
 go_wp2_with fail
 refine(k2 _).mono ?_
 rintro r w2 ⟨⟨s2,e2,rfl⟩,hb2⟩
 have H2:Hid (Bw w w2):=hb1.trans (hb2.mono hb1.size)
 clear hb1 hb2 k1 k2
 go_wp2_with (go_at_call 5;refine bsure.mono ?_;rintro r w3 ⟨rfl,hb3⟩)
 all_goals go_ret
 all_goals exact⟨rfl,H2.out.trans (hb3.mono H2.out.size)⟩
theorem cut_big_n {k n m:Int} {w:World} (hk:1≤k∧k≤8) (hmn:0≤min n m) (hmx:1000<max n m)
  (k1:∀ W,Calls Try.prog 4 #[.int .i64 k,.int .i64 n] W fun r w'=>(∃ s,r=.returned (.tuple #[.string s,.int .i64 1]))∧Bw W w')
  (k2:∀ W,Calls Try.prog 4 #[.int .i64 k,.int .i64 m] W fun r w'=>(∃ s e,r=.returned (.tuple #[.string s,.int .i64 e]))∧Bw W w') :
  Calls Try.prog 3 #[.int .i64 k,.int .i64 n,.int .i64 m] w fun r w'=>r=.returned (.bool true)∧Bw w w':=by
 have g1:¬ k<1:=by omega
 have g2:¬ 8<k:=by omega
 go_enter Try.func3,Try.ntmps3
 go_wp2_with fail
 refine(k1 _).mono ?_
 rintro r w1 ⟨⟨s1,rfl⟩,hb1⟩
 go_wp2_with fail
 refine(k2 _).mono ?_
 rintro r w2 ⟨⟨s2,e2,rfl⟩,hb2⟩
 have H2:Hid (Bw w w2):=hb1.trans (hb2.mono hb1.size)
 clear hb1 hb2 k1 k2
 go_wp2_with (go_at_call 5;refine bsure.mono ?_;rintro r w3 ⟨rfl,hb3⟩)
 all_goals go_ret
 all_goals exact⟨rfl,H2.out.trans (hb3.mono H2.out.size)⟩
theorem cut_neg_m {k n m:Int} {w:World} (hk:1≤k∧k≤8) (hmn:min n m<0)
  (k1:∀ W,Calls Try.prog 4 #[.int .i64 k,.int .i64 n] W fun r w'=>(∃ s,r=.returned (.tuple #[.string s,.int .i64 0]))∧Bw W w')
  (k2:∀ W,Calls Try.prog 4 #[.int .i64 k,.int .i64 m] W fun r w'=>(∃ s,r=.returned (.tuple #[.string s,.int .i64 1]))∧Bw W w') :
  Calls Try.prog 3 #[.int .i64 k,.int .i64 n,.int .i64 m] w fun r w'=>r=.returned (.bool true)∧Bw w w':=by
 have g1:¬ k<1:=by omega
 have g2:¬ 8<k:=by omega
 go_enter Try.func3,Try.ntmps3
 go_wp2_with fail
 refine(k1 _).mono ?_
 rintro r w1 ⟨⟨s1,rfl⟩,hb1⟩
 go_wp2_with fail
 refine(k2 _).mono ?_
 rintro r w2 ⟨⟨s2,rfl⟩,hb2⟩
 have H2:Hid (Bw w w2):=hb1.trans (hb2.mono hb1.size)
 clear hb1 hb2 k1 k2
 go_wp2_with (go_at_call 5;refine bsure.mono ?_;rintro r w3 ⟨rfl,hb3⟩)
 all_goals go_ret
 all_goals exact⟨rfl,H2.out.trans (hb3.mono H2.out.size)⟩
theorem cut_big_m {k n m:Int} {w:World} (hk:1≤k∧k≤8) (hmn:0≤min n m) (hmx:1000<max n m)
  (k1:∀ W,Calls Try.prog 4 #[.int .i64 k,.int .i64 n] W fun r w'=>(∃ s,r=.returned (.tuple #[.string s,.int .i64 0]))∧Bw W w')
  (k2:∀ W,Calls Try.prog 4 #[.int .i64 k,.int .i64 m] W fun r w'=>(∃ s,r=.returned (.tuple #[.string s,.int .i64 1]))∧Bw W w') :
  Calls Try.prog 3 #[.int .i64 k,.int .i64 n,.int .i64 m] w fun r w'=>r=.returned (.bool true)∧Bw w w':=by
 have g1:¬ k<1:=by omega
 have g2:¬ 8<k:=by omega
 go_enter Try.func3,Try.ntmps3
 go_wp2_with fail
 refine(k1 _).mono ?_
 rintro r w1 ⟨⟨s1,rfl⟩,hb1⟩
 go_wp2_with fail
 refine(k2 _).mono ?_
 rintro r w2 ⟨⟨s2,rfl⟩,hb2⟩
 have H2:Hid (Bw w w2):=hb1.trans (hb2.mono hb1.size)
 clear hb1 hb2 k1 k2
 go_wp2_with (go_at_call 5;refine bsure.mono ?_;rintro r w3 ⟨rfl,hb3⟩)
 all_goals go_ret
 all_goals exact⟨rfl,H2.out.trans (hb3.mono H2.out.size)⟩
theorem constsCut_ok (k n m:Int) (w:World):Calls Try.prog 3 #[.int .i64 k,.int .i64 n,.int .i64 m] w fun r w'=>r=.returned (.bool true)∧Bw w w':=by
 have kb:∀ {n:Int} W,(¬ (1≤k∧k≤8)∨n<0∨1000<n)→Calls Try.prog 4 #[.int .i64 k,.int .i64 n] W fun r w'=>(∃ s,r=.returned (.tuple #[.string s,.int .i64 1]))∧Bw W w':=fun W h=>(dig_bad h).mono fun r w' ⟨e,hb⟩=>⟨⟨_,e⟩,hb⟩
 have ka:∀ {n:Int} W,Calls Try.prog 4 #[.int .i64 k,.int .i64 n] W fun r w'=>(∃ s e,r=.returned (.tuple #[.string s,.int .i64 e]))∧Bw W w':=fun W=>dig_any.mono fun r w' ⟨s,e,h,hb⟩=>⟨⟨s,e,h⟩,hb⟩
 by_cases hk:1≤k∧k≤8
 ·by_cases hn:n<0∨1000<n
  ·by_cases hmn:min n m<0
   ·exact cut_neg_n hk hmn (fun W=>kb W (.inr hn)) ka
   ·exact cut_big_n hk (by omega) (by omega) (fun W=>kb W (.inr hn)) ka
  ·obtain⟨k',rfl⟩:∃ k':Nat,k=k':=⟨k.toNat,by omega⟩
   obtain⟨n',rfl⟩:∃ n':Nat,n=n':=⟨n.toNat,by omega⟩
   have k1:=fun W=>dig_ok (k:=k') (n:=n') (w:=W) (by omega) (by omega) (by omega)
   by_cases hm:m<0∨1000<m
   ·have k0:∀ W,Calls Try.prog 4 #[.int .i64 (k':Int),.int .i64 (n':Int)] W fun r w'=>(∃ s,r=.returned (.tuple #[.string s,.int .i64 0]))∧Bw W w':=fun W=>(k1 W).mono fun r w' ⟨e,hb⟩=>⟨⟨_,e⟩,hb⟩
    by_cases hmn:min (n':Int) m<0
    ·exact cut_neg_m hk hmn k0 (fun W=>kb W (.inr hm))
    ·exact cut_big_m hk (by omega) (by omega) k0 (fun W=>kb W (.inr hm))
   ·obtain⟨m',rfl⟩:∃ m':Nat,m=m':=⟨m.toNat,by omega⟩
    have k2:=fun W=>dig_ok (k:=k') (n:=m') (w:=W) (by omega) (by omega) (by omega)
    rcases Nat.lt_or_ge m' n' with h|h
    ·obtain⟨t1,t2,t3⟩:=txD_take (k:=k') (Nat.le_of_lt h)
     have t4:=t3 (by omega)
     exact cut_gt (by simpa [ByteArray.size] using t4) (by have:=pre_ext t1 t2;simpa [ByteArray.size] using this) k1 k2
    ·obtain⟨t1,t2,t3⟩:=txD_take (k:=k') h
     exact cut_le (by simpa [ByteArray.size] using t2) (by have:=pre_ext t1 t2;simpa [ByteArray.size] using this) k1 k2
 ·rcases(show k<1∨8<k by omega)with h|h
  ·exact cut_k0 h (fun W=>kb W (.inl hk)) ka
  ·exact cut_k9 h (fun W=>kb W (.inl hk)) ka
end Go.Proofs.Ytolefllepcdagaa
