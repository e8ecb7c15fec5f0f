/- Own work: contracts of the program's functions, part 4: NW W25 W26 W27 W31 W32 W36 W37 PR R1 R2 R3 W38 W39 W40 W34 W28 W29 W35 W41. -/
import Derived.Test.YtjiolfnchiioaaaGreatDoorA2
import Derived.Test.YtjiolfnchiioaaaGreatDoorA3
import Derived.Deep.CutRange
import Derived.Orders
import Derived.Laws.Tables
import Derived.Deep.RegionHeld3
import Derived.Laws.AppendOwnNone
import Derived.Lib.SliceRun
import Derived.Laws.IdiomStrings

set_option maxHeartbeats 16000000
set_option maxRecDepth 200000
set_option linter.unusedVariables false
set_option linter.unusedSimpArgs false
namespace Go.Proofs.YtjiolfnchiioaaaGreatDoor
open Go.RowKit
theorem tf0 {x q d:Nat} (h:x % B^(0+1)=q+B^0*d∧q<B^0∧d<B):bits .or .u64 (q:Int) (IntKind.u64.wrap (IntKind.u64.wrap (d:Int)))=(x % B^1:Nat):=by
 obtain⟨h1,h2,h3⟩:=h
 rw[Nat.pow_zero] at h1 h2
 have hq:q=0:=by omega
 subst hq
 rw[wrap_d h3,wrap_d h3,u64_or_nat 0 d (by omega) (by unfold B at h3;omega),Nat.zero_or,show(1:Nat)=0+1 from rfl,h1]
 simp
theorem tf1 {x q d:Nat} (h:x % B^(1+1)=q+B^1*d∧q<B^1∧d<B):bits .or .u64 (q:Int) (IntKind.u64.wrap (IntKind.u64.wrap (d:Int)*4294967296))=(x % B^2:Nat):=by
 obtain⟨h1,h2,h3⟩:=h
 rw[Nat.pow_one] at h1 h2
 have:=two_digits h2 h3
 rw[wrap_d h2] at this
 rw[this,show(2:Nat)=1+1 from rfl,h1,Nat.mul_comm]
theorem cword (v:Value) (x n:Nat) (w:World) (h:Is w v x) (hn:Hid (dlen x=n)) (hn2:n≤2) :
  Calls Tryz.prog 129 #[v] w fun r w'=>r=.returned (.int .u64 x)∧w'=w:=by
 obtain⟨ao,cap,rfl,-,-,b,o,h3,h4⟩:=h
 rw[hn.out] at h3 h4 ⊢
 go_enter Tryz.func129,Tryz.ntmps129
 go_wp2
 go_loop [3,8] (fun c s=>∃ i:Nat,i≤n∧c=.int .u64 (x % B^i:Nat)∧s=.int .i64 i) (fun _ s=>n - (intOf s).toNat)
 case atStart=>exact⟨0,Nat.zero_le _,by simp[Nat.mod_one],rfl⟩
 case round =>
  obtain⟨i,hi,rfl,rfl⟩:=hrel
  by_cases hin:i<n
  ·obtain rfl:=h3 (by omega)
   have g:=h4 i hin
   have hii:(i:Int)<(n:Int):=by omega
   have HS:Hid (x % B^(i+1)=x % B^i+B^i*dg x i∧x % B^i<B^i∧dg x i<B):=⟨mod_succ x i,Nat.mod_lt _ (Bpow_pos i),dg_lt _ _⟩
   generalize hq:x % B^i=q at *
   generalize hd:dg x i=d at *
   clear h4 hq hd
   rcases(show i=0∨i=1 by omega)with rfl|rfl
   ·rw[Nat.add_zero] at g
    have hl0:(0:Int)<(n:Int):=by omega
    go_wp2
    exact⟨⟨1,by omega,by rw[tf0 HS.out],rfl⟩,by simp[intOf];omega⟩
   ·have hl1:(1:Int)<(n:Int):=by omega
    go_wp2
    exact⟨⟨2,by omega,by rw[tf1 HS.out],rfl⟩,by simp[intOf];omega⟩
  ·obtain rfl:i=n:=by omega
   have hfull:x % B^i=x:=Nat.mod_eq_of_lt ((dlen_le i x).1 (by rw[hn.out];omega))
   rw[hfull]
   clear h3 h4 hfull
   go_wp2
   go_ret
   exact⟨rfl,rfl⟩
end Go.Proofs.YtjiolfnchiioaaaGreatDoor
namespace Go.Proofs.YtjiolfnchiioaaaGreatDoor
open Go.RowKit Go.Fl64
theorem c110_A (neg exact:Bool) (v:Value) (x bx n tzx:Nat) (e mode:Int) (w:World) (h:Is w v x) (hx:dlen x≤2) (hbx:Hid (bl x=bx)) (hb:(bx:Int)≤64) (hn:Hid (dlen x=n)) (hn2:n≤2) (he1 : -4000000≤e) (he2:e≤4000000) :
  Calls Tryz.prog 111 #[.bool neg,v,.int .i64 e,.bool exact,.int .i64 mode] w fun r w'=>r=.returned (.float .f64 (Ie.mk neg (if exact then x else x ||| 1) e mode 9221120237041090561))∧Bw w w':=by
 have k74:=c74 h (by omega)
 rw[hbx.out] at k74
 have k120:=c120 h 0 (by omega) (by omega)
 rw[Nat.pow_zero,Nat.div_one] at k120
 have HX:Hid (dlen x≤2):=hx
 clear h hx
 go_enter Tryz.func111,Tryz.ntmps111
 go_wp2_with fail
 refine k74.mono ?_
 rintro r w1 ⟨rfl,rfl⟩
 clear k74
 go_wp2_with fail
 refine k120.mono ?_
 rintro r w2 ⟨v2,rfl,hO,hB⟩
 clear k120
 have kW:=cword v2 x n w2 hO.is hn hn2
 have HB:Hid (Bw w1 w2):=hB
 clear hO hB
 go_wp2_with fail
 refine kW.mono ?_
 rintro r w3 ⟨rfl,rfl⟩
 clear kW
 have hxl:x<18446744073709551616:=by
  have:=(dlen_le 2 x).1 HX.out
  unfold B at this
  omega
 have k154:=fun w=>Ie.c24 neg x e mode hxl w
 have k154b:=fun w=>Ie.c24 neg (x ||| 1) e mode (by have:=Nat.or_lt_two_pow (n:=64) hxl (show 1<2^64 by omega);exact this) w
 have hor:bits .or .u64 (x:Int) 1=((x ||| 1:Nat):Int):=u64_or_nat x 1 hxl (by omega)
 have HOR:Hid (bits .or .u64 (x:Int) 1=((x ||| 1:Nat):Int)):=hor
 clear hxl hor
 cases exact
 ·go_wp2_with fail
  rw[HOR.out]
  refine(k154b _).mono ?_
  rintro r w5 ⟨rfl,rfl⟩
  go_wp2
  go_ret
  exact⟨by simp,HB.out⟩
 ·go_wp2_with fail
  refine(k154 _).mono ?_
  rintro r w5 ⟨rfl,rfl⟩
  go_wp2
  go_ret
  exact⟨by simp,HB.out⟩
theorem c110_B (neg exact:Bool) (v:Value) (x z drop t n:Nat) (e mode:Int) (w:World) (hT:Tab32 w) (h:Is w v x) (hx:dlen x≤1000000) (hx0:x≠0) (hbx:Hid (bl x=drop+64)) (hd0:0<drop) (hd1:drop≤32000000) (hz:Hid (x / 2^drop=z)) (hn:Hid (dlen z=n)) (hn2:n≤2) (ht:Hid (tz x=t)) (wd:Nat) (hwd:Hid ((if exact && !(decide (t<drop))then z else z ||| 1)=wd)) (he1 : -4000000≤e) (he2:e≤4000000) :
  Calls Tryz.prog 111 #[.bool neg,v,.int .i64 e,.bool exact,.int .i64 mode] w fun r w'=>r=.returned (.float .f64 (Ie.mk neg wd (e+drop) mode 9221120237041090561))∧Bw w w':=by
 have k74:=c74 h (by omega)
 rw[hbx.out] at k74
 have k120:=c120 h drop (by omega) (by omega)
 rw[hz.out] at k120
 have HI:Hid (Is w v x∧Tab32 w∧x≠0∧dlen x≤1000000):=⟨h,hT,hx0,hx⟩
 have hmx:(0:Int)<(drop:Int):=by omega
 rw[show((drop+64:Nat):Int)=(drop:Int)+64 by omega] at k74
 clear h hx hT hx0
 go_enter Tryz.func111,Tryz.ntmps111
 go_wp2_with fail
 refine k74.mono ?_
 rintro r w1 ⟨rfl,rfl⟩
 clear k74
 go_wp2_with fail
 refine k120.mono ?_
 rintro r w2 ⟨v2,rfl,hO,hB⟩
 clear k120
 have kW:=cword v2 z n w2 hO.is hn hn2
 have k119:=c119 (HI.out.1.later hB) (by have:=HI.out.2.2.2;omega) HI.out.2.2.1 (HI.out.2.1.later hB)
 rw[ht.out] at k119
 have HB:Hid (Bw w1 w2):=hB
 clear hO hB
 go_wp2_with fail
 refine kW.mono ?_
 rintro r w3 ⟨rfl,rfl⟩
 clear kW
 have hzl:z<18446744073709551616:=by
  have:=(dlen_le 2 z).1 (by rw[hn.out];exact hn2)
  unfold B at this
  omega
 have k154:=fun w=>Ie.c24 neg z (e+drop) mode hzl w
 have k154b:=fun w=>Ie.c24 neg (z ||| 1) (e+drop) mode (by have:=Nat.or_lt_two_pow (n:=64) hzl (show 1<2^64 by omega);exact this) w
 have HOR:Hid (bits .or .u64 (z:Int) 1=((z ||| 1:Nat):Int)):=u64_or_nat z 1 hzl (by omega)
 clear hzl
 cases exact
 ·clear k119
  go_wp2_with fail
  rw[HOR.out]
  refine(k154b _).mono ?_
  rintro r w5 ⟨rfl,rfl⟩
  go_wp2
  go_ret
  have hw:wd=z ||| 1:=by rw[←hwd.out];simp
  rw[hw]
  exact⟨rfl,HB.out⟩
 ·go_wp2_with fail
  refine k119.mono ?_
  rintro r w4 ⟨rfl,rfl⟩
  clear k119
  by_cases htd:t<drop
  ·have htd':(t:Int)<(drop:Int):=by omega
   go_wp2_with fail
   rw[HOR.out]
   refine(k154b _).mono ?_
   rintro r w5 ⟨rfl,rfl⟩
   go_wp2
   go_ret
   have hw:wd=z ||| 1:=by rw[←hwd.out];simp[htd]
   rw[hw]
   exact⟨rfl,HB.out⟩
  ·have htd':¬ (t:Int)<(drop:Int):=by omega
   go_wp2_with fail
   refine(k154 _).mono ?_
   rintro r w5 ⟨rfl,rfl⟩
   go_wp2
   go_ret
   have hw:wd=z:=by rw[←hwd.out];simp[htd]
   rw[hw]
   exact⟨rfl,HB.out⟩
def sgI (neg:Bool) (n:Nat):Int:=if n=0 then 0 else if neg then -1 else 1
theorem c72 (neg:Bool) (ao:Option Addr) (n cap:Nat) (e:Int) (w:World) (hn:n≤35184372088832) :
  Calls Tryz.prog 105 #[.agg #[.bool neg,.slice ao n cap,.int .i64 e]] w fun r w'=>r=.returned (.int .i64 (sgI neg n))∧w'=w.alloc (.cells #[.bool neg,.slice ao n cap,.int .i64 e] 80):=by
 unfold sgI
 by_cases h0:n=0
 ·subst h0
  go_enter Tryz.func105,Tryz.ntmps105
  go_wp2
  go_ret
  exact⟨rfl,rfl⟩
 ·have hn0:((n:Int)==0)=false:=by simp;omega
  rw[if_neg h0]
  cases neg
  ·go_enter Tryz.func105,Tryz.ntmps105
   go_wp2
   go_ret
   exact⟨rfl,rfl⟩
  ·go_enter Tryz.func105,Tryz.ntmps105
   go_wp2
   go_ret
   exact⟨rfl,rfl⟩
theorem c106_1 (neg:Bool) (ao:Option Addr) (n cap F:Nat) (e mode:Int) (w:World)
  (k110:∀ W,Bw w W→Calls Tryz.prog 111 #[.bool neg,.slice ao n cap,.int .i64 e,.bool true,.int .i64 mode] W fun r w'=>r=.returned (.float .f64 F)∧Bw W w') :
  Calls Tryz.prog 102 #[.agg #[.bool neg,.slice ao n cap,.int .i64 e],.int .i64 mode] w fun r w'=>r=.returned (.float .f64 F)∧Bw w w':=by
 obtain⟨W,hW⟩:∃ W,W=w.alloc (.cells #[.bool neg,.slice ao n cap,.int .i64 e] 80):=⟨_,rfl⟩
 have hBW:Bw w W:=by rw[hW];exact(Below.refl _ _).alloc (Nat.le_refl _) _
 have k:=k110 W hBW
 have HB:Hid (Bw w W):=hBW
 clear k110 hBW
 go_enter Tryz.func102,Tryz.ntmps102
 go_wp2_with fail
 rw[←hW]
 clear hW
 refine k.mono ?_
 rintro r w1 ⟨rfl,hB1⟩
 have HF:Hid (Bw w w1):=HB.out.trans (hB1.mono HB.out.size)
 clear k hB1
 go_wp2
 go_ret
 exact⟨rfl,HF.out⟩
theorem c61 (w:World):Calls Tryz.prog 34 #[.int .i64 1] w fun r w'=>r=.returned (.float .f64 9218868437227405312)∧w'=w:=by
 have hb:=Ie.run_frombits
 go_enter Tryz.func34,Tryz.ntmps34
 go_wp2
 go_ret
 exact⟨rfl,rfl⟩
end Go.Proofs.YtjiolfnchiioaaaGreatDoor
namespace Go.Proofs.YtjiolfnchiioaaaGreatDoor
open Go.RowKit Go.Fl64
def tfD (x:Nat):Nat:=bl x - 64
def tfM (exact:Bool) (x:Nat):Nat:=if exact && !(decide (tz x<tfD x))then x / 2^tfD x else x / 2^tfD x ||| 1
def tfF (neg exact:Bool) (x:Nat) (e mode:Int):Nat:=Ie.mk neg (tfM exact x) (e+(tfD x:Int)) mode 9221120237041090561
theorem bl_le_dlen (x:Nat):bl x≤32*dlen x:=by
 have h:=(dlen_le (dlen x) x).1 (Nat.le_refl _)
 refine(bl_le x _).2 ?_
 rw[Nat.pow_mul]
 exact h
theorem dlen_div_tfD (x:Nat):dlen (x / 2^tfD x)≤2:=by
 refine(dlen_le 2 _).2 ?_
 have h1:x<2^(tfD x+64):=Nat.lt_of_lt_of_le (lt_bl x) (Nat.pow_le_pow_right (by decide) (by unfold tfD;omega))
 have h2:B^2=2^64:=by unfold B;decide
 rw[h2]
 rw[Nat.pow_add] at h1
 exact Nat.div_lt_of_lt_mul h1
theorem c110 {neg exact:Bool} {v:Value} {x:Nat} {e mode:Int} {w:World} (hT:Tab32 w) (h:Is w v x) (hx:dlen x≤1000000) (he1 : -4000000≤e) (he2:e≤4000000) :
  Calls Tryz.prog 111 #[.bool neg,v,.int .i64 e,.bool exact,.int .i64 mode] w fun r w'=>r=.returned (.float .f64 (tfF neg exact x e mode))∧Bw w w':=by
 have hz:=dlen_div_tfD x
 have hbd:=bl_le_dlen x
 by_cases hb:bl x≤64
 ·have hd:tfD x=0:=by unfold tfD;omega
  have e1:tfF neg exact x e mode=Ie.mk neg (if exact then x else x ||| 1) e mode 9221120237041090561:=by
   unfold tfF tfM
   rw[hd,Nat.pow_zero,Nat.div_one,decide_eq_false (Nat.not_lt_zero _),Bool.not_false,Bool.and_true]
   simp
  rw[hd,Nat.pow_zero,Nat.div_one] at hz
  rw[e1]
  exact c110_A neg exact v x (bl x) (dlen x) 0 e mode w h hz rfl (by omega) rfl hz he1 he2
 ·have hx0:x≠0:=by
   intro h0
   apply hb
   rw[h0]
   decide
  exact c110_B neg exact v x (x / 2^tfD x) (tfD x) (tz x) (dlen (x / 2^tfD x)) e mode w hT h hx hx0 (show bl x=tfD x+64 by unfold tfD;omega) (by unfold tfD;omega) (by unfold tfD;omega) rfl rfl hz rfl (tfM exact x) rfl he1 he2
theorem c106 {neg:Bool} {v:Value} {x:Nat} {e mode:Int} {w:World} (hT:Tab32 w) (h:Is w v x) (hx:dlen x≤1000000) (he1 : -4000000≤e) (he2:e≤4000000) :
  Calls Tryz.prog 102 #[NumV neg v e,.int .i64 mode] w fun r w'=>r=.returned (.float .f64 (tfF neg true x e mode))∧Bw w w':=by
 have h':=h
 obtain⟨ua,uc,rfl,-,-,-⟩:=h'
 exact c106_1 neg ua _ uc _ e mode w fun W hW=>c110 (hT.later hW) (h.later hW) hx he1 he2
end Go.Proofs.YtjiolfnchiioaaaGreatDoor
namespace Go.Proofs.YtjiolfnchiioaaaGreatDoor
open Go.RowKit
theorem maybe1 {na : Bool} {ua : Option Addr} {uc x g : Nat} {ea : Int} {W : World} (hg : W.heap[g]? = some (.cells #[.bool na, .slice ua (dlen x) uc, .int .i64 ea] 80 (0, 0)))
    (h1 : Is W (.slice ua (dlen x) uc) x) (hx : dlen x ≤ 35184372088832) :
    Calls Tryz.prog 97 #[.slice (some ⟨g, 0, none⟩) 1 1] W fun r w' => r = .returned (.bool (okN na (dlen x) x ea)) ∧ Bw W w' := by
  obtain ⟨ao1, c1, e1, -, -, a1⟩ := h1
  simp only [Value.slice.injEq] at e1
  obtain ⟨rfl, -, rfl⟩ := e1
  have k := c67 g 1 (fun _ => na) (fun _ => ua) (fun _ => dlen x) (fun _ => uc) (fun _ => x) (fun _ => ea) W (by omega)
    (fun i hi => by obtain rfl : i = 0 := by omega
                    simp [World.cell?, hg])
    (fun i hi => by obtain rfl : i = 0 := by omega
                    simp [World.cell?, hg])
    (fun i hi => by obtain rfl : i = 0 := by omega
                    simp [World.cell?, hg])
    (fun i hi => a1) (fun i hi => hx)
  refine k.mono ?_
  rintro r w' ⟨rfl, hb⟩
  refine ⟨congrArg Ending.returned (congrArg Value.bool ?_), hb⟩
  rw [Bool.eq_iff_iff]
  simp only [decide_eq_true_eq]
  exact ⟨fun h => h 0 (by omega), fun h i hi => h⟩
theorem c45_1 (na nb sg:Bool) (ua va:Option Addr) (un uc vn vc x y:Nat) (ea eb:Int) (w:World) (hT:Tab32 w) (h1:Is w (.slice ua un uc) x) (h2:Is w (.slice va vn vc) y) (hx:dlen x≤400000) (hy:dlen y≤400000) (he1 : -4000000≤ea) (he2:ea≤4000000) (he3 : -4000000≤eb) (he4:eb≤4000000) (hsg:(!(na==nb))=sg) :
  Calls Tryz.prog 125 #[.agg #[.bool na,.slice ua un uc,.int .i64 ea],.agg #[.bool nb,.slice va vn vc,.int .i64 eb]] w fun r w'=>∃ a,r=.returned a∧Nrm w' w.heap.size a sg (x*y) (ea+eb)∧Bw w w':=by
 obtain⟨W,hW⟩:∃ W,W=((w.alloc (.cells #[.bool na,.slice ua un uc,.int .i64 ea] 80)).alloc (.cells #[.bool nb,.slice va vn vc,.int .i64 eb] 80)).alloc (.cells #[.bool false,.slice none 0 0,.int .i64 0] 80):=⟨_,rfl⟩
 obtain⟨hA,hBb,hC,hsz,hBW⟩:=boxes3 _ _ _ hW
 have hxy:dlen (x*y)≤1000000:=by
  have l1:=(dlen_le (dlen x) x).1 (Nat.le_refl _)
  have l2:=(dlen_le (dlen y) y).1 (Nat.le_refl _)
  have:dlen (x*y)≤dlen x+dlen y:=(dlen_le _ _).2 (by
   rw[Nat.pow_add]
   rcases Nat.eq_zero_or_pos x with h|h
   ·rw[h,Nat.zero_mul];exact Nat.mul_pos (Bpow_pos _) (Bpow_pos _)
   ·exact Nat.mul_lt_mul_of_lt_of_le l1 (Nat.le_of_lt l2) (Bpow_pos _))
  omega
 have HH:Hid (W.heap[w.heap.size+1+1]?=some (.cells #[.bool false,.slice none 0 0,.int .i64 0] 80 (0,0))∧W.heap.size=w.heap.size+1+1+1∧Bw w W):=⟨hC,hsz,hBW⟩
 have k78:∀ w4,Bw W w4→Calls Tryz.prog 136 #[.slice ua un uc,.slice va vn vc] w4 fun r w'=>∃ v,r=.returned v∧Own w' W.heap.size v (x*y)∧Bw W w':=fun w4 hb =>
  (c143 ((h1.later hBW).later hb) ((h2.later hBW).later hb) (by omega) (by omega)).mono fun r w' ⟨v,e1,o1,o2⟩=>⟨v,e1,o1.mono hb.size,hb.trans (o2.mono hb.size)⟩
 have hTW:=hT.later hBW
 have k31:∀ v5 w5,Own w5 W.heap.size v5 (x*y)→Bw W w5→Calls Tryz.prog 95 #[.bool sg,v5,.int .i64 (ea+eb)] w5 fun r w'=>∃ s ao n cap ex,r=.returned (.agg #[.bool s,.slice ao n cap,.int .i64 ex]) ∧
   Hid (Nrm w' w5.heap.size (.agg #[.bool s,.slice ao n cap,.int .i64 ex]) sg (x*y) (ea+eb)∧W.heap.size≤w5.heap.size)∧Bw W w'∧Hid (w'.heap[w.heap.size+1+1]?=some (.cells #[.bool false,.slice none 0 0,.int .i64 0] 80 (0,0))) ∧
   (w'.cell? ⟨w.heap.size+1+1,0,none⟩=some (.bool false)∧w'.cell? ⟨w.heap.size+1+1,1,none⟩=some (.slice none 0 0)∧w'.cell? ⟨w.heap.size+1+1,2,none⟩=some (.int .i64 0))∧(w'.frozen? ⟨w.heap.size+1+1,0,none⟩=false∧w'.frozen? ⟨w.heap.size+1+1,1,none⟩=false∧w'.frozen? ⟨w.heap.size+1+1,2,none⟩=false):=by
  intro v5 w5 ho hb
  refine(c56 ho.is (by omega) (hTW.later hb) (by omega)).mono ?_
  rintro r w6 ⟨a,rfl,hN,hb6⟩
  obtain⟨s,ao,n,cap,ex,rfl⟩:=hN.shape
  have hb46:Bw W w6:=hb.trans (hb6.mono hb.size)
  have hblk:=box_later HH.out.1 hb46 (by have:=HH.out.2.1;omega)
  obtain⟨f1,f2⟩:=box_cells hblk
  exact⟨s,ao,n,cap,ex,rfl,⟨hN,hb.size⟩,hb46,hblk,f1,f2⟩
 obtain⟨⟨a0,a1,a2⟩,-⟩:=box_cells hA
 obtain⟨⟨b0,b1,b2⟩,-⟩:=box_cells hBb
 have HK:Hid (∀ w',Bw W w'→((w'.cell? ⟨w.heap.size,0,none⟩=some (.bool na)∧w'.cell? ⟨w.heap.size,1,none⟩=some (.slice ua un uc)∧w'.cell? ⟨w.heap.size,2,none⟩=some (.int .i64 ea))∧(w'.cell? ⟨w.heap.size+1,0,none⟩=some (.bool nb)∧w'.cell? ⟨w.heap.size+1,1,none⟩=some (.slice va vn vc)∧w'.cell? ⟨w.heap.size+1,2,none⟩=some (.int .i64 eb)))):=fun w' hb=>⟨(box_cells (box_later hA hb (by omega))).1,(box_cells (box_later hBb hb (by omega))).1⟩
 have HK2:Hid (∀ w',Below (w.heap.size+1+1) W w'→((w'.cell? ⟨w.heap.size,0,none⟩=some (.bool na)∧w'.cell? ⟨w.heap.size,1,none⟩=some (.slice ua un uc)∧w'.cell? ⟨w.heap.size,2,none⟩=some (.int .i64 ea))∧(w'.cell? ⟨w.heap.size+1,0,none⟩=some (.bool nb)∧w'.cell? ⟨w.heap.size+1,1,none⟩=some (.slice va vn vc)∧w'.cell? ⟨w.heap.size+1,2,none⟩=some (.int .i64 eb)))):=fun w' hb=>⟨(box_cells (box_later hA hb (by omega))).1,(box_cells (box_later hBb hb (by omega))).1⟩
 have HS2:Hid (w.heap.size+1+1≤W.heap.size):=(by omega:w.heap.size+1+1≤W.heap.size)
 have hBR:Bw W W.drew:=(Below.refl _ _).drew
 have wz:IntKind.i64.wrap (ea+eb)=ea+eb:=by rw[IntKind.wrap_i64];omega
 clear hA hBb hC hsz hBW h1 h2 hx hy hT hTW hxy
 go_enter Tryz.func125,Tryz.ntmps125
 go_upto_region 1 with fail
 rw[←hW]
 clear hW
 go_region_held3 (fun w'=>((w'.cell? ⟨w.heap.size,0,none⟩=some (.bool na)∧w'.cell? ⟨w.heap.size,1,none⟩=some (.slice ua un uc)∧w'.cell? ⟨w.heap.size,2,none⟩=some (.int .i64 ea))∧(w'.cell? ⟨w.heap.size+1,0,none⟩=some (.bool nb)∧w'.cell? ⟨w.heap.size+1,1,none⟩=some (.slice va vn vc)∧w'.cell? ⟨w.heap.size+1,2,none⟩=some (.int .i64 eb)))) (first|(with_reducible assumption)|exact⟨⟨a0,a1,a2⟩,b0,b1,b2⟩|(refine HK.out _ ?_;with_reducible assumption)|(refine HK2.out _ (below_store3 (Below.mono hb6 HS2.out) (Nat.le_refl _) _ _ _))|go_keep)
  (first|(go_at_call 136;refine(k78 _ (by first|(with_reducible assumption)|exact hBR)).mono ?_;rintro r w5 ⟨v5,rfl,ho5,hb5⟩)|(go_at_call 95;(try simp only[hsg,wz]);refine(k31 _ _ ho5 hb5).mono ?_;rintro r w6 ⟨s6,ao6,n6,cap6,ex6,rfl,hN6,hb6,hblk6,⟨x1,x2,x3⟩,x4,x5,x6⟩))
 have HF:Hid (Bw W w6):=hb6
 clear ho5 hb5 hb6 k31 k78 x1 x2 x3 x4 x5 x6 a0 a1 a2 b0 b1 b2 HK HK2
 go_wp2
 refine bodyPost_ret (results_cell_row rfl _ _ (w.heap.size+1+1) 80 #[.bool s6,.slice ao6 n6 cap6,.int .i64 ex6] (0,0) _ rfl (store3 _ _ _ hblk6.out) Tryz.underlying80 rfl Tryz.info80) rfl ?_
 obtain⟨-,hs,hBW⟩:=HH.out
 have hs5:=hN6.out.2
 exact⟨_,rfl,(hN6.out.1.store (by omega) _ _ _).mono (by omega),below_store3 (hBW.trans (HF.out.mono hBW.size)) (by omega) _ _ _⟩
theorem c20_1 (na nb:Bool) (ua va:Option Addr) (un uc vn vc x y z:Nat) (ea eb e:Int) (s:Bool) (w:World) (hz:dlen z≤35184372088832)
  (k67:∀ W g,Bw w W→W.heap[g]?=some (.cells #[.bool na,.slice ua un uc,.int .i64 ea,.bool nb,.slice va vn vc,.int .i64 eb] 80 (0,0))→Calls Tryz.prog 97 #[.slice (some ⟨g,0,none⟩) 2 2] W fun r w'=>r=.returned (.bool true)∧Bw W w')
  (k87:∀ W,Bw w W→Calls Tryz.prog 125 #[.agg #[.bool na,.slice ua un uc,.int .i64 ea],.agg #[.bool nb,.slice va vn vc,.int .i64 eb]] W fun r w'=>∃ a,r=.returned a∧Nrm w' W.heap.size a s z e∧Bw W w') :
  Calls Tryz.prog 107 #[NumV na (.slice ua un uc) ea,NumV nb (.slice va vn vc) eb] w fun r w'=>Held w s z e r w':=by
 obtain⟨W,hW⟩:∃ W,W=((w.alloc (.cells #[.bool na,.slice ua un uc,.int .i64 ea] 80)).alloc (.cells #[.bool nb,.slice va vn vc,.int .i64 eb] 80)).alloc (.cells #[.bool false,.slice none 0 0,.int .i64 0] 80):=⟨_,rfl⟩
 obtain⟨hA,hBb,hC,hsz,hBW⟩:=boxes3 _ _ _ hW
 have hB4:Below w.heap.size w (W.alloc (.cells #[.bool na,.slice ua un uc,.int .i64 ea,.bool nb,.slice va vn vc,.int .i64 eb] 80)):=hBW.alloc hBW.size _
 have k1:=k67 (W.alloc (.cells #[.bool na,.slice ua un uc,.int .i64 ea,.bool nb,.slice va vn vc,.int .i64 eb] 80)) (w.heap.size+1+1+1) hB4 (by rw[←hsz];exact heap_alloc_new _ _)
 have HH:Hid ((W.heap[w.heap.size]?=some (.cells #[.bool na,.slice ua un uc,.int .i64 ea] 80 (0,0))∧W.heap[w.heap.size+1]?=some (.cells #[.bool nb,.slice va vn vc,.int .i64 eb] 80 (0,0))∧W.heap[w.heap.size+1+1]?=some (.cells #[.bool false,.slice none 0 0,.int .i64 0] 80 (0,0)))∧W.heap.size=w.heap.size+1+1+1∧Bw w W∧Below W.heap.size W (W.alloc (.cells #[.bool na,.slice ua un uc,.int .i64 ea,.bool nb,.slice va vn vc,.int .i64 eb] 80))):=⟨⟨hA,hBb,hC⟩,hsz,hBW,(Below.refl _ _).alloc (Nat.le_refl _) _⟩
 have HZ:Hid (dlen z≤35184372088832):=hz
 have HK87:Hid _:=k87
 unfold NumV
 clear hA hBb hC hsz hBW hB4 k67 k87 hz
 go_enter Tryz.func107,Tryz.ntmps107
 go_wp2_with fail
 rw[←hW]
 clear hW
 refine k1.mono ?_
 rintro r w1 ⟨rfl,hB1⟩
 clear k1
 have hBW1:Bw W w1:=HH.out.2.2.2.trans (hB1.mono HH.out.2.2.2.size)
 obtain⟨⟨a0,a1,a2⟩,-⟩:=box_cells (box_later HH.out.1.1 hBW1 (by have:=HH.out.2.1;omega))
 obtain⟨⟨b0,b1,b2⟩,-⟩:=box_cells (box_later HH.out.1.2.1 hBW1 (by have:=HH.out.2.1;omega))
 have HB1:Hid (Bw W w1):=hBW1
 clear hB1 hBW1
 go_wp2_with fail
 refine(HK87.out w1 (HH.out.2.2.1.trans (HB1.out.mono HH.out.2.2.1.size))).mono ?_
 rintro r w2 ⟨A,rfl,hN,hB2⟩
 have HB2:Hid (Bw W w2):=HB1.out.trans (hB2.mono HB1.out.size)
 have HN:Hid (Nrm w2 W.heap.size A s z e):=hN.mono HB1.out.size
 clear hN hB2 a0 a1 a2 b0 b1 b2
 go_wp2_with fail
 refine(c63n HN.out HZ.out).mono ?_
 rintro r w3 ⟨rfl,hB3⟩
 have HB3:Hid (Bw W w3):=HB2.out.trans (hB3.mono HB2.out.size)
 have HN3:Hid (Nrm w3 W.heap.size A s z e):=by
  rcases HN.out with h|⟨h0,v,h1,ho⟩
  ·exact .inl h
  ·exact .inr ⟨h0,v,h1,ho.later hB3⟩
 have HC3:Hid (w3.heap[w.heap.size+1+1]?=some (.cells #[.bool false,.slice none 0 0,.int .i64 0] 80 (0,0))):=box_later HH.out.1.2.2 HB3.out (by have:=HH.out.2.1;omega)
 obtain⟨⟨x1,x2,x3⟩,x4,x5,x6⟩:=box_cells HC3.out
 obtain⟨s',ao,n,cap,ex,hsh⟩:=HN3.out.shape
 have HSH:Hid (A=.agg #[.bool s',.slice ao n cap,.int .i64 ex]):=hsh
 clear hB3
 cases hok:okR s z e
 ·clear hsh
  have hNil:Nil=.agg #[.bool false,.slice none 0 0,.int .i64 0]:=rfl
  go_wp2
  refine bodyPost_ret (results_cell_tmp_row rfl _ _ (w.heap.size+1+1) 80 #[.bool false,.slice none 0 0,.int .i64 0] (0,0) _ rfl (store3 _ _ _ HC3.out) Tryz.underlying80 rfl Tryz.info80) rfl ?_
  obtain⟨-,hs,hBW,-⟩:=HH.out
  exact⟨A,by rw[hok];rfl,(HN3.out.store (by omega) _ _ _).mono (by omega),below_store3 (hBW.trans (HB3.out.mono hBW.size)) (by omega) _ _ _⟩
 ·subst hsh
  go_wp2
  refine bodyPost_ret (results_cell_tmp_row rfl _ _ (w.heap.size+1+1) 80 #[.bool s',.slice ao n cap,.int .i64 ex] (0,0) _ rfl (store3 _ _ _ HC3.out) Tryz.underlying80 rfl Tryz.info80) rfl ?_
  obtain⟨-,hs,hBW,-⟩:=HH.out
  exact⟨_,by rw[hok];rfl,(HN3.out.store (by omega) _ _ _).mono (by omega),below_store3 (hBW.trans (HB3.out.mono hBW.size)) (by omega) _ _ _⟩
theorem mul_ok {na nb:Bool} {ua va:Option Addr} {uc vc x y:Nat} {ea eb:Int} {w:World} (h1:Is w (.slice ua (dlen x) uc) x) (h2:Is w (.slice va (dlen y) vc) y) (hx:dlen x≤400000) (hy:dlen y≤400000) (ha : -4000000≤ea∧ea≤4000000) (hb : -4000000≤eb∧eb≤4000000)
  (hoka:okN na (dlen x) x ea=true) (hokb:okN nb (dlen y) y eb=true) (hT:Tab32 w) :
  Calls Tryz.prog 107 #[.agg #[.bool na,.slice ua (dlen x) uc,.int .i64 ea],.agg #[.bool nb,.slice va (dlen y) vc,.int .i64 eb]] w fun r w'=>Held w (!(na==nb)) (x*y) (ea+eb) r w':=by
 have hxy:dlen (x*y)≤1000000:=by
  have l1:=(dlen_le (dlen x) x).1 (Nat.le_refl _)
  have l2:=(dlen_le (dlen y) y).1 (Nat.le_refl _)
  have:dlen (x*y)≤dlen x+dlen y:=(dlen_le _ _).2 (by
   rw[Nat.pow_add]
   rcases Nat.eq_zero_or_pos x with h|h
   ·rw[h,Nat.zero_mul];exact Nat.mul_pos (Bpow_pos _) (Bpow_pos _)
   ·exact Nat.mul_lt_mul_of_lt_of_le l1 (Nat.le_of_lt l2) (Bpow_pos _))
  omega
 exact c20_1 na nb ua va _ uc _ vc x y (x*y) ea eb (ea+eb) (!(na==nb)) w (by omega) (fun W g hW hg=>by
  have:=maybe2 hg (h1.later hW) (h2.later hW) (by omega) (by omega)
  rw[hoka,hokb] at this
  exact this) (fun W hW=>c45_1 na nb _ ua va _ uc _ vc x y ea eb W (hT.later hW) (h1.later hW) (h2.later hW) hx hy ha.1 ha.2 hb.1 hb.2 rfl)
theorem c22_s (na:Bool) (ua:Option Addr) (un uc:Nat) (ea sv:Int) (w:World)
  (k43:∀ W g,Bw w W→W.heap[g]?=some (.cells #[.bool na,.slice ua un uc,.int .i64 ea] 80 (0,0))→Calls Tryz.prog 97 #[.slice (some ⟨g,0,none⟩) 1 1] W fun r w'=>r=.returned (.bool true)∧Bw W w')
  (k47:∀ W,Calls Tryz.prog 105 #[.agg #[.bool na,.slice ua un uc,.int .i64 ea]] W fun r w'=>r=.returned (.int .i64 sv)∧Bw W w') :
  Calls Tryz.prog 87 #[.agg #[.bool na,.slice ua un uc,.int .i64 ea]] w fun r w'=>r=.returned (.int .i64 sv)∧Bw w w':=by
 obtain⟨W,hW⟩:∃ W,W=w.alloc (.cells #[.bool na,.slice ua un uc,.int .i64 ea] 80):=⟨_,rfl⟩
 have hBW:Bw w W:=by rw[hW];exact(Below.refl _ _).alloc (Nat.le_refl _) _
 have hsz:W.heap.size=w.heap.size+1:=by rw[hW];simp
 have hbx:W.heap[w.heap.size]?=some (.cells #[.bool na,.slice ua un uc,.int .i64 ea] 80 (0,0)):=by rw[hW];exact heap_alloc_new _ _
 have k1:=k43 (W.alloc (.cells #[.bool na,.slice ua un uc,.int .i64 ea] 80)) (w.heap.size+1) (hBW.alloc hBW.size _) (by rw[←hsz];exact heap_alloc_new _ _)
 have HX:Hid (Bw w W∧W.heap.size=w.heap.size+1∧W.heap[w.heap.size]?=some (.cells #[.bool na,.slice ua un uc,.int .i64 ea] 80 (0,0))):=⟨hBW,hsz,hbx⟩
 clear hBW hsz hbx k43
 go_enter Tryz.func87,Tryz.ntmps87
 go_wp2_with fail
 rw[←hW]
 clear hW
 refine k1.mono ?_
 rintro r w1 ⟨rfl,hb1⟩
 have HB1:Hid (Bw W w1):=((Below.refl W.heap.size W).alloc (Nat.le_refl _) _).trans (hb1.mono (by simp))
 clear k1 hb1
 obtain⟨⟨x0,x1,x2⟩,-⟩:=box_cells (box_later HX.out.2.2 HB1.out (by have:=HX.out.2.1;omega))
 have HB2:Hid (Bw w w1):=HX.out.1.trans (HB1.out.mono HX.out.1.size)
 have k3:=k47 w1
 clear k47
 go_wp2_with fail
 refine k3.mono ?_
 rintro r w3 ⟨rfl,hb3⟩
 have HB3:Hid (Bw w w3):=HB2.out.trans (hb3.mono HB2.out.size)
 clear k3 hb3 x0 x1 x2
 go_wp2_with fail
 go_ret
 exact⟨rfl,HB3.out⟩
theorem sign_ok {na:Bool} {ua:Option Addr} {uc x:Nat} {ea:Int} {w:World} (h1:Is w (.slice ua (dlen x) uc) x) (hx:dlen x≤35184372088832) (hoka:okN na (dlen x) x ea=true) :
  Calls Tryz.prog 87 #[.agg #[.bool na,.slice ua (dlen x) uc,.int .i64 ea]] w fun r w'=>r=.returned (.int .i64 (sgI na (dlen x)))∧Bw w w' :=
 c22_s na ua _ uc ea _ w (fun W g hW hg=>by
  have:=maybe1 hg (h1.later hW) hx
  rw[hoka] at this
  exact this) (fun W=>(c72 na ua _ uc ea W hx).mono fun r w' ⟨e1,e2⟩=>⟨e1,by rw[e2];exact(Below.refl _ _).alloc (Nat.le_refl _) _⟩)
theorem wpAny_inv {P:Program} {ops:Array Oper} {Q:Exit→Act→World→Prop} {md:Region.Mode} (I:Array Bool→Act→World→Prop)
  (hs:∀ listed a w i,listed.size=ops.size→I listed a w→i ∈ Region.ready md ops listed→wpOp P ops Q i (fun a' w'=>I (listed.setIfInBounds i true) a' w') a w)
  (he:∀ listed a w,listed.size=ops.size→I listed a w→Region.ready md ops listed = []→Q .normal a w) :
  ∀ (fuel:Nat) (listed:Array Bool) (a:Act) (w:World),listed.size=ops.size→I listed a w→listed.toList.count false≤fuel→wpAny P md ops Q fuel listed a w:=by
 have hcount:∀ (listed:Array Bool) i,listed.getD i true=false→i<listed.toList.length∧listed.toList[i]?=some false:=by
  intro listed i h
  by_cases hl:i<listed.size
  ·refine⟨by simpa using hl,?_⟩
   simp only[Array.getD_eq_getD_getElem?,Array.getElem?_eq_getElem hl,Option.getD_some] at h
   simp[Array.getElem?_toList,Array.getElem?_eq_getElem hl,h]
  ·simp[Array.getD_eq_getD_getElem?,Array.getElem?_eq_none (Nat.le_of_not_lt hl)] at h
 intro fuel
 induction fuel with
 | zero =>
  intro listed a w hl hI hc
  have h0:Region.ready md ops listed = []:=by
   cases hr:Region.ready md ops listed with
   | nil=>rfl
   | cons x xs =>
    have hx:=(mem_ready.1 (show x ∈ Region.ready md ops listed by rw[hr];exact List.mem_cons_self ..)).1
    have h1:=(hcount listed x hx).2
    have h2:false ∈ listed.toList:=List.mem_of_getElem? h1
    have:=List.count_pos_iff.2 h2
    omega
  exact⟨h0,he listed a w hl hI h0⟩
 | succ fuel ih =>
  intro listed a w hl hI hc
  refine⟨fun h=>he listed a w hl hI h,fun i hi=>?_⟩
  refine wpOp_mono (fun a' w' hI'=>ih _ a' w' (by simpa using hl) hI' ?_) (hs listed a w i hl hI hi)
  obtain⟨h1,h2⟩:=hcount listed i (mem_ready.1 hi).1
  have h3:listed.toList[i]=false:=by
   have:=List.getElem?_eq_getElem h1
   rw[this] at h2
   exact Option.some.inj h2
  have h4:=List.count_set (l:=listed.toList) (i:=i) (a:=true) (b:=false) h1
  have h5:0<listed.toList.count false:=List.count_pos_iff.2 (List.mem_of_getElem? h2)
  rw[Array.toList_setIfInBounds,h4,h3]
  have e1:(if(false==false)=true then 1 else 0)=1:=rfl
  have e2:(if(true==false)=true then 1 else 0)=0:=rfl
  rw[e1,e2]
  omega
theorem not_listed {listed:Array Bool} {i:Nat} (h:listed.getD i true=false):listed.getD i false=false:=by
 by_cases hl:i<listed.size
 ·simp only[Array.getD_eq_getD_getElem?,Array.getElem?_eq_getElem hl,Option.getD_some] at h ⊢
  exact h
 ·simp[Array.getD_eq_getD_getElem?,Array.getElem?_eq_none (Nat.le_of_not_lt hl)]
theorem listed_set {listed:Array Bool} {i:Nat} (h:i<listed.size):(listed.setIfInBounds i true).getD i false=true:=by
 simp[Array.getD_eq_getD_getElem?,h]
theorem put_get_ne {a:Act} {d s:Tmp} {v:Value} (h:s≠d):(a.put (some d) v).tmps[s]?=a.tmps[s]?:=by
 simp[Act.put,Array.getElem?_setIfInBounds,Ne.symm h]
theorem put_get {a:Act} {d:Tmp} {v:Value} (h:d<a.tmps.size):(a.put (some d) v).tmps[d]?=some v:=by
 simp[Act.put,Array.getElem?_setIfInBounds,h]
theorem put_size {a:Act} {d:Option Tmp} {v:Value}:(a.put d v).tmps.size=a.tmps.size:=by
 cases d <;> simp[Act.put]
theorem put_defers {a:Act} {d:Option Tmp} {v:Value}:(a.put d v).defers=a.defers:=by
 cases d <;> simp[Act.put]
theorem eval_get {a:Act} {s:Tmp} {v:Value} (h:a.tmps[s]?=some v):a.eval (.tmp s)=v:=by
 simp[Act.eval,Array.getD_eq_getD_getElem?,h]
theorem step_wanted {P:Program} {ops:Array Oper} {Q:Exit→Act→World→Prop} {i:Nat} {o:Oper} {K:Act→World→Prop} {a:Act} {w:World}
  (hi:ops[i]?=some o) (hg:o.guard=none) (h:o.wp P a w K Q):wpOp P ops Q i K a w:=by
 unfold wpOp
 simp only[hi]
 rw[if_pos (by simp[Region.wanted,hg])]
 exact .inl h
theorem step_call {P:Program} {ops:Array Oper} {Q:Exit→Act→World→Prop} {i:Nat} {o:Oper} {K:Act→World→Prop} {a:Act} {w:World}
  (hi:ops[i]?=some o) (hg:o.guard=none) {f:FuncId} {args:Array Operand} {ts:Array TypeId} (hop:o.op=.call { callee:=.value (.func f),args:=args,argTypes:=ts }) {vs:Array Value}
  (hc:∀ vs w,(callFunc f vs).run P w=.ok (.enter f vs) w) (hv:args.map a.eval=vs) (h:Calls P f vs w fun r w'=>∃ v,r=.returned v∧K (a.put o.dst v) w'):wpOp P ops Q i K a w:=by
 refine step_wanted hi hg ?_
 unfold Oper.wp
 have e:(execOp a.eval o).run P w=.ok (.enter f vs) w:=by
  simp[execOp,hop,resolve,Deferred.ofValue,Act.eval,invoke,hv,hc]
 rw[e,Oper.upon_enter]
 refine h.mono ?_
 rintro r w' ⟨v,rfl,hk⟩
 exact hk
theorem enters {P : Program} {f : FuncId} {fn : Func} (hf : P.funcs[f]? = some fn) (hname : (fn.name == "runtime.NumGoroutine") = false) (hb : fn.body.isNone = false) (vs : Array Value) (w : World) :
  (callFunc f vs).run P w=.ok (.enter f vs) w:=by
 have h1 : ¬ fn.name = "runtime.NumGoroutine" := by simpa using hname
 have h2:¬ fn.body=none:=by intro e;rw[e] at hb;simp at hb
 simp[callFunc,hf,h1,h2]
theorem step_alloc {P:Program} {ops:Array Oper} {Q:Exit→Act→World→Prop} {i:Nat} {o:Oper} {K:Act→World→Prop} {a:Act} {w:World}
  (hi:ops[i]?=some o) (hg:o.guard=none) {ty:TypeId} (hop:o.op=.alloc ty) {zs:Array Value} (hz:∀ w,(zeroValue ty).run P w=.ok (.agg zs) w)
  (h:K (a.put o.dst (.pointer (some ⟨w.heap.size,0,none⟩))) (w.alloc (.cells zs ty))):wpOp P ops Q i K a w:=by
 refine step_wanted hi hg ?_
 unfold Oper.wp
 simp[execOp,hop,Instr.alloc,hz,newVar,newRow,newObj,Value.cells,Result.andThen,Oper.upon]
 exact h
theorem step_store {P:Program} {ops:Array Oper} {Q:Exit→Act→World→Prop} {i:Nat} {o:Oper} {K:Act→World→Prop} {a:Act} {w:World}
  (hi:ops[i]?=some o) (hg:o.guard=none) {ty:TypeId} {s v:Tmp} (hop:o.op=.store ty (.tmp s) (.tmp v)) {g:Nat} {old cs:Array Value}
  (hs:a.tmps[s]?=some (.pointer (some ⟨g,0,none⟩))) (hv:a.tmps[v]?=some (.agg cs)) (hb:w.heap[g]?=some (.cells old ty (0,0))) (hn:(P.info? ty).map (·.size)=some cs.size) (ho:old.size=cs.size) (h1:cs.all (·.oneCell')=true)
  (h:K (a.put o.dst undef) (w.setRow g cs)):wpOp P ops Q i K a w:=by
 refine step_wanted hi hg ?_
 unfold Oper.wp
 simp[execOp,hop,eval_get hs,eval_get hv,Instr.storeAt,Instr.sureAddr,run_storeVar_row w g ty ty old cs hb hn ho h1,Result.andThen,Oper.upon,h]
theorem one3 {a b:Value} {ao:Option Addr} {n cap:Nat} (ha:a.oneCell'=true) (hb:b.oneCell'=true):(#[a,.slice ao n cap,b]:Array Value).all (·.oneCell')=true:=by
 have hc:(Value.slice ao n cap).oneCell'=true:=rfl
 simp only[List.all_toArray,List.all_cons,List.all_nil,ha,hb,hc,Bool.and_self]
theorem below_row {B:Nat} {w w':World} (h:Below B w w') {g:Nat} (hg:B≤g) (cs:Array Value):Below B w (w'.setRow g cs) :=
 ⟨h.os,h.tape,h.output,by simpa using h.size,fun j hj=>(setRow_other w' g j cs (by omega)).trans (h.block j hj)⟩
theorem r40 (ao:Option Addr) (n cap x:Nat) (w:World) (hx:dlen x≤n) (hn:n≤cap) (hc:n≤70368744177664) (h:At w ao n x) :
  Calls Tryz.prog 104 #[.slice ao n cap] w fun e w'=>e=.returned (.slice ao (dlen x) cap)∧w'=w:=by
 obtain⟨b,o,hb,hcell⟩:=h
 go_enter Tryz.func104,Tryz.ntmps104
 go_wp2
 go_loop [3] (fun v=>∃ k:Nat,k≤n∧v=.int .i64 (k:Int)∧dlen x≤k) (fun v=>(intOf v).toNat)
 case atStart=>exact⟨n,Nat.le_refl _,rfl,hx⟩
 case round =>
  obtain⟨k,hk,rfl,hd⟩:=hrel
  by_cases h0:k=0
  ·subst h0
   have e:dlen x=0:=by omega
   clear hd hx
   go_wp2
   go_ret
   exact⟨rfl,rfl⟩
  ·obtain⟨j,rfl⟩:∃ j,k=j+1:=⟨k - 1,by omega⟩
   have hj:j<n:=by omega
   obtain rfl:=hb (by omega)
   have g:=hcell j hj
   have HD:Hid (dlen x≤j+1):=hd
   clear hd hcell hx
   generalize hq:dg x j=q at g
   have HQ:Hid (dg x j=q):=hq
   clear hq
   by_cases hq0:q=0
   ·subst hq0
    go_wp2
    exact⟨⟨j,by omega,by simp,dlen_down HD.out (by omega) HQ.out⟩,by simp[intOf]⟩
   ·have hq1:((q:Int)==0)=false:=by simp;exact hq0
    go_wp2
    go_ret
    rw[dlen_here HD.out (.inr (by rw[Nat.add_sub_cancel,HQ.out];exact hq0))]
    exact⟨rfl,rfl⟩
theorem cells_succ (x n:Nat):cells x (n+1)=cells x n ++ [.int .u32 (dg x n:Nat)]:=by
 simp[cells,List.range_succ]
theorem at_of_row {w:World} {base:Nat} {v:Value} {y n:Nat} (h:w.ownsRow base 92 1 v n (cells y n)) :
  ∃ ao cap,v=.slice ao n cap∧n≤cap∧At w ao n y:=by
 rcases h.2 with ⟨hv,h0⟩|⟨g,cap,c,hv,hb,hc,h1,h2,h3,h4⟩
 ·exact⟨none,0,by rw[hv,h0],by omega,0,0,fun h=>by omega,fun i hi=>by omega⟩
 ·refine⟨_,cap,hv,h1,g,0,fun _=>rfl,fun i hi=>?_⟩
  have h5:(cells y n)[i]?=c[i]?:=by
   rw[←h4,Nat.mul_one,List.getElem?_take,if_pos hi,Array.getElem?_toList]
  rw[cells_get hi] at h5
  rw[Nat.zero_add]
  simp[World.cell?,hc,←h5]
theorem at_short {w:World} {ao:Option Addr} {n m y:Nat} (h:At w ao n y) (hm:m≤n):At w ao m y:=by
 obtain⟨b,o,h1,h2⟩:=h
 exact⟨b,o,fun h=>h1 (by omega),fun i hi=>h2 i (by omega)⟩
theorem r64_round {x k whole j m:Nat} {w wr w':World} {q:Int} {v v':Value} (hq:q=(dg (x / 2^k) j:Nat)) (hj:j<m) (hB:Bw w wr) (ho:wr.ownsRow w.heap.size 92 1 v j (cells (x / 2^k) j))
  (ho':w'.ownsRow w.heap.size 92 1 v' (j+1) (cells (x / 2^k) j ++ [.int .u32 q])) (hg:(wr.alloc (.cells #[.int .u32 q] 92)).grownBy w' v.ownBlock) :
  (∃ j_1:Nat,j_1≤m∧Value.int .i64 ((whole:Int)+j+1)=Value.int .i64 ((whole:Int)+j_1)∧w'.ownsRow w.heap.size 92 1 v' j_1 (cells (x / 2^k) j_1)∧Bw w w') ∧
  m - (intOf (Value.int .i64 ((whole:Int)+j+1)) - whole).toNat<m - (intOf (Value.int .i64 ((whole:Int)+j)) - whole).toNat:=by
 refine⟨⟨j+1,by omega,by simp[Int.add_assoc],by rw[cells_succ,←hq];exact ho',?_⟩,by simp[intOf];omega⟩
 exact(hB.alloc hB.size _).grown hg (by simp;have:=hB.size;omega) (fun k hk=>(ho.lt k hk).1)
theorem r64_1 (b o cap m whole part x k:Nat) (w:World) (hm0:0<m) (hm:m≤17592186044416) (hk:k≤1099511627776) (hcap:whole+m≤cap) (hwh:k / 32=whole) (hpa:k % 32=part)
  (hn:dlen x=whole+m) (hcell:∀ i,i<whole+m→w.cell? ⟨b,o+i,none⟩=some (.int .u32 (dg x i:Nat))) :
  Calls Tryz.prog 70 #[.slice (some ⟨b,o,none⟩) (whole+m:Nat) cap,.int .i64 k] w fun e w'=>∃ ao cap' bb,e=.returned (.tuple #[.slice ao (dlen (x / 2^k)) cap',.bool bb])∧At w' ao (dlen (x / 2^k)) (x / 2^k)∧dlen (x / 2^k)≤cap'∧Bw w w':=by
 have hq:(k:Int).tdiv 32=((k / 32:Nat):Int):=by rw[Int.tdiv_eq_ediv_of_nonneg (by omega)];rfl
 have hr:(k:Int).tmod 32=((k % 32:Nat):Int):=by rw[Int.tmod_eq_emod_of_nonneg (by omega)];rfl
 have hwb:whole≤1099511627776:=by omega
 have hpb:part<32:=by omega
 rw[hwh] at hq
 rw[hpa] at hr
 have HN:Hid (dlen x=whole+m):=hn
 have HW:Hid (k / 32=whole):=hwh
 have HP:Hid (k % 32=part):=hpa
 clear hn hwh hpa
 have hmi:(whole:Int)<((whole+m:Nat):Int):=by omega
 go_enter Tryz.func70,Tryz.ntmps70
 go_wp2
 go_loop [6,7] (fun a v=>∃ (bb:Bool) (i:Nat),a=.bool bb∧v=.int .i64 (i:Int)∧i≤whole) (fun _ v=>whole - (intOf v).toNat)
 case atStart=>exact⟨true,0,rfl,rfl,Nat.zero_le _⟩
 case round =>
  obtain⟨bb,i,rfl,rfl,hi⟩:=hrel
  by_cases hiw:i<whole
  ·have g1:=hcell i (by omega)
   generalize dg x i=d at *
   have hii:(i:Int)<(whole:Int):=by omega
   clear hcell
   cases bb
   ·go_wp2
    exact⟨⟨_,i+1,rfl,by simp,by omega⟩,by simp[intOf];omega⟩
   ·go_wp2
    exact⟨⟨_,i+1,rfl,by simp,by omega⟩,by simp[intOf];omega⟩
  ·obtain rfl:i=whole:=by omega
   clear hiw hi
   have HC:Hid (∀ i_1:Nat,i_1<i+m→w.cell? { block:=b,off:=o+i_1 }=some (Value.int IntKind.u32 ↑(dg x i_1))):=hcell
   go_wp2_with fail
   all_goals
    clear hq hmi hr hcell
    go_loopw [9,10] (fun v c wr=>∃ j:Nat,j≤m∧c=.int .i64 ((i:Int)+j)∧wr.ownsRow w.heap.size 92 1 v j (cells (x / 2^k) j)∧Bw w wr) (fun _ c _=>m - (intOf c - i).toNat)
    case atStart=>exact⟨0,Nat.zero_le _,by simp,World.ownsRow_nil ..,Below.refl _ _⟩
    case round =>
     obtain⟨j,hj,rfl,ho,hB⟩:=hrel
     have HO:Hid (wr.ownsRow w.heap.size 92 1 u9 j (cells (x / 2^k) j)):=ho
     have HB:Hid (Bw w wr):=hB
     have hbs:w.heap.size≤wr.heap.size:=hB.size
     by_cases hjn:j+1<m
     ·have g1:=(hB.cell (World.block_lt_of_cell? _ _ (HC.out (i+j) (by omega)))).trans (HC.out (i+j) (by omega))
      have g4:=(hB.cell (World.block_lt_of_cell? _ _ (HC.out (i+j+1) (by omega)))).trans (HC.out (i+j+1) (by omega))
      have hji:(j:Int)+1<(m:Int):=by omega
      generalize hd:dg x (i+j)=d at *
      generalize hd1:dg x (i+j+1)=d1 at *
      have HD:Hid (dg x (i+j)=d):=hd
      have HD1:Hid (dg x (i+(j+1))=d1):=hd1
      have HL:Hid (d<B∧d1<B):=⟨hd ▸ dg_lt _ _,hd1 ▸ dg_lt _ _⟩
      clear hd hd1 hB
      obtain⟨i0,hi0,hz0,hz1,hz2⟩:=info_parts Tryz.info92
      go_wp2_with (at_builtin;refine wpList_append_own _ rfl _ _ 42 rfl w.heap.size 92 i0 (.int .u32 0) 1 4 Tryz.underlying42 hi0 hz0 hz1 hz2 rfl (by decide) _ _ _ rfl (ho.alloc _) ⟨wr.heap.size,0,none⟩ 1 1 [.int .u32 (bits BinOp.or IntKind.u64 (IntKind.u64.wrap (d:Int)) (IntKind.u64.wrap (IntKind.u64.wrap (d1:Int)*4294967296)) / 2^part % 4294967296)] rfl rfl (cell_one_new _ _ _) (by intro u hu;simp at hu;subst hu;rfl) (by unfold maxLen;omega) (by omega) (by simp;omega) ?_)
      intro v' w4 hown4 hgrow _
      go_wp2
      exact r64_round (by rw[shr_word2 HL.out.1 HL.out.2,shr_digit HW.out HP.out,HD.out,HD1.out]) (by omega) HB.out HO.out hown4 hgrow
     ·by_cases hjm:j<m
      ·have g1:=(hB.cell (World.block_lt_of_cell? _ _ (HC.out (i+j) (by omega)))).trans (HC.out (i+j) (by omega))
       have hji:¬ (j:Int)+1<(m:Int):=by omega
       have hji2:(j:Int)<(m:Int):=by omega
       generalize hd:dg x (i+j)=d at *
       have HD:Hid (dg x (i+j)=d):=hd
       have HL:Hid (d<B):=hd ▸ dg_lt _ _
       have HZ:Hid (dg x (i+(j+1))=0):=dg_past (by rw[HN.out];omega)
       clear hd hB
       obtain⟨i0,hi0,hz0,hz1,hz2⟩:=info_parts Tryz.info92
       go_wp2_with (at_builtin;refine wpList_append_own _ rfl _ _ 42 rfl w.heap.size 92 i0 (.int .u32 0) 1 4 Tryz.underlying42 hi0 hz0 hz1 hz2 rfl (by decide) _ _ _ rfl (ho.alloc _) ⟨wr.heap.size,0,none⟩ 1 1 [.int .u32 (IntKind.u64.wrap (d:Int) / 2^part % 4294967296)] rfl rfl (cell_one_new _ _ _) (by intro u hu;simp at hu;subst hu;rfl) (by unfold maxLen;omega) (by omega) (by simp;omega) ?_)
       intro v' w4 hown4 hgrow _
       go_wp2
       exact r64_round (by rw[shr_word1 HL.out,shr_digit HW.out HP.out,HD.out,HZ.out,Nat.zero_mul,Nat.add_zero]) (by omega) HB.out HO.out hown4 hgrow
      ·obtain rfl:j=m:=by omega
       have hL:=shr_len (k:=k) (m:=j) (by rw[HW.out];exact HN.out)
       obtain⟨ao',cap',rfl,hc',hA⟩:=at_of_row ho
       have HA:Hid (At wr ao' (dlen (x / 2^k)) (x / 2^k)∧dlen (x / 2^k)≤cap'):=⟨at_short hA hL,by omega⟩
       have k40:=r40 ao' j cap' (x / 2^k) wr hL hc' (by omega) hA
       clear hB ho hA
       go_wp2_with (first|(go_at_call 104;refine k40.mono ?_;rintro e w' ⟨rfl,rfl⟩))
       refine bodyPost_ret (results_tmp2 rfl _ _ _) rfl ?_
       exact⟨_,_,_,rfl,HA.out.1,HA.out.2,HB.out⟩
theorem Tryz.info44:(Tryz.prog.info? 44).map (·.size)=some 3:=by kernel_rfl
theorem r64 {ao:Option Addr} {n cap x:Nat} {w:World} (hn:dlen x=n) (hc:n≤cap) (h:At w ao n x) (k:Nat) (hx:dlen x≤17592186044416) (hk:k / 32<dlen x) (hk2:k≤1099511627776) :
  Calls Tryz.prog 70 #[.slice ao n cap,.int .i64 k] w fun e w'=>∃ ao cap' bb,e=.returned (.tuple #[.slice ao (dlen (x / 2^k)) cap',.bool bb])∧At w' ao (dlen (x / 2^k)) (x / 2^k)∧dlen (x / 2^k)≤cap'∧Bw w w':=by
 obtain⟨b,o,hb,hcell⟩:=h
 subst hn
 obtain rfl:=hb (by omega)
 obtain⟨m,hm⟩:∃ m,dlen x=k / 32+m:=⟨dlen x - k / 32,by omega⟩
 rw[hm] at hcell hc ⊢
 exact r64_1 b o cap m _ _ x k w (by omega) (by omega) hk2 hc rfl rfl hm hcell
theorem store3_29 {w:World} {g:Nat} {a b c:Value} (a' b' c':Value) (h:w.heap[g]?=some (.cells #[a,b,c] 44 (0,0))) :
  (((w.setCell ⟨g,0,none⟩ a').setCell ⟨g,1,none⟩ b').setCell ⟨g,2,none⟩ c').heap[g]?=some (.cells #[a',b',c'] 44 (0,0)):=by
 simp[World.setCell,Array.getElem?_modify,h]
theorem box_cells29 {w:World} {g:Nat} {a b c:Value} (h:w.heap[g]?=some (.cells #[a,b,c] 44 (0,0))) :
  (w.cell? ⟨g,0,none⟩=some a∧w.cell? ⟨g,1,none⟩=some b∧w.cell? ⟨g,2,none⟩=some c)∧(w.frozen? ⟨g,0,none⟩=false∧w.frozen? ⟨g,1,none⟩=false∧w.frozen? ⟨g,2,none⟩=false):=by
 simp[World.cell?,World.frozen?,h]
theorem r34_0 (neg:Bool) (ao:Option Addr) (n cap:Nat) (e:Int) (w:World) (h:At w ao n 0) (hn:n≤cap) (hc:n≤70368744177664) :
  Calls Tryz.prog 72 #[.bool neg,.slice ao n cap,.int .i64 e] w fun e w'=>e=.returned (.agg #[.bool false,.slice none 0 0,.int .i64 0])∧Bw w w':=by
 have HB:Hid (Below w.heap.size w (w.alloc (.cells #[.bool false,.slice none 0 0,.int .i64 0] 44))):=(Below.refl _ _).alloc (Nat.le_refl _) _
 have k:=r40 ao n cap 0 (w.alloc (.cells #[.bool false,.slice none 0 0,.int .i64 0] 44)) (by rw[dlen_zero];omega) hn hc (h.later HB.out)
 rw[dlen_zero] at k
 clear h
 go_enter Tryz.func72,Tryz.ntmps72
 go_wp2_with fail
 refine k.mono ?_
 rintro e w1 ⟨rfl,rfl⟩
 go_wp2
 refine bodyPost_ret (results_cell_row rfl _ _ w.heap.size 44 #[.bool false,.slice none 0 0,.int .i64 0] (0,0) _ rfl (heap_alloc_new _ _) Tryz.underlying44 rfl Tryz.info44) rfl ?_
 exact⟨rfl,HB.out⟩
theorem and_one32 (a:Nat) (h:a<4294967296):bits .and .u32 (a:Int) 1=((a % 2:Nat):Int):=by
 have e:=u32_and_nat a 1 h (by decide)
 rw[show((1:Nat):Int)=1 from rfl] at e
 rw[e,Nat.and_one_is_mod]
theorem bit_tz {x t i p d T : Nat} (hT : tz x = T) (hx : x ≠ 0) (ht : t ≤ T) (h : t / 32 = i ∧ t % 32 = p ∧ dg x i = d) : (bits BinOp.and IntKind.u32 ((d : Int) / 2 ^ p) 1 == 0) = decide (t < T) := by
  obtain ⟨rfl, rfl, rfl⟩ := h
  subst hT
  have hl := dg_lt x (t / 32)
  have e1 : ((dg x (t / 32) : Nat) : Int) / 2 ^ (t % 32) = ((dg x (t / 32) / 2 ^ (t % 32) : Nat) : Int) := by simp
  have hl2 : dg x (t / 32) / 2 ^ (t % 32) < 4294967296 := Nat.lt_of_le_of_lt (Nat.div_le_self ..) hl
  rw [e1, and_one32 _ hl2]
  have e2 : dg x (t / 32) / 2 ^ (t % 32) % 2 = x / 2 ^ t % 2 := by
    unfold dg
    rw [two_split (k := t), ← Nat.div_div_eq_div_mul]
    generalize x / B ^ (t / 32) = y
    have hp : t % 32 < 32 := Nat.mod_lt _ (by omega)
    generalize t % 32 = p at *
    have e3 : B = 2 ^ p * 2 ^ (32 - p) := by rw [← Nat.pow_add]; unfold B; have : p + (32 - p) = 32 := by omega
                                             rw [this]
    have e4 : 2 ^ (32 - p) = 2 * 2 ^ (31 - p) := by have : 32 - p = (31 - p) + 1 := by omega
                                                    rw [this, Nat.pow_succ, Nat.mul_comm]
    rw [e3, Nat.mod_mul_right_div_self, e4, Nat.mod_mul_right_mod]
  rw [e2]
  obtain ⟨h1, h2⟩ := tz_spec _ x (Nat.le_refl _) hx
  by_cases ht2 : t < tz x
  · have e5 : x / 2 ^ t % 2 = 0 := by
      obtain ⟨k, hk⟩ : ∃ k, tz x = t + (k + 1) := ⟨tz x - t - 1, by omega⟩
      rw [← h1]
      generalize x / 2 ^ tz x = y
      rw [hk, Nat.pow_add, Nat.mul_assoc, Nat.mul_div_cancel_left _ (Nat.two_pow_pos t), Nat.pow_succ, Nat.mul_comm (2 ^ k) 2, Nat.mul_assoc, Nat.mul_mod_right]
    rw [e5]; simp [ht2]
  · have : t = tz x := by omega
    subst this
    rw [h2]; simp
theorem own_of_row {w:World} {base n x:Nat} {v:Value} (h:w.ownsRow base 92 1 v n (cells x n)) (hn:dlen x=n):Own w base v x:=by
 rcases h.2 with ⟨rfl,h0⟩|⟨g,cap,c,rfl,hb,hc,h1,h2,h3,h4⟩
 ·exact .inl ⟨rfl,dlen_eq_zero.1 (by omega)⟩
 ·refine .inr ⟨g,cap,fun i=>c.getD i undef,by rw[hn],hb,by omega,by unfold maxLen at h2;omega,⟨c,hc,by omega,fun i hi=>?_⟩,fun i hi=>?_⟩
  ·have:i<c.size:=by omega
   simp[Array.getD_eq_getD_getElem?,Array.getElem?_eq_getElem this]
  ·have h5:(cells x n)[i]?=c[i]?:=by
    rw[←h4,Nat.mul_one,List.getElem?_take,if_pos (by omega),Array.getElem?_toList]
   rw[cells_get (by omega)] at h5
   simp[Array.getD_eq_getD_getElem?,←h5]
theorem clone_1 (b o n cap x:Nat) (w:World) (hn0:0<n) (hn:n≤1000000000) (hx:dlen x=n) (hcell:∀ i,i<n→w.cell? ⟨b,o+i,none⟩=some (.int .u32 (dg x i:Nat))) :
  Calls Tryz.prog 100 #[.slice (some ⟨b,o,none⟩) n cap] w fun r w'=>∃ v,r=.returned v∧Own w' w.heap.size v x∧Bw w w':=by
 have HX:Hid (dlen x=n):=hx
 have hnil:=Lib.run_eql_slice_nil (P:=Tryz.prog) w 42 92 (some ⟨b,o,none⟩) n cap 0 0 Tryz.underlying42
 have HN:Hid (∀ j u,(cells x n)[j]?=some u→(w.alloc (Obj.cells #[] 92)).cell? ((⟨b,o,none⟩:Addr).add j)=some u):=fun j u hj=>by
  have hjl:j<n:=by
   have:=(List.getElem?_eq_some_iff.1 hj).1
   rwa [cells_length] at this
  rw[cells_get hjl] at hj
  have hcl:=hcell j hjl
  rw[show(⟨b,o,none⟩:Addr).add j=⟨b,o+j,none⟩ by simp[Addr.add]]
  rw[World.cell?_alloc_old _ _ _ (by have:=World.block_lt_of_cell? _ _ hcl;show b≠w.heap.size;simp at this;omega)]
  rw[←hj];exact hcl
 have hOM:(w.alloc (Obj.cells #[] 92)).ownsRow w.heap.size 92 1 (.slice (some ⟨w.heap.size,0,none⟩) 0 0) 0 []:=⟨rfl,.inr ⟨w.heap.size,0,#[],rfl,Nat.le_refl _,heap_alloc_new _ _,Nat.le_refl _,by unfold maxLen;omega,rfl,rfl⟩⟩
 obtain⟨i0,hi0,hz0,hz1,hz2⟩:=info_parts Tryz.info92
 clear hx hcell
 go_enter Tryz.func100,Tryz.ntmps100
 go_wp2_with (at_builtin;refine wpList_append_own _ rfl _ _ 42 rfl w.heap.size 92 i0 (.int .u32 0) 1 4 Tryz.underlying42 hi0 hz0 hz1 hz2 rfl (by decide) _ 0 [] rfl hOM ⟨b,o,none⟩ n cap (cells x n) rfl (by rw[cells_length,Nat.mul_one]) HN.out (by intro u hu;simp[cells] at hu;obtain⟨j,-,rfl⟩:=hu;rfl) (by unfold maxLen;omega) (by omega) (by simp) ?_)
 intro v' w2 hown hgrow _
 have HG:Hid (Bw w w2∧w2.ownsRow w.heap.size 92 1 v' n (cells x n)):=⟨Below.grown ((Below.refl w.heap.size w).alloc (Nat.le_refl _) _) hgrow (by simp) (fun k hk=>by simp[Value.ownBlock] at hk;omega),hown⟩
 clear hown hgrow hnil HN hOM hi0 hz0 hz1 hz2
 go_wp2
 go_ret
 exact⟨v',rfl,own_of_row HG.out.2 HX.out,HG.out.1⟩
theorem clone_nil (cap:Nat) (w:World) :
  Calls Tryz.prog 100 #[.slice none 0 cap] w fun r w'=>r=.returned (.slice none 0 0)∧w'=w:=by
 have hnil:=Lib.run_eql_slice_nil (P:=Tryz.prog) w 42 92 none 0 cap 0 0 Tryz.underlying42
 go_enter Tryz.func100,Tryz.ntmps100
 go_wp2
 go_ret
 exact⟨rfl,rfl⟩
theorem clone_0 (ad:Addr) (cap:Nat) (w:World) :
  Calls Tryz.prog 100 #[.slice (some ad) 0 cap] w fun r w'=>∃ v,r=.returned v∧Own w' w.heap.size v 0∧Bw w w':=by
 have hnil:=Lib.run_eql_slice_nil (P:=Tryz.prog) w 42 92 (some ad) 0 cap 0 0 Tryz.underlying42
 have HG:Hid (Below w.heap.size w (w.alloc (Obj.cells #[] 92))∧(w.alloc (Obj.cells #[] 92)).heap[w.heap.size]?=some (.cells #[] 92 (0,0))):=⟨(Below.refl _ _).alloc (Nat.le_refl _) _,heap_alloc_new _ _⟩
 go_enter Tryz.func100,Tryz.ntmps100
 go_wp2
 go_ret
 refine⟨.slice (some ⟨w.heap.size,0,none⟩) 0 0,rfl,.inr ⟨w.heap.size,0,fun _=>undef,by rw[dlen_zero],Nat.le_refl _,by rw[dlen_zero];omega,by omega,⟨#[],HG.out.2,rfl,fun i hi=>by omega⟩,fun i hi=>by rw[dlen_zero] at hi;omega⟩,HG.out.1⟩
theorem clone_ok {v:Value} {x:Nat} {w:World} (h:Is w v x) (hx:dlen x≤1000000000) :
  Calls Tryz.prog 100 #[v] w fun r w'=>∃ v,r=.returned v∧Own w' w.heap.size v x∧Bw w w':=by
 obtain⟨ao,cap,rfl,h1,h2,h3⟩:=h
 by_cases h0:x=0
 ·subst h0
  rw[dlen_zero]
  cases ao with
  | none =>
   refine(clone_nil cap w).mono ?_
   rintro r w' ⟨rfl,rfl⟩
   exact⟨_,rfl,.inl ⟨rfl,rfl⟩,Below.refl _ _⟩
  | some ad=>exact clone_0 ad cap w
 ·have hl:0<dlen x:=Nat.pos_of_ne_zero fun e=>h0 (dlen_eq_zero.1 e)
  obtain⟨b,o,g1,g2⟩:=h3
  obtain rfl:=g1 hl
  exact clone_1 b o _ cap x w hl hx rfl g2
end Go.Proofs.YtjiolfnchiioaaaGreatDoor
namespace Go.Proofs.YtjiolfnchiioaaaGreatDoor
open Go.RowKit Go.Fl64
theorem c159 (a:Nat) (ha:a<18446744073709551616) (w:World) :
  Calls Tryz.prog 60 #[.float .f64 a] w fun e w'=>e=.returned (.float .f64 (mag a))∧w'=w:=by
 have hb:=Ie.run_bits
 have hf:=Ie.run_frombits
 go_enter Tryz.func60,Tryz.ntmps60
 go_wp2
 go_ret
 refine⟨?_,rfl⟩
 show Ending.returned (.float .f64 (bits .andNot .u64 a 9223372036854775808).toNat)=_
 rw[andNot_sign a ha]
 simp
theorem mag_lt' (a:Nat) (ha:a<18446744073709551616):mag a<18446744073709551616:=by unfold mag;omega
theorem c123 (a:Nat) (ha:a<18446744073709551616) (w:World) :
  Calls Tryz.prog 38 #[.float .f64 a,.int .i64 0] w fun e w'=>e=.returned (.bool (lt 9218868437227405311 (mag a)))∧w'=w:=by
 have k:=c159 a ha
 have h:=ord_gt (mag a) 9218868437227405311 (mag_lt' a ha) (by omega)
 generalize mag a=m at *
 have H:Hid ((FloatKind.f64.format.order m 9218868437227405311==some Ordering.gt)=lt 9218868437227405311 m):=h
 clear h
 go_enter Tryz.func38,Tryz.ntmps38
 go_wp2_with (first|(go_at_call 60;refine(k _).mono ?_;rintro e w' ⟨rfl,rfl⟩))
 go_ret
 exact⟨congrArg Ending.returned (congrArg Value.bool H.out),rfl⟩
theorem lt_of_box {w:World} {g:Nat} {o:Obj} (h:w.heap[g]?=some o):g<w.heap.size:=(Array.getElem?_eq_some_iff.1 h).1
theorem same_self (a:Nat):same a a=true:=by simp[same]
end Go.Proofs.YtjiolfnchiioaaaGreatDoor
namespace Go.Proofs.YtjiolfnchiioaaaGreatDoor
open Go.RowKit
theorem dlen_sumN (na:Bool) (x:Nat) (ea:Int) (nb:Bool) (y:Nat) (eb:Int) (hx:dlen x≤500000) (hy:dlen y≤500000) (ha : -4000000≤ea∧ea≤4000000) (hb : -4000000≤eb∧eb≤4000000):dlen (sumN na x ea nb y eb).2.1≤1000000:=by
 unfold sumN
 have l1:dlen (x*2^(ea - min ea eb).toNat)≤760000:=by have:=shl_len (x:=x) (k:=(ea - min ea eb).toNat) rfl;omega
 have l2:dlen (y*2^(eb - min ea eb).toNat)≤760000:=by have:=shl_len (x:=y) (k:=(eb - min ea eb).toNat) rfl;omega
 have l3:=dlen_add_le (x*2^(ea - min ea eb).toNat) (y*2^(eb - min ea eb).toNat)
 split
 ·show dlen y≤_;omega
 ·split
  ·show dlen x≤_;omega
  ·split
   ·show dlen (_+_)≤_;omega
   ·split
    ·have:=dlen_mono (Nat.sub_le (y*2^(eb - min ea eb).toNat) (x*2^(ea - min ea eb).toNat));show dlen (_ - _)≤_;omega
    ·have:=dlen_mono (Nat.sub_le (x*2^(ea - min ea eb).toNat) (y*2^(eb - min ea eb).toNat));show dlen (_ - _)≤_;omega
end Go.Proofs.YtjiolfnchiioaaaGreatDoor
