/- Own work: contracts of the program's functions, part 5: Shelf S1 S2 T1 T2 T3 T4 R4 R5 E1 Tab F3 F4 G1 G2 Q1 Q2 R6 Q3 ON. -/
import Derived.Shelf.Strings.Builder1
import Derived.Shelf.LaysM
import Derived.Shelf.Strconv.Itoa3
import Derived.Test.YtjiolfnchiioaaaGreatDoorProg
import Derived.Test.YtjiolfnchiioaaaGreatDoorA4
import Derived.Test.YtjiolfnchiioaaaGreatDoorA2
import Derived.Test.YtjiolfnchiioaaaGreatDoorA3
import Derived.Lib.LaidTab
import Derived.Deep.CutRange
import Derived.Deep.RegionLawGrows
import Derived.Deep.RegionHeld3
import Derived.Laws.AppendOwnNone
import Derived.Test.YtjiolfnchiioaaaGreatDoorRows
import Derived.Carry
import Derived.ChangeSlices
import Derived.WalkKit
import Derived.ProofKit
import Derived.OpenShut
import Derived.WalkLawsBesides
import Derived.ChangeAlike
import Derived.Lib.SmallJoins
import Derived.SizedLaws

set_option maxHeartbeats 16000000
set_option maxRecDepth 200000
set_option linter.unusedVariables false
set_option linter.unusedSimpArgs false
/- The library's contracts at this program that are used: the builder's text, a whole number's decimal digits. -/
namespace Go.Proofs
open Go.Shelf
end Go.Proofs
namespace Go.Proofs.YtjiolfnchiioaaaGreatDoor
open Go.RowKit
end Go.Proofs.YtjiolfnchiioaaaGreatDoor
namespace Go.Proofs.YtjiolfnchiioaaaGreatDoor
open Go.RowKit Go.Fl64
theorem is_nil (w:World):Is w (.slice none 0 0) 0:=⟨none,0,by rw[dlen_zero],by rw[dlen_zero];omega,by omega,0,0,fun h=>by rw[dlen_zero] at h;omega,fun i hi=>by rw[dlen_zero] at hi;omega⟩
theorem two_at (m:Nat) (w:World) (hm:m<18446744073709551616):At (w.alloc (Obj.cells #[Value.int IntKind.u32 ((m:Int) % 4294967296),Value.int IntKind.u32 ((m:Int) / 4294967296)] 92)) (some ⟨w.heap.size,0,none⟩) 2 m:=by
 have hM:Mk w (w.alloc (Obj.cells #[Value.int IntKind.u32 ((m:Int) % 4294967296),Value.int IntKind.u32 ((m:Int) / 4294967296)] 92)) 2 (dg m):=by
  refine⟨(Below.refl _ _).alloc (Nat.le_refl _) _,by simp,World.rowIs_alloc w _ _ _ fun i hi=>?_⟩
  match i,hi with
  | 0,_=>simp[dg,B]
  | 1,_=>simp[dg,B];omega
 exact hM.at
theorem and_2047 (x:Nat) (h:x<18446744073709551616):bits .and .u64 (x:Int) 2047=((x % 2048:Nat):Int):=by
 have e:=u64_and_nat x 2047 h (by decide)
 rw[show((2047:Nat):Int)=2047 from rfl] at e
 rw[e]
 congr 1
 have:=Nat.and_two_pow_sub_one_eq_mod x 11
 simpa using this
theorem sgn_mag (a:Nat):stp a=(mag a:Int)∧neg a=false∨stp a = -(mag a:Int)∧neg a=true:=by
 unfold stp sgn
 cases neg a
 ·exact .inl ⟨rfl,rfl⟩
 ·exact .inr ⟨rfl,rfl⟩
theorem own:ownKnob Tryz.prog.godebug=none:=by kernel_rfl
theorem g64 : Tryz.prog.globalNamed "math/bits.deBruijn64tab" = some 1 := by kernel_rfl
theorem g64t:(Tryz.prog.globals[1]?).map (·.type)=some 129:=by kernel_rfl
theorem g32 : Tryz.prog.globalNamed "math/bits.deBruijn32tab" = some 2 := by kernel_rfl
theorem g32t:(Tryz.prog.globals[2]?).map (·.type)=some 136:=by kernel_rfl
theorem cells114:Tryz.prog.cellsOf 129=64:=by kernel_rfl
theorem cells130:Tryz.prog.cellsOf 136=32:=by kernel_rfl
theorem cells5:Tryz.prog.cellsOf 5=1:=by kernel_rfl
def zs64:List Int := [0,1,56,2,57,49,28,3,61,58,42,50,38,29,17,4,62,47,59,36,45,43,51,22,53,39,33,30,24,18,12,5,63,55,48,27,60,41,37,16,46,35,44,21,52,32,23,11,54,26,40,15,34,20,31,10,25,14,19,9,13,8,7,6]
def zs32:List Int := [0,1,28,2,29,14,24,3,30,22,20,15,25,17,4,8,31,27,13,23,21,19,16,7,26,12,18,6,11,5,10,9]
theorem zs64_at:∀ i,i<64→zs64.getD i 0=((Lib.deBruijn64tab.getD i 0:Nat):Int):=by decide +kernel
theorem zs32_at:∀ i,i<32→zs32.getD i 0=((Lib.deBruijn32tab.getD i 0:Nat):Int):=by decide +kernel
theorem tab64_of {W : World} (h : Lib.TabIs Tryz.prog W "math/bits.deBruijn64tab" .u8 zs64) : Ie.Tab W := by
 intro i hi
 have:=h.cell g64 i (by exact hi)
 rw[zs64_at i hi] at this
 exact this
theorem tab32_of {W : World} (h : Lib.TabIs Tryz.prog W "math/bits.deBruijn32tab" .u8 zs32) : Tab32 W := by
 intro i hi
 have:=h.cell g32 i (by exact hi)
 rw[zs32_at i hi] at this
 exact this
theorem laid_tail {P:Program} {W:World} {x:String×DataW Unit} {rest:List (String×DataW Unit)} (h:laidMet P (x :: rest) W):laidMet P rest W:=by
 obtain⟨ps,⟨g',t',cs,fuel,p,q,hg',ht',hvar,hd,hr,rfl⟩,hn,hc⟩:=h
 exact⟨q,hr,(List.nodup_append.1 hn).2.1,fun b off hm=>hc b off (List.mem_append_right _ hm)⟩
def ordN (na:Bool) (x:Nat) (ea:Int) (nb:Bool) (y:Nat) (eb:Int):Int :=
 if sgI na (dlen x)=sgI nb (dlen y)then sgI na (dlen x)*cmpI (x*2^(ea - min ea eb).toNat:Nat) (y*2^(eb - min ea eb).toNat:Nat)else cmpI (sgI na (dlen x)) (sgI nb (dlen y))
theorem cmpI_cases (x y:Int):(x<y∧cmpI x y = -1)∨(y<x∧cmpI x y=1)∨(x=y∧cmpI x y=0):=by
 unfold cmpI
 by_cases h1:x<y
 ·rw[if_pos h1];exact .inl ⟨h1,rfl⟩
 ·rw[if_neg h1]
  by_cases h2:y<x
  ·rw[if_pos h2];exact .inr (.inl ⟨h2,rfl⟩)
  ·rw[if_neg h2];exact .inr (.inr ⟨by omega,rfl⟩)
theorem sgI_pos {na:Bool} {n:Nat} (h:n≠0):sgI na n=if na then -1 else 1:=by unfold sgI;rw[if_neg h]
theorem sgI_zero {na:Bool}:sgI na 0=0:=by unfold sgI;rw[if_pos rfl]
theorem top_lt {x y k l:Nat} (hy:y≠0) (h:bl x+k<bl y+l):x*2^k<y*2^l:=by
 have h1:=lt_bl x
 have h2:=le_bl hy
 have hb:bl y≠0:=by unfold bl;rw[if_neg hy];omega
 have h3:x*2^k<2^(bl x+k):=by rw[Nat.pow_add];exact Nat.mul_lt_mul_of_pos_right h1 (Nat.two_pow_pos k)
 have h4:2^(bl x+k)≤2^(bl y - 1+l):=Nat.pow_le_pow_right (by omega) (by omega)
 have h5:2^(bl y - 1+l)≤y*2^l:=by rw[Nat.pow_add];exact Nat.mul_le_mul_right _ h2
 omega
theorem c48 (m:Int) (hm:m=1∨m=2∨m=3) (w:World):Calls Tryz.prog 101 #[.int .i64 m] w fun r w'=>r=.returned (.bool true)∧w'=w:=by
 rcases hm with rfl|rfl|rfl
 all_goals go_enter Tryz.func101,Tryz.ntmps101
 all_goals go_wp2
 all_goals go_ret
 all_goals exact⟨rfl,rfl⟩
theorem c24_1 (na:Bool) (ua:Option Addr) (un uc F:Nat) (ea mode:Int) (w:World)
  (k43:∀ W g,Bw w W→W.heap[g]?=some (.cells #[.bool na,.slice ua un uc,.int .i64 ea] 80 (0,0))→Calls Tryz.prog 97 #[.slice (some ⟨g,0,none⟩) 1 1] W fun r w'=>r=.returned (.bool true)∧Bw W w')
  (k48:∀ W,Calls Tryz.prog 101 #[.int .i64 mode] W fun r w'=>r=.returned (.bool true)∧w'=W)
  (k49:∀ W,Bw w W→Calls Tryz.prog 102 #[.agg #[.bool na,.slice ua un uc,.int .i64 ea],.int .i64 mode] W fun r w'=>r=.returned (.float .f64 F)∧Bw W w') :
  Calls Tryz.prog 64 #[.agg #[.bool na,.slice ua un uc,.int .i64 ea],.int .i64 mode] w fun r w'=>r=.returned (.tuple #[.float .f64 F,.int .i64 0])∧Bw w w':=by
 obtain⟨W,hW⟩:∃ W,W=w.alloc (.cells #[.bool na,.slice ua un uc,.int .i64 ea] 80):=⟨_,rfl⟩
 have hBW:Bw w W:=by rw[hW];exact(Below.refl _ _).alloc (Nat.le_refl _) _
 have hsz:W.heap.size=w.heap.size+1:=by rw[hW];simp
 have hbx:W.heap[w.heap.size]?=some (.cells #[.bool na,.slice ua un uc,.int .i64 ea] 80 (0,0)):=by rw[hW];exact heap_alloc_new _ _
 have k1:=k43 (W.alloc (.cells #[.bool na,.slice ua un uc,.int .i64 ea] 80)) (w.heap.size+1) (hBW.alloc hBW.size _) (by rw[←hsz];exact heap_alloc_new _ _)
 have HX:Hid (Bw w W∧W.heap.size=w.heap.size+1∧W.heap[w.heap.size]?=some (.cells #[.bool na,.slice ua un uc,.int .i64 ea] 80 (0,0))):=⟨hBW,hsz,hbx⟩
 have HK:Hid _:=k49
 clear hBW hsz hbx k43 k49
 go_enter Tryz.func64,Tryz.ntmps64
 go_wp2_with fail
 rw[←hW]
 clear hW
 refine k1.mono ?_
 rintro r w1 ⟨rfl,hb1⟩
 have HB1:Hid (Bw W w1):=((Below.refl W.heap.size W).alloc (Nat.le_refl _) _).trans (hb1.mono (by simp))
 clear k1 hb1
 obtain⟨⟨x0,x1,x2⟩,-⟩:=box_cells (box_later HX.out.2.2 HB1.out (by have:=HX.out.2.1;omega))
 have HB2:Hid (Bw w w1):=HX.out.1.trans (HB1.out.mono HX.out.1.size)
 have k2:=k48 w1
 clear k48
 go_wp2_with fail
 refine k2.mono ?_
 rintro r w2 ⟨rfl,hw2⟩
 replace hw2:=hw2.symm
 subst hw2
 clear k2
 have k3:=HK.out w1 HB2.out
 go_wp2_with fail
 refine k3.mono ?_
 rintro r w3 ⟨rfl,hb3⟩
 have HB3:Hid (Bw w w3):=HB2.out.trans (hb3.mono HB2.out.size)
 clear k3 hb3 x0 x1 x2
 go_wp2_with fail
 refine bodyPost_ret (results_tmp2 rfl _ _ _) rfl ?_
 exact⟨rfl,HB3.out⟩
end Go.Proofs.YtjiolfnchiioaaaGreatDoor
namespace Go.Proofs.YtjiolfnchiioaaaGreatDoor
open Go.RowKit
theorem setCell_block {w:World} {g k:Nat} (i:Nat) (v:Value) (h:k≠g):(w.setCell ⟨g,i,none⟩ v).heap[k]?=w.heap[k]?:=by
 simp[World.setCell,Array.getElem?_modify,Ne.symm h]
def Dn (w:World) (base:Nat) (v:Value) (n z:Nat):Prop :=
 (v=.slice none 0 0∧n=0)∨∃ g cap c,v=.slice (some ⟨g,0,none⟩) n cap∧base≤g∧(n≤cap∧cap≤9223372036854775807)∧w.heap[g]?=some (.cells c 92 (0,0))∧c.size=cap∧∀ i,i<n→c[i]?=some (.int .u32 (dg z i:Nat))
structure Arg (w:World) (ao:Option Addr) (n cap z:Nat):Prop where
 nil:n=0→(∃ ad,ao=some ad)∨(ao=none∧cap=0)
 at_:At w ao n z
 le:n≤cap
 small:n≤35184372088832
theorem Arg.later {w w':World} {ao:Option Addr} {n cap z:Nat} (h:Arg w ao n cap z) (hb:Bw w w'):Arg w' ao n cap z:=⟨h.nil,h.at_.later hb,h.le,h.small⟩
theorem Dn.mono {w:World} {base base':Nat} {v:Value} {n z:Nat} (h:Dn w base v n z) (hb:base'≤base):Dn w base' v n z:=by
 rcases h with h|⟨g,cap,c,h0,h1,h2⟩
 ·exact .inl h
 ·exact .inr ⟨g,cap,c,h0,by omega,h2⟩
def putL (a:Act) (l:List (Tmp×Value)):Act:=l.foldl (fun a p=>a.put (some p.1) p.2) a
theorem putL_defers (l:List (Tmp×Value)):∀ a:Act,(putL a l).defers=a.defers:=by
 induction l with
 | nil=>intro a;rfl
 | cons p r ih=>intro a;show(putL (a.put (some p.1) p.2) r).defers=_;rw[ih,put_defers]
theorem putL_other {s:Tmp} (l:List (Tmp×Value)):∀ a:Act,s ∉ l.map (·.1)→(putL a l).tmps[s]?=a.tmps[s]?:=by
 induction l with
 | nil=>intro a _;rfl
 | cons p r ih =>
  intro a h
  simp only[List.map_cons,List.mem_cons,not_or] at h
  show(putL (a.put (some p.1) p.2) r).tmps[s]?=_
  rw[ih _ h.2,put_get_ne h.1]
theorem putL_mem {s:Tmp} {v:Value} (l:List (Tmp×Value)):∀ a:Act,(s,v) ∈ l→(l.map (·.1)).Nodup→s<a.tmps.size→(putL a l).tmps[s]?=some v:=by
 induction l with
 | nil=>intro a h;cases h
 | cons p r ih =>
  intro a h hn hs
  simp only[List.map_cons,List.nodup_cons] at hn
  show(putL (a.put (some p.1) p.2) r).tmps[s]?=_
  rcases List.mem_cons.1 h with h|h
  ·subst h
   rw[putL_other _ _ hn.1,put_get hs]
  ·exact ih _ h hn.2 (by rw[put_size];exact hs)
theorem act_putL {a a0:Act} {l:List (Tmp×Value)} (hn:(l.map (·.1)).Nodup) (hs:a.tmps.size=a0.tmps.size) (hd:a.defers=a0.defers) (hl:∀ p ∈ l,a.tmps[p.1]?=some p.2) (ho:∀ s,s ∉ l.map (·.1)→a.tmps[s]?=a0.tmps[s]?):a=putL a0 l:=by
 have ht:a.tmps=(putL a0 l).tmps:=by
  refine Array.ext_getElem? fun s=>?_
  by_cases h:s ∈ l.map (·.1)
  ·obtain⟨p,hp,rfl⟩:=List.mem_map.1 h
   have h1:=hl p hp
   rw[h1,putL_mem l a0 hp hn (by rw[←hs];exact(Array.getElem?_eq_some_iff.1 h1).1)]
  ·rw[putL_other l a0 h];exact ho s h
 have hd':a.defers=(putL a0 l).defers:=by rw[putL_defers];exact hd
 cases a with
 | mk t d =>
  cases hp:putL a0 l with
  | mk t' d' =>
   rw[hp] at ht hd'
   simp only at ht hd'
   rw[ht,hd']
theorem follows_mixed:Tryz.prog.follows .mixedOrders=true:=by kernel_rfl
def sv (s:Bool) (x:Nat):Int:=if s then -(x:Int)else x
def vz (K:Nat) (s:Bool) (x:Nat) (e:Int):Int:=sv s x*((2^(e+K).toNat:Nat):Int)
theorem sv_zero (s:Bool):sv s 0=0:=by cases s <;> rfl
theorem sv_scale (s:Bool) (x k:Nat):sv s (x*k)=sv s x*(k:Int):=by
 cases s <;> simp[sv,Int.natCast_mul,Int.neg_mul]
theorem vz_zero (K:Nat) (s:Bool) (e:Int):vz K s 0 e=0:=by unfold vz;rw[sv_zero,Int.zero_mul]
theorem vz_shift {K:Nat} {s:Bool} {x k:Nat} {e:Int} (h:0≤e+K):vz K s (x*2^k) e=vz K s x (e+k):=by
 unfold vz
 rw[sv_scale,Int.mul_assoc,show(e+(k:Int)+K).toNat=k+(e+K).toNat by omega,Nat.pow_add,Int.natCast_mul]
def cn (s:Bool) (z:Nat) (e:Int):Bool×Nat×Int:=if z=0 then(false,0,0) else(s,z / 2^tz z,e+tz z)
theorem vz_cn {K:Nat} {s:Bool} {z:Nat} {e:Int} (h:0≤e+K):vz K (cn s z e).1 (cn s z e).2.1 (cn s z e).2.2=vz K s z e:=by
 unfold cn
 by_cases h0:z=0
 ·subst h0;rw[if_pos rfl,vz_zero,vz_zero]
 ·rw[if_neg h0]
  have h1:=(tz_spec z z (Nat.le_refl _) h0).1
  show vz K s (z / 2^tz z) (e+tz z)=_
  rw[←vz_shift h,Nat.mul_comm,h1]
theorem vz_sumN {K:Nat} {na nb:Bool} {x y:Nat} {ea eb:Int} (h1:0≤ea+K) (h2:0≤eb+K) :
  vz K (sumN na x ea nb y eb).1 (sumN na x ea nb y eb).2.1 (sumN na x ea nb y eb).2.2=vz K na x ea+vz K nb y eb:=by
 unfold sumN
 by_cases x0:x=0
 ·subst x0;rw[if_pos rfl,vz_zero,Int.zero_add]
 ·rw[if_neg x0]
  by_cases y0:y=0
  ·subst y0;rw[if_pos rfl,vz_zero,Int.add_zero]
  ·rw[if_neg y0]
   have hm:0≤min ea eb+(K:Int):=by omega
   have e1:vz K na x ea=vz K na (x*2^(ea - min ea eb).toNat) (min ea eb):=by
    rw[vz_shift hm,show min ea eb+((ea - min ea eb).toNat:Int)=ea by omega]
   have e2:vz K nb y eb=vz K nb (y*2^(eb - min ea eb).toNat) (min ea eb):=by
    rw[vz_shift hm,show min ea eb+((eb - min ea eb).toNat:Int)=eb by omega]
   rw[e1,e2]
   generalize x*2^(ea - min ea eb).toNat=X at *
   generalize y*2^(eb - min ea eb).toNat=Y at *
   unfold vz
   rw[←Int.add_mul]
   by_cases hs:na=nb
   ·subst hs
    rw[if_pos rfl]
    congr 1
    cases na <;> simp[sv]
    omega
   ·rw[if_neg hs]
    by_cases hlt:X<Y
    ·rw[if_pos hlt]
     congr 1
     cases na <;> cases nb <;> simp[sv] at hs ⊢ <;> omega
    ·rw[if_neg hlt]
     congr 1
     cases na <;> cases nb <;> simp[sv] at hs ⊢ <;> omega
def Fits (lo hi:Int) (x:Nat) (e:Int):Prop:=x=0∨(lo≤e∧e≤hi∧x<2^(hi - e).toNat)
theorem Fits.cn {lo hi:Int} {s:Bool} {z:Nat} {e:Int} (h:Fits lo hi z e):Fits lo hi (cn s z e).2.1 (cn s z e).2.2:=by
 rcases h with rfl|⟨h1,h2,h3⟩
 ·left;simp[YtjiolfnchiioaaaGreatDoor.cn]
 ·unfold YtjiolfnchiioaaaGreatDoor.cn
  by_cases h0:z=0
  ·subst h0;left;simp
  ·rw[if_neg h0]
   right
   have hs:=(tz_spec z z (Nat.le_refl _) h0).1
   have ho:=(tz_spec z z (Nat.le_refl _) h0).2
   have hq:1≤z / 2^tz z:=Nat.pos_of_ne_zero fun e0=>by rw[e0] at ho;simp at ho
   have ht:tz z<(hi - e).toNat:=by
    refine Nat.lt_of_not_le fun h=>?_
    have h4:=Nat.pow_le_pow_right (n:=2) (by omega) h
    have h5:=Nat.mul_le_mul_left (2^tz z) hq
    omega
   refine⟨by show lo≤e+(tz z:Int);omega,by show e+(tz z:Int)≤hi;omega,?_⟩
   show z / 2^tz z<2^(hi - (e+(tz z:Int))).toNat
   refine(Nat.div_lt_iff_lt_mul (Nat.two_pow_pos _)).2 ?_
   rw[←Nat.pow_add,show(hi - (e+(tz z:Int))).toNat+tz z=(hi - e).toNat by omega]
   exact h3
theorem Fits.mono {lo hi lo' hi':Int} {x:Nat} {e:Int} (h:Fits lo hi x e) (h1:lo'≤lo) (h2:hi≤hi'):Fits lo' hi' x e:=by
 rcases h with h|⟨h3,h4,h5⟩
 ·exact .inl h
 ·exact .inr ⟨by omega,by omega,Nat.lt_of_lt_of_le h5 (Nat.pow_le_pow_right (by omega) (by omega))⟩
theorem Fits.at {lo hi:Int} {x:Nat} {e m:Int} (h:Fits lo hi x e) (hm:m≤e):x*2^(e - m).toNat<2^(hi - m).toNat:=by
 rcases h with rfl|⟨h3,h4,h5⟩
 ·rw[Nat.zero_mul];exact Nat.two_pow_pos _
 ·rw[show(hi - m).toNat=(hi - e).toNat+(e - m).toNat by omega,Nat.pow_add]
  exact Nat.mul_lt_mul_of_pos_right h5 (Nat.two_pow_pos _)
theorem Fits.sum {lo hi:Int} {na nb:Bool} {x y:Nat} {ea eb:Int} (h1:Fits lo hi x ea) (h2:Fits lo hi y eb) :
  Fits lo (hi+1) (sumN na x ea nb y eb).2.1 (sumN na x ea nb y eb).2.2:=by
 unfold sumN
 by_cases x0:x=0
 ·rw[if_pos x0];exact h2.mono (by omega) (by omega)
 ·rw[if_neg x0]
  by_cases y0:y=0
  ·rw[if_pos y0];exact h1.mono (by omega) (by omega)
  ·rw[if_neg y0]
   have a1:=h1.at (m:=min ea eb) (by omega)
   have a2:=h2.at (m:=min ea eb) (by omega)
   obtain⟨p1,p2,-⟩:=h1.resolve_left x0
   obtain⟨q1,q2,-⟩:=h2.resolve_left y0
   have hp:2^(hi+1 - min ea eb).toNat=2^(hi - min ea eb).toNat*2:=by
    rw[show(hi+1 - min ea eb).toNat=(hi - min ea eb).toNat+1 by omega,Nat.pow_succ]
   generalize x*2^(ea - min ea eb).toNat=X at *
   generalize y*2^(eb - min ea eb).toNat=Y at *
   have hall:∀ Z,Z≤X+Y→Fits lo (hi+1) Z (min ea eb):=fun Z hZ=>.inr ⟨by omega,by omega,by omega⟩
   split
   ·exact hall _ (Nat.le_refl _)
   ·split
    ·exact hall _ (by show Y - X≤X+Y;omega)
    ·exact hall _ (by show X - Y≤X+Y;omega)
theorem Fits.mul {lo hi lo' hi':Int} {x y:Nat} {ea eb:Int} (h1:Fits lo hi x ea) (h2:Fits lo' hi' y eb):Fits (lo+lo') (hi+hi') (x*y) (ea+eb):=by
 rcases h1 with rfl|⟨a1,a2,a3⟩
 ·left;simp
 ·rcases h2 with rfl|⟨b1,b2,b3⟩
  ·left;simp
  ·right
   refine⟨by omega,by omega,?_⟩
   rw[show(hi+hi' - (ea+eb)).toNat=(hi - ea).toNat+(hi' - eb).toNat by omega,Nat.pow_add]
   exact Nat.mul_lt_mul_of_lt_of_le a3 (Nat.le_of_lt b3) (Nat.two_pow_pos _)
theorem Fits.dlen {lo hi:Int} {x:Nat} {e:Int} (h:Fits lo hi x e) (hb:hi - lo≤65536):dlen x≤2048:=by
 rcases h with rfl|⟨h1,h2,h3⟩
 ·rw[dlen_zero];omega
 ·refine(dlen_le _ _).2 (Nat.lt_of_lt_of_le h3 ?_)
  have hB:∀ n,B^n=2^(32*n):=fun n=>by
   have:(B:Nat)=2^32:=by decide
   rw[this,←Nat.pow_mul]
  have hn:(hi - e).toNat≤32*2048:=by omega
  generalize 2048=n at *
  rw[hB]
  exact Nat.pow_le_pow_right (by omega) hn
theorem Fits.ok {lo hi:Int} {s:Bool} {z:Nat} {e:Int} (h:Fits lo hi z e) (hb:hi - lo≤65536) (h1 : -65536≤lo) (h2:hi≤65536):okR s z e=true:=by
 unfold okR
 by_cases h0:z=0
 ·rw[if_pos h0]
 ·rw[if_neg h0]
  have hc:=h.cn (s:=s)
  have hd:=hc.dlen hb
  unfold YtjiolfnchiioaaaGreatDoor.cn at hc hd
  rw[if_neg h0] at hc hd
  have ho:=(tz_spec z z (Nat.le_refl _) h0).2
  simp only at hc hd
  generalize z / 2^tz z=x at *
  have hx0:x≠0:=by omega
  obtain⟨c1,c2,c3⟩:=hc.resolve_left hx0
  unfold okN
  rw[if_neg (fun e=>hx0 (dlen_eq_zero.1 e))]
  have e0:dg x 0 % 2=1:=by
   unfold dg
   rw[Nat.pow_zero,Nat.div_one]
   unfold B
   omega
  have e1:=dg_top hx0
  simp only[Bool.and_eq_true,decide_eq_true_eq,bne_iff_ne,ne_eq,beq_iff_eq]
  exact⟨⟨⟨⟨hd,e1⟩,e0⟩,by omega⟩,by omega⟩
def PN (w:World) (A:Value) (t:Bool×Nat×Int):Prop:=∃ ao cap,A=.agg #[.bool t.1,.slice ao (dlen t.2.1) cap,.int .i64 t.2.2]∧Is w (.slice ao (dlen t.2.1) cap) t.2.1
def Ok (t:Bool×Nat×Int):Prop:=okN t.1 (dlen t.2.1) t.2.1 t.2.2=true
theorem PN.later {w w':World} {A:Value} {t:Bool×Nat×Int} (h:PN w A t) (hb:Bw w w'):PN w' A t:=by
 obtain⟨ao,cap,h1,h2⟩:=h
 exact⟨ao,cap,h1,h2.later hb⟩
theorem PN.shape {w:World} {A:Value} {t:Bool×Nat×Int} (h:PN w A t):∃ s ao n cap e,A=.agg #[.bool s,.slice ao n cap,.int .i64 e]:=by
 obtain⟨ao,cap,h1,-⟩:=h
 exact⟨_,_,_,_,_,h1⟩
theorem Nrm.pn {w:World} {base:Nat} {A:Value} {s:Bool} {z:Nat} {e:Int} (h:Nrm w base A s z e):PN w A (cn s z e):=by
 unfold cn
 rcases h with ⟨rfl,rfl⟩|⟨h0,v,rfl,ho⟩
 ·rw[if_pos rfl]
  exact⟨none,0,by rw[dlen_zero];rfl,by rw[dlen_zero];exact is_nil w⟩
 ·rw[if_neg h0]
  obtain⟨ao,cap,rfl,h1,h2,h3⟩:=ho.is
  exact⟨ao,cap,rfl,ao,cap,rfl,h1,h2,h3⟩
theorem ok_cn {s:Bool} {z:Nat} {e:Int} (h:okR s z e=true):Ok (cn s z e):=by
 unfold Ok cn
 unfold okR at h
 by_cases h0:z=0
 ·rw[if_pos h0,dlen_zero];rfl
 ·rw[if_neg h0] at h ⊢; exact h
theorem Ok.facts {t:Bool×Nat×Int} (h:Ok t):dlen t.2.1≤2048 ∧ -65536≤t.2.2∧t.2.2≤65536∧(t.2.1=0→t=(false,0,0))∧(t.2.1≠0→t.2.1 % 2=1):=by
 obtain⟨s,x,e⟩:=t
 unfold Ok okN at h
 simp only at h ⊢
 by_cases h0:x=0
 ·subst h0
  rw[dlen_zero,if_pos rfl] at h
  simp at h
  obtain⟨rfl,rfl⟩:=h
  rw[dlen_zero]
  exact⟨by omega,by omega,by omega,fun _=>rfl,fun h=>absurd rfl h⟩
 ·rw[if_neg (fun e=>h0 (dlen_eq_zero.1 e))] at h
  simp only[Bool.and_eq_true,decide_eq_true_eq,bne_iff_ne,ne_eq,beq_iff_eq] at h
  obtain⟨⟨⟨⟨h1,h2⟩,h3⟩,h4⟩,h5⟩:=h
  refine⟨h1,h4,h5,fun h=>absurd h h0,fun _=>?_⟩
  unfold dg at h3
  rw[Nat.pow_zero,Nat.div_one] at h3
  unfold B at h3
  omega
theorem cn_ok {t:Bool×Nat×Int} (h:Ok t):cn t.1 t.2.1 t.2.2=t:=by
 obtain⟨-,-,-,h1,h2⟩:=h.facts
 unfold cn
 by_cases h0:t.2.1=0
 ·rw[if_pos h0];exact(h1 h0).symm
 ·rw[if_neg h0,tz_odd (h2 h0)]
  simp
def Op2 (f:FuncId) (t1 t2 t3:Bool×Nat×Int):Prop:=∀ W X Y,Tab32 W→PN W X t1→PN W Y t2→Calls Tryz.prog f #[X,Y] W fun r w'=>∃ s ao n cap e,r=.returned (.tuple #[.agg #[.bool s,.slice ao n cap,.int .i64 e],.int .i64 0])∧PN w' (.agg #[.bool s,.slice ao n cap,.int .i64 e]) t3∧Bw W w'
theorem held_pn {w:World} {s:Bool} {z:Nat} {e:Int} {r:Ending} {w':World} (h:Held w s z e r w') (hok:okR s z e=true) :
  ∃ s' ao n cap e',r=.returned (.tuple #[.agg #[.bool s',.slice ao n cap,.int .i64 e'],.int .i64 0])∧PN w' (.agg #[.bool s',.slice ao n cap,.int .i64 e']) (cn s z e)∧Bw w w':=by
 obtain⟨A,rfl,hN,hb⟩:=h
 rw[hok]
 have hp:=hN.pn
 obtain⟨s',ao,n,cap,e',rfl⟩:=hp.shape
 exact⟨s',ao,n,cap,e',rfl,hp,hb⟩
theorem add_op {t1 t2:Bool×Nat×Int} (h1:Ok t1) (h2:Ok t2) (hok:okR (sumN t1.1 t1.2.1 t1.2.2 t2.1 t2.2.1 t2.2.2).1 (sumN t1.1 t1.2.1 t1.2.2 t2.1 t2.2.1 t2.2.2).2.1 (sumN t1.1 t1.2.1 t1.2.2 t2.1 t2.2.1 t2.2.2).2.2=true) :
  Op2 62 t1 t2 (cn (sumN t1.1 t1.2.1 t1.2.2 t2.1 t2.2.1 t2.2.2).1 (sumN t1.1 t1.2.1 t1.2.2 t2.1 t2.2.1 t2.2.2).2.1 (sumN t1.1 t1.2.1 t1.2.2 t2.1 t2.2.1 t2.2.2).2.2):=by
 intro W X Y hT hX hY
 obtain⟨ua,uc,rfl,i1⟩:=hX
 obtain⟨va,vc,rfl,i2⟩:=hY
 obtain⟨a1,a2,a3,-,-⟩:=h1.facts
 obtain⟨b1,b2,b3,-,-⟩:=h2.facts
 have hl:=dlen_sumN t1.1 t1.2.1 t1.2.2 t2.1 t2.2.1 t2.2.2 (by omega) (by omega) (by omega) (by omega)
 refine(c34_1 t1.1 t2.1 ua va _ uc _ vc t1.2.1 t2.2.1 _ t1.2.2 t2.2.2 _ _ W (by omega) (fun W' g hW hg=>?_) (fun W' hW=>c87 (i1.later hW) (i2.later hW) (by omega) (by omega) (by omega) (by omega) (hT.later hW))).mono fun r w' h=>held_pn h hok
 have:=maybe2 hg (i1.later hW) (i2.later hW) (by omega) (by omega)
 unfold Ok at h1 h2
 rw[h1,h2] at this
 exact this
theorem mul_op {t1 t2:Bool×Nat×Int} (h1:Ok t1) (h2:Ok t2) (hok:okR (!(t1.1==t2.1)) (t1.2.1*t2.2.1) (t1.2.2+t2.2.2)=true) :
  Op2 107 t1 t2 (cn (!(t1.1==t2.1)) (t1.2.1*t2.2.1) (t1.2.2+t2.2.2)):=by
 intro W X Y hT hX hY
 obtain⟨ua,uc,rfl,i1⟩:=hX
 obtain⟨va,vc,rfl,i2⟩:=hY
 obtain⟨a1,a2,a3,-,-⟩:=h1.facts
 obtain⟨b1,b2,b3,-,-⟩:=h2.facts
 exact(mul_ok i1 i2 (by omega) (by omega) (by omega) (by omega) h1 h2 hT).mono fun r w' h=>held_pn h hok
end Go.Proofs.YtjiolfnchiioaaaGreatDoor
namespace Go.Proofs.YtjiolfnchiioaaaGreatDoor
open Go.RowKit Go.Fl64
theorem bl_half {x:Nat} (h:x≠0):bl x=bl (x / 2)+1:=by
 have h1:=lt_bl (x / 2)
 apply bl_eq
 ·rw[Nat.pow_succ];omega
 ·refine .inr ?_
  rw[Nat.add_sub_cancel]
  by_cases h2:x / 2=0
  ·rw[h2]
   have:bl 0=0:=by unfold bl;simp
   rw[this];omega
  ·have h3:=le_bl h2
   have h4:bl (x / 2)≠0:=by unfold bl;rw[if_neg h2];omega
   obtain⟨k,hk⟩:∃ k,bl (x / 2)=k+1:=⟨bl (x / 2) - 1,by omega⟩
   rw[hk] at h3 ⊢
   rw[Nat.add_sub_cancel] at h3
   rw[Nat.pow_succ];omega
theorem r42 (b o n cap x:Nat) (w:World) (hn0:0<n) (hn:n≤1000000000) (hx:dlen x=n) (hcell:∀ i,i<n→w.cell? ⟨b,o+i,none⟩=some (.int .u32 (dg x i:Nat))) :
  Calls Tryz.prog 103 #[.slice (some ⟨b,o,none⟩) n cap] w fun e w'=>e=.returned (.int .i64 (bl x:Nat))∧w'=w:=by
 have hx0:x≠0:=by intro e;subst e;rw[dlen_zero] at hx;omega
 have hbt:=bl_top hx0
 have hlt:=dg_lt x (n - 1)
 have g:=hcell (n - 1) (by omega)
 rw[hx] at hbt
 obtain⟨k,rfl⟩:∃ k,n=k+1:=⟨n - 1,by omega⟩
 rw[Nat.add_sub_cancel] at hbt hlt g
 generalize hd:dg x k=d at *
 have HB:Hid (bl x=32*k+bl d∧d<4294967296):=⟨hbt,hlt⟩
 have hn0':(((k+1:Nat):Int)==0)=false:=by simp;omega
 clear hcell hbt hlt hx hx0 hd
 go_enter Tryz.func103,Tryz.ntmps103
 go_wp2
 go_loop [3,4] (fun c t=>∃ (j u:Nat),c=.int .i64 (32*(k:Int)+j)∧t=.int .u32 (u:Int)∧Hid (bl d=j+bl u∧u<4294967296)∧j≤32) (fun _ t=>(intOf t).toNat)
 case atStart=>exact⟨0,d,by simp,rfl,⟨by omega,HB.out.2⟩,by omega⟩
 case round =>
  obtain⟨j,u,rfl,rfl,HU,hj⟩:=hrel
  by_cases hu:u=0
  ·subst hu
   have e:bl x=32*k+j:=by
    have h1:=HU.out.1
    have:bl 0=0:=by unfold bl;simp
    rw[this] at h1
    have:=HB.out.1
    omega
   have HE:Hid (((bl x:Nat):Int)=32*(k:Int)+j):=(by rw[e];simp:((bl x:Nat):Int)=32*(k:Int)+j)
   clear e
   go_wp2
   go_ret
   rw[HE.out]
   exact⟨rfl,rfl⟩
  ·have hu0:0<(u:Int):=by omega
   have hb:=bl_half hu
   have hj':j+1≤32:=by
    have h1:=HU.out.1
    have:=bl_le32 (x:=d) HB.out.2
    omega
   have HN:Hid (bl d=(j+1)+bl (u / 2)∧u / 2<4294967296):=⟨by have:=HU.out.1;omega,by have:=HU.out.2;omega⟩
   clear hb
   go_wp2
   exact⟨⟨j+1,u / 2,by congr 1,by simp,HN,hj'⟩,by simp[intOf];omega⟩
end Go.Proofs.YtjiolfnchiioaaaGreatDoor
namespace Go.Proofs.YtjiolfnchiioaaaGreatDoor
open Go.ChangeShapes Go.WideShapes Go.ChangeAt Go.RowKit Go.Joins
theorem laidOut:laidOutB Tryz.prog=true:=by kernel_rfl
end Go.Proofs.YtjiolfnchiioaaaGreatDoor
