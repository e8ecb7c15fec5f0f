/- Own work: contracts of the program's functions, part 10: RW5 RW6 DE2 DE3 DE4 FM FM2 F1 F6 F7 FM3 FM4 FM5 RT0 FM6 RT1 RT3 BB1. -/
import Derived.Test.YtapooodfgcjoaaaGreatA9
import Derived.Test.YtapooodfgcjoaaaGreatA7
import Derived.Test.YtapooodfgcjoaaaGreatA8
import Derived.Test.YtapooodfgcjoaaaGreatA1
import Derived.Test.YtapooodfgcjoaaaGreatA5
import Derived.Test.YtapooodfgcjoaaaGreatA6
import Derived.Deep.CutBlock

set_option maxHeartbeats 16000000
set_option maxRecDepth 200000
set_option linter.unusedVariables false
set_option linter.unusedSimpArgs false
namespace Go.Proofs.YtapooodfgcjoaaaGreat
open Go.RowKit
theorem rrootof_u (na:Bool) (ua:Option Addr) (uc x k:Nat) (ea place:Int) (w:World) (h1:At w ua (dlen x) x) (hu:dlen x≤uc) (hx0:x≠0) (hx:dlen x≤3000) (he1 : -200000≤ea) (he2:ea≤200000) (hp1 : -300000≤place) (hp2:place≤300000) (hk:ea+2*place=(k:Int)) (hk2:k≤1000000) :
  Calls Tryz.prog 44 #[.agg #[.bool na,.slice ua (dlen x) uc,.int .i64 ea],.int .i64 place] w fun r w'=>∃ A s,r=.returned (.tuple #[A,.bool (decide (s*s=x*2^k))])∧NC w' w.heap.size A false s (-place)∧s*s≤x*2^k∧x*2^k<(s+1)*(s+1)∧Bw w w':=by
 obtain⟨W,hW⟩:∃ W,W=(w.alloc (.cells #[.bool na,.slice ua (dlen x) uc,.int .i64 ea] 45)).alloc (.cells #[.bool false,.slice none 0 0,.int .i64 0] 45):=⟨_,rfl⟩
 obtain⟨hA,hC,hsz,hBW⟩:=two29 _ _ hW
 have HH:Hid ((W.heap[w.heap.size]?=some (.cells #[.bool na,.slice ua (dlen x) uc,.int .i64 ea] 45 (0,0))∧W.heap[w.heap.size+1]?=some (.cells #[.bool false,.slice none 0 0,.int .i64 0] 45 (0,0)))∧W.heap.size=w.heap.size+1+1∧Bw w W):=⟨⟨hA,hC⟩,hsz,hBW⟩
 have HI:Hid (Ir W (.slice ua (dlen x) uc) x):=(⟨ua,uc,rfl,hu,h1.later hBW⟩:Ir W (.slice ua (dlen x) uc) x)
 have HN:Hid (x≠0∧dlen x≤3000∧k≤1000000):=⟨hx0,hx,hk2⟩
 have hxz:((dlen x:Int)==0)=false:=len_ne (n:=0) hx0
 obtain⟨⟨a0,a1,a2⟩,-⟩:=box_cells29 hA
 clear hA hC hsz hBW h1
 have ku:=rup HI.out k (by omega) (by omega)
 generalize hdx:dlen x=lx at *
 rw[hW] at a0 a1 a2
 go_enter Tryz.func44,Tryz.ntmps44
 go_wp2_with fail
 rw[←hW]
 clear hW a0 a1 a2
 refine ku.mono ?_
 rintro r w4 ⟨vu,rfl,hIu,hb4⟩
 have HB4:Hid (Bw W w4):=hb4
 have hl:dlen (x*2^k)≤40000:=by have:=shl_len (x:=x) (k:=k) rfl;have:=HN.out;omega
 have kr:=rrooted (hIu) (by omega)
 clear ku hb4 hIu
 go_wp2_with fail
 refine kr.mono ?_
 rintro r w5 ⟨vs,s,rfl,hIs,hs1,hs2,hb5⟩
 have HB5:Hid (Bw W w5):=HB4.out.trans (hb5.mono HB4.out.size)
 have HS:Hid (s*s≤x*2^k∧x*2^k<(s+1)*(s+1)):=⟨hs1,hs2⟩
 have hsl:dlen s≤40000:=Nat.le_trans (dlen_mono (Nat.le_trans (Nat.le_mul_self s) hs1)) hl
 have kn:=rnorm (neg:=false) (e := -place) hIs (by omega) (by omega)
 obtain⟨bx,hbx⟩:∃ bx:Bool,bx=decide (s*s=x*2^k):=⟨_,rfl⟩
 rw[←hbx]
 have HBX:Hid (bx=decide (s*s=x*2^k)):=hbx
 clear kr hIs hb5 hs1 hs2 hl hbx
 go_wp2_with fail
 refine kn.mono ?_
 rintro r w6 ⟨A,rfl,hN6,hb6⟩
 obtain⟨s6,ao6,n6,cap6,ex6,rfl⟩:=hN6.shape
 have HB6:Hid (Bw W w6):=HB5.out.trans (hb6.mono HB5.out.size)
 have HN6:Hid (NC w6 w5.heap.size (.agg #[.bool s6,.slice ao6 n6 cap6,.int .i64 ex6]) false s (-place)):=hN6
 have hres:=box_later HH.out.1.2 HB6.out (by have:=HH.out.2.1;omega)
 have HRES:Hid (w6.heap[w.heap.size+1]?=some (.cells #[.bool false,.slice none 0 0,.int .i64 0] 45 (0,0))):=hres
 obtain⟨⟨c0,c1,c2⟩,c3,c4,c5⟩:=box_cells29 hres
 clear kn hN6 hb6 hres
 go_wp2
 refine bodyPost_ret (results_cell_tmp_row rfl _ _ (w.heap.size+1) 45 #[.bool s6,.slice ao6 n6 cap6,.int .i64 ex6] (0,0) _ rfl (store3_29 _ _ _ HRES.out) Tryz.underlying45 rfl Tryz.info45) rfl ?_
 have q1:=HH.out.2.1
 have q2:=HB5.out.size
 exact⟨_,s,congrArg (fun b=>Ending.returned (Value.tuple #[_,.bool b])) HBX.out,(HN6.out.store (by omega) _ _ _).mono (by omega),HS.out.1,HS.out.2,below_store3 (HH.out.2.2.trans (HB6.out.mono HH.out.2.2.size)) (by omega) _ _ _⟩
theorem rrootof_d (na:Bool) (ua:Option Addr) (uc x k:Nat) (ea place:Int) (w:World) (h1:At w ua (dlen x) x) (hu:dlen x≤uc) (hx0:x≠0) (hx:dlen x≤3000) (he1 : -200000≤ea) (he2:ea≤200000) (hp1 : -300000≤place) (hp2:place≤300000) (hk:ea+2*place = -(k:Int)) (hk1:0<k) (hk2:k≤1000000) :
  Calls Tryz.prog 44 #[.agg #[.bool na,.slice ua (dlen x) uc,.int .i64 ea],.int .i64 place] w fun r w'=>∃ A s,r=.returned (.tuple #[A,.bool (decide (s*s=x / 2^k)&&decide (x % 2^k=0))])∧NC w' w.heap.size A false s (-place)∧s*s≤x / 2^k∧x / 2^k<(s+1)*(s+1)∧Bw w w':=by
 obtain⟨W,hW⟩:∃ W,W=(w.alloc (.cells #[.bool na,.slice ua (dlen x) uc,.int .i64 ea] 45)).alloc (.cells #[.bool false,.slice none 0 0,.int .i64 0] 45):=⟨_,rfl⟩
 obtain⟨hA,hC,hsz,hBW⟩:=two29 _ _ hW
 have HH:Hid ((W.heap[w.heap.size]?=some (.cells #[.bool na,.slice ua (dlen x) uc,.int .i64 ea] 45 (0,0))∧W.heap[w.heap.size+1]?=some (.cells #[.bool false,.slice none 0 0,.int .i64 0] 45 (0,0)))∧W.heap.size=w.heap.size+1+1∧Bw w W):=⟨⟨hA,hC⟩,hsz,hBW⟩
 have HI:Hid (Ir W (.slice ua (dlen x) uc) x):=(⟨ua,uc,rfl,hu,h1.later hBW⟩:Ir W (.slice ua (dlen x) uc) x)
 have HN:Hid (x≠0∧dlen x≤3000∧k≤1000000):=⟨hx0,hx,hk2⟩
 have hxz:((dlen x:Int)==0)=false:=len_ne (n:=0) hx0
 obtain⟨⟨a0,a1,a2⟩,-⟩:=box_cells29 hA
 clear hA hC hsz hBW h1
 have ku:=rdown HI.out k (by omega) (by omega)
 generalize hdx:dlen x=lx at *
 rw[hW] at a0 a1 a2
 go_enter Tryz.func44,Tryz.ntmps44
 go_wp2_with fail
 rw[←hW]
 clear hW a0 a1 a2
 refine ku.mono ?_
 rintro r w4 ⟨au,cu,rfl,hAu,hcu,hb4⟩
 obtain⟨ww,hww⟩:∃ ww:Bool,ww=decide (x % 2^k=0):=⟨_,rfl⟩
 rw[←hww]
 have HWW:Hid (ww=decide (x % 2^k=0)):=hww
 clear hww
 have HB4:Hid (Bw W w4):=hb4
 have hl:dlen (x / 2^k)≤40000:=Nat.le_trans (dlen_mono (Nat.div_le_self _ _)) (by have:=HN.out;omega)
 have kr:=rrooted (⟨au,cu,rfl,hcu,hAu⟩) (by omega)
 clear ku hb4 hAu hcu
 go_wp2_with fail
 refine kr.mono ?_
 rintro r w5 ⟨vs,s,rfl,hIs,hs1,hs2,hb5⟩
 have HB5:Hid (Bw W w5):=HB4.out.trans (hb5.mono HB4.out.size)
 have HS:Hid (s*s≤x / 2^k∧x / 2^k<(s+1)*(s+1)):=⟨hs1,hs2⟩
 have hsl:dlen s≤40000:=Nat.le_trans (dlen_mono (Nat.le_trans (Nat.le_mul_self s) hs1)) hl
 have kn:=rnorm (neg:=false) (e := -place) hIs (by omega) (by omega)
 obtain⟨bx,hbx⟩:∃ bx:Bool,bx=decide (s*s=x / 2^k):=⟨_,rfl⟩
 rw[←hbx]
 have HBX:Hid (bx=decide (s*s=x / 2^k)):=hbx
 clear kr hIs hb5 hs1 hs2 hl hbx
 go_wp2_with fail
 refine kn.mono ?_
 rintro r w6 ⟨A,rfl,hN6,hb6⟩
 obtain⟨s6,ao6,n6,cap6,ex6,rfl⟩:=hN6.shape
 have HB6:Hid (Bw W w6):=HB5.out.trans (hb6.mono HB5.out.size)
 have HN6:Hid (NC w6 w5.heap.size (.agg #[.bool s6,.slice ao6 n6 cap6,.int .i64 ex6]) false s (-place)):=hN6
 have hres:=box_later HH.out.1.2 HB6.out (by have:=HH.out.2.1;omega)
 have HRES:Hid (w6.heap[w.heap.size+1]?=some (.cells #[.bool false,.slice none 0 0,.int .i64 0] 45 (0,0))):=hres
 obtain⟨⟨c0,c1,c2⟩,c3,c4,c5⟩:=box_cells29 hres
 clear kn hN6 hb6 hres
 cases bx
 ·go_wp2
  refine bodyPost_ret (results_cell_tmp_row rfl _ _ (w.heap.size+1) 45 #[.bool s6,.slice ao6 n6 cap6,.int .i64 ex6] (0,0) _ rfl (store3_29 _ _ _ HRES.out) Tryz.underlying45 rfl Tryz.info45) rfl ?_
  have q1:=HH.out.2.1
  have q2:=HB5.out.size
  exact⟨_,s,congrArg (fun b=>Ending.returned (Value.tuple #[_,.bool b])) (by rw[←HBX.out];rfl),(HN6.out.store (by omega) _ _ _).mono (by omega),HS.out.1,HS.out.2,below_store3 (HH.out.2.2.trans (HB6.out.mono HH.out.2.2.size)) (by omega) _ _ _⟩
 ·go_wp2
  refine bodyPost_ret (results_cell_tmp_row rfl _ _ (w.heap.size+1) 45 #[.bool s6,.slice ao6 n6 cap6,.int .i64 ex6] (0,0) _ rfl (store3_29 _ _ _ HRES.out) Tryz.underlying45 rfl Tryz.info45) rfl ?_
  have q1:=HH.out.2.1
  have q2:=HB5.out.size
  exact⟨_,s,congrArg (fun b=>Ending.returned (Value.tuple #[_,.bool b])) (by rw[←HBX.out,←HWW.out];rfl),(HN6.out.store (by omega) _ _ _).mono (by omega),HS.out.1,HS.out.2,below_store3 (HH.out.2.2.trans (HB6.out.mono HH.out.2.2.size)) (by omega) _ _ _⟩
theorem rrootof_0 (na:Bool) (ua:Option Addr) (uc:Nat) (ea place:Int) (w:World) :
  Calls Tryz.prog 44 #[.agg #[.bool na,.slice ua 0 uc,.int .i64 ea],.int .i64 place] w fun r w'=>r=.returned (.tuple #[.agg #[.bool false,.slice none 0 0,.int .i64 0],.bool true])∧Bw w w':=by
 obtain⟨W,hW⟩:∃ W,W=(w.alloc (.cells #[.bool na,.slice ua 0 uc,.int .i64 ea] 45)).alloc (.cells #[.bool false,.slice none 0 0,.int .i64 0] 45):=⟨_,rfl⟩
 obtain⟨hA,hC,hsz,hBW⟩:=two29 _ _ hW
 have HH:Hid (W.heap[w.heap.size+1]?=some (.cells #[.bool false,.slice none 0 0,.int .i64 0] 45 (0,0))∧Bw w W):=⟨hC,hBW⟩
 obtain⟨⟨a0,a1,a2⟩,-⟩:=box_cells29 hA
 obtain⟨⟨c0,c1,c2⟩,c3,c4,c5⟩:=box_cells29 hC
 clear hA hC hsz hBW
 rw[hW] at a0 a1 a2 c0 c1 c2 c3 c4 c5
 go_enter Tryz.func44,Tryz.ntmps44
 go_wp2
 rw[←hW]
 refine bodyPost_ret (results_cell_tmp_row rfl _ _ (w.heap.size+1) 45 #[.bool false,.slice none 0 0,.int .i64 0] (0,0) _ rfl HH.out.1 Tryz.underlying45 rfl Tryz.info45) rfl ?_
 exact⟨rfl,HH.out.2⟩
theorem NC.nought (w:World) (base:Nat) (s:Bool) (e:Int):NC w base (.agg #[.bool false,.slice none 0 0,.int .i64 0]) s 0 e:=by
 refine⟨none,0,?_,?_,fun ad e=>by cases e⟩
 ·unfold cn;rw[if_pos rfl,dlen_zero]
 ·unfold cn;rw[if_pos rfl]
  exact⟨fun _=>.inr ⟨rfl,rfl⟩,⟨0,0,fun h=>by rw[dlen_zero] at h;omega,fun i hi=>by rw[dlen_zero] at hi;omega⟩,by rw[dlen_zero];exact Nat.le_refl _,by rw[dlen_zero];omega⟩
def rtW (x:Nat) (ea place:Int):Bool:=decide (0≤ea+2*place)||decide (x % 2^(-(ea+2*place)).toNat=0)
theorem rrootof {na:Bool} {ua:Option Addr} {uc x:Nat} {ea place:Int} {w:World} (h1:At w ua (dlen x) x) (hu:dlen x≤uc) (hx:dlen x≤3000) (he : -200000≤ea∧ea≤200000) (hp : -300000≤place∧place≤300000) :
  Calls Tryz.prog 44 #[.agg #[.bool na,.slice ua (dlen x) uc,.int .i64 ea],.int .i64 place] w fun r w'=>∃ A s,r=.returned (.tuple #[A,.bool (decide (s*s=rtQ x ea place)&&rtW x ea place)])∧NC w' w.heap.size A false s (-place)∧s*s≤rtQ x ea place∧rtQ x ea place<(s+1)*(s+1)∧Bw w w':=by
 by_cases hx0:x=0
 ·subst hx0
  have hq:rtQ 0 ea place=0:=by unfold rtQ;split <;> simp
  have hw:rtW 0 ea place=true:=by unfold rtW;simp
  rw[hq,hw,dlen_zero]
  refine(rrootof_0 na ua uc ea place w).mono ?_
  rintro r w' ⟨rfl,hb⟩
  exact⟨_,0,rfl,NC.nought _ _ _ _,Nat.le_refl _,by omega,hb⟩
 ·by_cases hs:0≤ea+2*place
  ·obtain⟨k,hk⟩:∃ k:Nat,ea+2*place=(k:Int):=⟨(ea+2*place).toNat,by omega⟩
   have hq:rtQ x ea place=x*2^k:=by unfold rtQ;rw[if_pos hs,hk,Int.toNat_natCast]
   have hw:rtW x ea place=true:=by unfold rtW;rw[decide_eq_true hs];rfl
   rw[hq,hw]
   refine(rrootof_u na ua uc x k ea place w h1 hu hx0 hx he.1 he.2 hp.1 hp.2 hk (by omega)).mono ?_
   rintro r w' ⟨A,s,rfl,h⟩
   exact⟨A,s,by rw[Bool.and_true],h⟩
  ·obtain⟨k,hk⟩:∃ k:Nat,ea+2*place = -(k:Int):=⟨(-(ea+2*place)).toNat,by omega⟩
   have hk3:(-(ea+2*place)).toNat=k:=by omega
   have hq:rtQ x ea place=x / 2^k:=by unfold rtQ;rw[if_neg hs,hk3]
   have hw:rtW x ea place=decide (x % 2^k=0):=by unfold rtW;rw[decide_eq_false hs,hk3];rfl
   rw[hq,hw]
   exact rrootof_d na ua uc x k ea place w h1 hu hx0 hx he.1 he.2 hp.1 hp.2 hk (by omega) (by omega)
theorem rcut_z (na:Bool) (ua:Option Addr) (un uc:Nat) (ea place:Int) (w:World) (he1 : -200000≤ea) (he2:ea≤200000) (hp1 : -200000≤place) (hp2:place≤200000) :
  Calls Tryz.prog 84 #[.agg #[.bool na,.slice ua 0 uc,.int .i64 ea],.int .i64 place] w fun r w'=>r=.returned (.tuple #[.agg #[.bool na,.slice ua 0 uc,.int .i64 ea],.bool true])∧Bw w w':=by
 obtain⟨W,hW⟩:∃ W,W=(w.alloc (.cells #[.bool na,.slice ua (0) uc,.int .i64 ea] 45)).alloc (.cells #[.bool false,.slice none 0 0,.int .i64 0] 45):=⟨_,rfl⟩
 obtain⟨hA,hC,hsz,hBW⟩:=two29 _ _ hW
 have HH:Hid ((W.heap[w.heap.size]?=some (.cells #[.bool na,.slice ua (0) uc,.int .i64 ea] 45 (0,0))∧W.heap[w.heap.size+1]?=some (.cells #[.bool false,.slice none 0 0,.int .i64 0] 45 (0,0)))∧W.heap.size=w.heap.size+1+1∧Bw w W):=⟨⟨hA,hC⟩,hsz,hBW⟩
 obtain⟨⟨a0,a1,a2⟩,-⟩:=box_cells29 hA
 obtain⟨⟨c0,c1,c2⟩,c3,c4,c5⟩:=box_cells29 hC
 clear hA hC hsz hBW
 rw[hW] at a0 a1 a2 c0 c1 c2 c3 c4 c5
 go_enter Tryz.func84,Tryz.ntmps84
 go_wp2
 obtain⟨W2,hW2⟩:∃ W2,W2=(w.alloc (.cells #[.bool na,.slice ua 0 uc,.int .i64 ea] 45)).alloc (.cells #[.bool na,.slice ua 0 uc,.int .i64 ea] 45):=⟨_,rfl⟩
 obtain⟨-,hC2,-,hB2⟩:=two29 _ _ hW2
 rw[←hW2]
 refine bodyPost_ret (results_cell_tmp_row rfl _ _ (w.heap.size+1) 45 #[.bool na,.slice ua 0 uc,.int .i64 ea] (0,0) _ rfl hC2 Tryz.underlying45 rfl Tryz.info45) rfl ?_
 exact⟨rfl,hB2⟩
theorem rcut_w (na:Bool) (ua:Option Addr) (un uc:Nat) (ea place:Int) (w:World) (he1 : -200000≤ea) (he2:ea≤200000) (hp1 : -200000≤place) (hp2:place≤200000) (hn0:((un:Int)==0)=false) (hn:un≤35184372088832) (hk : -place - ea≤0) :
  Calls Tryz.prog 84 #[.agg #[.bool na,.slice ua un uc,.int .i64 ea],.int .i64 place] w fun r w'=>r=.returned (.tuple #[.agg #[.bool na,.slice ua un uc,.int .i64 ea],.bool true])∧Bw w w':=by
 obtain⟨W,hW⟩:∃ W,W=(w.alloc (.cells #[.bool na,.slice ua (un) uc,.int .i64 ea] 45)).alloc (.cells #[.bool false,.slice none 0 0,.int .i64 0] 45):=⟨_,rfl⟩
 obtain⟨hA,hC,hsz,hBW⟩:=two29 _ _ hW
 have HH:Hid ((W.heap[w.heap.size]?=some (.cells #[.bool na,.slice ua (un) uc,.int .i64 ea] 45 (0,0))∧W.heap[w.heap.size+1]?=some (.cells #[.bool false,.slice none 0 0,.int .i64 0] 45 (0,0)))∧W.heap.size=w.heap.size+1+1∧Bw w W):=⟨⟨hA,hC⟩,hsz,hBW⟩
 obtain⟨⟨a0,a1,a2⟩,-⟩:=box_cells29 hA
 obtain⟨⟨c0,c1,c2⟩,c3,c4,c5⟩:=box_cells29 hC
 clear hA hC hsz hBW
 rw[hW] at a0 a1 a2 c0 c1 c2 c3 c4 c5
 have hd1:decide (-place - ea≤0)=true:=decide_eq_true hk
 go_enter Tryz.func84,Tryz.ntmps84
 go_wp2
 obtain⟨W2,hW2⟩:∃ W2,W2=(w.alloc (.cells #[.bool na,.slice ua un uc,.int .i64 ea] 45)).alloc (.cells #[.bool na,.slice ua un uc,.int .i64 ea] 45):=⟨_,rfl⟩
 obtain⟨-,hC2,-,hB2⟩:=two29 _ _ hW2
 rw[←hW2]
 refine bodyPost_ret (results_cell_tmp_row rfl _ _ (w.heap.size+1) 45 #[.bool na,.slice ua un uc,.int .i64 ea] (0,0) _ rfl hC2 Tryz.underlying45 rfl Tryz.info45) rfl ?_
 exact⟨rfl,hB2⟩
theorem rcut_p (ua:Option Addr) (uc x k:Nat) (ea place:Int) (w:World) (h1:At w ua (dlen x) x) (hu:dlen x≤uc) (hx0:x≠0) (hx:dlen x≤3000) (he1 : -200000≤ea) (he2:ea≤200000) (hp1 : -200000≤place) (hp2:place≤200000) (hk : -place - ea=(k:Int)) (hk1:0<k) (hk2:k≤600000) :
  Calls Tryz.prog 84 #[.agg #[.bool false,.slice ua (dlen x) uc,.int .i64 ea],.int .i64 place] w fun r w'=>∃ A,r=.returned (.tuple #[A,.bool false])∧NC w' w.heap.size A false (x / 2^k) (-place)∧Bw w w':=by
 obtain⟨W,hW⟩:∃ W,W=(w.alloc (.cells #[.bool false,.slice ua (dlen x) uc,.int .i64 ea] 45)).alloc (.cells #[.bool false,.slice none 0 0,.int .i64 0] 45):=⟨_,rfl⟩
 obtain⟨hA,hC,hsz,hBW⟩:=two29 _ _ hW
 have HH:Hid ((W.heap[w.heap.size]?=some (.cells #[.bool false,.slice ua (dlen x) uc,.int .i64 ea] 45 (0,0))∧W.heap[w.heap.size+1]?=some (.cells #[.bool false,.slice none 0 0,.int .i64 0] 45 (0,0)))∧W.heap.size=w.heap.size+1+1∧Bw w W):=⟨⟨hA,hC⟩,hsz,hBW⟩
 obtain⟨⟨a0,a1,a2⟩,-⟩:=box_cells29 hA
 have HI:Hid (Ir W (.slice ua (dlen x) uc) x):=(⟨ua,uc,rfl,hu,h1.later hBW⟩:Ir W (.slice ua (dlen x) uc) x)
 have HN:Hid (x≠0∧dlen x≤3000∧k≤600000):=⟨hx0,hx,hk2⟩
 have hxz:((dlen x:Int)==0)=false:=len_ne (n:=0) hx0
 have hkp:¬ ((k:Int)≤0):=by omega
 have hkd:decide ((k:Int)≤0)=false:=decide_eq_false hkp
 clear hA hC hsz hBW h1
 have ku:=rdown HI.out k (by omega) (by omega)
 generalize hdx:dlen x=lx at *
 rw[hW] at a0 a1 a2
 go_enter Tryz.func84,Tryz.ntmps84
 go_wp2_with fail
 rw[←hW]
 clear hW a0 a1 a2
 refine ku.mono ?_
 rintro r w5 ⟨au,cu,rfl,hAu,hcu,hb5⟩
 have HB5:Hid (Bw W w5):=hb5
 obtain⟨⟨a0,a1,a2⟩,-⟩:=box_cells29 (box_later HH.out.1.1 HB5.out (by have:=HH.out.2.1;omega))
 have hql:dlen (x / 2^k)≤30000:=Nat.le_trans (dlen_mono (Nat.div_le_self _ _)) (by have:=HN.out;omega)
 have kn:=rnorm (neg:=false) (e := -place) (⟨au,cu,rfl,hcu,hAu⟩:Ir w5 _ (x / 2^k)) (by omega) (by omega)
 have HQL:Hid (dlen (x / 2^k)≤30000):=hql
 clear ku hAu hcu hb5 hql
 obtain⟨lq,hlq⟩:∃ lq,lq=dlen (x / 2^k):=⟨_,rfl⟩
 rw[←hlq]
 rw[←hlq] at kn
 clear hlq
 go_wp2_with fail
 refine kn.mono ?_
 rintro r w6 ⟨A,rfl,hN6,hb6⟩
 obtain⟨s6,ao6,n6,cap6,ex6,rfl⟩:=hN6.shape
 have HB6:Hid (Bw W w6):=HB5.out.trans (hb6.mono HB5.out.size)
 have HN6:Hid (NC w6 w5.heap.size (.agg #[.bool s6,.slice ao6 n6 cap6,.int .i64 ex6]) false (x / 2^k) (-place)):=hN6
 obtain⟨w7,hw7⟩:∃ w7,w7=w6.alloc (.cells #[.bool s6,.slice ao6 n6 cap6,.int .i64 ex6] 45):=⟨_,rfl⟩
 have hB67:Bw w6 w7:=by rw[hw7];exact(Below.refl _ _).alloc (Nat.le_refl _) _
 have HB7:Hid (Bw W w7):=HB6.out.trans (hB67.mono HB6.out.size)
 have hbox:w7.heap[w6.heap.size]?=some (.cells #[.bool s6,.slice ao6 n6 cap6,.int .i64 ex6] 45 (0,0)):=by rw[hw7];exact heap_alloc_new _ _
 have HBX:Hid (w7.heap[w6.heap.size]?=some (.cells #[.bool s6,.slice ao6 n6 cap6,.int .i64 ex6] 45 (0,0))∧Bw w6 w7):=⟨hbox,hB67⟩
 have hres:=box_later HH.out.1.2 HB7.out (by have:=HH.out.2.1;omega)
 have HRES:Hid (w7.heap[w.heap.size+1]?=some (.cells #[.bool false,.slice none 0 0,.int .i64 0] 45 (0,0))):=hres
 have hneg:=box_later HH.out.1.1 HB7.out (by have:=HH.out.2.1;omega)
 clear a0 a1 a2
 obtain⟨⟨c0,c1,c2⟩,c3,c4,c5⟩:=box_cells29 hres
 obtain⟨⟨d0,d1,d2⟩,d3,d4,d5⟩:=box_cells29 hbox
 obtain⟨⟨a0,a1,a2⟩,-⟩:=box_cells29 hneg
 clear kn hN6 hb6 hbox hres hB67 hneg
 rw[hw7] at c0 c1 c2 c3 c4 c5 d0 d1 d2 d3 d4 d5 a0 a1 a2
 go_wp2
 rw[←hw7]
 refine bodyPost_ret (results_cell_tmp_row rfl _ _ (w.heap.size+1) 45 #[.bool s6,.slice ao6 n6 cap6,.int .i64 ex6] (0,0) _ rfl (store3_29 _ _ _ HRES.out) Tryz.underlying45 rfl Tryz.info45) rfl ?_
 have q1:=HH.out.2.1
 have q2:=HB5.out.size
 exact⟨_,rfl,((HN6.out.later HBX.out.2).store (by omega) _ _ _).mono (by omega),below_store3 (HH.out.2.2.trans (HB7.out.mono HH.out.2.2.size)) (by omega) _ _ _⟩
theorem rcut_n (ua:Option Addr) (uc x k:Nat) (ea place:Int) (w:World) (h1:At w ua (dlen x) x) (hu:dlen x≤uc) (hx0:x≠0) (hx:dlen x≤3000) (he1 : -200000≤ea) (he2:ea≤200000) (hp1 : -200000≤place) (hp2:place≤200000) (hk : -place - ea=(k:Int)) (hk1:0<k) (hk2:k≤600000) :
  Calls Tryz.prog 84 #[.agg #[.bool true,.slice ua (dlen x) uc,.int .i64 ea],.int .i64 place] w fun r w'=>∃ A,r=.returned (.tuple #[A,.bool false])∧NC w' w.heap.size A true (x / 2^k+1) (-place)∧Bw w w':=by
 obtain⟨W,hW⟩:∃ W,W=(w.alloc (.cells #[.bool true,.slice ua (dlen x) uc,.int .i64 ea] 45)).alloc (.cells #[.bool false,.slice none 0 0,.int .i64 0] 45):=⟨_,rfl⟩
 obtain⟨hA,hC,hsz,hBW⟩:=two29 _ _ hW
 have HH:Hid ((W.heap[w.heap.size]?=some (.cells #[.bool true,.slice ua (dlen x) uc,.int .i64 ea] 45 (0,0))∧W.heap[w.heap.size+1]?=some (.cells #[.bool false,.slice none 0 0,.int .i64 0] 45 (0,0)))∧W.heap.size=w.heap.size+1+1∧Bw w W):=⟨⟨hA,hC⟩,hsz,hBW⟩
 obtain⟨⟨a0,a1,a2⟩,-⟩:=box_cells29 hA
 have HI:Hid (Ir W (.slice ua (dlen x) uc) x):=(⟨ua,uc,rfl,hu,h1.later hBW⟩:Ir W (.slice ua (dlen x) uc) x)
 have HN:Hid (x≠0∧dlen x≤3000∧k≤600000):=⟨hx0,hx,hk2⟩
 have hxz:((dlen x:Int)==0)=false:=len_ne (n:=0) hx0
 have hkp:¬ ((k:Int)≤0):=by omega
 have hkd:decide ((k:Int)≤0)=false:=decide_eq_false hkp
 clear hA hC hsz hBW h1
 have ku:=rdown HI.out k (by omega) (by omega)
 generalize hdx:dlen x=lx at *
 rw[hW] at a0 a1 a2
 go_enter Tryz.func84,Tryz.ntmps84
 go_wp2_with fail
 rw[←hW]
 clear hW a0 a1 a2
 refine ku.mono ?_
 rintro r w5 ⟨au,cu,rfl,hAu,hcu,hb5⟩
 have HB5:Hid (Bw W w5):=hb5
 obtain⟨⟨a0,a1,a2⟩,-⟩:=box_cells29 (box_later HH.out.1.1 HB5.out (by have:=HH.out.2.1;omega))
 have hql:dlen (x / 2^k)≤30000:=Nat.le_trans (dlen_mono (Nat.div_le_self _ _)) (by have:=HN.out;omega)
 have kn:=rnorm (neg:=true) (e := -place) (⟨au,cu,rfl,hcu,hAu⟩:Ir w5 _ (x / 2^k)) (by omega) (by omega)
 have HQL:Hid (dlen (x / 2^k)≤30000):=hql
 clear ku hAu hcu hb5 hql
 obtain⟨lq,hlq⟩:∃ lq,lq=dlen (x / 2^k):=⟨_,rfl⟩
 rw[←hlq]
 rw[←hlq] at kn
 clear hlq
 go_wp2_with fail
 refine kn.mono ?_
 rintro r w6 ⟨A,rfl,hN6,hb6⟩
 obtain⟨s6,ao6,n6,cap6,ex6,rfl⟩:=hN6.shape
 have HB6:Hid (Bw W w6):=HB5.out.trans (hb6.mono HB5.out.size)
 have HN6:Hid (NC w6 w5.heap.size (.agg #[.bool s6,.slice ao6 n6 cap6,.int .i64 ex6]) true (x / 2^k) (-place)):=hN6
 obtain⟨w7,hw7⟩:∃ w7,w7=w6.alloc (.cells #[.bool s6,.slice ao6 n6 cap6,.int .i64 ex6] 45):=⟨_,rfl⟩
 have hB67:Bw w6 w7:=by rw[hw7];exact(Below.refl _ _).alloc (Nat.le_refl _) _
 have HB7:Hid (Bw W w7):=HB6.out.trans (hB67.mono HB6.out.size)
 have hbox:w7.heap[w6.heap.size]?=some (.cells #[.bool s6,.slice ao6 n6 cap6,.int .i64 ex6] 45 (0,0)):=by rw[hw7];exact heap_alloc_new _ _
 have HBX:Hid (w7.heap[w6.heap.size]?=some (.cells #[.bool s6,.slice ao6 n6 cap6,.int .i64 ex6] 45 (0,0))∧Bw w6 w7):=⟨hbox,hB67⟩
 have hres:=box_later HH.out.1.2 HB7.out (by have:=HH.out.2.1;omega)
 have HRES:Hid (w7.heap[w.heap.size+1]?=some (.cells #[.bool false,.slice none 0 0,.int .i64 0] 45 (0,0))):=hres
 have hneg:=box_later HH.out.1.1 HB7.out (by have:=HH.out.2.1;omega)
 clear a0 a1 a2
 obtain⟨⟨c0,c1,c2⟩,c3,c4,c5⟩:=box_cells29 hres
 obtain⟨⟨d0,d1,d2⟩,d3,d4,d5⟩:=box_cells29 hbox
 obtain⟨⟨a0,a1,a2⟩,-⟩:=box_cells29 hneg
 clear kn hN6 hb6 hbox hres hB67 hneg
 rw[hw7] at c0 c1 c2 c3 c4 c5 d0 d1 d2 d3 d4 d5 a0 a1 a2
 have HK:Hid (∀ w',Bw w7 w'→(w'.cell? ⟨w6.heap.size,0,none⟩=some (.bool s6)∧w'.cell? ⟨w6.heap.size,1,none⟩=some (.slice ao6 n6 cap6)∧w'.cell? ⟨w6.heap.size,2,none⟩=some (.int .i64 ex6))):=fun w' hb=>(box_cells29 (box_later HBX.out.1 hb (by have:=HBX.out.1;exact(Array.getElem?_eq_some_iff.1 this).1))).1
 have kO:∀ w8,Bw w7 w8→Calls Tryz.prog 128 #[.int .i64 place] w8 fun r w'=>∃ g,r=.returned (.agg #[.bool false,.slice (some ⟨g,0,none⟩) 1 1,.int .i64 (-place)])∧Hid (At w' (some ⟨g,0,none⟩) 1 1)∧Bw w7 w'∧(w'.cell? ⟨w6.heap.size,0,none⟩=some (.bool s6)∧w'.cell? ⟨w6.heap.size,1,none⟩=some (.slice ao6 n6 cap6)∧w'.cell? ⟨w6.heap.size,2,none⟩=some (.int .i64 ex6)):=fun w8 hb=>(rone place w8 (by omega) (by omega)).mono fun r w' ⟨g,e1,e2,e3,e4⟩=>⟨g,e1,e3,hb.trans (e4.mono hb.size),HK.out w' (hb.trans (e4.mono hb.size))⟩
 have kL:∀ g w9,Hid (At w9 (some ⟨g,0,none⟩) 1 1)→Bw w7 w9→Calls Tryz.prog 57 #[.agg #[.bool s6,.slice ao6 n6 cap6,.int .i64 ex6],.agg #[.bool false,.slice (some ⟨g,0,none⟩) 1 1,.int .i64 (-place)]] w9 fun r w'=>∃ s ao n cap ex,r=.returned (.agg #[.bool s,.slice ao n cap,.int .i64 ex])∧Hid (NC w' w7.heap.size (.agg #[.bool s,.slice ao n cap,.int .i64 ex]) true (x / 2^k+1) (-place))∧Bw w7 w'∧Hid (w'.heap[w6.heap.size]?=some (.cells #[.bool s6,.slice ao6 n6 cap6,.int .i64 ex6] 45 (0,0)))∧(w'.cell? ⟨w6.heap.size,0,none⟩=some (.bool s6)∧w'.cell? ⟨w6.heap.size,1,none⟩=some (.slice ao6 n6 cap6)∧w'.cell? ⟨w6.heap.size,2,none⟩=some (.int .i64 ex6))∧(w'.frozen? ⟨w6.heap.size,0,none⟩=false∧w'.frozen? ⟨w6.heap.size,1,none⟩=false∧w'.frozen? ⟨w6.heap.size,2,none⟩=false):=by
  intro g w9 hA hb
  refine(rless_nc ((HN6.out.later HBX.out.2).later hb) hA.out (Nat.le_refl _) (by omega) (by omega) HQL.out).mono ?_
  rintro r w10 ⟨A,rfl,hN,hb10⟩
  obtain⟨s,ao,n,cap,ex,rfl⟩:=hN.shape
  have hbb:=hb.trans (hb10.mono hb.size)
  have hblk:=box_later HBX.out.1 hbb (by have:=HBX.out.1;exact(Array.getElem?_eq_some_iff.1 this).1)
  obtain⟨f1,f2⟩:=box_cells29 hblk
  exact⟨s,ao,n,cap,ex,rfl,hN.mono hb.size,hbb,hblk,f1,f2⟩
 have hBR:Bw w7 w7.drew:=(Below.refl _ _).drew
 have e0:w7.cell? ⟨w6.heap.size,0,none⟩=some (.bool s6)∧w7.cell? ⟨w6.heap.size,1,none⟩=some (.slice ao6 n6 cap6)∧w7.cell? ⟨w6.heap.size,2,none⟩=some (.int .i64 ex6):=HK.out w7 (Below.refl _ _)
 go_upto_region 7 with fail
 rw[←hw7]
 clear hw7 c0 c1 c2 c3 c4 c5 d0 d1 d2 d3 d4 d5 a0 a1 a2
 obtain⟨d0,d1,d2⟩:=e0
 go_cut [42] from 39 to 42 (fun v wx=>∃ s ao n cap ex,v=.agg #[.bool s,.slice ao n cap,.int .i64 ex]∧Hid (NC wx w7.heap.size (.agg #[.bool s,.slice ao n cap,.int .i64 ex]) true (x / 2^k+1) (-place))∧Hid (wx.heap[w6.heap.size]?=some (.cells #[.bool s,.slice ao n cap,.int .i64 ex] 45 (0,0)))∧Hid (Below w6.heap.size w7 wx))
 case first =>
  go_region_with (first|(go_at_call 128;refine(kO _ (by first|(with_reducible assumption)|exact hBR|exact Below.refl _ _)).mono ?_;rintro r w8 ⟨g8,rfl,hA8,hb8,⟨y1,y2,y3⟩⟩)|(go_at_call 57;refine(kL _ _ hA8 (by with_reducible assumption)).mono ?_;rintro r w9 ⟨s9,ao9,n9,cap9,ex9,rfl,hN9,hb9,hblk9,⟨x1,x2,x3⟩,x4,x5,x6⟩))
  all_goals go_wp2_with fail
  all_goals go_meet
  all_goals exact⟨s9,ao9,n9,cap9,ex9,rfl,hN9.out.store (Array.getElem?_eq_some_iff.1 HBX.out.1).1 _ _ _,store3_29 _ _ _ hblk9.out,below_store3 (hb9.mono HBX.out.2.size) (Nat.le_refl _) _ _ _⟩
 case rest =>
  obtain⟨s9,ao9,n9,cap9,ex9,rfl,hN9,hB9,hL9⟩:=hcut
  obtain⟨wx,rfl⟩:∃ wx:World,wx=wc:=⟨_,rfl⟩
  have q1:=HH.out.2.1
  have q2:=HB6.out.size
  have q3:=HB7.out.size
  have HBx:Hid (Bw W wx):=HB7.out.trans (hL9.out.mono HB6.out.size)
  have hres:=box_later HH.out.1.2 HBx.out (by omega)
  have HRES2:Hid (wx.heap[w.heap.size+1]?=some (.cells #[.bool false,.slice none 0 0,.int .i64 0] 45 (0,0))):=hres
  obtain⟨⟨c0,c1,c2⟩,c3,c4,c5⟩:=box_cells29 hres
  clear d0 d1 d2
  obtain⟨⟨d0,d1,d2⟩,d3,d4,d5⟩:=box_cells29 hB9.out
  clear kO kL hBR hres
  go_wp2
  refine bodyPost_ret (results_cell_tmp_row rfl _ _ (w.heap.size+1) 45 #[.bool s9,.slice ao9 n9 cap9,.int .i64 ex9] (0,0) _ rfl (store3_29 _ _ _ HRES2.out) Tryz.underlying45 rfl Tryz.info45) rfl ?_
  exact⟨_,rfl,(hN9.out.store (by omega) _ _ _).mono (by omega),below_store3 (HH.out.2.2.trans (HBx.out.mono HH.out.2.2.size)) (by omega) _ _ _⟩
end Go.Proofs.YtapooodfgcjoaaaGreat
namespace Go.Proofs.YtapooodfgcjoaaaGreat
open Go.RowKit Go.Fl64
theorem fl_pos {N D:Nat}:((N:Int) / (D:Int))=((N / D:Nat):Int):=by simp
theorem fl_neg {N D:Nat} (hD:0<D):(-(N:Int)) / (D:Int)=if N % D=0 then -((N / D:Nat):Int)else -((N / D+1:Nat):Int):=by
 have h1:=Nat.div_add_mod N D
 have h2:=Nat.mod_lt N hD
 generalize N / D=q at *
 generalize N % D=r at *
 have h3:(N:Int)=D*q+r:=by rw[←h1];push_cast;rfl
 split
 ·rename_i h
  have:(-(N:Int)) / (D:Int) = -(q:Int)∧(-(N:Int)) % (D:Int)=0:=(Int.ediv_emod_unique (by omega)).2 ⟨by rw[h3,h,Int.mul_neg];simp,Int.le_refl _,by omega⟩
  exact this.1
 ·rename_i h
  have:(-(N:Int)) / (D:Int) = -((q+1:Nat):Int)∧(-(N:Int)) % (D:Int)=D - r:=(Int.ediv_emod_unique (by omega)).2 ⟨by rw[h3,Int.mul_neg];push_cast;rw[Int.mul_add,Int.mul_one];omega,by omega,by omega⟩
  exact this.1
theorem un_parts {a:Int} {p:Nat} (h:a≠0):(un a p).1=decide (a<0)∧(un a p).2.1*2^tz a.natAbs=a.natAbs∧(un a p).2.2 = -(p:Int)+tz a.natAbs:=by
 have h0:a.natAbs≠0:=by omega
 unfold un cn
 rw[if_neg h0]
 refine⟨rfl,?_,rfl⟩
 have h2:=(tz_spec a.natAbs a.natAbs (Nat.le_refl _) h0).1
 rw[Nat.mul_comm];exact h2
theorem un_zero (p:Nat):un 0 p=(false,0,0):=by unfold un cn;rw[if_pos (by decide)]
theorem gover {a b:Int} {p q r bA bB:Nat} {X Y:Value} {w:World} (hb:0<b) (ha:a.natAbs<2^bA) (hbb:b.natAbs<2^bB) (hbA:bA≤90000) (hbB:bB≤90000) (hp:p≤90000) (hq:q≤90000) (hr:r≤90000) (h1:DN w X (un a p)) (h2:DN w Y (un b q)) :
  Calls Tryz.prog 129 #[X,Y,.int .i64 r] w fun res w'=>∃ A ex,res=.returned (.tuple #[A,.bool ex])∧DN w' A (un (a*((2^(r+q):Nat):Int) / (b*((2^p:Nat):Int))) r)∧Bw w w':=by
 obtain⟨ao,cap,rfl,a1⟩:=h1
 obtain⟨ao',cap',rfl,a2⟩:=h2
 have ea:=un_e (p:=p) ha
 have eb:=un_e (p:=q) hbb
 have la:=dlen_two9 (un_small (p:=p) ha)
 have lb:=dlen_two9 (un_small (p:=q) hbb)
 have y0:(un b q).2.1≠0:=fun h=>by have:=un_sign.2.1 h;omega
 refine(rover (na:=(un a p).1) (nb:=(un b q).1) a1.at_ a1.le a2.at_ a2.le y0 (by omega) (by omega) ⟨by omega,by omega⟩ ⟨by omega,by omega⟩ ⟨by omega,by omega⟩ rfl rfl).mono ?_
 rintro res w' ⟨A,e,hN,hbl⟩
 refine⟨A,_,e,?_,hbl⟩
 have hd:=hN.dn
 have key:cn ((un a p).1 != (un b q).1) (if(((un a p).1 != (un b q).1) && !decide (ovX (un a p).2.1 (un a p).2.2 (un b q).2.2 (r:Int) % ovY (un b q).2.1 (un a p).2.2 (un b q).2.2 (r:Int)=0))=true then ovX (un a p).2.1 (un a p).2.2 (un b q).2.2 (r:Int) / ovY (un b q).2.1 (un a p).2.2 (un b q).2.2 (r:Int)+1 else ovX (un a p).2.1 (un a p).2.2 (un b q).2.2 (r:Int) / ovY (un b q).2.1 (un a p).2.2 (un b q).2.2 (r:Int)) (-(r:Int))=un (a*((2^(r+q):Nat):Int) / (b*((2^p:Nat):Int))) r:=by
  refine un_eq (K:=r) (Nat.le_refl _) (by omega) ?_
  unfold vz
  rw[show(-(r:Int)+(r:Int)).toNat=0 by omega,Nat.sub_self,Nat.pow_zero]
  simp only[Int.natCast_one,Int.mul_one]
  obtain⟨pb1,pb2,pb3⟩:=un_parts (a:=b) (p:=q) (by omega)
  have nb:(un b q).1=false:=by rw[pb1];exact decide_eq_false (by omega)
  rw[nb,Bool.bne_false]
  obtain⟨bN,rfl⟩:∃ bN:Nat,b=bN:=⟨b.toNat,by omega⟩
  simp only[Int.natAbs_natCast] at pb2 pb3
  by_cases a0:a=0
  ·subst a0
   rw[un_zero]
   unfold ovX
   simp[sv]
  ·obtain⟨pa1,pa2,pa3⟩:=un_parts (a:=a) (p:=p) a0
   -- X P = |a| 2^(r + q), Y P = b 2^p
   obtain⟨m,hm⟩:∃ m:Nat,(m:Int)=min ((un a p).2.2+(r:Int)) (un (bN:Int) q).2.2+p+q:=⟨(min ((un a p).2.2+(r:Int)) (un (bN:Int) q).2.2+p+q).toNat,by omega⟩
   have hX:ovX (un a p).2.1 (un a p).2.2 (un (bN:Int) q).2.2 (r:Int)*2^m=a.natAbs*2^(r+q):=by
    have ee:((un a p).2.2+(r:Int) - min ((un a p).2.2+(r:Int)) (un (bN:Int) q).2.2).toNat+m=tz a.natAbs+(r+q):=by omega
    unfold ovX
    rw[Nat.mul_assoc,←Nat.pow_add,ee,Nat.pow_add,←Nat.mul_assoc,pa2]
   have hY:ovY (un (bN:Int) q).2.1 (un a p).2.2 (un (bN:Int) q).2.2 (r:Int)*2^m=bN*2^p:=by
    have ee:((un (bN:Int) q).2.2 - min ((un a p).2.2+(r:Int)) (un (bN:Int) q).2.2).toNat+m=tz bN+p:=by omega
    unfold ovY
    rw[Nat.mul_assoc,←Nat.pow_add,ee,Nat.pow_add,←Nat.mul_assoc,pb2]
   have hP:=Nat.two_pow_pos m
   have hD:0<bN*2^p:=Nat.mul_pos (by omega) (Nat.two_pow_pos p)
   have hdiv:ovX (un a p).2.1 (un a p).2.2 (un (bN:Int) q).2.2 (r:Int) / ovY (un (bN:Int) q).2.1 (un a p).2.2 (un (bN:Int) q).2.2 (r:Int)=a.natAbs*2^(r+q) / (bN*2^p):=by
    rw[←hX,←hY,Nat.mul_div_mul_right _ _ hP]
   have hmod:ovX (un a p).2.1 (un a p).2.2 (un (bN:Int) q).2.2 (r:Int) % ovY (un (bN:Int) q).2.1 (un a p).2.2 (un (bN:Int) q).2.2 (r:Int)=0↔a.natAbs*2^(r+q) % (bN*2^p)=0:=by
    rw[←hX,←hY,Nat.mul_mod_mul_right]
    constructor
    ·intro h;rw[h,Nat.zero_mul]
    ·intro h;rcases Nat.mul_eq_zero.1 h with h|h
     ·exact h
     ·omega
   rw[hdiv,pa1]
   have e1:(bN:Int)*((2^p:Nat):Int)=((bN*2^p:Nat):Int):=by push_cast;rfl
   rw[e1]
   by_cases hneg:a<0
   ·rw[decide_eq_true hneg,Bool.true_and]
    have e2:a*((2^(r+q):Nat):Int) = -((a.natAbs*2^(r+q):Nat):Int):=by
     rw[Int.natCast_mul,←Int.neg_mul];congr 1;omega
    rw[e2,fl_neg hD]
    by_cases h0:a.natAbs*2^(r+q) % (bN*2^p)=0
    ·rw[if_pos h0,decide_eq_true (hmod.2 h0)]
     simp[sv]
    ·rw[if_neg h0,decide_eq_false (fun h=>h0 (hmod.1 h))]
     simp[sv]
   ·rw[decide_eq_false hneg,Bool.false_and]
    have e2:a*((2^(r+q):Nat):Int)=((a.natAbs*2^(r+q):Nat):Int):=by
     rw[Int.natCast_mul];congr 1;omega
    rw[e2,fl_pos]
    simp[sv]
 rw[←key]
 exact hd
theorem gover1 {a:Int} {k p bA bB:Nat} {X Y:Value} {w:World} (hk:0<k) (ha:a.natAbs<2^bA) (hbb:k<2^bB) (hbA:bA≤90000) (hbB:bB≤90000) (hp:p≤90000) (h1:DN w X (un a p)) (h2:DN w Y (un k 0)) :
  Calls Tryz.prog 129 #[X,Y,.int .i64 p] w fun res w'=>∃ A ex,res=.returned (.tuple #[A,.bool ex])∧DN w' A (un (a / (k:Int)) p)∧Bw w w':=by
 have h:=gover (r:=p) (show(0:Int)<(k:Int) by omega) ha (by simpa using hbb) hbA hbB hp (Nat.zero_le _) hp h1 h2
 have e:a*((2^(p+0):Nat):Int) / ((k:Int)*((2^p:Nat):Int))=a / (k:Int):=by
  rw[Nat.add_zero]
  exact Int.mul_ediv_mul_of_pos_left _ _ (by exact_mod_cast Nat.two_pow_pos p)
 rw[e] at h
 exact h
theorem bl_neD {x:Nat} (h0:x≠0):1≤bl x:=by unfold bl;rw[if_neg h0];omega
theorem bl_shlD {x k:Nat} (h:x≠0):bl (x*2^k)=bl x+k:=by
 have h1:=lt_bl x
 have h2:=le_bl h
 have hb:=bl_neD h
 have a:bl (x*2^k)≤bl x+k:=(bl_le _ _).2 (by rw[Nat.pow_add];exact Nat.mul_lt_mul_of_pos_right h1 (Nat.two_pow_pos k))
 have b:bl x+k - 1<bl (x*2^k):=by
  apply Decidable.byContradiction
  intro hn
  have h3:=lt_bl (x*2^k)
  have h4:x*2^k<2^(bl x+k - 1):=Nat.lt_of_lt_of_le h3 (Nat.pow_le_pow_right (by decide) (by omega))
  rw[show bl x+k - 1=bl x - 1+k by omega,Nat.pow_add] at h4
  have:=Nat.mul_le_mul_right (2^k) h2
  omega
 omega
theorem gcut {a:Int} {p r bA:Nat} {X:Value} {w:World} (ha:a.natAbs<2^bA) (hbA:bA≤90000) (hp:p≤90000) (hr:r≤p) (h1:DN w X (un a p)) :
  Calls Tryz.prog 84 #[X,.int .i64 r] w fun res w'=>∃ A ex,res=.returned (.tuple #[A,.bool ex])∧DN w' A (un (a / ((2^(p - r):Nat):Int)) r)∧Bw w w':=by
 obtain⟨ao,cap,rfl,a1⟩:=h1
 have ea:=un_e (p:=p) ha
 have la:=dlen_two9 (un_small (p:=p) ha)
 by_cases a0:a=0
 ·subst a0
  rw[un_zero,Int.zero_ediv,un_zero,dlen_zero] at *
  refine(rcut_z false ao 0 cap 0 (r:Int) w (by decide) (by decide) (by omega) (by omega)).mono ?_
  rintro res w' ⟨rfl,hb⟩
  exact⟨_,_,rfl,⟨ao,cap,by rw[dlen_zero],by rw[dlen_zero];exact a1.later hb⟩,hb⟩
 ·have hx0:(un a p).2.1≠0:=fun h=>a0 (un_sign.2.1 h)
  obtain⟨pa1,pa2,pa3⟩:=un_parts (a:=a) (p:=p) a0
  have hodd:(un a p).2.1 % 2=1:=by
   unfold un cn
   rw[if_neg (by omega)]
   exact(tz_spec a.natAbs a.natAbs (Nat.le_refl _) (by omega)).2
  have hd0:dlen (un a p).2.1≠0:=fun e=>hx0 (dlen_eq_zero.1 e)
  have e2r:(2:Nat)^(p - r) > 0:=Nat.two_pow_pos _
  rcases Int.lt_or_le 0 (-(r:Int) - (un a p).2.2)with hk|hk
  ·obtain⟨k,hk'⟩:∃ k:Nat,-(r:Int) - (un a p).2.2=k:=⟨(-(r:Int) - (un a p).2.2).toNat,by omega⟩
   have hpr:p - r=tz a.natAbs+k:=by omega
   have hdiv:a.natAbs / 2^(p - r)=(un a p).2.1 / 2^k:=by
    rw[hpr,Nat.pow_add]
    generalize tz a.natAbs=t at *
    rw[←pa2,←Nat.div_div_eq_div_mul,Nat.mul_div_cancel _ (Nat.two_pow_pos _)]
   by_cases hneg:a<0
   ·rw[show(un a p).1=true by rw[pa1];exact decide_eq_true hneg]
    refine(rcut_n ao cap (un a p).2.1 k (un a p).2.2 (r:Int) w a1.at_ a1.le hx0 (by omega) (by omega) (by omega) (by omega) (by omega) hk' (by omega) (by omega)).mono ?_
    rintro res w' ⟨A,e,hN,hb⟩
    refine⟨A,_,e,?_,hb⟩
    have hd:=hN.dn
    have key:cn true ((un a p).2.1 / 2^k+1) (-(r:Int))=un (a / ((2^(p - r):Nat):Int)) r:=by
     refine un_eq (K:=r) (Nat.le_refl _) (by omega) ?_
     unfold vz
     rw[show(-(r:Int)+(r:Int)).toNat=0 by omega,Nat.sub_self,Nat.pow_zero]
     have ea2:a = -((a.natAbs:Nat):Int):=by omega
     have hm:a.natAbs % 2^(p - r)≠0:=fun h=>by
      have h3:2^(tz a.natAbs+k) ∣ (un a p).2.1*2^tz a.natAbs:=by rw[pa2,←hpr];exact Nat.dvd_of_mod_eq_zero h
      rw[Nat.add_comm,Nat.pow_add] at h3
      have h4:=Nat.dvd_of_mul_dvd_mul_right (Nat.two_pow_pos _) h3
      have h5:2 ∣ (un a p).2.1:=Nat.dvd_trans (⟨2^(k - 1),by rw[Nat.mul_comm,←Nat.pow_succ];congr 1;omega⟩) h4
      omega
     conv=>rhs;rw[ea2]
     rw[fl_neg e2r,if_neg hm,hdiv]
     simp[sv]
    rw[←key];exact hd
   ·rw[show(un a p).1=false by rw[pa1];exact decide_eq_false hneg]
    refine(rcut_p ao cap (un a p).2.1 k (un a p).2.2 (r:Int) w a1.at_ a1.le hx0 (by omega) (by omega) (by omega) (by omega) (by omega) hk' (by omega) (by omega)).mono ?_
    rintro res w' ⟨A,e,hN,hb⟩
    refine⟨A,_,e,?_,hb⟩
    have hd:=hN.dn
    have key:cn false ((un a p).2.1 / 2^k) (-(r:Int))=un (a / ((2^(p - r):Nat):Int)) r:=by
     refine un_eq (K:=r) (Nat.le_refl _) (by omega) ?_
     unfold vz
     rw[show(-(r:Int)+(r:Int)).toNat=0 by omega,Nat.sub_self,Nat.pow_zero]
     have ea2:a=((a.natAbs:Nat):Int):=by omega
     conv=>rhs;rw[ea2]
     rw[fl_pos,hdiv]
     simp[sv]
    rw[←key];exact hd
  ·refine(rcut_w (un a p).1 ao (dlen (un a p).2.1) cap (un a p).2.2 (r:Int) w (by omega) (by omega) (by omega) (by omega) (by rw[beq_eq_false_iff_ne];omega) (by omega) (by omega)).mono ?_
   rintro res w' ⟨rfl,hb⟩
   refine⟨_,_,rfl,?_,hb⟩
   have key:un a p=un (a / ((2^(p - r):Nat):Int)) r:=by
    conv=>lhs;rw[show un a p=cn (un a p).1 (un a p).2.1 (un a p).2.2 from(cn_idem _ _ _).symm]
    refine un_eq (K:=p) hr (by omega) ?_
    rw[vz_un a (Nat.le_refl _),Nat.sub_self,Nat.pow_zero]
    have hdv:((2^(p - r):Nat):Int) ∣ a:=by
     rw[Int.ofNat_dvd_left]
     rw[←pa2]
     exact Nat.dvd_trans (Nat.pow_dvd_pow 2 (by omega)) (Nat.dvd_mul_left _ _)
    rw[Int.ediv_mul_cancel hdv]
    simp
   rw[←key]
   exact⟨ao,cap,rfl,a1.later hb⟩
theorem ghigh {a:Int} {p bA:Nat} {X:Value} {w:World} (ha:a.natAbs<2^bA) (hbA:bA≤90000) (hp:p≤90000) (a0:a≠0) (h1:DN w X (un a p)) :
  Calls Tryz.prog 95 #[X] w fun res w'=>res=.returned (.int .i64 ((bl a.natAbs:Int) - p))∧Bw w w':=by
 obtain⟨ao,cap,rfl,a1⟩:=h1
 have ea:=un_e (p:=p) ha
 have la:=dlen_two9 (un_small (p:=p) ha)
 have hx0:(un a p).2.1≠0:=fun h=>a0 (un_sign.2.1 h)
 obtain⟨pa1,pa2,pa3⟩:=un_parts (a:=a) (p:=p) a0
 refine(rhigh (neg:=(un a p).1) a1.at_ hx0 (by omega) ⟨by omega,by omega⟩).mono ?_
 rintro res w' ⟨rfl,hb⟩
 refine⟨?_,hb⟩
 have hbl:bl a.natAbs=bl (un a p).2.1+tz a.natAbs:=by
  generalize tz a.natAbs=t at *
  rw[←pa2]
  exact bl_shlD hx0
 rw[hbl,pa3]
 congr 2
 omega
def OutD (W:World) (t:Bool×Nat×Int) (r:Ending) (w':World):Prop:=∃ s ao n cp e,r=.returned (.agg #[.bool s,.slice ao n cp,.int .i64 e])∧DN w' (.agg #[.bool s,.slice ao n cp,.int .i64 e]) t∧Bw W w'
theorem outD {W:World} {t:Bool×Nat×Int} {r:Ending} {w':World} (h:∃ A,r=.returned A∧DN w' A t∧Bw W w'):OutD W t r w':=by
 obtain⟨A,rfl,hd,hb⟩:=h
 obtain⟨s,ao,n,cp,e,rfl⟩:=hd.shape
 exact⟨s,ao,n,cp,e,rfl,hd,hb⟩
theorem gat_store3 {W:World} {ao:Option Addr} {n z g:Nat} {x y v:Value} (h:At W ao n z) (hE:W.heap[g]?=some (.cells #[.bool false,.slice none 0 0,.int .i64 0] 45 (0,0))):At (((W.setCell ⟨g,0,none⟩ x).setCell ⟨g,1,none⟩ y).setCell ⟨g,2,none⟩ v) ao n z:=by
 obtain⟨bb,o,h1,h2⟩:=h
 refine⟨bb,o,h1,fun i hi=>?_⟩
 have hc:=h2 i hi
 have hne:bb≠g:=by
  rintro rfl
  simp only[World.cell?,hE] at hc
  rcases(show o+i=0∨o+i=1∨o+i=2∨3≤o+i by omega)with e|e|e|e
  ·rw[e] at hc;simp at hc
  ·rw[e] at hc;simp at hc
  ·rw[e] at hc;simp at hc
  ·rw[Array.getElem?_eq_none (by simpa using e)] at hc;cases hc
 rw[cell_far3 hne]
 exact hc
theorem DN.store3 {W:World} {A:Value} {t:Bool×Nat×Int} {g:Nat} (h:DN W A t) (hE:W.heap[g]?=some (.cells #[.bool false,.slice none 0 0,.int .i64 0] 45 (0,0))) (x y v:Value):DN (((W.setCell ⟨g,0,none⟩ x).setCell ⟨g,1,none⟩ y).setCell ⟨g,2,none⟩ v) A t:=by
 obtain⟨ao,cap,h1,h2⟩:=h
 exact⟨ao,cap,h1,h2.nil,gat_store3 h2.at_ hE,h2.le,h2.small⟩
theorem dunit_1 (p:Int) (T1 T2:Bool×Nat×Int) (w:World) (hp1 : -1000000≤p) (hp2:p≤1000000)
  (k1:∀ (W:World),Bw w W→Calls Tryz.prog 24 #[.int .i64 1] W fun r w'=>OutD W (T1) r w')
  (k2:∀ (W:World) (sr1:Bool) (aor1:Option Addr) (nr1 cpr1:Nat) (er1:Int),Bw w W→DN W (.agg #[.bool sr1,.slice aor1 nr1 cpr1,.int .i64 er1]) (T1)→Calls Tryz.prog 40 #[.agg #[.bool sr1,.slice aor1 nr1 cpr1,.int .i64 er1],.int .i64 (-p)] W fun r w'=>OutD W (T2) r w') :
  Calls Tryz.prog 91 #[.int .i64 p] w fun r w'=>OutD w (T2) r w':=by
 have Hk1:Hid _:=k1
 have Hk2:Hid _:=k2
 clear k1 k2
 obtain⟨W,hW⟩:∃ W,W=w.alloc (.cells #[.bool false,.slice none 0 0,.int .i64 0] 45):=⟨_,rfl⟩
 have HB:Hid (Bw w W):=(by rw[hW];exact(Below.refl _ _).alloc (Nat.le_refl _) _:Bw w W)
 have HC0:Hid (W.heap[w.heap.size]?=some (.cells #[.bool false,.slice none 0 0,.int .i64 0] 45 (0,0))):=(by rw[hW];exact heap_alloc_new _ _:W.heap[w.heap.size]?=some (.cells #[.bool false,.slice none 0 0,.int .i64 0] 45 (0,0)))
 go_enter Tryz.func91,Tryz.ntmps91
 go_upto_region 1 with fail
 rw[←hW]
 clear hW
 have BW0:Hid (Bw W W):=Below.refl _ _
 have kk:=Hk1.out W (HB.out.trans (BW0.out.mono HB.out.size))
 clear Hk1
 go_wp2_with fail
 refine kk.mono ?_
 rintro r u1 ⟨sr1,aor1,nr1,cpr1,er1,rfl,hd,hb⟩
 clear kk
 have BW1:Hid (Bw W u1):=BW0.out.trans (hb.mono BW0.out.size)
 have D1:Hid (DN u1 (.agg #[.bool sr1,.slice aor1 nr1 cpr1,.int .i64 er1]) (T1)):=hd
 clear hd hb BW0
 have kk:=Hk2.out u1 _ _ _ _ _ (HB.out.trans (BW1.out.mono HB.out.size)) D1.out
 clear Hk2
 go_wp2_with fail
 refine kk.mono ?_
 rintro r u2 ⟨sr2,aor2,nr2,cpr2,er2,rfl,hd,hb⟩
 clear kk
 have BW2:Hid (Bw W u2):=BW1.out.trans (hb.mono BW1.out.size)
 clear D1
 have D2:Hid (DN u2 (.agg #[.bool sr2,.slice aor2 nr2 cpr2,.int .i64 er2]) (T2)):=hd
 clear hd hb BW1
 have HC:Hid (u2.heap[w.heap.size]?=some (.cells #[.bool false,.slice none 0 0,.int .i64 0] 45 (0,0))):=box_later HC0.out BW2.out (Array.getElem?_eq_some_iff.1 HC0.out).1
 obtain⟨⟨y0,y1,y2⟩,y3,y4,y5⟩:=box_cells29 HC.out
 go_wp2_with fail
 refine bodyPost_ret (results_cell_row rfl _ _ (w.heap.size) 45 #[.bool sr2,.slice aor2 nr2 cpr2,.int .i64 er2] (0,0) _ rfl (store3_29 _ _ _ HC.out) Tryz.underlying45 rfl Tryz.info45) rfl ?_
 exact⟨_,_,_,_,_,rfl,D2.out.store3 HC.out _ _ _,below_store3 (HB.out.trans (BW2.out.mono HB.out.size)) (by omega) _ _ _⟩
theorem dtimes9_1 (sa:Bool) (aoa:Option Addr) (na cpa:Nat) (ea:Int) (sb:Bool) (aob:Option Addr) (nb cpb:Nat) (eb:Int) (p:Int) (T1 T2:Bool×Nat×Int) (w:World)
  (k1:∀ (W:World),Bw w W→Calls Tryz.prog 33 #[.agg #[.bool sa,.slice aoa na cpa,.int .i64 ea],.agg #[.bool sb,.slice aob nb cpb,.int .i64 eb]] W fun r w'=>OutD W (T1) r w')
  (k2:∀ (W:World) (sr1:Bool) (aor1:Option Addr) (nr1 cpr1:Nat) (er1:Int),Bw w W→DN W (.agg #[.bool sr1,.slice aor1 nr1 cpr1,.int .i64 er1]) (T1)→Calls Tryz.prog 32 #[.agg #[.bool sr1,.slice aor1 nr1 cpr1,.int .i64 er1],.int .i64 p] W fun r w'=>OutD W (T2) r w') :
  Calls Tryz.prog 47 #[.agg #[.bool sa,.slice aoa na cpa,.int .i64 ea],.agg #[.bool sb,.slice aob nb cpb,.int .i64 eb],.int .i64 p] w fun r w'=>OutD w (T2) r w':=by
 have Hk1:Hid _:=k1
 have Hk2:Hid _:=k2
 clear k1 k2
 obtain⟨W,hW⟩:∃ W,W=((w.alloc (.cells #[.bool sa,.slice aoa na cpa,.int .i64 ea] 45)).alloc (.cells #[.bool sb,.slice aob nb cpb,.int .i64 eb] 45)).alloc (.cells #[.bool false,.slice none 0 0,.int .i64 0] 45):=⟨_,rfl⟩
 have HB:Hid (Bw w W):=(by rw[hW];exact(((Below.refl _ _).alloc (Nat.le_refl _) _).alloc (by simp) _).alloc (by simp;omega) _:Bw w W)
 have HP0:Hid (W.heap[w.heap.size]?=some (.cells #[.bool sa,.slice aoa na cpa,.int .i64 ea] 45 (0,0))):=(boxes3 _ _ _ hW).1
 have HP1:Hid (W.heap[w.heap.size+1]?=some (.cells #[.bool sb,.slice aob nb cpb,.int .i64 eb] 45 (0,0))):=(boxes3 _ _ _ hW).2.1
 have HC0:Hid (W.heap[w.heap.size+1+1]?=some (.cells #[.bool false,.slice none 0 0,.int .i64 0] 45 (0,0))):=(boxes3 _ _ _ hW).2.2.1
 go_enter Tryz.func47,Tryz.ntmps47
 go_upto_region 1 with fail
 rw[←hW]
 clear hW
 have BW0:Hid (Bw W W):=Below.refl _ _
 obtain⟨⟨x00,x01,x02⟩,-⟩:=box_cells29 (box_later HP0.out BW0.out (Array.getElem?_eq_some_iff.1 HP0.out).1)
 obtain⟨⟨x10,x11,x12⟩,-⟩:=box_cells29 (box_later HP1.out BW0.out (Array.getElem?_eq_some_iff.1 HP1.out).1)
 have kk:=Hk1.out W (HB.out.trans (BW0.out.mono HB.out.size))
 clear Hk1
 go_wp2_with fail
 refine kk.mono ?_
 rintro r u1 ⟨sr1,aor1,nr1,cpr1,er1,rfl,hd,hb⟩
 clear kk x00 x01 x02 x10 x11 x12
 have BW1:Hid (Bw W u1):=BW0.out.trans (hb.mono BW0.out.size)
 have D1:Hid (DN u1 (.agg #[.bool sr1,.slice aor1 nr1 cpr1,.int .i64 er1]) (T1)):=hd
 clear hd hb BW0
 have kk:=Hk2.out u1 _ _ _ _ _ (HB.out.trans (BW1.out.mono HB.out.size)) D1.out
 clear Hk2
 go_wp2_with fail
 refine kk.mono ?_
 rintro r u2 ⟨sr2,aor2,nr2,cpr2,er2,rfl,hd,hb⟩
 clear kk
 have BW2:Hid (Bw W u2):=BW1.out.trans (hb.mono BW1.out.size)
 clear D1
 have D2:Hid (DN u2 (.agg #[.bool sr2,.slice aor2 nr2 cpr2,.int .i64 er2]) (T2)):=hd
 clear hd hb BW1
 have HC:Hid (u2.heap[w.heap.size+1+1]?=some (.cells #[.bool false,.slice none 0 0,.int .i64 0] 45 (0,0))):=box_later HC0.out BW2.out (Array.getElem?_eq_some_iff.1 HC0.out).1
 obtain⟨⟨y0,y1,y2⟩,y3,y4,y5⟩:=box_cells29 HC.out
 go_wp2_with fail
 refine bodyPost_ret (results_cell_row rfl _ _ (w.heap.size+1+1) 45 #[.bool sr2,.slice aor2 nr2 cpr2,.int .i64 er2] (0,0) _ rfl (store3_29 _ _ _ HC.out) Tryz.underlying45 rfl Tryz.info45) rfl ?_
 exact⟨_,_,_,_,_,rfl,D2.out.store3 HC.out _ _ _,below_store3 (HB.out.trans (BW2.out.mono HB.out.size)) (by omega) _ _ _⟩
theorem dpi_1 (p:Int) (T1 T2 T3 T4 T5 T6 T7:Bool×Nat×Int) (w:World)
  (k1:∀ (W:World),Bw w W→Calls Tryz.prog 24 #[.int .i64 16] W fun r w'=>OutD W (T1) r w')
  (k2:∀ (W:World),Bw w W→Calls Tryz.prog 92 #[.int .i64 5,.int .i64 p,.bool true] W fun r w'=>OutD W (T2) r w')
  (k3:∀ (W:World) (sr1:Bool) (aor1:Option Addr) (nr1 cpr1:Nat) (er1:Int) (sr2:Bool) (aor2:Option Addr) (nr2 cpr2:Nat) (er2:Int),Bw w W→DN W (.agg #[.bool sr1,.slice aor1 nr1 cpr1,.int .i64 er1]) (T1)→DN W (.agg #[.bool sr2,.slice aor2 nr2 cpr2,.int .i64 er2]) (T2)→Calls Tryz.prog 33 #[.agg #[.bool sr1,.slice aor1 nr1 cpr1,.int .i64 er1],.agg #[.bool sr2,.slice aor2 nr2 cpr2,.int .i64 er2]] W fun r w'=>OutD W (T3) r w')
  (k4:∀ (W:World),Bw w W→Calls Tryz.prog 24 #[.int .i64 4] W fun r w'=>OutD W (T4) r w')
  (k5:∀ (W:World),Bw w W→Calls Tryz.prog 92 #[.int .i64 239,.int .i64 p,.bool true] W fun r w'=>OutD W (T5) r w')
  (k6:∀ (W:World) (sr4:Bool) (aor4:Option Addr) (nr4 cpr4:Nat) (er4:Int) (sr5:Bool) (aor5:Option Addr) (nr5 cpr5:Nat) (er5:Int),Bw w W→DN W (.agg #[.bool sr4,.slice aor4 nr4 cpr4,.int .i64 er4]) (T4)→DN W (.agg #[.bool sr5,.slice aor5 nr5 cpr5,.int .i64 er5]) (T5)→Calls Tryz.prog 33 #[.agg #[.bool sr4,.slice aor4 nr4 cpr4,.int .i64 er4],.agg #[.bool sr5,.slice aor5 nr5 cpr5,.int .i64 er5]] W fun r w'=>OutD W (T6) r w')
  (k7:∀ (W:World) (sr3:Bool) (aor3:Option Addr) (nr3 cpr3:Nat) (er3:Int) (sr6:Bool) (aor6:Option Addr) (nr6 cpr6:Nat) (er6:Int),Bw w W→DN W (.agg #[.bool sr3,.slice aor3 nr3 cpr3,.int .i64 er3]) (T3)→DN W (.agg #[.bool sr6,.slice aor6 nr6 cpr6,.int .i64 er6]) (T6)→Calls Tryz.prog 57 #[.agg #[.bool sr3,.slice aor3 nr3 cpr3,.int .i64 er3],.agg #[.bool sr6,.slice aor6 nr6 cpr6,.int .i64 er6]] W fun r w'=>OutD W (T7) r w') :
  Calls Tryz.prog 39 #[.int .i64 p] w fun r w'=>OutD w (T7) r w':=by
 have Hk1:Hid _:=k1
 have Hk2:Hid _:=k2
 have Hk3:Hid _:=k3
 have Hk4:Hid _:=k4
 have Hk5:Hid _:=k5
 have Hk6:Hid _:=k6
 have Hk7:Hid _:=k7
 clear k1 k2 k3 k4 k5 k6 k7
 obtain⟨W,hW⟩:∃ W,W=w.alloc (.cells #[.bool false,.slice none 0 0,.int .i64 0] 45):=⟨_,rfl⟩
 have HB:Hid (Bw w W):=(by rw[hW];exact(Below.refl _ _).alloc (Nat.le_refl _) _:Bw w W)
 have HC0:Hid (W.heap[w.heap.size]?=some (.cells #[.bool false,.slice none 0 0,.int .i64 0] 45 (0,0))):=(by rw[hW];exact heap_alloc_new _ _:W.heap[w.heap.size]?=some (.cells #[.bool false,.slice none 0 0,.int .i64 0] 45 (0,0)))
 go_enter Tryz.func39,Tryz.ntmps39
 go_upto_region 1 with fail
 rw[←hW]
 clear hW
 have BW0:Hid (Bw W W):=Below.refl _ _
 have kk:=Hk1.out W (HB.out.trans (BW0.out.mono HB.out.size))
 clear Hk1
 go_wp2_with fail
 refine kk.mono ?_
 rintro r u1 ⟨sr1,aor1,nr1,cpr1,er1,rfl,hd,hb⟩
 clear kk
 have BW1:Hid (Bw W u1):=BW0.out.trans (hb.mono BW0.out.size)
 have D1:Hid (DN u1 (.agg #[.bool sr1,.slice aor1 nr1 cpr1,.int .i64 er1]) (T1)):=hd
 clear hd hb BW0
 have kk:=Hk2.out u1 (HB.out.trans (BW1.out.mono HB.out.size))
 clear Hk2
 go_wp2_with fail
 refine kk.mono ?_
 rintro r u2 ⟨sr2,aor2,nr2,cpr2,er2,rfl,hd,hb⟩
 clear kk
 have BW2:Hid (Bw W u2):=BW1.out.trans (hb.mono BW1.out.size)
 replace D1:Hid (DN u2 (.agg #[.bool sr1,.slice aor1 nr1 cpr1,.int .i64 er1]) (T1)):=D1.out.later hb
 have D2:Hid (DN u2 (.agg #[.bool sr2,.slice aor2 nr2 cpr2,.int .i64 er2]) (T2)):=hd
 clear hd hb BW1
 have kk:=Hk3.out u2 _ _ _ _ _ _ _ _ _ _ (HB.out.trans (BW2.out.mono HB.out.size)) D1.out D2.out
 clear Hk3
 go_wp2_with fail
 refine kk.mono ?_
 rintro r u3 ⟨sr3,aor3,nr3,cpr3,er3,rfl,hd,hb⟩
 clear kk
 have BW3:Hid (Bw W u3):=BW2.out.trans (hb.mono BW2.out.size)
 clear D1
 clear D2
 have D3:Hid (DN u3 (.agg #[.bool sr3,.slice aor3 nr3 cpr3,.int .i64 er3]) (T3)):=hd
 clear hd hb BW2
 have kk:=Hk4.out u3 (HB.out.trans (BW3.out.mono HB.out.size))
 clear Hk4
 go_wp2_with fail
 refine kk.mono ?_
 rintro r u4 ⟨sr4,aor4,nr4,cpr4,er4,rfl,hd,hb⟩
 clear kk
 have BW4:Hid (Bw W u4):=BW3.out.trans (hb.mono BW3.out.size)
 replace D3:Hid (DN u4 (.agg #[.bool sr3,.slice aor3 nr3 cpr3,.int .i64 er3]) (T3)):=D3.out.later hb
 have D4:Hid (DN u4 (.agg #[.bool sr4,.slice aor4 nr4 cpr4,.int .i64 er4]) (T4)):=hd
 clear hd hb BW3
 have kk:=Hk5.out u4 (HB.out.trans (BW4.out.mono HB.out.size))
 clear Hk5
 go_wp2_with fail
 refine kk.mono ?_
 rintro r u5 ⟨sr5,aor5,nr5,cpr5,er5,rfl,hd,hb⟩
 clear kk
 have BW5:Hid (Bw W u5):=BW4.out.trans (hb.mono BW4.out.size)
 replace D3:Hid (DN u5 (.agg #[.bool sr3,.slice aor3 nr3 cpr3,.int .i64 er3]) (T3)):=D3.out.later hb
 replace D4:Hid (DN u5 (.agg #[.bool sr4,.slice aor4 nr4 cpr4,.int .i64 er4]) (T4)):=D4.out.later hb
 have D5:Hid (DN u5 (.agg #[.bool sr5,.slice aor5 nr5 cpr5,.int .i64 er5]) (T5)):=hd
 clear hd hb BW4
 have kk:=Hk6.out u5 _ _ _ _ _ _ _ _ _ _ (HB.out.trans (BW5.out.mono HB.out.size)) D4.out D5.out
 clear Hk6
 go_wp2_with fail
 refine kk.mono ?_
 rintro r u6 ⟨sr6,aor6,nr6,cpr6,er6,rfl,hd,hb⟩
 clear kk
 have BW6:Hid (Bw W u6):=BW5.out.trans (hb.mono BW5.out.size)
 replace D3:Hid (DN u6 (.agg #[.bool sr3,.slice aor3 nr3 cpr3,.int .i64 er3]) (T3)):=D3.out.later hb
 clear D4
 clear D5
 have D6:Hid (DN u6 (.agg #[.bool sr6,.slice aor6 nr6 cpr6,.int .i64 er6]) (T6)):=hd
 clear hd hb BW5
 have kk:=Hk7.out u6 _ _ _ _ _ _ _ _ _ _ (HB.out.trans (BW6.out.mono HB.out.size)) D3.out D6.out
 clear Hk7
 go_wp2_with fail
 refine kk.mono ?_
 rintro r u7 ⟨sr7,aor7,nr7,cpr7,er7,rfl,hd,hb⟩
 clear kk
 have BW7:Hid (Bw W u7):=BW6.out.trans (hb.mono BW6.out.size)
 clear D3
 clear D6
 have D7:Hid (DN u7 (.agg #[.bool sr7,.slice aor7 nr7 cpr7,.int .i64 er7]) (T7)):=hd
 clear hd hb BW6
 have HC:Hid (u7.heap[w.heap.size]?=some (.cells #[.bool false,.slice none 0 0,.int .i64 0] 45 (0,0))):=box_later HC0.out BW7.out (Array.getElem?_eq_some_iff.1 HC0.out).1
 obtain⟨⟨y0,y1,y2⟩,y3,y4,y5⟩:=box_cells29 HC.out
 go_wp2_with fail
 refine bodyPost_ret (results_cell_row rfl _ _ (w.heap.size) 45 #[.bool sr7,.slice aor7 nr7 cpr7,.int .i64 er7] (0,0) _ rfl (store3_29 _ _ _ HC.out) Tryz.underlying45 rfl Tryz.info45) rfl ?_
 exact⟨_,_,_,_,_,rfl,D7.out.store3 HC.out _ _ _,below_store3 (HB.out.trans (BW7.out.mono HB.out.size)) (by omega) _ _ _⟩
theorem dcut_1 (sa:Bool) (aoa:Option Addr) (na cpa:Nat) (ea:Int) (p:Int) (T:Bool×Nat×Int) (w:World)
  (k1:∀ W:World,Bw w W→Calls Tryz.prog 84 #[.agg #[.bool sa,.slice aoa na cpa,.int .i64 ea],.int .i64 p] W fun r w'=>∃ s ao n cp e ex,r=.returned (.tuple #[.agg #[.bool s,.slice ao n cp,.int .i64 e],.bool ex])∧DN w' (.agg #[.bool s,.slice ao n cp,.int .i64 e]) T∧Bw W w') :
  Calls Tryz.prog 32 #[.agg #[.bool sa,.slice aoa na cpa,.int .i64 ea],.int .i64 p] w fun r w'=>OutD w T r w':=by
 have Hk1:Hid _:=k1
 clear k1
 obtain⟨W,hW⟩:∃ W,W=(w.alloc (.cells #[.bool sa,.slice aoa na cpa,.int .i64 ea] 45)).alloc (.cells #[.bool false,.slice none 0 0,.int .i64 0] 45):=⟨_,rfl⟩
 have HB:Hid (Bw w W):=(two29 _ _ hW).2.2.2
 have HP0:Hid (W.heap[w.heap.size]?=some (.cells #[.bool sa,.slice aoa na cpa,.int .i64 ea] 45 (0,0))):=(two29 _ _ hW).1
 have HC0:Hid (W.heap[w.heap.size+1]?=some (.cells #[.bool false,.slice none 0 0,.int .i64 0] 45 (0,0))):=(two29 _ _ hW).2.1
 go_enter Tryz.func32,Tryz.ntmps32
 go_upto_region 1 with fail
 rw[←hW]
 clear hW
 obtain⟨⟨x00,x01,x02⟩,-⟩:=box_cells29 HP0.out
 have kk:=Hk1.out W HB.out
 clear Hk1
 go_wp2_with fail
 refine kk.mono ?_
 rintro r u1 ⟨sr,aor,nr,cpr,er,ex,rfl,hd,hb⟩
 clear kk x00 x01 x02
 obtain⟨V,hV⟩:∃ V,V=u1.alloc (.cells #[.bool false,.slice none 0 0,.int .i64 0] 45):=⟨_,rfl⟩
 have hbV:Bw u1 V:=by rw[hV];exact(Below.refl _ _).alloc (Nat.le_refl _) _
 have hNV:V.heap[u1.heap.size]?=some (.cells #[.bool false,.slice none 0 0,.int .i64 0] 45 (0,0)):=by rw[hV];exact heap_alloc_new _ _
 obtain⟨⟨y0,y1,y2⟩,y3,y4,y5⟩:=box_cells29 hNV
 have HZ:Hid (Bw W u1∧Bw u1 V∧V.heap[u1.heap.size]?=some (.cells #[.bool false,.slice none 0 0,.int .i64 0] 45 (0,0))∧DN u1 (.agg #[.bool sr,.slice aor nr cpr,.int .i64 er]) T):=⟨hb,hbV,hNV,hd⟩
 clear hb hbV hNV hd
 go_upto_region 2 with (rw[←hV];clear hV)
 obtain⟨V2,hV2⟩:∃ V2,V2=((V.setCell ⟨u1.heap.size,0,none⟩ (.bool sr)).setCell ⟨u1.heap.size,1,none⟩ (.slice aor nr cpr)).setCell ⟨u1.heap.size,2,none⟩ (.int .i64 er):=⟨_,rfl⟩
 have HU:Hid (Bw u1 V2∧V2.heap[u1.heap.size]?=some (.cells #[.bool sr,.slice aor nr cpr,.int .i64 er] 45 (0,0))∧DN V2 (.agg #[.bool sr,.slice aor nr cpr,.int .i64 er]) T):=(by
  rw[hV2]
  exact⟨below_store3 HZ.out.2.1 (Nat.le_refl _) _ _ _,store3_29 _ _ _ HZ.out.2.2.1,(HZ.out.2.2.2.later HZ.out.2.1).store3 HZ.out.2.2.1 _ _ _⟩:Bw u1 V2∧V2.heap[u1.heap.size]?=some (.cells #[.bool sr,.slice aor nr cpr,.int .i64 er] 45 (0,0))∧DN V2 (.agg #[.bool sr,.slice aor nr cpr,.int .i64 er]) T)
 rw[←hV2]
 clear hV2 y0 y1 y2 y3 y4 y5
 have HW2:Hid (Bw W V2):=HZ.out.1.trans (HU.out.1.mono HZ.out.1.size)
 have HC:Hid (V2.heap[w.heap.size+1]?=some (.cells #[.bool false,.slice none 0 0,.int .i64 0] 45 (0,0))):=box_later HC0.out HW2.out (Array.getElem?_eq_some_iff.1 HC0.out).1
 obtain⟨⟨z0,z1,z2⟩,z3,z4,z5⟩:=box_cells29 HC.out
 obtain⟨⟨y0,y1,y2⟩,-⟩:=box_cells29 HU.out.2.1
 go_wp2_with fail
 refine bodyPost_ret (results_cell_row rfl _ _ (w.heap.size+1) 45 #[.bool sr,.slice aor nr cpr,.int .i64 er] (0,0) _ rfl (store3_29 _ _ _ HC.out) Tryz.underlying45 rfl Tryz.info45) rfl ?_
 exact⟨_,_,_,_,_,rfl,HU.out.2.2.store3 HC.out _ _ _,below_store3 (HB.out.trans (HW2.out.mono HB.out.size)) (by omega) _ _ _⟩
theorem dover_1 (sa:Bool) (aoa:Option Addr) (na cpa:Nat) (ea:Int) (sb:Bool) (aob:Option Addr) (nb cpb:Nat) (eb:Int) (p:Int) (T:Bool×Nat×Int) (w:World)
  (k1:∀ W:World,Bw w W→Calls Tryz.prog 129 #[.agg #[.bool sa,.slice aoa na cpa,.int .i64 ea],.agg #[.bool sb,.slice aob nb cpb,.int .i64 eb],.int .i64 p] W fun r w'=>∃ s ao n cp e ex,r=.returned (.tuple #[.agg #[.bool s,.slice ao n cp,.int .i64 e],.bool ex])∧DN w' (.agg #[.bool s,.slice ao n cp,.int .i64 e]) T∧Bw W w') :
  Calls Tryz.prog 93 #[.agg #[.bool sa,.slice aoa na cpa,.int .i64 ea],.agg #[.bool sb,.slice aob nb cpb,.int .i64 eb],.int .i64 p] w fun r w'=>OutD w T r w':=by
 have Hk1:Hid _:=k1
 clear k1
 obtain⟨W,hW⟩:∃ W,W=((w.alloc (.cells #[.bool sa,.slice aoa na cpa,.int .i64 ea] 45)).alloc (.cells #[.bool sb,.slice aob nb cpb,.int .i64 eb] 45)).alloc (.cells #[.bool false,.slice none 0 0,.int .i64 0] 45):=⟨_,rfl⟩
 have HB:Hid (Bw w W):=(boxes3 _ _ _ hW).2.2.2.2
 have HP0:Hid (W.heap[w.heap.size]?=some (.cells #[.bool sa,.slice aoa na cpa,.int .i64 ea] 45 (0,0))):=(boxes3 _ _ _ hW).1
 have HP1:Hid (W.heap[w.heap.size+1]?=some (.cells #[.bool sb,.slice aob nb cpb,.int .i64 eb] 45 (0,0))):=(boxes3 _ _ _ hW).2.1
 have HC0:Hid (W.heap[w.heap.size+1+1]?=some (.cells #[.bool false,.slice none 0 0,.int .i64 0] 45 (0,0))):=(boxes3 _ _ _ hW).2.2.1
 go_enter Tryz.func93,Tryz.ntmps93
 go_upto_region 1 with fail
 rw[←hW]
 clear hW
 obtain⟨⟨x00,x01,x02⟩,-⟩:=box_cells29 HP0.out
 obtain⟨⟨x10,x11,x12⟩,-⟩:=box_cells29 HP1.out
 have kk:=Hk1.out W HB.out
 clear Hk1
 go_wp2_with fail
 refine kk.mono ?_
 rintro r u1 ⟨sr,aor,nr,cpr,er,ex,rfl,hd,hb⟩
 clear kk x00 x01 x02 x10 x11 x12
 obtain⟨V,hV⟩:∃ V,V=u1.alloc (.cells #[.bool false,.slice none 0 0,.int .i64 0] 45):=⟨_,rfl⟩
 have hbV:Bw u1 V:=by rw[hV];exact(Below.refl _ _).alloc (Nat.le_refl _) _
 have hNV:V.heap[u1.heap.size]?=some (.cells #[.bool false,.slice none 0 0,.int .i64 0] 45 (0,0)):=by rw[hV];exact heap_alloc_new _ _
 obtain⟨⟨y0,y1,y2⟩,y3,y4,y5⟩:=box_cells29 hNV
 have HZ:Hid (Bw W u1∧Bw u1 V∧V.heap[u1.heap.size]?=some (.cells #[.bool false,.slice none 0 0,.int .i64 0] 45 (0,0))∧DN u1 (.agg #[.bool sr,.slice aor nr cpr,.int .i64 er]) T):=⟨hb,hbV,hNV,hd⟩
 clear hb hbV hNV hd
 go_upto_region 2 with (rw[←hV];clear hV)
 obtain⟨V2,hV2⟩:∃ V2,V2=((V.setCell ⟨u1.heap.size,0,none⟩ (.bool sr)).setCell ⟨u1.heap.size,1,none⟩ (.slice aor nr cpr)).setCell ⟨u1.heap.size,2,none⟩ (.int .i64 er):=⟨_,rfl⟩
 have HU:Hid (Bw u1 V2∧V2.heap[u1.heap.size]?=some (.cells #[.bool sr,.slice aor nr cpr,.int .i64 er] 45 (0,0))∧DN V2 (.agg #[.bool sr,.slice aor nr cpr,.int .i64 er]) T):=(by
  rw[hV2]
  exact⟨below_store3 HZ.out.2.1 (Nat.le_refl _) _ _ _,store3_29 _ _ _ HZ.out.2.2.1,(HZ.out.2.2.2.later HZ.out.2.1).store3 HZ.out.2.2.1 _ _ _⟩:Bw u1 V2∧V2.heap[u1.heap.size]?=some (.cells #[.bool sr,.slice aor nr cpr,.int .i64 er] 45 (0,0))∧DN V2 (.agg #[.bool sr,.slice aor nr cpr,.int .i64 er]) T)
 rw[←hV2]
 clear hV2 y0 y1 y2 y3 y4 y5
 have HW2:Hid (Bw W V2):=HZ.out.1.trans (HU.out.1.mono HZ.out.1.size)
 have HC:Hid (V2.heap[w.heap.size+1+1]?=some (.cells #[.bool false,.slice none 0 0,.int .i64 0] 45 (0,0))):=box_later HC0.out HW2.out (Array.getElem?_eq_some_iff.1 HC0.out).1
 obtain⟨⟨z0,z1,z2⟩,z3,z4,z5⟩:=box_cells29 HC.out
 obtain⟨⟨y0,y1,y2⟩,-⟩:=box_cells29 HU.out.2.1
 go_wp2_with fail
 refine bodyPost_ret (results_cell_row rfl _ _ (w.heap.size+1+1) 45 #[.bool sr,.slice aor nr cpr,.int .i64 er] (0,0) _ rfl (store3_29 _ _ _ HC.out) Tryz.underlying45 rfl Tryz.info45) rfl ?_
 exact⟨_,_,_,_,_,rfl,HU.out.2.2.store3 HC.out _ _ _,below_store3 (HB.out.trans (HW2.out.mono HB.out.size)) (by omega) _ _ _⟩
theorem dcut {a:Int} {p r bA:Nat} {X:Value} {w:World} (ha:a.natAbs<2^bA) (hbA:bA≤90000) (hp:p≤90000) (hr:r≤p) (h1:DN w X (un a p)) :
  Calls Tryz.prog 32 #[X,.int .i64 r] w fun res w'=>OutD w (un (a / ((2^(p - r):Nat):Int)) r) res w':=by
 obtain⟨s,ao,n,cp,e,rfl⟩:=h1.shape
 refine dcut_1 s ao n cp e r _ w (fun W hW=>(gcut ha hbA hp hr (h1.later hW)).mono fun res w' ⟨A,ex,e1,hd,hb⟩=>?_)
 obtain⟨s',ao',n',cp',e',rfl⟩:=hd.shape
 exact⟨_,_,_,_,_,_,e1,hd,hb⟩
theorem dover {a b:Int} {p q r bA bB:Nat} {X Y:Value} {w:World} (hb:0<b) (ha:a.natAbs<2^bA) (hbb:b.natAbs<2^bB) (hbA:bA≤90000) (hbB:bB≤90000) (hp:p≤90000) (hq:q≤90000) (hr:r≤90000) (h1:DN w X (un a p)) (h2:DN w Y (un b q)) :
  Calls Tryz.prog 93 #[X,Y,.int .i64 r] w fun res w'=>OutD w (un (a*((2^(r+q):Nat):Int) / (b*((2^p:Nat):Int))) r) res w':=by
 obtain⟨s,ao,n,cp,e,rfl⟩:=h1.shape
 obtain⟨s2,ao2,n2,cp2,e2,rfl⟩:=h2.shape
 refine dover_1 s ao n cp e s2 ao2 n2 cp2 e2 r _ w (fun W hW=>(gover hb ha hbb hbA hbB hp hq hr (h1.later hW) (h2.later hW)).mono fun res w' ⟨A,ex,e1,hd,hb⟩=>?_)
 obtain⟨s',ao',n',cp',e',rfl⟩:=hd.shape
 exact⟨_,_,_,_,_,_,e1,hd,hb⟩
theorem dover1 {a:Int} {k p bA bB:Nat} {X Y:Value} {w:World} (hk:0<k) (ha:a.natAbs<2^bA) (hbb:k<2^bB) (hbA:bA≤90000) (hbB:bB≤90000) (hp:p≤90000) (h1:DN w X (un a p)) (h2:DN w Y (un k 0)) :
  Calls Tryz.prog 93 #[X,Y,.int .i64 p] w fun res w'=>OutD w (un (a / (k:Int)) p) res w':=by
 obtain⟨s,ao,n,cp,e,rfl⟩:=h1.shape
 obtain⟨s2,ao2,n2,cp2,e2,rfl⟩:=h2.shape
 refine dover_1 s ao n cp e s2 ao2 n2 cp2 e2 p _ w (fun W hW=>(gover1 hk ha hbb hbA hbB hp (h1.later hW) (h2.later hW)).mono fun res w' ⟨A,ex,e1,hd,hb⟩=>?_)
 obtain⟨s',ao',n',cp',e',rfl⟩:=hd.shape
 exact⟨_,_,_,_,_,_,e1,hd,hb⟩
theorem dtimes9 {a b:Int} {p bA bB:Nat} {X Y:Value} {w:World} (ha:a.natAbs<2^bA) (hbb:b.natAbs<2^bB) (hbA:bA+bB≤90000) (hp:p+p≤90000) (h1:DN w X (un a p)) (h2:DN w Y (un b p)) :
  Calls Tryz.prog 47 #[X,Y,.int .i64 p] w fun res w'=>OutD w (un (a*b / ((2^p:Nat):Int)) p) res w':=by
 obtain⟨s,ao,n,cp,e,rfl⟩:=h1.shape
 obtain⟨s2,ao2,n2,cp2,e2,rfl⟩:=h2.shape
 have hm:(a*b).natAbs<2^(bA+bB):=by
  rw[Int.natAbs_mul,Nat.pow_add]
  rcases Nat.eq_zero_or_pos a.natAbs with h|h
  ·rw[h,Nat.zero_mul];exact Nat.mul_pos (Nat.two_pow_pos _) (Nat.two_pow_pos _)
  ·exact Nat.mul_lt_mul_of_lt_of_le ha (Nat.le_of_lt hbb) (Nat.two_pow_pos _)
 have e3:p+p - p=p:=by omega
 have k:=fun(W:World) (X:Value) (h:DN W X (un (a*b) (p+p)))=>dcut (r:=p) hm hbA hp (by omega) h
 rw[e3] at k
 refine dtimes9_1 s ao n cp e s2 ao2 n2 cp2 e2 p (un (a*b) (p+p)) _ w (fun W hW=>?_) (fun W sr aor nr cpr er hW hd=>k W _ hd)
 have kk:=gtimes (un_gn ha (by omega) (by omega)) (un_gn hbb (by omega) (by omega)) (h1.later hW) (h2.later hW)
 rw[gM_un] at kk
 exact kk.mono fun r w' h=>outD h
theorem dleast_1 (s:Bool) (ao:Option Addr) (n cp:Nat) (e p sg h:Int) (b:Bool) (w:World) (hp:0≤p∧p≤1000000) (hh : -1000000≤h∧h≤1000000) (hb0:(sg==0)=b)
  (k1:∀ W,Calls Tryz.prog 58 #[.agg #[.bool s,.slice ao n cp,.int .i64 e]] W fun r w'=>r=.returned (.int .i64 sg)∧Bw W w')
  (k2:b=false→∀ W,Bw w W→Calls Tryz.prog 95 #[.agg #[.bool s,.slice ao n cp,.int .i64 e]] W fun r w'=>r=.returned (.int .i64 h)∧Bw W w') :
  Calls Tryz.prog 94 #[.agg #[.bool s,.slice ao n cp,.int .i64 e],.int .i64 p] w fun r w'=>r=.returned (.bool (b||decide (h≤1 - p)))∧Bw w w':=by
 have Hk1:Hid _:=k1
 have Hk2:Hid _:=k2
 clear k1 k2
 obtain⟨W,hW⟩:∃ W,W=w.alloc (.cells #[.bool s,.slice ao n cp,.int .i64 e] 45):=⟨_,rfl⟩
 have HX:Hid (Bw w W∧W.heap[w.heap.size]?=some (.cells #[.bool s,.slice ao n cp,.int .i64 e] 45 (0,0))):=(by rw[hW];exact⟨(Below.refl _ _).alloc (Nat.le_refl _) _,heap_alloc_new _ _⟩:Bw w W∧W.heap[w.heap.size]?=some (.cells #[.bool s,.slice ao n cp,.int .i64 e] 45 (0,0)))
 obtain⟨⟨x0,x1,x2⟩,-⟩:=box_cells29 HX.out.2
 have hwp:IntKind.i64.wrap (1 - p)=1 - p:=by rw[IntKind.wrap_i64];omega
 obtain⟨hp1,hp2⟩:=hp
 obtain⟨hh1,hh2⟩:=hh
 go_enter Tryz.func94,Tryz.ntmps94
 go_upto_region 1 with fail
 rw[←hW]
 clear hW
 have kk:=Hk1.out W
 go_wp2_with fail
 refine kk.mono ?_
 rintro r u1 ⟨rfl,hb1⟩
 have HY:Hid (Bw w u1∧u1.heap[w.heap.size]?=some (.cells #[.bool s,.slice ao n cp,.int .i64 e] 45 (0,0))):=⟨HX.out.1.trans (hb1.mono HX.out.1.size),box_later HX.out.2 hb1 (Array.getElem?_eq_some_iff.1 HX.out.2).1⟩
 clear kk hb1 Hk1 HX x0 x1 x2
 obtain⟨⟨x0,x1,x2⟩,-⟩:=box_cells29 HY.out.2
 cases b
 ·have kk:=Hk2.out rfl u1 HY.out.1
  clear Hk2
  go_wp2_with fail
  refine kk.mono ?_
  rintro r u2 ⟨rfl,hb2⟩
  have HZ:Hid (Bw w u2):=HY.out.1.trans (hb2.mono HY.out.1.size)
  clear kk hb2 HY x0 x1 x2
  go_wp2_with fail
  go_ret
  exact⟨by simp,HZ.out⟩
 ·clear Hk2
  go_wp2_with fail
  go_ret
  exact⟨by simp,HY.out.1⟩
theorem dleast {a:Int} {p bA:Nat} {X:Value} {w:World} (ha:a.natAbs<2^bA) (hbA:bA≤90000) (hp:p≤90000) (h1:DN w X (un a p)) :
  Calls Tryz.prog 94 #[X,.int .i64 p] w fun r w'=>r=.returned (.bool (decide (a.natAbs<2)))∧Bw w w':=by
 have h1':=h1
 obtain⟨ao,cap,rfl,a1⟩:=h1'
 have hbl:bl a.natAbs≤bA:=(bl_le _ _).2 ha
 have hz:dlen (un a p).2.1=0↔a=0:=by rw[dlen_eq_zero];exact un_sign.2
 by_cases a0:a=0
 ·have k:=dleast_1 (un a p).1 ao (dlen (un a p).2.1) cap (un a p).2.2 p 0 0 true w ⟨by omega,by omega⟩ ⟨by omega,by omega⟩ rfl (fun W=>by have k:=rsgn (na:=(un a p).1) (ua:=ao) (uc:=cap) (ea:=(un a p).2.2) (w:=W) a1.small;rw[if_pos (hz.2 a0)] at k;exact k) (fun h=>by cases h)
  refine k.mono fun r w' ⟨e,hb⟩=>⟨?_,hb⟩
  rw[e,a0];rfl
 ·have hn:dlen (un a p).2.1≠0:=fun h=>a0 (hz.1 h)
  have k:=dleast_1 (un a p).1 ao (dlen (un a p).2.1) cap (un a p).2.2 p (if(un a p).1=true then -1 else 1) ((bl a.natAbs:Int) - p) false w ⟨by omega,by omega⟩ ⟨by omega,by omega⟩ (by split <;> rfl) (fun W=>by have k:=rsgn (na:=(un a p).1) (ua:=ao) (uc:=cap) (ea:=(un a p).2.2) (w:=W) a1.small;rw[if_neg hn] at k;exact k) (fun _ W hW=>ghigh ha hbA hp a0 (h1.later hW))
  refine k.mono fun r w' ⟨e,hb⟩=>⟨?_,hb⟩
  rw[e,Bool.false_or]
  congr 2
  have hb2:bl a.natAbs≤1↔a.natAbs<2:=bl_le _ _
  by_cases h:a.natAbs<2
  ·rw[decide_eq_true h,decide_eq_true (by have:=hb2.2 h;omega)]
  ·rw[decide_eq_false h,decide_eq_false (by intro h';exact h (hb2.1 (by omega)))]
end Go.Proofs.YtapooodfgcjoaaaGreat
namespace Go.Proofs.YtapooodfgcjoaaaGreat
def bv (b:Nat):Nat:=if b<4503599627370496 then b else(4503599627370496+b % 4503599627370496)*2^(b / 4503599627370496 - 1)
end Go.Proofs.YtapooodfgcjoaaaGreat
namespace Go.Proofs.YtapooodfgcjoaaaGreat
open Go.RowKit Go.Fl64
open Ie
end Go.Proofs.YtapooodfgcjoaaaGreat
/- A float is made anew of its odd part and its exponent, whatever the way of rounding. -/
namespace Go.Proofs.YtapooodfgcjoaaaGreat.Ie
open Go.RowKit Go.Fl64
end Go.Proofs.YtapooodfgcjoaaaGreat.Ie
namespace Go.Proofs.YtapooodfgcjoaaaGreat
open Go.RowKit Go.Fl64
end Go.Proofs.YtapooodfgcjoaaaGreat
namespace Go.Proofs.YtapooodfgcjoaaaGreat
open Go.RowKit Go.Fl64
open Ie
theorem bv_zero:bv 0=0:=rfl
end Go.Proofs.YtapooodfgcjoaaaGreat
namespace Go.Proofs.YtapooodfgcjoaaaGreat
open Go.RowKit
def FcB (W:World) (g:Nat) (p s:Int):Prop:=W.heap[g]?=some (.cells #[.int .u64 p,.int .u64 s] 71 (0,0))
theorem FcB.lt {W:World} {g:Nat} {p s:Int} (h:FcB W g p s):g<W.heap.size:=by
 unfold FcB at h
 rcases Nat.lt_or_ge g W.heap.size with h'|h'
 ·exact h'
 ·rw[Array.getElem?_eq_none h'] at h;cases h
theorem FcB.box {W w':World} {g:Nat} {p s:Int} (h:FcB W g p s) (hb:Bw W w'):FcB w' g p s:=(hb.block g h.lt).trans h
theorem FcB.facts {W:World} {g:Nat} {p s:Int} (h:FcB W g p s):(W.cell? ⟨g,0,none⟩=some (.int .u64 p)∧W.cell? ⟨g,1,none⟩=some (.int .u64 s))∧W.frozen? ⟨g,0,none⟩=false∧W.frozen? ⟨g,1,none⟩=false:=by
 unfold FcB at h
 simp[World.cell?,World.frozen?,h]
theorem FcB.new (w:World) (p s:Int):FcB (w.alloc (.cells #[.int .u64 p,.int .u64 s] 71)) w.heap.size p s:=heap_alloc_new _ _
theorem bagainst {A : Value} {x y p s q : Nat} {up : Bool} {w : World} (h : Bd2 w A x y q) (hx : dlen x ≤ 1000000) (hy : dlen y ≤ 1000000) (hq : q ≤ 1000000) (hp : p < 18446744073709551616) (hs : s < 18446744073709551616) (hc : if up then p * 2 ^ q ≤ x * s else (x * s < p * 2 ^ q ∧ y * s ≤ p * 2 ^ q)) :
    Calls Tryz.prog 89 #[A, .agg #[.int .u64 p, .int .u64 s]] w fun r w' => r = .returned (.tuple #[.int .i64 (if up then 1 else -1), .bool true]) ∧ Bw w w' := by
  obtain ⟨a1, n1, c1, a2, n2, c2, rfl, i1, i2⟩ := h
  obtain ⟨W1, hW1⟩ : ∃ W1, W1 = w.alloc (.cells #[.slice a1 n1 c1, .slice a2 n2 c2, .int .i64 q] 64) := ⟨_, rfl⟩
  obtain ⟨W, hW⟩ : ∃ W, W = W1.alloc (.cells #[.int .u64 p, .int .u64 s] 71) := ⟨_, rfl⟩
  have hb1 : Bw w W1 := by rw [hW1]; exact (Below.refl _ _).alloc (Nat.le_refl _) _
  have hs1 : W1.heap.size = w.heap.size + 1 := by rw [hW1]; simp
  have hb2 : Bw W1 W := by rw [hW]; exact (Below.refl _ _).alloc (Nat.le_refl _) _
  have hbW : Bw w W := hb1.trans (hb2.mono hb1.size)
  have hA : BdB W w.heap.size a1 n1 c1 a2 n2 c2 q := by
    have : BdB W1 w.heap.size a1 n1 c1 a2 n2 c2 q := by rw [hW1]; exact BdB.new _ _ _ _ _ _ _ _
    exact this.box hb2
  have hF : FcB W (w.heap.size + 1) p s := by rw [hW, ← hs1]; exact FcB.new _ _ _
  have HX : Hid (Bw w W ∧ BdB W w.heap.size a1 n1 c1 a2 n2 c2 q ∧ FcB W (w.heap.size + 1) p s) := ⟨hbW, hA, hF⟩
  have HI : Hid (Is W (.slice a1 n1 c1) x ∧ Is W (.slice a2 n2 c2) y) := ⟨i1.later hbW, i2.later hbW⟩
  have HC : Hid (if up then p * 2 ^ q ≤ x * s else (x * s < p * 2 ^ q ∧ y * s ≤ p * 2 ^ q)) := hc
  have HK : Hid (∀ w', Bw W w' → w'.cell? ⟨w.heap.size, 0, none⟩ = some (.slice a1 n1 c1) ∧ w'.cell? ⟨w.heap.size, 1, none⟩ = some (.slice a2 n2 c2) ∧ w'.cell? ⟨w.heap.size, 2, none⟩ = some (.int .i64 q) ∧ w'.cell? ⟨w.heap.size + 1, 0, none⟩ = some (.int .u64 p) ∧ w'.cell? ⟨w.heap.size + 1, 1, none⟩ = some (.int .u64 s)) := fun w' hb => by
    obtain ⟨⟨e0, e1, e2⟩, -⟩ := (HX.out.2.1.box hb).facts
    obtain ⟨⟨e3, e4⟩, -⟩ := (HX.out.2.2.box hb).facts
    exact ⟨e0, e1, e2, e3, e4⟩
  have q1 : ∀ (W' : World) (n : Nat), n < 18446744073709551616 → Bw W W' → Calls Tryz.prog 69 #[.int .u64 n] W' fun r w' => ∃ ao l cap, r = .returned (.slice ao l cap) ∧ Hid (Is w' (.slice ao l cap) n) ∧ Bw W w' := fun W' n hn h => (c57 n W' hn).mono fun r w' ⟨v, e1, e2, e3⟩ => by
    obtain ⟨ao, l, cap, rfl⟩ := e2.is.shape
    exact ⟨ao, l, cap, e1, e2.is, h.trans (e3.mono h.size)⟩
  have hdp : dlen p ≤ 1000000 := Nat.le_trans ((dlen_le 2 p).2 (Nat.lt_of_lt_of_le hp (by decide))) (by decide)
  have hds : dlen s ≤ 1000000 := Nat.le_trans ((dlen_le 2 s).2 (Nat.lt_of_lt_of_le hs (by decide))) (by decide)
  have q2 : ∀ W' X, Bw W W' → Is W' X p → Calls Tryz.prog 122 #[X, .int .i64 q] W' fun r w' => ∃ ao l cap, r = .returned (.slice ao l cap) ∧ Hid (Is w' (.slice ao l cap) (p * 2 ^ q)) ∧ Bw W w' := fun W' X h hX => (c109 hX q (by omega) (by omega)).mono fun r w' ⟨v, e1, e2, e3⟩ => by
    obtain ⟨ao, l, cap, rfl⟩ := e2.is.shape
    exact ⟨ao, l, cap, e1, e2.is, h.trans (e3.mono h.size)⟩
  have q3 : ∀ W', Bw W W' → Calls Tryz.prog 69 #[.int .u64 p] W' fun r w' => ∃ ao l cap, r = .returned (.slice ao l cap) ∧ Hid (Is w' (.slice ao l cap) p) ∧ Bw W w' := fun W' h => q1 W' p hp h
  have q4 : ∀ W', Bw W W' → Calls Tryz.prog 69 #[.int .u64 s] W' fun r w' => ∃ ao l cap, r = .returned (.slice ao l cap) ∧ Hid (Is w' (.slice ao l cap) s) ∧ Bw W w' ∧ Hid (Bw W' w') := fun W' h => (c57 s W' hs).mono fun r w' ⟨v, e1, e2, e3⟩ => by
    obtain ⟨ao, l, cap, rfl⟩ := e2.is.shape
    exact ⟨ao, l, cap, e1, e2.is, h.trans (e3.mono h.size), e3⟩
  have hRr : Bw W W.drew := (Below.refl _ _).drew
  obtain ⟨k0, k1, k2, k3, k4⟩ := HK.out W (Below.refl _ _)
  rw [hW1] at hW
  clear hA hbW i1 i2 hc hb1 hb2 hs1 hF hW1 q1
  go_enter Tryz.func89, Tryz.ntmps89
  go_upto_region 1 with fail
  rw [← hW]
  clear hW
  go_region_held3 (fun w' => w'.cell? ⟨w.heap.size, 0, none⟩ = some (.slice a1 n1 c1) ∧ w'.cell? ⟨w.heap.size, 1, none⟩ = some (.slice a2 n2 c2) ∧ w'.cell? ⟨w.heap.size, 2, none⟩ = some (.int .i64 q) ∧ w'.cell? ⟨w.heap.size + 1, 0, none⟩ = some (.int .u64 p) ∧ w'.cell? ⟨w.heap.size + 1, 1, none⟩ = some (.int .u64 s)) (first | (with_reducible assumption) | exact HK.out _ hRr | (refine HK.out _ ?_; with_reducible assumption))
    (first | (go_at_call 69; with_reducible refine (q3 _ hRr).mono ?_; rintro r w3 ⟨e1, l1, g1, rfl, E1, hb3⟩)
           | (go_at_call 122; with_reducible refine (q2 _ _ hb3 E1.out).mono ?_; rintro r w4 ⟨e2, l2, g2, rfl, E2, hb4⟩)
           | (go_at_call 69; with_reducible refine (q4 _ hb4).mono ?_; rintro r w5 ⟨e3, l3, g3, rfl, E3, hb5, HB5⟩))
  have dm : ∀ {s t : Nat}, dlen s ≤ 1000000 → dlen t ≤ 1000000 → dlen (s * t) ≤ 2000000 := fun hs ht => Nat.le_trans (dl_mul hs ht) (by omega)
  have hpq : dlen (p * 2 ^ q) ≤ 2000000 := by have := dlen_shl (k := q) hdp; omega
  have HD : Hid (dlen (x * s) ≤ 2000000 ∧ dlen (y * s) ≤ 2000000 ∧ dlen (p * 2 ^ q) ≤ 2000000 ∧ dlen x ≤ 1000000 ∧ dlen y ≤ 1000000 ∧ dlen s ≤ 1000000) := ⟨dm hx hds, dm hy hds, hpq, hx, hy, hds⟩
  have HY : Hid (Is w5 (.slice a1 n1 c1) x ∧ Is w5 (.slice a2 n2 c2) y ∧ Is w5 (.slice e2 l2 g2) (p * 2 ^ q) ∧ Is w5 (.slice e3 l3 g3) s ∧ Bw w w5 ∧ BdB w5 w.heap.size a1 n1 c1 a2 n2 c2 q) := ⟨HI.out.1.later hb5, HI.out.2.later hb5, E2.out.later HB5.out, E3.out, HX.out.1.trans (hb5.mono HX.out.1.size), HX.out.2.1.box hb5⟩
  obtain ⟨X, hX⟩ : ∃ X, X = x * s := ⟨_, rfl⟩
  obtain ⟨Y, hY⟩ : ∃ Y, Y = y * s := ⟨_, rfl⟩
  obtain ⟨P, hP⟩ : ∃ P, P = p * 2 ^ q := ⟨_, rfl⟩
  have m1 := c143 HY.out.1 HY.out.2.2.2.1 (by have := HD.out; omega) (by have := HD.out; omega)
  rw [← hX, ← hY, ← hP] at HD
  rw [← hX, ← hY, ← hP] at HC
  rw [← hP] at HY
  rw [← hX] at m1
  clear q2 q3 q4 hRr k0 k1 k2 k3 k4 HK HI HX E1 E2 E3 hb3 hb4 hb5 HB5 dm hpq hdp hds hx hy hq hp hs hX hP
  obtain ⟨⟨k0, k1, k2⟩, -⟩ := HY.out.2.2.2.2.2.facts
  go_wp2_with fail
  refine m1.mono ?_
  rintro r w6 ⟨v, rfl, O6, hb6⟩
  have m2 := c129 O6.is (HY.out.2.2.1.later hb6) (by have := HD.out; omega) (by have := HD.out; omega)
  have HZ : Hid (Is w6 (.slice a2 n2 c2) y ∧ Is w6 (.slice e2 l2 g2) P ∧ Is w6 (.slice e3 l3 g3) s ∧ Bw w w6 ∧ BdB w6 w.heap.size a1 n1 c1 a2 n2 c2 q) := ⟨HY.out.2.1.later hb6, HY.out.2.2.1.later hb6, HY.out.2.2.2.1.later hb6, HY.out.2.2.2.2.1.trans (hb6.mono HY.out.2.2.2.2.1.size), HY.out.2.2.2.2.2.box hb6⟩
  clear m1 O6 hb6 HY k0 k1 k2
  go_wp2_with fail
  refine m2.mono ?_
  rintro r w7 ⟨rfl, d, hw7⟩
  have hb7 : Bw w6 w7 := by rw [hw7]; exact ⟨rfl, rfl, rfl, Nat.le_refl _, fun _ _ => rfl⟩
  have HZ7 : Hid (Is w7 (.slice a2 n2 c2) y ∧ Is w7 (.slice e2 l2 g2) P ∧ Is w7 (.slice e3 l3 g3) s ∧ Bw w w7 ∧ BdB w7 w.heap.size a1 n1 c1 a2 n2 c2 q) := ⟨HZ.out.1.later hb7, HZ.out.2.1.later hb7, HZ.out.2.2.1.later hb7, HZ.out.2.2.2.1.trans (hb7.mono HZ.out.2.2.2.1.size), HZ.out.2.2.2.2.box hb7⟩
  clear m2 hw7 hb7 HZ
  cases up
  · have hc : X < P ∧ Y ≤ P := HC.out
    have hI : (cmpI (X : Int) (P : Int)) = -1 := by unfold cmpI; rw [if_pos (by omega)]
    have HC2 : Hid (Y ≤ P) := hc.2
    rw [hI]
    have m1 := c143 HZ7.out.1 HZ7.out.2.2.1 (by have := HD.out; omega) (by have := HD.out; omega)
    rw [← hY] at m1
    clear hc hI HC hY
    obtain ⟨⟨k0, k1, k2⟩, -⟩ := HZ7.out.2.2.2.2.facts
    go_wp2_with fail
    refine m1.mono ?_
    rintro r w8 ⟨v, rfl, O8, hb8⟩
    have m2 := c129 O8.is (HZ7.out.2.1.later hb8) (by have := HD.out; omega) (by have := HD.out; omega)
    have HB8 : Hid (Bw w w8) := HZ7.out.2.2.2.1.trans (hb8.mono HZ7.out.2.2.2.1.size)
    clear m1 O8 hb8 HZ7 k0 k1 k2
    obtain ⟨ci, hci⟩ : ∃ ci, ci = cmpI (Y : Int) (P : Int) := ⟨_, rfl⟩
    have hci0 : ci ≤ 0 := by
      have := HC2.out
      rw [hci]; unfold cmpI
      split
      · decide
      · split <;> first | decide | omega
    rw [← hci] at m2
    clear hci HC2
    go_wp2_with fail
    refine m2.mono ?_
    rintro r w9 ⟨rfl, d, hw9⟩
    have hb9 : Bw w8 w9 := by rw [hw9]; exact ⟨rfl, rfl, rfl, Nat.le_refl _, fun _ _ => rfl⟩
    have HB9 : Hid (Bw w w9) := HB8.out.trans (hb9.mono HB8.out.size)
    clear m2 hw9 hb9 HB8
    go_wp2_with fail
    refine bodyPost_ret (results_tmp2 rfl _ _ _) rfl ?_
    exact ⟨rfl, HB9.out⟩
  · have hc : P ≤ X := HC.out
    obtain ⟨ci, hci⟩ : ∃ ci, ci = cmpI (X : Int) (P : Int) := ⟨_, rfl⟩
    have hci0 : 0 ≤ ci := by
      rw [hci]; unfold cmpI
      rw [if_neg (by omega)]
      split <;> decide
    rw [← hci]
    have HB9 : Hid (Bw w w7) := HZ7.out.2.2.2.1
    clear hc hci HC hY HZ7
    go_wp2_with fail
    refine bodyPost_ret (results_tmp2 rfl _ _ _) rfl ?_
    exact ⟨rfl, HB9.out⟩
end Go.Proofs.YtapooodfgcjoaaaGreat
