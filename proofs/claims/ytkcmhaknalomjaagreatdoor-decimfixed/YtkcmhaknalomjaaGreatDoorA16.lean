/- Own work: contracts of the program's functions, part 16: DCV DCO DCP DCQ DCR DCS DCW DCZ DCT. -/
import Derived.Test.YtkcmhaknalomjaaGreatDoorA13
import Derived.Test.YtkcmhaknalomjaaGreatDoorA15
import Derived.BigQuiet
import Derived.Test.YtkcmhaknalomjaaGreatDoorA8

set_option maxHeartbeats 16000000
set_option maxRecDepth 200000
set_option linter.unusedVariables false
set_option linter.unusedSimpArgs false
namespace Go.Proofs.YtkcmhaknalomjaaGreatDoor
open Go Go.RowKit Go.Fl64
def dvP (b:Nat) (L:List UInt8):Nat→Nat
 | 0=>0
 | i+1=>dvP b L i*b+dgB (bL L i)
theorem qI8 {b:Nat} {L:List UInt8}:∀ {i:Nat},(∀ j,j<i→dgB (bL L j)<b)→dvP b L i<b^i
 | 0,_=>Nat.one_pos
 | i+1,h=>by
  have h1:=qI8 (i:=i) fun j hj=>h j (by omega)
  have h2:=h i (by omega)
  show dvP b L i*b+dgB (bL L i)<b^(i+1)
  rw[xH2];have h3:(dvP b L i+1)*b≤b^i*b:=xU4 _ h1;rw[Nat.add_mul] at h3;omega
theorem yG7 (L:List UInt8) (i:Nat):btA ⟨L.toArray⟩ i=bL L i:=by
 unfold btA bL;simp
theorem xZ4 {c:Nat} (h:dgB c<10):48≤c∧c≤57:=by
 unfold dgB at h;split at h
 ·assumption
 ·split at h <;> omega
theorem xZ3 {c:Nat} (h0:¬ (48≤c∧c≤57)) (h:dgB c<16):97≤lowB c∧lowB c≤102:=by
 unfold dgB at h;rw[if_neg h0] at h;split at h
 ·assumption
 ·omega
theorem xV2 (L:List UInt8) (w:World) (hs:L.length≤15) (h00:0<L.length) (hd:∀ j,j<L.length→dgB (bL L j)<10) :
  Calls Tryz.prog 189 #[.string ⟨L.toArray⟩,.int .i64 10,.int .i64 64] w fun r w'=>r=.returned (.tuple #[.int .u64 ((dvP 10 L L.length:Nat):Int),.nilIface])∧Bw w w':=by
 obtain⟨s,hse⟩:∃ s:ByteArray,s=⟨L.toArray⟩:=⟨_,rfl⟩;have hsn:s.size=L.length:=by rw[hse];rfl
 have h0:s.toList.isEmpty=false:=by
  rw[Lib.toList_data,hse];cases L with
  | nil=>simp at h00
  | cons a t=>rfl
 obtain⟨cap,W,hc,hB,hcell⟩:=qW5 s w;have HB:Hid (Bw w W):=hB;have HC:Hid (∀ j,j<L.length→W.cell? ⟨w.heap.size,j,none⟩=some (.int .u8 ((bL L j:Nat):Int))):=fun j hj=>by
  rw[hcell j (by omega),hse,yG7]
 have HD:Hid (∀ j,j<L.length→dgB (bL L j)<10):=hd;rw[←hse];clear hB hcell hd hse;have mx1:IntKind.u64.wrap 18446744073709551616=0:=by decide
 have mx2:IntKind.u64.wrap (0 - 1)=18446744073709551615:=by decide
 have mx3:IntKind.u64.wrap (-1)=18446744073709551615:=by decide
 rw[hsn] at hc;generalize hn:L.length=n at *
 go_enter Tryz.func189,Tryz.ntmps189
 go_wp2_with fail;clear hc mx1 mx2 mx3
 go_loopw [101,13,12] (fun i v u wr=>∃ j:Nat,j≤n∧i=.int .i64 (j:Int)∧v=.int .u64 ((dvP 10 L j:Nat):Int)∧u=.bool false∧wr=W) (fun i _ _ _=>n - (intOf i).toNat)
 case atStart=>exact⟨0,by omega,rfl,rfl,rfl,rfl⟩
 case round =>
  obtain⟨j,hj,rfl,rfl,rfl,rfl⟩:=hrel;by_cases hlt:j<n
  ·have hcj:=HC.out j hlt;have hb:=yX6 L j;have hlb:=zR4 hb;have hp:dvP 10 L j<10^j:=qI8 fun k hk=>HD.out k (by omega)
   have hp7:dvP 10 L j<72057594037927936:=xU5 hp (xU7 (xU3 (by omega) (show j≤14 by omega)) (by decide))
   have kl:=yG4 (bL L j) hb;have hdc:=HD.out j hlt;have HS:Hid (dvP 10 L (j+1)=dvP 10 L j*10+dgB (bL L j)):=rfl;generalize hce:bL L j=c at *;generalize hve:dvP 10 L j=v at *;have hdec:48≤c∧c≤57:=xZ4 hdc;obtain⟨D,hDe⟩:∃ D:Nat,D=dgB c:=⟨_,rfl⟩;have hdg:=zL8 hdec.1 hdec.2;have hD16:D<10:=by omega
   have q0:((c:Int)==95)=false:=by rw[xH];omega
   have q1:(48:Int)≤(c:Int):=by omega
   have q2:(c:Int)≤57:=by omega
   have q3:IntKind.u8.wrap ((c:Int) - 48)=(D:Int):=by rw[IntKind.wrap_u8];omega
   obtain⟨M,hM⟩:∃ M:Nat,M=v*10:=⟨_,rfl⟩;obtain⟨N1,hN⟩:∃ N1:Nat,N1=M+D:=⟨_,rfl⟩;have v1:IntKind.u64.wrap ((v:Int)*10)=(M:Int):=by rw[xG4];omega
   have v2:IntKind.u64.wrap ((M:Int)+(D:Int))=(N1:Int):=by rw[xG4];omega
   have v3:IntKind.u64.wrap (D:Int)=(D:Int):=by rw[xG4];omega
   have v4:IntKind.u8.wrap 10=10:=by decide
   have v5:IntKind.u64.wrap 10=10:=by decide
   have HN:Hid (dvP 10 L (j+1)=N1):=(by rw[HS.out,←hDe];omega:dvP 10 L (j+1)=N1)
   have y1:decide ((10:Int)≤(D:Int))=false:=xU0 (by omega)
   have y2:decide ((1844674407370955162:Int)≤(v:Int))=false:=xU0 (by omega)
   have y3:decide ((N1:Int)<(M:Int))=false:=xU0 (by omega)
   have y4:decide ((18446744073709551615:Int)<(N1:Int))=false:=xU0 (by omega)
   clear hN hM hp hp7 hDe HS hve hce hlb hdec hdg hb hD16 hdc
   go_upto_region 46 with (first|(go_at_call 229;refine(kl _).mono ?_;rintro e w' ⟨rfl,hw'⟩;replace hw':=hw'.symm;subst hw'))
   clear q0 q1 q2 q3 kl;clear h0 h00 hn hcj
   go_upto_region 48 with fail
   go_upto_region 50 with fail
   go_wp2_with fail
   go_roundw
   case rel=>exact⟨j+1,by omega,by simp,by rw[HN.out],(by first|rfl|trivial),(by first|rfl|trivial)⟩
   case measure=>simp[intOf];omega
   all_goals (exfalso;have q:=of_decide_eq_false y3;omega)
  ·obtain rfl:n=j:=by omega
   go_wp2_with fail;refine xG6 (xF rfl _ _ _) rfl ?_;exact⟨rfl,HB.out⟩
theorem xV1 (L:List UInt8) (w:World) (hs:L.length≤15) (h00:0<L.length) (hd:∀ j,j<L.length→dgB (bL L j)<16) :
  Calls Tryz.prog 189 #[.string ⟨L.toArray⟩,.int .i64 16,.int .i64 64] w fun r w'=>r=.returned (.tuple #[.int .u64 ((dvP 16 L L.length:Nat):Int),.nilIface])∧Bw w w':=by
 obtain⟨s,hse⟩:∃ s:ByteArray,s=⟨L.toArray⟩:=⟨_,rfl⟩;have hsn:s.size=L.length:=by rw[hse];rfl
 have h0:s.toList.isEmpty=false:=by
  rw[Lib.toList_data,hse];cases L with
  | nil=>simp at h00
  | cons a t=>rfl
 obtain⟨cap,W,hc,hB,hcell⟩:=qW5 s w;have HB:Hid (Bw w W):=hB;have HC:Hid (∀ j,j<L.length→W.cell? ⟨w.heap.size,j,none⟩=some (.int .u8 ((bL L j:Nat):Int))):=fun j hj=>by
  rw[hcell j (by omega),hse,yG7]
 have HD:Hid (∀ j,j<L.length→dgB (bL L j)<16):=hd;rw[←hse];clear hB hcell hd hse;have mx1:IntKind.u64.wrap 18446744073709551616=0:=by decide
 have mx2:IntKind.u64.wrap (0 - 1)=18446744073709551615:=by decide
 have mx3:IntKind.u64.wrap (-1)=18446744073709551615:=by decide
 rw[hsn] at hc;generalize hn:L.length=n at *
 go_enter Tryz.func189,Tryz.ntmps189
 go_wp2_with fail;clear hc mx1 mx2 mx3
 go_loopw [101,13,12] (fun i v u wr=>∃ j:Nat,j≤n∧i=.int .i64 (j:Int)∧v=.int .u64 ((dvP 16 L j:Nat):Int)∧u=.bool false∧wr=W) (fun i _ _ _=>n - (intOf i).toNat)
 case atStart=>exact⟨0,by omega,rfl,rfl,rfl,rfl⟩
 case round =>
  obtain⟨j,hj,rfl,rfl,rfl,rfl⟩:=hrel;by_cases hlt:j<n
  ·have hcj:=HC.out j hlt;have hb:=yX6 L j;have hlb:=zR4 hb;have hp:dvP 16 L j<16^j:=qI8 fun k hk=>HD.out k (by omega)
   have hp7:dvP 16 L j<72057594037927936:=xU5 hp (xU7 (xU3 (by omega) (show j≤14 by omega)) (by decide))
   have kl:=yG4 (bL L j) hb;have hdc:=HD.out j hlt;have HS:Hid (dvP 16 L (j+1)=dvP 16 L j*16+dgB (bL L j)):=rfl;generalize hce:bL L j=c at *;generalize hve:dvP 16 L j=v at *;by_cases hdec:48≤c∧c≤57
   ·obtain⟨D,hDe⟩:∃ D:Nat,D=dgB c:=⟨_,rfl⟩;have hdg:=zL8 hdec.1 hdec.2;have hD16:D<16:=by omega
    have q0:((c:Int)==95)=false:=by rw[xH];omega
    have q1:(48:Int)≤(c:Int):=by omega
    have q2:(c:Int)≤57:=by omega
    have q3:IntKind.u8.wrap ((c:Int) - 48)=(D:Int):=by rw[IntKind.wrap_u8];omega
    obtain⟨M,hM⟩:∃ M:Nat,M=v*16:=⟨_,rfl⟩;obtain⟨N1,hN⟩:∃ N1:Nat,N1=M+D:=⟨_,rfl⟩;have v1:IntKind.u64.wrap ((v:Int)*16)=(M:Int):=by rw[xG4];omega
    have v2:IntKind.u64.wrap ((M:Int)+(D:Int))=(N1:Int):=by rw[xG4];omega
    have v3:IntKind.u64.wrap (D:Int)=(D:Int):=by rw[xG4];omega
    have v4:IntKind.u8.wrap 16=16:=by decide
    have v5:IntKind.u64.wrap 16=16:=by decide
    have HN:Hid (dvP 16 L (j+1)=N1):=(by rw[HS.out,←hDe];omega:dvP 16 L (j+1)=N1)
    have y1:decide ((16:Int)≤(D:Int))=false:=xU0 (by omega)
    have y2:decide ((1152921504606846976:Int)≤(v:Int))=false:=xU0 (by omega)
    have y3:decide ((N1:Int)<(M:Int))=false:=xU0 (by omega)
    have y4:decide ((18446744073709551615:Int)<(N1:Int))=false:=xU0 (by omega)
    clear hN hM hp hp7 hDe HS hve hce hlb hdec hdg hb hD16 hdc
    go_upto_region 46 with (first|(go_at_call 229;refine(kl _).mono ?_;rintro e w' ⟨rfl,hw'⟩;replace hw':=hw'.symm;subst hw'))
    clear q0 q1 q2 q3 kl;clear h0 h00 hn hcj
    go_upto_region 48 with fail
    go_upto_region 50 with fail
    go_wp2_with fail
    go_roundw
    case rel=>exact⟨j+1,by omega,by simp,by rw[HN.out],(by first|rfl|trivial),(by first|rfl|trivial)⟩
    case measure=>simp[intOf];omega
    all_goals (exfalso;have q:=of_decide_eq_false y3;omega)
   ·have hlet:97≤lowB c∧lowB c≤102:=xZ3 hdec hdc;have hc95:c≠95:=by
     intro h;rw[h] at hlet;exact absurd hlet.2 (by decide)
    have hc48:57<c:=by
     apply Decidable.byContradiction
     intro h;have:=zR3 (show c<48 by omega)
     omega
    have q95:((c:Int)==95)=false:=by rw[xH];omega
    have qd:¬ ((c:Int)≤57):=by omega
    have qe:(48:Int)≤(c:Int):=by omega
    obtain⟨D,hDe⟩:∃ D:Nat,D=dgB c:=⟨_,rfl⟩;have hdg:=yS6 hdec hlet.1 hlet.2;have hD16:D<16:=by omega
    obtain⟨L1,hL1⟩:∃ L1:Nat,L1=lowB c:=⟨_,rfl⟩;rw[←hL1] at kl hlet hdg;obtain⟨L2,hL2⟩:∃ L2:Nat,L2=L1 - 97:=⟨_,rfl⟩;have q1:(97:Int)≤(L1:Int):=by omega
    have q2:(L1:Int)≤122:=by omega
    have q3:IntKind.u8.wrap ((L1:Int) - 97)=(L2:Int):=by rw[IntKind.wrap_u8];omega
    have q4:IntKind.u8.wrap ((L2:Int)+10)=(D:Int):=by rw[IntKind.wrap_u8];omega
    obtain⟨M,hM⟩:∃ M:Nat,M=v*16:=⟨_,rfl⟩;obtain⟨N1,hN⟩:∃ N1:Nat,N1=M+D:=⟨_,rfl⟩;have v1:IntKind.u64.wrap ((v:Int)*16)=(M:Int):=by rw[xG4];omega
    have v2:IntKind.u64.wrap ((M:Int)+(D:Int))=(N1:Int):=by rw[xG4];omega
    have v3:IntKind.u64.wrap (D:Int)=(D:Int):=by rw[xG4];omega
    have v4:IntKind.u8.wrap 16=16:=by decide
    have v5:IntKind.u64.wrap 16=16:=by decide
    have HN:Hid (dvP 16 L (j+1)=N1):=(by rw[HS.out,←hDe];omega:dvP 16 L (j+1)=N1)
    have y1:decide ((16:Int)≤(D:Int))=false:=xU0 (by omega)
    have y2:decide ((1152921504606846976:Int)≤(v:Int))=false:=xU0 (by omega)
    have y3:decide ((N1:Int)<(M:Int))=false:=xU0 (by omega)
    have y4:decide ((18446744073709551615:Int)<(N1:Int))=false:=xU0 (by omega)
    clear hN hM hp hp7 hDe HS hve hce hlb hL1 hL2 hlet hdec hdg hb hD16 hdc hc95 hc48
    go_upto_region 46 with (first|(go_at_call 229;refine(kl _).mono ?_;rintro e w' ⟨rfl,hw'⟩;replace hw':=hw'.symm;subst hw'))
    clear q1 q2 q3 q4 qd qe q95 kl;clear h0 h00 hn hcj
    go_upto_region 48 with fail
    go_upto_region 50 with fail
    go_wp2_with fail
    go_roundw
    case rel=>exact⟨j+1,by omega,by simp,by rw[HN.out],(by first|rfl|trivial),(by first|rfl|trivial)⟩
    case measure=>simp[intOf];omega
    all_goals (exfalso;have q:=of_decide_eq_false y3;omega)
  ·obtain rfl:n=j:=by omega
   go_wp2_with fail;refine xG6 (xF rfl _ _ _) rfl ?_;exact⟨rfl,HB.out⟩
theorem yT5 (L:List UInt8) (w:World) (hs:L.length≤15) (h00:0<L.length) (hd:∀ j,j<L.length→dgB (bL L j)<10) :
  Calls Tryz.prog 135 #[.string ⟨L.toArray⟩,.int .i64 10,.int .i64 64] w fun r w'=>r=.returned (.tuple #[.int .u64 ((dvP 10 L L.length:Nat):Int),.nilIface])∧Bw w w':=by
 have k:=xV2 L w hs h00 hd;clear hd;generalize dvP 10 L L.length=D at *
 go_enter Tryz.func135,Tryz.ntmps135
 go_wp2_with fail;refine k.mono ?_;rintro r w1 ⟨rfl,hb⟩;have HB:Hid (Bw w w1):=hb;clear k hb
 go_wp2_with fail;refine xG6 (xF rfl _ _ _) rfl ?_;exact⟨rfl,HB.out⟩
theorem yT4 (L:List UInt8) (w:World) (hs:L.length≤15) (h00:0<L.length) (hd:∀ j,j<L.length→dgB (bL L j)<16) :
  Calls Tryz.prog 135 #[.string ⟨L.toArray⟩,.int .i64 16,.int .i64 64] w fun r w'=>r=.returned (.tuple #[.int .u64 ((dvP 16 L L.length:Nat):Int),.nilIface])∧Bw w w':=by
 have k:=xV1 L w hs h00 hd;clear hd;generalize dvP 16 L L.length=D at *
 go_enter Tryz.func135,Tryz.ntmps135
 go_wp2_with fail;refine k.mono ?_;rintro r w1 ⟨rfl,hb⟩;have HB:Hid (Bw w w1):=hb;clear k hb
 go_wp2_with fail;refine xG6 (xF rfl _ _ _) rfl ?_;exact⟨rfl,HB.out⟩
end Go.Proofs.YtkcmhaknalomjaaGreatDoor
namespace Go.Proofs.YtkcmhaknalomjaaGreatDoor
open Go.RowKit Go.Fl64
def rdE (L:List UInt8):Nat→Nat
 | 0=>0
 | k+1=>min (10*rdE L k+(bL L k - 48)) 6000
theorem yV9 (L:List UInt8) (k:Nat):rdE L k≤6000:=by
 cases k with
 | zero=>exact xG2 _
 | succ k=>exact Nat.min_le_right _ _
theorem yQ3 {c:Nat} (h:isDg c 10=true):48≤c∧c≤57:=by
 unfold isDg at h;simp at h
 exact h
theorem zK7 (s D:List UInt8) (sg:Int) (w:World)
  (k1:∀ W,Calls Tryz.prog 24 #[.string ⟨s.toArray⟩] W fun r w'=>r=.returned (.tuple #[.int .i64 sg,.string ⟨D.toArray⟩])∧Bw W w')
  (k2:∀ W,Calls Tryz.prog 74 #[.string ⟨D.toArray⟩,.int .i64 10] W fun r w'=>r=.returned (.bool false)∧w'=W) :
  Calls Tryz.prog 72 #[.string ⟨s.toArray⟩] w fun r w'=>r=.returned (.tuple #[.int .i64 0,.bool false])∧Bw w w':=by
 go_enter Tryz.func72,Tryz.ntmps72
 go_wp2_with (first|(go_at_call 24;refine(k1 _).mono ?_;rintro r w1 ⟨rfl,hb1⟩)|(go_at_call 74;refine(k2 _).mono ?_;rintro r w' ⟨rfl,rfl⟩))
 refine xG6 (xF rfl _ _ _) rfl ?_;exact⟨rfl,hb1⟩
theorem zB3 (s D:List UInt8) (sg:Int) (w:World) (hL:D.length≤2000000) (hs:sg=1∨sg = -1)
  (k1:∀ W,Calls Tryz.prog 24 #[.string ⟨s.toArray⟩] W fun r w'=>r=.returned (.tuple #[.int .i64 sg,.string ⟨D.toArray⟩])∧Bw W w')
  (k2:∀ W,Calls Tryz.prog 74 #[.string ⟨D.toArray⟩,.int .i64 10] W fun r w'=>r=.returned (.bool true)∧w'=W)
  (hd:Hid (∀ k,k<D.length→isDg (bL D k) 10=true)) :
  Calls Tryz.prog 72 #[.string ⟨s.toArray⟩] w fun r w'=>r=.returned (.tuple #[.int .i64 (sg*rdE D D.length),.bool true])∧Bw w w':=by
 have hsz:(⟨D.toArray⟩:ByteArray).size=D.length:=rfl;obtain⟨n,hn⟩:∃ n,n=D.length:=⟨_,rfl⟩;rw[←hn] at hsz hL hd ⊢;have hg:∀ k (h:k<(⟨D.toArray⟩:ByteArray).size),((⟨D.toArray⟩:ByteArray)[k]'h).toNat=bL D k:=yG8 D;have Hn:Hid (n=D.length):=hn;have Hs:Hid (sg=1∨sg = -1):=hs;clear hn hs
 go_enter Tryz.func72,Tryz.ntmps72
 go_wp2_with (first|(go_at_call 24;refine(k1 _).mono ?_;rintro r w1 ⟨rfl,hb1⟩)|(go_at_call 74;refine(k2 _).mono ?_;rintro r w' ⟨rfl,rfl⟩))
 clear k1 k2
 rename World=>w0
 have HB:Hid (Bw w w0):=hb1;clear hb1
 go_loopw [6,18] (fun e v wr=>∃ i:Nat,i≤n∧e=.int .i64 (rdE D i:Nat)∧v=.int .i64 i∧wr=w0) (fun _ v _=>n - (intOf v).toNat)
 case atStart=>exact⟨0,xG2 _,rfl,rfl,rfl⟩
 case round =>
  obtain⟨i,hi,rfl,rfl,rfl⟩:=hrel;obtain⟨E,hE⟩:∃ E,E=rdE D i:=⟨_,rfl⟩;have hE6:E≤6000:=by rw[hE];exact yV9 _ _
  rw[←hE];by_cases hic:i<n
  ·have hii:(i:Int)<(n:Int):=by omega
   obtain⟨c,hc⟩:∃ c,c=bL D i:=⟨_,rfl⟩;have hcd:=yQ3 (hd.out i hic);have hg2:=hg i;rw[←hc] at hcd hg2;have hwi:IntKind.i64.wrap ((i:Int)+1)=(i:Int)+1:=by rw[xG3];omega
   obtain⟨q,hq⟩:∃ q,c=48+q:=⟨c - 48,by omega⟩
   have hw1:IntKind.i64.wrap (10*(E:Int))=10*E:=by rw[xG3];omega
   have hw2:IntKind.u8.wrap ((c:Int) - 48)=(q:Int):=by rw[IntKind.wrap_u8];omega
   have hw3:IntKind.i64.wrap (q:Int)=(q:Int):=by rw[xG3];omega
   have hw4:IntKind.i64.wrap (10*(E:Int)+q)=10*E+q:=by rw[xG3];omega
   obtain⟨M,hM⟩:∃ M,M=rdE D (i+1):=⟨_,rfl⟩;have hmin:min (10*(E:Int)+q) 6000=(M:Int):=by
    rw[hM];unfold rdE;rw[←hE,←hc,hq];omega
   have HM:Hid (M=rdE D (i+1)):=hM;clear hM hE hc hg
   go_wp2;have e48:(48+(q:Int) - 48)=q:=by omega
   rw[e48,hmin];refine⟨⟨i+1,by omega,by rw[HM.out],by push_cast;rfl,trivial⟩,by simp[intOf];omega⟩
  ·have hii:¬ (i:Int)<(n:Int):=by omega
   obtain rfl:i=n:=by omega
   have HE:Hid (E=rdE D i):=hE;clear hg hE;rcases Hs.out with rfl|rfl
   ·have hw:IntKind.i64.wrap (1*(E:Int))=1*E:=by rw[xG3];omega
    go_wp2;refine xG6 (xF rfl _ _ _) rfl ?_;rw[←HE.out];exact⟨rfl,HB.out⟩
   ·have hw:IntKind.i64.wrap (-1*(E:Int)) = -1*E:=by rw[xG3];omega
    have hw':IntKind.i64.wrap (-(E:Int)) = -E:=by rw[xG3];omega
    go_wp2;refine xG6 (xF rfl _ _ _) rfl ?_;rw[←HE.out];refine⟨?_,HB.out⟩
    simp
def csS (s:List UInt8):Int:=if s.head?=some 45 then -1 else 1
def csD (s:List UInt8):List UInt8:=if s.head?=some 45∨s.head?=some 43 then s.tail else s
theorem zB7 (s:List UInt8) (w:World) (hL:s.length≤2000000)
  (k1:∀ W,Calls Tryz.prog 70 #[.string ⟨s.toArray⟩,.string ⟨#[45]⟩] W fun r w'=>r=.returned (.bool (s.head?==some 45))∧w'=W)
  (k2:∀ W,Calls Tryz.prog 70 #[.string ⟨s.toArray⟩,.string ⟨#[43]⟩] W fun r w'=>r=.returned (.bool (s.head?==some 43))∧w'=W) :
  Calls Tryz.prog 24 #[.string ⟨s.toArray⟩] w fun r w'=>r=.returned (.tuple #[.int .i64 (csS s),.string ⟨(csD s).toArray⟩])∧Bw w w':=by
 have ed:=qK0 s 1;rw[List.drop_one] at ed;have hsz:(⟨s.toArray⟩:ByteArray).size=s.length:=rfl;by_cases h1:s.head?=some 45
 ·have hl:(1:Int)≤(s.length:Int):=by cases s with|nil=>simp at h1|cons a t=>rw[List.length_cons];omega
  have e1:csS s = -1:=by unfold csS;rw[if_pos h1]
  have e2:csD s=s.tail:=by unfold csD;rw[if_pos (.inl h1)]
  have hb:(s.head?==some 45)=true:=by rw[h1];rfl
  rw[hb] at k1;rw[e1,e2];clear e1 e2 h1 hb k2
  go_enter Tryz.func24,Tryz.ntmps24
  go_wp2_with (first|(go_at_call 70;refine(k1 _).mono ?_;rintro r w' ⟨rfl,rfl⟩))
  go_quiet (fail)
  go_wp2;refine xG6 (xF rfl _ _ _) rfl ?_;exact⟨rfl,qU5 (xV9 _ _) nq⟩
 ·have hb:(s.head?==some 45)=false:=by simp[h1]
  have e1:csS s=1:=by unfold csS;rw[if_neg h1]
  rw[hb] at k1;rw[e1];by_cases h2:s.head?=some 43
  ·have hl:(1:Int)≤(s.length:Int):=by cases s with|nil=>simp at h2|cons a t=>rw[List.length_cons];omega
   have e2:csD s=s.tail:=by unfold csD;rw[if_pos (.inr h2)]
   have hb2:(s.head?==some 43)=true:=by rw[h2];rfl
   rw[hb2] at k2;rw[e2];clear e1 e2 h1 h2 hb hb2
   go_enter Tryz.func24,Tryz.ntmps24
   go_wp2_with fail;refine(k1 _).mono ?_
   rintro r w1 ⟨rfl,rfl⟩
   go_wp2_with fail;refine(k2 _).mono ?_
   rintro r w2 ⟨rfl,rfl⟩
   go_wp2_with fail
   go_quiet (fail)
   go_wp2;refine xG6 (xF rfl _ _ _) rfl ?_;exact⟨rfl,qU5 (xV9 _ _) nq⟩
  ·have e2:csD s=s:=by unfold csD;rw[if_neg (fun h=>h.elim h1 h2)]
   have hb2:(s.head?==some 43)=false:=by simp[h2]
   rw[hb2] at k2;rw[e2];clear e1 e2 h1 h2 hb hb2
   go_enter Tryz.func24,Tryz.ntmps24
   go_wp2_with fail;refine(k1 _).mono ?_
   rintro r w1 ⟨rfl,rfl⟩
   go_wp2_with fail;refine(k2 _).mono ?_
   rintro r w2 ⟨rfl,rfl⟩
   go_wp2;refine xG6 (xF rfl _ _ _) rfl ?_;exact⟨rfl,xV9 _ _⟩
theorem yY5 (k:Int) (T1 T2:Bool×Nat×Int) (w:World)
  (k1:∀ W,Bw w W→Calls Tryz.prog 108 #[.int .i64 1] W fun r w'=>OutP W T1 r w') (k2:Hid (∀ W X,Bw w W→PN W X T1→Calls Tryz.prog 153 #[X,.int .i64 k] W fun r w'=>OutA W T2 r w')):Calls Tryz.prog 139 #[.int .i64 k] w fun r w'=>qP7 w T2 T1 r w':=by
 obtain⟨W,hW⟩:∃ W,W=w.alloc (.cells #[.bool false,.slice none 0 0,.int .i64 0,.bool false,.slice none 0 0,.int .i64 0] 96):=⟨_,rfl⟩;have HC:Hid (W.heap[w.heap.size]?=some (.cells #[.bool false,.slice none 0 0,.int .i64 0,.bool false,.slice none 0 0,.int .i64 0] 96 (0,0))∧Bw w W):=(by rw[hW];exact⟨xG5 _ _,(xV9 _ _).alloc (xV8 _) _⟩:_∧_)
 have kk0:=k1 W HC.out.2;have HK2:Hid _:=k1;clear k1
 go_enter Tryz.func139,Tryz.ntmps139
 go_upto_region 1 with fail;rw[←hW];clear hW
 go_wp2_with fail;refine kk0.mono ?_;rintro r w0 ⟨s0,ao0,n0,cp0,e0,rfl,hp0,hb0⟩;clear kk0;have HC0:Hid (w0.heap[w.heap.size]?=some (.cells #[.bool false,.slice none 0 0,.int .i64 0,.bool false,.slice none 0 0,.int .i64 0] 96 (0,0))∧Bw w w0):=⟨qQ HC.out.1 hb0 (qQ6 HC.out.1),HC.out.2.trans (hb0.mono HC.out.2.size)⟩;have kk:=k2.out w0 _ HC0.out.2 hp0;clear hp0 hb0 HC k2
 go_wp2_with fail;refine kk.mono ?_;rintro r w1 ⟨s1,ao1,n1,cp1,e1,rfl,hp,hb1⟩;clear kk;have HG:Hid (w1.heap[w.heap.size]?=some (.cells #[.bool false,.slice none 0 0,.int .i64 0,.bool false,.slice none 0 0,.int .i64 0] 96 (0,0))∧Bw w w1∧PN w1 (.agg #[.bool s1,.slice ao1 n1 cp1,.int .i64 e1]) T2):=⟨qQ HC0.out.1 hb1 (qQ6 HC0.out.1),HC0.out.2.trans (hb1.mono HC0.out.2.size),hp⟩;have kk:=HK2.out w1 HG.out.2.1;clear hp hb1 HC0 HK2
 go_wp2_with fail;refine kk.mono ?_;rintro r w2 ⟨s2,ao2,n2,cp2,e2,rfl,hp,hb2⟩;clear kk;have HH:Hid (w2.heap[w.heap.size]?=some (.cells #[.bool false,.slice none 0 0,.int .i64 0,.bool false,.slice none 0 0,.int .i64 0] 96 (0,0))∧Bw w w2∧PN w2 (.agg #[.bool s1,.slice ao1 n1 cp1,.int .i64 e1]) T2∧PN w2 (.agg #[.bool s2,.slice ao2 n2 cp2,.int .i64 e2]) T1):=⟨qQ HG.out.1 hb2 (qQ6 HG.out.1),HG.out.2.1.trans (hb2.mono HG.out.2.1.size),HG.out.2.2.later hb2,hp⟩;clear hp hb2 HG;obtain⟨⟨c0,c1,c2,c3,c4,c5⟩,d0,d1,d2,d3,d4,d5⟩:=qJ7 HH.out.1
 go_wp2_with fail;refine xG6 (xH9 rfl _ _ w.heap.size 96 #[.bool s1,.slice ao1 n1 cp1,.int .i64 e1,.bool s2,.slice ao2 n2 cp2,.int .i64 e2] (0,0) _ rfl (qR7 _ _ _ _ _ _ HH.out.1) Tryz.underlying96 rfl (by kernel_rfl)) rfl ?_
 exact⟨_,rfl,⟨_,_,_,_,_,_,_,_,_,_,rfl,HH.out.2.2.1.set6 HH.out.1 _ _ _ _ _ _,HH.out.2.2.2.set6 HH.out.1 _ _ _ _ _ _⟩,qG4 HH.out.2.1 (xV8 _) _ _ _ _ _ _⟩
theorem qU4 {w:World} {g:Nat} {a b c d:Value} {T:TypeId} (h:w.heap[g]?=some (.cells #[a,b,c,d] T (0,0))):w.cell? ⟨g,0,none⟩=some a∧w.cell? ⟨g,1,none⟩=some b∧w.cell? ⟨g,2,none⟩=some c∧w.cell? ⟨g,3,none⟩=some d:=by
 simp[World.cell?,h]
theorem yK0 (b h e:Int) (d:ByteArray) (t1 t2:Bool×Nat×Int) (w:World) (hb:¬ b=16) (hh:0≤h∧h≤1000000) (he : -1000000≤e∧e≤1000000)
  (k1:Hid (∀ W,Bw w W→Calls Tryz.prog 90 #[.int .i64 (e - h)] W fun r w'=>qP7 W t1 t2 r w')) :
  Calls Tryz.prog 79 #[.agg #[.int .i64 b,.string d,.int .i64 h,.int .i64 e]] w fun r w'=>qP7 w t1 t2 r w':=by
 obtain⟨W,hW⟩:∃ W,W=(w.alloc (.cells #[.int .i64 b,.string d,.int .i64 h,.int .i64 e] 45)).alloc (.cells #[.bool false,.slice none 0 0,.int .i64 0,.bool false,.slice none 0 0,.int .i64 0] 96):=⟨_,rfl⟩;obtain⟨m1,m2,m3,m4⟩:=qV5 _ _ hW;obtain⟨c0,c1,c2,c3⟩:=qU4 m1;have HC:Hid (W.heap[w.heap.size+1]?=some (.cells #[.bool false,.slice none 0 0,.int .i64 0,.bool false,.slice none 0 0,.int .i64 0] 96 (0,0))∧Bw w W):=⟨m2,m4⟩;have hw1:IntKind.i64.wrap (4*h)=4*h:=by rw[xG3];omega
 have hw2:IntKind.i64.wrap (e - 4*h)=e - 4*h:=by rw[xG3];omega
 have hw3:IntKind.i64.wrap (e - h)=e - h:=by rw[xG3];omega
 have kk:=k1.out W m4;clear m1 m2 m3 m4 k1 hh he
 skip
 go_enter Tryz.func79,Tryz.ntmps79
 go_upto_region 1 with fail;rw[←hW];clear hW
 go_wp2_with fail;refine kk.mono ?_;rintro r w1 ⟨_,rfl,⟨s1,ao1,n1,cp1,e1,s2,ao2,n2,cp2,e2,rfl,hp,hq⟩,hb1⟩;clear kk c0 c1 c2 c3;have HH:Hid (w1.heap[w.heap.size+1]?=some (.cells #[.bool false,.slice none 0 0,.int .i64 0,.bool false,.slice none 0 0,.int .i64 0] 96 (0,0))∧Bw w w1∧PN w1 (.agg #[.bool s1,.slice ao1 n1 cp1,.int .i64 e1]) t1∧PN w1 (.agg #[.bool s2,.slice ao2 n2 cp2,.int .i64 e2]) t2):=⟨qQ HC.out.1 hb1 (qQ6 HC.out.1),HC.out.2.trans (hb1.mono HC.out.2.size),hp,hq⟩;clear hp hq hb1 HC;obtain⟨⟨c0,c1,c2,c3,c4,c5⟩,d0,d1,d2,d3,d4,d5⟩:=qJ7 HH.out.1
 go_wp2_with fail;refine xG6 (xH9 rfl _ _ (w.heap.size+1) 96 #[.bool s1,.slice ao1 n1 cp1,.int .i64 e1,.bool s2,.slice ao2 n2 cp2,.int .i64 e2] (0,0) _ rfl (qR7 _ _ _ _ _ _ HH.out.1) Tryz.underlying96 rfl (by kernel_rfl)) rfl ?_
 exact⟨_,rfl,⟨_,_,_,_,_,_,_,_,_,_,rfl,HH.out.2.2.1.set6 HH.out.1 _ _ _ _ _ _,HH.out.2.2.2.set6 HH.out.1 _ _ _ _ _ _⟩,qG4 HH.out.2.1 (Nat.le_succ _) _ _ _ _ _ _⟩
theorem yK (b h e:Int) (d:ByteArray) (t1 t2:Bool×Nat×Int) (w:World) (hb:b=16) (hh:0≤h∧h≤1000000) (he : -1000000≤e∧e≤1000000)
  (k1:Hid (∀ W,Bw w W→Calls Tryz.prog 139 #[.int .i64 (e - 4*h)] W fun r w'=>qP7 W t1 t2 r w')) :
  Calls Tryz.prog 79 #[.agg #[.int .i64 b,.string d,.int .i64 h,.int .i64 e]] w fun r w'=>qP7 w t1 t2 r w':=by
 obtain⟨W,hW⟩:∃ W,W=(w.alloc (.cells #[.int .i64 b,.string d,.int .i64 h,.int .i64 e] 45)).alloc (.cells #[.bool false,.slice none 0 0,.int .i64 0,.bool false,.slice none 0 0,.int .i64 0] 96):=⟨_,rfl⟩;obtain⟨m1,m2,m3,m4⟩:=qV5 _ _ hW;obtain⟨c0,c1,c2,c3⟩:=qU4 m1;have HC:Hid (W.heap[w.heap.size+1]?=some (.cells #[.bool false,.slice none 0 0,.int .i64 0,.bool false,.slice none 0 0,.int .i64 0] 96 (0,0))∧Bw w W):=⟨m2,m4⟩;have hw1:IntKind.i64.wrap (4*h)=4*h:=by rw[xG3];omega
 have hw2:IntKind.i64.wrap (e - 4*h)=e - 4*h:=by rw[xG3];omega
 have hw3:IntKind.i64.wrap (e - h)=e - h:=by rw[xG3];omega
 have kk:=k1.out W m4;clear m1 m2 m3 m4 k1 hh he;subst hb
 go_enter Tryz.func79,Tryz.ntmps79
 go_upto_region 1 with fail;rw[←hW];clear hW
 go_wp2_with fail;refine kk.mono ?_;rintro r w1 ⟨_,rfl,⟨s1,ao1,n1,cp1,e1,s2,ao2,n2,cp2,e2,rfl,hp,hq⟩,hb1⟩;clear kk c0 c1 c2 c3;have HH:Hid (w1.heap[w.heap.size+1]?=some (.cells #[.bool false,.slice none 0 0,.int .i64 0,.bool false,.slice none 0 0,.int .i64 0] 96 (0,0))∧Bw w w1∧PN w1 (.agg #[.bool s1,.slice ao1 n1 cp1,.int .i64 e1]) t1∧PN w1 (.agg #[.bool s2,.slice ao2 n2 cp2,.int .i64 e2]) t2):=⟨qQ HC.out.1 hb1 (qQ6 HC.out.1),HC.out.2.trans (hb1.mono HC.out.2.size),hp,hq⟩;clear hp hq hb1 HC;obtain⟨⟨c0,c1,c2,c3,c4,c5⟩,d0,d1,d2,d3,d4,d5⟩:=qJ7 HH.out.1
 go_wp2_with fail;refine xG6 (xH9 rfl _ _ (w.heap.size+1) 96 #[.bool s1,.slice ao1 n1 cp1,.int .i64 e1,.bool s2,.slice ao2 n2 cp2,.int .i64 e2] (0,0) _ rfl (qR7 _ _ _ _ _ _ HH.out.1) Tryz.underlying96 rfl (by kernel_rfl)) rfl ?_
 exact⟨_,rfl,⟨_,_,_,_,_,_,_,_,_,_,rfl,HH.out.2.2.1.set6 HH.out.1 _ _ _ _ _ _,HH.out.2.2.2.set6 HH.out.1 _ _ _ _ _ _⟩,qG4 HH.out.2.1 (Nat.le_succ _) _ _ _ _ _ _⟩
def isR2 (f:Nat) (er:Int):World→Value→Prop:=isV (.tuple #[.float .f64 f,.int .i64 er])
theorem zB1 (b h e m sg er:Int) (d:ByteArray) (neg:Bool) (tw tz t1 t2 tm:Bool×Nat×Int) (f:Nat) (w:World) (hsg:Hid (¬ sg=0))
  (k1:Hid (∀ W,Bw w W→Calls Tryz.prog 75 #[.agg #[.int .i64 b,.string d,.int .i64 h,.int .i64 e]] W fun r w'=>OutA W tw r w'))
  (k2:Hid (∀ W X,Bw w W→PN W X tw→Calls Tryz.prog 76 #[X] W fun r w'=>r=.returned (.int .i64 sg)∧Bw W w'))
  (k3:Hid (neg=true→∀ W X,Bw w W→PN W X tw→Calls Tryz.prog 78 #[X] W fun r w'=>OutA W tz r w')) (hz:Hid (neg=false→tz=tw))
  (k4:Hid (∀ W,Bw w W→Calls Tryz.prog 79 #[.agg #[.int .i64 b,.string d,.int .i64 h,.int .i64 e]] W fun r w'=>qP7 W t1 t2 r w'))
  (k5:Hid (∀ W X Y,Bw w W→PN W X tz→PN W Y t1→Calls Tryz.prog 81 #[X,Y] W fun r w'=>OutA W tm r w'))
  (k6:Hid (∀ W X Y,Bw w W→PN W X tm→PN W Y t2→Calls Tryz.prog 80 #[X,Y,.int .i64 m] W fun r w'=>r=.returned (.tuple #[.float .f64 f,.int .i64 er])∧Bw W w')) :
  Calls Tryz.prog 28 #[.agg #[.int .i64 b,.string d,.int .i64 h,.int .i64 e],.bool neg,.int .i64 m] w fun r w'=>r=.returned (.float .f64 f)∧Bw w w':=by
 obtain⟨W,hW⟩:∃ W,W=w.alloc (.cells #[.int .i64 b,.string d,.int .i64 h,.int .i64 e] 45):=⟨_,rfl⟩;have m1:W.heap[w.heap.size]?=some (.cells #[.int .i64 b,.string d,.int .i64 h,.int .i64 e] 45 (0,0)):=by rw[hW];exact xG5 _ _
 have m4:Bw w W:=by rw[hW];exact(xV9 _ _).alloc (xV8 _) _
 obtain⟨c0,c1,c2,c3⟩:=qU4 m1;have HC:Hid (W.heap[w.heap.size]?=some (.cells #[.int .i64 b,.string d,.int .i64 h,.int .i64 e] 45 (0,0))∧Bw w W):=⟨m1,m4⟩;have kk:=k1.out W m4;clear m1 m4 k1
 go_enter Tryz.func28,Tryz.ntmps28
 go_upto_region 1 with fail;rw[←hW];clear hW
 go_wp2_with fail;refine kk.mono ?_;rintro r w1 ⟨s1,ao1,n1,cp1,e1,rfl,hA,hb1⟩;clear kk c0 c1 c2 c3;obtain⟨W1,hW1⟩:∃ W1,W1=w1.alloc (.cells #[.bool s1,.slice ao1 n1 cp1,.int .i64 e1] 65):=⟨_,rfl⟩;have hbV:Bw w1 W1:=by rw[hW1];exact(xV9 _ _).alloc (xV8 _) _
 have n6:W1.heap[w1.heap.size]?=some (.cells #[.bool s1,.slice ao1 n1 cp1,.int .i64 e1] 65 (0,0)):=by rw[hW1];exact xG5 _ _
 go_upto_region 2 with fail;rw[←hW1];clear hW1;have hA':=hA.later hbV;have hb1':Bw W W1:=hb1.trans (hbV.mono hb1.size);have hlt:w.heap.size<w1.heap.size:=xU5 (qQ6 HC.out.1) hb1.size;clear hbV hA hb1;generalize w1.heap.size=gqA at *;have H1:Hid (W1.heap[w.heap.size]?=some (.cells #[.int .i64 b,.string d,.int .i64 h,.int .i64 e] 45 (0,0))∧PBx W1 gqA s1 ao1 n1 cp1 e1 tw∧Bw w W1∧w.heap.size<gqA):=⟨qQ HC.out.1 hb1' (qQ6 HC.out.1),⟨n6,hA'⟩,HC.out.2.trans (hb1'.mono HC.out.2.size),hlt⟩;obtain⟨⟨c0,c1,c2⟩,-⟩:=qQ1 H1.out.2.1.1;have kk:=k2.out W1 _ H1.out.2.2.1 hA';have hsg':=hsg.out;clear k2 n6 hA' hb1' hlt HC hsg
 go_wp2_with fail;refine kk.mono ?_;rintro r w2 ⟨rfl,hb2⟩;have H2:Hid (w2.heap[w.heap.size]?=some (.cells #[.int .i64 b,.string d,.int .i64 h,.int .i64 e] 45 (0,0))∧PBx w2 gqA s1 ao1 n1 cp1 e1 tw∧Bw w w2∧w.heap.size<gqA):=⟨qQ H1.out.1 hb2 (qQ6 H1.out.1),H1.out.2.1.later hb2,H1.out.2.2.1.trans (hb2.mono H1.out.2.2.1.size),H1.out.2.2.2⟩;clear kk hb2 H1 c0 c1 c2
 go_upto_if 19 with fail
 go_cut [] from 11 to 21 (fun wx=>∃ (s5:Bool) (ao5:Option Addr) (n5 cp5:Nat) (e5:Int),Hid (wx.heap[w.heap.size]?=some (.cells #[.int .i64 b,.string d,.int .i64 h,.int .i64 e] 45 (0,0))∧PBx wx gqA s5 ao5 n5 cp5 e5 tz∧Bw w wx∧w.heap.size<gqA))
 case first =>
  cases neg
  ·go_wp2
   go_meet
   obtain rfl:=hz.out (by first|rfl|trivial)
   exact⟨_,_,_,_,_,H2⟩
  ·obtain⟨⟨c0,c1,c2⟩,g0,g1,g2⟩:=qQ1 H2.out.2.1.1;have kk:=k3.out rfl w2 _ H2.out.2.2.1 H2.out.2.1.2;clear k3
   go_wp2_with fail;refine kk.mono ?_;rintro r w3 ⟨s3,ao3,n3,cp3,e3,rfl,hA,hb3⟩;have H3:Hid ((w3.heap[w.heap.size]?=some (.cells #[.int .i64 b,.string d,.int .i64 h,.int .i64 e] 45 (0,0))∧PBx w3 gqA s1 ao1 n1 cp1 e1 tw∧Bw w w3∧w.heap.size<gqA)∧PN w3 (.agg #[.bool s3,.slice ao3 n3 cp3,.int .i64 e3]) tz):=⟨⟨qQ H2.out.1 hb3 (qQ6 H2.out.1),H2.out.2.1.later hb3,H2.out.2.2.1.trans (hb3.mono H2.out.2.2.1.size),H2.out.2.2.2⟩,hA⟩;clear kk hA hb3 H2 c0 c1 c2 g0 g1 g2;obtain⟨⟨c0,c1,c2⟩,g0,g1,g2⟩:=qQ1 H3.out.1.2.1.1
   go_wp2
   go_meet
   have a:=H3.out;exact⟨_,_,_,_,_,⟨by rw[qU6 _ _ _ (Nat.ne_of_lt a.1.2.2.2)];exact a.1.1,⟨zZ4 _ _ _ a.1.2.1.1,a.2.set3 a.1.2.1.1 _ _ _⟩,qS1 a.1.2.2.1 (xF4 a.1.2.2.2) _ _ _,a.1.2.2.2⟩⟩
 case rest =>
 obtain⟨s5,ao5,n5,cp5,e5,H4⟩:=hcut;clear H2 k3 hz;obtain⟨c0,c1,c2,c3⟩:=qU4 H4.out.1;have kk:=k4.out _ H4.out.2.2.1;clear k4
 go_wp2_with fail;refine kk.mono ?_;rintro r w5 ⟨_,rfl,⟨s1,ao1,n1,cp1,e1,s2,ao2,n2,cp2,e2,rfl,hp,hq⟩,hb5⟩;clear kk c0 c1 c2 c3;obtain⟨W5,hW5⟩:∃ W5,W5=w5.alloc (.cells #[.bool s1,.slice ao1 n1 cp1,.int .i64 e1,.bool s2,.slice ao2 n2 cp2,.int .i64 e2] 96):=⟨_,rfl⟩;have hbV:Bw w5 W5:=by rw[hW5];exact(xV9 _ _).alloc (xV8 _) _
 have n6:W5.heap[w5.heap.size]?=some (.cells #[.bool s1,.slice ao1 n1 cp1,.int .i64 e1,.bool s2,.slice ao2 n2 cp2,.int .i64 e2] 96 (0,0)):=by rw[hW5];exact xG5 _ _
 go_upto_region 7 with fail;rw[←hW5];clear hW5;have hb5':=hb5.trans (hbV.mono hb5.size);have p1:=hp.later hbV;have p2:=hq.later hbV;clear hbV hp hq hb5;generalize w5.heap.size=gqS at *;have m1:=H4.out.2.1.later hb5';have hBW:=H4.out.2.2.1.trans (hb5'.mono H4.out.2.2.1.size);clear H4 hb5';refine qG8 [0,1,2,3,4,5,6,7,8,9,10,11,12] [25,26,27,28,29,30,31,32,24,33,34,9,10] [[],[],[1],[0,2],[],[4],[],[3,5,6],[7],[8],[8],[9],[10]] W5 _ [isV (.agg #[.bool s5,.slice ao5 n5 cp5,.int .i64 e5]),isV (.pointer (some ⟨gqS,0,none⟩)),isV (.agg #[.bool s1,.slice ao1 n1 cp1,.int .i64 e1]),isP tm,isV (.pointer (some ⟨gqS,3,none⟩)),isV (.agg #[.bool s2,.slice ao2 n2 cp2,.int .i64 e2]),isV (.int .i64 m),isR2 f er,isR2 f er,isV (.float .f64 f),isV (.int .i64 er),isV (.float .f64 f),isV (.int .i64 er)] (by kernel_rfl) ⟨qQ3 _,qQ3 _,qQ3 _,qZ9 _,qQ3 _,qQ3 _,qQ3 _,qQ3 _,qQ3 _,qQ3 _,qQ3 _,qQ3 _,qQ3 _,trivial⟩ (by show ∀ s ∈ [25,26,27,28,29,30,31,32,24,33,34,9,10],s<36;decide) ?_ ?_
 ·intro j hj o ho act U hb hoth hdep;have hj':j<13:=hj;have hbU:Bw w U:=hBW.trans (hb.mono hBW.size);have t2':act.tmps[(2:Nat)]?=some (Value.int .i64 m):=(hoth 2 (by decide)).trans rfl
  have t7':act.tmps[(7:Nat)]?=some (Value.pointer (some ⟨gqA,0,none⟩)):=(hoth 7 (by decide)).trans rfl
  have t8':act.tmps[(8:Nat)]?=some (Value.pointer (some ⟨gqS,0,none⟩)):=(hoth 8 (by decide)).trans rfl
  have d7:=(qY7 (qQ m1.1 hb (qQ6 m1.1))).1;have d8:=(qJ7 (qQ n6 hb (qQ6 n6))).1;rcases(by omega:j=0∨j=1∨j=2∨j=3∨j=4∨j=5∨j=6∨j=7∨j=8∨j=9∨j=10∨j=11∨j=12)with rfl|rfl|rfl|rfl|rfl|rfl|rfl|rfl|rfl|rfl|rfl|rfl|rfl
  ·obtain rfl:=xU ho;exact .inl ⟨rfl,qY6 (f:=0) rfl t7' d7.1 d7.2.1 d7.2.2 ⟨_,rfl,rfl,xV9 _ _⟩⟩
  ·obtain rfl:=xU ho;exact .inl ⟨rfl,qT2 rfl t8' ⟨_,rfl,rfl,xV9 _ _⟩⟩
  ·obtain rfl:=xU ho;have y1:act.tmps[(26:Nat)]?=_:=dV (hdep 1 (by simp[dL])) rfl
   exact .inl ⟨rfl,qY6 (f:=0) rfl y1 d8.1 d8.2.1 d8.2.2.1 ⟨_,rfl,rfl,xV9 _ _⟩⟩
  ·obtain rfl:=xU ho;have y0:act.tmps[(25:Nat)]?=_:=dV (hdep 0 (by simp[dL])) rfl
   have y2:act.tmps[(27:Nat)]?=_:=dV (hdep 2 (by simp[dL])) rfl
   refine .inl ⟨rfl,qZ rfl (qZ4 Tryz.func81 (by kernel_rfl) (by kernel_rfl)) (map2 y0 y2) ?_⟩
   refine(k5.out U _ _ hbU (m1.2.later hb) (p1.later hb)).mono ?_
   rintro r w' ⟨_,_,_,_,_,rfl,hA,hb'⟩;exact⟨_,rfl,_,rfl,hA,hb'⟩
  ·obtain rfl:=xU ho;exact .inl ⟨rfl,qT1 rfl t8' ⟨_,rfl,rfl,xV9 _ _⟩⟩
  ·obtain rfl:=xU ho;have y4:act.tmps[(29:Nat)]?=_:=dV (hdep 4 (by simp[dL])) rfl
   exact .inl ⟨rfl,qY6 (f:=3) rfl y4 d8.2.2.2.1 d8.2.2.2.2.1 d8.2.2.2.2.2 ⟨_,rfl,rfl,xV9 _ _⟩⟩
  ·obtain rfl:=xU ho;exact .inl ⟨rfl,qX5 rfl t2' ⟨_,rfl,rfl,xV9 _ _⟩⟩
  ·obtain rfl:=xU ho;obtain⟨u3,y3,v3⟩:=hdep 3 (by simp[dL])
   have y3':act.tmps[(28:Nat)]?=_:=y3;have y5:act.tmps[(30:Nat)]?=_:=dV (hdep 5 (by simp[dL])) rfl
   have y6:act.tmps[(31:Nat)]?=_:=dV (hdep 6 (by simp[dL])) rfl
   refine .inl ⟨rfl,qZ rfl (qZ4 Tryz.func80 (by kernel_rfl) (by kernel_rfl)) (yP5 y3' y5 y6) ?_⟩
   refine(k6.out U _ _ hbU v3 (p2.later hb)).mono ?_
   rintro r w' ⟨rfl,hb'⟩;exact⟨_,rfl,_,rfl,rfl,hb'⟩
  ·obtain rfl:=xU ho;have y7:act.tmps[(32:Nat)]?=_:=dV (hdep 7 (by simp[dL])) rfl
   exact .inl ⟨rfl,qX5 rfl y7 ⟨_,rfl,rfl,xV9 _ _⟩⟩
  ·obtain rfl:=xU ho;have y8:act.tmps[(24:Nat)]?=_:=dV (hdep 8 (by simp[dL])) rfl
   exact .inl ⟨rfl,qK5 rfl y8 rfl ⟨_,rfl,rfl,xV9 _ _⟩⟩
  ·obtain rfl:=xU ho;have y8:act.tmps[(24:Nat)]?=_:=dV (hdep 8 (by simp[dL])) rfl
   exact .inl ⟨rfl,qK5 rfl y8 rfl ⟨_,rfl,rfl,xV9 _ _⟩⟩
  ·obtain rfl:=xU ho;have y9:act.tmps[(33:Nat)]?=_:=dV (hdep 9 (by simp[dL])) rfl
   exact .inl ⟨rfl,qX6 rfl y9 ⟨_,rfl,rfl,xV9 _ _⟩⟩
  ·obtain rfl:=xU ho;have y10:act.tmps[(34:Nat)]?=_:=dV (hdep 10 (by simp[dL])) rfl
   exact .inl ⟨rfl,qX6 rfl y10 ⟨_,rfl,rfl,xV9 _ _⟩⟩
 ·intro u W6 hb6 hu;have u11:u 11=.float .f64 f:=hu 11 (by show 11<13;decide)
  have HB:Hid (Bw w W6):=hBW.trans (hb6.mono hBW.size);clear hu hb6 k5 k6 m1 hBW n6 p1 p2;simp only[putL,show List.range 13 = [0,1,2,3,4,5,6,7,8,9,10,11,12] from rfl,show List.range 13 = [0,1,2,3,4,5,6,7,8,9,10,11,12] from rfl,List.length_cons,List.length_nil,List.getD_cons_zero,List.getD_cons_succ,List.map_cons,List.map_nil,List.cons_append,List.nil_append,List.foldl_cons,List.foldl_nil,Nat.reduceLT,Nat.reduceMod,Nat.reduceDiv,Nat.reduceMul,Nat.reduceAdd,Nat.reduceEqDiff,reduceIte,Nat.one_ne_zero,Act.put,List.setIfInBounds_toArray,List.set_cons_zero,List.set_cons_succ];rw[u11];clear u11
  go_wp2
  go_ret;exact⟨rfl,HB.out⟩
end Go.Proofs.YtkcmhaknalomjaaGreatDoor
namespace Go.Proofs.YtkcmhaknalomjaaGreatDoor
open Go Go.RowKit Go.Fl64
theorem zE7 (N:Nat) (d0 d1:Int) (t:Bool×Nat×Int) (w:World) (hN:N<18446744073709551616) (hd0:(N:Int) % 4294967296=d0) (hd1:(N:Int) / 4294967296=d1)
  (kK:∀ W g,Bw w W→W.heap[g]?=some (.cells #[.int .u32 d0,.int .u32 d1] 125 (0,0))→Calls Tryz.prog 151 #[.bool false,.slice (some ⟨g,0,none⟩) 2 2,.int .i64 0] W fun r w'=>zE1 W t r w') :
  Calls Tryz.prog 88 #[.int .u64 N] w fun r w'=>OutA w t r w':=by
 obtain⟨w1,hw1⟩:∃ w1,w1=w.alloc (.cells #[.bool false,.slice none 0 0,.int .i64 0] 65):=⟨_,rfl⟩;have HA:Hid (Bw w w1∧w1.heap[w.heap.size]?=some (.cells #[.bool false,.slice none 0 0,.int .i64 0] 65 (0,0))):=⟨by rw[hw1];exact(xV9 _ _).alloc (xV8 _) _,by rw[hw1];exact xG5 _ _⟩
 obtain⟨W,hW⟩:∃ W,W=w1.alloc (.cells #[.int .u32 d0,.int .u32 d1] 125):=⟨_,rfl⟩;have hbV:Bw w1 W:=by rw[hW];exact(xV9 _ _).alloc (xV8 _) _
 have HBW:Hid (Bw w W∧W.heap[w.heap.size]?=some (.cells #[.bool false,.slice none 0 0,.int .i64 0] 65 (0,0))):=⟨HA.out.1.trans (hbV.mono HA.out.1.size),qQ HA.out.2 hbV (qQ6 HA.out.2)⟩;have k1:=kK W w1.heap.size HBW.out.1 (by rw[hW];exact xG5 _ _)
 clear kK hbV
 go_enter Tryz.func88,Tryz.ntmps88
 go_upto_region 1 with fail;rw[←hw1];clear hw1
 go_wp2_with fail;rw[←hW];clear hW HA;refine k1.mono ?_;rintro r w2 ⟨s1,ao1,n1,cp1,e1,rfl,hp,hb⟩;clear k1 hd0 hd1 hN;obtain⟨V,hV⟩:∃ V,V=w2.alloc (.cells #[.bool s1,.slice ao1 n1 cp1,.int .i64 e1] 65):=⟨_,rfl⟩;have hbV:Bw w2 V:=by rw[hV];exact(xV9 _ _).alloc (xV8 _) _
 have n6:V.heap[w2.heap.size]?=some (.cells #[.bool s1,.slice ao1 n1 cp1,.int .i64 e1] 65 (0,0)):=by rw[hV];exact xG5 _ _
 go_upto_region 2 with fail;rw[←hV];clear hV;have hb':=hb.trans (hbV.mono hb.size);have hlt:w.heap.size<w2.heap.size:=xU5 (qQ6 HBW.out.2) hb.size;have hp':=hp.later hbV;clear hp hb hbV;generalize w2.heap.size=gqA at *;have H1:Hid (V.heap[w.heap.size]?=some (.cells #[.bool false,.slice none 0 0,.int .i64 0] 65 (0,0))∧PBx V gqA s1 ao1 n1 cp1 e1 t∧Bw w V):=⟨qQ HBW.out.2 hb' (qQ6 HBW.out.2),⟨n6,hp'⟩,HBW.out.1.trans (hb'.mono HBW.out.1.size)⟩;clear HBW n6 hp' hb';obtain⟨⟨c0,c1,c2⟩,-⟩:=qQ1 H1.out.2.1.1;obtain⟨⟨z0,z1,z2⟩,y0,y1,y2⟩:=qQ1 H1.out.1
 go_wp2;refine xG6 (xH9 rfl _ _ w.heap.size 65 #[.bool s1,.slice ao1 n1 cp1,.int .i64 e1] (0,0) _ rfl (zZ4 _ _ _ H1.out.1) Tryz.underlying65 rfl Tryz.info65) rfl ?_;exact⟨_,_,_,_,_,rfl,H1.out.2.1.2.set3 H1.out.1 _ _ _,qS1 H1.out.2.2 (xV8 _) _ _ _⟩
theorem zE8 {N:Nat} {w:World} (hT:Tab32 w) (hN:N<18446744073709551616):Calls Tryz.prog 88 #[.int .u64 N] w fun r w'=>OutA w (un (N:Int) 0) r w':=by
 refine zE7 N _ _ (un (N:Int) 0) w hN rfl rfl ?_;intro W g hW hg;have hcell:∀ i,i<2→W.cell? ⟨g,0+i,none⟩=some (.int .u32 (dg N i:Nat)):=by
  intro i hi;rcases(show i=0∨i=1 by omega)with rfl|rfl
  ·rw[show(dg N 0:Nat)=N % 4294967296 by unfold dg B;simp]
   simp[World.cell?,hg]
  ·rw[show(dg N 1:Nat)=N / 4294967296 by unfold dg B;rw[Nat.pow_one,xG0 (by omega)]]
   simp[World.cell?,hg]
 have hR:okR false N 0=true:=by
  have:=zV9 (Z:=(N:Int)) (p:=0) (b:=64) (by rw[xG9];omega) (by omega) (by omega)
  rwa [xG9,show decide ((N:Int)<0)=false from xU0 (by omega)] at this
 have key:Calls Tryz.prog 151 #[.bool false,.slice (some ⟨g,0,none⟩) 2 2,.int .i64 0] W fun r w'=>Mk25 W w' false N 0 r∧Bw W w':=by
  by_cases h:N=0
  ·subst h;exact c15_0 false (some ⟨g,0,none⟩) 2 2 0 W ⟨g,0,fun _=>rfl,hcell⟩ (by omega) (by omega)
  ·exact c15_1 false g 0 2 2 N 0 W hcell ((qZ0 2 N).2 (by unfold B;omega)) (by omega) (by omega) (by omega) h (by omega) (hT.later hW)
 refine key.mono ?_;rintro r w' ⟨⟨-,A,rfl,hN'⟩|⟨h,-⟩,hb⟩
 ·have hp:=hN'.pn;have e1:cn false N 0=un (N:Int) 0:=by unfold un;rw[xG9,show decide ((N:Int)<0)=false from xU0 (by omega)];rfl
  rw[e1] at hp;obtain⟨s,ao,n,cap,e,rfl⟩:=hp.shape;exact⟨s,ao,n,cap,e,rfl,hp,hb⟩
 ·rw[hR] at h;cases h
theorem zT9 (b:Nat) (L:List UInt8) (k:Nat):∀ m,dvP b L (k+m)=dvP b L k*b^m+dvP b (L.drop k) m
 | 0=>by simp[dvP]
 | m+1=>by
  show dvP b L (k+m)*b+dgB (bL L (k+m))=dvP b L k*b^(m+1)+(dvP b (L.drop k) m*b+dgB (bL (L.drop k) m))
  have e:bL (L.drop k) m=bL L (k+m):=by unfold bL;rw[List.getElem?_drop]
  rw[zT9 b L k m,e,xH2,Nat.add_mul,xH3,Nat.add_assoc]
theorem zU5 (b:Nat) (L:List UInt8) (n:Nat):∀ m,m≤n→dvP b (L.take n) m=dvP b L m
 | 0,_=>rfl
 | m+1,h=>by
  show dvP b (L.take n) m*b+dgB (bL (L.take n) m)=dvP b L m*b+dgB (bL L m)
  have e:bL (L.take n) m=bL L m:=by unfold bL;rw[List.getElem?_take_of_lt (by omega)]
  rw[zU5 b L n m (by omega),e]
theorem zK0 (L:List UInt8):(⟨L.toArray⟩:ByteArray).toList.isEmpty=L.isEmpty:=by rw[Lib.toList_data]
theorem yY3 (B:Nat) (L:List UInt8) (h e:Int) (P Qn V:Nat→Bool×Nat×Int) (Rk:Nat→Nat→Bool×Nat×Int) (w:World) (hP0:P 0=nilN) (hL:L.length≤5000)
  (k1:Hid (∀ W (pt:List UInt8) k,pt=(L.drop k).take (min 15 (L.length - k))→k<L.length→Calls Tryz.prog 135 #[.string ⟨pt.toArray⟩,.int .i64 (B:Int),.int .i64 64] W fun r w'=>r=.returned (.tuple #[.int .u64 ((dvP B pt pt.length:Nat):Int),.nilIface])∧Bw W w'))
  (k2:Hid (∀ W n,Bw w W→n≤15→Calls Tryz.prog 99 #[.int .i64 (B:Int),.int .i64 (n:Nat)] W fun r w'=>OutA W (Qn n) r w'))
  (k3:Hid (∀ W X Y k n,Bw w W→PN W X (P k)→PN W Y (Qn n)→k+n≤L.length→n≤15→Calls Tryz.prog 81 #[X,Y] W fun r w'=>OutA W (Rk k n) r w'))
  (k4:Hid (∀ W (pt:List UInt8) k,pt=(L.drop k).take (min 15 (L.length - k))→k<L.length→Bw w W→Calls Tryz.prog 88 #[.int .u64 ((dvP B pt pt.length:Nat):Int)] W fun r w'=>OutA W (V k) r w'))
  (k5:Hid (∀ W X Y k n,Bw w W→PN W X (Rk k n)→PN W Y (V k)→n=min 15 (L.length - k)→k<L.length→Calls Tryz.prog 107 #[X,Y] W fun r w'=>OutA W (P (k+n)) r w')) :
  Calls Tryz.prog 75 #[.agg #[.int .i64 (B:Int),.string ⟨L.toArray⟩,.int .i64 h,.int .i64 e]] w fun r w'=>OutA w (P L.length) r w':=by
 obtain⟨W,hW⟩:∃ W,W=(w.alloc (.cells #[.int .i64 (B:Int),.string ⟨L.toArray⟩,.int .i64 h,.int .i64 e] 45)).alloc (.cells #[.bool false,.slice none 0 0,.int .i64 0] 65):=⟨_,rfl⟩;obtain⟨z1,z2,z3,z4⟩:=qV5 _ _ hW;obtain⟨W1,hW1⟩:∃ W1,W1=W.alloc (.cells #[.bool false,.slice none 0 0,.int .i64 0] 65):=⟨_,rfl⟩;have hb1:Bw W W1:=by rw[hW1];exact(xV9 _ _).alloc (xV8 _) _
 have n6:W1.heap[W.heap.size]?=some (.cells #[.bool false,.slice none 0 0,.int .i64 0] 65 (0,0)):=by rw[hW1];exact xG5 _ _
 obtain⟨gqS,hgq⟩:∃ g,g=W.heap.size:=⟨_,rfl⟩;rw[←hgq] at n6;have H0:Hid (W1.heap[w.heap.size]?=some (.cells #[.int .i64 (B:Int),.string ⟨L.toArray⟩,.int .i64 h,.int .i64 e] 45 (0,0))∧PBx W1 gqS false none 0 0 0 (P 0)∧Bw w W1∧w.heap.size+1<gqS∧W1.heap[w.heap.size+1]?=some (.cells #[.bool false,.slice none 0 0,.int .i64 0] 65 (0,0))):=⟨qQ z1 hb1 (qQ6 z1),⟨n6,by rw[hP0];exact yN9 _⟩,z4.trans (hb1.mono z4.size),by rw[hgq];omega,qQ z2 hb1 (qQ6 z2)⟩
 obtain⟨c0,c1,c2,c3⟩:=qU4 H0.out.1;clear z1 z2 z3 z4 hb1 n6
 go_enter Tryz.func75,Tryz.ntmps75
 go_upto_region 1 with fail;rw[←hW];clear hW
 go_upto_region 2 with fail;rw[←hW1,←hgq];clear hW1 hgq
 go_wp2;clear c0 c1 c2 c3
 go_loopg [4] L.length (fun m v wr=>∃ (k:Nat) (s3:Bool) (ao3:Option Addr) (n3 cp3:Nat) (e3:Int),k+m=L.length∧v=.string ⟨(L.drop k).toArray⟩∧Hid (wr.heap[w.heap.size]?=some (.cells #[.int .i64 (B:Int),.string ⟨L.toArray⟩,.int .i64 h,.int .i64 e] 45 (0,0))∧PBx wr gqS s3 ao3 n3 cp3 e3 (P k)∧Bw w wr∧w.heap.size+1<gqS∧wr.heap[w.heap.size+1]?=some (.cells #[.bool false,.slice none 0 0,.int .i64 0] 65 (0,0))))
 case atStart=>exact⟨0,false,none,0,0,0,by omega,by rw[List.drop_zero],H0⟩
 case round =>
  obtain⟨k,s3,ao3,n3,cp3,e3,hk,rfl,HI⟩:=hrel;clear H0;obtain⟨R,hR⟩:∃ R:ByteArray,R=⟨(L.drop k).toArray⟩:=⟨_,rfl⟩;have hRe:R.toList.isEmpty=(L.drop k).isEmpty:=by rw[hR];exact zK0 _
  have hRs:R.size=L.length - k:=by rw[hR];show(L.drop k).length=_;rw[List.length_drop]
  rw[←hR];by_cases hkl:k<L.length
  ·have hRe':R.toList.isEmpty=false:=by rw[hRe];cases hq:L.drop k with|nil=>rw[List.drop_eq_nil_iff] at hq;omega|cons a t=>rfl
   obtain⟨m,hm⟩:∃ m,m=min 15 (L.length - k):=⟨_,rfl⟩;obtain⟨pt,hP⟩:∃ pt:List UInt8,pt=(L.drop k).take m:=⟨_,rfl⟩;have hPl:pt.length=m:=by rw[hP,List.length_take,List.length_drop];omega
   have hm0:0<m:=by omega
   have hmi:min (15:Int) ((R.size:Nat):Int)=(m:Int):=by rw[hRs];omega
   have hx1:R.extract 0 m=⟨pt.toArray⟩:=by rw[hR,hP];exact qY1 _ _
   have hx2:R.extract m R.size=⟨(L.drop (k+m)).toArray⟩:=by
    rw[hRs,hR];have:=qK0 (L.drop k) m
    rw[List.length_drop,List.drop_drop] at this;exact this
   have hPs:(⟨pt.toArray⟩:ByteArray).size=m:=hPl;have hle:(m:Int)≤(R.size:Int):=by rw[hRs];omega
   have HM:Hid (m=min 15 (L.length - k)∧pt=(L.drop k).take m∧pt.length=m∧k<L.length∧k+gk=L.length∧0<m∧k+m≤L.length∧m≤15∧pt=(L.drop k).take (min 15 (L.length - k))):=⟨hm,hP,hPl,hkl,hk,hm0,by omega,by omega,by rw[←hm];exact hP⟩
   obtain⟨c0,c1,c2,c3⟩:=qU4 HI.out.1;have kk:=fun W=>k1.out W pt k HM.out.2.2.2.2.2.2.2.2 hkl;rw[hPl] at kk;obtain⟨v,hv⟩:∃ v,v=dvP B pt m:=⟨_,rfl⟩;have HV:Hid (v=dvP B pt m):=hv;rw[←hv] at kk;clear hRe hkl hm hP hPl hm0 hk hv hR;generalize hRz:R.size=rz at *;clear hRs
   go_wp2_with fail;refine(kk _).mono ?_
   rintro r w1 ⟨rfl,hb1⟩;have H1:Hid (w1.heap[w.heap.size]?=some (.cells #[.int .i64 (B:Int),.string ⟨L.toArray⟩,.int .i64 h,.int .i64 e] 45 (0,0))∧PBx w1 gqS s3 ao3 n3 cp3 e3 (P k)∧Bw w w1∧w.heap.size+1<gqS∧w1.heap[w.heap.size+1]?=some (.cells #[.bool false,.slice none 0 0,.int .i64 0] 65 (0,0))):=⟨qQ HI.out.1 hb1 (qQ6 HI.out.1),HI.out.2.1.later hb1,HI.out.2.2.1.trans (hb1.mono HI.out.2.2.1.size),HI.out.2.2.2.1,qQ HI.out.2.2.2.2 hb1 (qQ6 HI.out.2.2.2.2)⟩;clear kk hb1 HI c0 c1 c2 c3 hx1 hx2 hmi hle hRe'
   go_upto_region 7 with fail;obtain⟨m1,m2,hBW,m3,m4⟩:=H1.out;refine qS5 qZ7 10 [29,30,31,32,33,34,35,36,37,38] [[],[],[1],[],[3],[2,4],[0,5],[],[7],[6,8]] w1 _ [isV (.agg #[.bool s3,.slice ao3 n3 cp3,.int .i64 e3]),isV (.pointer (some ⟨w.heap.size,0,none⟩)),isV (.int .i64 (B:Int)),isV (.string ⟨pt.toArray⟩),isV (.int .i64 (m:Nat)),isP (Qn m),isP (Rk k m),isV (.int .u64 (v:Nat)),isP (V k),isP (P (k+m))] (by kernel_rfl) ⟨qQ3 _,qQ3 _,qQ3 _,qQ3 _,qQ3 _,qZ9 _,qZ9 _,qQ3 _,qZ9 _,qZ9 _,trivial⟩ ⟨rfl,by decide,by show ∀ s ∈ [29,30,31,32,33,34,35,36,37,38],s<40;decide⟩ ?_ ?_
   ·intro j hj o ho act U hb hoth hdep;have hj':j<10:=hj;have hbU:Bw w U:=hBW.trans (hb.mono hBW.size);have t1':act.tmps[(1:Nat)]?=some (Value.pointer (some ⟨w.heap.size,0,none⟩)):=(hoth 1 (by decide)).trans rfl
    have t3':act.tmps[(3:Nat)]?=some (Value.pointer (some ⟨gqS,0,none⟩)):=(hoth 3 (by decide)).trans rfl
    have t5':act.tmps[(5:Nat)]?=some (Value.string ⟨pt.toArray⟩):=(hoth 5 (by decide)).trans rfl
    have t6':act.tmps[(6:Nat)]?=some (Value.int .u64 (v:Nat)):=(hoth 6 (by decide)).trans rfl
    have d3:=(qY7 (qQ m2.1 hb (qQ6 m2.1))).1;have d1:=qU4 (qQ m1 hb (qQ6 m1));rcases(by omega:j=0∨j=1∨j=2∨j=3∨j=4∨j=5∨j=6∨j=7∨j=8∨j=9)with rfl|rfl|rfl|rfl|rfl|rfl|rfl|rfl|rfl|rfl
    ·obtain rfl:=xU ho;exact(qY6 (f:=0) rfl t3' d3.1 d3.2.1 d3.2.2 ⟨_,rfl,rfl,xV9 _ _⟩)
    ·obtain rfl:=xU ho;exact(qX3 (w':=U) (by simp[execOp,Act.eval,t1',go_sem]) ⟨_,rfl,rfl,xV9 _ _⟩)
    ·obtain rfl:=xU ho;have y1:act.tmps[(30:Nat)]?=_:=dV (hdep 1 (by simp[dL])) rfl
     exact(qX3 (w':=U) (by simp[execOp,Act.eval,y1,go_sem,d1.1]) ⟨_,rfl,rfl,xV9 _ _⟩)
    ·obtain rfl:=xU ho;exact(qX5 rfl t5' ⟨_,rfl,rfl,xV9 _ _⟩)
    ·obtain rfl:=xU ho;have y3:act.tmps[(32:Nat)]?=_:=dV (hdep 3 (by simp[dL])) rfl
     exact(qX3 (w':=U) (by simp[execOp,Act.eval,y3,go_sem,hPs]) ⟨_,rfl,rfl,xV9 _ _⟩)
    ·obtain rfl:=xU ho;have y2:act.tmps[(31:Nat)]?=_:=dV (hdep 2 (by simp[dL])) rfl
     have y4:act.tmps[(33:Nat)]?=_:=dV (hdep 4 (by simp[dL])) rfl
     refine(qZ rfl (qZ4 Tryz.func99 (by kernel_rfl) (by kernel_rfl)) (map2 y2 y4) ?_)
     refine(k2.out U m hbU HM.out.2.2.2.2.2.2.2.1).mono ?_
     rintro r w' ⟨_,_,_,_,_,rfl,hA,hb'⟩;exact⟨_,rfl,_,rfl,hA,hb'⟩
    ·obtain rfl:=xU ho;have y0:act.tmps[(29:Nat)]?=_:=dV (hdep 0 (by simp[dL])) rfl
     obtain⟨u5,y5,v5⟩:=hdep 5 (by simp[dL])
     have y5':act.tmps[(34:Nat)]?=_:=y5;refine(qZ rfl (qZ4 Tryz.func81 (by kernel_rfl) (by kernel_rfl)) (map2 y0 y5') ?_)
     refine(k3.out U _ _ k m hbU (m2.2.later hb) v5 HM.out.2.2.2.2.2.2.1 HM.out.2.2.2.2.2.2.2.1).mono ?_
     rintro r w' ⟨_,_,_,_,_,rfl,hA,hb'⟩;exact⟨_,rfl,_,rfl,hA,hb'⟩
    ·obtain rfl:=xU ho;exact(qX5 rfl t6' ⟨_,rfl,rfl,xV9 _ _⟩)
    ·obtain rfl:=xU ho;have y7:act.tmps[(36:Nat)]?=_:=dV (hdep 7 (by simp[dL])) rfl
     refine(qZ rfl (qZ4 Tryz.func88 (by kernel_rfl) (by kernel_rfl)) (qF1 y7) ?_)
     have k9:=k4.out U pt k HM.out.2.2.2.2.2.2.2.2 HM.out.2.2.2.1 hbU;rw[HM.out.2.2.1,←HV.out] at k9;refine k9.mono ?_;rintro r w' ⟨_,_,_,_,_,rfl,hA,hb'⟩;exact⟨_,rfl,_,rfl,hA,hb'⟩
    ·obtain rfl:=xU ho;obtain⟨u6,y6,v6⟩:=hdep 6 (by simp[dL])
     have y6':act.tmps[(35:Nat)]?=_:=y6;obtain⟨u8,y8,v8⟩:=hdep 8 (by simp[dL])
     have y8':act.tmps[(37:Nat)]?=_:=y8;refine(qZ rfl (qZ4 Tryz.func107 (by kernel_rfl) (by kernel_rfl)) (map2 y6' y8') ?_)
     refine(k5.out U _ _ k m hbU v6 v8 HM.out.1 HM.out.2.2.2.1).mono ?_
     rintro r w' ⟨_,_,_,_,_,rfl,hA,hb'⟩;exact⟨_,rfl,_,rfl,hA,hb'⟩
   ·intro o ho u W5 hb5 hu;have hop:o.op=.store 65 (.tmp 3) (.tmp 38):=by rw[←xU ho];rfl
    have hds:o.dst=none:=by rw[←xU ho];rfl
    clear ho;have q9:PN W5 (u 9) (P (k+m)):=hu 9 (by decide)
    obtain⟨s5,ao5,n5,cp5,e5,h5⟩:=q9.shape;rw[h5] at q9;have H5:Hid ((W5.heap[w.heap.size]?=some (.cells #[.int .i64 (B:Int),.string ⟨L.toArray⟩,.int .i64 h,.int .i64 e] 45 (0,0))∧PBx W5 gqS s3 ao3 n3 cp3 e3 (P k)∧Bw w W5∧w.heap.size+1<gqS∧W5.heap[w.heap.size+1]?=some (.cells #[.bool false,.slice none 0 0,.int .i64 0] 65 (0,0)))∧PN W5 (.agg #[.bool s5,.slice ao5 n5 cp5,.int .i64 e5]) (P (k+m))):=⟨⟨qQ m1 hb5 (qQ6 m1),m2.later hb5,hBW.trans (hb5.mono hBW.size),m3,qQ m4 hb5 (qQ6 m4)⟩,q9⟩;clear hu hb5 m1 m2 m3 m4 hBW H1 q9;simp only[putL,show List.range 10 = [0,1,2,3,4,5,6,7,8,9] from rfl,List.length_cons,List.length_nil,List.getD_cons_zero,List.getD_cons_succ,List.map_cons,List.map_nil,List.cons_append,List.nil_append,List.foldl_cons,List.foldl_nil,Nat.reduceLT,Nat.reduceMod,Nat.reduceDiv,Nat.reduceMul,Nat.reduceAdd,Nat.reduceEqDiff,reduceIte,Nat.one_ne_zero,Act.put,List.setIfInBounds_toArray,List.set_cons_zero,List.set_cons_succ];rw[h5];clear h5;refine zS5 hop (g:=gqS) (cs:=#[.bool s5,.slice ao5 n5 cp5,.int .i64 e5]) rfl rfl H5.out.1.2.1.1 (by kernel_rfl) rfl (one3 rfl rfl) ?_
    rw[hds];simp only[Act.put];have H6:Hid ((W5.setRow gqS #[.bool s5,.slice ao5 n5 cp5,.int .i64 e5]).heap[w.heap.size]?=some (.cells #[.int .i64 (B:Int),.string ⟨L.toArray⟩,.int .i64 h,.int .i64 e] 45 (0,0))∧PBx (W5.setRow gqS #[.bool s5,.slice ao5 n5 cp5,.int .i64 e5]) gqS s5 ao5 n5 cp5 e5 (P (k+m))∧Below w.heap.size w (W5.setRow gqS #[.bool s5,.slice ao5 n5 cp5,.int .i64 e5])∧w.heap.size+1<gqS∧(W5.setRow gqS #[.bool s5,.slice ao5 n5 cp5,.int .i64 e5]).heap[w.heap.size+1]?=some (.cells #[.bool false,.slice none 0 0,.int .i64 0] 65 (0,0))):=by
     obtain⟨⟨a1,a2,a3,a4,a5⟩,a6⟩:=H5.out;have hlt:=qQ6 a2.1;exact⟨(setRow_other _ _ _ _ (by omega)).trans a1,⟨setRow_heap _ _ _ _ _ _ a2.1,PN.row3 a6 a2.1 ⟨_,_,_,_,_,rfl⟩ _⟩,qF3 a3 (by omega) _,a4,(setRow_other _ _ _ _ (by omega)).trans a5⟩
    clear H5;generalize W5.setRow gqS #[.bool s5,.slice ao5 n5 cp5,.int .i64 e5]=W6 at *
    go_wp2_with fail
    go_roundg (gk - m)
    case measure=>have:=HM.out;omega
    case rel=>exact⟨k+m,s5,ao5,n5,cp5,e5,by have:=HM.out;omega,rfl,H6⟩
  ·obtain rfl:k=L.length:=by omega
   have hRe':R.toList.isEmpty=true:=by rw[hRe,List.drop_length];rfl
   obtain⟨⟨a0,a1,a2⟩,-⟩:=qQ1 HI.out.2.1.1;obtain⟨⟨b0,b1,b2⟩,f0,f1,f2⟩:=qQ1 HI.out.2.2.2.2;clear hRe hRs hR hk hkl
   go_wp2;refine xG6 (xH9 rfl _ _ (w.heap.size+1) 65 #[.bool s3,.slice ao3 n3 cp3,.int .i64 e3] (0,0) _ rfl (zZ4 _ _ _ HI.out.2.2.2.2) Tryz.underlying65 rfl Tryz.info65) rfl ?_;exact⟨_,_,_,_,_,rfl,HI.out.2.1.2.set3 HI.out.2.2.2.2 _ _ _,qS1 HI.out.2.2.1 (by omega) _ _ _⟩
def SpO (w:World) (S M:List UInt8) (PP:Int→Int→List UInt8→Int→Int→Bool→Prop) (r:Ending) (w':World):Prop:=∃ (v b':Int) (D:List UInt8) (h x:Int) (ok:Bool),r=.returned (.tuple #[.agg #[.int .i64 b',.string ⟨D.toArray⟩,.int .i64 h,.int .i64 x],.bool ok])∧IxA S M v∧PP v b' D h x ok∧Bw w w'
theorem yI6 {a b c d:Value} (h1:a.oneCell'=true) (h2:b.oneCell'=true) (h3:c.oneCell'=true) (h4:d.oneCell'=true):(#[a,b,c,d]:Array Value).all (·.oneCell')=true:=by simp[h1,h2,h3,h4]
theorem qJ2 {w:World} {g:Nat} {a b c d:Value} {T:TypeId} (h:w.heap[g]?=some (.cells #[a,b,c,d] T (0,0))) :
  (w.cell? ⟨g,0,none⟩=some a∧w.cell? ⟨g,1,none⟩=some b∧w.cell? ⟨g,2,none⟩=some c∧w.cell? ⟨g,3,none⟩=some d)∧(w.frozen? ⟨g,0,none⟩=false∧w.frozen? ⟨g,1,none⟩=false∧w.frozen? ⟨g,2,none⟩=false∧w.frozen? ⟨g,3,none⟩=false):=by
 simp[World.cell?,World.frozen?,h]
theorem yV5 {w:World} {g:Nat} {a b c d:Value} {T:TypeId} (h:w.heap[g]?=some (.cells #[a,b,c,d] T (0,0))) (v:Value):(w.setCell ⟨g,0,none⟩ v).heap[g]?=some (.cells #[v,b,c,d] T (0,0)):=by
 simp[World.setCell,Array.getElem?_modify,h]
theorem yV4 {w:World} {g:Nat} {a b c d:Value} {T:TypeId} (h:w.heap[g]?=some (.cells #[a,b,c,d] T (0,0))) (v:Value):(w.setCell ⟨g,1,none⟩ v).heap[g]?=some (.cells #[a,v,c,d] T (0,0)):=by
 simp[World.setCell,Array.getElem?_modify,h]
theorem yV3 {w:World} {g:Nat} {a b c d:Value} {T:TypeId} (h:w.heap[g]?=some (.cells #[a,b,c,d] T (0,0))) (v:Value):(w.setCell ⟨g,2,none⟩ v).heap[g]?=some (.cells #[a,b,v,d] T (0,0)):=by
 simp[World.setCell,Array.getElem?_modify,h]
theorem yV2 {w:World} {g:Nat} {a b c d:Value} {T:TypeId} (h:w.heap[g]?=some (.cells #[a,b,c,d] T (0,0))) (v:Value):(w.setCell ⟨g,3,none⟩ v).heap[g]?=some (.cells #[a,b,c,v] T (0,0)):=by
 simp[World.setCell,Array.getElem?_modify,h]
theorem zI3 {w:World} {g:Nat} {a b c d:Value} {T:TypeId} (h:w.heap[g]?=some (.cells #[a,b,c,d] T (0,0))) (x y z u:Value):((((w.setCell ⟨g,0,none⟩ x).setCell ⟨g,1,none⟩ y).setCell ⟨g,2,none⟩ z).setCell ⟨g,3,none⟩ u).heap[g]?=some (.cells #[x,y,z,u] T (0,0)):=yV2 (yV3 (yV4 (yV5 h _) _) _) _
theorem yY9 (L S:List UInt8) (p1 p2 hex:Bool) (b:Int) (c0 c1:UInt8) (PP:Int→Int→List UInt8→Int→Int→Bool→Prop) (xE:List UInt8→Int) (oE:List UInt8→Bool) (cA cB:List UInt8→List UInt8) (dG:List UInt8→Bool) (w:World) (hL:L.length≤1048576)
  (hhex:Hid (hex=(p1||p2))) (hS:Hid (S=if hex then L.drop 2 else L)) (hb:Hid (b=if hex then 16 else 10)) (hc0:Hid (c0=if hex then 112 else 101)) (hc1:Hid (c1=if hex then 80 else 69)) (hp:Hid (hex=true→2≤L.length))
  (k1:∀ W,Calls Tryz.prog 70 #[.string ⟨L.toArray⟩,.string ⟨#[48,120]⟩] W fun r w'=>r=.returned (.bool p1)∧w'=W)
  (k2:∀ W,Calls Tryz.prog 70 #[.string ⟨L.toArray⟩,.string ⟨#[48,88]⟩] W fun r w'=>r=.returned (.bool p2)∧w'=W)
  (k3:Hid (∀ W,Calls Tryz.prog 71 #[.string ⟨S.toArray⟩,.string ⟨#[c0,c1]⟩] W fun r w'=>∃ v:Int,r=.returned (.int .i64 v)∧IxA S [c0,c1] v∧Bw W w'))
  (k4:Hid (∀ W i,i<S.length→Calls Tryz.prog 72 #[.string ⟨(S.drop (i+1)).toArray⟩] W fun r w'=>r=.returned (.tuple #[.int .i64 (xE (S.drop (i+1))),.bool (oE (S.drop (i+1)))])∧Bw W w'))
  (k5:Hid (∀ W (D:List UInt8),D.length≤1048576→Calls Tryz.prog 73 #[.string ⟨D.toArray⟩,.string ⟨#[46]⟩] W fun r w'=>∃ bb,r=.returned (.tuple #[.string ⟨(cA D).toArray⟩,.string ⟨(cB D).toArray⟩,.bool bb])∧Bw W w')) (hcutL:Hid (∀ D,(cA D).length+(cB D).length≤D.length))
  (k6:Hid (∀ W (D:List UInt8),D.length≤1048576→Calls Tryz.prog 74 #[.string ⟨D.toArray⟩,.int .i64 b] W fun r w'=>r=.returned (.bool (dG D))∧w'=W))
  (hP1:Hid (∀ i,i<S.length→PP (i:Int) b (cA (S.take i)++cB (S.take i)) (cB (S.take i)).length (xE (S.drop (i+1))) (oE (S.drop (i+1))&&dG (cA (S.take i)++cB (S.take i)))))
  (hP2:Hid (hex=true→PP (-1) 0 [] 0 0 false)) (hP3:Hid (hex=false→PP (-1) b (cA S++cB S) (cB S).length 0 (dG (cA S++cB S)))) :
  Calls Tryz.prog 27 #[.string ⟨L.toArray⟩] w fun r w'=>SpO w S [c0,c1] PP r w':=by
 obtain⟨W,hW⟩:∃ W,W=(w.alloc (.cells #[.int .i64 0,.string ⟨#[]⟩,.int .i64 0,.int .i64 0] 45)).alloc (.cells #[.int .i64 10,.string ⟨#[]⟩,.int .i64 0,.int .i64 0] 45):=⟨_,rfl⟩;obtain⟨z1,z2,z3,z4⟩:=qV5 _ _ hW;have H0:Hid (W.heap[w.heap.size]?=some (.cells #[.int .i64 0,.string ⟨#[]⟩,.int .i64 0,.int .i64 0] 45 (0,0))∧W.heap[w.heap.size+1]?=some (.cells #[.int .i64 10,.string ⟨#[]⟩,.int .i64 0,.int .i64 0] 45 (0,0))∧Bw w W):=⟨z1,z2,z4⟩;clear z1 z2 z3 z4;have hsz:(⟨L.toArray⟩:ByteArray).size=L.length:=rfl
 go_enter Tryz.func27,Tryz.ntmps27
 go_upto_region 2 with fail;rw[←hW];clear hW
 go_cut [17] from 12 to 16 (fun v wx=>v=.bool hex∧wx=W)
 case first =>
  have hh:=hhex.out;cases p1
  ·have hh':hex=p2:=hh
   go_wp2_with (first|(go_at_call 70;first|(with_reducible refine(k1 _).mono ?_;rintro r w' ⟨rfl,hw⟩;replace hw:=hw.symm;subst hw)|(with_reducible refine(k2 _).mono ?_;rintro r w' ⟨rfl,hw⟩;replace hw:=hw.symm;subst hw)))
   go_meet
   exact⟨by rw[hh'],rfl⟩
  ·have hh':hex=true:=hh
   go_wp2_with (first|(go_at_call 70;(with_reducible refine(k1 _).mono ?_;rintro r w' ⟨rfl,hw⟩;replace hw:=hw.symm;subst hw)))
   go_meet
   exact⟨by rw[hh'],rfl⟩
 case rest =>
 obtain⟨rfl,hw⟩:=hcut;replace hw:=hw.symm;subst hw;clear k1 k2 hhex
 go_upto_if 17 with fail
 go_cut [0,5] from 18 to 20 (fun v0 v5 wx=>v0=.string ⟨S.toArray⟩∧v5=.string ⟨#[c0,c1]⟩∧Hid (wx.heap[w.heap.size]?=some (.cells #[.int .i64 0,.string ⟨#[]⟩,.int .i64 0,.int .i64 0] 45 (0,0))∧wx.heap[w.heap.size+1]?=some (.cells #[.int .i64 b,.string ⟨#[]⟩,.int .i64 0,.int .i64 0] 45 (0,0))∧Bw w wx))
 case first =>
  cases hex
  ·obtain rfl:S=L:=hS.out;obtain rfl:b=10:=hb.out;obtain rfl:c0=101:=hc0.out;obtain rfl:c1=69:=hc1.out
   go_wp2
   go_meet
   exact⟨rfl,rfl,H0⟩
  ·obtain rfl:S=L.drop 2:=hS.out;obtain rfl:b=16:=hb.out;obtain rfl:c0=112:=hc0.out;obtain rfl:c1=80:=hc1.out;have hl2:(2:Int)≤(L.length:Int):=by have:=hp.out rfl;omega
   have ed:=qK0 L 2;obtain⟨⟨e0,e1,e2,e3⟩,q0,q1,q2,q3⟩:=qJ2 H0.out.2.1;clear k3 hL
   go_upto_region 3 with fail
   go_region
   all_goals go_wp2
   go_meet
   have a:=H0.out;exact⟨rfl,rfl,⟨(qY5 _ _ _ _ _ (by omega)).trans a.1,yV5 a.2.1 _,((a.2.2.setCell (by show w.heap.size≤w.heap.size+1;omega) _)).drew⟩⟩
 case rest =>
 obtain⟨rfl,rfl,H1⟩:=hcut;clear H0 hsz hc0 hc1;have kk:=k3.out;clear k3
 go_wp2_with fail;refine(kk _).mono ?_
 rintro r w2 ⟨v,rfl,hv,hb2⟩;have H2:Hid ((w2.heap[w.heap.size]?=some (.cells #[.int .i64 0,.string ⟨#[]⟩,.int .i64 0,.int .i64 0] 45 (0,0))∧w2.heap[w.heap.size+1]?=some (.cells #[.int .i64 b,.string ⟨#[]⟩,.int .i64 0,.int .i64 0] 45 (0,0))∧Bw w w2)∧IxA S [c0,c1] v):=⟨⟨qQ H1.out.1 hb2 (qQ6 H1.out.1),qQ H1.out.2.1 hb2 (qQ6 H1.out.2.1),H1.out.2.2.trans (hb2.mono H1.out.2.2.size)⟩,hv⟩;have HV:Hid (v = -1∨∃ i,i<S.length∧v=(i:Int)):=(hv.2.elim .inl fun⟨i,a,b',_⟩=>.inr ⟨i,a,b'⟩:v = -1∨∃ i,i<S.length∧v=(i:Int));clear kk hb2 H1 hv;have hSL:S.length≤1048576:=by rw[hS.out];split <;> (try rw[List.length_drop]) <;> omega
 have hszS:(⟨S.toArray⟩:ByteArray).size=S.length:=rfl
 go_upto_region 6 with fail
 go_upto_if 25 with fail
 go_cut [0,6] from 26 to 41 (fun v0 v6 wx=>∃ (D:List UInt8) (x:Int) (o:Bool),v0=.string ⟨D.toArray⟩∧v6=.bool o∧D.length≤1048576∧Hid (((wx.heap[w.heap.size]?=some (.cells #[.int .i64 0,.string ⟨#[]⟩,.int .i64 0,.int .i64 0] 45 (0,0))∧wx.heap[w.heap.size+1]?=some (.cells #[.int .i64 b,.string ⟨#[]⟩,.int .i64 0,.int .i64 x] 45 (0,0))∧Bw w wx)∧IxA S [c0,c1] v)∧PP v b (cA D++cB D) (cB D).length x (o&&dG (cA D++cB D))))
 case first =>
  rcases HV.out with rfl|⟨i,hi,rfl⟩
  ·obtain⟨⟨e0,e1,e2,e3⟩,-⟩:=qJ2 H2.out.1.2.1;obtain⟨⟨z0,z1,z2,z3⟩,y0,y1,y2,y3⟩:=qJ2 H2.out.1.1;cases hex
   ·have H3:=hP3.out rfl;obtain rfl:b=10:=hb.out;clear hP1 hP2 hP3 k4 k5 k6;have HH3:Hid _:=H3;clear H3
    go_wp2
    go_meet
    exact⟨S,0,true,rfl,rfl,hSL,⟨H2.out,by rw[Bool.true_and];exact HH3.out⟩⟩
   ·have HH3:Hid _:=hP2.out rfl;obtain rfl:b=16:=hb.out;clear hP1 hP2 hP3 k4 k5 k6
    go_wp2;have a:=H2.out;refine xG6 (qQ5 rfl _ _ w.heap.size 45 #[.int .i64 0,.string ⟨#[]⟩,.int .i64 0,.int .i64 0] (0,0) _ rfl (zI3 a.1.1 _ _ _ _) Tryz.underlying45 rfl (by kernel_rfl)) rfl ?_
    exact⟨-1,0,[],0,0,false,rfl,a.2,HH3.out,(((a.1.2.2.setCell (xV8 _) _).setCell (xV8 _) _).setCell (xV8 _) _).setCell (xV8 _) _⟩
  ·obtain⟨⟨e0,e1,e2,e3⟩,f0,f1,f2,f3⟩:=qJ2 H2.out.1.2.1;have hge:(0:Int)≤(i:Int):=by omega
   have hw1:IntKind.i64.wrap ((i:Int)+1)=(i:Int)+1:=by rw[xG3];omega
   have hle1:(i:Int)+1≤(S.length:Int):=by omega
   have hle2:(i:Int)≤(S.length:Int):=by omega
   have et:=qY1 S i;have ed:=qK0 S (i+1);have kk:=k4.out w2 i hi;have HH3:Hid _:=hP1.out i hi;have HI:Hid (i<S.length):=hi;clear hP1 hP2 hP3 k4 k5 k6 hi HV;generalize xE (S.drop (i+1))=x at *;generalize oE (S.drop (i+1))=o at *
   go_wp2_with fail;refine kk.mono ?_;rintro r w3 ⟨rfl,hb3⟩;have H3:Hid ((w3.heap[w.heap.size]?=some (.cells #[.int .i64 0,.string ⟨#[]⟩,.int .i64 0,.int .i64 0] 45 (0,0))∧w3.heap[w.heap.size+1]?=some (.cells #[.int .i64 b,.string ⟨#[]⟩,.int .i64 0,.int .i64 0] 45 (0,0))∧Bw w w3)∧IxA S [c0,c1] (i:Int)):=⟨⟨qQ H2.out.1.1 hb3 (qQ6 H2.out.1.1),qQ H2.out.1.2.1 hb3 (qQ6 H2.out.1.2.1),H2.out.1.2.2.trans (hb3.mono H2.out.1.2.2.size)⟩,H2.out.2⟩;clear kk hb3 H2 e0 e1 e2 e3 f0 f1 f2 f3;obtain⟨⟨e0,e1,e2,e3⟩,f0,f1,f2,f3⟩:=qJ2 H3.out.1.2.1
   go_wp2
   go_meet
   have a:=H3.out;exact⟨S.take i,x,o,rfl,rfl,by rw[List.length_take];omega,⟨⟨⟨(qY5 _ _ _ _ _ (by omega)).trans a.1.1,yV2 a.1.2.1 _,a.1.2.2.setCell (by show w.heap.size≤w.heap.size+1;omega) _⟩,a.2⟩,HH3.out⟩⟩
 case rest =>
 obtain⟨D,x,o,rfl,rfl,hDL,H3⟩:=hcut;have kk:=k5.out;clear H2 hP1 hP2 hP3 k4 k5 HV hszS hSL
 go_wp2_with fail;refine(kk _ D hDL).mono ?_
 rintro r w4 ⟨bb,rfl,hb4⟩;have H4:Hid (((w4.heap[w.heap.size]?=some (.cells #[.int .i64 0,.string ⟨#[]⟩,.int .i64 0,.int .i64 0] 45 (0,0))∧w4.heap[w.heap.size+1]?=some (.cells #[.int .i64 b,.string ⟨#[]⟩,.int .i64 0,.int .i64 x] 45 (0,0))∧Bw w w4)∧IxA S [c0,c1] v)∧PP v b (cA D++cB D) (cB D).length x (o&&dG (cA D++cB D))):=⟨⟨⟨qQ H3.out.1.1.1 hb4 (qQ6 H3.out.1.1.1),qQ H3.out.1.1.2.1 hb4 (qQ6 H3.out.1.1.2.1),H3.out.1.1.2.2.trans (hb4.mono H3.out.1.1.2.2.size)⟩,H3.out.1.2⟩,H3.out.2⟩;clear kk hb4 H3;obtain⟨dd,hdd⟩:∃ dd,dd=cA D++cB D:=⟨_,rfl⟩;obtain⟨hh,hhh⟩:∃ hh,hh=(cB D).length:=⟨_,rfl⟩;have hcc:=hcutL.out D;have hc1':(⟨(cA D).toArray⟩:ByteArray).size+(⟨(cB D).toArray⟩:ByteArray).size≤9223372036854775807:=by rw[bsz,bsz];omega
 have hc2':(⟨(cA D).toArray⟩:ByteArray)++⟨(cB D).toArray⟩=⟨dd.toArray⟩:=by rw[qQ8,hdd]
 have hc3':(⟨(cB D).toArray⟩:ByteArray).size=hh:=by rw[hhh];rfl
 have hddL:dd.length≤1048576:=by rw[hdd,xH7];omega
 have kD:=fun W=>k6.out W dd hddL;have H4':Hid (((w4.heap[w.heap.size]?=some (.cells #[.int .i64 0,.string ⟨#[]⟩,.int .i64 0,.int .i64 0] 45 (0,0))∧w4.heap[w.heap.size+1]?=some (.cells #[.int .i64 b,.string ⟨#[]⟩,.int .i64 0,.int .i64 x] 45 (0,0))∧Bw w w4)∧IxA S [c0,c1] v)∧PP v b dd (hh:Nat) x (o&&dG dd)):=by rw[hdd,hhh];exact H4
 clear k6 H4 hcc hdd hhh hcutL;generalize dG dd=gd at *;generalize hA9:cA D=A9 at *;generalize hB9:cB D=B9 at *;obtain⟨⟨e0,e1,e2,e3⟩,f0,f1,f2,f3⟩:=qJ2 H4'.out.1.1.2.1;obtain⟨W5,hW5⟩:∃ W5,W5=(w4.setCell ⟨w.heap.size+1,1,none⟩ (.string ⟨dd.toArray⟩)).setCell ⟨w.heap.size+1,2,none⟩ (.int .i64 (hh:Nat)):=⟨_,rfl⟩;have H5:Hid (((W5.heap[w.heap.size]?=some (.cells #[.int .i64 0,.string ⟨#[]⟩,.int .i64 0,.int .i64 0] 45 (0,0))∧W5.heap[w.heap.size+1]?=some (.cells #[.int .i64 b,.string ⟨dd.toArray⟩,.int .i64 (hh:Nat),.int .i64 x] 45 (0,0))∧Bw w W5)∧IxA S [c0,c1] v)∧PP v b dd (hh:Nat) x (o&&gd)):=(by
  have a:=H4'.out;rw[hW5];exact⟨⟨⟨(qY5 _ _ _ _ _ (by omega)).trans ((qY5 _ _ _ _ _ (by omega)).trans a.1.1.1),yV3 (yV4 a.1.1.2.1 _) _,(a.1.1.2.2.setCell (by show w.heap.size≤w.heap.size+1;omega) _).setCell (by show w.heap.size≤w.heap.size+1;omega) _⟩,a.1.2⟩,a.2⟩:_∧_)
 clear H4'
 go_upto_region 13 with fail;rw[←hW5];clear hW5 hc1' hc2' hc3' e0 e1 e2 e3 f0 f1 f2 f3;obtain⟨⟨⟨m0,m1,hBW⟩,hIx⟩,hPP⟩:=H5.out;cases o
 ·refine qU8 qZ7 [0,1,2,3,4,5,6,7,8,10] [9] [55,56,57,58,59,60,61,62,63,3] [[],[],[1],[2],[3,2],[2],[5,2],[4,6,2],[2,7],[8]] [[0]] [0] (fun _=>2) (fun _=>w.heap.size) w.heap.size 45 (fun _=>True) 4 W5 _ [isV (.agg #[.int .i64 b,.string ⟨dd.toArray⟩,.int .i64 (hh:Nat),.int .i64 x]),isV (.bool false),isV (.bool false),isV (undef),isV (undef),isV (undef),isV (undef),isV (undef),isV (.bool false),isV (.bool false)] (by kernel_rfl) ⟨qQ3 _,qQ3 _,qQ3 _,qQ3 _,qQ3 _,qQ3 _,qQ3 _,qQ3 _,qQ3 _,qQ3 _,trivial⟩ ⟨fun _ _ _ _ _ _ _ h=>h,fun _ _ _ _ _ _ _ h=>h,fun _ _ _ _ _ _ _ h=>h,fun _ _ _ _ _ _ _ h=>h,fun _ _ _ _ _ _ _ h=>h,fun _ _ _ _ _ _ _ h=>h,fun _ _ _ _ _ _ _ h=>h,fun _ _ _ _ _ _ _ h=>h,fun _ _ _ _ _ _ _ h=>h,fun _ _ _ _ _ _ _ h=>h,trivial⟩ (by show ∀ s ∈ [55,56,57,58,59,60,61,62,63,3],s<64;decide) ?_ ?_ (by kernel_rfl) ?_ ?_ ?_ (fun k k' h h' _=>by have h1:k<1:=h;have h2:k'<1:=h';omega) hBW.size ?_
  ·intro i hi V u h;obtain rfl:i=0:=Nat.lt_one_iff.1 hi;obtain rfl:u=_:=h;exact⟨_,rfl,rfl,trivial,yI6 rfl rfl rfl rfl⟩
  ·intro j hj o ho act V hK hoth hdep hrd;have hj':j<10:=hj;have hbx:V.heap[w.heap.size+1]?=_:=(hK.keep (w.heap.size+1) (qQ6 m1) (fun k _=>by omega)).trans m1
   obtain⟨⟨c0',c1',c2',c3'⟩,-⟩:=qJ2 hbx;have t4':act.tmps[(4:Nat)]?=some (Value.pointer (some ⟨w.heap.size+1,0,none⟩)):=(hoth 4 (by decide)).trans rfl
   have t6':act.tmps[(6:Nat)]?=some (Value.bool false):=(hoth 6 (by decide)).trans rfl
   rcases(by omega:j=0∨j=1∨j=2∨j=3∨j=4∨j=5∨j=6∨j=7∨j=8∨j=9)with rfl|rfl|rfl|rfl|rfl|rfl|rfl|rfl|rfl|rfl
   ·obtain rfl:=xU ho;exact .inl ⟨rfl,(qX3 (w':=V) (by simp[execOp,Act.eval,t4',c0',c1',c2',c3',go_sem]) ⟨_,rfl,rfl,xV9 _ _⟩)⟩
   ·obtain rfl:=xU ho;exact .inl ⟨rfl,qX5 rfl t6' ⟨_,rfl,rfl,xV9 _ _⟩⟩
   ·obtain rfl:=xU ho;have y1:act.tmps[(56:Nat)]?=_:=dV (hdep 1 (by simp[dL])) rfl
    exact .inl ⟨rfl,qX5 rfl y1 ⟨_,rfl,rfl,xV9 _ _⟩⟩
   ·obtain rfl:=xU ho;have y2:act.tmps[(57:Nat)]?=_:=dV (hdep 2 (by simp[dL])) rfl
    exact .inr (qH3 rfl rfl rfl rfl y2 (by decide) ⟨_,rfl,rfl,xV9 _ _⟩)
   ·obtain rfl:=xU ho;have y2:act.tmps[(57:Nat)]?=_:=dV (hdep 2 (by simp[dL])) rfl
    exact .inr (qH3 rfl rfl rfl rfl y2 (by decide) ⟨_,rfl,rfl,xV9 _ _⟩)
   ·obtain rfl:=xU ho;have y2:act.tmps[(57:Nat)]?=_:=dV (hdep 2 (by simp[dL])) rfl
    exact .inr (qH3 rfl rfl rfl rfl y2 (by decide) ⟨_,rfl,rfl,xV9 _ _⟩)
   ·obtain rfl:=xU ho;have y2:act.tmps[(57:Nat)]?=_:=dV (hdep 2 (by simp[dL])) rfl
    exact .inr (qH3 rfl rfl rfl rfl y2 (by decide) ⟨_,rfl,rfl,xV9 _ _⟩)
   ·obtain rfl:=xU ho;have y2:act.tmps[(57:Nat)]?=_:=dV (hdep 2 (by simp[dL])) rfl
    exact .inr (qH3 rfl rfl rfl rfl y2 (by decide) ⟨_,rfl,rfl,xV9 _ _⟩)
   ·obtain rfl:=xU ho;have y2:act.tmps[(57:Nat)]?=_:=dV (hdep 2 (by simp[dL])) rfl
    have y7:act.tmps[(62:Nat)]?=_:=dV (hdep 7 (by simp[dL])) rfl
    exact .inl ⟨rfl,(qX3 (w':=V) (by simp[execOp,Act.eval,y2,y7,go_sem]) ⟨_,rfl,rfl,xV9 _ _⟩)⟩
   ·obtain rfl:=xU ho;have y8:act.tmps[(63:Nat)]?=_:=dV (hdep 8 (by simp[dL])) rfl
    exact .inl ⟨rfl,qX6 rfl y8 ⟨_,rfl,rfl,xV9 _ _⟩⟩
  ·intro k hk;obtain rfl:k=0:=Nat.lt_one_iff.1 hk;exact⟨_,rfl,rfl⟩
  ·intro k hk;exact⟨rfl,by decide⟩
  ·intro k hk;exact⟨xV8 _,_,m0,rfl,trivial⟩
  ·intro u V hK hu hcs;obtain⟨cs,y0,z0⟩:=hcs 0 (by decide)
   have u0:u 0=.agg #[.int .i64 b,.string ⟨dd.toArray⟩,.int .i64 (hh:Nat),.int .i64 x]:=hu 0 (by decide)
   have u9:u 9=.bool false:=hu 9 (by decide)
   have y0':u 0=.agg cs:=y0;rw[u0] at y0';obtain rfl:=Value.agg.inj y0';have HZ:Hid (V.heap[w.heap.size]?=some (.cells #[.int .i64 b,.string ⟨dd.toArray⟩,.int .i64 (hh:Nat),.int .i64 x] 45 (0,0))∧Bw w V):=⟨z0,hBW.trans hK.below⟩;clear hcs hK y0 y0' z0 hu;simp only[putL,show List.range 10 = [0,1,2,3,4,5,6,7,8,9] from rfl,List.length_cons,List.length_nil,List.getD_cons_zero,List.getD_cons_succ,List.map_cons,List.map_nil,List.cons_append,List.nil_append,List.foldl_cons,List.foldl_nil,Nat.reduceLT,Nat.reduceMod,Nat.reduceDiv,Nat.reduceMul,Nat.reduceAdd,Nat.reduceEqDiff,reduceIte,Nat.one_ne_zero,Act.put,List.setIfInBounds_toArray,List.set_cons_zero,List.set_cons_succ];rw[u9];clear u9 u0
   go_wp2;refine xG6 (qQ5 rfl _ _ w.heap.size 45 #[.int .i64 b,.string ⟨dd.toArray⟩,.int .i64 (hh:Nat),.int .i64 x] (0,0) _ rfl HZ.out.1 Tryz.underlying45 rfl (by kernel_rfl)) rfl ?_
   exact⟨v,b,dd,hh,x,false,rfl,hIx,hPP,HZ.out.2⟩
 ·refine qU8 qZ7 [0,1,2,3,4,5,6,7,8,10] [9] [55,56,57,58,59,60,61,62,63,3] [[],[],[1],[2],[3,2],[2],[5,2],[4,6,2],[2,7],[8]] [[0]] [0] (fun _=>2) (fun _=>w.heap.size) w.heap.size 45 (fun _=>True) 4 W5 _ [isV (.agg #[.int .i64 b,.string ⟨dd.toArray⟩,.int .i64 (hh:Nat),.int .i64 x]),isV (.bool true),isV (.bool true),isV (.pointer (some ⟨w.heap.size+1,1,none⟩)),isV (.string ⟨dd.toArray⟩),isV (.pointer (some ⟨w.heap.size+1,0,none⟩)),isV (.int .i64 b),isV (.bool gd),isV (.bool gd),isV (.bool gd)] (by kernel_rfl) ⟨qQ3 _,qQ3 _,qQ3 _,qQ3 _,qQ3 _,qQ3 _,qQ3 _,qQ3 _,qQ3 _,qQ3 _,trivial⟩ ⟨fun _ _ _ _ _ _ _ h=>h,fun _ _ _ _ _ _ _ h=>h,fun _ _ _ _ _ _ _ h=>h,fun _ _ _ _ _ _ _ h=>h,fun _ _ _ _ _ _ _ h=>h,fun _ _ _ _ _ _ _ h=>h,fun _ _ _ _ _ _ _ h=>h,fun _ _ _ _ _ _ _ h=>h,fun _ _ _ _ _ _ _ h=>h,fun _ _ _ _ _ _ _ h=>h,trivial⟩ (by show ∀ s ∈ [55,56,57,58,59,60,61,62,63,3],s<64;decide) ?_ ?_ (by kernel_rfl) ?_ ?_ ?_ (fun k k' h h' _=>by have h1:k<1:=h;have h2:k'<1:=h';omega) hBW.size ?_
  ·intro i hi V u h;obtain rfl:i=0:=Nat.lt_one_iff.1 hi;obtain rfl:u=_:=h;exact⟨_,rfl,rfl,trivial,yI6 rfl rfl rfl rfl⟩
  ·intro j hj o ho act V hK hoth hdep hrd;have hj':j<10:=hj;have hbx:V.heap[w.heap.size+1]?=_:=(hK.keep (w.heap.size+1) (qQ6 m1) (fun k _=>by omega)).trans m1
   obtain⟨⟨c0',c1',c2',c3'⟩,-⟩:=qJ2 hbx;have t4':act.tmps[(4:Nat)]?=some (Value.pointer (some ⟨w.heap.size+1,0,none⟩)):=(hoth 4 (by decide)).trans rfl
   have t6':act.tmps[(6:Nat)]?=some (Value.bool true):=(hoth 6 (by decide)).trans rfl
   rcases(by omega:j=0∨j=1∨j=2∨j=3∨j=4∨j=5∨j=6∨j=7∨j=8∨j=9)with rfl|rfl|rfl|rfl|rfl|rfl|rfl|rfl|rfl|rfl
   ·obtain rfl:=xU ho;exact .inl ⟨rfl,(qX3 (w':=V) (by simp[execOp,Act.eval,t4',c0',c1',c2',c3',go_sem]) ⟨_,rfl,rfl,xV9 _ _⟩)⟩
   ·obtain rfl:=xU ho;exact .inl ⟨rfl,qX5 rfl t6' ⟨_,rfl,rfl,xV9 _ _⟩⟩
   ·obtain rfl:=xU ho;have y1:act.tmps[(56:Nat)]?=_:=dV (hdep 1 (by simp[dL])) rfl
    exact .inl ⟨rfl,qX5 rfl y1 ⟨_,rfl,rfl,xV9 _ _⟩⟩
   ·obtain rfl:=xU ho;have y2:act.tmps[(57:Nat)]?=_:=dV (hdep 2 (by simp[dL])) rfl
    exact .inr (qH2 rfl rfl rfl rfl y2 (qX3 (w':=V) (by simp[execOp,Act.eval,t4',go_sem]) ⟨_,rfl,rfl,xV9 _ _⟩))
   ·obtain rfl:=xU ho;have y2:act.tmps[(57:Nat)]?=_:=dV (hdep 2 (by simp[dL])) rfl
    have y3:act.tmps[(58:Nat)]?=_:=dV (hdep 3 (by simp[dL])) rfl
    exact .inr (qH2 rfl rfl rfl rfl y2 (qX3 (w':=V) (by simp[execOp,Act.eval,y3,c1',go_sem]) ⟨_,rfl,rfl,xV9 _ _⟩))
   ·obtain rfl:=xU ho;have y2:act.tmps[(57:Nat)]?=_:=dV (hdep 2 (by simp[dL])) rfl
    exact .inr (qH2 rfl rfl rfl rfl y2 (qX3 (w':=V) (by simp[execOp,Act.eval,t4',go_sem]) ⟨_,rfl,rfl,xV9 _ _⟩))
   ·obtain rfl:=xU ho;have y2:act.tmps[(57:Nat)]?=_:=dV (hdep 2 (by simp[dL])) rfl
    have y5:act.tmps[(60:Nat)]?=_:=dV (hdep 5 (by simp[dL])) rfl
    exact .inr (qH2 rfl rfl rfl rfl y2 (qX3 (w':=V) (by simp[execOp,Act.eval,y5,c0',go_sem]) ⟨_,rfl,rfl,xV9 _ _⟩))
   ·obtain rfl:=xU ho;have y2:act.tmps[(57:Nat)]?=_:=dV (hdep 2 (by simp[dL])) rfl
    have y4:act.tmps[(59:Nat)]?=_:=dV (hdep 4 (by simp[dL])) rfl
    have y6:act.tmps[(61:Nat)]?=_:=dV (hdep 6 (by simp[dL])) rfl
    refine .inr (qH2 rfl rfl rfl rfl y2 (qZ rfl (qZ4 Tryz.func74 (by kernel_rfl) (by kernel_rfl)) (map2 y4 y6) ?_))
    refine(kD V).mono ?_
    rintro r w' ⟨rfl,rfl⟩;exact⟨_,rfl,_,rfl,rfl,xV9 _ _⟩
   ·obtain rfl:=xU ho;have y2:act.tmps[(57:Nat)]?=_:=dV (hdep 2 (by simp[dL])) rfl
    have y7:act.tmps[(62:Nat)]?=_:=dV (hdep 7 (by simp[dL])) rfl
    exact .inl ⟨rfl,(qX3 (w':=V) (by simp[execOp,Act.eval,y2,y7,go_sem]) ⟨_,rfl,rfl,xV9 _ _⟩)⟩
   ·obtain rfl:=xU ho;have y8:act.tmps[(63:Nat)]?=_:=dV (hdep 8 (by simp[dL])) rfl
    exact .inl ⟨rfl,qX6 rfl y8 ⟨_,rfl,rfl,xV9 _ _⟩⟩
  ·intro k hk;obtain rfl:k=0:=Nat.lt_one_iff.1 hk;exact⟨_,rfl,rfl⟩
  ·intro k hk;exact⟨rfl,by decide⟩
  ·intro k hk;exact⟨xV8 _,_,m0,rfl,trivial⟩
  ·intro u V hK hu hcs;obtain⟨cs,y0,z0⟩:=hcs 0 (by decide)
   have u0:u 0=.agg #[.int .i64 b,.string ⟨dd.toArray⟩,.int .i64 (hh:Nat),.int .i64 x]:=hu 0 (by decide)
   have u9:u 9=.bool gd:=hu 9 (by decide)
   have y0':u 0=.agg cs:=y0;rw[u0] at y0';obtain rfl:=Value.agg.inj y0';have HZ:Hid (V.heap[w.heap.size]?=some (.cells #[.int .i64 b,.string ⟨dd.toArray⟩,.int .i64 (hh:Nat),.int .i64 x] 45 (0,0))∧Bw w V):=⟨z0,hBW.trans hK.below⟩;clear hcs hK y0 y0' z0 hu;simp only[putL,show List.range 10 = [0,1,2,3,4,5,6,7,8,9] from rfl,List.length_cons,List.length_nil,List.getD_cons_zero,List.getD_cons_succ,List.map_cons,List.map_nil,List.cons_append,List.nil_append,List.foldl_cons,List.foldl_nil,Nat.reduceLT,Nat.reduceMod,Nat.reduceDiv,Nat.reduceMul,Nat.reduceAdd,Nat.reduceEqDiff,reduceIte,Nat.one_ne_zero,Act.put,List.setIfInBounds_toArray,List.set_cons_zero,List.set_cons_succ];rw[u9];clear u9 u0
   go_wp2;refine xG6 (qQ5 rfl _ _ w.heap.size 45 #[.int .i64 b,.string ⟨dd.toArray⟩,.int .i64 (hh:Nat),.int .i64 x] (0,0) _ rfl HZ.out.1 Tryz.underlying45 rfl (by kernel_rfl)) rfl ?_
   exact⟨v,b,dd,hh,x,gd,rfl,hIx,hPP,HZ.out.2⟩
end Go.Proofs.YtkcmhaknalomjaaGreatDoor
namespace Go.Proofs.YtkcmhaknalomjaaGreatDoor
open Go.RowKit Go.Fl64
theorem zB2 (b h e m:Int) (d:ByteArray) (neg:Bool) (tw:Bool×Nat×Int) (f:Nat) (w:World)
  (k1:Hid (∀ W,Bw w W→Calls Tryz.prog 75 #[.agg #[.int .i64 b,.string d,.int .i64 h,.int .i64 e]] W fun r w'=>OutA W tw r w'))
  (k2:Hid (∀ W X,Bw w W→PN W X tw→Calls Tryz.prog 76 #[X] W fun r w'=>r=.returned (.int .i64 0)∧Bw W w'))
  (k3:Hid (∀ W,Bw w W→Calls Tryz.prog 77 #[.bool neg,.int .u64 0,.int .i64 0,.int .i64 m] W fun r w'=>r=.returned (.float .f64 f)∧Bw W w')) :
  Calls Tryz.prog 28 #[.agg #[.int .i64 b,.string d,.int .i64 h,.int .i64 e],.bool neg,.int .i64 m] w fun r w'=>r=.returned (.float .f64 f)∧Bw w w':=by
 obtain⟨W,hW⟩:∃ W,W=w.alloc (.cells #[.int .i64 b,.string d,.int .i64 h,.int .i64 e] 45):=⟨_,rfl⟩;have m1:W.heap[w.heap.size]?=some (.cells #[.int .i64 b,.string d,.int .i64 h,.int .i64 e] 45 (0,0)):=by rw[hW];exact xG5 _ _
 have m4:Bw w W:=by rw[hW];exact(xV9 _ _).alloc (xV8 _) _
 obtain⟨c0,c1,c2,c3⟩:=qU4 m1;have HC:Hid (W.heap[w.heap.size]?=some (.cells #[.int .i64 b,.string d,.int .i64 h,.int .i64 e] 45 (0,0))∧Bw w W):=⟨m1,m4⟩;have kk:=k1.out W m4;clear m1 m4 k1
 go_enter Tryz.func28,Tryz.ntmps28
 go_upto_region 1 with fail;rw[←hW];clear hW
 go_wp2_with fail;refine kk.mono ?_;rintro r w1 ⟨s1,ao1,n1,cp1,e1,rfl,hA,hb1⟩;clear kk c0 c1 c2 c3;obtain⟨W1,hW1⟩:∃ W1,W1=w1.alloc (.cells #[.bool s1,.slice ao1 n1 cp1,.int .i64 e1] 65):=⟨_,rfl⟩;have hbV:Bw w1 W1:=by rw[hW1];exact(xV9 _ _).alloc (xV8 _) _
 have n6:W1.heap[w1.heap.size]?=some (.cells #[.bool s1,.slice ao1 n1 cp1,.int .i64 e1] 65 (0,0)):=by rw[hW1];exact xG5 _ _
 go_upto_region 2 with fail;rw[←hW1];clear hW1;have hA':=hA.later hbV;have hb1':Bw W W1:=hb1.trans (hbV.mono hb1.size);have hlt:w.heap.size<w1.heap.size:=xU5 (qQ6 HC.out.1) hb1.size;clear hbV hA hb1;generalize w1.heap.size=gqA at *;have H1:Hid (W1.heap[w.heap.size]?=some (.cells #[.int .i64 b,.string d,.int .i64 h,.int .i64 e] 45 (0,0))∧PBx W1 gqA s1 ao1 n1 cp1 e1 tw∧Bw w W1∧w.heap.size<gqA):=⟨qQ HC.out.1 hb1' (qQ6 HC.out.1),⟨n6,hA'⟩,HC.out.2.trans (hb1'.mono HC.out.2.size),hlt⟩;obtain⟨⟨c0,c1,c2⟩,-⟩:=qQ1 H1.out.2.1.1;have kk:=k2.out W1 _ H1.out.2.2.1 hA';clear k2 n6 hA' hb1' hlt HC
 go_wp2_with fail;refine kk.mono ?_;rintro r w2 ⟨rfl,hb2⟩;have H2:Hid (w2.heap[w.heap.size]?=some (.cells #[.int .i64 b,.string d,.int .i64 h,.int .i64 e] 45 (0,0))∧PBx w2 gqA s1 ao1 n1 cp1 e1 tw∧Bw w w2∧w.heap.size<gqA):=⟨qQ H1.out.1 hb2 (qQ6 H1.out.1),H1.out.2.1.later hb2,H1.out.2.2.1.trans (hb2.mono H1.out.2.2.1.size),H1.out.2.2.2⟩;have kk3:=k3.out w2 H2.out.2.2.1;have HB:Hid (Bw w w2):=H2.out.2.2.1;clear kk hb2 H1 H2 c0 c1 c2 k3
 go_wp2_with fail;refine kk3.mono ?_;rintro r w3 ⟨rfl,hb3⟩;have HB3:Hid (Bw w w3):=HB.out.trans (hb3.mono HB.out.size);clear kk3 hb3 HB
 go_wp2
 go_ret;exact⟨rfl,HB3.out⟩
end Go.Proofs.YtkcmhaknalomjaaGreatDoor
