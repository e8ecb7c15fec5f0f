/- Own work: contracts of the program's functions, part 10: VR1 DHX SG1 SN1 SN2 SN3 SN4 SN5 SN6 SN7 SN8 SN9 SNB SNC SND SNE FR7 DC2 SP1 DC3 DC4 SNP PX DL2 PQ PW PW2 PQ2 PZ PZ2 PX2 FR8 FRA SNF SNG SNI SNJ SNL SNQ. -/
import Derived.Test.YtfkaogdmlcdceaaGreatDoorA5
import Derived.Laws.IdiomStrings
import Derived.Test.YtfkaogdmlcdceaaGreatDoorA9
import Derived.Test.YtfkaogdmlcdceaaGreatDoorA7
import Derived.Test.YtfkaogdmlcdceaaGreatDoorA8
import Derived.Test.YtfkaogdmlcdceaaGreatDoorA2
import Derived.Test.YtfkaogdmlcdceaaGreatDoorA4
import Derived.Laws.StructEq
import Derived.Test.YtfkaogdmlcdceaaGreatDoorA6

set_option maxHeartbeats 16000000
set_option maxRecDepth 200000
set_option linter.unusedVariables false
set_option linter.unusedSimpArgs false
namespace Go.Proofs.YtfkaogdmlcdceaaGreatDoor
open Go Go.RowKit Go.Fl64
def lowB (c:Nat):Nat:=c ||| 32
def dgB (c:Nat):Nat:=if 48≤c∧c≤57 then c - 48 else if 97≤lowB c∧lowB c≤102 then lowB c - 87 else 99
def btA (s:ByteArray) (i:Nat):Nat:=(s.data[i]?.getD 0).toNat
theorem lowB_lt {c:Nat} (h:c<256):lowB c<256:=Nat.or_lt_two_pow (n:=8) h (by decide)
theorem low_small {c:Nat} (h:c<48):lowB c<97:=by
 have:∀ c:Fin 48,lowB c.val<97:=by decide +kernel
 exact this ⟨c,h⟩
theorem u8_or (c:Nat) (h:c<256):bits .or .u8 (c:Int) 32=((lowB c:Nat):Int):=by
 have:∀ c:Fin 256,bits .or .u8 (c.val:Int) 32=((lowB c.val:Nat):Int):=by decide +kernel
 exact this ⟨c,h⟩
theorem clower (c:Nat) (h:c<256) (w:World):Calls Tryz.prog 266 #[.int .u8 (c:Int)] w fun r w'=>r=.returned (.int .u8 ((lowB c:Nat):Int))∧w'=w:=by
 have ho:=u8_or c h
 go_enter Tryz.func266,Tryz.ntmps266
 go_wp2
 go_ret
 exact⟨rfl,rfl⟩
theorem conv_bytes (s:ByteArray) (w:World):∃ cap W,(convert 9 65 (.string s)).run Tryz.prog w=.ok (.slice (some ⟨w.heap.size,0,none⟩) s.size cap) W∧Bw w W∧∀ j,j<s.size→W.cell? ⟨w.heap.size,j,none⟩=some (.int .u8 ((btA s j:Nat):Int)):=by
 have h:=run_bytes_of_string (P:=Tryz.prog) w 9 65 5 s Tryz.underlying9 Tryz.underlying65 Tryz.underlying5
 refine⟨_,_,h,(Below.refl _ _).drew.alloc (Nat.le_refl _) _,fun j hj=>?_⟩
 have hb:=heap_alloc_new w.drew (.cells (bytesRow s (grownCap w s.size 0 5)) 5 ((bytesRow s (grownCap w s.size 0 5)).size,(bytesRow s (grownCap w s.size 0 5)).size+1))
 have hb':(w.drew.alloc (.cells (bytesRow s (grownCap w s.size 0 5)) 5 ((bytesRow s (grownCap w s.size 0 5)).size,(bytesRow s (grownCap w s.size 0 5)).size+1))).heap[w.heap.size]?=some (.cells (bytesRow s (grownCap w s.size 0 5)) 5 ((bytesRow s (grownCap w s.size 0 5)).size,(bytesRow s (grownCap w s.size 0 5)).size+1)):=hb
 unfold World.cell?
 rw[hb']
 show(if false then none else(bytesRow s (grownCap w s.size 0 5))[j]?)=_
 rw[if_neg (by decide)]
 have hj':j<s.data.size:=hj
 unfold bytesRow btA
 rw[Array.getElem?_append_left (by simpa using hj')]
 simp only[Array.getElem?_map]
 rw[Array.getElem?_eq_getElem hj']
 rfl
theorem dgB_dec {c:Nat} (h1:48≤c) (h2:c≤57):dgB c=c - 48:=by unfold dgB;rw[if_pos ⟨h1,h2⟩]
theorem dgB_let {c:Nat} (h1:¬ (48≤c∧c≤57)) (h2:97≤lowB c) (h3:lowB c≤102):dgB c=lowB c - 87:=by unfold dgB;rw[if_neg h1,if_pos ⟨h2,h3⟩]
theorem hex_stepQ {w wr:World} {u j k d:Nat} (hM:Bt w wr (fun t=>if 65 - j≤t then hx (u / 16^(64 - t) % 16)else 0)) (hk:65 - j=k+1) (hd:d=hx (u / 16^j % 16)) (hj:j≤16) :
  Bt w (wr.setCell ⟨w.heap.size,k,none⟩ (.int .u8 (d:Nat))) (fun t=>if 65 - (j+1)≤t then hx (u / 16^(64 - t) % 16)else 0):=by
 refine(hM.set k d).congr fun t ht=>?_
 by_cases e:t=k
 ·subst e
  rw[if_pos rfl,if_pos (by omega),hd,show 64 - t=j by omega]
 ·rw[if_neg e]
  by_cases e2:65 - j≤t
  ·rw[if_pos e2,if_pos (by omega)]
  ·rw[if_neg e2,if_neg (by omega)]
theorem c168_q (u:Nat) (w:World) (hT:Ie.Tab w) (hu:u<18446744073709551616) :
  Calls Tryz.prog 227 #[.slice none 0 0,.int .u64 u,.int .i64 16,.bool false,.bool false] w fun e w'=>∃ j:Nat,u / 16^j<16∧(j=0∨16≤u / 16^(j - 1))∧e=.returned (.tuple #[.slice none 0 0,.string ⟨(hexL u j).toArray⟩])∧Bw w w':=by
 have h0:=Bt.start w
 have k186:=c186 _ (Tab.later hT h0.below)
 generalize hW:w.alloc (.cells Tryz.zeroCells237 237)=W at *
 have HW:Hid (w.alloc (.cells Tryz.zeroCells237 237)=W):=hW
 have H0:Hid (Bt w W (fun _=>0)):=h0
 clear h0 hT
 go_enter Tryz.func227,Tryz.ntmps227
 go_wp2_with fail
 clear hW
 refine(c185 _).mono ?_
 rintro r w1 ⟨rfl,rfl⟩
 go_wp2_with fail
 refine k186.mono ?_
 rintro r w1' ⟨rfl,rfl⟩
 clear k186
 go_wp2
 go_loopw [1,13] (fun a b wr=>∃ j v:Nat,a=.int .u64 v∧b=.int .i64 ((65 - j:Nat):Int)∧Hid (u / 16^j=v∧(j=0∨16≤u / 16^(j - 1)))∧v<18446744073709551616∧j≤16∧Bt w wr (fun t=>if 65 - j≤t then hx (u / 16^(64 - t) % 16)else 0)) (fun a _ _=>(intOf a).toNat)
 case atStart=>exact⟨0,u,rfl,rfl,⟨(by simp:u / 16^0=u),.inl rfl⟩,hu,by omega,H0.out.congr fun t ht=>by rw[if_neg (by omega)]⟩
 case round =>
  obtain⟨j,v,rfl,rfl,hv,hvl,hj8,hM⟩:=hrel
  by_cases hge:16≤v
  ·have hgi:(16:Int)≤(v:Int):=by omega
   have hj7:j<15:=by
    refine Nat.lt_of_not_le fun h7=>?_
    have h1:16*16^j≤u:=by
     have:=hv.out.1
     rw[←this] at hge
     exact(Nat.le_div_iff_mul_le (Nat.pow_pos (by omega))).1 hge
    have h2:16^15≤16^j:=Nat.pow_le_pow_right (by omega) h7
    omega
   have g2:=hM.cell (i:=65 - j - 1) (by omega)
   have g3:=hM.frozen (65 - j - 1)
   have HM:Hid (Bt w wr (fun t=>if 65 - j≤t then hx (u / 16^(64 - t) % 16)else 0)):=hM
   clear hM
   obtain⟨k,hk⟩:∃ k,65 - j=k+1:=⟨64 - j,by omega⟩
   rw[hk] at g2 g3 ⊢
   rw[Nat.add_sub_cancel] at g2 g3
   generalize (if 65 - j≤k then hx (u / 16^(64 - k) % 16)else 0)=old at *
   have hkb:k<65:=by omega
   have hki:(k:Int)<65:=by omega
   have hand:bits .and .u64 (v:Int) 15=((v % 16:Nat):Int):=by
    rw[show(15:Int)=((15:Nat):Int)from rfl,u64_and_nat v 15 (by omega) (by omega),show(15:Nat)=2^4 - 1 from rfl,Nat.and_two_pow_sub_one_eq_mod]
   have hml:v % 16<16:=Nat.mod_lt _ (by omega)
   generalize hm:v % 16=m at *
   have HMM:Hid (v % 16=m):=hm
   have HK:Hid (65 - j=k+1):=hk
   clear hm hk
   go_wp2
   refine⟨⟨j+1,v / 16,by simp,?_,?_,by omega,by omega,?_⟩,by simp[intOf];omega⟩
   ·have:=HK.out
    congr 1
    omega
   ·refine⟨?_,.inr (by rw[Nat.add_sub_cancel,hv.out.1];exact hge)⟩
    rw[Nat.pow_succ,←Nat.div_div_eq_div_mul,hv.out.1]
   ·exact hex_stepQ HM.out HK.out (by rw[hex_get m hml,hv.out.1,HMM.out]) (by omega)
  ·have hgi:¬ (16:Int)≤(v:Int):=by omega
   have g2:=hM.cell (i:=65 - j - 1) (by omega)
   have g3:=hM.frozen (65 - j - 1)
   have HM:Hid (Bt w wr (fun t=>if 65 - j≤t then hx (u / 16^(64 - t) % 16)else 0)):=hM
   clear hM
   obtain⟨k,hk⟩:∃ k,65 - j=k+1:=⟨64 - j,by omega⟩
   rw[hk] at g2 g3 ⊢
   rw[Nat.add_sub_cancel] at g2 g3
   have hkb:k<65:=by omega
   have hki:(k:Int)<65:=by omega
   have hvi:(v:Int)<36:=by omega
   have HK:Hid (65 - j=k+1):=hk
   clear hk
   have hsl:=fun W=>arr147 W w.heap.size k hkb
   go_wp2
   rw[hex_get v (by omega)]
   have hE:=hex_stepQ HM.out HK.out (d:=hx v) (by rw[hv.out.1,Nat.mod_eq_of_lt (by omega)]) hj8
   generalize wr.setCell ⟨w.heap.size,k,none⟩ (.int .u8 (hx v:Nat))=wf at *
   have hkj:k=64 - j:=by have:=HK.out;omega
   have hcv:=run_convert_bytes_back (P:=Tryz.prog) wf 65 9 5 ⟨w.heap.size,k,none⟩ (65 - k) (hexL u j) Tryz.underlying65 Tryz.underlying5 Tryz.underlying9 (fun i hi=>by
    rw[hexL_length] at hi
    have ea:(⟨w.heap.size,k,none⟩:Addr).add i=⟨w.heap.size,k+i,none⟩:=by simp[Addr.add]
    rw[ea]
    rw[hE.cell (by omega),if_pos (by omega),hexL_get,show 64 - (k+i)=j - i by omega])
   rw[hexL_length,show j+1=65 - k by omega] at hcv
   have HF:Hid (Bw w wf∧u / 16^j<16∧(j=0∨16≤u / 16^(j - 1))):=⟨hE.below,by rw[hv.out.1];omega,hv.out.2⟩
   clear hE hkj g2 g3 HM hsl
   rw[hcv]
   go_wp2
   go_ret2
   exact⟨j,HF.out.2.1,HF.out.2.2,rfl,HF.out.1⟩
theorem c132q (u:Nat) (w:World) (hT:Ie.Tab w) (hu:u<18446744073709551616) :
  Calls Tryz.prog 169 #[.int .u64 u,.int .i64 16] w fun e w'=>∃ j:Nat,u / 16^j<16∧(j=0∨16≤u / 16^(j - 1))∧e=.returned (.string ⟨(hexL u j).toArray⟩)∧Bw w w':=by
 have k:=c168_q u w hT hu
 clear hT hu
 go_enter Tryz.func169,Tryz.ntmps169
 go_wp2_with fail
 refine k.mono ?_
 rintro r w1 ⟨j,h1,h2,rfl,hb⟩
 have HF:Hid (u / 16^j<16∧(j=0∨16≤u / 16^(j - 1))∧Bw w w1):=⟨h1,h2,hb⟩
 clear k h1 h2 hb
 generalize hl:hexL u j=l at *
 have HL:Hid (hexL u j=l):=hl
 clear hl
 go_wp2
 go_ret
 exact⟨j,HF.out.1,HF.out.2.1,by rw[HL.out];rfl,HF.out.2.2⟩
theorem c81q (u:Nat) (w:World) (hT:Ie.Tab w) (hu:u<18446744073709551616) :
  Calls Tryz.prog 109 #[.int .u64 u,.int .i64 16] w fun e w'=>∃ j:Nat,u / 16^j<16∧(j=0∨16≤u / 16^(j - 1))∧e=.returned (.string ⟨(hexL u j).toArray⟩)∧Bw w w':=by
 have k:=c132q u w hT hu
 clear hT hu
 go_enter Tryz.func109,Tryz.ntmps109
 go_wp2_with fail
 refine k.mono ?_
 rintro r w1 ⟨j,h1,h2,rfl,hb⟩
 have HF:Hid (u / 16^j<16∧(j=0∨16≤u / 16^(j - 1))∧Bw w w1):=⟨h1,h2,hb⟩
 clear k h1 h2 hb
 generalize hl:hexL u j=l at *
 have HL:Hid (hexL u j=l):=hl
 clear hl
 go_wp2
 go_ret
 exact⟨j,HF.out.1,HF.out.2.1,by rw[HL.out];rfl,HF.out.2.2⟩
end Go.Proofs.YtfkaogdmlcdceaaGreatDoor
namespace Go.Proofs.YtfkaogdmlcdceaaGreatDoor
open Go.RowKit Go.Fl64
theorem tf_fine {s:Bool} {q D r:Nat} {h m:Int} (hq:64≤bl q) (hr0:r≠0) (hr:r<2^D):tfF s false q h m=tfF s true (q*2^D+r) (h - D) m:=by
 have hp:=Nat.two_pow_pos D
 have e1:(q*2^D+r) / 2^D=q:=by rw[Nat.add_comm,Nat.add_mul_div_right _ _ hp,Nat.div_eq_of_lt hr,Nat.zero_add]
 have e2:(q*2^D+r) % 2^D=r:=by rw[Nat.add_comm,Nat.add_mul_mod_self_right,Nat.mod_eq_of_lt hr]
 have:=tf_cut (s:=s) (Z:=q*2^D+r) (n:=D) (E:=h - D) (m:=m) (by rw[e1];exact hq) (by rw[e2];exact hr0)
 rw[e1,show h - (D:Int)+(D:Int)=h by omega] at this
 exact this.symm
end Go.Proofs.YtfkaogdmlcdceaaGreatDoor
/- Floats in order: not above, the lesser and the greater of two; intervals that may be. -/
namespace Go.Fl64
def pl (a:Nat):Nat:=if a=9223372036854775808 then 0 else a
end Go.Fl64
namespace Go.Proofs.YtfkaogdmlcdceaaGreatDoor
open Go.RowKit Go.Fl64
theorem bdrewN {B:Nat} {a w:World} (h:Below B a w) (n:Nat):Below B a (w.drewN n):=h.trans ⟨rfl,rfl,rfl,Nat.le_refl _,fun _ _=>rfl⟩
theorem cinf_p (w:World):Calls Tryz.prog 53 #[.int .i64 1] w fun r w'=>r=.returned (.float .f64 9218868437227405312)∧w'=w:=by
 have hb:=Ie.run_frombits
 go_enter Tryz.func53,Tryz.ntmps53
 go_wp2
 go_ret
 exact⟨rfl,rfl⟩
theorem run_store_flt (P:Program) (w:World) (a:Addr) (m:Mode) (k:FloatKind) (n:Nat):(store a (.float k n) m).run P w=stored P w a (.float k n) m:=run_store P w a _ m rfl
def OutN8 (W:World) (t:Bool×Nat×Int) (r:Ending) (w':World):Prop:=∃ s ao n cap e,r=.returned (.tuple #[.agg #[.bool s,.slice ao n cap,.int .i64 e],.int .i64 0])∧PN w' (.agg #[.bool s,.slice ao n cap,.int .i64 e]) t∧Bw W w'
def tSh (t:Bool×Nat×Int) (k:Int):Bool×Nat×Int:=if t.2.1=0 then(false,0,0) else(t.1,t.2.1,t.2.2+k)
theorem pshift {t:Bool×Nat×Int} {A:Value} {k0:Int} {w:World} (ok:Ok t) (h:PN w A t) (hk1:¬ k0 < -65536 - t.2.2) (hk2:¬ 65536 - t.2.2<k0) :
  Calls Tryz.prog 204 #[A,.int .i64 k0] w fun r w'=>OutN8 w (tSh t k0) r w':=by
 obtain⟨pa,pc,rfl,i1⟩:=h
 obtain⟨f1,f2,f3,f4,f5⟩:=ok.facts
 have km:∀ W g,Bw w W→W.heap[g]?=some (.cells #[.bool t.1,.slice pa (dlen t.2.1) pc,.int .i64 t.2.2] 50 (0,0))→Calls Tryz.prog 128 #[.slice (some ⟨g,0,none⟩) 1 1] W fun r w'=>r=.returned (.bool true)∧Bw W w':=fun W g hW hg=>by
  have:=maybe1 hg (i1.later hW) (by omega)
  rw[show okN t.1 (dlen t.2.1) t.2.1 t.2.2=true from ok] at this
  exact this
 unfold tSh
 by_cases h0:t.2.1=0
 ·rw[if_pos h0]
  have hd:dlen t.2.1=0:=by rw[h0,dlen_zero]
  rw[hd] at km ⊢
  refine(shift_1 t.1 pa pc t.2.2 k0 w km).mono ?_
  rintro r w' ⟨rfl,hb⟩
  exact⟨_,_,_,_,_,rfl,⟨none,0,by rw[dlen_zero],by rw[dlen_zero];exact is_nil _⟩,hb⟩
 ·rw[if_neg h0]
  refine(shift_3 t.1 pa (dlen t.2.1) pc t.2.2 k0 w t.2.1 i1 (by omega) (by omega) (by have:=dlen_pos h0;simp;omega) (by omega) (by omega) hk1 hk2 km).mono ?_
  rintro r w' ⟨v,rfl,ho,hb⟩
  obtain⟨ao,cap,rfl,h1,h2,h3⟩:=ho.is
  exact⟨_,_,_,_,_,rfl,⟨ao,cap,rfl,ao,cap,rfl,h1,h2,h3⟩,hb⟩
theorem ofN (a:Nat) (ha:a<18446744073709551616) (hf:mag a<9218868437227405312) (w:World) (hT:Tab32 w) (hJ:Ie.Tab w):Calls Tryz.prog 87 #[.float .f64 a] w fun r w'=>OutN8 w (tF a) r w':=by
 obtain⟨m,hm,hml⟩:=sM_lt a ha
 refine(of_fin a m ha w hT hJ hf hm).mono ?_
 rintro r w' ⟨A,rfl,hN,hb⟩
 have hp:=hN.pn
 rw[cn_parts a m ha hf hm] at hp
 obtain⟨s,ao,n,cap,e,rfl⟩:=hp.shape
 exact⟨s,ao,n,cap,e,rfl,hp,hb⟩
def fU (a:Nat):Nat:=Ie.mant a*2^(Ie.lp a+1074).toNat
theorem whole_pn {n:Int} {w:World} (hT:Tab32 w) (hn : -9223372036854775808≤n∧n≤9223372036854775807):Calls Tryz.prog 99 #[.int .i64 n] w fun r w'=>OutP w (un n 0) r w':=by
 refine(c12 hT hn).mono ?_
 rintro r w' ⟨A,rfl,hN,hb⟩
 have hp:=hN.pn
 obtain⟨s,ao,m,cap,e,rfl⟩:=hp.shape
 exact⟨_,_,_,_,_,rfl,hp,hb⟩
def nilN:Bool×Nat×Int:=(false,0,0)
theorem un_0 (p:Nat):un 0 p=nilN:=by unfold un cn nilN;rw[if_pos (by decide)]
theorem pn_nilN (w:World):PN w (.agg #[.bool false,.slice none 0 0,.int .i64 0]) nilN:=⟨none,0,by unfold nilN;rw[dlen_zero],by unfold nilN;rw[dlen_zero];exact is_nil w⟩
def PBx (W:World) (g:Nat) (s1:Bool) (ao1:Option Addr) (n1 cp1:Nat) (e1:Int) (t:Bool×Nat×Int):Prop:=W.heap[g]?=some (.cells #[.bool s1,.slice ao1 n1 cp1,.int .i64 e1] 50 (0,0))∧PN W (.agg #[.bool s1,.slice ao1 n1 cp1,.int .i64 e1]) t
theorem PBx.later {W V:World} {g:Nat} {s1:Bool} {ao1:Option Addr} {n1 cp1:Nat} {e1:Int} {t:Bool×Nat×Int} (h:PBx W g s1 ao1 n1 cp1 e1 t) (hb:Bw W V):PBx V g s1 ao1 n1 cp1 e1 t:=⟨box_later h.1 hb (lt_of_box h.1),h.2.later hb⟩
theorem PBx.lt {W:World} {g:Nat} {s1:Bool} {ao1:Option Addr} {n1 cp1:Nat} {e1:Int} {t:Bool×Nat×Int} (h:PBx W g s1 ao1 n1 cp1 e1 t):g<W.heap.size:=lt_of_box h.1
theorem PN.shape1 {w:World} {A:Value} {t:Bool×Nat×Int} (h:PN w A t):∃ s ao n cap e,A=.agg #[.bool s,.slice ao n cap,.int .i64 e]:=by
 obtain⟨ao,cap,rfl,-⟩:=h
 exact⟨_,_,_,_,_,rfl⟩
theorem pshift_un {a k:Int} {p q b:Nat} {X:Value} {w:World} (ha:a.natAbs<2^b) (hb:b≤60000) (hp:p≤60000) (hq:q≤60000) (hk:(p:Int) - k=q) (hX:PN w X (un a p)) :
  Calls Tryz.prog 204 #[X,.int .i64 k] w fun r w'=>OutN8 w (un a q) r w':=by
 have e:=un_e (p:=p) ha
 have e2:=un_e (p:=q) ha
 have g:tSh (un a p) k=un a q:=gK_un hk
 have e3:(un a p).2.2=0∨(un a q).2.2=(un a p).2.2+k:=by
  by_cases h0:(un a p).2.1=0
  ·left
   rw[show a=0 from un_sign.2.1 h0,un_0]
   rfl
  ·right
   rw[←g]
   unfold tSh
   rw[if_neg h0]
 have k1:=pshift (k0:=k) (ok_un ha hb hp) hX (by omega) (by omega)
 rw[g] at k1
 exact k1
theorem Dshifted_1 (s1:Bool) (ao1:Option Addr) (n1 cp1:Nat) (e1:Int) (k:Int) (t:Bool×Nat×Int) (w:World)
  (kk:∀ W,Bw w W→Calls Tryz.prog 204 #[.agg #[.bool s1,.slice ao1 n1 cp1,.int .i64 e1],.int .i64 k] W fun r w'=>OutN8 W t r w') :
  Calls Tryz.prog 140 #[.agg #[.bool s1,.slice ao1 n1 cp1,.int .i64 e1],.int .i64 k] w fun r w'=>OutA w t r w':=by
 obtain⟨W,hW⟩:∃ W,W=(w.alloc (.cells #[.bool s1,.slice ao1 n1 cp1,.int .i64 e1] 50)).alloc (.cells #[.bool false,.slice none 0 0,.int .i64 0] 50):=⟨_,rfl⟩
 obtain⟨hA,hC,hsz,hBW⟩:=two_new _ _ hW
 obtain⟨⟨a0,a1,a2⟩,-⟩:=box_cells hA
 have HX:Hid (Bw w W∧W.heap[w.heap.size+1]?=some (.cells #[.bool false,.slice none 0 0,.int .i64 0] 50 (0,0))):=⟨hBW,hC⟩
 have k1:=kk W HX.out.1
 clear kk hA hC hBW hsz
 rw[hW] at a0 a1 a2
 go_enter Tryz.func140,Tryz.ntmps140
 go_wp2_with fail
 rw[←hW]
 clear hW a0 a1 a2
 refine k1.mono ?_
 rintro r w1 ⟨s2,ao2,n2,cp2,e2,rfl,hA,hb1⟩
 obtain⟨W1,hW1⟩:∃ W1,W1=w1.alloc (.cells #[.bool s2,.slice ao2 n2 cp2,.int .i64 e2] 50):=⟨_,rfl⟩
 have hb2:Bw W W1:=by rw[hW1];exact hb1.alloc hb1.size _
 have HY:Hid (PN W1 (.agg #[.bool s2,.slice ao2 n2 cp2,.int .i64 e2]) t∧Bw w W1∧W1.heap[w1.heap.size]?=some (.cells #[.bool s2,.slice ao2 n2 cp2,.int .i64 e2] 50 (0,0))∧W1.heap[w.heap.size+1]?=some (.cells #[.bool false,.slice none 0 0,.int .i64 0] 50 (0,0))) :=
  ⟨by rw[hW1];exact hA.later ((Below.refl _ _).alloc (Nat.le_refl _) _),HX.out.1.trans (hb2.mono HX.out.1.size),by rw[hW1];exact heap_alloc_new _ _,box_later HX.out.2 hb2 (lt_of_box HX.out.2)⟩
 clear k1 hA hb1 hb2
 go_upto_region 2 with fail
 rw[←hW1]
 clear hW1
 generalize w1.heap.size=g1 at *
 obtain⟨⟨c0,c1,c2⟩,-⟩:=box_cells HY.out.2.2.1
 obtain⟨⟨x1,x2,x3⟩,x4,x5,x6⟩:=box_cells HY.out.2.2.2
 go_wp2
 refine bodyPost_ret (results_cell_row rfl _ _ (w.heap.size+1) 50 #[.bool s2,.slice ao2 n2 cp2,.int .i64 e2] (0,0) _ rfl (store3 _ _ _ HY.out.2.2.2) Tryz.underlying50 rfl Tryz.info50) rfl ?_
 exact⟨_,_,_,_,_,rfl,pn_store HY.out.1 HY.out.2.2.2 _ _ _,below_store3 HY.out.2.1 (by omega) _ _ _⟩
theorem Dshifted {a k:Int} {p q b:Nat} {X:Value} {w:World} (ha:a.natAbs<2^b) (hb:b≤60000) (hp:p≤60000) (hq:q≤60000) (hk:(p:Int) - k=q) (hX:PN w X (un a p)) :
  Calls Tryz.prog 140 #[X,.int .i64 k] w fun r w'=>OutA w (un a q) r w':=by
 obtain⟨s1,ao1,n1,cp1,e1,rfl⟩:=hX.shape1
 exact Dshifted_1 _ _ _ _ _ k _ w (fun W hW=>pshift_un ha hb hp hq hk (hX.later hW))
theorem pn_storeP {w:World} {A:Value} {t:Bool×Nat×Int} {g:Nat} {s:Bool} {ao:Option Addr} {n cap:Nat} {e:Int} (h:PN w A t) (hg:w.heap[g]?=some (.cells #[.bool s,.slice ao n cap,.int .i64 e] 50 (0,0))) (a b c:Value):PN (((w.setCell ⟨g,0,none⟩ a).setCell ⟨g,1,none⟩ b).setCell ⟨g,2,none⟩ c) A t:=by
 obtain⟨oo,cc,h1,ao',cap',h2,h3,h4,h5⟩:=h
 exact⟨oo,cc,h1,ao',cap',h2,h3,h4,at_boxP h5 hg (by simp) (by simp) (by simp) a b c⟩
theorem store3_other {w:World} {g k:Nat} (a b c:Value) (h:k≠g):(((w.setCell ⟨g,0,none⟩ a).setCell ⟨g,1,none⟩ b).setCell ⟨g,2,none⟩ c).heap[k]?=w.heap[k]?:=by
 have h':¬ g=k:=fun e=>h e.symm
 simp[World.setCell,Array.getElem?_modify,h']
theorem two_half (n q:Nat):n / 2^(q+1)+n / 2^(q+1)+n / 2^q % 2=n / 2^q:=by
 rw[Nat.pow_succ,←Nat.div_div_eq_div_mul];omega
def RdD (w:World) (g:Nat) (b p:Bool×Nat×Int) (sb:Bool) (aob:Option Addr) (nb cpb:Nat) (eb:Int) (wr:World) (s1:Bool) (ao1:Option Addr) (n1 cp1:Nat) (e1:Int):Prop :=
 PBx wr g s1 ao1 n1 cp1 e1 p∧PBx wr (g+1) sb aob nb cpb eb b∧wr.heap[w.heap.size]?=some (.cells #[.bool false,.slice none 0 0,.int .i64 0] 50 (0,0))∧Bw w wr∧w.heap.size<g∧g+1<wr.heap.size
theorem RdD.next {w:World} {g:Nat} {b p q:Bool×Nat×Int} {sb:Bool} {aob:Option Addr} {nb cpb:Nat} {eb:Int} {wr w':World} {s1:Bool} {ao1:Option Addr} {n1 cp1:Nat} {e1:Int} {s2:Bool} {ao2:Option Addr} {n2 cp2:Nat} {e2:Int}
  (h:RdD w g b p sb aob nb cpb eb wr s1 ao1 n1 cp1 e1) (hb:Bw wr w') (hp:PN w' (.agg #[.bool s2,.slice ao2 n2 cp2,.int .i64 e2]) q) :
  RdD w g b q sb aob nb cpb eb (((w'.setCell ⟨g,0,none⟩ (.bool s2)).setCell ⟨g,1,none⟩ (.slice ao2 n2 cp2)).setCell ⟨g,2,none⟩ (.int .i64 e2)) s2 ao2 n2 cp2 e2:=by
 obtain⟨h1,h2,h3,h4,h5,h6⟩:=h
 have hs:=hb.size
 have b1:=box_later h1.1 hb (by omega)
 refine⟨⟨store3 _ _ _ b1,pn_storeP hp b1 _ _ _⟩,⟨?_,pn_storeP (h2.2.later hb) b1 _ _ _⟩,?_,below_store3 (h4.trans (hb.mono h4.size)) (by omega) _ _ _,h5,by simp[World.setCell];omega⟩
 ·rw[store3_other _ _ _ (by omega)];exact box_later h2.1 hb (by omega)
 ·rw[store3_other _ _ _ (by omega)];exact box_later h3 hb (by omega)
theorem bit_step8 (m:Nat) (h:m<8192):(bits BinOp.and IntKind.i64 ((m:Nat):Int) 1==1)=(m % 2==1):=by
 have t:∀ a:Fin 8,∀ b:Fin 1024,(bits BinOp.and IntKind.i64 ((1024*a.val+b.val:Nat):Int) 1==1)=((1024*a.val+b.val) % 2==1):=by decide +kernel
 have:=t ⟨m / 1024,by omega⟩ ⟨m % 1024,by omega⟩
 simp only[Nat.div_add_mod] at this
 exact this
theorem bit8_i64 {n q:Nat} (h:n≤8191):(bits BinOp.and IntKind.i64 ((n:Int) / 2^q) 1==1)=(n / 2^q % 2==1):=by
 have h1:=Nat.div_le_self n (2^q)
 have h2:=bit_step8 (n / 2^q) (by omega)
 rw[show(n:Int) / 2^q=((n / 2^q:Nat):Int) by simp]
 exact h2
theorem Dpower_1 (P:Nat→Bool×Nat×Int) (bs:Int) (n L:Nat) (w:World) (hn:n≤8191) (hL:Hid (bl n=L)) (hL2:L≤13)
  (kW:∀ W,Bw w W→Calls Tryz.prog 99 #[.int .i64 1] W fun r w'=>OutP W (P 0) r w')
  (kB:∀ W,Bw w W→Calls Tryz.prog 99 #[.int .i64 bs] W fun r w'=>OutP W (P 1) r w')
  (kM:∀ W X Y a b,Bw w W→PN W X (P a)→PN W Y (P b)→a+b≤n→Calls Tryz.prog 94 #[X,Y] W fun r w'=>OutA W (P (a+b)) r w')
  (kL:∀ W,Calls Tryz.prog 155 #[.int .u64 n] W fun r w'=>r=.returned (.int .i64 L)∧w'=W) :
  Calls Tryz.prog 88 #[.int .i64 bs,.int .i64 n] w fun r w'=>OutA w (P n) r w':=by
 obtain⟨W,hW⟩:∃ W,W=w.alloc (.cells #[.bool false,.slice none 0 0,.int .i64 0] 50):=⟨_,rfl⟩
 have hsz:W.heap.size=w.heap.size+1:=by rw[hW];simp
 have hBW:Bw w W:=by rw[hW];exact(Below.refl _ _).alloc (Nat.le_refl _) _
 have hA2:W.heap[w.heap.size]?=some (.cells #[.bool false,.slice none 0 0,.int .i64 0] 50 (0,0)):=by rw[hW];exact heap_alloc_new _ _
 have k1:=kW W hBW
 have HH:Hid (W.heap[w.heap.size]?=some (.cells #[.bool false,.slice none 0 0,.int .i64 0] 50 (0,0))∧Bw w W∧W.heap.size=w.heap.size+1):=⟨hA2,hBW,hsz⟩
 have HKB:Hid _:=kB
 clear hA2 hBW hsz kW kB
 go_enter Tryz.func88,Tryz.ntmps88
 go_wp2_with fail
 rw[←hW]
 clear hW
 refine k1.mono ?_
 rintro r w1 ⟨s1,ao1,n1,cp1,e1,rfl,hp,hb⟩
 clear k1
 have k2:=HKB.out w1 (HH.out.2.1.trans (hb.mono HH.out.2.1.size))
 have H1:Hid (PN w1 (.agg #[.bool s1,.slice ao1 n1 cp1,.int .i64 e1]) (P 0)∧Bw W w1):=⟨hp,hb⟩
 clear hp hb HKB
 go_wp2_with fail
 refine k2.mono ?_
 rintro r w2 ⟨sb,aob,nb,cpb,eb,rfl,hq,hb⟩
 clear k2
 obtain⟨V,hV⟩:∃ V,V=(w2.alloc (.cells #[.bool s1,.slice ao1 n1 cp1,.int .i64 e1] 50)).alloc (.cells #[.bool sb,.slice aob nb cpb,.int .i64 eb] 50):=⟨_,rfl⟩
 obtain⟨g,hg⟩:∃ g,g=w2.heap.size:=⟨_,rfl⟩
 have HR:Hid (RdD w g (P 1) (P 0) sb aob nb cpb eb V s1 ao1 n1 cp1 e1):=by
  obtain⟨h1,h2,h3⟩:=HH.out
  obtain⟨z1,z2,z3,z4⟩:=two_new _ _ hV
  have hWw:=H1.out.2.trans (hb.mono H1.out.2.size)
  have hc:=hWw.trans (z4.mono hWw.size)
  have hs:=hWw.size
  refine⟨⟨by rw[hg];exact z1,(H1.out.1.later hb).later z4⟩,⟨by rw[hg];exact z2,hq.later z4⟩,box_later h1 hc (by omega),h2.trans (hc.mono h2.size),by omega,by omega⟩
 go_upto_region 2 with fail
 rw[←hV,←hg]
 clear hV hg HH hq hb H1
 go_wp2_with fail
 refine(kL _).mono ?_
 rintro r w2 ⟨rfl,rfl⟩
 go_wp2
 go_loopw [7] (fun v wr=>∃ (p:Nat) (s1:Bool) (ao1:Option Addr) (n1 cp1:Nat) (e1:Int),p≤L∧v=.int .i64 ((p:Int) - 1)∧Hid (RdD w g (P 1) (P (n / 2^p)) sb aob nb cpb eb wr s1 ao1 n1 cp1 e1)) (fun v _=>(intOf v+1).toNat)
 case atStart=>exact⟨L,s1,ao1,n1,cp1,e1,Nat.le_refl _,rfl,by rw[←hL.out,Nat.div_eq_of_lt (lt_bl n)];exact HR⟩
 case round =>
  obtain⟨p,s1,ao1,n1,cp1,e1,hp,rfl,HI⟩:=hrel
  clear HR
  by_cases h0:0<p
  ·obtain⟨q,rfl⟩:∃ q,p=q+1:=⟨p - 1,by omega⟩
   have e1':((q+1:Nat):Int) - 1=(q:Int):=by omega
   have hq0:(0:Int)≤(q:Int):=by omega
   have hq1:(q:Int)<64:=by omega
   rw[e1']
   obtain⟨⟨a0,a1,a2⟩,-⟩:=box_cells HI.out.1.1
   have k1:=kM wr _ _ (n / 2^(q+1)) (n / 2^(q+1)) HI.out.2.2.2.1 HI.out.1.2 HI.out.1.2 (by have:=two_half n q;have:=Nat.div_le_self n (2^q);omega)
   go_wp2_with fail
   refine k1.mono ?_
   rintro r w3 ⟨s2,ao2,n2,cp2,e2,rfl,hp1,hb1⟩
   have HI3:Hid (RdD w g (P 1) (P (n / 2^(q+1)+n / 2^(q+1))) sb aob nb cpb eb (((w3.setCell ⟨g,0,none⟩ (.bool s2)).setCell ⟨g,1,none⟩ (.slice ao2 n2 cp2)).setCell ⟨g,2,none⟩ (.int .i64 e2)) s2 ao2 n2 cp2 e2):=HI.out.next hb1 hp1
   clear k1 a0 a1 a2
   obtain⟨⟨a0,a1,a2⟩,f0,f1,f2⟩:=box_cells (box_later HI.out.1.1 hb1 HI.out.1.lt)
   clear hp1 hb1 HI
   go_upto_region 6 with fail
   obtain⟨U,hU⟩:∃ U,U=(((w3.setCell ⟨g,0,none⟩ (.bool s2)).setCell ⟨g,1,none⟩ (.slice ao2 n2 cp2)).setCell ⟨g,2,none⟩ (.int .i64 e2)):=⟨_,rfl⟩
   rw[←hU] at HI3 ⊢
   clear hU a0 a1 a2 f0 f1 f2
   have hbit:=bit8_i64 (q:=q) hn
   have h2:=two_half n q
   by_cases hodd:n / 2^q % 2=1
   ·rw[show(n / 2^q % 2==1)=true by simp[hodd]] at hbit
    obtain⟨⟨a0,a1,a2⟩,-⟩:=box_cells HI3.out.1.1
    obtain⟨⟨b0,b1,b2⟩,-⟩:=box_cells HI3.out.2.1.1
    have k2:=kM U _ _ (n / 2^(q+1)+n / 2^(q+1)) 1 HI3.out.2.2.2.1 HI3.out.1.2 HI3.out.2.1.2 (by have:=Nat.div_le_self n (2^q);omega)
    rw[show n / 2^(q+1)+n / 2^(q+1)+1=n / 2^q by omega] at k2
    clear h2
    go_wp2_with fail
    refine k2.mono ?_
    rintro r w4 ⟨s3,ao3,n3,cp3,e3,rfl,hp4,hb4⟩
    have HI4:Hid (RdD w g (P 1) (P (n / 2^q)) sb aob nb cpb eb (((w4.setCell ⟨g,0,none⟩ (.bool s3)).setCell ⟨g,1,none⟩ (.slice ao3 n3 cp3)).setCell ⟨g,2,none⟩ (.int .i64 e3)) s3 ao3 n3 cp3 e3):=HI3.out.next hb4 hp4
    clear k2 a0 a1 a2 b0 b1 b2
    obtain⟨⟨a0,a1,a2⟩,f0,f1,f2⟩:=box_cells (box_later HI3.out.1.1 hb4 HI3.out.1.lt)
    clear hp4 hb4 HI3 hbit hodd
    go_wp2_with fail
    exact⟨⟨q,s3,ao3,n3,cp3,e3,by omega,rfl,HI4⟩,by simp[intOf]⟩
   ·rw[show(n / 2^q % 2==1)=false by simp[hodd]] at hbit
    rw[show n / 2^(q+1)+n / 2^(q+1)=n / 2^q by omega] at HI3
    clear h2 hodd
    go_wp2_with fail
    exact⟨⟨q,s2,ao2,n2,cp2,e2,by omega,rfl,HI3⟩,by simp[intOf]⟩
  ·obtain rfl:p=0:=by omega
   rw[Nat.pow_zero,Nat.div_one] at HI
   obtain⟨⟨a0,a1,a2⟩,-⟩:=box_cells HI.out.1.1
   obtain⟨⟨b0,b1,b2⟩,f0,f1,f2⟩:=box_cells HI.out.2.2.1
   go_wp2_with fail
   refine bodyPost_ret (results_cell_row rfl _ _ (w.heap.size) 50 #[.bool s1,.slice ao1 n1 cp1,.int .i64 e1] (0,0) _ rfl (store3 _ _ _ HI.out.2.2.1) Tryz.underlying50 rfl Tryz.info50) rfl ?_
   exact⟨s1,ao1,n1,cp1,e1,rfl,pn_storeP HI.out.1.2 HI.out.2.2.1 _ _ _,below_store3 HI.out.2.2.2.1 (Nat.le_refl _) _ _ _⟩
theorem Dmultiplied {a b:Int} {p q k l:Nat} (h1:a.natAbs<2^k) (h2:b.natAbs<2^l) (hk:k+l≤60000) (hp:p+q≤60000) {X Y:Value} {w:World} (hT:Tab32 w) (hX:PN w X (un a p)) (hY:PN w Y (un b q)):Calls Tryz.prog 94 #[X,Y] w fun r w'=>OutA w (un (a*b) (p+q)) r w':=Dmultiplied_op (pmul_un h1 h2 hk hp) hT hX hY
theorem Dpower {bs n b:Nat} {w:World} (hT:Tab32 w) (hb1:1≤bs) (hb2:bs≤16) (hn:n≤8191) (hlt:bs^n<2^b) (hbb:b≤30000) (kL:∀ W,Calls Tryz.prog 155 #[.int .u64 n] W fun r w'=>r=.returned (.int .i64 (bl n:Nat))∧w'=W) :
  Calls Tryz.prog 88 #[.int .i64 bs,.int .i64 n] w fun r w'=>OutA w (un ((bs^n:Nat):Int) 0) r w':=by
 have hle:∀ a,a≤n→(((bs^a:Nat):Int)).natAbs<2^b:=fun a ha=>by
  rw[Int.natAbs_natCast]
  exact Nat.lt_of_le_of_lt (Nat.pow_le_pow_right hb1 ha) hlt
 refine Dpower_1 (fun a=>un ((bs^a:Nat):Int) 0) (bs:Int) n (bl n) w hn rfl ?_ (fun W hW=>?_) (fun W hW=>?_) (fun W X Y a c hW hX hY hac=>?_) kL
 ·exact(bl_le n 13).2 (Nat.lt_of_le_of_lt hn (by decide:8191<2^13))
 ·have k:=whole_pn (n:=1) (hT.later hW) (by omega)
  rw[show((bs^0:Nat):Int)=1 by rw[Nat.pow_zero];rfl]
  exact k
 ·have k:=whole_pn (n:=(bs:Int)) (hT.later hW) (by omega)
  rw[show((bs^1:Nat):Int)=(bs:Int) by rw[Nat.pow_one]]
  exact k
 ·have k:=Dmultiplied (hle a (by omega)) (hle c (by omega)) (by omega) (by omega) (hT.later hW) hX hY
  rw[←Int.natCast_mul,←Nat.pow_add] at k
  exact k
theorem DtenTo_n (k:Int) (T1 T2:Bool×Nat×Int) (w:World) (hk:k<0) (hk2 : -1000000≤k) (hw:IntKind.i64.wrap (-k) = -k)
  (k1:∀ W,Bw w W→Calls Tryz.prog 99 #[.int .i64 1] W fun r w'=>OutP W T1 r w') (k2:∀ W,Bw w W→Calls Tryz.prog 88 #[.int .i64 10,.int .i64 (-k)] W fun r w'=>OutA W T2 r w'):Calls Tryz.prog 77 #[.int .i64 k] w fun r w'=>OutFv w T1 T2 r w':=by
 obtain⟨W,hW⟩:∃ W,W=w.alloc (.cells #[.bool false,.slice none 0 0,.int .i64 0,.bool false,.slice none 0 0,.int .i64 0] 104):=⟨_,rfl⟩
 have HC:Hid (W.heap[w.heap.size]?=some (.cells #[.bool false,.slice none 0 0,.int .i64 0,.bool false,.slice none 0 0,.int .i64 0] 104 (0,0))∧Bw w W):=(by rw[hW];exact⟨heap_alloc_new _ _,(Below.refl _ _).alloc (Nat.le_refl _) _⟩:_∧_)
 have kk:=k1 W HC.out.2
 have HK2:Hid _:=k2
 clear k1 k2
 go_enter Tryz.func77,Tryz.ntmps77
 go_upto_region 1 with fail
 rw[←hW]
 clear hW
 go_wp2_with fail
 refine kk.mono ?_
 rintro r w1 ⟨s1,ao1,n1,cp1,e1,rfl,hp,hb1⟩
 clear kk
 have HG:Hid (w1.heap[w.heap.size]?=some (.cells #[.bool false,.slice none 0 0,.int .i64 0,.bool false,.slice none 0 0,.int .i64 0] 104 (0,0))∧Bw w w1∧PN w1 (.agg #[.bool s1,.slice ao1 n1 cp1,.int .i64 e1]) T1):=⟨box_later HC.out.1 hb1 (lt_of_box HC.out.1),HC.out.2.trans (hb1.mono HC.out.2.size),hp⟩
 have kk:=HK2.out w1 HG.out.2.1
 clear hp hb1 HC HK2
 go_wp2_with fail
 refine kk.mono ?_
 rintro r w2 ⟨s2,ao2,n2,cp2,e2,rfl,hp,hb2⟩
 clear kk
 have HH:Hid (w2.heap[w.heap.size]?=some (.cells #[.bool false,.slice none 0 0,.int .i64 0,.bool false,.slice none 0 0,.int .i64 0] 104 (0,0))∧Bw w w2∧PN w2 (.agg #[.bool s1,.slice ao1 n1 cp1,.int .i64 e1]) T1∧PN w2 (.agg #[.bool s2,.slice ao2 n2 cp2,.int .i64 e2]) T2):=⟨box_later HG.out.1 hb2 (lt_of_box HG.out.1),HG.out.2.1.trans (hb2.mono HG.out.2.1.size),HG.out.2.2.later hb2,hp⟩
 clear hp hb2 HG
 obtain⟨⟨c0,c1,c2,c3,c4,c5⟩,d0,d1,d2,d3,d4,d5⟩:=cells6F HH.out.1
 go_wp2_with fail
 refine bodyPost_ret (results_cell_row rfl _ _ w.heap.size 104 #[.bool s1,.slice ao1 n1 cp1,.int .i64 e1,.bool s2,.slice ao2 n2 cp2,.int .i64 e2] (0,0) _ rfl (set6_at _ _ _ _ _ _ HH.out.1) Tryz.underlying104 rfl (by kernel_rfl)) rfl ?_
 exact⟨_,rfl,⟨_,_,_,_,_,_,_,_,_,_,rfl,HH.out.2.2.1.set6 HH.out.1 _ _ _ _ _ _,HH.out.2.2.2.set6 HH.out.1 _ _ _ _ _ _⟩,below_set6 HH.out.2.1 (Nat.le_refl _) _ _ _ _ _ _⟩
theorem DtenTo_p (k:Int) (T1 T2:Bool×Nat×Int) (w:World) (hk:¬ k<0)
  (k1:∀ W,Bw w W→Calls Tryz.prog 99 #[.int .i64 1] W fun r w'=>OutP W T1 r w') (k2:∀ W,Bw w W→Calls Tryz.prog 88 #[.int .i64 10,.int .i64 (k)] W fun r w'=>OutA W T2 r w'):Calls Tryz.prog 77 #[.int .i64 k] w fun r w'=>OutFv w T2 T1 r w':=by
 obtain⟨W,hW⟩:∃ W,W=w.alloc (.cells #[.bool false,.slice none 0 0,.int .i64 0,.bool false,.slice none 0 0,.int .i64 0] 104):=⟨_,rfl⟩
 have HC:Hid (W.heap[w.heap.size]?=some (.cells #[.bool false,.slice none 0 0,.int .i64 0,.bool false,.slice none 0 0,.int .i64 0] 104 (0,0))∧Bw w W):=(by rw[hW];exact⟨heap_alloc_new _ _,(Below.refl _ _).alloc (Nat.le_refl _) _⟩:_∧_)
 have kk:=k2 W HC.out.2
 have HK2:Hid _:=k1
 clear k2 k1
 go_enter Tryz.func77,Tryz.ntmps77
 go_upto_region 1 with fail
 rw[←hW]
 clear hW
 go_wp2_with fail
 refine kk.mono ?_
 rintro r w1 ⟨s1,ao1,n1,cp1,e1,rfl,hp,hb1⟩
 clear kk
 have HG:Hid (w1.heap[w.heap.size]?=some (.cells #[.bool false,.slice none 0 0,.int .i64 0,.bool false,.slice none 0 0,.int .i64 0] 104 (0,0))∧Bw w w1∧PN w1 (.agg #[.bool s1,.slice ao1 n1 cp1,.int .i64 e1]) T2):=⟨box_later HC.out.1 hb1 (lt_of_box HC.out.1),HC.out.2.trans (hb1.mono HC.out.2.size),hp⟩
 have kk:=HK2.out w1 HG.out.2.1
 clear hp hb1 HC HK2
 go_wp2_with fail
 refine kk.mono ?_
 rintro r w2 ⟨s2,ao2,n2,cp2,e2,rfl,hp,hb2⟩
 clear kk
 have HH:Hid (w2.heap[w.heap.size]?=some (.cells #[.bool false,.slice none 0 0,.int .i64 0,.bool false,.slice none 0 0,.int .i64 0] 104 (0,0))∧Bw w w2∧PN w2 (.agg #[.bool s1,.slice ao1 n1 cp1,.int .i64 e1]) T2∧PN w2 (.agg #[.bool s2,.slice ao2 n2 cp2,.int .i64 e2]) T1):=⟨box_later HG.out.1 hb2 (lt_of_box HG.out.1),HG.out.2.1.trans (hb2.mono HG.out.2.1.size),HG.out.2.2.later hb2,hp⟩
 clear hp hb2 HG
 obtain⟨⟨c0,c1,c2,c3,c4,c5⟩,d0,d1,d2,d3,d4,d5⟩:=cells6F HH.out.1
 go_wp2_with fail
 refine bodyPost_ret (results_cell_row rfl _ _ w.heap.size 104 #[.bool s1,.slice ao1 n1 cp1,.int .i64 e1,.bool s2,.slice ao2 n2 cp2,.int .i64 e2] (0,0) _ rfl (set6_at _ _ _ _ _ _ HH.out.1) Tryz.underlying104 rfl (by kernel_rfl)) rfl ?_
 exact⟨_,rfl,⟨_,_,_,_,_,_,_,_,_,_,rfl,HH.out.2.2.1.set6 HH.out.1 _ _ _ _ _ _,HH.out.2.2.2.set6 HH.out.1 _ _ _ _ _ _⟩,below_set6 HH.out.2.1 (Nat.le_refl _) _ _ _ _ _ _⟩
def tnO (k:Int):Nat:=10^k.toNat
def tnU (k:Int):Nat:=10^(-k).toNat
def KLen (n:Nat):Prop:=∀ W,Calls Tryz.prog 155 #[.int .u64 n] W fun r w'=>r=.returned (.int .i64 (bl n:Nat))∧w'=W
theorem ten_ltm (m:Nat) {n:Nat} (h:n≤3*m) (hm:m≠0):10^n<2^(10*m):=by
 refine Nat.lt_of_le_of_lt (Nat.pow_le_pow_right (by decide) h) ?_
 rw[Nat.pow_mul,Nat.pow_mul]
 exact Nat.pow_lt_pow_left (by decide) hm
def dM:Nat:=2500
def dB:Nat:=10*dM
theorem dB_le:dB≤25000:=by unfold dB dM;omega
theorem ten_lt {n:Nat} (h:n≤7500):10^n<2^dB:=by
 unfold dB
 exact ten_ltm dM (by unfold dM;omega) (by unfold dM;omega)
theorem DtenTo {k:Int} {w:World} (hT:Tab32 w) (h1 : -7500≤k) (h2:k≤7500) (kL:∀ n,n≤7500→KLen n) :
  Calls Tryz.prog 77 #[.int .i64 k] w fun r w'=>OutFv w (un (tnO k:Int) 0) (un (tnU k:Int) 0) r w':=by
 have hone:∀ W,Bw w W→Calls Tryz.prog 99 #[.int .i64 1] W fun r w'=>OutP W (un ((1:Nat):Int) 0) r w':=fun W hW=>whole_pn (n:=1) (hT.later hW) (by omega)
 have hpow:∀ n:Nat,n≤7500→∀ W,Bw w W→Calls Tryz.prog 88 #[.int .i64 10,.int .i64 (n:Int)] W fun r w'=>OutA W (un ((10^n:Nat):Int) 0) r w':=fun n hn W hW=>Dpower (bs:=10) (hT.later hW) (by omega) (by omega) (by omega) (ten_lt hn) (by have:=dB_le;omega) (kL n hn)
 unfold tnO tnU
 by_cases hk:k<0
 ·obtain⟨n,hn⟩:∃ n:Nat,-k=(n:Int):=⟨(-k).toNat,by omega⟩
  rw[show k.toNat=0 by omega,show(-k).toNat=n by omega,Nat.pow_zero]
  refine DtenTo_n k _ _ w hk (by omega) (by rw[IntKind.wrap_i64];omega) hone ?_
  rw[hn]
  exact hpow n (by omega)
 ·obtain⟨n,hn⟩:∃ n:Nat,k=(n:Int):=⟨k.toNat,by omega⟩
  rw[show(-k).toNat=0 by omega,show k.toNat=n by omega,Nat.pow_zero]
  refine DtenTo_p k _ _ w hk hone ?_
  rw[hn]
  exact hpow n (by omega)
end Go.Proofs.YtfkaogdmlcdceaaGreatDoor
namespace Go.Proofs.YtfkaogdmlcdceaaGreatDoor
open Go.RowKit
structure ParX (pv pa ps:Nat→Nat) (W0:World) (a0:Act) (m n:Nat) (slot bx:Nat→Tmp) (vs:Nat→Nat) (T:TypeId) (zs:Array Value) (V:Nat→World→Value→Prop) (listed:Array Bool) (a:Act) (w:World):Prop where
 below:Bw W0 w
 size:a.tmps.size=a0.tmps.size
 defers:a.defers=a0.defers
 other:∀ s,(∀ j,j<m→s≠slot j)→(∀ k,k<n→s≠bx k)→a.tmps[s]?=a0.tmps[s]?
 val:∀ j,j<m→listed.getD (pv j) false=true→∃ u,a.tmps[slot j]?=some u∧V j w u
 box:∀ k,k<n→listed.getD (pa k) false=true→∃ g cs,a.tmps[bx k]?=some (.pointer (some ⟨g,0,none⟩))∧W0.heap.size≤g∧w.heap[g]?=some (.cells cs T (0,0))∧cs.size=zs.size ∧
  (listed.getD (ps k) false=true→a.tmps[slot (vs k)]?=some (.agg cs))∧(listed.getD (ps k) false=false→cs=zs)
 apart:∀ k k',k<n→k'<n→k≠k'→listed.getD (pa k) false=true→listed.getD (pa k') false=true→a.tmps[bx k]?≠a.tmps[bx k']?
 stored:∀ k,k<n→listed.getD (ps k) false=true→listed.getD (pa k) false=true∧listed.getD (pv (vs k)) false=true
theorem parx_region {P:Program} {ops:Array Oper} {Q:Exit→Act→World→Prop} {id:Nat} (hm:P.follows .mixedOrders=true) (pv pa ps:Nat→Nat) (m n:Nat) (slot bx:Nat→Tmp) (vs:Nat→Nat) (dep:Nat→List Nat) (T:TypeId) (zs:Array Value)
  (W0:World) (a0:Act) (V:Nat→World→Value→Prop) (hall0:∀ i,i<ops.size→(∃ j,j<m∧i=pv j)∨(∃ k,k<n∧i=pa k)∨∃ k,k<n∧i=ps k)
  (hpv:∀ j,j<m→pv j<ops.size) (hpa:∀ k,k<n→pa k<ops.size) (hps:∀ k,k<n→ps k<ops.size)
  (hvv:∀ j j',j<m→j'<m→pv j=pv j'→j=j') (haa:∀ k k',k<n→k'<n→pa k=pa k'→k=k') (hss:∀ k k',k<n→k'<n→ps k=ps k'→k=k')
  (hva:∀ j k,j<m→k<n→pv j≠pa k) (hvs:∀ j k,j<m→k<n→pv j≠ps k) (has:∀ k k',k<n→k'<n→pa k≠ps k')
  (hord:∀ (i:Nat) (o:Oper),ops[i]?=some o→∀ e ∈ o.after,Region.binds .any e=true→e.on<i)
  (hV1:∀ j w w' u,Bw w w'→V j w u→V j w' u)
  (hV2:∀ j w u g cs',w.heap[g]?=some (.cells zs T (0,0))→V j w u→V j (w.setRow g cs') u)
  (hVs:∀ k,k<n→∀ w u,V (vs k) w u→∃ cs:Array Value,u=.agg cs∧cs.size=zs.size∧cs.all (·.oneCell')=true)
  (hdep:∀ j,j<m→∀ j' ∈ dep j,j'<m∧∀ o,ops[pv j]?=some o→∃ e ∈ o.after,e.on=pv j'∧Region.binds .any e=true)
  (hA:∀ j,j<m→∀ (a:Act) (w:World),Bw W0 w→(∀ s,(∀ j,j<m→s≠slot j)→(∀ k,k<n→s≠bx k)→a.tmps[s]?=a0.tmps[s]?) →
   (∀ j' ∈ dep j,∃ u,a.tmps[slot j']?=some u∧V j' w u)→wpOp P ops Q (pv j) (fun a' w'=>∃ u,a'=a.put (some (slot j)) u∧V j w' u∧Bw w w') a w)
  (hal:∀ k,k<n→∃ o,ops[pa k]?=some o∧o.guard=none∧o.op=.alloc T∧o.dst=some (bx k))
  (hz:∀ w,(zeroValue T).run P w=.ok (.agg zs) w) (hi:(P.info? T).map (·.size)=some zs.size)
  (hst:∀ k,k<n→vs k<m∧∃ o,ops[ps k]?=some o∧o.guard=none∧o.op=.store T (.tmp (bx k)) (.tmp (slot (vs k)))∧o.dst=none∧(∃ e ∈ o.after,e.on=pa k∧Region.binds .any e=true)∧(∃ e ∈ o.after,e.on=pv (vs k)∧Region.binds .any e=true))
  (hin:∀ j,j<m→slot j<a0.tmps.size) (hbin:∀ k,k<n→bx k<a0.tmps.size)
  (hinj:∀ j j',j<m→j'<m→slot j=slot j'→j=j') (hbinj:∀ k k',k<n→k'<n→bx k=bx k'→k=k') (hsb:∀ j k,j<m→k<n→slot j≠bx k)
  (hQ:∀ (u:Nat→Value) (g:Nat→Nat) (a:Act) (w:World),Bw W0 w→(∀ j,j<m→a.tmps[slot j]?=some (u j)∧V j w (u j)) →
   (∀ k,k<n→a.tmps[bx k]?=some (.pointer (some ⟨g k,0,none⟩))∧W0.heap.size≤g k∧∃ cs,u (vs k)=.agg cs∧w.heap[g k]?=some (.cells cs T (0,0))) →
   (∀ k k',k<n→k'<n→k≠k'→g k≠g k')→a.tmps.size=a0.tmps.size→a.defers=a0.defers→(∀ s,(∀ j,j<m→s≠slot j)→(∀ k,k<n→s≠bx k)→a.tmps[s]?=a0.tmps[s]?)→Q .normal a w) :
  (Code.region id ops true).wp P Q a0 W0:=by
 refine wp_region_any hm ?_
 refine wpAny_inv (ParX pv pa ps W0 a0 m n slot bx vs T zs V) ?_ ?_ ops.size _ a0 _ (by simp) ?_ (by simp)
 ·-- a step
  intro listed a w i hl hI hr
  obtain⟨hun,o,ho,hall⟩:=mem_ready.1 hr
  have hunf:=not_listed hun
  have hio:i<ops.size:=(Array.getElem?_eq_some_iff.1 ho).1
  have hil:i<listed.size:=by omega
  have hset:=listed_set hil
  have hne:∀ x,x≠i→(listed.setIfInBounds i true).getD x false=listed.getD x false:=fun x hx=>getD_set_ne false (Ne.symm hx)
  rcases hall0 i hio with ⟨i,him,rfl⟩|⟨k,hk,rfl⟩|⟨k,hk,rfl⟩
  ·have nv:∀ j,j<m→j≠i→pv j≠pv i:=fun j hj e e2=>e (hvv j i hj him e2)
   have na:∀ k,k<n→pa k≠pv i:=fun k hk e=>hva i k him hk e.symm
   have ns:∀ k,k<n→ps k≠pv i:=fun k hk e=>hvs i k him hk e.symm
   refine wpOp_mono ?_ (hA i him a w hI.below hI.other fun j' hj'=>?_)
   ·rintro a' w' ⟨u,rfl,hu,hb⟩
    have hlt:slot i<a.tmps.size:=by rw[hI.size];exact hin i him
    refine⟨hI.below.trans (hb.mono hI.below.size),by rw[put_size];exact hI.size,by rw[put_defers];exact hI.defers,fun s h1 h2=>?_,fun j hj h1=>?_,fun k hk h1=>?_,fun k k' hk hk' hkk h1 h2=>?_,fun k hk h1=>?_⟩
    ·rw[put_get_ne (h1 i him)];exact hI.other s h1 h2
    ·by_cases e:j=i
     ·subst e;exact⟨u,put_get hlt,hu⟩
     ·rw[hne _ (nv j hj e)] at h1
      obtain⟨u',g1,g2⟩:=hI.val j hj h1
      exact⟨u',by rw[put_get_ne (fun e2=>e (hinj j i hj him e2))];exact g1,hV1 _ _ _ _ hb g2⟩
    ·rw[hne _ (na k hk)] at h1
     obtain⟨g,cs,g1,g2,g3,g4,g5,g6⟩:=hI.box k hk h1
     refine⟨g,cs,by rw[put_get_ne (Ne.symm (hsb i k him hk))];exact g1,g2,(hb.block g (Array.getElem?_eq_some_iff.1 g3).1).trans g3,g4,fun h2=>?_,fun h2=>g6 (by rw[←hne (ps k) (ns k hk)];exact h2)⟩
     rw[hne _ (ns k hk)] at h2
     have h3:=(hI.stored k hk h2).2
     have h4:vs k≠i:=fun e=>by rw[e,hunf] at h3;cases h3
     rw[put_get_ne (fun e2=>h4 (hinj _ _ (hst k hk).1 him e2))]
     exact g5 h2
    ·rw[hne _ (na k hk)] at h1
     rw[hne _ (na k' hk')] at h2
     rw[put_get_ne (Ne.symm (hsb i k him hk)),put_get_ne (Ne.symm (hsb i k' him hk'))]
     exact hI.apart k k' hk hk' hkk h1 h2
    ·rw[hne _ (ns k hk)] at h1
     obtain⟨h2,h3⟩:=hI.stored k hk h1
     exact⟨getD_set_true h2,getD_set_true h3⟩
   ·obtain⟨h1,h2⟩:=hdep i him j' hj'
    obtain⟨e,he,h3,hbd⟩:=h2 o ho
    exact hI.val _ h1 (by rw[←h3];exact hall e he hbd)
  ·have nv:∀ j,j<m→pv j≠pa k:=fun j hj=>hva j k hj hk
   have na:∀ k1,k1<n→k1≠k→pa k1≠pa k:=fun k1 hk1 e e2=>e (haa k1 k hk1 hk e2)
   have ns:∀ k1,k1<n→ps k1≠pa k:=fun k1 hk1 e=>has k k1 hk hk1 e.symm
   obtain⟨o',ho',hg,hop,hd⟩:=hal k hk
   refine step_alloc ho' hg hop hz ?_
   rw[hd]
   have hlt:bx k<a.tmps.size:=by rw[hI.size];exact hbin k hk
   have hbw:Below w.heap.size w (w.alloc (.cells zs T)):=(Below.refl _ _).alloc (Nat.le_refl _) _
   refine⟨hI.below.trans (hbw.mono hI.below.size),by rw[put_size];exact hI.size,by rw[put_defers];exact hI.defers,fun s h1 h2=>?_,fun j hj h1=>?_,fun k1 hk1 h1=>?_,fun k1 k2 hk1 hk2 hkk h1 h2=>?_,fun k1 hk1 h1=>?_⟩
   ·rw[put_get_ne (h2 k hk)];exact hI.other s h1 h2
   ·rw[hne _ (nv j hj)] at h1
    obtain⟨u',g1,g2⟩:=hI.val j hj h1
    exact⟨u',by rw[put_get_ne (hsb j k hj hk)];exact g1,hV1 _ _ _ _ hbw g2⟩
   ·by_cases e:k1=k
    ·subst e
     refine⟨w.heap.size,zs,put_get hlt,hI.below.size,heap_alloc_new _ _,rfl,fun h2=>?_,fun _=>rfl⟩
     rw[hne _ (ns k1 hk)] at h2
     have:=(hI.stored k1 hk h2).1
     rw[hunf] at this
     cases this
    ·rw[hne _ (na k1 hk1 e)] at h1
     obtain⟨g,cs,g1,g2,g3,g4,g5,g6⟩:=hI.box k1 hk1 h1
     refine⟨g,cs,by rw[put_get_ne (fun e2=>e (hbinj _ _ hk1 hk e2))];exact g1,g2,(hbw.block g (Array.getElem?_eq_some_iff.1 g3).1).trans g3,g4,fun h2=>?_,fun h2=>g6 (by rw[←hne (ps k1) (ns k1 hk1)];exact h2)⟩
     rw[hne _ (ns k1 hk1)] at h2
     rw[put_get_ne (hsb _ k (hst k1 hk1).1 hk)]
     exact g5 h2
   ·have old:∀ k1,k1<n→k1≠k→listed.getD (pa k1) false=true→a.tmps[bx k1]?≠some (.pointer (some ⟨w.heap.size,0,none⟩)):=fun k1 hk1 e h1 h2=>by
     obtain⟨g,cs,g1,g2,g3,g4,g5,g6⟩:=hI.box k1 hk1 h1
     have hlt:=(Array.getElem?_eq_some_iff.1 g3).1
     rw[g1] at h2
     simp only[Option.some.injEq,Value.pointer.injEq,Addr.mk.injEq] at h2
     omega
    by_cases e1:k1=k
    ·subst e1
     rw[hne _ (na k2 hk2 (Ne.symm hkk))] at h2
     rw[put_get hlt,put_get_ne (fun e2=>hkk (hbinj _ _ hk hk2 e2.symm))]
     exact Ne.symm (old k2 hk2 (Ne.symm hkk) h2)
    ·rw[hne _ (na k1 hk1 e1)] at h1
     by_cases e2:k2=k
     ·subst e2
      rw[put_get hlt,put_get_ne (fun e2=>e1 (hbinj _ _ hk1 hk e2))]
      exact old k1 hk1 e1 h1
     ·rw[hne _ (na k2 hk2 e2)] at h2
      rw[put_get_ne (fun e3=>e1 (hbinj _ _ hk1 hk e3)),put_get_ne (fun e3=>e2 (hbinj _ _ hk2 hk e3))]
      exact hI.apart k1 k2 hk1 hk2 hkk h1 h2
   ·rw[hne _ (ns k1 hk1)] at h1
    obtain⟨h2,h3⟩:=hI.stored k1 hk1 h1
    exact⟨getD_set_true h2,getD_set_true h3⟩
  ·have nv:∀ j,j<m→pv j≠ps k:=fun j hj=>hvs j k hj hk
   have na:∀ k1,k1<n→pa k1≠ps k:=fun k1 hk1=>has k1 k hk1 hk
   have ns:∀ k1,k1<n→k1≠k→ps k1≠ps k:=fun k1 hk1 e e2=>e (hss k1 k hk1 hk e2)
   obtain⟨hvm,o',ho',hg,hop,hd,⟨e1,he1,hon1,hb1⟩,e2,he2,hon2,hb2⟩:=hst k hk
   obtain rfl:o'=o:=Option.some.inj (ho'.symm.trans ho)
   have l1:=hall e1 he1 hb1
   have l2:=hall e2 he2 hb2
   rw[hon1] at l1
   rw[hon2] at l2
   obtain⟨u,hu1,hu2⟩:=hI.val _ hvm l2
   obtain⟨cs,rfl,hc1,hc2⟩:=hVs k hk w u hu2
   obtain⟨g,old,g1,g2,g3,g4,g5,g6⟩:=hI.box k hk l1
   rw[g6 hunf] at g3 g4
   refine step_store ho' hg hop g1 hu1 g3 (by rw[hc1];exact hi) (by omega) hc2 ?_
   rw[hd]
   show ParX pv pa ps W0 a0 m n slot bx vs T zs V _ a _
   refine⟨below_row hI.below g2 _,hI.size,hI.defers,hI.other,fun j hj h1=>?_,fun k1 hk1 h1=>?_,fun k1 k2 hk1 hk2 hkk h1 h2=>?_,fun k1 hk1 h1=>?_⟩
   ·rw[hne _ (nv j hj)] at h1
    obtain⟨u',q1,q2⟩:=hI.val j hj h1
    exact⟨u',q1,hV2 _ _ _ _ _ g3 q2⟩
   ·rw[hne _ (na k1 hk1)] at h1
    by_cases e:k1=k
    ·subst e
     exact⟨g,cs,g1,g2,setRow_heap w g _ cs T _ g3,hc1,fun _=>hu1,fun h2=>by rw[hset] at h2;cases h2⟩
    ·obtain⟨g',cs',q1,q2,q3,q4,q5,q6⟩:=hI.box k1 hk1 h1
     have hgg:g'≠g:=fun e2=>by
      subst e2
      exact hI.apart k1 k hk1 hk e h1 l1 (q1.trans g1.symm)
     refine⟨g',cs',q1,q2,(setRow_other w g g' cs hgg).trans q3,q4,fun h2=>?_,fun h2=>q6 (by rw[←hne (ps k1) (ns k1 hk1 e)];exact h2)⟩
     rw[hne _ (ns k1 hk1 e)] at h2
     exact q5 h2
   ·rw[hne _ (na k1 hk1)] at h1
    rw[hne _ (na k2 hk2)] at h2
    exact hI.apart k1 k2 hk1 hk2 hkk h1 h2
   ·by_cases e:k1=k
    ·subst e
     exact⟨getD_set_true l1,getD_set_true l2⟩
    ·rw[hne _ (ns k1 hk1 e)] at h1
     obtain⟨h2,h3⟩:=hI.stored k1 hk1 h1
     exact⟨getD_set_true h2,getD_set_true h3⟩
 ·-- the end: all have come up
  intro listed a w hl hI hr
  have hfull:∀ i,i<ops.size→listed.getD i false=true:=by
   intro i
   induction i using Nat.strongRecOn with
   | _ i ih =>
    intro hi
    cases hx:listed.getD i false with
    | true=>rfl
    | false =>
     exfalso
     have ho:ops[i]?=some ops[i]:=Array.getElem?_eq_getElem hi
     have:i ∈ Region.ready .any ops listed:=by
      refine mem_ready.2 ⟨?_,ops[i],ho,fun e he hbe=>ih e.on (hord i _ ho e he hbe) (Nat.lt_trans (hord i _ ho e he hbe) hi)⟩
      have hil:i<listed.size:=by omega
      simp only[Array.getD_eq_getD_getElem?,Array.getElem?_eq_getElem hil,Option.getD_some] at hx ⊢
      exact hx
     rw[hr] at this
     cases this
  have hval:∀ j,∃ u,j<m→a.tmps[slot j]?=some u∧V j w u:=fun j=>by
   by_cases hj:j<m
   ·obtain⟨u,h1,h2⟩:=hI.val j hj (hfull _ (hpv j hj))
    exact⟨u,fun _=>⟨h1,h2⟩⟩
   ·exact⟨undef,fun h=>absurd h hj⟩
  obtain⟨u,hu⟩:=Classical.axiomOfChoice hval
  have hbox:∀ k,∃ g,k<n→a.tmps[bx k]?=some (.pointer (some ⟨g,0,none⟩))∧W0.heap.size≤g∧∃ cs,u (vs k)=.agg cs∧w.heap[g]?=some (.cells cs T (0,0)):=fun k=>by
   by_cases hk:k<n
   ·obtain⟨g,cs,h1,h2,h3,h4,h5,-⟩:=hI.box k hk (hfull _ (hpa k hk))
    refine⟨g,fun _=>⟨h1,h2,cs,?_,h3⟩⟩
    have h6:=h5 (hfull _ (hps k hk))
    rw[(hu _ (hst k hk).1).1] at h6
    exact Option.some.inj h6
   ·exact⟨0,fun h=>absurd h hk⟩
  obtain⟨g,hg⟩:=Classical.axiomOfChoice hbox
  exact hQ u g a w hI.below hu hg (fun k k' hk hk' hkk e=>hI.apart k k' hk hk' hkk (hfull _ (hpa k hk)) (hfull _ (hpa k' hk')) (by rw[(hg k hk).1,(hg k' hk').1,e])) hI.size hI.defers hI.other
 ·-- the start
  have h0:∀ x,(Array.replicate ops.size false).getD x false=true→False:=fun x h=>by
   simp[Array.getD_eq_getD_getElem?,Array.getElem?_replicate] at h
   split at h <;> simp at h
  exact⟨(Below.refl _ _).drew,rfl,rfl,fun _ _ _=>rfl,fun j _ h=>(h0 _ h).elim,fun k _ h=>(h0 _ h).elim,fun k k' _ _ _ h=>(h0 _ h).elim,fun k _ h=>(h0 _ h).elim⟩
structure KeepB (n:Nat) (gs:Nat→Nat) (B:Nat) (W0 w:World):Prop where
 below:Below B W0 w
 size:W0.heap.size≤w.heap.size
 keep:∀ b,b<W0.heap.size→(∀ k,k<n→b≠gs k)→w.heap[b]?=W0.heap[b]?
theorem KeepB.step {n:Nat} {gs:Nat→Nat} {B:Nat} {W0 w w':World} (h:KeepB n gs B W0 w) (hB:B≤W0.heap.size) (hb:Bw w w'):KeepB n gs B W0 w' :=
 ⟨h.below.trans (hb.mono (Nat.le_trans hB h.size)),Nat.le_trans h.size hb.size,fun b h1 h2=>(hb.block b (Nat.lt_of_lt_of_le h1 h.size)).trans (h.keep b h1 h2)⟩
theorem KeepB.row {n:Nat} {gs:Nat→Nat} {B:Nat} {W0 w:World} (h:KeepB n gs B W0 w) {k:Nat} (hk:k<n) (hB:B≤gs k) (cs:Array Value):KeepB n gs B W0 (w.setRow (gs k) cs) :=
 ⟨below_row h.below hB _,by simpa using h.size,fun b h1 h2=>(setRow_other w (gs k) b cs (h2 k hk)).trans (h.keep b h1 h2)⟩
structure ParQ (pv ps:Nat→Nat) (rd:Nat→List Nat) (W0:World) (a0:Act) (m n:Nat) (slot:Nat→Tmp) (vs gs:Nat→Nat) (B:Nat) (T:TypeId) (C:Array Value→Prop) (z:Nat) (V:Nat→World→Value→Prop) (listed:Array Bool) (a:Act) (w:World):Prop where
 kept:KeepB n gs B W0 w
 size:a.tmps.size=a0.tmps.size
 defers:a.defers=a0.defers
 other:∀ s,(∀ j,j<m→s≠slot j)→a.tmps[s]?=a0.tmps[s]?
 val:∀ j,j<m→listed.getD (pv j) false=true→∃ u,a.tmps[slot j]?=some u∧V j w u
 box:∀ k,k<n→∃ cs,w.heap[gs k]?=some (.cells cs T (0,0))∧cs.size=z∧C cs∧(listed.getD (ps k) false=true→a.tmps[slot (vs k)]?=some (.agg cs))∧(listed.getD (ps k) false=false→w.heap[gs k]?=W0.heap[gs k]?)
 stored:∀ k,k<n→listed.getD (ps k) false=true→∀ j ∈ rd k,listed.getD (pv j) false=true
theorem parq_region {P:Program} {ops:Array Oper} {Q:Exit→Act→World→Prop} {id:Nat} (hm:P.follows .mixedOrders=true) (pv ps:Nat→Nat) (m n:Nat) (slot bx:Nat→Tmp) (vs gs:Nat→Nat) (B:Nat) (dep rd:Nat→List Nat) (T:TypeId) (C:Array Value→Prop) (z:Nat)
  (W0:World) (a0:Act) (V:Nat→World→Value→Prop) (hcov:∀ i,i<ops.size→(∃ j,j<m∧i=pv j)∨∃ k,k<n∧i=ps k) (hpv:∀ j,j<m→pv j<ops.size) (hps:∀ k,k<n→ps k<ops.size) (dvs:∀ j k,j<m→k<n→pv j≠ps k) (ivv:∀ j j',j<m→j'<m→pv j=pv j'→j=j') (iss:∀ k k',k<n→k'<n→ps k=ps k'→k=k')
  (hord:∀ (i:Nat) (o:Oper),ops[i]?=some o→∀ e ∈ o.after,Region.binds .any e=true→e.on<i)
  (hV1:∀ j w w' u,Bw w w'→V j w u→V j w' u)
  (hV2:∀ j w u g cs cs',w.heap[g]?=some (.cells cs T (0,0))→C cs→V j w u→V j (w.setRow g cs') u)
  (hVs:∀ k,k<n→∀ w u,V (vs k) w u→∃ cs:Array Value,u=.agg cs∧cs.size=z∧C cs∧cs.all (·.oneCell')=true)
  (hdep:∀ j,j<m→∀ j' ∈ dep j,j'<m∧∀ o,ops[pv j]?=some o→∃ e ∈ o.after,e.on=pv j'∧Region.binds .any e=true)
  (hA:∀ j,j<m→∀ (a:Act) (w:World),KeepB n gs B W0 w→(∀ s,(∀ j,j<m→s≠slot j)→a.tmps[s]?=a0.tmps[s]?) →
   (∀ j' ∈ dep j,∃ u,a.tmps[slot j']?=some u∧V j' w u)→(∀ k,k<n→j ∈ rd k→w.heap[gs k]?=W0.heap[gs k]?)→wpOp P ops Q (pv j) (fun a' w'=>∃ u,a'=a.put (some (slot j)) u∧V j w' u∧Bw w w') a w)
  (hi:(P.info? T).map (·.size)=some z)
  (hst:∀ k,k<n→vs k<m∧∃ o,ops[ps k]?=some o∧o.guard=none∧o.op=.store T (.tmp (bx k)) (.tmp (slot (vs k)))∧o.dst=none∧vs k ∈ rd k∧∀ j ∈ rd k,j<m∧∃ e ∈ o.after,e.on=pv j∧Region.binds .any e=true)
  (hbx:∀ k,k<n→a0.tmps[bx k]?=some (.pointer (some ⟨gs k,0,none⟩))∧∀ j,j<m→bx k≠slot j)
  (hbox:∀ k,k<n→B≤gs k∧∃ cs,W0.heap[gs k]?=some (.cells cs T (0,0))∧cs.size=z∧C cs)
  (hgs:∀ k k',k<n→k'<n→gs k=gs k'→k=k') (hB:B≤W0.heap.size)
  (hin:∀ j,j<m→slot j<a0.tmps.size)
  (hinj:∀ j j',j<m→j'<m→slot j=slot j'→j=j')
  (hQ:∀ (u:Nat→Value) (a:Act) (w:World),KeepB n gs B W0 w→(∀ j,j<m→a.tmps[slot j]?=some (u j)∧V j w (u j)) →
   (∀ k,k<n→∃ cs,u (vs k)=.agg cs∧w.heap[gs k]?=some (.cells cs T (0,0))) →
   a.tmps.size=a0.tmps.size→a.defers=a0.defers→(∀ s,(∀ j,j<m→s≠slot j)→a.tmps[s]?=a0.tmps[s]?)→Q .normal a w) :
  (Code.region id ops true).wp P Q a0 W0:=by
 have hvrd:∀ k,k<n→vs k ∈ rd k:=fun k hk=>by
  obtain⟨_,_,_,_,_,_,h,_⟩:=hst k hk
  exact h
 refine wp_region_any hm ?_
 refine wpAny_inv (ParQ pv ps rd W0 a0 m n slot vs gs B T C z V) ?_ ?_ ops.size _ a0 _ (by simp) ?_ (by simp)
 ·-- a step
  intro listed a w i hl hI hr
  obtain⟨hun,o,ho,hall⟩:=mem_ready.1 hr
  have hunf:=not_listed hun
  have hio:i<ops.size:=(Array.getElem?_eq_some_iff.1 ho).1
  have hil:i<listed.size:=by omega
  have hset:=listed_set hil
  have hne:∀ x,x≠i→(listed.setIfInBounds i true).getD x false=listed.getD x false:=fun x hx=>getD_set_ne false (Ne.symm hx)
  rcases hcov i hio with ⟨i,him,rfl⟩|⟨k,hk,rfl⟩
  ·refine wpOp_mono ?_ (hA i him a w hI.kept hI.other (fun j' hj'=>?_) (fun k hk hjk=>?_))
   ·rintro a' w' ⟨u,rfl,hu,hb⟩
    have hlt:slot i<a.tmps.size:=by rw[hI.size];exact hin i him
    refine⟨hI.kept.step hB hb,by rw[put_size];exact hI.size,by rw[put_defers];exact hI.defers,fun s h1=>?_,fun j hj h1=>?_,fun k hk=>?_,fun k hk h1 jr hjr=>?_⟩
    ·rw[put_get_ne (h1 i him)];exact hI.other s h1
    ·by_cases e:j=i
     ·subst e;exact⟨u,put_get hlt,hu⟩
     ·rw[hne (pv j) (fun e2=>e (ivv j i hj him e2))] at h1
      obtain⟨u',g1,g2⟩:=hI.val j hj h1
      exact⟨u',by rw[put_get_ne (fun e2=>e (hinj j i hj him e2))];exact g1,hV1 _ _ _ _ hb g2⟩
    ·obtain⟨cs,g3,g4,g5,g6,g7⟩:=hI.box k hk
     refine⟨cs,(hb.block _ (Array.getElem?_eq_some_iff.1 g3).1).trans g3,g4,g5,fun h2=>?_,fun h2=>(hb.block _ (Array.getElem?_eq_some_iff.1 g3).1).trans (g7 (by rw[←hne (ps k) (Ne.symm (dvs i k him hk))];exact h2))⟩
     rw[hne _ (Ne.symm (dvs i k him hk))] at h2
     have h3:=hI.stored k hk h2 (vs k) (hvrd k hk)
     have h4:vs k≠i:=fun e=>by rw[e,hunf] at h3;cases h3
     rw[put_get_ne (fun e2=>h4 (hinj _ _ (hst k hk).1 him e2))]
     exact g6 h2
    ·rw[hne _ (Ne.symm (dvs i k him hk))] at h1
     exact getD_set_true (hI.stored k hk h1 jr hjr)
   ·obtain⟨h1,h2⟩:=hdep i him j' hj'
    obtain⟨e,he,hon,hbd⟩:=h2 o ho
    exact hI.val _ h1 (by rw[←hon];exact hall e he hbd)
   ·obtain⟨cs,g3,g4,g5,g6,g7⟩:=hI.box k hk
    refine g7 ?_
    cases hs:listed.getD (ps k) false
    ·rfl
    ·have h3:=hI.stored k hk hs i hjk
     rw[hunf] at h3;cases h3
  ·obtain⟨hvm,o',ho',hg,hop,hd,hvr,hrd⟩:=hst k hk
   obtain rfl:o'=o:=Option.some.inj (ho'.symm.trans ho)
   have lr:∀ j ∈ rd k,listed.getD (pv j) false=true:=fun j hj=>by
    obtain⟨-,e2,he2,hon2,hb2⟩:=hrd j hj
    rw[←hon2]
    exact hall e2 he2 hb2
   have l2:=lr _ hvr
   obtain⟨u,hu1,hu2⟩:=hI.val _ hvm l2
   obtain⟨cs,rfl,hc1,hcC,hc2⟩:=hVs k hk w u hu2
   obtain⟨old,g3,g4,g5,g6,-⟩:=hI.box k hk
   have hbk:a.tmps[bx k]?=some (.pointer (some ⟨gs k,0,none⟩)):=by rw[hI.other _ (hbx k hk).2];exact(hbx k hk).1
   refine step_store ho' hg hop hbk hu1 g3 (by rw[hc1];exact hi) (by omega) hc2 ?_
   rw[hd]
   show ParQ pv ps rd W0 a0 m n slot vs gs B T C z V _ a _
   refine⟨hI.kept.row hk (hbox k hk).1 _,hI.size,hI.defers,hI.other,fun j hj h1=>?_,fun k1 hk1=>?_,fun k1 hk1 h1 jr hjr=>?_⟩
   ·rw[hne (pv j) (dvs j k hj hk)] at h1
    obtain⟨u',q1,q2⟩:=hI.val j hj h1
    exact⟨u',q1,hV2 _ _ _ _ _ _ g3 g5 q2⟩
   ·by_cases e:k1=k
    ·subst e
     exact⟨cs,setRow_heap w (gs k1) old cs T _ g3,hc1,hcC,fun _=>hu1,fun h2=>by rw[hset] at h2;cases h2⟩
    ·obtain⟨cs',q3,q4,q5,q6,q7⟩:=hI.box k1 hk1
     have hgg:gs k1≠gs k:=fun e2=>e (hgs k1 k hk1 hk e2)
     refine⟨cs',(setRow_other w (gs k) (gs k1) cs hgg).trans q3,q4,q5,fun h2=>?_,fun h2=>(setRow_other w (gs k) (gs k1) cs hgg).trans (q7 (by rw[←hne (ps k1) (fun e2=>e (iss k1 k hk1 hk e2))];exact h2))⟩
     rw[hne _ (fun e2=>e (iss k1 k hk1 hk e2))] at h2
     exact q6 h2
   ·by_cases e:k1=k
    ·subst e
     exact getD_set_true (lr jr hjr)
    ·rw[hne _ (fun e2=>e (iss k1 k hk1 hk e2))] at h1
     exact getD_set_true (hI.stored k1 hk1 h1 jr hjr)
 ·-- the end: all have come up
  intro listed a w hl hI hr
  have hfull:∀ i,i<ops.size→listed.getD i false=true:=by
   intro i
   induction i using Nat.strongRecOn with
   | _ i ih =>
    intro hi
    cases hx:listed.getD i false with
    | true=>rfl
    | false =>
     exfalso
     have ho:ops[i]?=some ops[i]:=Array.getElem?_eq_getElem hi
     have:i ∈ Region.ready .any ops listed:=by
      refine mem_ready.2 ⟨?_,ops[i],ho,fun e he hbe=>ih e.on (hord i _ ho e he hbe) (Nat.lt_trans (hord i _ ho e he hbe) hi)⟩
      have hil:i<listed.size:=by omega
      simp only[Array.getD_eq_getD_getElem?,Array.getElem?_eq_getElem hil,Option.getD_some] at hx ⊢
      exact hx
     rw[hr] at this
     cases this
  have hval:∀ j,∃ u,j<m→a.tmps[slot j]?=some u∧V j w u:=fun j=>by
   by_cases hj:j<m
   ·obtain⟨u,h1,h2⟩:=hI.val j hj (hfull (pv j) (hpv j hj))
    exact⟨u,fun _=>⟨h1,h2⟩⟩
   ·exact⟨undef,fun h=>absurd h hj⟩
  obtain⟨u,hu⟩:=Classical.axiomOfChoice hval
  refine hQ u a w hI.kept hu (fun k hk=>?_) hI.size hI.defers hI.other
  obtain⟨cs,h3,h4,h5,h6,-⟩:=hI.box k hk
  have h7:=h6 (hfull _ (hps k hk))
  rw[(hu _ (hst k hk).1).1] at h7
  exact⟨cs,Option.some.inj h7,h3⟩
 ·-- the start
  have h0:∀ x,(Array.replicate ops.size false).getD x false=true→False:=fun x h=>by
   simp[Array.getD_eq_getD_getElem?,Array.getElem?_replicate] at h
   split at h <;> simp at h
  refine⟨⟨(Below.refl _ _).drew,Nat.le_refl _,fun _ _ _=>rfl⟩,rfl,rfl,fun _ _=>rfl,fun j _ h=>(h0 _ h).elim,fun k hk=>?_,fun k _ h=>(h0 _ h).elim⟩
  obtain⟨-,cs,h1,h2,h3⟩:=hbox k hk
  exact⟨cs,h1,h2,h3,fun h=>(h0 _ h).elim,fun _=>rfl⟩
def RowsAll (T:TypeId) (C:Array Value→Prop):List (World→Value→Prop)→Prop
 | []=>True
 | P :: r=>(∀ w u g cs cs',w.heap[g]?=some (.cells cs T (0,0))→C cs→P w u→P (w.setRow g cs') u)∧RowsAll T C r
theorem vL_rows {T:TypeId} {C:Array Value→Prop}:∀ {L:List (World→Value→Prop)},RowsAll T C L→∀ j w u g cs cs',w.heap[g]?=some (.cells cs T (0,0))→C cs→vL L j w u→vL L j (w.setRow g cs') u
 | [],_,j=>fun w u g cs cs' _ _ h=>by simp[vL] at h
 | P :: r,hL,0=>hL.1
 | P :: r,hL,j+1=>fun w u g cs cs' h1 h2 h=>vL_rows hL.2 j w u g cs cs' h1 h2 h
theorem isV_rows (x:Value) (T:TypeId) (C:Array Value→Prop):∀ w u g cs cs',w.heap[g]?=some (.cells cs T (0,0))→C cs→isV x w u→isV x (w.setRow g cs') u:=fun _ _ _ _ _ _ _ h=>h
def qrow (PVL PSL SL:List Nat) (D rd:List (List Nat)) (vs:List Nat) (i:Nat) (o:Oper):Bool :=
 o.after.all (fun e => !(Region.binds .any e)||decide (e.on<i))&&(PVL.contains i||PSL.contains i)
def qval (ops:Array Oper) (PVL SL:List Nat) (D:List (List Nat)) (j:Nat):Bool :=
 match ops[PVL.getD j 0]? with
 | some o=>o.dst==some (SL.getD j 0)&&(dL D j).all (fun j'=>decide (j'<PVL.length)&&vhas o (PVL.getD j' 0))
 | none=>false
def qsto (ops:Array Oper) (PVL PSL:List Nat) (rd:List (List Nat)) (vs:List Nat) (k:Nat):Bool :=
 match ops[PSL.getD k 0]? with
 | some o=>o.dst==none&&o.guard.isNone&&decide (vs.getD k 0<PVL.length)&&(dL rd k).contains (vs.getD k 0)&&(dL rd k).all (fun j=>decide (j<PVL.length)&&vhas o (PVL.getD j 0))
 | none=>false
def qchk (ops:Array Oper) (PVL PSL SL:List Nat) (D rd:List (List Nat)) (vs:List Nat):Bool :=
 ((List.range ops.size).all fun i=>match ops[i]? with|some o=>qrow PVL PSL SL D rd vs i o|none=>false)&&(List.range PVL.length).all (qval ops PVL SL D)&&(List.range PSL.length).all (qsto ops PVL PSL rd vs)&&decide (PVL++PSL).Nodup&&decide SL.Nodup&&decide (SL.length=PVL.length)
theorem getD_mem {l:List Nat} {j:Nat} (h:j<l.length):l.getD j 0 ∈ l:=by
 rw[List.getD_eq_getElem?_getD,List.getElem?_eq_getElem h]
 exact List.getElem_mem h
theorem getD_inj {l:List Nat} (hn:l.Nodup) {i j:Nat} (hi:i<l.length) (hj:j<l.length) (h:l.getD i 0=l.getD j 0):i=j:=by
 rw[List.getD_eq_getElem?_getD,List.getD_eq_getElem?_getD,List.getElem?_eq_getElem hi,List.getElem?_eq_getElem hj] at h
 exact(List.getElem_inj hn).1 h
theorem mem_getD {l:List Nat} {x:Nat} (h:x ∈ l):∃ j,j<l.length∧x=l.getD j 0:=by
 obtain⟨j,hj,e⟩:=List.mem_iff_getElem.1 h
 exact⟨j,hj,by rw[List.getD_eq_getElem?_getD,List.getElem?_eq_getElem hj];exact e.symm⟩
theorem q_region {P:Program} {ops:Array Oper} {Q:Exit→Act→World→Prop} {id:Nat} (hm:P.follows .mixedOrders=true) (PVL PSL SL:List Nat) (D rd:List (List Nat)) (vs:List Nat) (bx gs:Nat→Nat) (B:Nat) (T:TypeId) (C:Array Value→Prop) (z:Nat)
  (W0:World) (a0:Act) (L:List (World→Value→Prop)) (hchk:qchk ops PVL PSL SL D rd vs=true)
  (hV1:StaysAll L) (hV2:RowsAll T C L) (hsl:∀ s ∈ SL,s<a0.tmps.size)
  (hVs:∀ k,k<PSL.length→∀ w u,vL L (vs.getD k 0) w u→∃ cs:Array Value,u=.agg cs∧cs.size=z∧C cs∧cs.all (·.oneCell')=true)
  (hA:∀ j,j<PVL.length→∀ o,ops[PVL.getD j 0]?=some o→∀ (a:Act) (w:World),KeepB PSL.length gs B W0 w→(∀ s:Nat,SL.contains s=false→a.tmps[s]?=a0.tmps[s]?) →
   (∀ j' ∈ dL D j,∃ u,a.tmps[SL.getD j' 0]?=some u∧vL L j' w u)→(∀ k,k<PSL.length→j ∈ dL rd k→w.heap[gs k]?=W0.heap[gs k]?) →
   (o.guard=none∧o.wp P a w (fun a' w'=>∃ u,a'=a.put o.dst u∧vL L j w' u∧Bw w w') Q)∨wpOp P ops Q (PVL.getD j 0) (fun a' w'=>∃ u,a'=a.put o.dst u∧vL L j w' u∧Bw w w') a w)
  (hi:(P.info? T).map (·.size)=some z)
  (hst:∀ k,k<PSL.length→∃ o,ops[PSL.getD k 0]?=some o∧o.op=.store T (.tmp (bx k)) (.tmp (SL.getD (vs.getD k 0) 0)))
  (hbx:∀ k,k<PSL.length→a0.tmps[bx k]?=some (.pointer (some ⟨gs k,0,none⟩))∧SL.contains (bx k)=false)
  (hbox:∀ k,k<PSL.length→B≤gs k∧∃ cs,W0.heap[gs k]?=some (.cells cs T (0,0))∧cs.size=z∧C cs)
  (hgs:∀ k k',k<PSL.length→k'<PSL.length→gs k=gs k'→k=k') (hB:B≤W0.heap.size)
  (hQ:∀ (u:Nat→Value) (w:World),KeepB PSL.length gs B W0 w→(∀ j,j<PVL.length→vL L j w (u j)) →
   (∀ k,k<PSL.length→∃ cs,u (vs.getD k 0)=.agg cs∧w.heap[gs k]?=some (.cells cs T (0,0)))→Q .normal (putL a0 ((List.range PVL.length).map (fun j=>(SL.getD j 0,u j)))) w) :
  (Code.region id ops true).wp P Q a0 W0:=by
 unfold qchk at hchk
 simp only[Bool.and_eq_true,decide_eq_true_eq] at hchk
 obtain⟨⟨⟨⟨⟨h1,h2⟩,h3⟩,h4⟩,h5⟩,h6⟩:=hchk
 obtain⟨n1,n2,n3⟩:=List.nodup_append.1 h4
 have row:∀ {i o},ops[i]?=some o→qrow PVL PSL SL D rd vs i o=true:=fun {i o} ho=>by
  have:=List.all_eq_true.1 h1 i (List.mem_range.2 (Array.getElem?_eq_some_iff.1 ho).1)
  simp only[ho] at this
  exact this
 have val:∀ j,j<PVL.length→∃ o,ops[PVL.getD j 0]?=some o∧o.dst=some (SL.getD j 0)∧∀ j' ∈ dL D j,j'<PVL.length∧∃ e ∈ o.after,e.on=PVL.getD j' 0∧Region.binds .any e=true:=fun j hj=>by
  have:=List.all_eq_true.1 h2 j (List.mem_range.2 hj)
  unfold qval at this
  cases ho:ops[PVL.getD j 0]? with
  | none=>rw[ho] at this;cases this
  | some o =>
   rw[ho] at this
   simp only[Bool.and_eq_true] at this
   refine⟨o,rfl,by simpa using this.1,fun j' hj'=>?_⟩
   have:=List.all_eq_true.1 this.2 j' hj'
   rw[Bool.and_eq_true] at this
   exact⟨of_decide_eq_true this.1,vhas_ex this.2⟩
 have sto:∀ k,k<PSL.length→∃ o,ops[PSL.getD k 0]?=some o∧o.dst=none∧o.guard=none∧vs.getD k 0<PVL.length∧vs.getD k 0 ∈ dL rd k∧∀ j ∈ dL rd k,j<PVL.length∧∃ e ∈ o.after,e.on=PVL.getD j 0∧Region.binds .any e=true:=fun k hk=>by
  have:=List.all_eq_true.1 h3 k (List.mem_range.2 hk)
  unfold qsto at this
  cases ho:ops[PSL.getD k 0]? with
  | none=>rw[ho] at this;cases this
  | some o =>
   rw[ho] at this
   simp only[Bool.and_eq_true] at this
   obtain⟨⟨⟨⟨x1,x2⟩,x3⟩,x4⟩,x5⟩:=this
   refine⟨o,rfl,by simpa using x1,Option.isNone_iff_eq_none.1 x2,of_decide_eq_true x3,by simpa using x4,fun j hj=>?_⟩
   have:=List.all_eq_true.1 x5 j hj
   rw[Bool.and_eq_true] at this
   exact⟨of_decide_eq_true this.1,vhas_ex this.2⟩
 have hoth:∀ {s:Nat},SL.contains s=false→∀ j,j<PVL.length→s≠SL.getD j 0:=fun {s} h j hj e=>by
  have h7:=getD_mem (l:=SL) (j:=j) (by omega)
  rw[←e] at h7
  have:SL.contains s=true:=by simpa using h7
  rw[h] at this;cases this
 refine parq_region hm (fun j=>PVL.getD j 0) (fun k=>PSL.getD k 0) PVL.length PSL.length (fun j=>SL.getD j 0) bx (fun k=>vs.getD k 0) gs B (dL D) (dL rd) T C z W0 a0 (vL L) ?_ ?_ ?_ ?_ (fun j j' hj hj' e=>getD_inj n1 hj hj' e) (fun k k' hk hk' e=>getD_inj n2 hk hk' e) ?_ (fun j w w' u hb h=>vL_stays hV1 j w w' u hb h) (fun j w u g cs cs' y1 y2 h=>vL_rows hV2 j w u g cs cs' y1 y2 h) hVs ?_ ?_ hi ?_ ?_ hbox hgs hB (fun j hj=>hsl _ (getD_mem (by omega))) (fun j j' hj hj' e=>getD_inj h5 (by omega) (by omega) e) ?_
 ·intro i hi'
  have ho:ops[i]?=some ops[i]:=Array.getElem?_eq_getElem hi'
  have:=row ho
  unfold qrow at this
  rw[Bool.and_eq_true,Bool.or_eq_true] at this
  rcases this.2 with h|h
  ·exact .inl (mem_getD (by simpa using h))
  ·exact .inr (mem_getD (by simpa using h))
 ·intro j hj
  obtain⟨o,ho,-⟩:=val j hj
  exact(Array.getElem?_eq_some_iff.1 ho).1
 ·intro k hk
  obtain⟨o,ho,-⟩:=sto k hk
  exact(Array.getElem?_eq_some_iff.1 ho).1
 ·intro j k hj hk
  exact n3 _ (getD_mem hj) _ (getD_mem hk)
 ·intro i o ho e he hb
  have:=row ho
  unfold qrow at this
  rw[Bool.and_eq_true] at this
  have h7:=Array.all_eq_true_iff_forall_mem.1 this.1 e he
  rw[hb] at h7
  exact of_decide_eq_true (by simpa using h7)
 ·intro j hj j' hj'
  obtain⟨o,ho,-,hd⟩:=val j hj
  obtain⟨x1,x2⟩:=hd j' hj'
  refine⟨x1,fun o' ho'=>?_⟩
  obtain rfl:o=o':=Option.some.inj (ho.symm.trans ho')
  exact x2
 ·intro j hj a w hk ho1 hd hrd
  obtain⟨o,ho,hds,-⟩:=val j hj
  have h7:=hA j hj o ho a w hk (fun s hs=>ho1 s (hoth hs)) hd hrd
  rw[hds] at h7
  rcases h7 with ⟨hg,h7⟩|h7
  ·exact step_wanted ho hg h7
  ·exact h7
 ·intro k hk
  obtain⟨o,ho,hop⟩:=hst k hk
  obtain⟨o',ho',x1,x2,x3,x4,x5⟩:=sto k hk
  obtain rfl:o'=o:=Option.some.inj (ho'.symm.trans ho)
  exact⟨x3,o',ho,x2,hop,x1,x4,x5⟩
 ·intro k hk
  exact⟨(hbx k hk).1,hoth (hbx k hk).2⟩
 ·intro u a w hk hu hcs hs hd ho1
  have q1:((List.range PVL.length).map (fun j=>((SL.getD j 0,u j):Tmp×Value))).map (fun p:Tmp×Value=>p.1)=(List.range PVL.length).map (fun j=>SL.getD j 0):=by simp[Function.comp_def]
  have ha:=act_putL (a:=a) (a0:=a0) (l:=(List.range PVL.length).map (fun j=>((SL.getD j 0,u j):Tmp×Value))) (by
    rw[q1]
    refine List.pairwise_map.2 ((List.nodup_range (n:=PVL.length)).imp_of_mem ?_)
    intro x y hx hy hne he
    have:=List.mem_range.1 hx
    have:=List.mem_range.1 hy
    exact hne (getD_inj h5 (by omega) (by omega) he)) hs hd (by
    intro p hp
    obtain⟨i,hi,rfl⟩:=List.mem_map.1 hp
    exact(hu i (List.mem_range.1 hi)).1) (fun s hsn=>ho1 s (fun i hi he=>hsn (List.mem_map.2 ⟨_,List.mem_map.2 ⟨i,List.mem_range.2 hi,rfl⟩,he.symm⟩)))
  rw[ha]
  exact hQ u w hk (fun j hj=>(hu j hj).2) hcs
theorem wpOp_skip {P:Program} {ops:Array Oper} {Q:Exit→Act→World→Prop} {i:Nat} {o og:Oper} {K:Act→World→Prop} {a:Act} {w:World} {j:Nat} {s:Tmp} {b b':Bool}
  (ho:ops[i]?=some o) (hg:o.guard=some (j,b)) (hog:ops[j]?=some og) (hd:og.dst=some s) (hs:a.tmps[s]?=some (.bool b')) (hb:b'≠b) (h:K (a.put o.dst undef) w):wpOp P ops Q i K a w:=by
 unfold wpOp
 simp only[ho]
 rw[if_neg (by simp[Region.wanted,hg,yielded,hog,hd,hs,hb])]
 exact h
theorem wpOp_take {P:Program} {ops:Array Oper} {Q:Exit→Act→World→Prop} {i:Nat} {o og:Oper} {K:Act→World→Prop} {a:Act} {w:World} {j:Nat} {s:Tmp} {b:Bool}
  (ho:ops[i]?=some o) (hg:o.guard=some (j,b)) (hog:ops[j]?=some og) (hd:og.dst=some s) (hs:a.tmps[s]?=some (.bool b)) (h:o.wp P a w K Q):wpOp P ops Q i K a w:=by
 unfold wpOp
 simp only[ho]
 rw[if_pos (by simp[Region.wanted,hg,yielded,hog,hd,hs])]
 exact .inl h
def ZRowsAll (T:TypeId) (zs:Array Value):List (World→Value→Prop)→Prop
 | []=>True
 | P :: r=>(∀ w u g cs',w.heap[g]?=some (.cells zs T (0,0))→P w u→P (w.setRow g cs') u)∧ZRowsAll T zs r
theorem vL_zrows {T:TypeId} {zs:Array Value}:∀ {L:List (World→Value→Prop)},ZRowsAll T zs L→∀ j w u g cs',w.heap[g]?=some (.cells zs T (0,0))→vL L j w u→vL L j (w.setRow g cs') u
 | [],_,j=>fun w u g cs' _ h=>by simp[vL] at h
 | P :: r,hL,0=>hL.1
 | P :: r,hL,j+1=>fun w u g cs' h1 h=>vL_zrows hL.2 j w u g cs' h1 h
def xall (ops:Array Oper) (PVL PNL PSL BL:List Nat) (vs:List Nat) (k:Nat):Bool :=
 match ops[PNL.getD k 0]?,ops[PSL.getD k 0]? with
 | some o,some p=>o.dst==some (BL.getD k 0)&&o.guard.isNone&&p.dst==none&&p.guard.isNone&&decide (vs.getD k 0<PVL.length)&&vhas p (PNL.getD k 0)&&vhas p (PVL.getD (vs.getD k 0) 0)
 | _,_=>false
def xchk (ops:Array Oper) (PVL PNL PSL SL BL:List Nat) (D:List (List Nat)) (vs:List Nat):Bool :=
 ((List.range ops.size).all fun i=>match ops[i]? with|some o=>o.after.all (fun e => !(Region.binds .any e)||decide (e.on<i))&&(PVL.contains i||PNL.contains i||PSL.contains i)|none=>false)&&(List.range PVL.length).all (qval ops PVL SL D)&&(List.range PNL.length).all (xall ops PVL PNL PSL BL vs)&&decide (PVL++(PNL++PSL)).Nodup&&decide (SL++BL).Nodup&&decide (SL.length=PVL.length∧BL.length=PNL.length∧PSL.length=PNL.length)
theorem x_region {P:Program} {ops:Array Oper} {Q:Exit→Act→World→Prop} {id:Nat} (hm:P.follows .mixedOrders=true) (PVL PNL PSL SL BL:List Nat) (D:List (List Nat)) (vs:List Nat) (T:TypeId) (zs:Array Value)
  (W0:World) (a0:Act) (L:List (World→Value→Prop)) (hchk:xchk ops PVL PNL PSL SL BL D vs=true)
  (hV1:StaysAll L) (hV2:ZRowsAll T zs L) (hsl:∀ s ∈ SL++BL,s<a0.tmps.size)
  (hVs:∀ k,k<PNL.length→∀ w u,vL L (vs.getD k 0) w u→∃ cs:Array Value,u=.agg cs∧cs.size=zs.size∧cs.all (·.oneCell')=true)
  (hA:∀ j,j<PVL.length→∀ o,ops[PVL.getD j 0]?=some o→∀ (a:Act) (w:World),Bw W0 w→(∀ s:Nat,(SL++BL).contains s=false→a.tmps[s]?=a0.tmps[s]?) →
   (∀ j' ∈ dL D j,∃ u,a.tmps[SL.getD j' 0]?=some u∧vL L j' w u) →
   (o.guard=none∧o.wp P a w (fun a' w'=>∃ u,a'=a.put o.dst u∧vL L j w' u∧Bw w w') Q)∨wpOp P ops Q (PVL.getD j 0) (fun a' w'=>∃ u,a'=a.put o.dst u∧vL L j w' u∧Bw w w') a w)
  (hal:∀ k,k<PNL.length→∃ o,ops[PNL.getD k 0]?=some o∧o.op=.alloc T)
  (hz:∀ w,(zeroValue T).run P w=.ok (.agg zs) w) (hi:(P.info? T).map (·.size)=some zs.size)
  (hst:∀ k,k<PNL.length→∃ o,ops[PSL.getD k 0]?=some o∧o.op=.store T (.tmp (BL.getD k 0)) (.tmp (SL.getD (vs.getD k 0) 0)))
  (hQ:∀ (u:Nat→Value) (g:Nat→Nat) (w:World),Bw W0 w→(∀ j,j<PVL.length→vL L j w (u j)) →
   (∀ k,k<PNL.length→W0.heap.size≤g k∧∃ cs,u (vs.getD k 0)=.agg cs∧w.heap[g k]?=some (.cells cs T (0,0)))→(∀ k k',k<PNL.length→k'<PNL.length→k≠k'→g k≠g k') →
   Q .normal (putL a0 ((List.range PVL.length).map (fun j=>(SL.getD j 0,u j))++(List.range PNL.length).map (fun k=>(BL.getD k 0,.pointer (some ⟨g k,0,none⟩))))) w) :
  (Code.region id ops true).wp P Q a0 W0:=by
 unfold xchk at hchk
 simp only[Bool.and_eq_true,decide_eq_true_eq] at hchk
 obtain⟨⟨⟨⟨⟨h1,h2⟩,h3⟩,h4⟩,h5⟩,h6,h7,h8⟩:=hchk
 obtain⟨n1,n23,n4⟩:=List.nodup_append.1 h4
 obtain⟨n2,n3,n5⟩:=List.nodup_append.1 n23
 obtain⟨s1,s2,s3⟩:=List.nodup_append.1 h5
 have row:∀ {i o},ops[i]?=some o→(∀ e ∈ o.after,Region.binds .any e=true→e.on<i)∧(i ∈ PVL∨i ∈ PNL∨i ∈ PSL):=fun {i o} ho=>by
  have:=List.all_eq_true.1 h1 i (List.mem_range.2 (Array.getElem?_eq_some_iff.1 ho).1)
  simp only[ho] at this
  rw[Bool.and_eq_true,Bool.or_eq_true,Bool.or_eq_true] at this
  refine⟨fun e he hb=>?_,?_⟩
  ·have h9:=Array.all_eq_true_iff_forall_mem.1 this.1 e he
   rw[hb] at h9
   exact of_decide_eq_true (by simpa using h9)
  ·rcases this.2 with (h|h)|h
   ·exact .inl (by simpa using h)
   ·exact .inr (.inl (by simpa using h))
   ·exact .inr (.inr (by simpa using h))
 have val:∀ j,j<PVL.length→∃ o,ops[PVL.getD j 0]?=some o∧o.dst=some (SL.getD j 0)∧∀ j' ∈ dL D j,j'<PVL.length∧∃ e ∈ o.after,e.on=PVL.getD j' 0∧Region.binds .any e=true:=fun j hj=>by
  have:=List.all_eq_true.1 h2 j (List.mem_range.2 hj)
  unfold qval at this
  cases ho:ops[PVL.getD j 0]? with
  | none=>rw[ho] at this;cases this
  | some o =>
   rw[ho] at this
   simp only[Bool.and_eq_true] at this
   refine⟨o,rfl,by simpa using this.1,fun j' hj'=>?_⟩
   have:=List.all_eq_true.1 this.2 j' hj'
   rw[Bool.and_eq_true] at this
   exact⟨of_decide_eq_true this.1,vhas_ex this.2⟩
 have sto:∀ k,k<PNL.length→∃ o p,ops[PNL.getD k 0]?=some o∧ops[PSL.getD k 0]?=some p∧o.dst=some (BL.getD k 0)∧o.guard=none∧p.dst=none∧p.guard=none∧vs.getD k 0<PVL.length∧(∃ e ∈ p.after,e.on=PNL.getD k 0∧Region.binds .any e=true)∧∃ e ∈ p.after,e.on=PVL.getD (vs.getD k 0) 0∧Region.binds .any e=true:=fun k hk=>by
  have:=List.all_eq_true.1 h3 k (List.mem_range.2 hk)
  unfold xall at this
  cases ho:ops[PNL.getD k 0]? with
  | none=>rw[ho] at this;cases this
  | some o =>
   cases hp:ops[PSL.getD k 0]? with
   | none=>rw[ho,hp] at this;cases this
   | some p =>
    rw[ho,hp] at this
    simp only[Bool.and_eq_true] at this
    obtain⟨⟨⟨⟨⟨⟨x1,x2⟩,x3⟩,x4⟩,x5⟩,x6⟩,x7⟩:=this
    exact⟨o,p,rfl,rfl,by simpa using x1,Option.isNone_iff_eq_none.1 x2,by simpa using x3,Option.isNone_iff_eq_none.1 x4,of_decide_eq_true x5,vhas_ex x6,vhas_ex x7⟩
 have hoth:∀ {s:Nat},(SL++BL).contains s=false→(∀ j,j<PVL.length→s≠SL.getD j 0)∧∀ k,k<PNL.length→s≠BL.getD k 0:=fun {s} h=>by
  have hn:s ∉ SL++BL:=fun hh=>by
   have:(SL++BL).contains s=true:=by simpa using hh
   rw[h] at this;cases this
  refine⟨fun j hj e=>hn ?_,fun k hk e=>hn ?_⟩
  ·rw[e];exact List.mem_append_left _ (getD_mem (by omega))
  ·rw[e];exact List.mem_append_right _ (getD_mem (by omega))
 refine parx_region hm (fun j=>PVL.getD j 0) (fun k=>PNL.getD k 0) (fun k=>PSL.getD k 0) PVL.length PNL.length (fun j=>SL.getD j 0) (fun k=>BL.getD k 0) (fun k=>vs.getD k 0) (dL D) T zs W0 a0 (vL L) ?_ ?_ ?_ ?_ (fun j j' hj hj' e=>getD_inj n1 hj hj' e) (fun k k' hk hk' e=>getD_inj n2 hk hk' e) (fun k k' hk hk' e=>getD_inj n3 (by omega) (by omega) e) ?_ ?_ ?_ (fun i o ho=>(row ho).1) (fun j w w' u hb h=>vL_stays hV1 j w w' u hb h) (fun j w u g cs' y1 h=>vL_zrows hV2 j w u g cs' y1 h) hVs ?_ ?_ ?_ hz hi ?_ (fun j hj=>hsl _ (List.mem_append_left _ (getD_mem (by omega)))) (fun k hk=>hsl _ (List.mem_append_right _ (getD_mem (by omega)))) (fun j j' hj hj' e=>getD_inj s1 (by omega) (by omega) e) (fun j j' hj hj' e=>getD_inj s2 (by omega) (by omega) e) ?_ ?_
 ·intro i hi'
  have ho:ops[i]?=some ops[i]:=Array.getElem?_eq_getElem hi'
  rcases(row ho).2 with h|h|h
  ·exact .inl (mem_getD h)
  ·exact .inr (.inl (mem_getD h))
  ·obtain⟨k,x1,x2⟩:=mem_getD h
   exact .inr (.inr ⟨k,by omega,x2⟩)
 ·intro j hj
  obtain⟨o,ho,-⟩:=val j hj
  exact(Array.getElem?_eq_some_iff.1 ho).1
 ·intro k hk
  obtain⟨o,p,ho,hp,-⟩:=sto k hk
  exact(Array.getElem?_eq_some_iff.1 ho).1
 ·intro k hk
  obtain⟨o,p,ho,hp,-⟩:=sto k hk
  exact(Array.getElem?_eq_some_iff.1 hp).1
 ·intro j k hj hk
  exact n4 _ (getD_mem hj) _ (List.mem_append_left _ (getD_mem hk))
 ·intro j k hj hk
  exact n4 _ (getD_mem hj) _ (List.mem_append_right _ (getD_mem (by omega)))
 ·intro k k' hk hk'
  exact n5 _ (getD_mem hk) _ (getD_mem (by omega))
 ·intro j hj j' hj'
  obtain⟨o,ho,-,hd⟩:=val j hj
  obtain⟨x1,x2⟩:=hd j' hj'
  refine⟨x1,fun o' ho'=>?_⟩
  obtain rfl:o=o':=Option.some.inj (ho.symm.trans ho')
  exact x2
 ·intro j hj a w hk ho1 hd
  obtain⟨o,ho,hds,-⟩:=val j hj
  have h7:=hA j hj o ho a w hk (fun s hs=>ho1 s (hoth hs).1 (hoth hs).2) hd
  rw[hds] at h7
  rcases h7 with ⟨hg,h7⟩|h7
  ·exact step_wanted ho hg h7
  ·exact h7
 ·intro k hk
  obtain⟨o,p,ho,hp,x1,x2,-⟩:=sto k hk
  obtain⟨o',ho',hop⟩:=hal k hk
  obtain rfl:o=o':=Option.some.inj (ho.symm.trans ho')
  exact⟨o,ho,x2,hop,x1⟩
 ·intro k hk
  obtain⟨o,p,ho,hp,x1,x2,x3,x4,x5,x6,x7⟩:=sto k hk
  obtain⟨p',hp',hop⟩:=hst k hk
  obtain rfl:p=p':=Option.some.inj (hp.symm.trans hp')
  exact⟨x5,p,hp,x4,hop,x3,x6,x7⟩
 ·intro j k hj hk
  exact s3 _ (getD_mem (by omega)) _ (getD_mem (by omega))
 ·intro u g a w hb hu hg hap hs hd ho1
  have q1:((List.range PVL.length).map (fun j=>((SL.getD j 0,u j):Tmp×Value))++(List.range PNL.length).map (fun k=>((BL.getD k 0,Value.pointer (some ⟨g k,0,none⟩)):Tmp×Value))).map (fun p:Tmp×Value=>p.1)=(List.range PVL.length).map (fun j=>SL.getD j 0)++(List.range PNL.length).map (fun k=>BL.getD k 0):=by simp[Function.comp_def]
  have ha:=act_putL (a:=a) (a0:=a0) (l:=(List.range PVL.length).map (fun j=>((SL.getD j 0,u j):Tmp×Value))++(List.range PNL.length).map (fun k=>((BL.getD k 0,Value.pointer (some ⟨g k,0,none⟩)):Tmp×Value))) (by
    rw[q1,List.nodup_append]
    refine⟨?_,?_,?_⟩
    ·refine List.pairwise_map.2 ((List.nodup_range (n:=PVL.length)).imp_of_mem ?_)
     intro x y hx hy hne he
     have:=List.mem_range.1 hx
     have:=List.mem_range.1 hy
     exact hne (getD_inj s1 (by omega) (by omega) he)
    ·refine List.pairwise_map.2 ((List.nodup_range (n:=PNL.length)).imp_of_mem ?_)
     intro x y hx hy hne he
     have:=List.mem_range.1 hx
     have:=List.mem_range.1 hy
     exact hne (getD_inj s2 (by omega) (by omega) he)
    ·intro x hx y hy
     obtain⟨i,hi1,rfl⟩:=List.mem_map.1 hx
     obtain⟨k,hk1,rfl⟩:=List.mem_map.1 hy
     have:=List.mem_range.1 hi1
     have:=List.mem_range.1 hk1
     exact s3 _ (getD_mem (by omega)) _ (getD_mem (by omega))) hs hd (by
    intro p hp
    rcases List.mem_append.1 hp with hp|hp
    ·obtain⟨i,hi1,rfl⟩:=List.mem_map.1 hp
     exact(hu i (List.mem_range.1 hi1)).1
    ·obtain⟨k,hk1,rfl⟩:=List.mem_map.1 hp
     exact(hg k (List.mem_range.1 hk1)).1) (fun s hsn=>ho1 s (fun i hi1 he=>hsn (List.mem_map.2 ⟨_,List.mem_append_left _ (List.mem_map.2 ⟨i,List.mem_range.2 hi1,rfl⟩),he.symm⟩)) (fun k hk1 he=>hsn (List.mem_map.2 ⟨_,List.mem_append_right _ (List.mem_map.2 ⟨k,List.mem_range.2 hk1,rfl⟩),he.symm⟩)))
  rw[ha]
  exact hQ u g w hb (fun j hj=>(hu j hj).2) (fun k hk=>(hg k hk).2) hap
end Go.Proofs.YtfkaogdmlcdceaaGreatDoor
namespace Go.Proofs.YtfkaogdmlcdceaaGreatDoor
open Go.RowKit Go.Fl64
def NC3 (cs:Array Value):Prop:=∃ (s1:Bool) (ao1:Option Addr) (n1 cp1:Nat) (e1:Int),cs = #[.bool s1,.slice ao1 n1 cp1,.int .i64 e1]
theorem PN.row3 {W:World} {A:Value} {t:Bool×Nat×Int} {g:Nat} {T:TypeId} {cs:Array Value} (h:PN W A t) (hE:W.heap[g]?=some (.cells cs T (0,0))) (hC:NC3 cs) (cs':Array Value):PN (W.setRow g cs') A t:=by
 obtain⟨_,_,_,_,_,rfl⟩:=hC
 exact h.cells (s2:=false) (a2:=none) (m2:=0) (c2:=0) (e2:=0) (.inl hE) fun b hb=>setRow_other W g b cs' hb
theorem PN.keep3 {W0 V:World} {n:Nat} {gs:Nat→Nat} {B:Nat} {A:Value} {t:Bool×Nat×Int} {T:TypeId} (hK:KeepB n gs B W0 V) (hbox:∀ k,k<n→∃ cs,W0.heap[gs k]?=some (.cells cs T (0,0))∧NC3 cs) (h:PN W0 A t):PN V A t:=by
 obtain⟨ao,cap,rfl,a',c',h1,h2,h3,bb,o,h4,h5⟩:=h
 refine⟨ao,cap,rfl,a',c',h1,h2,h3,bb,o,h4,fun i hi=>?_⟩
 have hc:=h5 i hi
 have hlt:bb<W0.heap.size:=World.block_lt_of_cell? _ _ hc
 have hne:∀ k,k<n→bb≠gs k:=by
  rintro k hk rfl
  obtain⟨cs,hE,_,_,_,_,_,rfl⟩:=hbox k hk
  simp only[World.cell?,hE] at hc
  rcases(show o+i=0∨o+i=1∨o+i=2∨3≤o+i by omega)with e|e|e|e
  ·rw[e] at hc;simp at hc
  ·rw[e] at hc;simp at hc
  ·rw[e] at hc;simp at hc
  ·rw[Array.getElem?_eq_none (by simpa using e)] at hc;cases hc
 have:=hK.keep bb hlt hne
 unfold World.cell? at hc ⊢
 rw[this]
 exact hc
theorem run_loadF (g f x:Nat) (w:World) (h:w.cell? ⟨g,f,none⟩=some (.float .f64 x)):(Instr.loadAt 22 (.pointer (some ⟨g,f,none⟩))).run Tryz.prog w=.ok (.float .f64 x) w:=by
 have u:=Tryz.isAgg22
 simp[Instr.loadAt,Instr.sureAddr,loadVar,h,go_sem]
end Go.Proofs.YtfkaogdmlcdceaaGreatDoor
