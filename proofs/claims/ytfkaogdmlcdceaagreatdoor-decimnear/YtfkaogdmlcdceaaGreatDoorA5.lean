/- Own work: contracts of the program's functions, part 5: W40 W34 W28 W29 W35 W41. -/
import Derived.Test.YtfkaogdmlcdceaaGreatDoorA4
import Derived.Laws.IdiomStrings
import Derived.Deep.CutRange

set_option maxHeartbeats 16000000
set_option maxRecDepth 200000
set_option linter.unusedVariables false
set_option linter.unusedSimpArgs false
namespace Go.Proofs.YtfkaogdmlcdceaaGreatDoor
open Go.RowKit
theorem neg_f (ua:Option Addr) (un uc x:Nat) (ea:Int) (w:World) (h1:Is w (.slice ua un uc) x) (hx:dlen x≤1000000) :
  Calls Tryz.prog 178 #[.agg #[.bool false,.slice ua un uc,.int .i64 ea]] w fun r w'=>∃ v,r=.returned (.agg #[.bool (decide (0<un)),v,.int .i64 ea])∧Own w' w.heap.size v x∧Bw w w':=by
 obtain⟨W,hW⟩:∃ W,W=(w.alloc (.cells #[.bool false,.slice ua un uc,.int .i64 ea] 50)).alloc (.cells #[.bool false,.slice none 0 0,.int .i64 0] 50):=⟨_,rfl⟩
 have hBW:Bw w W:=by rw[hW];exact((Below.refl _ _).alloc (Nat.le_refl _) _).alloc (by simp) _
 have hbA:W.heap[w.heap.size]?=some (.cells #[.bool false,.slice ua un uc,.int .i64 ea] 50 (0,0)):=by
  rw[hW,Below.heap_alloc _ _ _ (by simp)];exact heap_alloc_new _ _
 have hbB:W.heap[w.heap.size+1]?=some (.cells #[.bool false,.slice none 0 0,.int .i64 0] 50 (0,0)):=by
  have:=heap_alloc_new (w.alloc (.cells #[.bool false,.slice ua un uc,.int .i64 ea] 50)) (.cells #[.bool false,.slice none 0 0,.int .i64 0] 50)
  rw[hW];simpa using this
 have hsz:W.heap.size=w.heap.size+1+1:=by rw[hW];simp
 have HX:Hid (Bw w W∧W.heap.size=w.heap.size+1+1∧W.heap[w.heap.size+1]?=some (.cells #[.bool false,.slice none 0 0,.int .i64 0] 50 (0,0))):=⟨hBW,hsz,hbB⟩
 have HK:Hid (∀ w',Below (w.heap.size+1) W w'→(w'.cell? ⟨w.heap.size,0,none⟩=some (.bool false)∧w'.cell? ⟨w.heap.size,1,none⟩=some (.slice ua un uc)∧w'.cell? ⟨w.heap.size,2,none⟩=some (.int .i64 ea))):=fun w' hb=>(box_cells (box_later hbA hb (by omega))).1
 have kC:∀ w4,Bw W w4→Calls Tryz.prog 129 #[.slice ua un uc] w4 fun r w'=>∃ ao n cap,r=.returned (.slice ao n cap)∧Own w' W.heap.size (.slice ao n cap) x∧Bw W w':=fun w4 hb =>
  (clone_ok ((h1.later hBW).later hb) (by omega)).mono fun r w' ⟨v,e1,o1,o2⟩=>by
   obtain⟨ao,cap,rfl,-,-,-⟩:=o1.is
   exact⟨_,_,_,e1,o1.mono hb.size,hb.trans (o2.mono hb.size)⟩
 have hBR:Bw W W.drew:=(Below.refl _ _).drew
 have hBR1:Below (w.heap.size+1) W W.drew:=(Below.refl _ _).drew
 have hun:un=dlen x:=by obtain⟨_,_,e,-⟩:=h1;simp only[Value.slice.injEq] at e;exact e.2.1
 have hunb:un≤1000000:=by omega
 have H1:Hid (w.heap.size+1≤W.heap.size):=(by omega:w.heap.size+1≤W.heap.size)
 clear hbA hbB hsz hBW h1 hx hun
 go_enter Tryz.func178,Tryz.ntmps178
 go_upto_region 1 with fail
 rw[←hW]
 clear hW
 go_region_held3 (fun w'=>w'.cell? ⟨w.heap.size,0,none⟩=some (.bool false)∧w'.cell? ⟨w.heap.size,1,none⟩=some (.slice ua un uc)∧w'.cell? ⟨w.heap.size,2,none⟩=some (.int .i64 ea)) (first|(with_reducible assumption)|exact HK.out _ hBR1|(refine HK.out _ (Below.mono ?_ H1.out);with_reducible assumption)|(refine HK.out _ (below_store3 (Below.mono hb5 H1.out) (Nat.le_refl _) _ _ _))|go_keep)
  (first|(go_at_call 129;refine(kC _ (by first|(with_reducible assumption)|exact hBR)).mono ?_;rintro r w5 ⟨ao5,n5,cap5,rfl,ho5,hb5⟩;have hblk5:=box_later HX.out.2.2 hb5 (by have:=HX.out.2.1;omega);obtain⟨⟨x1,x2,x3⟩,x4,x5,x6⟩:=box_cells hblk5))
 have HF:Hid (Bw W w5∧Own w5 W.heap.size (.slice ao5 n5 cap5) x∧w5.heap[w.heap.size+1]?=some (.cells #[.bool false,.slice none 0 0,.int .i64 0] 50 (0,0))):=⟨hb5,ho5,hblk5⟩
 clear ho5 hb5 hblk5 x1 x2 x3 x4 x5 x6 kC HK hBR hBR1
 go_wp2
 refine bodyPost_ret (results_cell_row rfl _ _ (w.heap.size+1) 50 #[.bool (decide (0<un)),.slice ao5 n5 cap5,.int .i64 ea] (0,0) _ rfl (store3 _ _ _ HF.out.2.2) Tryz.underlying50 rfl Tryz.info50) rfl ?_
 obtain⟨q1,q2,-⟩:=HX.out
 exact⟨_,rfl,(own_store3 HF.out.2.1 (by omega) _ _ _).mono (by omega),below_store3 (q1.trans (HF.out.1.mono q1.size)) (by omega) _ _ _⟩
theorem neg_ok {na:Bool} {ua:Option Addr} {un uc x:Nat} {ea:Int} {w:World} (h1:Is w (.slice ua un uc) x) (hx:dlen x≤1000000) :
  Calls Tryz.prog 178 #[.agg #[.bool na,.slice ua un uc,.int .i64 ea]] w fun r w'=>∃ v,r=.returned (.agg #[.bool (!na&&decide (0<un)),v,.int .i64 ea])∧Own w' w.heap.size v x∧Bw w w':=by
 cases na
 ·exact neg_f ua un uc x ea w h1 hx
 ·exact neg_t ua un uc x ea w h1 hx
end Go.Proofs.YtfkaogdmlcdceaaGreatDoor
namespace Go.Proofs.YtfkaogdmlcdceaaGreatDoor
open Go.RowKit Go.Fl64
theorem c159 (a:Nat) (ha:a<18446744073709551616) (w:World) :
  Calls Tryz.prog 17 #[.float .f64 a] w fun e w'=>e=.returned (.float .f64 (mag a))∧w'=w:=by
 have hb:=Ie.run_bits
 have hf:=Ie.run_frombits
 go_enter Tryz.func17,Tryz.ntmps17
 go_wp2
 go_ret
 refine⟨?_,rfl⟩
 show Ending.returned (.float .f64 (bits .andNot .u64 a 9223372036854775808).toNat)=_
 rw[andNot_sign a ha]
 simp
theorem mag_lt' (a:Nat) (ha:a<18446744073709551616):mag a<18446744073709551616:=by unfold mag;omega
theorem c185 (w:World):Calls Tryz.prog 262 #[.int .i64 16] w fun e w'=>e=.returned (.bool true)∧w'=w:=by
 have h:(bits .and .i64 16 15==0)=true:=by decide +kernel
 have H:Hid ((bits .and .i64 16 15==0)=true):=h
 clear h
 go_enter Tryz.func262,Tryz.ntmps262
 go_wp2
 go_ret
 exact⟨congrArg Ending.returned (congrArg Value.bool H.out),rfl⟩
theorem c186 (w:World) (hT:Ie.Tab w):Calls Tryz.prog 263 #[.int .u64 16] w fun e w'=>e=.returned (.int .i64 4)∧w'=w:=by
 have k:=Ie.c51 16 (by omega) (by omega) w hT
 have e:Lib.ctz 64 16=4:=by decide
 rw[e] at k
 clear e
 go_enter Tryz.func263,Tryz.ntmps263
 go_wp2_with fail
 refine k.mono ?_
 rintro r w1 ⟨rfl,rfl⟩
 go_wp2
 go_ret
 exact⟨rfl,rfl⟩
def hx (d:Nat):Nat:=if d<10 then 48+d else 87+d
theorem z147:Tryz.zeroCells237=Array.replicate 65 (.int .u8 0):=by kernel_rfl
structure Bt (w wr:World) (f:Nat→Nat):Prop where
 below:Bw w wr
 row:∃ c:Array Value,wr.heap[w.heap.size]?=some (.cells c 237 (0,0))∧c.size=65∧∀ t,t<65→c[t]?=some (.int .u8 (f t:Nat))
theorem Bt.start (w:World):Bt w (w.alloc (.cells Tryz.zeroCells237 237)) (fun _=>0) :=
 ⟨(Below.refl _ _).alloc (Nat.le_refl _) _,_,heap_alloc_new _ _,by rw[z147];simp,fun t ht=>by rw[z147];simp[ht]⟩
theorem Bt.cell {w wr:World} {f:Nat→Nat} (h:Bt w wr f) {i:Nat} (hi:i<65):wr.cell? ⟨w.heap.size,i,none⟩=some (.int .u8 (f i:Nat)):=by
 obtain⟨c,h1,h2,h3⟩:=h.row
 simp[World.cell?,h1,h3 i hi]
theorem Bt.frozen {w wr:World} {f:Nat→Nat} (h:Bt w wr f) (i:Nat):wr.frozen? ⟨w.heap.size,i,none⟩=false:=by
 obtain⟨c,h1,_,_⟩:=h.row
 simp[World.frozen?,h1]
theorem Bt.set {w wr:World} {f:Nat→Nat} (h:Bt w wr f) (i d:Nat):Bt w (wr.setCell ⟨w.heap.size,i,none⟩ (.int .u8 (d:Nat))) (fun t=>if t=i then d else f t):=by
 obtain⟨c,h1,h2,h3⟩:=h.row
 refine⟨h.below.setCell (Nat.le_refl _) _,c.setIfInBounds i (.int .u8 (d:Nat)),?_,by simpa using h2,fun t ht=>?_⟩
 ·simp[World.setCell,Array.getElem?_modify,h1]
 ·rw[Array.getElem?_setIfInBounds]
  by_cases e:t=i
  ·subst e;simp[h2,ht]
  ·rw[if_neg (fun h=>e h.symm),h3 t ht];simp[e]
theorem Bt.congr {w wr:World} {f g:Nat→Nat} (h:Bt w wr f) (e:∀ t,t<65→f t=g t):Bt w wr g:=by
 obtain⟨c,h1,h2,h3⟩:=h.row
 exact⟨h.below,c,h1,h2,fun t ht=>by rw[h3 t ht,e t ht]⟩
theorem hex_get (m:Nat) (hm:m<16) (h:m<(⟨#[48,49,50,51,52,53,54,55,56,57,97,98,99,100,101,102,103,104,105,106,107,108,109,110,111,112,113,114,115,116,117,118,119,120,121,122]⟩:ByteArray).size):((⟨#[48,49,50,51,52,53,54,55,56,57,97,98,99,100,101,102,103,104,105,106,107,108,109,110,111,112,113,114,115,116,117,118,119,120,121,122]⟩:ByteArray)[m]'h).toNat=hx m:=by
 have:m=0∨m=1∨m=2∨m=3∨m=4∨m=5∨m=6∨m=7∨m=8∨m=9∨m=10∨m=11∨m=12∨m=13∨m=14∨m=15:=by omega
 rcases this with rfl|rfl|rfl|rfl|rfl|rfl|rfl|rfl|rfl|rfl|rfl|rfl|rfl|rfl|rfl|rfl <;> rfl
def hexL (u j:Nat):List UInt8:=(List.range (j+1)).map fun i=>UInt8.ofNat (hx (u / 16^(j - i) % 16))
theorem hexL_length (u j:Nat):(hexL u j).length=j+1:=by simp[hexL]
theorem hx_lt (d:Nat) (h:d<16):hx d<256:=by unfold hx;split <;> omega
theorem hexL_get {u j i:Nat} (h:i<(hexL u j).length):((hexL u j)[i].toNat:Int)=(hx (u / 16^(j - i) % 16):Nat):=by
 simp only[hexL,List.getElem_map,List.getElem_range]
 have:=hx_lt (u / 16^(j - i) % 16) (Nat.mod_lt _ (by omega))
 rw[UInt8.toNat_ofNat_of_lt' this]
theorem arr147 (W:World) (g k:Nat) (hk:k<65):(Instr.sliceAt 237 (.pointer (some ⟨g,0,none⟩)) (some (.int .i64 (k:Int))) none none).run Tryz.prog W=.ok (.slice (some ⟨g,k,none⟩) (65 - k) (65 - k)) W:=by
 have hal:Tryz.prog.arrayLen 237=65:=by kernel_rfl
 rw[run_sliceAt_array_l W 237 ⟨g,0,none⟩ (by kernel_rfl) .i64 (k:Int) (by omega) (by rw[hal];omega)]
 have hs:∀ W,(sizeOf (Tryz.prog.elem 237)).run Tryz.prog W=.ok 1 W:=fun W=>by kernel_rfl
 rw[hs,hal]
 show Result.ok (slicedAt ⟨g,0,none⟩ (k:Int).toNat 65 65 1) W=_
 unfold slicedAt
 rw[Int.toNat_natCast,if_neg (by omega),Nat.mul_one]
 have:(⟨g,0,none⟩:Addr).add k=⟨g,k,none⟩:=by simp[Addr.add];omega
 rw[this]
theorem Nrm.later {w w':World} {base:Nat} {a:Value} {neg:Bool} {x:Nat} {e:Int} (h:Nrm w base a neg x e) (hb:Bw w w'):Nrm w' base a neg x e:=by
 rcases h with h|⟨h0,v,h1,ho⟩
 ·exact .inl h
 ·exact .inr ⟨h0,v,h1,ho.later hb⟩
theorem lt_of_box {w:World} {g:Nat} {o:Obj} (h:w.heap[g]?=some o):g<w.heap.size:=(Array.getElem?_eq_some_iff.1 h).1
end Go.Proofs.YtfkaogdmlcdceaaGreatDoor
namespace Go.Proofs.YtfkaogdmlcdceaaGreatDoor
open Go.RowKit
theorem c21_t (na nb:Bool) (ua va:Option Addr) (un uc vn vc z:Nat) (ea eb e:Int) (s nn:Bool) (y:Nat) (w:World) (hz:dlen z≤35184372088832) (hok:okR s z e=true)
  (k67:∀ W g,Bw w W→W.heap[g]?=some (.cells #[.bool na,.slice ua un uc,.int .i64 ea,.bool nb,.slice va vn vc,.int .i64 eb] 50 (0,0))→Calls Tryz.prog 128 #[.slice (some ⟨g,0,none⟩) 2 2] W fun r w'=>r=.returned (.bool true)∧Bw W w')
  (kN:∀ W,Bw w W→Calls Tryz.prog 178 #[.agg #[.bool nb,.slice va vn vc,.int .i64 eb]] W fun r w'=>∃ v,r=.returned (.agg #[.bool nn,v,.int .i64 eb])∧Own w' W.heap.size v y∧Bw W w')
  (kS:∀ W v base,Bw w W→Own W base v y→Calls Tryz.prog 220 #[.agg #[.bool na,.slice ua un uc,.int .i64 ea],.agg #[.bool nn,v,.int .i64 eb]] W fun r w'=>∃ a,r=.returned a∧Nrm w' W.heap.size a s z e∧Bw W w') :
  Calls Tryz.prog 161 #[.agg #[.bool na,.slice ua un uc,.int .i64 ea],.agg #[.bool nb,.slice va vn vc,.int .i64 eb]] w fun r w'=>Held w s z e r w':=by
 obtain⟨W,hW⟩:∃ W,W=((w.alloc (.cells #[.bool na,.slice ua un uc,.int .i64 ea] 50)).alloc (.cells #[.bool nb,.slice va vn vc,.int .i64 eb] 50)).alloc (.cells #[.bool false,.slice none 0 0,.int .i64 0] 50):=⟨_,rfl⟩
 obtain⟨hA,hBb,hC,hsz,hBW⟩:=boxes3 _ _ _ hW
 have hB4:Below w.heap.size w (W.alloc (.cells #[.bool na,.slice ua un uc,.int .i64 ea,.bool nb,.slice va vn vc,.int .i64 eb] 50)):=hBW.alloc hBW.size _
 have k1:=k67 (W.alloc (.cells #[.bool na,.slice ua un uc,.int .i64 ea,.bool nb,.slice va vn vc,.int .i64 eb] 50)) (w.heap.size+1+1+1) hB4 (by rw[←hsz];exact heap_alloc_new _ _)
 have HH:Hid ((W.heap[w.heap.size]?=some (.cells #[.bool na,.slice ua un uc,.int .i64 ea] 50 (0,0))∧W.heap[w.heap.size+1]?=some (.cells #[.bool nb,.slice va vn vc,.int .i64 eb] 50 (0,0))∧W.heap[w.heap.size+1+1]?=some (.cells #[.bool false,.slice none 0 0,.int .i64 0] 50 (0,0)))∧W.heap.size=w.heap.size+1+1+1∧Bw w W∧Below W.heap.size W (W.alloc (.cells #[.bool na,.slice ua un uc,.int .i64 ea,.bool nb,.slice va vn vc,.int .i64 eb] 50))):=⟨⟨hA,hBb,hC⟩,hsz,hBW,(Below.refl _ _).alloc (Nat.le_refl _) _⟩
 have HZ:Hid (dlen z≤35184372088832∧okR s z e=true):=⟨hz,hok⟩
 have HKN:Hid _:=kN
 have HKS:Hid _:=kS
 clear hA hBb hC hsz hBW hB4 k67 kN kS hz hok
 go_enter Tryz.func161,Tryz.ntmps161
 go_wp2_with fail
 rw[←hW]
 clear hW
 refine k1.mono ?_
 rintro r w1 ⟨rfl,hB1⟩
 clear k1
 have hBW1:Bw W w1:=HH.out.2.2.2.trans (hB1.mono HH.out.2.2.2.size)
 have H3:Hid (w1.heap[w.heap.size]?=some (.cells #[.bool na,.slice ua un uc,.int .i64 ea] 50 (0,0))∧w1.heap[w.heap.size+1]?=some (.cells #[.bool nb,.slice va vn vc,.int .i64 eb] 50 (0,0))∧w1.heap[w.heap.size+1+1]?=some (.cells #[.bool false,.slice none 0 0,.int .i64 0] 50 (0,0))∧w.heap.size+1+1+1≤w1.heap.size∧Bw w w1):=⟨box_later HH.out.1.1 hBW1 (by have:=HH.out.2.1;omega),box_later HH.out.1.2.1 hBW1 (by have:=HH.out.2.1;omega),box_later HH.out.1.2.2 hBW1 (by have:=HH.out.2.1;omega),by have:=hBW1.size;have:=HH.out.2.1;omega,HH.out.2.2.1.trans (hBW1.mono HH.out.2.2.1.size)⟩
 clear hB1 hBW1
 have HK:Hid (∀ w',Below (w.heap.size+1+1) w1 w'→((w'.cell? ⟨w.heap.size,0,none⟩=some (.bool na)∧w'.cell? ⟨w.heap.size,1,none⟩=some (.slice ua un uc)∧w'.cell? ⟨w.heap.size,2,none⟩=some (.int .i64 ea))∧(w'.cell? ⟨w.heap.size+1,0,none⟩=some (.bool nb)∧w'.cell? ⟨w.heap.size+1,1,none⟩=some (.slice va vn vc)∧w'.cell? ⟨w.heap.size+1,2,none⟩=some (.int .i64 eb)))):=fun w' hb=>⟨(box_cells (box_later H3.out.1 hb (by omega))).1,(box_cells (box_later H3.out.2.1 hb (by omega))).1⟩
 have H1:Hid (w.heap.size+1+1≤w1.heap.size):=(by have:=H3.out.2.2.2.1;omega:w.heap.size+1+1≤w1.heap.size)
 have hBR:Bw w1 w1.drew:=(Below.refl _ _).drew
 have hBR1:Below (w.heap.size+1+1) w1 w1.drew:=(Below.refl _ _).drew
 have kn:∀ w4,Bw w1 w4→Calls Tryz.prog 178 #[.agg #[.bool nb,.slice va vn vc,.int .i64 eb]] w4 fun r w'=>∃ ao n cap,r=.returned (.agg #[.bool nn,.slice ao n cap,.int .i64 eb])∧Own w' w1.heap.size (.slice ao n cap) y∧Bw w1 w':=fun w4 hb =>
  (HKN.out w4 (H3.out.2.2.2.2.trans (hb.mono H3.out.2.2.2.2.size))).mono fun r w' ⟨v,e1,o1,o2⟩=>by
   obtain⟨ao,cap,rfl,-,-,-⟩:=o1.is
   exact⟨_,_,_,e1,o1.mono hb.size,hb.trans (o2.mono hb.size)⟩
 have ks:∀ ao n cap w5,Own w5 w1.heap.size (.slice ao n cap) y→Bw w1 w5→Calls Tryz.prog 220 #[.agg #[.bool na,.slice ua un uc,.int .i64 ea],.agg #[.bool nn,.slice ao n cap,.int .i64 eb]] w5 fun r w'=>∃ s' ao n cap ex,r=.returned (.agg #[.bool s',.slice ao n cap,.int .i64 ex])∧Nrm w' w1.heap.size (.agg #[.bool s',.slice ao n cap,.int .i64 ex]) s z e∧Bw w1 w':=fun ao n cap w5 ho hb =>
  (HKS.out w5 _ _ (H3.out.2.2.2.2.trans (hb.mono H3.out.2.2.2.2.size)) ho).mono fun r w' ⟨v,e1,o1,o2⟩=>by
   obtain⟨s',ao,n,cap,ex,rfl⟩:=o1.shape
   exact⟨_,_,_,_,_,e1,o1.mono hb.size,hb.trans (o2.mono hb.size)⟩
 have kb:∀ s6 ao6 n6 cap6 ex6 w6,Nrm w6 w1.heap.size (.agg #[.bool s6,.slice ao6 n6 cap6,.int .i64 ex6]) s z e→Bw w1 w6→Calls Tryz.prog 200 #[.agg #[.bool s6,.slice ao6 n6 cap6,.int .i64 ex6]] w6 fun r w'=>r=.returned (.tuple #[.agg #[.bool s6,.slice ao6 n6 cap6,.int .i64 ex6],.int .i64 0])∧Hid (Nrm w' w1.heap.size (.agg #[.bool s6,.slice ao6 n6 cap6,.int .i64 ex6]) s z e)∧Bw w1 w'∧Hid (w'.heap[w.heap.size+1+1]?=some (.cells #[.bool false,.slice none 0 0,.int .i64 0] 50 (0,0))) ∧
   (w'.cell? ⟨w.heap.size+1+1,0,none⟩=some (.bool false)∧w'.cell? ⟨w.heap.size+1+1,1,none⟩=some (.slice none 0 0)∧w'.cell? ⟨w.heap.size+1+1,2,none⟩=some (.int .i64 0))∧(w'.frozen? ⟨w.heap.size+1+1,0,none⟩=false∧w'.frozen? ⟨w.heap.size+1+1,1,none⟩=false∧w'.frozen? ⟨w.heap.size+1+1,2,none⟩=false):=fun s6 ao6 n6 cap6 ex6 w6 hN hb=>by
  have k:=c63n hN HZ.out.1
  rw[HZ.out.2] at k
  refine k.mono ?_
  rintro r w' ⟨rfl,hb2⟩
  have hb3:Bw w1 w':=hb.trans (hb2.mono hb.size)
  have hblk:=box_later H3.out.2.2.1 hb3 (by have:=H3.out.2.2.2.1;omega)
  obtain⟨f1,f2⟩:=box_cells hblk
  exact⟨rfl,hN.later hb2,hb3,hblk,f1,f2⟩
 obtain⟨⟨a0,a1,a2⟩,b0,b1,b2⟩:=HK.out w1 (Below.refl _ _)
 go_upto_region 3 with fail
 go_region_held3 (fun w'=>((w'.cell? ⟨w.heap.size,0,none⟩=some (.bool na)∧w'.cell? ⟨w.heap.size,1,none⟩=some (.slice ua un uc)∧w'.cell? ⟨w.heap.size,2,none⟩=some (.int .i64 ea))∧(w'.cell? ⟨w.heap.size+1,0,none⟩=some (.bool nb)∧w'.cell? ⟨w.heap.size+1,1,none⟩=some (.slice va vn vc)∧w'.cell? ⟨w.heap.size+1,2,none⟩=some (.int .i64 eb)))) (first|(with_reducible assumption)|exact⟨⟨a0,a1,a2⟩,b0,b1,b2⟩|(refine HK.out _ (Below.mono ?_ H1.out);with_reducible assumption)|(refine HK.out _ (below_store3 (Below.mono hb7 H1.out) (Nat.le_refl _) _ _ _))|go_keep)
  (first|(go_at_call 178;refine(kn _ (by first|(with_reducible assumption)|exact hBR)).mono ?_;rintro r w5 ⟨ao5,n5,cap5,rfl,ho5,hb5⟩)|(go_at_call 220;refine(ks _ _ _ _ ho5 hb5).mono ?_;rintro r w6 ⟨s6,ao6,n6,cap6,ex6,rfl,hn6,hb6⟩)|(go_at_call 200;refine(kb _ _ _ _ _ _ hn6 hb6).mono ?_;rintro r w7 ⟨rfl,hN7,hb7,hblk7,⟨x1,x2,x3⟩,x4,x5,x6⟩))
 have HF:Hid (Bw w1 w7):=hb7
 clear ho5 hb5 hn6 hb6 hb7 kn ks kb x1 x2 x3 x4 x5 x6 a0 a1 a2 b0 b1 b2 HK
 go_wp2
 refine bodyPost_ret (results_cell_tmp_row rfl _ _ (w.heap.size+1+1) 50 #[.bool s6,.slice ao6 n6 cap6,.int .i64 ex6] (0,0) _ rfl (store3 _ _ _ hblk7.out) Tryz.underlying50 rfl Tryz.info50) rfl ?_
 have hs:=H3.out.2.2.2.1
 exact⟨.agg #[.bool s6,.slice ao6 n6 cap6,.int .i64 ex6],by rw[HZ.out.2];rfl,(hN7.out.store (by omega) _ _ _).mono (by omega),below_store3 (H3.out.2.2.2.2.trans (HF.out.mono H3.out.2.2.2.2.size)) (by omega) _ _ _⟩
theorem c21_f (na nb:Bool) (ua va:Option Addr) (un uc vn vc z:Nat) (ea eb e:Int) (s nn:Bool) (y:Nat) (w:World) (hz:dlen z≤35184372088832) (hok:okR s z e=false)
  (k67:∀ W g,Bw w W→W.heap[g]?=some (.cells #[.bool na,.slice ua un uc,.int .i64 ea,.bool nb,.slice va vn vc,.int .i64 eb] 50 (0,0))→Calls Tryz.prog 128 #[.slice (some ⟨g,0,none⟩) 2 2] W fun r w'=>r=.returned (.bool true)∧Bw W w')
  (kN:∀ W,Bw w W→Calls Tryz.prog 178 #[.agg #[.bool nb,.slice va vn vc,.int .i64 eb]] W fun r w'=>∃ v,r=.returned (.agg #[.bool nn,v,.int .i64 eb])∧Own w' W.heap.size v y∧Bw W w')
  (kS:∀ W v base,Bw w W→Own W base v y→Calls Tryz.prog 220 #[.agg #[.bool na,.slice ua un uc,.int .i64 ea],.agg #[.bool nn,v,.int .i64 eb]] W fun r w'=>∃ a,r=.returned a∧Nrm w' W.heap.size a s z e∧Bw W w') :
  Calls Tryz.prog 161 #[.agg #[.bool na,.slice ua un uc,.int .i64 ea],.agg #[.bool nb,.slice va vn vc,.int .i64 eb]] w fun r w'=>Held w s z e r w':=by
 obtain⟨W,hW⟩:∃ W,W=((w.alloc (.cells #[.bool na,.slice ua un uc,.int .i64 ea] 50)).alloc (.cells #[.bool nb,.slice va vn vc,.int .i64 eb] 50)).alloc (.cells #[.bool false,.slice none 0 0,.int .i64 0] 50):=⟨_,rfl⟩
 obtain⟨hA,hBb,hC,hsz,hBW⟩:=boxes3 _ _ _ hW
 have hB4:Below w.heap.size w (W.alloc (.cells #[.bool na,.slice ua un uc,.int .i64 ea,.bool nb,.slice va vn vc,.int .i64 eb] 50)):=hBW.alloc hBW.size _
 have k1:=k67 (W.alloc (.cells #[.bool na,.slice ua un uc,.int .i64 ea,.bool nb,.slice va vn vc,.int .i64 eb] 50)) (w.heap.size+1+1+1) hB4 (by rw[←hsz];exact heap_alloc_new _ _)
 have HH:Hid ((W.heap[w.heap.size]?=some (.cells #[.bool na,.slice ua un uc,.int .i64 ea] 50 (0,0))∧W.heap[w.heap.size+1]?=some (.cells #[.bool nb,.slice va vn vc,.int .i64 eb] 50 (0,0))∧W.heap[w.heap.size+1+1]?=some (.cells #[.bool false,.slice none 0 0,.int .i64 0] 50 (0,0)))∧W.heap.size=w.heap.size+1+1+1∧Bw w W∧Below W.heap.size W (W.alloc (.cells #[.bool na,.slice ua un uc,.int .i64 ea,.bool nb,.slice va vn vc,.int .i64 eb] 50))):=⟨⟨hA,hBb,hC⟩,hsz,hBW,(Below.refl _ _).alloc (Nat.le_refl _) _⟩
 have HZ:Hid (dlen z≤35184372088832∧okR s z e=false):=⟨hz,hok⟩
 have HKN:Hid _:=kN
 have HKS:Hid _:=kS
 clear hA hBb hC hsz hBW hB4 k67 kN kS hz hok
 go_enter Tryz.func161,Tryz.ntmps161
 go_wp2_with fail
 rw[←hW]
 clear hW
 refine k1.mono ?_
 rintro r w1 ⟨rfl,hB1⟩
 clear k1
 have hBW1:Bw W w1:=HH.out.2.2.2.trans (hB1.mono HH.out.2.2.2.size)
 have H3:Hid (w1.heap[w.heap.size]?=some (.cells #[.bool na,.slice ua un uc,.int .i64 ea] 50 (0,0))∧w1.heap[w.heap.size+1]?=some (.cells #[.bool nb,.slice va vn vc,.int .i64 eb] 50 (0,0))∧w1.heap[w.heap.size+1+1]?=some (.cells #[.bool false,.slice none 0 0,.int .i64 0] 50 (0,0))∧w.heap.size+1+1+1≤w1.heap.size∧Bw w w1):=⟨box_later HH.out.1.1 hBW1 (by have:=HH.out.2.1;omega),box_later HH.out.1.2.1 hBW1 (by have:=HH.out.2.1;omega),box_later HH.out.1.2.2 hBW1 (by have:=HH.out.2.1;omega),by have:=hBW1.size;have:=HH.out.2.1;omega,HH.out.2.2.1.trans (hBW1.mono HH.out.2.2.1.size)⟩
 clear hB1 hBW1
 have HK:Hid (∀ w',Below (w.heap.size+1+1) w1 w'→((w'.cell? ⟨w.heap.size,0,none⟩=some (.bool na)∧w'.cell? ⟨w.heap.size,1,none⟩=some (.slice ua un uc)∧w'.cell? ⟨w.heap.size,2,none⟩=some (.int .i64 ea))∧(w'.cell? ⟨w.heap.size+1,0,none⟩=some (.bool nb)∧w'.cell? ⟨w.heap.size+1,1,none⟩=some (.slice va vn vc)∧w'.cell? ⟨w.heap.size+1,2,none⟩=some (.int .i64 eb)))):=fun w' hb=>⟨(box_cells (box_later H3.out.1 hb (by omega))).1,(box_cells (box_later H3.out.2.1 hb (by omega))).1⟩
 have H1:Hid (w.heap.size+1+1≤w1.heap.size):=(by have:=H3.out.2.2.2.1;omega:w.heap.size+1+1≤w1.heap.size)
 have hBR:Bw w1 w1.drew:=(Below.refl _ _).drew
 have hBR1:Below (w.heap.size+1+1) w1 w1.drew:=(Below.refl _ _).drew
 have kn:∀ w4,Bw w1 w4→Calls Tryz.prog 178 #[.agg #[.bool nb,.slice va vn vc,.int .i64 eb]] w4 fun r w'=>∃ ao n cap,r=.returned (.agg #[.bool nn,.slice ao n cap,.int .i64 eb])∧Own w' w1.heap.size (.slice ao n cap) y∧Bw w1 w':=fun w4 hb =>
  (HKN.out w4 (H3.out.2.2.2.2.trans (hb.mono H3.out.2.2.2.2.size))).mono fun r w' ⟨v,e1,o1,o2⟩=>by
   obtain⟨ao,cap,rfl,-,-,-⟩:=o1.is
   exact⟨_,_,_,e1,o1.mono hb.size,hb.trans (o2.mono hb.size)⟩
 have ks:∀ ao n cap w5,Own w5 w1.heap.size (.slice ao n cap) y→Bw w1 w5→Calls Tryz.prog 220 #[.agg #[.bool na,.slice ua un uc,.int .i64 ea],.agg #[.bool nn,.slice ao n cap,.int .i64 eb]] w5 fun r w'=>∃ s' ao n cap ex,r=.returned (.agg #[.bool s',.slice ao n cap,.int .i64 ex])∧Nrm w' w1.heap.size (.agg #[.bool s',.slice ao n cap,.int .i64 ex]) s z e∧Bw w1 w':=fun ao n cap w5 ho hb =>
  (HKS.out w5 _ _ (H3.out.2.2.2.2.trans (hb.mono H3.out.2.2.2.2.size)) ho).mono fun r w' ⟨v,e1,o1,o2⟩=>by
   obtain⟨s',ao,n,cap,ex,rfl⟩:=o1.shape
   exact⟨_,_,_,_,_,e1,o1.mono hb.size,hb.trans (o2.mono hb.size)⟩
 have kb:∀ s6 ao6 n6 cap6 ex6 w6,Nrm w6 w1.heap.size (.agg #[.bool s6,.slice ao6 n6 cap6,.int .i64 ex6]) s z e→Bw w1 w6→Calls Tryz.prog 200 #[.agg #[.bool s6,.slice ao6 n6 cap6,.int .i64 ex6]] w6 fun r w'=>r=.returned (.tuple #[.agg #[.bool false,.slice none 0 0,.int .i64 0],.int .i64 2])∧Hid (Nrm w' w1.heap.size (.agg #[.bool s6,.slice ao6 n6 cap6,.int .i64 ex6]) s z e)∧Bw w1 w'∧Hid (w'.heap[w.heap.size+1+1]?=some (.cells #[.bool false,.slice none 0 0,.int .i64 0] 50 (0,0))) ∧
   (w'.cell? ⟨w.heap.size+1+1,0,none⟩=some (.bool false)∧w'.cell? ⟨w.heap.size+1+1,1,none⟩=some (.slice none 0 0)∧w'.cell? ⟨w.heap.size+1+1,2,none⟩=some (.int .i64 0))∧(w'.frozen? ⟨w.heap.size+1+1,0,none⟩=false∧w'.frozen? ⟨w.heap.size+1+1,1,none⟩=false∧w'.frozen? ⟨w.heap.size+1+1,2,none⟩=false):=fun s6 ao6 n6 cap6 ex6 w6 hN hb=>by
  have k:=c63n hN HZ.out.1
  rw[HZ.out.2] at k
  refine k.mono ?_
  rintro r w' ⟨rfl,hb2⟩
  have hb3:Bw w1 w':=hb.trans (hb2.mono hb.size)
  have hblk:=box_later H3.out.2.2.1 hb3 (by have:=H3.out.2.2.2.1;omega)
  obtain⟨f1,f2⟩:=box_cells hblk
  exact⟨rfl,hN.later hb2,hb3,hblk,f1,f2⟩
 obtain⟨⟨a0,a1,a2⟩,b0,b1,b2⟩:=HK.out w1 (Below.refl _ _)
 go_upto_region 3 with fail
 go_region_held3 (fun w'=>((w'.cell? ⟨w.heap.size,0,none⟩=some (.bool na)∧w'.cell? ⟨w.heap.size,1,none⟩=some (.slice ua un uc)∧w'.cell? ⟨w.heap.size,2,none⟩=some (.int .i64 ea))∧(w'.cell? ⟨w.heap.size+1,0,none⟩=some (.bool nb)∧w'.cell? ⟨w.heap.size+1,1,none⟩=some (.slice va vn vc)∧w'.cell? ⟨w.heap.size+1,2,none⟩=some (.int .i64 eb)))) (first|(with_reducible assumption)|exact⟨⟨a0,a1,a2⟩,b0,b1,b2⟩|(refine HK.out _ (Below.mono ?_ H1.out);with_reducible assumption)|(refine HK.out _ (below_store3 (Below.mono hb7 H1.out) (Nat.le_refl _) _ _ _))|go_keep)
  (first|(go_at_call 178;refine(kn _ (by first|(with_reducible assumption)|exact hBR)).mono ?_;rintro r w5 ⟨ao5,n5,cap5,rfl,ho5,hb5⟩)|(go_at_call 220;refine(ks _ _ _ _ ho5 hb5).mono ?_;rintro r w6 ⟨s6,ao6,n6,cap6,ex6,rfl,hn6,hb6⟩)|(go_at_call 200;refine(kb _ _ _ _ _ _ hn6 hb6).mono ?_;rintro r w7 ⟨rfl,hN7,hb7,hblk7,⟨x1,x2,x3⟩,x4,x5,x6⟩))
 have HF:Hid (Bw w1 w7):=hb7
 clear ho5 hb5 hn6 hb6 hb7 kn ks kb x1 x2 x3 x4 x5 x6 a0 a1 a2 b0 b1 b2 HK
 go_wp2
 refine bodyPost_ret (results_cell_tmp_row rfl _ _ (w.heap.size+1+1) 50 #[.bool false,.slice none 0 0,.int .i64 0] (0,0) _ rfl (store3 _ _ _ hblk7.out) Tryz.underlying50 rfl Tryz.info50) rfl ?_
 have hs:=H3.out.2.2.2.1
 exact⟨.agg #[.bool s6,.slice ao6 n6 cap6,.int .i64 ex6],by rw[HZ.out.2];rfl,(hN7.out.store (by omega) _ _ _).mono (by omega),below_store3 (H3.out.2.2.2.2.trans (HF.out.mono H3.out.2.2.2.2.size)) (by omega) _ _ _⟩
theorem dlen_sumN (na:Bool) (x:Nat) (ea:Int) (nb:Bool) (y:Nat) (eb:Int) (hx:dlen x≤500000) (hy:dlen y≤500000) (ha : -4000000≤ea∧ea≤4000000) (hb : -4000000≤eb∧eb≤4000000):dlen (sumN na x ea nb y eb).2.1≤1000000:=by
 unfold sumN
 have l1:dlen (x*2^(ea - min ea eb).toNat)≤760000:=by have:=shl_len (x:=x) (k:=(ea - min ea eb).toNat) rfl;omega
 have l2:dlen (y*2^(eb - min ea eb).toNat)≤760000:=by have:=shl_len (x:=y) (k:=(eb - min ea eb).toNat) rfl;omega
 have l3:=dlen_add_le (x*2^(ea - min ea eb).toNat) (y*2^(eb - min ea eb).toNat)
 split
 ·show dlen y≤_;omega
 ·split
  ·show dlen x≤_;omega
  ·split
   ·show dlen (_+_)≤_;omega
   ·split
    ·have:=dlen_mono (Nat.sub_le (y*2^(eb - min ea eb).toNat) (x*2^(ea - min ea eb).toNat));show dlen (_ - _)≤_;omega
    ·have:=dlen_mono (Nat.sub_le (x*2^(ea - min ea eb).toNat) (y*2^(eb - min ea eb).toNat));show dlen (_ - _)≤_;omega
theorem sub_ok {na nb:Bool} {ua va:Option Addr} {uc vc x y:Nat} {ea eb:Int} {w:World} (h1:Is w (.slice ua (dlen x) uc) x) (h2:Is w (.slice va (dlen y) vc) y) (hx:dlen x≤400000) (hy:dlen y≤400000) (ha : -4000000≤ea∧ea≤4000000) (hb : -4000000≤eb∧eb≤4000000)
  (hoka:okN na (dlen x) x ea=true) (hokb:okN nb (dlen y) y eb=true) (hT:Tab32 w) :
  Calls Tryz.prog 161 #[.agg #[.bool na,.slice ua (dlen x) uc,.int .i64 ea],.agg #[.bool nb,.slice va (dlen y) vc,.int .i64 eb]] w fun r w'=>Held w (sumN na x ea (!nb&&decide (0<dlen y)) y eb).1 (sumN na x ea (!nb&&decide (0<dlen y)) y eb).2.1 (sumN na x ea (!nb&&decide (0<dlen y)) y eb).2.2 r w':=by
 have k67:∀ W g,Bw w W→W.heap[g]?=some (.cells #[.bool na,.slice ua (dlen x) uc,.int .i64 ea,.bool nb,.slice va (dlen y) vc,.int .i64 eb] 50 (0,0))→Calls Tryz.prog 128 #[.slice (some ⟨g,0,none⟩) 2 2] W fun r w'=>r=.returned (.bool true)∧Bw W w':=fun W g hW hg=>by
  have:=maybe2 hg (h1.later hW) (h2.later hW) (by omega) (by omega)
  rw[hoka,hokb] at this
  exact this
 have kN:∀ W,Bw w W→Calls Tryz.prog 178 #[.agg #[.bool nb,.slice va (dlen y) vc,.int .i64 eb]] W fun r w'=>∃ v,r=.returned (.agg #[.bool (!nb&&decide (0<dlen y)),v,.int .i64 eb])∧Own w' W.heap.size v y∧Bw W w':=fun W hW=>neg_ok (h2.later hW) (by omega)
 have hz:dlen (sumN na x ea (!nb&&decide (0<dlen y)) y eb).2.1≤35184372088832:=by
  have:=dlen_sumN na x ea (!nb&&decide (0<dlen y)) y eb (by omega:dlen x≤500000) (by omega:dlen y≤500000) ha hb
  omega
 cases hok:okR (sumN na x ea (!nb&&decide (0<dlen y)) y eb).1 (sumN na x ea (!nb&&decide (0<dlen y)) y eb).2.1 (sumN na x ea (!nb&&decide (0<dlen y)) y eb).2.2
 ·exact c21_f na nb ua va _ uc _ vc _ ea eb _ _ _ y w hz hok k67 kN (fun W v base hW ho=>c87 (h1.later hW) ho.is (by omega) (by omega) ha hb (hT.later hW))
 ·exact c21_t na nb ua va _ uc _ vc _ ea eb _ _ _ y w hz hok k67 kN (fun W v base hW ho=>c87 (h1.later hW) ho.is (by omega) (by omega) ha hb (hT.later hW))
end Go.Proofs.YtfkaogdmlcdceaaGreatDoor
