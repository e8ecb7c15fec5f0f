/- Own work: contracts of the program's functions, part 5: W38 W39 W40 W34 W28 W29 W35 W41. -/
import Derived.Test.YtokklnjoalkjaaaGreatDoorA4
import Derived.Deep.RegionHeld3
import Derived.Laws.AppendOwnNone
import Derived.Lib.SliceRun
import Derived.Laws.IdiomStrings
import Derived.Deep.CutRange

set_option maxHeartbeats 16000000
set_option maxRecDepth 200000
set_option linter.unusedVariables false
set_option linter.unusedSimpArgs false
namespace Go.Proofs.YtokklnjoalkjaaaGreatDoor
open Go.RowKit
theorem own_of_row {w:World} {base n x:Nat} {v:Value} (h:w.ownsRow base 68 1 v n (cells x n)) (hn:dlen x=n):Own w base v x:=by
 rcases h.2 with ⟨rfl,h0⟩|⟨g,cap,c,rfl,hb,hc,h1,h2,h3,h4⟩
 ·exact .inl ⟨rfl,dlen_eq_zero.1 (by omega)⟩
 ·refine .inr ⟨g,cap,fun i=>c.getD i undef,by rw[hn],hb,by omega,by unfold maxLen at h2;omega,⟨c,hc,by omega,fun i hi=>?_⟩,fun i hi=>?_⟩
  ·have:i<c.size:=by omega
   simp[Array.getD_eq_getD_getElem?,Array.getElem?_eq_getElem this]
  ·have h5:(cells x n)[i]?=c[i]?:=by
    rw[←h4,Nat.mul_one,List.getElem?_take,if_pos (by omega),Array.getElem?_toList]
   rw[cells_get (by omega)] at h5
   simp[Array.getD_eq_getD_getElem?,←h5]
theorem own_row {w:World} {base g x:Nat} {v:Value} (h:Own w base v x) (hg:g<base) (cs:Array Value):Own (w.setRow g cs) base v x:=by
 rcases h with h|⟨g',cap,f,h0,h1,h2,h3,h4,h5⟩
 ·exact .inl h
 ·exact .inr ⟨g',cap,f,h0,h1,h2,h3,h4.of_block (setRow_other w g g' cs (by omega)),h5⟩
theorem clone_1 (b o n cap x:Nat) (w:World) (hn0:0<n) (hn:n≤1000000000) (hx:dlen x=n) (hcell:∀ i,i<n→w.cell? ⟨b,o+i,none⟩=some (.int .u32 (dg x i:Nat))) :
  Calls Tryz.prog 157 #[.slice (some ⟨b,o,none⟩) n cap] w fun r w'=>∃ v,r=.returned v∧Own w' w.heap.size v x∧Bw w w':=by
 have HX:Hid (dlen x=n):=hx
 have hnil:=Lib.run_eql_slice_nil (P:=Tryz.prog) w 37 68 (some ⟨b,o,none⟩) n cap 0 0 Tryz.underlying37
 have HN:Hid (∀ j u,(cells x n)[j]?=some u→(w.alloc (Obj.cells #[] 68)).cell? ((⟨b,o,none⟩:Addr).add j)=some u):=fun j u hj=>by
  have hjl:j<n:=by
   have:=(List.getElem?_eq_some_iff.1 hj).1
   rwa [cells_length] at this
  rw[cells_get hjl] at hj
  have hcl:=hcell j hjl
  rw[show(⟨b,o,none⟩:Addr).add j=⟨b,o+j,none⟩ by simp[Addr.add]]
  rw[World.cell?_alloc_old _ _ _ (by have:=World.block_lt_of_cell? _ _ hcl;show b≠w.heap.size;simp at this;omega)]
  rw[←hj];exact hcl
 have hOM:(w.alloc (Obj.cells #[] 68)).ownsRow w.heap.size 68 1 (.slice (some ⟨w.heap.size,0,none⟩) 0 0) 0 []:=⟨rfl,.inr ⟨w.heap.size,0,#[],rfl,Nat.le_refl _,heap_alloc_new _ _,Nat.le_refl _,by unfold maxLen;omega,rfl,rfl⟩⟩
 obtain⟨i0,hi0,hz0,hz1,hz2⟩:=info_parts Tryz.info68
 clear hx hcell
 go_enter Tryz.func157,Tryz.ntmps157
 go_wp2_with (at_builtin;refine wpList_append_own _ rfl _ _ 37 rfl w.heap.size 68 i0 (.int .u32 0) 1 4 Tryz.underlying37 hi0 hz0 hz1 hz2 rfl (by decide) _ 0 [] rfl hOM ⟨b,o,none⟩ n cap (cells x n) rfl (by rw[cells_length,Nat.mul_one]) HN.out (by intro u hu;simp[cells] at hu;obtain⟨j,-,rfl⟩:=hu;rfl) (by unfold maxLen;omega) (by omega) (by simp) ?_)
 intro v' w2 hown hgrow _
 have HG:Hid (Bw w w2∧w2.ownsRow w.heap.size 68 1 v' n (cells x n)):=⟨Below.grown ((Below.refl w.heap.size w).alloc (Nat.le_refl _) _) hgrow (by simp) (fun k hk=>by simp[Value.ownBlock] at hk;omega),hown⟩
 clear hown hgrow hnil HN hOM hi0 hz0 hz1 hz2
 go_wp2
 go_ret
 exact⟨v',rfl,own_of_row HG.out.2 HX.out,HG.out.1⟩
theorem clone_nil (cap:Nat) (w:World) :
  Calls Tryz.prog 157 #[.slice none 0 cap] w fun r w'=>r=.returned (.slice none 0 0)∧w'=w:=by
 have hnil:=Lib.run_eql_slice_nil (P:=Tryz.prog) w 37 68 none 0 cap 0 0 Tryz.underlying37
 go_enter Tryz.func157,Tryz.ntmps157
 go_wp2
 go_ret
 exact⟨rfl,rfl⟩
theorem clone_0 (ad:Addr) (cap:Nat) (w:World) :
  Calls Tryz.prog 157 #[.slice (some ad) 0 cap] w fun r w'=>∃ v,r=.returned v∧Own w' w.heap.size v 0∧Bw w w':=by
 have hnil:=Lib.run_eql_slice_nil (P:=Tryz.prog) w 37 68 (some ad) 0 cap 0 0 Tryz.underlying37
 have HG:Hid (Below w.heap.size w (w.alloc (Obj.cells #[] 68))∧(w.alloc (Obj.cells #[] 68)).heap[w.heap.size]?=some (.cells #[] 68 (0,0))):=⟨(Below.refl _ _).alloc (Nat.le_refl _) _,heap_alloc_new _ _⟩
 go_enter Tryz.func157,Tryz.ntmps157
 go_wp2
 go_ret
 refine⟨.slice (some ⟨w.heap.size,0,none⟩) 0 0,rfl,.inr ⟨w.heap.size,0,fun _=>undef,by rw[dlen_zero],Nat.le_refl _,by rw[dlen_zero];omega,by omega,⟨#[],HG.out.2,rfl,fun i hi=>by omega⟩,fun i hi=>by rw[dlen_zero] at hi;omega⟩,HG.out.1⟩
theorem clone_ok {v:Value} {x:Nat} {w:World} (h:Is w v x) (hx:dlen x≤1000000000) :
  Calls Tryz.prog 157 #[v] w fun r w'=>∃ v,r=.returned v∧Own w' w.heap.size v x∧Bw w w':=by
 obtain⟨ao,cap,rfl,h1,h2,h3⟩:=h
 by_cases h0:x=0
 ·subst h0
  rw[dlen_zero]
  cases ao with
  | none =>
   refine(clone_nil cap w).mono ?_
   rintro r w' ⟨rfl,rfl⟩
   exact⟨_,rfl,.inl ⟨rfl,rfl⟩,Below.refl _ _⟩
  | some ad=>exact clone_0 ad cap w
 ·have hl:0<dlen x:=Nat.pos_of_ne_zero fun e=>h0 (dlen_eq_zero.1 e)
  obtain⟨b,o,g1,g2⟩:=h3
  obtain rfl:=g1 hl
  exact clone_1 b o _ cap x w hl hx rfl g2
theorem neg_t (ua:Option Addr) (un uc x:Nat) (ea:Int) (w:World) (h1:Is w (.slice ua un uc) x) (hx:dlen x≤1000000) :
  Calls Tryz.prog 174 #[.agg #[.bool true,.slice ua un uc,.int .i64 ea]] w fun r w'=>∃ v,r=.returned (.agg #[.bool false,v,.int .i64 ea])∧Own w' w.heap.size v x∧Bw w w':=by
 obtain⟨W,hW⟩:∃ W,W=(w.alloc (.cells #[.bool true,.slice ua un uc,.int .i64 ea] 45)).alloc (.cells #[.bool false,.slice none 0 0,.int .i64 0] 45):=⟨_,rfl⟩
 have hBW:Bw w W:=by rw[hW];exact((Below.refl _ _).alloc (Nat.le_refl _) _).alloc (by simp) _
 have hbA:W.heap[w.heap.size]?=some (.cells #[.bool true,.slice ua un uc,.int .i64 ea] 45 (0,0)):=by
  rw[hW,Below.heap_alloc _ _ _ (by simp)];exact heap_alloc_new _ _
 have hbB:W.heap[w.heap.size+1]?=some (.cells #[.bool false,.slice none 0 0,.int .i64 0] 45 (0,0)):=by
  have:=heap_alloc_new (w.alloc (.cells #[.bool true,.slice ua un uc,.int .i64 ea] 45)) (.cells #[.bool false,.slice none 0 0,.int .i64 0] 45)
  rw[hW];simpa using this
 have hsz:W.heap.size=w.heap.size+1+1:=by rw[hW];simp
 have HX:Hid (Bw w W∧W.heap.size=w.heap.size+1+1∧W.heap[w.heap.size+1]?=some (.cells #[.bool false,.slice none 0 0,.int .i64 0] 45 (0,0))):=⟨hBW,hsz,hbB⟩
 have HK:Hid (∀ w',Below (w.heap.size+1) W w'→(w'.cell? ⟨w.heap.size,0,none⟩=some (.bool true)∧w'.cell? ⟨w.heap.size,1,none⟩=some (.slice ua un uc)∧w'.cell? ⟨w.heap.size,2,none⟩=some (.int .i64 ea))):=fun w' hb=>(box_cells (box_later hbA hb (by omega))).1
 have kC:∀ w4,Bw W w4→Calls Tryz.prog 157 #[.slice ua un uc] w4 fun r w'=>∃ ao n cap,r=.returned (.slice ao n cap)∧Own w' W.heap.size (.slice ao n cap) x∧Bw W w':=fun w4 hb =>
  (clone_ok ((h1.later hBW).later hb) (by omega)).mono fun r w' ⟨v,e1,o1,o2⟩=>by
   obtain⟨ao,cap,rfl,-,-,-⟩:=o1.is
   exact⟨_,_,_,e1,o1.mono hb.size,hb.trans (o2.mono hb.size)⟩
 have hBR:Bw W W.drew:=(Below.refl _ _).drew
 have hBR1:Below (w.heap.size+1) W W.drew:=(Below.refl _ _).drew
 have hun:un=dlen x:=by obtain⟨_,_,e,-⟩:=h1;simp only[Value.slice.injEq] at e;exact e.2.1
 have hunb:un≤1000000:=by omega
 have H1:Hid (w.heap.size+1≤W.heap.size):=(by omega:w.heap.size+1≤W.heap.size)
 clear hbA hbB hsz hBW h1 hx hun
 go_enter Tryz.func174,Tryz.ntmps174
 go_upto_region 1 with fail
 rw[←hW]
 clear hW
 have hS0:=HK.out W.drew hBR1
 refine wp_region_held (S:=fun w'=>w'.cell? ⟨w.heap.size,0,none⟩=some (.bool true)∧w'.cell? ⟨w.heap.size,1,none⟩=some (.slice ua un uc)∧w'.cell? ⟨w.heap.size,2,none⟩=some (.int .i64 ea)) (by kernel_rfl) ?_
 change wpAnyH _ _ _ _ _ _ _ _ W.drew
 refine wpAnyH_take (i := 0) (oi := { dst := some 3, op := Op.fieldAddr 45 (Operand.tmp 1) 0, type := 0, pos := "number.go:42", after := #[], guard := none }) (v := .pointer (some ⟨w.heap.size, 0, none⟩)) rfl (by kernel_rfl) (by kernel_rfl) (by kernel_rfl) (fun _ _ _ h => h) (.inl ⟨by rfl, (by intro w1 hSw; obtain ⟨s0, s1, s2⟩ := hSw; go_simp)⟩) (by assumption) ?_
 try simp only[Act.put,List.setIfInBounds_toArray,List.set_cons_zero,List.set_cons_succ]
 refine wpAnyH_take (i := 1) (oi := { dst := some 4, op := Op.load 4 (Operand.tmp 3), type := 4, pos := "number.go:42", after := #[{ on := 0, ground := Ground.data }], guard := none }) (v := .bool true) rfl (by kernel_rfl) (by kernel_rfl) (by kernel_rfl) (fun _ _ _ h => h) (.inl ⟨by rfl, (by intro w1 hSw; obtain ⟨s0, s1, s2⟩ := hSw; go_simp)⟩) (by assumption) ?_
 try simp only[Act.put,List.setIfInBounds_toArray,List.set_cons_zero,List.set_cons_succ]
 refine wpAnyH_take (i := 2) (oi := { dst := some 5, op := Op.unOp UnOp.not 4 (Operand.tmp 4), type := 4, pos := "number.go:42", after := #[{ on := 1, ground := Ground.data }], guard := none }) (v := .bool false) rfl (by kernel_rfl) (by kernel_rfl) (by kernel_rfl) (fun _ _ _ h => h) (.inl ⟨by rfl, (by intro w1 hSw; obtain ⟨s0, s1, s2⟩ := hSw; go_simp)⟩) (by assumption) ?_
 try simp only[Act.put,List.setIfInBounds_toArray,List.set_cons_zero,List.set_cons_succ]
 refine wpAnyH_take (i := 3) (oi := { dst := some 6, op := Op.move (Operand.tmp 5), type := 4, pos := "number.go:42", after := #[{ on := 2, ground := Ground.data }], guard := none }) (v := .bool false) rfl (by kernel_rfl) (by kernel_rfl) (by kernel_rfl) (fun _ _ _ h => h) (.inl ⟨by rfl, (by intro w1 hSw; obtain ⟨s0, s1, s2⟩ := hSw; go_simp)⟩) (by assumption) ?_
 try simp only[Act.put,List.setIfInBounds_toArray,List.set_cons_zero,List.set_cons_succ]
 refine wpAnyH_take (i := 4) (oi := { dst := some 7, op := Op.fieldAddr 45 (Operand.tmp 1) 1, type := 0, pos := "number.go:42", after := #[{ on := 3, ground := Ground.guard }], guard := some (3, true) }) (v := undef) rfl (by kernel_rfl) (by kernel_rfl) (by kernel_rfl) (fun _ _ _ h => h) (.inr ⟨by rfl, rfl⟩) (by assumption) ?_
 try simp only[Act.put,List.setIfInBounds_toArray,List.set_cons_zero,List.set_cons_succ]
 refine wpAnyH_take (i := 5) (oi := { dst := some 8, op := Op.load 37 (Operand.tmp 7), type := 37, pos := "number.go:42", after := #[{ on := 4, ground := Ground.data }, { on := 3, ground := Ground.guard }], guard := some (3, true) }) (v := undef) rfl (by kernel_rfl) (by kernel_rfl) (by kernel_rfl) (fun _ _ _ h => h) (.inr ⟨by rfl, rfl⟩) (by assumption) ?_
 try simp only[Act.put,List.setIfInBounds_toArray,List.set_cons_zero,List.set_cons_succ]
 refine wpAnyH_take (i := 6) (oi := { dst := some 9, op := Op.call { callee := Callee.builtin Builtin.len, args := #[Operand.tmp 8], argTypes := #[37] }, type := 3, pos := "number.go:42", after := #[{ on := 5, ground := Ground.data }, { on := 3, ground := Ground.guard }], guard := some (3, true) }) (v := undef) rfl (by kernel_rfl) (by kernel_rfl) (by kernel_rfl) (fun _ _ _ h => h) (.inr ⟨by rfl, rfl⟩) (by assumption) ?_
 try simp only[Act.put,List.setIfInBounds_toArray,List.set_cons_zero,List.set_cons_succ]
 refine wpAnyH_take (i := 7) (oi := { dst := some 10, op := Op.binOp BinOp.gtr 3 (Operand.tmp 9) (Operand.const (Value.int IntKind.i64 0)) 3, type := 4, pos := "number.go:42", after := #[{ on := 6, ground := Ground.data }, { on := 3, ground := Ground.guard }], guard := some (3, true) }) (v := undef) rfl (by kernel_rfl) (by kernel_rfl) (by kernel_rfl) (fun _ _ _ h => h) (.inr ⟨by rfl, rfl⟩) (by assumption) ?_
 try simp only[Act.put,List.setIfInBounds_toArray,List.set_cons_zero,List.set_cons_succ]
 refine wpAnyH_take (i := 8) (oi := { dst := some 11, op := Op.pick (Operand.tmp 6) (Operand.tmp 10) (Operand.const (Value.bool false)), type := 4, pos := "number.go:42", after := #[{ on := 3, ground := Ground.data }, { on := 7, ground := Ground.data }], guard := none }) (v := .bool false) rfl (by kernel_rfl) (by kernel_rfl) (by kernel_rfl) (fun _ _ _ h => h) (.inl ⟨by rfl, (by intro w1 hSw; obtain ⟨s0, s1, s2⟩ := hSw; go_simp)⟩) (by assumption) ?_
 try simp only[Act.put,List.setIfInBounds_toArray,List.set_cons_zero,List.set_cons_succ]
 refine wpAnyH_take (i := 9) (oi := { dst := some 12, op := Op.fieldAddr 45 (Operand.tmp 1) 1, type := 0, pos := "number.go:42", after := #[], guard := none }) (v := .pointer (some ⟨w.heap.size, 1, none⟩)) rfl (by kernel_rfl) (by kernel_rfl) (by kernel_rfl) (fun _ _ _ h => h) (.inl ⟨by rfl, (by intro w1 hSw; obtain ⟨s0, s1, s2⟩ := hSw; go_simp)⟩) (by assumption) ?_
 try simp only[Act.put,List.setIfInBounds_toArray,List.set_cons_zero,List.set_cons_succ]
 refine wpAnyH_take (i := 10) (oi := { dst := some 13, op := Op.load 37 (Operand.tmp 12), type := 37, pos := "number.go:42", after := #[{ on := 9, ground := Ground.data }], guard := none }) (v := .slice ua un uc) rfl (by kernel_rfl) (by kernel_rfl) (by kernel_rfl) (fun _ _ _ h => h) (.inl ⟨by rfl, (by intro w1 hSw; obtain ⟨s0, s1, s2⟩ := hSw; go_simp)⟩) (by assumption) ?_
 try simp only[Act.put,List.setIfInBounds_toArray,List.set_cons_zero,List.set_cons_succ]
 refine wpAnyH_take (i := 12) (oi := { dst := some 15, op := Op.fieldAddr 45 (Operand.tmp 1) 2, type := 0, pos := "number.go:42", after := #[], guard := none }) (v := .pointer (some ⟨w.heap.size, 2, none⟩)) rfl (by kernel_rfl) (by kernel_rfl) (by kernel_rfl) (fun _ _ _ h => h) (.inl ⟨by rfl, (by intro w1 hSw; obtain ⟨s0, s1, s2⟩ := hSw; go_simp)⟩) (by assumption) ?_
 try simp only[Act.put,List.setIfInBounds_toArray,List.set_cons_zero,List.set_cons_succ]
 refine wpAnyH_take (i := 13) (oi := { dst := some 16, op := Op.load 3 (Operand.tmp 15), type := 3, pos := "number.go:42", after := #[{ on := 12, ground := Ground.data }], guard := none }) (v := .int .i64 ea) rfl (by kernel_rfl) (by kernel_rfl) (by kernel_rfl) (fun _ _ _ h => h) (.inl ⟨by rfl, (by intro w1 hSw; obtain ⟨s0, s1, s2⟩ := hSw; go_simp)⟩) (by assumption) ?_
 try simp only[Act.put,List.setIfInBounds_toArray,List.set_cons_zero,List.set_cons_succ]
 refine wpAnyH_ready (rs := [11]) (by kernel_rfl) (by simp) ?_
 intro i hi
 obtain rfl:i=11:=by simpa using hi
 refine step_call (o := { dst := some 14, op := Op.call { callee := Callee.value (Operand.func 157), args := #[Operand.tmp 13], argTypes := #[37] }, type := 37, pos := "number.go:42", after := #[{ on := 10, ground := Ground.data }, { on := 3, ground := Ground.chain }], guard := none }) rfl rfl rfl (enters Tryz.func157 (by kernel_rfl) (by kernel_rfl)) (vs := #[.slice ua un uc]) (by simp [Act.eval]) ?_
 refine(kC _ hBR).mono ?_
 rintro r w5 ⟨ao5,n5,cap5,rfl,ho5,hb5⟩
 have hblk5:=box_later HX.out.2.2 hb5 (by have:=HX.out.2.1;omega)
 have hS5:=HK.out _ (Below.mono hb5 H1.out)
 refine⟨_,rfl,hS5,?_⟩
 try simp only[Act.put,List.setIfInBounds_toArray,List.set_cons_zero,List.set_cons_succ]
 refine wpAnyH_take (i := 14) (oi := { dst := some 17, op := Op.build 45 #[(0, Operand.tmp 11), (1, Operand.tmp 14), (2, Operand.tmp 16)], type := 45, pos := "number.go:42", after := #[{ on := 8, ground := Ground.data }, { on := 11, ground := Ground.data }, { on := 13, ground := Ground.data }], guard := none }) (v := .agg #[.bool false, .slice ao5 n5 cap5, .int .i64 ea]) rfl (by kernel_rfl) (by kernel_rfl) (by kernel_rfl) (fun _ _ _ h => h) (.inl ⟨by rfl, (by intro w1 hSw; go_simp)⟩) (by assumption) ?_
 try simp only[Act.put,List.setIfInBounds_toArray,List.set_cons_zero,List.set_cons_succ]
 refine wpAnyH_ready (rs := [15]) (by kernel_rfl) (by simp) ?_
 intro i hi
 obtain rfl:i=15:=by simpa using hi
 refine step_store (o := { dst := none, op := Op.store 45 (Operand.tmp 2) (Operand.tmp 17), type := 0, pos := "number.go:42", after := #[{ on := 14, ground := Ground.data }, { on := 11, ground := Ground.chain }, { on := 0, ground := Ground.phase }, { on := 1, ground := Ground.phase }, { on := 2, ground := Ground.phase }, { on := 3, ground := Ground.phase }, { on := 4, ground := Ground.phase }, { on := 5, ground := Ground.phase }, { on := 6, ground := Ground.phase }, { on := 7, ground := Ground.phase }, { on := 8, ground := Ground.phase }, { on := 9, ground := Ground.phase }, { on := 10, ground := Ground.phase }, { on := 11, ground := Ground.phase }, { on := 12, ground := Ground.phase }, { on := 13, ground := Ground.phase }, { on := 14, ground := Ground.phase }], guard := none }) rfl rfl rfl rfl rfl hblk5 Tryz.info45 rfl (one3 rfl rfl) ?_
 refine⟨HK.out _ (below_row (Below.mono hb5 H1.out) (Nat.le_refl _) _),?_⟩
 refine wpAnyH_done (by kernel_rfl) ?_ _
 have HF:Hid (Bw W w5∧Own w5 W.heap.size (.slice ao5 n5 cap5) x∧w5.heap[w.heap.size+1]?=some (.cells #[.bool false,.slice none 0 0,.int .i64 0] 45 (0,0))):=⟨hb5,ho5,hblk5⟩
 clear ho5 hb5 hblk5 kC HK hBR hBR1 hS0 hS5
 go_wp2
 refine bodyPost_ret (results_cell_row rfl _ _ (w.heap.size+1) 45 #[.bool false,.slice ao5 n5 cap5,.int .i64 ea] (0,0) _ rfl (setRow_heap _ _ _ _ _ _ HF.out.2.2) Tryz.underlying45 rfl Tryz.info45) rfl ?_
 obtain⟨q1,q2,-⟩:=HX.out
 exact⟨_,rfl,(own_row HF.out.2.1 (by omega) _).mono (by omega),below_row (q1.trans (HF.out.1.mono q1.size)) (by omega) _⟩
theorem neg_f (ua:Option Addr) (un uc x:Nat) (ea:Int) (w:World) (h1:Is w (.slice ua un uc) x) (hx:dlen x≤1000000) :
  Calls Tryz.prog 174 #[.agg #[.bool false,.slice ua un uc,.int .i64 ea]] w fun r w'=>∃ v,r=.returned (.agg #[.bool (decide (0<un)),v,.int .i64 ea])∧Own w' w.heap.size v x∧Bw w w':=by
 obtain⟨W,hW⟩:∃ W,W=(w.alloc (.cells #[.bool false,.slice ua un uc,.int .i64 ea] 45)).alloc (.cells #[.bool false,.slice none 0 0,.int .i64 0] 45):=⟨_,rfl⟩
 have hBW:Bw w W:=by rw[hW];exact((Below.refl _ _).alloc (Nat.le_refl _) _).alloc (by simp) _
 have hbA:W.heap[w.heap.size]?=some (.cells #[.bool false,.slice ua un uc,.int .i64 ea] 45 (0,0)):=by
  rw[hW,Below.heap_alloc _ _ _ (by simp)];exact heap_alloc_new _ _
 have hbB:W.heap[w.heap.size+1]?=some (.cells #[.bool false,.slice none 0 0,.int .i64 0] 45 (0,0)):=by
  have:=heap_alloc_new (w.alloc (.cells #[.bool false,.slice ua un uc,.int .i64 ea] 45)) (.cells #[.bool false,.slice none 0 0,.int .i64 0] 45)
  rw[hW];simpa using this
 have hsz:W.heap.size=w.heap.size+1+1:=by rw[hW];simp
 have HX:Hid (Bw w W∧W.heap.size=w.heap.size+1+1∧W.heap[w.heap.size+1]?=some (.cells #[.bool false,.slice none 0 0,.int .i64 0] 45 (0,0))):=⟨hBW,hsz,hbB⟩
 have HK:Hid (∀ w',Below (w.heap.size+1) W w'→(w'.cell? ⟨w.heap.size,0,none⟩=some (.bool false)∧w'.cell? ⟨w.heap.size,1,none⟩=some (.slice ua un uc)∧w'.cell? ⟨w.heap.size,2,none⟩=some (.int .i64 ea))):=fun w' hb=>(box_cells (box_later hbA hb (by omega))).1
 have kC:∀ w4,Bw W w4→Calls Tryz.prog 157 #[.slice ua un uc] w4 fun r w'=>∃ ao n cap,r=.returned (.slice ao n cap)∧Own w' W.heap.size (.slice ao n cap) x∧Bw W w':=fun w4 hb =>
  (clone_ok ((h1.later hBW).later hb) (by omega)).mono fun r w' ⟨v,e1,o1,o2⟩=>by
   obtain⟨ao,cap,rfl,-,-,-⟩:=o1.is
   exact⟨_,_,_,e1,o1.mono hb.size,hb.trans (o2.mono hb.size)⟩
 have hBR:Bw W W.drew:=(Below.refl _ _).drew
 have hBR1:Below (w.heap.size+1) W W.drew:=(Below.refl _ _).drew
 have hun:un=dlen x:=by obtain⟨_,_,e,-⟩:=h1;simp only[Value.slice.injEq] at e;exact e.2.1
 have hunb:un≤1000000:=by omega
 have H1:Hid (w.heap.size+1≤W.heap.size):=(by omega:w.heap.size+1≤W.heap.size)
 clear hbA hbB hsz hBW h1 hx hun
 go_enter Tryz.func174,Tryz.ntmps174
 go_upto_region 1 with fail
 rw[←hW]
 clear hW
 go_region_held3 (fun w'=>w'.cell? ⟨w.heap.size,0,none⟩=some (.bool false)∧w'.cell? ⟨w.heap.size,1,none⟩=some (.slice ua un uc)∧w'.cell? ⟨w.heap.size,2,none⟩=some (.int .i64 ea)) (first|(with_reducible assumption)|exact HK.out _ hBR1|(refine HK.out _ (Below.mono ?_ H1.out);with_reducible assumption)|(refine HK.out _ (below_store3 (Below.mono hb5 H1.out) (Nat.le_refl _) _ _ _))|go_keep)
  (first|(go_at_call 157;refine(kC _ (by first|(with_reducible assumption)|exact hBR)).mono ?_;rintro r w5 ⟨ao5,n5,cap5,rfl,ho5,hb5⟩;have hblk5:=box_later HX.out.2.2 hb5 (by have:=HX.out.2.1;omega);obtain⟨⟨x1,x2,x3⟩,x4,x5,x6⟩:=box_cells hblk5))
 have HF:Hid (Bw W w5∧Own w5 W.heap.size (.slice ao5 n5 cap5) x∧w5.heap[w.heap.size+1]?=some (.cells #[.bool false,.slice none 0 0,.int .i64 0] 45 (0,0))):=⟨hb5,ho5,hblk5⟩
 clear ho5 hb5 hblk5 x1 x2 x3 x4 x5 x6 kC HK hBR hBR1
 go_wp2
 refine bodyPost_ret (results_cell_row rfl _ _ (w.heap.size+1) 45 #[.bool (decide (0<un)),.slice ao5 n5 cap5,.int .i64 ea] (0,0) _ rfl (store3 _ _ _ HF.out.2.2) Tryz.underlying45 rfl Tryz.info45) rfl ?_
 obtain⟨q1,q2,-⟩:=HX.out
 exact⟨_,rfl,(own_store3 HF.out.2.1 (by omega) _ _ _).mono (by omega),below_store3 (q1.trans (HF.out.1.mono q1.size)) (by omega) _ _ _⟩
theorem neg_ok {na:Bool} {ua:Option Addr} {un uc x:Nat} {ea:Int} {w:World} (h1:Is w (.slice ua un uc) x) (hx:dlen x≤1000000) :
  Calls Tryz.prog 174 #[.agg #[.bool na,.slice ua un uc,.int .i64 ea]] w fun r w'=>∃ v,r=.returned (.agg #[.bool (!na&&decide (0<un)),v,.int .i64 ea])∧Own w' w.heap.size v x∧Bw w w':=by
 cases na
 ·exact neg_f ua un uc x ea w h1 hx
 ·exact neg_t ua un uc x ea w h1 hx
end Go.Proofs.YtokklnjoalkjaaaGreatDoor
namespace Go.Proofs.YtokklnjoalkjaaaGreatDoor
open Go.RowKit Go.Fl64
theorem c159 (a:Nat) (ha:a<18446744073709551616) (w:World) :
  Calls Tryz.prog 106 #[.float .f64 a] w fun e w'=>e=.returned (.float .f64 (mag a))∧w'=w:=by
 have hb:=Ie.run_bits
 have hf:=Ie.run_frombits
 go_enter Tryz.func106,Tryz.ntmps106
 go_wp2
 go_ret
 refine⟨?_,rfl⟩
 show Ending.returned (.float .f64 (bits .andNot .u64 a 9223372036854775808).toNat)=_
 rw[andNot_sign a ha]
 simp
theorem mag_lt' (a:Nat) (ha:a<18446744073709551616):mag a<18446744073709551616:=by unfold mag;omega
theorem c123 (a:Nat) (ha:a<18446744073709551616) (w:World) :
  Calls Tryz.prog 62 #[.float .f64 a,.int .i64 0] w fun e w'=>e=.returned (.bool (lt 9218868437227405311 (mag a)))∧w'=w:=by
 have k:=c159 a ha
 have h:=ord_gt (mag a) 9218868437227405311 (mag_lt' a ha) (by omega)
 generalize mag a=m at *
 have H:Hid ((FloatKind.f64.format.order m 9218868437227405311==some Ordering.gt)=lt 9218868437227405311 m):=h
 clear h
 go_enter Tryz.func62,Tryz.ntmps62
 go_wp2_with (first|(go_at_call 106;refine(k _).mono ?_;rintro e w' ⟨rfl,rfl⟩))
 go_ret
 exact⟨congrArg Ending.returned (congrArg Value.bool H.out),rfl⟩
theorem hidOf {p:Prop} (h:p):Hid p:=h
theorem Nrm.later {w w':World} {base:Nat} {a:Value} {neg:Bool} {x:Nat} {e:Int} (h:Nrm w base a neg x e) (hb:Bw w w'):Nrm w' base a neg x e:=by
 rcases h with h|⟨h0,v,h1,ho⟩
 ·exact .inl h
 ·exact .inr ⟨h0,v,h1,ho.later hb⟩
theorem lt_of_box {w:World} {g:Nat} {o:Obj} (h:w.heap[g]?=some o):g<w.heap.size:=(Array.getElem?_eq_some_iff.1 h).1
theorem same_self (a:Nat):same a a=true:=by simp[same]
end Go.Proofs.YtokklnjoalkjaaaGreatDoor
namespace Go.Proofs.YtokklnjoalkjaaaGreatDoor
open Go.RowKit
theorem c21_t (na nb:Bool) (ua va:Option Addr) (un uc vn vc z:Nat) (ea eb e:Int) (s nn:Bool) (y:Nat) (w:World) (hz:dlen z≤35184372088832) (hok:okR s z e=true)
  (k67:∀ W g,Bw w W→W.heap[g]?=some (.cells #[.bool na,.slice ua un uc,.int .i64 ea,.bool nb,.slice va vn vc,.int .i64 eb] 45 (0,0))→Calls Tryz.prog 90 #[.slice (some ⟨g,0,none⟩) 2 2] W fun r w'=>r=.returned (.bool true)∧Bw W w')
  (kN:∀ W,Bw w W→Calls Tryz.prog 174 #[.agg #[.bool nb,.slice va vn vc,.int .i64 eb]] W fun r w'=>∃ v,r=.returned (.agg #[.bool nn,v,.int .i64 eb])∧Own w' W.heap.size v y∧Bw W w')
  (kS:∀ W v base,Bw w W→Own W base v y→Calls Tryz.prog 124 #[.agg #[.bool na,.slice ua un uc,.int .i64 ea],.agg #[.bool nn,v,.int .i64 eb]] W fun r w'=>∃ a,r=.returned a∧Nrm w' W.heap.size a s z e∧Bw W w') :
  Calls Tryz.prog 155 #[.agg #[.bool na,.slice ua un uc,.int .i64 ea],.agg #[.bool nb,.slice va vn vc,.int .i64 eb]] w fun r w'=>Held w s z e r w':=by
 obtain⟨W,hW⟩:∃ W,W=((w.alloc (.cells #[.bool na,.slice ua un uc,.int .i64 ea] 45)).alloc (.cells #[.bool nb,.slice va vn vc,.int .i64 eb] 45)).alloc (.cells #[.bool false,.slice none 0 0,.int .i64 0] 45):=⟨_,rfl⟩
 obtain⟨hA,hBb,hC,hsz,hBW⟩:=boxes3 _ _ _ hW
 have hB4:Below w.heap.size w (W.alloc (.cells #[.bool na,.slice ua un uc,.int .i64 ea,.bool nb,.slice va vn vc,.int .i64 eb] 45)):=hBW.alloc hBW.size _
 have k1:=k67 (W.alloc (.cells #[.bool na,.slice ua un uc,.int .i64 ea,.bool nb,.slice va vn vc,.int .i64 eb] 45)) (w.heap.size+1+1+1) hB4 (by rw[←hsz];exact heap_alloc_new _ _)
 have HH:Hid ((W.heap[w.heap.size]?=some (.cells #[.bool na,.slice ua un uc,.int .i64 ea] 45 (0,0))∧W.heap[w.heap.size+1]?=some (.cells #[.bool nb,.slice va vn vc,.int .i64 eb] 45 (0,0))∧W.heap[w.heap.size+1+1]?=some (.cells #[.bool false,.slice none 0 0,.int .i64 0] 45 (0,0)))∧W.heap.size=w.heap.size+1+1+1∧Bw w W∧Below W.heap.size W (W.alloc (.cells #[.bool na,.slice ua un uc,.int .i64 ea,.bool nb,.slice va vn vc,.int .i64 eb] 45))):=⟨⟨hA,hBb,hC⟩,hsz,hBW,(Below.refl _ _).alloc (Nat.le_refl _) _⟩
 have HZ:Hid (dlen z≤35184372088832∧okR s z e=true):=⟨hz,hok⟩
 have HKN:Hid _:=kN
 have HKS:Hid _:=kS
 clear hA hBb hC hsz hBW hB4 k67 kN kS hz hok
 go_enter Tryz.func155,Tryz.ntmps155
 go_wp2_with fail
 rw[←hW]
 clear hW
 refine k1.mono ?_
 rintro r w1 ⟨rfl,hB1⟩
 clear k1
 have hBW1:Bw W w1:=HH.out.2.2.2.trans (hB1.mono HH.out.2.2.2.size)
 have H3:Hid (w1.heap[w.heap.size]?=some (.cells #[.bool na,.slice ua un uc,.int .i64 ea] 45 (0,0))∧w1.heap[w.heap.size+1]?=some (.cells #[.bool nb,.slice va vn vc,.int .i64 eb] 45 (0,0))∧w1.heap[w.heap.size+1+1]?=some (.cells #[.bool false,.slice none 0 0,.int .i64 0] 45 (0,0))∧w.heap.size+1+1+1≤w1.heap.size∧Bw w w1):=⟨box_later HH.out.1.1 hBW1 (by have:=HH.out.2.1;omega),box_later HH.out.1.2.1 hBW1 (by have:=HH.out.2.1;omega),box_later HH.out.1.2.2 hBW1 (by have:=HH.out.2.1;omega),by have:=hBW1.size;have:=HH.out.2.1;omega,HH.out.2.2.1.trans (hBW1.mono HH.out.2.2.1.size)⟩
 clear hB1 hBW1
 have HK:Hid (∀ w',Below (w.heap.size+1+1) w1 w'→((w'.cell? ⟨w.heap.size,0,none⟩=some (.bool na)∧w'.cell? ⟨w.heap.size,1,none⟩=some (.slice ua un uc)∧w'.cell? ⟨w.heap.size,2,none⟩=some (.int .i64 ea))∧(w'.cell? ⟨w.heap.size+1,0,none⟩=some (.bool nb)∧w'.cell? ⟨w.heap.size+1,1,none⟩=some (.slice va vn vc)∧w'.cell? ⟨w.heap.size+1,2,none⟩=some (.int .i64 eb)))):=fun w' hb=>⟨(box_cells (box_later H3.out.1 hb (by omega))).1,(box_cells (box_later H3.out.2.1 hb (by omega))).1⟩
 have H1:Hid (w.heap.size+1+1≤w1.heap.size):=(by have:=H3.out.2.2.2.1;omega:w.heap.size+1+1≤w1.heap.size)
 have hBR:Bw w1 w1.drew:=(Below.refl _ _).drew
 have hBR1:Below (w.heap.size+1+1) w1 w1.drew:=(Below.refl _ _).drew
 have kn:∀ w4,Bw w1 w4→Calls Tryz.prog 174 #[.agg #[.bool nb,.slice va vn vc,.int .i64 eb]] w4 fun r w'=>∃ ao n cap,r=.returned (.agg #[.bool nn,.slice ao n cap,.int .i64 eb])∧Own w' w1.heap.size (.slice ao n cap) y∧Bw w1 w':=fun w4 hb =>
  (HKN.out w4 (H3.out.2.2.2.2.trans (hb.mono H3.out.2.2.2.2.size))).mono fun r w' ⟨v,e1,o1,o2⟩=>by
   obtain⟨ao,cap,rfl,-,-,-⟩:=o1.is
   exact⟨_,_,_,e1,o1.mono hb.size,hb.trans (o2.mono hb.size)⟩
 have ks:∀ ao n cap w5,Own w5 w1.heap.size (.slice ao n cap) y→Bw w1 w5→Calls Tryz.prog 124 #[.agg #[.bool na,.slice ua un uc,.int .i64 ea],.agg #[.bool nn,.slice ao n cap,.int .i64 eb]] w5 fun r w'=>∃ s' ao n cap ex,r=.returned (.agg #[.bool s',.slice ao n cap,.int .i64 ex])∧Nrm w' w1.heap.size (.agg #[.bool s',.slice ao n cap,.int .i64 ex]) s z e∧Bw w1 w':=fun ao n cap w5 ho hb =>
  (HKS.out w5 _ _ (H3.out.2.2.2.2.trans (hb.mono H3.out.2.2.2.2.size)) ho).mono fun r w' ⟨v,e1,o1,o2⟩=>by
   obtain⟨s',ao,n,cap,ex,rfl⟩:=o1.shape
   exact⟨_,_,_,_,_,e1,o1.mono hb.size,hb.trans (o2.mono hb.size)⟩
 have kb:∀ s6 ao6 n6 cap6 ex6 w6,Nrm w6 w1.heap.size (.agg #[.bool s6,.slice ao6 n6 cap6,.int .i64 ex6]) s z e→Bw w1 w6→Calls Tryz.prog 123 #[.agg #[.bool s6,.slice ao6 n6 cap6,.int .i64 ex6]] w6 fun r w'=>r=.returned (.tuple #[.agg #[.bool s6,.slice ao6 n6 cap6,.int .i64 ex6],.int .i64 0])∧Hid (Nrm w' w1.heap.size (.agg #[.bool s6,.slice ao6 n6 cap6,.int .i64 ex6]) s z e)∧Bw w1 w'∧Hid (w'.heap[w.heap.size+1+1]?=some (.cells #[.bool false,.slice none 0 0,.int .i64 0] 45 (0,0))) ∧
   (w'.cell? ⟨w.heap.size+1+1,0,none⟩=some (.bool false)∧w'.cell? ⟨w.heap.size+1+1,1,none⟩=some (.slice none 0 0)∧w'.cell? ⟨w.heap.size+1+1,2,none⟩=some (.int .i64 0))∧(w'.frozen? ⟨w.heap.size+1+1,0,none⟩=false∧w'.frozen? ⟨w.heap.size+1+1,1,none⟩=false∧w'.frozen? ⟨w.heap.size+1+1,2,none⟩=false):=fun s6 ao6 n6 cap6 ex6 w6 hN hb=>by
  have k:=c63n hN HZ.out.1
  rw[HZ.out.2] at k
  refine k.mono ?_
  rintro r w' ⟨rfl,hb2⟩
  have hb3:Bw w1 w':=hb.trans (hb2.mono hb.size)
  have hblk:=box_later H3.out.2.2.1 hb3 (by have:=H3.out.2.2.2.1;omega)
  obtain⟨f1,f2⟩:=box_cells hblk
  exact⟨rfl,hN.later hb2,hb3,hblk,f1,f2⟩
 obtain⟨⟨a0,a1,a2⟩,b0,b1,b2⟩:=HK.out w1 (Below.refl _ _)
 go_upto_region 3 with fail
 go_region_held3 (fun w'=>((w'.cell? ⟨w.heap.size,0,none⟩=some (.bool na)∧w'.cell? ⟨w.heap.size,1,none⟩=some (.slice ua un uc)∧w'.cell? ⟨w.heap.size,2,none⟩=some (.int .i64 ea))∧(w'.cell? ⟨w.heap.size+1,0,none⟩=some (.bool nb)∧w'.cell? ⟨w.heap.size+1,1,none⟩=some (.slice va vn vc)∧w'.cell? ⟨w.heap.size+1,2,none⟩=some (.int .i64 eb)))) (first|(with_reducible assumption)|exact⟨⟨a0,a1,a2⟩,b0,b1,b2⟩|(refine HK.out _ (Below.mono ?_ H1.out);with_reducible assumption)|(refine HK.out _ (below_store3 (Below.mono hb7 H1.out) (Nat.le_refl _) _ _ _))|go_keep)
  (first|(go_at_call 174;refine(kn _ (by first|(with_reducible assumption)|exact hBR)).mono ?_;rintro r w5 ⟨ao5,n5,cap5,rfl,ho5,hb5⟩)|(go_at_call 124;refine(ks _ _ _ _ ho5 hb5).mono ?_;rintro r w6 ⟨s6,ao6,n6,cap6,ex6,rfl,hn6,hb6⟩)|(go_at_call 123;refine(kb _ _ _ _ _ _ hn6 hb6).mono ?_;rintro r w7 ⟨rfl,hN7,hb7,hblk7,⟨x1,x2,x3⟩,x4,x5,x6⟩))
 have HF:Hid (Bw w1 w7):=hb7
 clear ho5 hb5 hn6 hb6 hb7 kn ks kb x1 x2 x3 x4 x5 x6 a0 a1 a2 b0 b1 b2 HK
 go_wp2
 refine bodyPost_ret (results_cell_tmp_row rfl _ _ (w.heap.size+1+1) 45 #[.bool s6,.slice ao6 n6 cap6,.int .i64 ex6] (0,0) _ rfl (store3 _ _ _ hblk7.out) Tryz.underlying45 rfl Tryz.info45) rfl ?_
 have hs:=H3.out.2.2.2.1
 exact⟨.agg #[.bool s6,.slice ao6 n6 cap6,.int .i64 ex6],by rw[HZ.out.2];rfl,(hN7.out.store (by omega) _ _ _).mono (by omega),below_store3 (H3.out.2.2.2.2.trans (HF.out.mono H3.out.2.2.2.2.size)) (by omega) _ _ _⟩
theorem c21_f (na nb:Bool) (ua va:Option Addr) (un uc vn vc z:Nat) (ea eb e:Int) (s nn:Bool) (y:Nat) (w:World) (hz:dlen z≤35184372088832) (hok:okR s z e=false)
  (k67:∀ W g,Bw w W→W.heap[g]?=some (.cells #[.bool na,.slice ua un uc,.int .i64 ea,.bool nb,.slice va vn vc,.int .i64 eb] 45 (0,0))→Calls Tryz.prog 90 #[.slice (some ⟨g,0,none⟩) 2 2] W fun r w'=>r=.returned (.bool true)∧Bw W w')
  (kN:∀ W,Bw w W→Calls Tryz.prog 174 #[.agg #[.bool nb,.slice va vn vc,.int .i64 eb]] W fun r w'=>∃ v,r=.returned (.agg #[.bool nn,v,.int .i64 eb])∧Own w' W.heap.size v y∧Bw W w')
  (kS:∀ W v base,Bw w W→Own W base v y→Calls Tryz.prog 124 #[.agg #[.bool na,.slice ua un uc,.int .i64 ea],.agg #[.bool nn,v,.int .i64 eb]] W fun r w'=>∃ a,r=.returned a∧Nrm w' W.heap.size a s z e∧Bw W w') :
  Calls Tryz.prog 155 #[.agg #[.bool na,.slice ua un uc,.int .i64 ea],.agg #[.bool nb,.slice va vn vc,.int .i64 eb]] w fun r w'=>Held w s z e r w':=by
 obtain⟨W,hW⟩:∃ W,W=((w.alloc (.cells #[.bool na,.slice ua un uc,.int .i64 ea] 45)).alloc (.cells #[.bool nb,.slice va vn vc,.int .i64 eb] 45)).alloc (.cells #[.bool false,.slice none 0 0,.int .i64 0] 45):=⟨_,rfl⟩
 obtain⟨hA,hBb,hC,hsz,hBW⟩:=boxes3 _ _ _ hW
 have hB4:Below w.heap.size w (W.alloc (.cells #[.bool na,.slice ua un uc,.int .i64 ea,.bool nb,.slice va vn vc,.int .i64 eb] 45)):=hBW.alloc hBW.size _
 have k1:=k67 (W.alloc (.cells #[.bool na,.slice ua un uc,.int .i64 ea,.bool nb,.slice va vn vc,.int .i64 eb] 45)) (w.heap.size+1+1+1) hB4 (by rw[←hsz];exact heap_alloc_new _ _)
 have HH:Hid ((W.heap[w.heap.size]?=some (.cells #[.bool na,.slice ua un uc,.int .i64 ea] 45 (0,0))∧W.heap[w.heap.size+1]?=some (.cells #[.bool nb,.slice va vn vc,.int .i64 eb] 45 (0,0))∧W.heap[w.heap.size+1+1]?=some (.cells #[.bool false,.slice none 0 0,.int .i64 0] 45 (0,0)))∧W.heap.size=w.heap.size+1+1+1∧Bw w W∧Below W.heap.size W (W.alloc (.cells #[.bool na,.slice ua un uc,.int .i64 ea,.bool nb,.slice va vn vc,.int .i64 eb] 45))):=⟨⟨hA,hBb,hC⟩,hsz,hBW,(Below.refl _ _).alloc (Nat.le_refl _) _⟩
 have HZ:Hid (dlen z≤35184372088832∧okR s z e=false):=⟨hz,hok⟩
 have HKN:Hid _:=kN
 have HKS:Hid _:=kS
 clear hA hBb hC hsz hBW hB4 k67 kN kS hz hok
 go_enter Tryz.func155,Tryz.ntmps155
 go_wp2_with fail
 rw[←hW]
 clear hW
 refine k1.mono ?_
 rintro r w1 ⟨rfl,hB1⟩
 clear k1
 have hBW1:Bw W w1:=HH.out.2.2.2.trans (hB1.mono HH.out.2.2.2.size)
 have H3:Hid (w1.heap[w.heap.size]?=some (.cells #[.bool na,.slice ua un uc,.int .i64 ea] 45 (0,0))∧w1.heap[w.heap.size+1]?=some (.cells #[.bool nb,.slice va vn vc,.int .i64 eb] 45 (0,0))∧w1.heap[w.heap.size+1+1]?=some (.cells #[.bool false,.slice none 0 0,.int .i64 0] 45 (0,0))∧w.heap.size+1+1+1≤w1.heap.size∧Bw w w1):=⟨box_later HH.out.1.1 hBW1 (by have:=HH.out.2.1;omega),box_later HH.out.1.2.1 hBW1 (by have:=HH.out.2.1;omega),box_later HH.out.1.2.2 hBW1 (by have:=HH.out.2.1;omega),by have:=hBW1.size;have:=HH.out.2.1;omega,HH.out.2.2.1.trans (hBW1.mono HH.out.2.2.1.size)⟩
 clear hB1 hBW1
 have HK:Hid (∀ w',Below (w.heap.size+1+1) w1 w'→((w'.cell? ⟨w.heap.size,0,none⟩=some (.bool na)∧w'.cell? ⟨w.heap.size,1,none⟩=some (.slice ua un uc)∧w'.cell? ⟨w.heap.size,2,none⟩=some (.int .i64 ea))∧(w'.cell? ⟨w.heap.size+1,0,none⟩=some (.bool nb)∧w'.cell? ⟨w.heap.size+1,1,none⟩=some (.slice va vn vc)∧w'.cell? ⟨w.heap.size+1,2,none⟩=some (.int .i64 eb)))):=fun w' hb=>⟨(box_cells (box_later H3.out.1 hb (by omega))).1,(box_cells (box_later H3.out.2.1 hb (by omega))).1⟩
 have H1:Hid (w.heap.size+1+1≤w1.heap.size):=(by have:=H3.out.2.2.2.1;omega:w.heap.size+1+1≤w1.heap.size)
 have hBR:Bw w1 w1.drew:=(Below.refl _ _).drew
 have hBR1:Below (w.heap.size+1+1) w1 w1.drew:=(Below.refl _ _).drew
 have kn:∀ w4,Bw w1 w4→Calls Tryz.prog 174 #[.agg #[.bool nb,.slice va vn vc,.int .i64 eb]] w4 fun r w'=>∃ ao n cap,r=.returned (.agg #[.bool nn,.slice ao n cap,.int .i64 eb])∧Own w' w1.heap.size (.slice ao n cap) y∧Bw w1 w':=fun w4 hb =>
  (HKN.out w4 (H3.out.2.2.2.2.trans (hb.mono H3.out.2.2.2.2.size))).mono fun r w' ⟨v,e1,o1,o2⟩=>by
   obtain⟨ao,cap,rfl,-,-,-⟩:=o1.is
   exact⟨_,_,_,e1,o1.mono hb.size,hb.trans (o2.mono hb.size)⟩
 have ks:∀ ao n cap w5,Own w5 w1.heap.size (.slice ao n cap) y→Bw w1 w5→Calls Tryz.prog 124 #[.agg #[.bool na,.slice ua un uc,.int .i64 ea],.agg #[.bool nn,.slice ao n cap,.int .i64 eb]] w5 fun r w'=>∃ s' ao n cap ex,r=.returned (.agg #[.bool s',.slice ao n cap,.int .i64 ex])∧Nrm w' w1.heap.size (.agg #[.bool s',.slice ao n cap,.int .i64 ex]) s z e∧Bw w1 w':=fun ao n cap w5 ho hb =>
  (HKS.out w5 _ _ (H3.out.2.2.2.2.trans (hb.mono H3.out.2.2.2.2.size)) ho).mono fun r w' ⟨v,e1,o1,o2⟩=>by
   obtain⟨s',ao,n,cap,ex,rfl⟩:=o1.shape
   exact⟨_,_,_,_,_,e1,o1.mono hb.size,hb.trans (o2.mono hb.size)⟩
 have kb:∀ s6 ao6 n6 cap6 ex6 w6,Nrm w6 w1.heap.size (.agg #[.bool s6,.slice ao6 n6 cap6,.int .i64 ex6]) s z e→Bw w1 w6→Calls Tryz.prog 123 #[.agg #[.bool s6,.slice ao6 n6 cap6,.int .i64 ex6]] w6 fun r w'=>r=.returned (.tuple #[.agg #[.bool false,.slice none 0 0,.int .i64 0],.int .i64 2])∧Hid (Nrm w' w1.heap.size (.agg #[.bool s6,.slice ao6 n6 cap6,.int .i64 ex6]) s z e)∧Bw w1 w'∧Hid (w'.heap[w.heap.size+1+1]?=some (.cells #[.bool false,.slice none 0 0,.int .i64 0] 45 (0,0))) ∧
   (w'.cell? ⟨w.heap.size+1+1,0,none⟩=some (.bool false)∧w'.cell? ⟨w.heap.size+1+1,1,none⟩=some (.slice none 0 0)∧w'.cell? ⟨w.heap.size+1+1,2,none⟩=some (.int .i64 0))∧(w'.frozen? ⟨w.heap.size+1+1,0,none⟩=false∧w'.frozen? ⟨w.heap.size+1+1,1,none⟩=false∧w'.frozen? ⟨w.heap.size+1+1,2,none⟩=false):=fun s6 ao6 n6 cap6 ex6 w6 hN hb=>by
  have k:=c63n hN HZ.out.1
  rw[HZ.out.2] at k
  refine k.mono ?_
  rintro r w' ⟨rfl,hb2⟩
  have hb3:Bw w1 w':=hb.trans (hb2.mono hb.size)
  have hblk:=box_later H3.out.2.2.1 hb3 (by have:=H3.out.2.2.2.1;omega)
  obtain⟨f1,f2⟩:=box_cells hblk
  exact⟨rfl,hN.later hb2,hb3,hblk,f1,f2⟩
 obtain⟨⟨a0,a1,a2⟩,b0,b1,b2⟩:=HK.out w1 (Below.refl _ _)
 go_upto_region 3 with fail
 go_region_held3 (fun w'=>((w'.cell? ⟨w.heap.size,0,none⟩=some (.bool na)∧w'.cell? ⟨w.heap.size,1,none⟩=some (.slice ua un uc)∧w'.cell? ⟨w.heap.size,2,none⟩=some (.int .i64 ea))∧(w'.cell? ⟨w.heap.size+1,0,none⟩=some (.bool nb)∧w'.cell? ⟨w.heap.size+1,1,none⟩=some (.slice va vn vc)∧w'.cell? ⟨w.heap.size+1,2,none⟩=some (.int .i64 eb)))) (first|(with_reducible assumption)|exact⟨⟨a0,a1,a2⟩,b0,b1,b2⟩|(refine HK.out _ (Below.mono ?_ H1.out);with_reducible assumption)|(refine HK.out _ (below_store3 (Below.mono hb7 H1.out) (Nat.le_refl _) _ _ _))|go_keep)
  (first|(go_at_call 174;refine(kn _ (by first|(with_reducible assumption)|exact hBR)).mono ?_;rintro r w5 ⟨ao5,n5,cap5,rfl,ho5,hb5⟩)|(go_at_call 124;refine(ks _ _ _ _ ho5 hb5).mono ?_;rintro r w6 ⟨s6,ao6,n6,cap6,ex6,rfl,hn6,hb6⟩)|(go_at_call 123;refine(kb _ _ _ _ _ _ hn6 hb6).mono ?_;rintro r w7 ⟨rfl,hN7,hb7,hblk7,⟨x1,x2,x3⟩,x4,x5,x6⟩))
 have HF:Hid (Bw w1 w7):=hb7
 clear ho5 hb5 hn6 hb6 hb7 kn ks kb x1 x2 x3 x4 x5 x6 a0 a1 a2 b0 b1 b2 HK
 go_wp2
 refine bodyPost_ret (results_cell_tmp_row rfl _ _ (w.heap.size+1+1) 45 #[.bool false,.slice none 0 0,.int .i64 0] (0,0) _ rfl (store3 _ _ _ hblk7.out) Tryz.underlying45 rfl Tryz.info45) rfl ?_
 have hs:=H3.out.2.2.2.1
 exact⟨.agg #[.bool s6,.slice ao6 n6 cap6,.int .i64 ex6],by rw[HZ.out.2];rfl,(hN7.out.store (by omega) _ _ _).mono (by omega),below_store3 (H3.out.2.2.2.2.trans (HF.out.mono H3.out.2.2.2.2.size)) (by omega) _ _ _⟩
theorem dlen_sumN (na:Bool) (x:Nat) (ea:Int) (nb:Bool) (y:Nat) (eb:Int) (hx:dlen x≤500000) (hy:dlen y≤500000) (ha : -4000000≤ea∧ea≤4000000) (hb : -4000000≤eb∧eb≤4000000):dlen (sumN na x ea nb y eb).2.1≤1000000:=by
 unfold sumN
 have l1:dlen (x*2^(ea - min ea eb).toNat)≤760000:=by have:=shl_len (x:=x) (k:=(ea - min ea eb).toNat) rfl;omega
 have l2:dlen (y*2^(eb - min ea eb).toNat)≤760000:=by have:=shl_len (x:=y) (k:=(eb - min ea eb).toNat) rfl;omega
 have l3:=dlen_add_le (x*2^(ea - min ea eb).toNat) (y*2^(eb - min ea eb).toNat)
 split
 ·show dlen y≤_;omega
 ·split
  ·show dlen x≤_;omega
  ·split
   ·show dlen (_+_)≤_;omega
   ·split
    ·have:=dlen_mono (Nat.sub_le (y*2^(eb - min ea eb).toNat) (x*2^(ea - min ea eb).toNat));show dlen (_ - _)≤_;omega
    ·have:=dlen_mono (Nat.sub_le (x*2^(ea - min ea eb).toNat) (y*2^(eb - min ea eb).toNat));show dlen (_ - _)≤_;omega
theorem sub_ok {na nb:Bool} {ua va:Option Addr} {uc vc x y:Nat} {ea eb:Int} {w:World} (h1:Is w (.slice ua (dlen x) uc) x) (h2:Is w (.slice va (dlen y) vc) y) (hx:dlen x≤400000) (hy:dlen y≤400000) (ha : -4000000≤ea∧ea≤4000000) (hb : -4000000≤eb∧eb≤4000000)
  (hoka:okN na (dlen x) x ea=true) (hokb:okN nb (dlen y) y eb=true) (hT:Tab32 w) :
  Calls Tryz.prog 155 #[.agg #[.bool na,.slice ua (dlen x) uc,.int .i64 ea],.agg #[.bool nb,.slice va (dlen y) vc,.int .i64 eb]] w fun r w'=>Held w (sumN na x ea (!nb&&decide (0<dlen y)) y eb).1 (sumN na x ea (!nb&&decide (0<dlen y)) y eb).2.1 (sumN na x ea (!nb&&decide (0<dlen y)) y eb).2.2 r w':=by
 have k67:∀ W g,Bw w W→W.heap[g]?=some (.cells #[.bool na,.slice ua (dlen x) uc,.int .i64 ea,.bool nb,.slice va (dlen y) vc,.int .i64 eb] 45 (0,0))→Calls Tryz.prog 90 #[.slice (some ⟨g,0,none⟩) 2 2] W fun r w'=>r=.returned (.bool true)∧Bw W w':=fun W g hW hg=>by
  have:=maybe2 hg (h1.later hW) (h2.later hW) (by omega) (by omega)
  rw[hoka,hokb] at this
  exact this
 have kN:∀ W,Bw w W→Calls Tryz.prog 174 #[.agg #[.bool nb,.slice va (dlen y) vc,.int .i64 eb]] W fun r w'=>∃ v,r=.returned (.agg #[.bool (!nb&&decide (0<dlen y)),v,.int .i64 eb])∧Own w' W.heap.size v y∧Bw W w':=fun W hW=>neg_ok (h2.later hW) (by omega)
 have hz:dlen (sumN na x ea (!nb&&decide (0<dlen y)) y eb).2.1≤35184372088832:=by
  have:=dlen_sumN na x ea (!nb&&decide (0<dlen y)) y eb (by omega:dlen x≤500000) (by omega:dlen y≤500000) ha hb
  omega
 cases hok:okR (sumN na x ea (!nb&&decide (0<dlen y)) y eb).1 (sumN na x ea (!nb&&decide (0<dlen y)) y eb).2.1 (sumN na x ea (!nb&&decide (0<dlen y)) y eb).2.2
 ·exact c21_f na nb ua va _ uc _ vc _ ea eb _ _ _ y w hz hok k67 kN (fun W v base hW ho=>c87 (h1.later hW) ho.is (by omega) (by omega) ha hb (hT.later hW))
 ·exact c21_t na nb ua va _ uc _ vc _ ea eb _ _ _ y w hz hok k67 kN (fun W v base hW ho=>c87 (h1.later hW) ho.is (by omega) (by omega) ha hb (hT.later hW))
end Go.Proofs.YtokklnjoalkjaaaGreatDoor
