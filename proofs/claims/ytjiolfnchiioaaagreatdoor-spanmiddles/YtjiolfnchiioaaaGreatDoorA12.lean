/- Own work: contracts of the program's functions, part 12: SNQ SNR SNN SNS SNK SNT SNU SNV SNW SNX SNY SNZ SO1 SO2 SO3. -/
import Derived.Test.YtjiolfnchiioaaaGreatDoorA10
import Derived.Test.YtjiolfnchiioaaaGreatDoorA11
import Derived.Test.YtjiolfnchiioaaaGreatDoorA5
import Derived.Test.YtjiolfnchiioaaaGreatDoorA9
import Derived.Test.YtjiolfnchiioaaaGreatDoorA8

set_option maxHeartbeats 16000000
set_option maxRecDepth 200000
set_option linter.unusedVariables false
set_option linter.unusedSimpArgs false
namespace Go.Proofs.YtjiolfnchiioaaaGreatDoor
open Go.RowKit Go.Fl64
theorem run_fieldI0 (g:Nat) (w:World):(Instr.fieldAt 24 (.pointer (some ⟨g,0,none⟩)) 0).run Tryz.prog w=.ok (.pointer (some ⟨g,0,none⟩)) w:=by kernel_rfl
theorem run_fieldI1 (g:Nat) (w:World):(Instr.fieldAt 24 (.pointer (some ⟨g,0,none⟩)) 1).run Tryz.prog w=.ok (.pointer (some ⟨g,1,none⟩)) w:=by kernel_rfl
theorem run_loadF (g f x:Nat) (w:World) (h:w.cell? ⟨g,f,none⟩=some (.float .f64 x)):(Instr.loadAt 22 (.pointer (some ⟨g,f,none⟩))).run Tryz.prog w=.ok (.float .f64 x) w:=by
 have u:=Tryz.isAgg22
 simp[Instr.loadAt,Instr.sureAddr,loadVar,h,go_sem]
theorem step_fieldI {ops:Array Oper} {Q:Exit→Act→World→Prop} {i:Nat} {o:Oper} {K:Act→World→Prop} {a:Act} {w:World}
  (hi:ops[i]?=some o) (hg:o.guard=none) {s:Tmp} {f:Nat} (hop:o.op=.fieldAddr 24 (.tmp s) f) {g:Nat} (hf:f=0∨f=1)
  (hs:a.tmps[s]?=some (.pointer (some ⟨g,0,none⟩))) (h:K (a.put o.dst (.pointer (some ⟨g,f,none⟩))) w):wpOp Tryz.prog ops Q i K a w:=by
 refine step_wanted hi hg ?_
 unfold Oper.wp
 rcases hf with rfl|rfl
 ·simp[execOp,hop,eval_get hs,run_fieldI0,Result.andThen,Oper.upon,h]
 ·simp[execOp,hop,eval_get hs,run_fieldI1,Result.andThen,Oper.upon,h]
theorem step_loadF {ops:Array Oper} {Q:Exit→Act→World→Prop} {i:Nat} {o:Oper} {K:Act→World→Prop} {a:Act} {w:World}
  (hi:ops[i]?=some o) (hg:o.guard=none) {s:Tmp} (hop:o.op=.load 22 (.tmp s)) {g f x:Nat}
  (hs:a.tmps[s]?=some (.pointer (some ⟨g,f,none⟩))) (hc:w.cell? ⟨g,f,none⟩=some (.float .f64 x)) (h:K (a.put o.dst (.float .f64 x)) w):wpOp Tryz.prog ops Q i K a w:=by
 refine step_wanted hi hg ?_
 unfold Oper.wp
 simp[execOp,hop,eval_get hs,run_loadF g f x w hc,Result.andThen,Oper.upon,h]
theorem zero_end (w:World):(zeroValue 46).run Tryz.prog w=.ok (.agg #[.int .i64 0,.bool false,.slice none 0 0,.int .i64 0]) w:=Tryz.zeroValue46 w
def eslot (fa ld cl:Nat→Tmp) (j:Nat):Tmp:=if j % 3=0 then fa (j / 3)else if j % 3=1 then ld (j / 3)else cl (j / 3)
def evalE (gs fld f:Nat→Nat) (j:Nat) (w:World) (u:Value):Prop :=
 if j % 3=0 then u=.pointer (some ⟨gs (j / 3),fld (j / 3),none⟩)else if j % 3=1 then u=.float .f64 (f (j / 3))else EN w u (eI (f (j / 3))) (eT (f (j / 3)))
theorem at_row {W:World} {ao:Option Addr} {n z g:Nat} (h:At W ao n z) (hE:EnB W g (.int .i64 0) (.bool false) (.slice none 0 0) (.int .i64 0)) (cs:Array Value):At (W.setRow g cs) ao n z:=by
 obtain⟨bb,o,h1,h2⟩:=h
 refine⟨bb,o,h1,fun i hi=>?_⟩
 have hc:=h2 i hi
 have hne:bb≠g:=by
  rintro rfl
  unfold EnB at hE
  simp only[World.cell?,hE] at hc
  rcases(show o+i=0∨o+i=1∨o+i=2∨o+i=3∨4≤o+i by omega)with e|e|e|e|e
  ·rw[e] at hc;simp at hc
  ·rw[e] at hc;simp at hc
  ·rw[e] at hc;simp at hc
  ·rw[e] at hc;simp at hc
  ·rw[Array.getElem?_eq_none (by simpa using e)] at hc;cases hc
 have hs:=setRow_other W g bb cs hne
 unfold World.cell? at hc ⊢
 rw[hs]
 exact hc
theorem EN.row {W:World} {A:Value} {i:Int} {t:Bool×Nat×Int} {g:Nat} (h:EN W A i t) (hE:EnB W g (.int .i64 0) (.bool false) (.slice none 0 0) (.int .i64 0)) (cs:Array Value):EN (W.setRow g cs) A i t:=by
 obtain⟨s,ao,n,cap,e,h1,ao',cap',h2,h3⟩:=h
 exact⟨s,ao,n,cap,e,h1,ao',cap',h2,h3.nil,at_row h3.at_ hE cs,h3.le,h3.small⟩
theorem one4 (i e:Int) (s:Bool) (ao:Option Addr) (n cap:Nat):(#[.int .i64 i,.bool s,.slice ao n cap,.int .i64 e]:Array Value).all (·.oneCell')=true:=by
 have h1:(Value.int .i64 i).oneCell'=true:=rfl
 have h2:(Value.bool s).oneCell'=true:=rfl
 have h3:(Value.slice ao n cap).oneCell'=true:=rfl
 have h4:(Value.int .i64 e).oneCell'=true:=rfl
 simp only[List.all_toArray,List.all_cons,List.all_nil,h1,h2,h3,h4,Bool.and_self]
theorem ends_region {ops:Array Oper} {Q:Exit→Act→World→Prop} {id:Nat} (n:Nat) (src fa ld cl bx:Nat→Tmp) (gs fld f:Nat→Nat) (W0:World) (a0:Act)
  (hsz:ops.size=3*n+n+n) (hord:∀ (i:Nat) (o:Oper),ops[i]?=some o→∀ e ∈ o.after,e.on<i)
  (hsrc:∀ k,k<n→a0.tmps[src k]?=some (.pointer (some ⟨gs k,0,none⟩))∧(fld k=0∨fld k=1)∧(∀ w,Bw W0 w→w.cell? ⟨gs k,fld k,none⟩=some (.float .f64 (f k)))∧f k<18446744073709551616∧isNaN (f k)=false)
  (hfree:∀ k,k<n→(∀ j,j<3*n→src k≠eslot fa ld cl j)∧∀ j,j<n→src k≠bx j)
  (hfa:∀ k,k<n→∃ o,ops[3*k]?=some o∧o.guard=none∧o.op=.fieldAddr 24 (.tmp (src k)) (fld k)∧o.dst=some (fa k))
  (hld:∀ k,k<n→∃ o,ops[3*k+1]?=some o∧o.guard=none∧o.op=.load 22 (.tmp (fa k))∧o.dst=some (ld k)∧∃ e ∈ o.after,e.on=3*k∧Region.binds .any e=true)
  (hcl:∀ k,k<n→∃ o,ops[3*k+2]?=some o∧o.guard=none∧(∃ ts,o.op=.call { callee:=.value (.func 25),args:=#[.tmp (ld k)],argTypes:=ts })∧o.dst=some (cl k)∧∃ e ∈ o.after,e.on=3*k+1∧Region.binds .any e=true)
  (hal:∀ k,k<n→∃ o,ops[3*n+k]?=some o∧o.guard=none∧o.op=.alloc 46∧o.dst=some (bx k))
  (hst:∀ k,k<n→∃ o,ops[3*n+n+k]?=some o∧o.guard=none∧o.op=.store 46 (.tmp (bx k)) (.tmp (cl k))∧o.dst=none∧(∃ e ∈ o.after,e.on=3*n+k∧Region.binds .any e=true)∧(∃ e ∈ o.after,e.on=3*k+2∧Region.binds .any e=true))
  (hin:∀ j,j<3*n→eslot fa ld cl j<a0.tmps.size) (hbin:∀ k,k<n→bx k<a0.tmps.size)
  (hinj:∀ j,j<3*n→∀ j',j'<3*n→eslot fa ld cl j=eslot fa ld cl j'→j=j') (hbinj:∀ k,k<n→∀ k',k'<n→bx k=bx k'→k=k') (hsb:∀ j,j<3*n→∀ k,k<n→eslot fa ld cl j≠bx k)
  (hQ:∀ (u:Nat→Value) (g:Nat→Nat) (w:World),Bw W0 w→(∀ k,k<n→EN w (u (3*k+2)) (eI (f k)) (eT (f k))∧W0.heap.size≤g k∧∃ cs,u (3*k+2)=.agg cs∧w.heap[g k]?=some (.cells cs 46 (0,0))) →
   Q .normal (putL a0 ((List.range (3*n)).map (fun j=>(eslot fa ld cl j,u j))++(List.range n).map (fun k=>(bx k,.pointer (some ⟨g k,0,none⟩))))) w) :
  (Code.region id ops true).wp Tryz.prog Q a0 W0:=by
 have sl0:∀ k,eslot fa ld cl (3*k)=fa k:=fun k=>by unfold eslot;rw[if_pos (by omega),show 3*k / 3=k by omega]
 have sl1:∀ k,eslot fa ld cl (3*k+1)=ld k:=fun k=>by unfold eslot;rw[if_neg (by omega),if_pos (by omega),show(3*k+1) / 3=k by omega]
 have sl2:∀ k,eslot fa ld cl (3*k+2)=cl k:=fun k=>by unfold eslot;rw[if_neg (by omega),if_neg (by omega),show(3*k+2) / 3=k by omega]
 have va0:∀ k w u,evalE gs fld f (3*k) w u=(u=.pointer (some ⟨gs k,fld k,none⟩)):=fun k w u=>by unfold evalE;rw[if_pos (by omega),show 3*k / 3=k by omega]
 have va1:∀ k w u,evalE gs fld f (3*k+1) w u=(u=.float .f64 (f k)):=fun k w u=>by unfold evalE;rw[if_neg (by omega),if_pos (by omega),show(3*k+1) / 3=k by omega]
 have va2:∀ k w u,evalE gs fld f (3*k+2) w u=EN w u (eI (f k)) (eT (f k)):=fun k w u=>by unfold evalE;rw[if_neg (by omega),if_neg (by omega),show(3*k+2) / 3=k by omega]
 have hthree:∀ j,∃ k,j=3*k∨j=3*k+1∨j=3*k+2:=fun j=>⟨j / 3,by omega⟩
 refine parz_region follows_mixed (3*n) n (eslot fa ld cl) bx (fun k=>3*k+2) (fun j=>if j % 3=0 then [] else [j - 1]) 46 #[.int .i64 0,.bool false,.slice none 0 0,.int .i64 0] W0 a0 (evalE gs fld f) hsz hord ?_ ?_ ?_ ?_ ?_ hal zero_end en_info ?_ hin hbin (fun j j' hj hj' h=>hinj j hj j' hj' h) (fun k k' hk hk' h=>hbinj k hk k' hk' h) (fun j k hj hk=>hsb j hj k hk) ?_
 ·intro j w w' u hb h
  obtain⟨k,rfl|rfl|rfl⟩:=hthree j
  ·rw[va0] at h ⊢; exact h
  ·rw[va1] at h ⊢; exact h
  ·rw[va2] at h ⊢; exact h.later hb
 ·intro j w u g cs' hg h
  obtain⟨k,rfl|rfl|rfl⟩:=hthree j
  ·rw[va0] at h ⊢; exact h
  ·rw[va1] at h ⊢; exact h
  ·rw[va2] at h ⊢; exact h.row hg cs'
 ·intro k hk w u h
  rw[va2] at h
  obtain⟨s,ao,nn,cap,e,rfl,-⟩:=h
  exact⟨_,rfl,rfl,one4 _ _ _ _ _ _⟩
 ·intro j hj j' hj'
  obtain⟨k,rfl|rfl|rfl⟩:=hthree j
  ·rw[if_pos (by omega)] at hj';cases hj'
  ·rw[if_neg (by omega)] at hj'
   obtain rfl:j'=3*k+1 - 1:=by simpa using hj'
   refine⟨by omega,fun o ho=>?_⟩
   obtain⟨o',ho',-,-,-,e,he,h1,h2⟩:=hld k (by omega)
   obtain rfl:o'=o:=Option.some.inj (ho'.symm.trans ho)
   exact⟨e,he,by omega,h2⟩
  ·rw[if_neg (by omega)] at hj'
   obtain rfl:j'=3*k+2 - 1:=by simpa using hj'
   refine⟨by omega,fun o ho=>?_⟩
   obtain⟨o',ho',-,-,-,e,he,h1,h2⟩:=hcl k (by omega)
   obtain rfl:o'=o:=Option.some.inj (ho'.symm.trans ho)
   exact⟨e,he,by omega,h2⟩
 ·intro j hj a w hb hoth hdep
  obtain⟨k,rfl|rfl|rfl⟩:=hthree j
  ·obtain⟨o,ho,hg,hop,hd⟩:=hfa k (by omega)
   obtain⟨s1,s2,-⟩:=hsrc k (by omega)
   obtain⟨f1,f2⟩:=hfree k (by omega)
   refine step_fieldI ho hg hop s2 (by rw[hoth _ f1 f2];exact s1) ?_
   exact⟨_,by rw[hd,sl0],by rw[va0],Below.refl _ _⟩
  ·obtain⟨o,ho,hg,hop,hd,-⟩:=hld k (by omega)
   obtain⟨s1,s2,s3,-⟩:=hsrc k (by omega)
   obtain⟨u,hu,hv⟩:=hdep (3*k+1 - 1) (by rw[if_neg (by omega)];simp)
   rw[show 3*k+1 - 1=3*k by omega] at hu hv
   rw[va0] at hv
   subst hv
   rw[sl0] at hu
   refine step_loadF ho hg hop hu (s3 w hb) ?_
   exact⟨_,by rw[hd,sl1],by rw[va1],Below.refl _ _⟩
  ·obtain⟨o,ho,hg,⟨ts,hop⟩,hd,-⟩:=hcl k (by omega)
   obtain⟨s1,s2,s3,s4,s5⟩:=hsrc k (by omega)
   obtain⟨u,hu,hv⟩:=hdep (3*k+2 - 1) (by rw[if_neg (by omega)];simp)
   rw[show 3*k+2 - 1=3*k+1 by omega] at hu hv
   rw[va1] at hv
   subst hv
   rw[sl1] at hu
   refine step_call ho hg hop (enters Tryz.func25 (by kernel_rfl) (by kernel_rfl)) (vs:=#[_]) (by simp only[List.map_toArray,List.map_cons,List.map_nil];rw[eval_get hu]) ?_
   refine(dend (f k) s4 s5 w).mono ?_
   rintro r w' ⟨A,rfl,hE,hb'⟩
   refine⟨_,rfl,_,by rw[hd,sl2],?_,hb'⟩
   rw[va2]
   exact hE
 ·intro k hk
  obtain⟨o,h1,h2,h3,h4,h5,h6⟩:=hst k hk
  exact⟨by omega,o,h1,h2,by rw[h3,sl2],h4,h5,h6⟩
 ·intro u g a w hb hu hg hs hd hoth
  have hv:∀ k,k<n→EN w (u (3*k+2)) (eI (f k)) (eT (f k))∧W0.heap.size≤g k∧∃ cs,u (3*k+2)=.agg cs∧w.heap[g k]?=some (.cells cs 46 (0,0)):=fun k hk=>by
   have h1:=(hu (3*k+2) (by omega)).2
   rw[va2] at h1
   exact⟨h1,(hg k hk).2⟩
  have ha:a=putL a0 ((List.range (3*n)).map (fun j=>(eslot fa ld cl j,u j))++(List.range n).map (fun k=>(bx k,.pointer (some ⟨g k,0,none⟩)))):=by
   have hkeys:((List.range (3*n)).map (fun j=>(eslot fa ld cl j,u j))++(List.range n).map (fun k=>(bx k,Value.pointer (some ⟨g k,0,none⟩)))).map (·.1)=(List.range (3*n)).map (eslot fa ld cl)++(List.range n).map bx:=by
    simp[Function.comp_def]
   refine act_putL ?_ hs hd ?_ ?_
   ·rw[hkeys,List.nodup_append]
    refine⟨?_,?_,?_⟩
    ·refine List.pairwise_map.2 ((List.nodup_range (n:=3*n)).imp_of_mem ?_)
     intro x y hx hy hne he
     exact hne (hinj x (List.mem_range.1 hx) y (List.mem_range.1 hy) he)
    ·refine List.pairwise_map.2 ((List.nodup_range (n:=n)).imp_of_mem ?_)
     intro x y hx hy hne he
     exact hne (hbinj x (List.mem_range.1 hx) y (List.mem_range.1 hy) he)
    ·intro x hx y hy
     obtain⟨j,hj,rfl⟩:=List.mem_map.1 hx
     obtain⟨k,hk,rfl⟩:=List.mem_map.1 hy
     exact hsb j (List.mem_range.1 hj) k (List.mem_range.1 hk)
   ·intro p hp
    rcases List.mem_append.1 hp with h|h
    ·obtain⟨j,hj,rfl⟩:=List.mem_map.1 h
     exact(hu j (List.mem_range.1 hj)).1
    ·obtain⟨k,hk,rfl⟩:=List.mem_map.1 h
     exact(hg k (List.mem_range.1 hk)).1
   ·intro s hsn
    rw[hkeys] at hsn
    refine hoth s (fun j hj he=>hsn ?_) (fun k hk he=>hsn ?_)
    ·exact List.mem_append_left _ (List.mem_map.2 ⟨j,List.mem_range.2 hj,he.symm⟩)
    ·exact List.mem_append_right _ (List.mem_map.2 ⟨k,List.mem_range.2 hk,he.symm⟩)
  rw[ha]
  exact hQ u g w hb hv
attribute [local go_sem] run_store_flt
attribute [local go_sem] run_store_flt
attribute [local go_sem] run_store_flt
theorem lt28 {k:Nat} (h:k<2):k=0∨k=1:=by omega
attribute [local go_sem] run_store_flt
theorem tF_zero8 {a:Nat} (h:mag a=0):tF a=(false,0,0):=by
 obtain⟨-,-,-,f4,-⟩:=(tF_ok a).facts
 refine f4 ?_
 unfold tF cn
 have hm:Ie.mant a=0:=by
  have e:=(val_mant a (by omega)).1
  rw[h,val_zero] at e
  have hp:=Nat.two_pow_pos (Ie.lp a+1074).toNat
  rcases Nat.mul_eq_zero.1 e.symm with h|h
  ·exact h
  ·omega
 rw[if_pos hm]
theorem tF_ngt8 {b:Nat} (hb:b<18446744073709551616) (h0:mag b≠0):tF (ngt b)=(!(tF b).1,(tF b).2.1,(tF b).2.2):=by
 have e1:Ie.mant (ngt b)=Ie.mant b:=by unfold Ie.mant;rw[ngt_mag hb]
 have e2:Ie.lp (ngt b)=Ie.lp b:=by unfold Ie.lp;rw[ngt_mag hb]
 unfold tF cn
 rw[e1,e2,ngt_neg hb,if_neg (Ie.mant_ne h0),if_neg (Ie.mant_ne h0)]
theorem tf_cn8 {s:Bool} {z:Nat} {e m:Int} (hm:1≤m∧m≤3) (h:z≠0):tfF (cn s z e).1 true (cn s z e).2.1 (cn s z e).2.2 m=tfF s true z e m:=by
 have hs:=tz_spec z z (Nat.le_refl _) h
 unfold cn
 rw[if_neg h]
 show tfF s true (z / 2^tz z) (e+(tz z:Int)) m=_
 rw[←tf_shl hm,Nat.mul_comm,hs.1]
theorem tF_val8 {a:Nat} (hf:mag a<9218868437227405312) (h0:mag a≠0):(tF a).1=neg a∧val (mag a)=(tF a).2.1*2^((tF a).2.2+1074).toNat ∧ -1074≤(tF a).2.2:=by
 obtain⟨e1,e2,e3⟩:=val_mant a hf
 have hm:Ie.mant a≠0:=by
  intro h
  rw[h,Nat.zero_mul] at e1
  exact h0 ((val_eq_zero _).1 e1)
 have hs:=tz_spec (Ie.mant a) (Ie.mant a) (Nat.le_refl _) hm
 unfold tF cn
 rw[if_neg hm]
 refine⟨rfl,?_,by show -1074≤Ie.lp a+(tz (Ie.mant a):Int);omega⟩
 show val (mag a)=Ie.mant a / 2^tz (Ie.mant a)*2^(Ie.lp a+(tz (Ie.mant a):Int)+1074).toNat
 rw[e1,show(Ie.lp a+(tz (Ie.mant a):Int)+1074).toNat=tz (Ie.mant a)+(Ie.lp a+1074).toNat by omega,Nat.pow_add,←Nat.mul_assoc,Nat.mul_comm (Ie.mant a / 2^tz (Ie.mant a)),hs.1]
theorem tf_tF8 {a:Nat} (ha:a<18446744073709551616) (hf:mag a<9218868437227405312) (h0:mag a≠0) (m:Int) (hm:1≤m∧m≤3):tfF (neg a) true (tF a).2.1 (tF a).2.2 m=a:=by
 obtain⟨M,hM,hl⟩:=sM_lt a ha
 have hc:=cn_parts a M ha hf hM
 have hn:nM a=M:=by unfold nM;rw[hM];rfl
 have hb:=tf_back ha hf m hm
 rw[if_neg h0,hn,show nN a=neg a by unfold nN;rw[if_neg h0]] at hb
 have hM0:M≠0:=by
  intro h
  rw[h] at hc
  have:=tF_ne h0
  rw[←hc] at this
  exact this rfl
 have:=tf_cn8 (s:=neg a) (e:=Ie.sE a) hm hM0
 rw[hc,(tF_val8 hf h0).1] at this
 rw[this,hb]
theorem val_sgn8 {x:Nat} (hx:x<18446744073709551616):x=if neg x then mag x+9223372036854775808 else mag x:=by
 unfold neg mag
 split <;> rename_i h <;> simp only[decide_eq_true_eq] at h <;> omega
theorem ngt_ngt8 {a:Nat} (h:a<18446744073709551616):ngt (ngt a)=a:=by
 unfold ngt neg
 split <;> rename_i h1 <;> simp only[decide_eq_true_eq] at h1 <;> split <;> rename_i h2 <;> simp only[decide_eq_true_eq] at h2 <;> omega
theorem eI_zero_fin {f:Nat} (hf:f<18446744073709551616) (hn:isNaN f=false):(eI f=0↔mag f<9218868437227405312):=by
 have n':¬ 9218868437227405312<mag f:=of_decide_eq_false hn
 have hv:=val_sgn8 hf
 unfold eI
 constructor
 ·intro h
  by_cases h1:mag f<9218868437227405312
  ·exact h1
  ·exfalso
   have e:mag f=9218868437227405312:=by omega
   rw[e] at hv
   cases hs:neg f
   ·rw[hs] at hv
    rw[if_pos (by simpa using hv)] at h
    omega
   ·rw[hs] at hv
    have hv2:f=18442240474082181120:=by simpa using hv
    rw[if_neg (by omega),if_pos hv2] at h
    omega
 ·intro h
  rw[if_neg ?_,if_neg ?_]
  ·rintro rfl;revert h;decide
  ·rintro rfl;revert h;decide
theorem eI_ngt {f:Nat} (hf:f<18446744073709551616):eI (ngt f) = -eI f:=by
 unfold eI
 by_cases h1:f=9218868437227405312
 ·subst h1;decide
 ·by_cases h2:f=18442240474082181120
  ·subst h2;decide
  ·rw[if_neg h1,if_neg h2,if_neg ?_,if_neg ?_]
   ·rfl
   ·intro h;exact h1 (by rw[←ngt_ngt8 hf,h];decide)
   ·intro h;exact h2 (by rw[←ngt_ngt8 hf,h];decide)
theorem eT_ngt {f:Nat} (hf:f<18446744073709551616):eT (ngt f)=tNeg (eT f):=by
 unfold eT
 rw[eI_ngt hf]
 by_cases h:eI f=0
 ·rw[if_pos h,if_pos (by omega)]
  unfold tNeg
  by_cases h0:mag f=0
  ·have h0':mag (ngt f)=0:=by rw[ngt_mag hf];exact h0
   rw[tF_zero8 h0,tF_zero8 h0',if_pos rfl]
  ·rw[if_neg (tF_ne h0),tF_ngt8 hf h0]
 ·rw[if_neg h,if_neg (by omega)]
  rfl
theorem pl_cases (f:Nat):pl f=f∨(f=9223372036854775808∧pl f=0):=by
 unfold pl
 by_cases h:f=9223372036854775808
 ·exact .inr ⟨h,if_pos h⟩
 ·exact .inl (if_neg h)
theorem cmpI_neg_iff (x y:Int):(cmpI x y<0↔x<y)∧(0<cmpI x y↔y<x):=by
 unfold cmpI
 constructor
 ·split
  ·omega
  ·split <;> omega
 ·split
  ·omega
  ·split <;> omega
theorem vz_tF8 {a:Nat} (ha:a<18446744073709551616) (hf:mag a<9218868437227405312):vz 5000000 (tF a).1 (tF a).2.1 (tF a).2.2=vz 5000000 (nN a) (nM a) (Ie.sE a):=by
 obtain⟨M,hM,hl⟩:=sM_lt a ha
 have hc:=cn_parts a M ha hf hM
 have hn:nM a=M:=by unfold nM;rw[hM];rfl
 have hb:0≤Ie.sE a+(5000000:Nat):=by
  have:=(sE_le a).1
  omega
 rw[←hc,vz_cn hb,hn]
 unfold nN
 by_cases h0:mag a=0
 ·have:M=0:=by
   rcases of_parts a M ha hf hM with ⟨h1,h2⟩|⟨h1,h2,-,h3,h4⟩
   ·omega
   ·exfalso
    have e:=tF_zero8 h0
    rw[←hc] at e
    unfold cn at e
    by_cases hM0:M=0
    ·omega
    ·rw[if_neg hM0] at e
     have e2:M / 2^tz M=0:=congrArg (fun t=>t.2.1) e
     have hs:=tz_spec M M (Nat.le_refl _) hM0
     rw[e2] at hs
     have:=hs.1
     omega
  subst this
  unfold vz
  rw[sv_zero,sv_zero]
 ·rw[if_neg h0]
theorem tF_e5000000 (a:Nat):0≤(tF a).2.2+(5000000:Nat):=by
 obtain⟨f1,f2,f3,f4,f5⟩:=(tF_ok a).facts
 omega
theorem sE_e5000000 {a:Nat} (ha:a<18446744073709551616) (hf:mag a<9218868437227405312):0≤Ie.sE a+(5000000:Nat):=by
 have:=(sE_le a).1
 omega
theorem ord_tF8 {a b:Nat} (ha:a<18446744073709551616) (hb:b<18446744073709551616) (fa:mag a<9218868437227405312) (fb:mag b<9218868437227405312) :
  ordN (tF a).1 (tF a).2.1 (tF a).2.2 (tF b).1 (tF b).2.1 (tF b).2.2=cmpI (stp a) (stp b):=by
 rw[ordN_vz (tF_e5000000 a) (tF_e5000000 b),vz_tF8 ha fa,vz_tF8 hb fb,←ordN_vz (sE_e5000000 ha fa) (sE_e5000000 hb fb)]
 exact ord_num fa fb
theorem inf_or {f:Nat} (hf:f<18446744073709551616) (hn:isNaN f=false):(mag f<9218868437227405312∧eI f=0∧eT f=tF f)∨(f=9218868437227405312∧eI f=1)∨(f=18442240474082181120∧eI f = -1):=by
 by_cases h:eI f=0
 ·exact .inl ⟨(eI_zero_fin hf hn).1 h,h,by unfold eT;rw[if_pos h]⟩
 ·by_cases h1:f=9218868437227405312
  ·exact .inr (.inl ⟨h1,by rw[h1];decide⟩)
  ·by_cases h2:f=18442240474082181120
   ·exact .inr (.inr ⟨h2,by rw[h2];decide⟩)
   ·exfalso
    apply h
    unfold eI
    rw[if_neg h1,if_neg h2]
theorem fin_stp {f:Nat} (h:mag f<9218868437227405312) : -9218868437227405312<stp f∧stp f<9218868437227405312:=by
 unfold stp sgn
 split <;> omega
theorem enF_plus {a c:Nat} (ha:a<18446744073709551616) (hc:c<18446744073709551616) (na:isNaN a=false) (nc:isNaN c=false) (hx:¬ (eI a=1∧eI c = -1)) (hy:¬ (eI a = -1∧eI c=1)) {m:Int} (hm:1≤m∧m≤3) :
  enF (eI a+eI c) (plT (eI a) (eI c) (eT a) (eT c)) m=pl (fAdM a c m):=by
 have fI:fin 9218868437227405312=false:=by decide
 have fN:fin 18442240474082181120=false:=by decide
 unfold enF plT fAdM
 rcases inf_or ha na with ⟨fa,ia,ta⟩|⟨rfl,ia⟩|⟨rfl,ia⟩ <;> rcases inf_or hc nc with ⟨fb,ib,tb⟩|⟨rfl,ib⟩|⟨rfl,ib⟩
 ·have f1:fin a=true:=decide_eq_true fa
  have f2:fin c=true:=decide_eq_true fb
  rw[ia,ib,if_pos (by omega),if_pos (by omega),ta,tb,if_neg (by rw[f1,f2];simp)]
  unfold toD
  by_cases h0:(tS (tF a) (tF c)).2.1=0
  ·rw[if_pos h0,if_pos h0]
   cases z0 (neg a) (neg c) m <;> rfl
  ·rw[if_neg h0,if_neg h0]
 ·rw[ia,ib,if_neg (by omega),if_pos (by omega),if_pos (.inr fI)]
  unfold addX
  rw[na,nc,if_neg (by simp),if_neg (by omega)]
  rfl
 ·rw[ia,ib,if_neg (by omega),if_neg (by omega),if_pos (.inr fN)]
  unfold addX
  rw[na,nc,if_neg (by simp),if_neg (by omega)]
  rfl
 ·rw[ia,ib,if_neg (by omega),if_pos (by omega),if_pos (.inl fI)]
  unfold addX
  rw[na,nc,if_neg (by simp),if_pos (by decide),if_neg (by omega)]
  rfl
 ·rw[ia,if_neg (by omega),if_pos (by omega),if_pos (.inl fI)];decide
 ·exact absurd ⟨ia,ib⟩ hx
 ·rw[ia,ib,if_neg (by omega),if_neg (by omega),if_pos (.inl fN)]
  unfold addX
  rw[na,nc,if_neg (by simp),if_pos (by decide),if_neg (by omega)]
  rfl
 ·exact absurd ⟨ia,ib⟩ hy
 ·rw[ia,if_neg (by omega),if_neg (by omega),if_pos (.inl fN)];decide
attribute [local go_sem] run_store_flt
theorem toD_nn (t:Bool×Nat×Int) {m:Int} (hm:1≤m∧m≤3):isNaN (toD t m)=false:=by
 unfold toD
 split
 ·decide
 ·rw[tf_bdy hm]
  have h:=bdy_le t.2.1 t.2.2 (wyN t.1 m)
  unfold isNaN
  rw[(mag_sig h).1]
  exact decide_eq_false (by omega)
theorem enF_nn (i:Int) (t:Bool×Nat×Int) {m:Int} (hm:1≤m∧m≤3):isNaN (enF i t m)=false:=by
 unfold enF
 split
 ·rw[pl_nan];exact toD_nn t hm
 ·split <;> decide
theorem fAdM_nn {a c:Nat} (ha:a<18446744073709551616) (hc:c<18446744073709551616) (na:isNaN a=false) (nc:isNaN c=false) (hx:¬ (eI a=1∧eI c = -1)) (hy:¬ (eI a = -1∧eI c=1)) {m:Int} (hm:1≤m∧m≤3):isNaN (fAdM a c m)=false:=by
 rw[←pl_nan,←enF_plus ha hc na nc hx hy hm]
 exact enF_nn _ _ hm
theorem fAdM_lt {a c:Nat} (ha:a<18446744073709551616) (hc:c<18446744073709551616) {m:Int} (hm:1≤m∧m≤3):fAdM a c m<18446744073709551616:=(faddM_p a c m hm ha hc).1
theorem vI_ends {a b:Nat} (h:vI a b=true):eI a≠1∧eI b ≠ -1:=by
 unfold vI at h
 simp only[Bool.and_eq_true] at h
 constructor
 ·intro e
  have:a=9218868437227405312:=by
   unfold eI at e
   by_cases h1:a=9218868437227405312
   ·exact h1
   ·rw[if_neg h1] at e
    split at e <;> omega
  have h2:=h.1.1.1.2
  rw[this] at h2
  revert h2
  decide
 ·intro e
  have:b=18442240474082181120:=by
   unfold eI at e
   by_cases h1:b=9218868437227405312
   ·rw[if_pos h1] at e;omega
   ·rw[if_neg h1] at e
    by_cases h2:b=18442240474082181120
    ·exact h2
    ·rw[if_neg h2] at e;omega
  have h2:=h.1.1.2
  rw[this] at h2
  revert h2
  decide
theorem tNeg_fits {t:Bool×Nat×Int} {lo hi:Int} (h:Fits lo hi t.2.1 t.2.2):Fits lo hi (tNeg t).2.1 (tNeg t).2.2:=by
 unfold tNeg
 split
 ·exact .inl rfl
 ·exact h
theorem or_lt8 {ok:Bool} {x:Nat} (h:x<18446744073709551616):(if ok then x else 0)<18446744073709551616:=by
 cases ok
 ·rw[if_neg (by simp)];omega
 ·exact h
attribute [local go_sem] run_store_flt
theorem rscaled8_0 (na:Bool) (ua:Option Addr) (uc:Nat) (ea k:Int) (w:World) :
  Calls Tryz.prog 41 #[.agg #[.bool na,.slice ua 0 uc,.int .i64 ea],.int .i64 k] w fun r w'=>r=.returned (.agg #[.bool false,.slice none 0 0,.int .i64 0])∧Bw w w':=by
 obtain⟨W,hW⟩:∃ W,W=(w.alloc (.cells #[.bool na,.slice ua 0 uc,.int .i64 ea] 44)).alloc (.cells #[.bool false,.slice none 0 0,.int .i64 0] 44):=⟨_,rfl⟩
 obtain⟨hA,hB,hsz,hBW⟩:=two29 _ _ hW
 obtain⟨⟨a0,a1,a2⟩,-⟩:=box_cells29 hA
 obtain⟨⟨b0,b1,b2⟩,b3,b4,b5⟩:=box_cells29 hB
 have HX:Hid (Bw w W∧W.heap[w.heap.size+1]?=some (.cells #[.bool false,.slice none 0 0,.int .i64 0] 44 (0,0))):=⟨hBW,hB⟩
 clear hA hB hsz hBW
 have HE:Hid (W=(w.alloc (.cells #[.bool na,.slice ua 0 uc,.int .i64 ea] 44)).alloc (.cells #[.bool false,.slice none 0 0,.int .i64 0] 44)):=hW
 rw[hW] at a0 a1 a2 b0 b1 b2 b3 b4 b5
 clear hW
 go_enter Tryz.func41,Tryz.ntmps41
 go_wp2
 refine bodyPost_ret (results_cell_row rfl _ _ (w.heap.size+1) 44 #[.bool false,.slice none 0 0,.int .i64 0] (0,0) _ rfl (two29 _ _ rfl).2.1 Tryz.underlying44 rfl Tryz.info44) rfl ?_
 exact⟨rfl,(two29 _ _ rfl).2.2.2⟩
theorem scaled8_dn {t:Bool×Nat×Int} {A:Value} {w:World} (h:DN w A t) (hE:t.2.1≠0 → -65536≤t.2.2∧t.2.2≤65536):Calls Tryz.prog 41 #[A,.int .i64 (-1)] w fun r w'=>∃ B,r=.returned B∧DN w' B (tSh t (-1))∧Bw w w':=by
 obtain⟨ao,cap,rfl,hA⟩:=h
 unfold tSh
 by_cases h0:t.2.1=0
 ·rw[if_pos h0,dlen_eq_zero.2 h0]
  refine(rscaled8_0 t.1 ao cap t.2.2 (-1) w).mono ?_
  rintro r w' ⟨rfl,hb⟩
  exact⟨_,rfl,dn_nil _,hb⟩
 ·rw[if_neg h0]
  have hd:dlen t.2.1≠0:=fun e=>h0 (dlen_eq_zero.1 e)
  have he:=hE h0
  refine(rscaled_1 t.1 ao (dlen t.2.1) cap t.2.2 (-1) w hA.small (by simp;omega) (by omega) (by omega)).mono ?_
  rintro r w' ⟨rfl,hb⟩
  exact⟨_,rfl,⟨ao,cap,rfl,hA.later hb⟩,hb⟩
theorem dn_of_en {w:World} {i e:Int} {s:Bool} {ao:Option Addr} {n cap:Nat} {j:Int} {t:Bool×Nat×Int} (h:EN w (.agg #[.int .i64 i,.bool s,.slice ao n cap,.int .i64 e]) j t):DN w (.agg #[.bool s,.slice ao n cap,.int .i64 e]) t:=by
 obtain⟨s',ao',n',cap',e',h1,h2⟩:=h
 injection h1 with h1
 simp at h1
 obtain⟨-,rfl,⟨rfl,rfl,rfl⟩,rfl⟩:=h1
 exact h2
theorem dmid_1 (a b:Nat) (i j:Int) (H:Nat) (hIJ:eI a=i∧eI b=j) (hH:i=0→j=0→toD (tSh (tS (eT a) (eT b)) (-1)) 2=H∧Ok (tSh (tS (eT a) (eT b)) (-1))∧((tS (eT a) (eT b)).2.1≠0 → -65536≤(tS (eT a) (eT b)).2.2∧(tS (eT a) (eT b)).2.2≤65536)) (w:World) (ha:a<18446744073709551616) (hb:b<18446744073709551616) :
  Calls Tryz.prog 16 #[.agg #[.float .f64 a,.float .f64 b]] w fun r w'=>r=.returned (midV (vI a b) (decide (i≠0)&&decide (j≠0)) (decide (i≠0)) (decide (j≠0)) H)∧Bw w w':=by
 have k1:=fun W=>d8valid a b ha hb W
 have HN1:Hid (vI a b=true→isNaN a=false∧isNaN b=false):=vI_nn
 generalize hu:vI a b=u at *
 clear hu
 obtain⟨W,hW⟩:∃ W,W=(w.alloc (.cells #[.float .f64 a,.float .f64 b] 24)):=⟨_,rfl⟩
 have HX:Hid (Bw w W∧IvB W (w.heap.size) a b):=by
  rw[hW]
  exact⟨bxs1_0 w a b,bxs1_1 w a b⟩
 have HK:Hid (∀ w',Bw W w'→IvF w' (w.heap.size) a b):=fun w' hb=>(HX.out.2).later hb
 have HV0:Hid (Bw w W):=HX.out.1
 obtain⟨c0,c1,z0,z1⟩:=HK.out W (Below.refl _ _)
 have kv:=k1 W
 clear k1
 go_enter Tryz.func16,Tryz.ntmps16
 go_upto_region 1 with fail
 rw[←hW]
 clear hW
 go_wp2_with fail
 refine kv.mono ?_
 rintro r w1 ⟨rfl,hb1⟩
 clear kv
 clear c0 z0 c1 z1
 obtain⟨c0,c1,z0,z1⟩:=HK.out w1 hb1
 cases u
 ·have HB:Hid (Bw w w1):=HX.out.1.trans (hb1.mono HX.out.1.size)
  clear hb1 HK HX
  go_wp2
  go_ret2
  exact⟨rfl,HB.out⟩
 obtain⟨Na,Nb⟩:=HN1.out (by simp)
 have HB1:Hid (Bw W w1):=hb1
 have HAB:Hid (a<18446744073709551616∧b<18446744073709551616∧isNaN a=false∧isNaN b=false):=⟨ha,hb,Na,Nb⟩
 clear hb1 HN1 ha hb Na Nb
 go_upto_region 3 with fail
 go_cut [4,5] from 9 to 14 (fun p q wx=>∃ (g0 g1:Nat) (s0:Bool) (ao0:Option Addr) (n0 cap0:Nat) (e0:Int) (s1:Bool) (ao1:Option Addr) (n1 cap1:Nat) (e1:Int),p=.pointer (some ⟨g0,0,none⟩)∧q=.pointer (some ⟨g1,0,none⟩)∧Hid (Bw w1 wx∧EnB wx g0 (.int .i64 (eI a)) (.bool s0) (.slice ao0 n0 cap0) (.int .i64 e0)∧EnB wx g1 (.int .i64 (eI b)) (.bool s1) (.slice ao1 n1 cap1) (.int .i64 e1)∧EN wx (.agg #[.int .i64 (eI a),.bool s0,.slice ao0 n0 cap0,.int .i64 e0]) (eI a) (eT a)∧EN wx (.agg #[.int .i64 (eI b),.bool s1,.slice ao1 n1 cap1,.int .i64 e1]) (eI b) (eT b)∧w1.heap.size≤g0∧w1.heap.size≤g1))
 case first =>
  refine ends_region 2 (fun k=>1) (fun k=>9+3*k) (fun k=>10+3*k) (fun k=>11+3*k) (fun k=>4+k) (fun k=>w.heap.size) (fun k=>k) (fun k=>if k=0 then a else b) w1 _ rfl (ord_of (by kernel_rfl)) ?_ ?_ ?_ ?_ ?_ ?_ ?_ ?_ ?_ ?_ ?_ ?_ ?_
  ·intro k hk
   rcases lt28 hk with rfl|rfl
   ·exact⟨rfl,.inl rfl,fun w' hw=>(HK.out w' (HB1.out.trans (hw.mono HB1.out.size))).1,HAB.out.1,HAB.out.2.2.1⟩
   ·exact⟨rfl,.inr rfl,fun w' hw=>(HK.out w' (HB1.out.trans (hw.mono HB1.out.size))).2.1,HAB.out.2.1,HAB.out.2.2.2⟩
  ·intro k hk
   rcases lt28 hk with rfl|rfl <;> decide
  ·intro k hk
   rcases lt28 hk with rfl|rfl <;> exact⟨_,rfl,rfl,rfl,rfl⟩
  ·intro k hk
   rcases lt28 hk with rfl|rfl <;> exact⟨_,rfl,rfl,rfl,rfl,⟨_,.data⟩,by simp,rfl,rfl⟩
  ·intro k hk
   rcases lt28 hk with rfl|rfl <;> exact⟨_,rfl,rfl,⟨_,rfl⟩,rfl,⟨_,.data⟩,by simp,rfl,rfl⟩
  ·intro k hk
   rcases lt28 hk with rfl|rfl <;> exact⟨_,rfl,rfl,rfl,rfl⟩
  ·intro k hk
   rcases lt28 hk with rfl|rfl <;> exact⟨_,rfl,rfl,rfl,rfl,⟨⟨_,.data⟩,by simp,rfl,rfl⟩,⟨_,.data⟩,by simp,rfl,rfl⟩
  ·show ∀ j,j<3*2→eslot (fun k=>9+3*k) (fun k=>10+3*k) (fun k=>11+3*k) j<39
   decide
  ·show ∀ k,k<2→4+k<39
   decide
  ·decide
  ·decide
  ·decide
  ·intro u g wx hb hk
   obtain⟨x1,x0,cs0,x2,x3⟩:=hk 0 (by omega)
   obtain⟨y1,y0,cs1,y2,y3⟩:=hk 1 (by omega)
   have x1':=x1
   have y1':=y1
   obtain⟨s0,ao0,n0,cap0,e0,x4,-⟩:=x1'
   obtain⟨s1,ao1,n1,cap1,e1,y4,-⟩:=y1'
   have x5:cs0 = #[.int .i64 (eI a),.bool s0,.slice ao0 n0 cap0,.int .i64 e0]:=by
    have:=x2.symm.trans x4
    simpa using this
   have y5:cs1 = #[.int .i64 (eI b),.bool s1,.slice ao1 n1 cap1,.int .i64 e1]:=by
    have:=y2.symm.trans y4
    simpa using this
   rw[x5] at x3
   rw[y5] at y3
   rw[x4] at x1
   rw[y4] at y1
   have HF:Hid (Bw w1 wx∧EnB wx (g 0) (.int .i64 (eI a)) (.bool s0) (.slice ao0 n0 cap0) (.int .i64 e0)∧EnB wx (g 1) (.int .i64 (eI b)) (.bool s1) (.slice ao1 n1 cap1) (.int .i64 e1)∧EN wx (.agg #[.int .i64 (eI a),.bool s0,.slice ao0 n0 cap0,.int .i64 e0]) (eI a) (eT a)∧EN wx (.agg #[.int .i64 (eI b),.bool s1,.slice ao1 n1 cap1,.int .i64 e1]) (eI b) (eT b)∧w1.heap.size≤g 0∧w1.heap.size≤g 1):=⟨hb,x3,y3,x1,y1,x0,y0⟩
   clear hk x0 y0 x1 x2 x3 x4 x5 y1 y2 y3 y4 y5 hb
   simp only[putL,eslot,show List.range (3*2) = [0,1,2,3,4,5] from rfl,show List.range 2 = [0,1] from rfl,List.map_cons,List.map_nil,List.cons_append,List.nil_append,List.foldl_cons,List.foldl_nil,Nat.reduceMod,Nat.reduceDiv,Nat.reduceMul,Nat.reduceAdd,Nat.reduceEqDiff,reduceIte,Nat.one_ne_zero,Act.put,List.setIfInBounds_toArray,List.set_cons_zero,List.set_cons_succ]
   go_wp2_with fail
   go_meet
   exact⟨_,_,_,_,_,_,_,_,_,_,_,_,rfl,rfl,HF⟩
 case rest =>
  obtain⟨w8,hw8⟩:∃ w8:World,w8=wc:=⟨_,rfl⟩
  subst hw8
  obtain⟨g0,g1,s0,ao0,n0,cap0,e0,s1,ao1,n1,cap1,e1,rfl,rfl,HF⟩:=hcut
  have HB8:Hid (Bw W w8):=HB1.out.trans (HF.out.1.mono HB1.out.size)
  have HE:Hid (EN w8 (.agg #[.int .i64 (eI a),.bool s0,.slice ao0 n0 cap0,.int .i64 e0]) (eI a) (eT a)∧EN w8 (.agg #[.int .i64 (eI b),.bool s1,.slice ao1 n1 cap1,.int .i64 e1]) (eI b) (eT b)):=⟨HF.out.2.2.2.1,HF.out.2.2.2.2.1⟩
  have HW8:Hid (Bw w w8):=HV0.out.trans (HB8.out.mono HV0.out.size)
  obtain⟨⟨a0,a1,a2,a3⟩,-⟩:=HF.out.2.1.facts
  obtain⟨⟨b0,b1,b2,b3⟩,-⟩:=HF.out.2.2.1.facts
  clear HB1 c0 c1 z0 z1
  rw[hIJ.1] at a0 HE
  rw[hIJ.2] at b0 HE
  have HKK:Hid (∀ w',Bw w8 w'→(w'.cell? ⟨g0,0,none⟩=some (.int .i64 (i))∧w'.cell? ⟨g0,1,none⟩=some (.bool s0)∧w'.cell? ⟨g0,2,none⟩=some (.slice ao0 n0 cap0)∧w'.cell? ⟨g0,3,none⟩=some (.int .i64 e0))∧(w'.cell? ⟨g1,0,none⟩=some (.int .i64 (j))∧w'.cell? ⟨g1,1,none⟩=some (.bool s1)∧w'.cell? ⟨g1,2,none⟩=some (.slice ao1 n1 cap1)∧w'.cell? ⟨g1,3,none⟩=some (.int .i64 e1))):=fun w' h=>by
   have k:=(HF.out.2.1.box h).facts.1
   have k':=(HF.out.2.2.1.box h).facts.1
   rw[hIJ.1] at k
   rw[hIJ.2] at k'
   exact⟨k,k'⟩
  clear HF HAB HK HX HV0 HB8 hIJ
  by_cases h1:i=0
  ·by_cases h2:j=0
   ·subst h1
    subst h2
    obtain⟨hH1,hO,hE⟩:=hH rfl rfl
    have oa:=eT_ok a
    have ob:=eT_ok b
    generalize eT a=t at *
    generalize eT b=v at *
    have kP:∀ W A B,DN W A t→DN W B v→Calls Tryz.prog 42 #[A,B] W fun r w'=>∃ C,r=.returned C∧DN w' C (tS t v)∧Bw W w':=fun W A B h1 h2=>plus_dn oa ob h1 h2
    have kS:∀ W A,DN W A (tS t v)→Calls Tryz.prog 41 #[A,.int .i64 (-1)] W fun r w'=>∃ B,r=.returned B∧DN w' B (tSh (tS t v) (-1))∧Bw W w':=fun W A h=>scaled8_dn h hE
    have kT:∀ W A,DN W A (tSh (tS t v) (-1))→Calls Tryz.prog 40 #[A,.int .i64 2] W fun r w'=>r=.returned (.float .f64 H)∧Bw W w':=fun W A h=>by
     have k:=dto8 (m:=2) hO (by omega) h
     rw[hH1] at k
     exact k
    generalize tS t v=p at *
    clear hH hH1 hO hE oa ob
    have D0:DN w8 (.agg #[.bool s0,.slice ao0 n0 cap0,.int .i64 e0]) t:=dn_of_en HE.out.1
    have D1:DN w8 (.agg #[.bool s1,.slice ao1 n1 cap1,.int .i64 e1]) v:=dn_of_en HE.out.2
    clear HE
    go_wp2_with fail
    refine(kP _ _ _ D0 D1).mono ?_
    rintro r v1 ⟨A1,rfl,F1,q1⟩
    clear kP D0 D1
    have HB1:Hid (Bw w v1):=HW8.out.trans (q1.mono HW8.out.size)
    have kk:=kS _ _ F1
    clear kS q1 F1 HKK HW8 a0 a1 a2 a3 b0 b1 b2 b3
    go_wp2_with fail
    refine kk.mono ?_
    rintro r v2 ⟨A2,rfl,F2,q2⟩
    have HB2:Hid (Bw w v2):=HB1.out.trans (q2.mono HB1.out.size)
    have kk:=kT _ _ F2
    clear kT q2 F2 HB1
    go_wp2_with fail
    refine kk.mono ?_
    rintro r v3 ⟨rfl,q3⟩
    have HB3:Hid (Bw w v3):=HB2.out.trans (q3.mono HB2.out.size)
    clear q3 HB2 kk
    go_wp2
    go_ret2
    exact⟨rfl,HB3.out⟩
   ·have e2:(j != 0)=true:=by simp[h2]
    subst h1
    clear HKK hH HE
    go_wp2
    go_ret2
    exact⟨by simp[midV,h2],HW8.out⟩
  ·have e1:(i != 0)=true:=by simp[h1]
   clear HKK hH HE
   by_cases h2:j=0
   ·subst h2
    go_wp2
    go_ret2
    exact⟨by simp[midV,h1],HW8.out⟩
   ·have e2:(j != 0)=true:=by simp[h2]
    go_wp2
    go_ret2
    exact⟨by simp[midV,h1,h2],HW8.out⟩
attribute [local go_sem] run_store_flt
def tD8 (t1 t2:Bool×Nat×Int):Bool×Nat×Int:=cn (sumN t1.1 t1.2.1 t1.2.2 (!t2.1&&decide (0<dlen t2.2.1)) t2.2.1 t2.2.2).1 (sumN t1.1 t1.2.1 t1.2.2 (!t2.1&&decide (0<dlen t2.2.1)) t2.2.1 t2.2.2).2.1 (sumN t1.1 t1.2.1 t1.2.2 (!t2.1&&decide (0<dlen t2.2.1)) t2.2.1 t2.2.2).2.2
theorem arg_noughtD8 (w:World):Arg w none (dlen 0) 0 0:=by rw[dlen_zero];exact⟨fun _=>.inr ⟨rfl,rfl⟩,⟨0,0,fun h=>absurd h (by omega),fun i hi=>absurd hi (by omega)⟩,Nat.le_refl _,by omega⟩
theorem less8_dn {t1 t2:Bool×Nat×Int} {X Y:Value} {w:World} (o1:Ok t1) (o2:Ok t2) (h1:DN w X t1) (h2:DN w Y t2):Calls Tryz.prog 76 #[X,Y] w fun r w'=>∃ A,r=.returned A∧DN w' A (tD8 t1 t2)∧Bw w w':=by
 obtain⟨ao,cap,rfl,a1⟩:=h1
 obtain⟨ao',cap',rfl,a2⟩:=h2
 obtain⟨f1,f2,f3,-,-⟩:=o1.facts
 obtain⟨g1,g2,g3,g4,-⟩:=o2.facts
 unfold tD8
 by_cases h0:t2.2.1=0
 ·have e2:=g4 h0
  have e3:t2.1=false:=by rw[e2]
  have e4:t2.2.2=0:=by rw[e2]
  rw[h0,e3,e4,dlen_zero]
  refine(rlessN_1 t1.1 false ao ao' (dlen t1.2.1) cap 0 cap' t1.2.2 0 false none 0 0 0 _ _ _ w (fun W=>rminus_0 false ao' cap' 0 W) (fun W hW=>?_)).mono fun r w' ⟨A,e,h,hb⟩=>⟨A,e,h.dn,hb⟩
  have k:=rplusG (nb:=false) (y:=0) (eb:=0) (a1.later hW) (arg_noughtD8 W) (cn_ok o1) rfl (by omega) (by omega) (by omega) (by omega) (by omega) (by rw[dlen_zero];omega)
  rw[dlen_zero] at k
  exact k
 ·have hl:0<dlen t2.2.1:=by have:=dlen_pos h0;omega
  rw[decide_eq_true hl,Bool.and_true]
  have ho:cn (!t2.1) t2.2.1 t2.2.2=(!t2.1,t2.2.1,t2.2.2):=by
   have:=cn_ok o2
   unfold cn at this ⊢
   rw[if_neg h0] at this ⊢
   rw[Prod.ext_iff] at this
   exact Prod.ext rfl this.2
  exact(rlessN_1 t1.1 t2.1 ao ao' (dlen t1.2.1) cap (dlen t2.2.1) cap' t1.2.2 t2.2.2 (!t2.1) ao' (dlen t2.2.1) cap' t2.2.2 _ _ _ w (fun W=>rminus_1 t2.1 ao' (dlen t2.2.1) cap' t2.2.2 W (by omega) (by rw[beq_eq_false_iff_ne];omega)) (fun W hW=>rplusG (a1.later hW) (a2.later hW) (cn_ok o1) ho (by omega) (by omega) (by omega) (by omega) (by omega) (by omega))).mono fun r w' ⟨A,e,h,hb⟩=>⟨A,e,h.dn,hb⟩
theorem tD8_eq {t u:Bool×Nat×Int} (o:Ok u):tD8 t u=tS t (tNeg u):=by
 obtain⟨-,-,-,g4,-⟩:=o.facts
 unfold tD8 tS tNeg
 by_cases h0:u.2.1=0
 ·rw[if_pos h0,g4 h0,dlen_zero]
  rfl
 ·have hl:0<dlen u.2.1:=by have:=dlen_pos h0;omega
  rw[if_neg h0,decide_eq_true hl,Bool.and_true]
theorem at_row8 {W:World} {ao:Option Addr} {n z g:Nat} (h:At W ao n z) (hE:W.heap[g]?=some (.cells #[.bool false,.slice none 0 0,.int .i64 0] 44 (0,0))) (cs:Array Value):At (W.setRow g cs) ao n z:=by
 obtain⟨bb,o,h1,h2⟩:=h
 refine⟨bb,o,h1,fun i hi=>?_⟩
 have hc:=h2 i hi
 have hne:bb≠g:=by
  rintro rfl
  simp only[World.cell?,hE] at hc
  rcases(show o+i=0∨o+i=1∨o+i=2∨3≤o+i by omega)with e|e|e|e
  ·rw[e] at hc;simp at hc
  ·rw[e] at hc;simp at hc
  ·rw[e] at hc;simp at hc
  ·rw[Array.getElem?_eq_none (by simpa using e)] at hc;cases hc
 have hs:=setRow_other W g bb cs hne
 unfold World.cell? at hc ⊢
 rw[hs]
 exact hc
theorem DN.row8 {W:World} {A:Value} {t:Bool×Nat×Int} {g:Nat} (h:DN W A t) (hE:W.heap[g]?=some (.cells #[.bool false,.slice none 0 0,.int .i64 0] 44 (0,0))) (cs:Array Value):DN (W.setRow g cs) A t:=by
 obtain⟨ao',cap',h2,h3⟩:=h
 exact⟨ao',cap',h2,h3.nil,at_row8 h3.at_ hE cs,h3.le,h3.small⟩
theorem step_move8 {ops:Array Oper} {Q:Exit→Act→World→Prop} {i:Nat} {o:Oper} {K:Act→World→Prop} {a:Act} {w:World}
  (hi:ops[i]?=some o) (hg:o.guard=none) {s:Tmp} (hop:o.op=.move (.tmp s)) {v:Value}
  (hs:a.tmps[s]?=some v) (h:K (a.put o.dst v) w):wpOp Tryz.prog ops Q i K a w:=by
 refine step_wanted hi hg ?_
 unfold Oper.wp
 simp[execOp,hop,eval_get hs,Result.andThen,Oper.upon,h]
def hfE (g lo m:Nat) (t1 t2 t3:Bool×Nat×Int) (j:Nat) (w:World) (u:Value):Prop :=
 match j with
 | 0=>u=.float .f64 m
 | 1=>DN w u t1
 | 2=>u=.pointer (some ⟨g,0,none⟩)
 | 3=>u=.float .f64 lo
 | 4=>DN w u t2
 | _=>DN w u t3
def hfD (j:Nat):List Nat :=
 match j with
 | 0 => []
 | 1 => [0]
 | 2 => []
 | 3 => [2]
 | 4 => [3]
 | _ => [1,4]
theorem zero_num8 (w:World):(zeroValue 44).run Tryz.prog w=.ok (.agg #[.bool false,.slice none 0 0,.int .i64 0]) w:=Tryz.zeroValue44 w
theorem lt68 {j:Nat} (h:j<6):j=0∨j=1∨j=2∨j=3∨j=4∨j=5:=by omega
theorem half_region {ops:Array Oper} {Q:Exit→Act→World→Prop} {id:Nat} (g lo m:Nat) (t1 t2 t3:Bool×Nat×Int) (W0:World) (a0:Act)
  (hops : ops = #[{ dst := some 13, op := Op.move (Operand.tmp 1), type := 22, pos := "ref.go:335", after := #[], guard := none }, { dst := some 14, op := Op.call { callee := Callee.value (Operand.func 51), args := #[Operand.tmp 13], argTypes := #[22] }, type := 44, pos := "ref.go:335", after := #[{ on := 0, ground := Ground.data }], guard := none }, { dst := some 15, op := Op.fieldAddr 24 (Operand.tmp 2) 0, type := 0, pos := "ref.go:335", after := #[], guard := none }, { dst := some 16, op := Op.load 22 (Operand.tmp 15), type := 22, pos := "ref.go:335", after := #[{ on := 2, ground := Ground.data }], guard := none }, { dst := some 17, op := Op.call { callee := Callee.value (Operand.func 51), args := #[Operand.tmp 16], argTypes := #[22] }, type := 44, pos := "ref.go:335", after := #[{ on := 3, ground := Ground.data }, { on := 1, ground := Ground.chain }], guard := none }, { dst := some 18, op := Op.call { callee := Callee.value (Operand.func 76), args := #[Operand.tmp 14, Operand.tmp 17], argTypes := #[44, 44] }, type := 44, pos := "ref.go:335", after := #[{ on := 1, ground := Ground.data }, { on := 4, ground := Ground.data }, { on := 4, ground := Ground.chain }], guard := none }, { dst := some 6, op := Op.alloc 44, type := 0, pos := "ref.go:335", after := #[], guard := none }, { dst := none, op := Op.store 44 (Operand.tmp 6) (Operand.tmp 18), type := 0, pos := "ref.go:335", after := #[{ on := 6, ground := Ground.data }, { on := 5, ground := Ground.data }, { on := 5, ground := Ground.chain }, { on := 0, ground := Ground.phase }, { on := 1, ground := Ground.phase }, { on := 2, ground := Ground.phase }, { on := 3, ground := Ground.phase }, { on := 4, ground := Ground.phase }, { on := 5, ground := Ground.phase }, { on := 6, ground := Ground.phase }], guard := none }])
  (h1:a0.tmps[1]?=some (.float .f64 m)) (h2:a0.tmps[2]?=some (.pointer (some ⟨g,0,none⟩))) (hc:∀ w,Bw W0 w→w.cell? ⟨g,0,none⟩=some (.float .f64 lo))
  (k1:∀ W,Calls Tryz.prog 51 #[.float .f64 m] W fun r w'=>∃ A,r=.returned A∧DN w' A t1∧Bw W w')
  (k2:∀ W,Calls Tryz.prog 51 #[.float .f64 lo] W fun r w'=>∃ A,r=.returned A∧DN w' A t2∧Bw W w')
  (k3:∀ W A B,DN W A t1→DN W B t2→Calls Tryz.prog 76 #[A,B] W fun r w'=>∃ C,r=.returned C∧DN w' C t3∧Bw W w')
  (hin:18<a0.tmps.size)
  (hQ:∀ (u:Nat→Value) (g:Nat) (w:World),Bw W0 w→DN w (u 5) t3→W0.heap.size≤g→(∃ cs,u 5=.agg cs∧w.heap[g]?=some (.cells cs 44 (0,0))) →
   Q .normal (putL a0 ((List.range 6).map (fun j=>(13+j,u j)) ++ [(6,.pointer (some ⟨g,0,none⟩))])) w) :
  (Code.region id ops true).wp Tryz.prog Q a0 W0:=by
 refine parz_region follows_mixed 6 1 (fun j=>13+j) (fun _=>6) (fun _=>5) hfD 44 #[.bool false,.slice none 0 0,.int .i64 0] W0 a0 (hfE g lo m t1 t2 t3) (by rw[hops];rfl) (by rw[hops];exact ord_of (by kernel_rfl)) ?_ ?_ ?_ ?_ ?_ ?_ zero_num8 Tryz.info44 ?_ (fun j hj=>by show 13+j<_;omega) (fun k hk=>Nat.lt_of_lt_of_le (by decide:6<19) hin) (fun j j' hj hj' h=>by have:13+j=13+j':=h;omega) (fun k k' hk hk' h=>by omega) (fun j k hj hk=>by show 13+j≠6;omega) ?_
 ·intro j w w' u hb h
  match j,h with
  | 0,h=>exact h
  | 1,h=>exact DN.later h hb
  | 2,h=>exact h
  | 3,h=>exact h
  | 4,h=>exact DN.later h hb
  | (n+5),h=>exact DN.later h hb
 ·intro j w u g' cs' hg h
  match j,h with
  | 0,h=>exact h
  | 1,h=>exact DN.row8 h hg cs'
  | 2,h=>exact h
  | 3,h=>exact h
  | 4,h=>exact DN.row8 h hg cs'
  | (n+5),h=>exact DN.row8 h hg cs'
 ·intro k hk w u h
  have h:DN w u t3:=h
  obtain⟨ao,cap,rfl,-⟩:=h
  exact⟨_,rfl,rfl,one3 rfl rfl⟩
 ·intro j hj j' hj'
  rw[hops]
  rcases lt68 hj with rfl|rfl|rfl|rfl|rfl|rfl
  ·cases hj'
  ·obtain rfl:j'=0:=by simpa [hfD] using hj'
   exact⟨by omega,fun o ho=>by obtain rfl:=Option.some.inj ho;exact⟨⟨_,.data⟩,by simp,rfl,rfl⟩⟩
  ·cases hj'
  ·obtain rfl:j'=2:=by simpa [hfD] using hj'
   exact⟨by omega,fun o ho=>by obtain rfl:=Option.some.inj ho;exact⟨⟨_,.data⟩,by simp,rfl,rfl⟩⟩
  ·obtain rfl:j'=3:=by simpa [hfD] using hj'
   exact⟨by omega,fun o ho=>by obtain rfl:=Option.some.inj ho;exact⟨⟨_,.data⟩,List.mem_toArray.2 (List.mem_cons_self ..),rfl,rfl⟩⟩
  ·obtain rfl|rfl:j'=1∨j'=4:=by simpa [hfD] using hj'
   ·exact⟨by omega,fun o ho=>by obtain rfl:=Option.some.inj ho;exact⟨⟨1,.data⟩,by simp,rfl,rfl⟩⟩
   ·exact⟨by omega,fun o ho=>by obtain rfl:=Option.some.inj ho;exact⟨⟨4,.data⟩,by simp,rfl,rfl⟩⟩
 ·intro j hj a w hb hoth hdep
  have e1:a.tmps[1]?=some (.float .f64 m):=by rw[hoth 1 (fun j hj=>by show 1≠13+j;omega) (fun k hk=>by decide)];exact h1
  have e2:a.tmps[2]?=some (.pointer (some ⟨g,0,none⟩)):=by rw[hoth 2 (fun j hj=>by show 2≠13+j;omega) (fun k hk=>by decide)];exact h2
  clear hoth h1 h2
  rw[hops]
  rcases lt68 hj with rfl|rfl|rfl|rfl|rfl|rfl
  ·refine step_move8 rfl rfl rfl e1 ?_
   exact⟨_,rfl,rfl,Below.refl _ _⟩
  ·obtain⟨u,hu,hv⟩:=hdep 0 (by simp[hfD])
   have hv:u=.float .f64 m:=hv
   subst hv
   refine step_call rfl rfl rfl (enters Tryz.func51 (by kernel_rfl) (by kernel_rfl)) (vs:=#[_]) (by simp only[List.map_toArray,List.map_cons,List.map_nil];rw[eval_get hu]) ?_
   refine(k1 w).mono ?_
   rintro r w' ⟨A,rfl,hE,hb'⟩
   exact⟨_,rfl,_,rfl,hE,hb'⟩
  ·refine step_fieldI rfl rfl rfl (.inl rfl) e2 ?_
   exact⟨_,rfl,rfl,Below.refl _ _⟩
  ·obtain⟨u,hu,hv⟩:=hdep 2 (by simp[hfD])
   have hv:u=.pointer (some ⟨g,0,none⟩):=hv
   subst hv
   refine step_loadF rfl rfl rfl hu (hc w hb) ?_
   exact⟨_,rfl,rfl,Below.refl _ _⟩
  ·obtain⟨u,hu,hv⟩:=hdep 3 (by simp[hfD])
   have hv:u=.float .f64 lo:=hv
   subst hv
   refine step_call rfl rfl rfl (enters Tryz.func51 (by kernel_rfl) (by kernel_rfl)) (vs:=#[_]) (by simp only[List.map_toArray,List.map_cons,List.map_nil];rw[eval_get hu]) ?_
   refine(k2 w).mono ?_
   rintro r w' ⟨A,rfl,hE,hb'⟩
   exact⟨_,rfl,_,rfl,hE,hb'⟩
  ·obtain⟨u,hu,hv⟩:=hdep 1 (by simp[hfD])
   obtain⟨u',hu',hv'⟩:=hdep 4 (by simp[hfD])
   refine step_call rfl rfl rfl (enters Tryz.func76 (by kernel_rfl) (by kernel_rfl)) (vs:=#[_,_]) (by simp only[List.map_toArray,List.map_cons,List.map_nil];rw[eval_get hu,eval_get hu']) ?_
   refine(k3 w u u' hv hv').mono ?_
   rintro r w' ⟨A,rfl,hE,hb'⟩
   exact⟨_,rfl,_,rfl,hE,hb'⟩
 ·intro k hk
  obtain rfl:k=0:=by omega
  rw[hops]
  exact⟨_,rfl,rfl,rfl,rfl⟩
 ·intro k hk
  obtain rfl:k=0:=by omega
  rw[hops]
  exact⟨by omega,_,rfl,rfl,rfl,rfl,⟨⟨6,.data⟩,by simp,rfl,rfl⟩,⟨5,.data⟩,by simp,rfl,rfl⟩
 ·intro u g' a w hb hu hg hs hd hoth
  have ha:a=putL a0 ((List.range 6).map (fun j=>(13+j,u j)) ++ [(6,.pointer (some ⟨g' 0,0,none⟩))]):=by
   refine act_putL ?_ hs hd ?_ ?_
   ·simp[List.range,List.range.loop]
   ·intro p hp
    rcases List.mem_append.1 hp with h|h
    ·obtain⟨j,hj,rfl⟩:=List.mem_map.1 h
     exact(hu j (List.mem_range.1 hj)).1
    ·obtain rfl:p=_:=List.mem_singleton.1 h
     exact(hg 0 (by omega)).1
   ·intro s hsn
    refine hoth s (fun j hj he=>hsn ?_) (fun k hk he=>hsn ?_)
    ·rw[List.map_append]
     exact List.mem_append_left _ (List.mem_map.2 ⟨(13+j,u j),List.mem_map.2 ⟨j,List.mem_range.2 hj,rfl⟩,he.symm⟩)
    ·rw[List.map_append]
     exact List.mem_append_right _ (by simp[he])
  rw[ha]
  exact hQ u (g' 0) w hb (hu 5 (by omega)).2 (hg 0 (by omega)).2.1 (hg 0 (by omega)).2.2
attribute [local go_sem] run_store_flt
theorem BxD.keep8 {w3 w w':World} {g:Nat} {s:Bool} {ao:Option Addr} {n cap:Nat} {ex:Int} {t:Bool×Nat×Int} (h:BxD w3 w g s ao n cap ex t) (hb:Bw w w'):BxD w3 w' g s ao n cap ex t :=
 ⟨(hb.block _ (Array.getElem?_eq_some_iff.1 h.1).1).trans h.1,h.2.1,h.2.2.1.trans (hb.mono h.2.2.1.size),h.2.2.2.later hb⟩
theorem dhalf_1 (lo hi m:Nat) (tl th tm p q:Bool×Nat×Int) (c:Int) (w:World)
  (k1:∀ W,Calls Tryz.prog 51 #[.float .f64 hi] W fun r w'=>∃ A,r=.returned A∧DN w' A th∧Bw W w')
  (k2:∀ W,Calls Tryz.prog 51 #[.float .f64 m] W fun r w'=>∃ A,r=.returned A∧DN w' A tm∧Bw W w')
  (k3:∀ W,Calls Tryz.prog 51 #[.float .f64 lo] W fun r w'=>∃ A,r=.returned A∧DN w' A tl∧Bw W w')
  (k4:∀ W A B,DN W A th→DN W B tm→Calls Tryz.prog 76 #[A,B] W fun r w'=>∃ C,r=.returned C∧DN w' C p∧Bw W w')
  (k5:∀ W A B,DN W A tm→DN W B tl→Calls Tryz.prog 76 #[A,B] W fun r w'=>∃ C,r=.returned C∧DN w' C q∧Bw W w')
  (k6:∀ W A B,DN W A p→DN W B q→Calls Tryz.prog 53 #[A,B] W fun r w'=>r=.returned (.int .i64 c)∧Bw W w') :
  Calls Tryz.prog 44 #[.agg #[.float .f64 lo,.float .f64 hi],.float .f64 m] w fun r w'=>∃ A,r=.returned A∧DN w' A (if c<0 then q else p)∧Bw w w':=by
 obtain⟨W,hW⟩:∃ W,W=(w.alloc (.cells #[.float .f64 lo,.float .f64 hi] 24)).alloc (.cells #[.bool false,.slice none 0 0,.int .i64 0] 44):=⟨_,rfl⟩
 obtain⟨hA,hB,hsz,hBW⟩:=two29 _ _ hW
 have HX:Hid (Bw w W∧IvB W w.heap.size lo hi∧W.heap[w.heap.size+1]?=some (.cells #[.bool false,.slice none 0 0,.int .i64 0] 44 (0,0))):=⟨hBW,hA,hB⟩
 have HK:Hid (∀ w',Bw W w'→IvF w' w.heap.size lo hi):=fun w' hb=>HX.out.2.1.later hb
 clear hA hB hsz hBW
 have H2:Hid _:=k2
 have H3:Hid _:=k3
 have H4:Hid _:=k4
 have H5:Hid _:=k5
 have H6:Hid _:=k6
 clear k2 k3 k4 k5 k6
 obtain⟨c0,c1,z0,z1⟩:=HK.out W (Below.refl _ _)
 go_enter Tryz.func44,Tryz.ntmps44
 go_upto_region 1 with fail
 rw[←hW]
 clear hW
 go_cut [5] from 7 to 12 (fun p0 wx=>∃ (g:Nat) (s:Bool) (ao:Option Addr) (n cap:Nat) (e:Int),p0=.pointer (some ⟨g,0,none⟩)∧Hid (BxD W wx g s ao n cap e p))
 case first =>
  have kk:=k1 W
  clear k1
  go_wp2_with fail
  refine kk.mono ?_
  rintro r v1 ⟨A1,rfl,F1,q1⟩
  have B:Bw W v1:=q1
  have kk:=H2.out v1
  clear q1 c0 c1 z0 z1
  go_wp2_with fail
  refine kk.mono ?_
  rintro r v2 ⟨A2,rfl,F2,q2⟩
  have HB2:Hid (Bw W v2):=B.trans (q2.mono B.size)
  have kk:=H4.out _ _ _ (F1.later q2) F2
  clear B q2 F1 F2
  go_wp2_with fail
  refine kk.mono ?_
  rintro r v3 ⟨A3,rfl,F3,q3⟩
  have HB3:Hid (Bw W v3):=HB2.out.trans (q3.mono HB2.out.size)
  clear HB2 q3 kk
  have F3':=F3
  obtain⟨ao,cap,rfl,-⟩:=F3'
  have HF:Hid (DN v3 (.agg #[.bool p.1,.slice ao (dlen p.2.1) cap,.int .i64 p.2.2]) p):=F3
  clear F3
  go_wp2_with fail
  go_meet
  first|exact⟨_,_,_,_,_,_,rfl,BxD.new HF.out HB3.out⟩|exact⟨_,_,_,_,_,_,rfl,BxD.put (HF.out.later ((Below.refl _ _).alloc (Nat.le_refl _) _)) (HB3.out.alloc HB3.out.size _) HB3.out.size (heap_alloc_new _ _)⟩|trace_state
 case rest =>
  obtain⟨w1,hw1⟩:∃ w1:World,w1=wc:=⟨_,rfl⟩
  subst hw1
  obtain⟨g0,s0,ao0,n0,cap0,e0,rfl,HP⟩:=hcut
  have HW1:Hid (Bw W w1):=HP.out.2.2.1
  clear c0 c1 z0 z1 k1
  obtain⟨c0,c1,z0,z1⟩:=HK.out w1 HW1.out
  go_upto_region 2 with fail
  go_cut [6] from 13 to 18 (fun p0 wx=>∃ (g:Nat) (s:Bool) (ao:Option Addr) (n cap:Nat) (e:Int),p0=.pointer (some ⟨g,0,none⟩)∧Hid (BxD w1 wx g s ao n cap e q))
  case first =>
   refine half_region w.heap.size lo m tm tl q w1 _ rfl rfl rfl (fun w' hb=>(HK.out w' (HW1.out.trans (hb.mono HW1.out.size))).1) H2.out H3.out H5.out (by show 18<25;decide) ?_
   intro u g wx hb hD hg hcs
   obtain⟨cs,h1,h2⟩:=hcs
   have h3:=hD
   obtain⟨ao,cap,h4,-⟩:=h3
   have h5:cs = #[.bool q.1,.slice ao (dlen q.2.1) cap,.int .i64 q.2.2]:=by
    have:=h1.symm.trans h4
    simpa using this
   rw[h5] at h2
   rw[h4] at hD
   have HF:Hid (BxD w1 wx g q.1 ao (dlen q.2.1) cap q.2.2 q):=⟨h2,hg,hb,hD⟩
   clear h1 h2 h4 h5 hb hg hD
   simp only[putL,show List.range 6 = [0,1,2,3,4,5] from rfl,List.map_cons,List.map_nil,List.cons_append,List.nil_append,List.foldl_cons,List.foldl_nil,Nat.reduceAdd,Act.put,List.setIfInBounds_toArray,List.set_cons_zero,List.set_cons_succ]
   go_wp2_with fail
   go_meet
   exact⟨_,_,_,_,_,_,rfl,HF⟩
  case rest =>
   obtain⟨w2,hw2⟩:∃ w2:World,w2=wc:=⟨_,rfl⟩
   subst hw2
   obtain⟨g1,s1,ao1,n1,cap1,e1,rfl,HQ⟩:=hcut
   have HP2:Hid (BxD W w2 g0 s0 ao0 n0 cap0 e0 p):=HP.out.keep8 HQ.out.2.2.1
   have HB2:Hid (Bw W w2):=HP2.out.2.2.1
   clear c0 c1 z0 z1 HP HW1
   obtain⟨⟨a0,a1,a2⟩,-⟩:=box_cells29 HP2.out.1
   obtain⟨⟨b0,b1,b2⟩,-⟩:=box_cells29 HQ.out.1
   have kk:=H6.out _ _ _ HP2.out.2.2.2 HQ.out.2.2.2
   clear H2 H3 H4 H5 H6
   go_wp2_with fail
   refine kk.mono ?_
   rintro r w3 ⟨rfl,hb3⟩
   have HP3:Hid (BxD W w3 g0 s0 ao0 n0 cap0 e0 p):=HP2.out.keep8 hb3
   have HQ3:Hid (BxD w1 w3 g1 s1 ao1 n1 cap1 e1 q):=HQ.out.keep8 hb3
   have HB3:Hid (Bw w w3):=HX.out.1.trans (HP3.out.2.2.1.mono HX.out.1.size)
   have HZ:w3.heap[w.heap.size+1]?=some (.cells #[.bool false,.slice none 0 0,.int .i64 0] 44 (0,0)):=(HP3.out.2.2.1.block _ (Array.getElem?_eq_some_iff.1 HX.out.2.2).1).trans HX.out.2.2
   clear a0 a1 a2 b0 b1 b2 kk hb3 HP2 HQ HB2 HK
   obtain⟨⟨a0,a1,a2⟩,-⟩:=box_cells29 HP3.out.1
   obtain⟨⟨b0,b1,b2⟩,-⟩:=box_cells29 HQ3.out.1
   obtain⟨⟨d0,d1,d2⟩,d3,d4,d5⟩:=box_cells29 HZ
   have HZ':Hid (w3.heap[w.heap.size+1]?=some (.cells #[.bool false,.slice none 0 0,.int .i64 0] 44 (0,0))):=HZ
   clear HZ HX
   go_wp2
   ·refine bodyPost_ret (results_cell_row rfl _ _ (w.heap.size+1) 44 #[.bool s1,.slice ao1 n1 cap1,.int .i64 e1] (0,0) _ rfl (store3_29 _ _ _ HZ'.out) Tryz.underlying44 rfl Tryz.info44) rfl ?_
    exact⟨_,rfl,dn_store HQ3.out.2.2.2 HZ'.out _ _ _,below_store3 HB3.out (by omega) _ _ _⟩
   ·refine bodyPost_ret (results_cell_row rfl _ _ (w.heap.size+1) 44 #[.bool s0,.slice ao0 n0 cap0,.int .i64 e0] (0,0) _ rfl (store3_29 _ _ _ HZ'.out) Tryz.underlying44 rfl Tryz.info44) rfl ?_
    exact⟨_,rfl,dn_store HP3.out.2.2.2 HZ'.out _ _ _,below_store3 HB3.out (by omega) _ _ _⟩
attribute [local go_sem] run_store_flt
def raV (v f:Bool) (R:Nat):Value:=if v then(if f then .tuple #[.float .f64 9218868437227405312,.int .i64 0] else .tuple #[.float .f64 R,.int .i64 0])else .tuple #[.float .f64 0,.int .i64 1]
theorem drad_1 (a b:Nat) (i j:Int) (M R:Nat) (t:Bool×Nat×Int) (hIJ:eI a=i∧eI b=j) (KM:Hid (vI a b=true→∀ W,Calls Tryz.prog 16 #[.agg #[.float .f64 a,.float .f64 b]] W fun r w'=>r=.returned (.tuple #[.float .f64 M,.int .i64 0])∧Bw W w')) (KH:Hid (vI a b=true→i=0→j=0→∀ W,Calls Tryz.prog 44 #[.agg #[.float .f64 a,.float .f64 b],.float .f64 M] W fun r w'=>∃ A,r=.returned A∧DN w' A t∧Bw W w')) (KT:Hid (vI a b=true→i=0→j=0→∀ W A,DN W A t→Calls Tryz.prog 40 #[A,.int .i64 3] W fun r w'=>r=.returned (.float .f64 R)∧Bw W w')) (w:World) (ha:a<18446744073709551616) (hb:b<18446744073709551616) :
  Calls Tryz.prog 18 #[.agg #[.float .f64 a,.float .f64 b]] w fun r w'=>r=.returned (raV (vI a b) (decide (i≠0)||decide (j≠0)) R)∧Bw w w':=by
 have k1:=fun W=>d8valid a b ha hb W
 have HN1:Hid (vI a b=true→isNaN a=false∧isNaN b=false):=vI_nn
 generalize hu:vI a b=u at *
 clear hu
 obtain⟨W,hW⟩:∃ W,W=(w.alloc (.cells #[.float .f64 a,.float .f64 b] 24)):=⟨_,rfl⟩
 have HX:Hid (Bw w W∧IvB W (w.heap.size) a b):=by
  rw[hW]
  exact⟨bxs1_0 w a b,bxs1_1 w a b⟩
 have HK:Hid (∀ w',Bw W w'→IvF w' (w.heap.size) a b):=fun w' hb=>(HX.out.2).later hb
 have HV0:Hid (Bw w W):=HX.out.1
 obtain⟨c0,c1,z0,z1⟩:=HK.out W (Below.refl _ _)
 have kv:=k1 W
 clear k1
 go_enter Tryz.func18,Tryz.ntmps18
 go_upto_region 1 with fail
 rw[←hW]
 clear hW
 go_wp2_with fail
 refine kv.mono ?_
 rintro r w1 ⟨rfl,hb1⟩
 clear kv
 clear c0 z0 c1 z1
 obtain⟨c0,c1,z0,z1⟩:=HK.out w1 hb1
 cases u
 ·have HB:Hid (Bw w w1):=HX.out.1.trans (hb1.mono HX.out.1.size)
  clear hb1 HK HX
  go_wp2
  go_ret2
  exact⟨rfl,HB.out⟩
 obtain⟨Na,Nb⟩:=HN1.out (by simp)
 have HB1:Hid (Bw W w1):=hb1
 have HAB:Hid (a<18446744073709551616∧b<18446744073709551616∧isNaN a=false∧isNaN b=false):=⟨ha,hb,Na,Nb⟩
 clear hb1 HN1 ha hb Na Nb
 go_upto_region 3 with fail
 go_cut [4,5] from 11 to 16 (fun p q wx=>∃ (g0 g1:Nat) (s0:Bool) (ao0:Option Addr) (n0 cap0:Nat) (e0:Int) (s1:Bool) (ao1:Option Addr) (n1 cap1:Nat) (e1:Int),p=.pointer (some ⟨g0,0,none⟩)∧q=.pointer (some ⟨g1,0,none⟩)∧Hid (Bw w1 wx∧EnB wx g0 (.int .i64 (eI a)) (.bool s0) (.slice ao0 n0 cap0) (.int .i64 e0)∧EnB wx g1 (.int .i64 (eI b)) (.bool s1) (.slice ao1 n1 cap1) (.int .i64 e1)∧EN wx (.agg #[.int .i64 (eI a),.bool s0,.slice ao0 n0 cap0,.int .i64 e0]) (eI a) (eT a)∧EN wx (.agg #[.int .i64 (eI b),.bool s1,.slice ao1 n1 cap1,.int .i64 e1]) (eI b) (eT b)∧w1.heap.size≤g0∧w1.heap.size≤g1))
 case first =>
  refine ends_region 2 (fun k=>1) (fun k=>11+3*k) (fun k=>12+3*k) (fun k=>13+3*k) (fun k=>4+k) (fun k=>w.heap.size) (fun k=>k) (fun k=>if k=0 then a else b) w1 _ rfl (ord_of (by kernel_rfl)) ?_ ?_ ?_ ?_ ?_ ?_ ?_ ?_ ?_ ?_ ?_ ?_ ?_
  ·intro k hk
   rcases lt28 hk with rfl|rfl
   ·exact⟨rfl,.inl rfl,fun w' hw=>(HK.out w' (HB1.out.trans (hw.mono HB1.out.size))).1,HAB.out.1,HAB.out.2.2.1⟩
   ·exact⟨rfl,.inr rfl,fun w' hw=>(HK.out w' (HB1.out.trans (hw.mono HB1.out.size))).2.1,HAB.out.2.1,HAB.out.2.2.2⟩
  ·intro k hk
   rcases lt28 hk with rfl|rfl <;> decide
  ·intro k hk
   rcases lt28 hk with rfl|rfl <;> exact⟨_,rfl,rfl,rfl,rfl⟩
  ·intro k hk
   rcases lt28 hk with rfl|rfl <;> exact⟨_,rfl,rfl,rfl,rfl,⟨_,.data⟩,by simp,rfl,rfl⟩
  ·intro k hk
   rcases lt28 hk with rfl|rfl <;> exact⟨_,rfl,rfl,⟨_,rfl⟩,rfl,⟨_,.data⟩,by simp,rfl,rfl⟩
  ·intro k hk
   rcases lt28 hk with rfl|rfl <;> exact⟨_,rfl,rfl,rfl,rfl⟩
  ·intro k hk
   rcases lt28 hk with rfl|rfl <;> exact⟨_,rfl,rfl,rfl,rfl,⟨⟨_,.data⟩,by simp,rfl,rfl⟩,⟨_,.data⟩,by simp,rfl,rfl⟩
  ·show ∀ j,j<3*2→eslot (fun k=>11+3*k) (fun k=>12+3*k) (fun k=>13+3*k) j<35
   decide
  ·show ∀ k,k<2→4+k<35
   decide
  ·decide
  ·decide
  ·decide
  ·intro u g wx hb hk
   obtain⟨x1,x0,cs0,x2,x3⟩:=hk 0 (by omega)
   obtain⟨y1,y0,cs1,y2,y3⟩:=hk 1 (by omega)
   have x1':=x1
   have y1':=y1
   obtain⟨s0,ao0,n0,cap0,e0,x4,-⟩:=x1'
   obtain⟨s1,ao1,n1,cap1,e1,y4,-⟩:=y1'
   have x5:cs0 = #[.int .i64 (eI a),.bool s0,.slice ao0 n0 cap0,.int .i64 e0]:=by
    have:=x2.symm.trans x4
    simpa using this
   have y5:cs1 = #[.int .i64 (eI b),.bool s1,.slice ao1 n1 cap1,.int .i64 e1]:=by
    have:=y2.symm.trans y4
    simpa using this
   rw[x5] at x3
   rw[y5] at y3
   rw[x4] at x1
   rw[y4] at y1
   have HF:Hid (Bw w1 wx∧EnB wx (g 0) (.int .i64 (eI a)) (.bool s0) (.slice ao0 n0 cap0) (.int .i64 e0)∧EnB wx (g 1) (.int .i64 (eI b)) (.bool s1) (.slice ao1 n1 cap1) (.int .i64 e1)∧EN wx (.agg #[.int .i64 (eI a),.bool s0,.slice ao0 n0 cap0,.int .i64 e0]) (eI a) (eT a)∧EN wx (.agg #[.int .i64 (eI b),.bool s1,.slice ao1 n1 cap1,.int .i64 e1]) (eI b) (eT b)∧w1.heap.size≤g 0∧w1.heap.size≤g 1):=⟨hb,x3,y3,x1,y1,x0,y0⟩
   clear hk x0 y0 x1 x2 x3 x4 x5 y1 y2 y3 y4 y5 hb
   simp only[putL,eslot,show List.range (3*2) = [0,1,2,3,4,5] from rfl,show List.range 2 = [0,1] from rfl,List.map_cons,List.map_nil,List.cons_append,List.nil_append,List.foldl_cons,List.foldl_nil,Nat.reduceMod,Nat.reduceDiv,Nat.reduceMul,Nat.reduceAdd,Nat.reduceEqDiff,reduceIte,Nat.one_ne_zero,Act.put,List.setIfInBounds_toArray,List.set_cons_zero,List.set_cons_succ]
   go_wp2_with fail
   go_meet
   exact⟨_,_,_,_,_,_,_,_,_,_,_,_,rfl,rfl,HF⟩
 case rest =>
  obtain⟨w8,hw8⟩:∃ w8:World,w8=wc:=⟨_,rfl⟩
  subst hw8
  obtain⟨g0,g1,s0,ao0,n0,cap0,e0,s1,ao1,n1,cap1,e1,rfl,rfl,HF⟩:=hcut
  have HB8:Hid (Bw W w8):=HB1.out.trans (HF.out.1.mono HB1.out.size)
  have HE:Hid (EN w8 (.agg #[.int .i64 (eI a),.bool s0,.slice ao0 n0 cap0,.int .i64 e0]) (eI a) (eT a)∧EN w8 (.agg #[.int .i64 (eI b),.bool s1,.slice ao1 n1 cap1,.int .i64 e1]) (eI b) (eT b)):=⟨HF.out.2.2.2.1,HF.out.2.2.2.2.1⟩
  have HW8:Hid (Bw w w8):=HV0.out.trans (HB8.out.mono HV0.out.size)
  obtain⟨⟨a0,a1,a2,a3⟩,-⟩:=HF.out.2.1.facts
  obtain⟨⟨b0,b1,b2,b3⟩,-⟩:=HF.out.2.2.1.facts
  clear HB1 c0 c1 z0 z1
  rw[hIJ.1] at a0 HE
  rw[hIJ.2] at b0 HE
  clear HF HAB HV0 hIJ HE
  obtain⟨c0,c1,z0,z1⟩:=HK.out w8 HB8.out
  by_cases hij:i=0∧j=0
  ·obtain⟨rfl,rfl⟩:=hij
   have kk:=KM.out (by simp) w8
   clear KM
   go_wp2_with fail
   refine kk.mono ?_
   rintro r v1 ⟨rfl,q1⟩
   have HB1:Hid (Bw W v1):=HB8.out.trans (q1.mono HB8.out.size)
   have kk:=KH.out (by simp) (by simp) (by simp) v1
   clear KH q1 HW8 HB8 a0 a1 a2 a3 b0 b1 b2 b3 c0 c1 z0 z1
   obtain⟨c0,c1,z0,z1⟩:=HK.out v1 HB1.out
   go_wp2_with fail
   refine kk.mono ?_
   rintro r v2 ⟨A2,rfl,F2,q2⟩
   have HB2:Hid (Bw W v2):=HB1.out.trans (q2.mono HB1.out.size)
   have kk:=KT.out (by simp) (by simp) (by simp) _ _ F2
   clear KT q2 F2 HB1 c0 c1 z0 z1
   go_wp2_with fail
   refine kk.mono ?_
   rintro r v3 ⟨rfl,q3⟩
   have HB3:Hid (Bw w v3):=HX.out.1.trans ((HB2.out.trans (q3.mono HB2.out.size)).mono HX.out.1.size)
   clear q3 HB2 kk HX HK
   go_wp2
   go_ret2
   exact⟨rfl,HB3.out⟩
  have kk:=cinf_p w8
  clear KM KH KT HK HX HB8
  by_cases h1:i=0
  ·have h2:j≠0:=fun h=>hij ⟨h1,h⟩
   have e2:(j != 0)=true:=by simp[h2]
   subst h1
   have e0:(decide ((0:Int)≠0)||decide (j≠0))=true:=by simp[h2]
   clear hij
   go_wp2_with fail
   refine kk.mono ?_
   rintro r v1 ⟨rfl,rfl⟩
   go_wp2
   go_ret2
   exact⟨by simp[raV,h2],HW8.out⟩
  ·have e1:(i != 0)=true:=by simp[h1]
   clear hij
   go_wp2_with fail
   refine kk.mono ?_
   rintro r v1 ⟨rfl,rfl⟩
   go_wp2
   go_ret2
   exact⟨by simp[raV,h1],HW8.out⟩
attribute [local go_sem] run_store_flt
def V8 (t:Bool×Nat×Int):Int:=vz 5000000 t.1 t.2.1 t.2.2
theorem V8_zero:V8 (false,0,0)=0:=vz_zero _ _ _
theorem V8_neg (t:Bool×Nat×Int):V8 (tNeg t) = - V8 t:=by
 unfold tNeg V8
 by_cases h:t.2.1=0
 ·rw[if_pos h,h,vz_zero,vz_zero];rfl
 ·rw[if_neg h]
  show vz 5000000 (!t.1) t.2.1 t.2.2=_
  unfold vz
  rw[←Int.neg_mul]
  congr 1
  unfold sv
  cases t.1 <;> simp
def E8 (t:Bool×Nat×Int):Prop:=Fits (-1074) 1025 t.2.1 t.2.2∧0≤t.2.2+(5000000:Nat)∧Ok t
theorem E8_tF (a:Nat):E8 (tF a):=⟨tF_fits a,tF_e5000000 a,tF_ok a⟩
theorem E8_neg {t:Bool×Nat×Int} (h:E8 t):E8 (tNeg t):=by
 refine⟨tNeg_fits h.1,?_,tNeg_ok h.2.2⟩
 unfold tNeg
 split
 ·decide
 ·exact h.2.1
theorem V8_sum {t u:Bool×Nat×Int} (h1:E8 t) (h2:E8 u):V8 (tS t u)=V8 t+V8 u:=vz_tS h1.1 h2.1 h1.2.1 h2.2.1 (by omega)
theorem S8_ok {t u:Bool×Nat×Int} (h1:E8 t) (h2:E8 u):Ok (tS t u):=ok_cn (tS_okR h1.1 h2.1 (by omega) (by omega) (by omega))
theorem Ok.e8 {t:Bool×Nat×Int} (h:Ok t):0≤t.2.2+(5000000:Nat):=by
 have:=h.facts
 omega
theorem V8_half {t:Bool×Nat×Int} (h:Ok t):2*V8 (tSh t (-1))=V8 t:=by
 have e:=h.facts
 unfold tSh V8
 by_cases h0:t.2.1=0
 ·rw[if_pos h0,h0,vz_zero,vz_zero];rfl
 ·rw[if_neg h0]
  show 2*vz 5000000 t.1 t.2.1 (t.2.2 + -1)=_
  have k:=vz_shift (K:=5000000) (s:=t.1) (x:=t.2.1) (k:=1) (e:=t.2.2 + -1) (by omega)
  rw[show t.2.2 + -1+((1:Nat):Int)=t.2.2 by omega] at k
  rw[←k]
  unfold vz sv
  cases t.1 <;> simp <;> rw[←Int.mul_assoc] <;> congr 1 <;> omega
theorem toD_tf {t:Bool×Nat×Int} (h:Ok t) {m:Int} (hm:1≤m∧m≤3):toD t m=tfF t.1 true t.2.1 t.2.2 m:=by
 unfold toD
 by_cases h0:t.2.1=0
 ·rw[if_pos h0,h.facts.2.2.2.1 h0]
  rcases(show m=1∨m=2∨m=3 by omega)with rfl|rfl|rfl <;> decide +kernel
 ·rw[if_neg h0]
theorem toD_mono {t u:Bool×Nat×Int} (h1:Ok t) (h2:Ok u) {m:Int} (hm:1≤m∧m≤3) (h:V8 t≤V8 u):stp (toD t m)≤stp (toD u m):=by
 rw[toD_tf h1 hm,toD_tf h2 hm]
 exact ord_round (K:=5000000) (by omega) (s:=t.1) (x:=t.2.1) (e:=t.2.2) (t:=u.1) (y:=u.2.1) (f:=u.2.2) h1 h2 hm h
theorem toD_pos {t:Bool×Nat×Int} (h1:Ok t) {m:Int} (hm:1≤m∧m≤3) (h:0≤V8 t):toD t m≠9223372036854775808∧0≤stp (toD t m):=by
 have hz:Ok (false,0,0):=by unfold Ok;rw[dlen_zero];rfl
 refine⟨?_,?_⟩
 ·unfold toD
  by_cases h0:t.2.1=0
  ·rw[if_pos h0];decide
  ·rw[if_neg h0,tf_bdy hm]
   have hs:t.1=false:=by
    cases e:t.1
    ·rfl
    ·exfalso
     unfold V8 vz at h
     rw[e] at h
     have hp:(0:Int)<((2^(t.2.2+(5000000:Nat)).toNat:Nat):Int):=by exact_mod_cast Nat.two_pow_pos _
     have hx:sv true t.2.1<0:=by unfold sv;simp;omega
     have:=Int.mul_neg_of_neg_of_pos hx hp
     omega
   rw[hs]
   have:=bdy_le t.2.1 t.2.2 (wyN false m)
   unfold sig
   simp
   omega
 ·have k:=toD_mono hz h1 hm (by rw[V8_zero];exact h)
  have e:stp (toD (false,0,0) m)=0:=by unfold toD;rw[if_pos rfl];decide
  omega
theorem toD_self {a:Nat} (ha:a<18446744073709551616) (hf:mag a<9218868437227405312) {m:Int} (hm:1≤m∧m≤3):stp (toD (tF a) m)=stp a:=by
 by_cases h0:mag a=0
 ·rw[tF_zero8 h0]
  unfold toD
  rw[if_pos rfl]
  have:stp a=0:=by unfold stp sgn;rw[h0];cases neg a <;> rfl
  rw[this]
  decide
 ·rw[toD_tf (tF_ok a) hm,(tF_val8 hf h0).1,tf_tF8 ha hf h0 m hm]
theorem V8_cmp {a b:Nat} (ha:a<18446744073709551616) (hb:b<18446744073709551616) (fa:mag a<9218868437227405312) (fb:mag b<9218868437227405312):V8 (tF a)≤V8 (tF b)↔stp a≤stp b:=by
 have k:=ord_tF8 ha hb fa fb
 rw[ordN_vz (tF_e5000000 a) (tF_e5000000 b)] at k
 have h1:=(cmpI_neg_iff (V8 (tF a)) (V8 (tF b))).2
 have h2:=(cmpI_neg_iff (stp a) (stp b)).2
 have k:cmpI (V8 (tF a)) (V8 (tF b))=cmpI (stp a) (stp b):=k
 rw[k] at h1
 constructor
 ·intro h
  by_cases h':stp a≤stp b
  ·exact h'
  ·have:=h1.1 (h2.2 (by omega));omega
 ·intro h
  by_cases h':V8 (tF a)≤V8 (tF b)
  ·exact h'
  ·have:=h2.1 (h1.2 (by omega));omega
theorem hfS_toD (a b:Nat):hfS a b=toD (tSh (tS (tF a) (tF b)) (-1)) 2:=(toD_tf (hfS_facts a b).2.1 (by omega)).symm
theorem hfS_in {a b:Nat} (ha:a<18446744073709551616) (hb:b<18446744073709551616) (fa:mag a<9218868437227405312) (fb:mag b<9218868437227405312) (h:stp a≤stp b):stp a≤stp (hfS a b)∧stp (hfS a b)≤stp b∧mag (hfS a b)<9218868437227405312:=by
 have hv:=(V8_cmp ha hb fa fb).2 h
 have hs:=V8_sum (E8_tF a) (E8_tF b)
 have hh:=V8_half (hfS_facts a b).1
 have o:=(hfS_facts a b).2.1
 have k1:=toD_mono (tF_ok a) o (m:=2) (by omega) (by omega)
 have k2:=toD_mono o (tF_ok b) (m:=2) (by omega) (by omega)
 rw[toD_self ha fa (by omega),←hfS_toD] at k1
 rw[toD_self hb fb (by omega),←hfS_toD] at k2
 refine⟨k1,k2,?_⟩
 have f1:=fin_stp fa
 have f2:=fin_stp fb
 have : -9218868437227405312<stp (hfS a b)∧stp (hfS a b)<9218868437227405312:=⟨by omega,by omega⟩
 unfold stp sgn at this
 split at this <;> omega
attribute [local go_sem] run_store_flt
theorem tF_ngt {b:Nat} (hb:b<18446744073709551616) (fb:mag b<9218868437227405312) (nb:isNaN b=false):tF (ngt b)=tNeg (tF b):=by
 have h:=eT_ngt hb
 have e:=(eI_zero_fin hb nb).2 fb
 have e':eI (ngt b)=0:=by rw[eI_ngt hb,e];rfl
 unfold eT at h
 rw[if_pos e,if_pos e'] at h
 exact h
theorem fin_nn {a:Nat} (h:mag a<9218868437227405312):isNaN a=false:=by unfold isNaN;exact decide_eq_false (by omega)
theorem fsub8 {a c:Nat} (ha:a<18446744073709551616) (hc:c<18446744073709551616) (fa:mag a<9218868437227405312) (fc:mag c<9218868437227405312) :
  fAdM a (ngt c) 3=if(tS (tF a) (tNeg (tF c))).2.1=0 then sig (z0 (neg a) (neg (ngt c)) 3) 0 else toD (tS (tF a) (tNeg (tF c))) 3:=by
 unfold fAdM
 have h1:fin a=true:=decide_eq_true fa
 have h2:fin (ngt c)=true:=by unfold fin;rw[ngt_mag hc];exact decide_eq_true fc
 rw[if_neg (by rw[h1,h2];simp),tF_ngt hc fc (fin_nn fc)]
 split
 ·rfl
 ·rename_i h
  unfold toD
  rw[if_neg h]
theorem stp_sig0 (s:Bool):stp (sig s 0)=0:=by cases s <;> decide
theorem fsub8_stp {a c:Nat} (ha:a<18446744073709551616) (hc:c<18446744073709551616) (fa:mag a<9218868437227405312) (fc:mag c<9218868437227405312) :
  stp (fAdM a (ngt c) 3)=stp (toD (tS (tF a) (tNeg (tF c))) 3):=by
 rw[fsub8 ha hc fa fc]
 split
 ·rename_i h
  rw[stp_sig0]
  unfold toD
  rw[if_pos h]
  decide
 ·rfl
theorem fsub8_nought {a c:Nat} (ha:a<18446744073709551616) (hc:c<18446744073709551616) (fa:mag a<9218868437227405312) (fc:mag c<9218868437227405312) (hv:0≤V8 (tS (tF a) (tNeg (tF c)))) (hz:fAdM a (ngt c) 3=9223372036854775808) :
  neg a=true∧neg (ngt c)=true:=by
 rw[fsub8 ha hc fa fc] at hz
 split at hz
 ·unfold sig z0 at hz
  cases e1:neg a <;> cases e2:neg (ngt c) <;> rw[e1,e2] at hz <;> first|exact⟨rfl,rfl⟩|(exfalso;revert hz;decide)
 ·exact absurd hz (toD_pos (S8_ok (E8_tF a) (E8_neg (E8_tF c))) (by omega) hv).1
theorem neg_ngt8 {c:Nat} (hc:c<18446744073709551616):neg (ngt c) = !neg c:=by
 unfold ngt neg
 split <;> rename_i h
 ·rw[h];simp only[decide_eq_true_eq] at h;simp;omega
 ·simp only[decide_eq_true_eq] at h;simp;omega
theorem rad_fin {a b m:Nat} (ha:a<18446744073709551616) (hb:b<18446744073709551616) (hm:m<18446744073709551616) (fa:mag a<9218868437227405312) (fb:mag b<9218868437227405312) (fm:mag m<9218868437227405312) (h1:stp a≤stp m) (h2:stp m≤stp b) {p q:Bool×Nat×Int} (hp:p=tS (tF b) (tNeg (tF m))) (hq:q=tS (tF m) (tNeg (tF a))) :
  Ok p∧Ok q∧toD (if ordN p.1 p.2.1 p.2.2 q.1 q.2.1 q.2.2<0 then q else p) 3=fMax (fAdM m (ngt a) 3) (fAdM b (ngt m) 3):=by
 have op:Ok p:=by rw[hp];exact S8_ok (E8_tF b) (E8_neg (E8_tF m))
 have oq:Ok q:=by rw[hq];exact S8_ok (E8_tF m) (E8_neg (E8_tF a))
 have vp:V8 p=V8 (tF b) - V8 (tF m):=by rw[hp,V8_sum (E8_tF b) (E8_neg (E8_tF m)),V8_neg];omega
 have vq:V8 q=V8 (tF m) - V8 (tF a):=by rw[hq,V8_sum (E8_tF m) (E8_neg (E8_tF a)),V8_neg];omega
 have k1:=(V8_cmp ha hm fa fm).2 h1
 have k2:=(V8_cmp hm hb fm fb).2 h2
 have sx:stp (fAdM m (ngt a) 3)=stp (toD q 3):=by rw[fsub8_stp hm ha fm fa,hq]
 have sy:stp (fAdM b (ngt m) 3)=stp (toD p 3):=by rw[fsub8_stp hb hm fb fm,hp]
 have pp:=toD_pos op (m:=3) (by omega) (by omega)
 have pq:=toD_pos oq (m:=3) (by omega) (by omega)
 have zx:fAdM m (ngt a) 3=9223372036854775808→neg m=true:=fun h=>(fsub8_nought hm ha fm fa (by rw[←hq];omega) h).1
 have zy:fAdM b (ngt m) 3=9223372036854775808→neg m=false:=fun h=>by
  have:=(fsub8_nought hb hm fb fm (by rw[←hp];omega) h).2
  rw[neg_ngt8 hm] at this
  simpa using this
 have lx:fAdM m (ngt a) 3<18446744073709551616:=fAdM_lt hm (ngt_lt ha) (by omega)
 have ly:fAdM b (ngt m) 3<18446744073709551616:=fAdM_lt hb (ngt_lt hm) (by omega)
 refine⟨op,oq,?_⟩
 have ho:=ordN_vz (na:=p.1) (x:=p.2.1) (ea:=p.2.2) (nb:=q.1) (y:=q.2.1) (eb:=q.2.2) op.e8 oq.e8
 have ho:ordN p.1 p.2.1 p.2.2 q.1 q.2.1 q.2.2=cmpI (V8 p) (V8 q):=ho
 have hc:=(cmpI_neg_iff (V8 p) (V8 q)).1
 generalize fAdM m (ngt a) 3=x at *
 generalize fAdM b (ngt m) 3=y at *
 refine stp_inj (toD_lt (by omega)) (fMax_lt lx ly) ?_ ?_ ?_
 ·rw[fMax_stp,sx,sy,ho]
  by_cases h:cmpI (V8 p) (V8 q)<0
  ·rw[if_pos h]
   have:=toD_mono op oq (m:=3) (by omega) (by have:=hc.1 h;omega)
   omega
  ·rw[if_neg h]
   have:=toD_mono oq op (m:=3) (by omega) (by have:¬ V8 p<V8 q:=fun h'=>h (hc.2 h');omega)
   omega
 ·split
  ·exact pq.1
  ·exact pp.1
 ·intro hz
  have bx:∀ z,z<18446744073709551616→stp z=0→neg z=true→z=9223372036854775808:=fun z hl h0 hn=>by
   rcases(stp_zero hl).1 h0 with rfl|rfl
   ·exact absurd hn (by decide)
   ·rfl
  unfold fMax at hz
  split at hz
  ·rename_i h
   have:stp y=0:=by rw[hz];decide
   omega
  ·split at hz
   ·have:stp x=0:=by rw[hz];decide
    omega
   ·split at hz
    ·rename_i h3 h4 h5
     have y0:stp y=0:=by rw[hz];decide
     have e1:=zx (bx x lx (by omega) h5)
     have e2:=zy hz
     rw[e1] at e2
     exact absurd e2 (by simp)
    ·rename_i h5
     rw[hz] at h5
     exact h5 (by decide)
attribute [local go_sem] run_store_flt
theorem vI_cases {a b:Nat} (ha:a<18446744073709551616) (hb:b<18446744073709551616) (v:vI a b=true):((mag a<9218868437227405312∧eI a=0∧eT a=tF a)∨(a=18442240474082181120∧eI a = -1))∧((mag b<9218868437227405312∧eI b=0∧eT b=tF b)∨(b=9218868437227405312∧eI b=1))∧stp a≤stp b:=by
 obtain⟨na,nb⟩:=vI_nn v
 obtain⟨e1,e2⟩:=vI_ends v
 have hs:stp a≤stp b:=by
  unfold vI le at v
  simp only[Bool.and_eq_true,decide_eq_true_eq] at v
  exact v.1.1.1.1.2
 refine⟨?_,?_,hs⟩
 ·rcases inf_or ha na with h|⟨-,h⟩|h
  ·exact .inl h
  ·exact absurd h e1
  ·exact .inr h
 ·rcases inf_or hb nb with h|h|⟨-,h⟩
  ·exact .inl h
  ·exact .inr h
  ·exact absurd h e2
theorem far_of {a:Nat} (h:mag a<9218868437227405312):iFar a=false:=by
 have hm:isNaN (mag a)=false:=by
  unfold isNaN
  rw[show mag (mag a)=mag a by unfold mag;omega]
  exact decide_eq_false (by omega)
 have hs:stp (mag a)=(mag a:Int):=by
  unfold stp sgn neg
  rw[show mag (mag a)=mag a by unfold mag;omega,if_neg (by have:=mag_lt a;simp;omega)]
 unfold iFar lt
 rw[hm,hs,show isNaN 9218868437227405311=false by decide,show stp 9218868437227405311=9218868437227405311 by decide]
 simp only[Bool.not_false,Bool.true_and,decide_eq_false_iff_not]
 omega
theorem all_no1 {a:Nat} (b:Nat) (h:mag a<9218868437227405312):iAll a b=false:=by
 have k:eq a 18442240474082181120=false:=by
  unfold eq
  rw[show stp 18442240474082181120 = -9218868437227405312 by decide]
  have:=fin_stp h
  rw[decide_eq_false (by omega:¬ stp a = -9218868437227405312)]
  simp
 unfold iAll
 rw[k]
 rfl
theorem all_no2 (a:Nat) {b:Nat} (h:mag b<9218868437227405312):iAll a b=false:=by
 have k:eq b 9218868437227405312=false:=by
  unfold eq
  rw[show stp 9218868437227405312=9218868437227405312 by decide]
  have:=fin_stp h
  rw[decide_eq_false (by omega:¬ stp b=9218868437227405312)]
  simp
 unfold iAll
 rw[k]
 simp
theorem mdF_fin {a b:Nat} (ha:a<18446744073709551616) (hb:b<18446744073709551616) (v:vI a b=true):mag (mdF a b)<9218868437227405312:=by
 obtain⟨c1,c2,hs⟩:=vI_cases ha hb v
 unfold mdF
 split
 ·decide
 ·split
  ·decide
  ·split
   ·decide
   ·rename_i h1 h2 h3
    rcases c1 with ⟨f1,-,-⟩|⟨rfl,-⟩
    ·rcases c2 with ⟨f2,-,-⟩|⟨rfl,-⟩
     ·exact(hfS_in ha hb f1 f2 hs).2.2
     ·exact absurd (by decide +kernel:iFar 9218868437227405312=true) h3
    ·exact absurd (by decide +kernel:iFar 18442240474082181120=true) h2
theorem mid_doc {a b:Nat} (ha:a<18446744073709551616) (hb:b<18446744073709551616):midV (vI a b) (decide (eI a≠0)&&decide (eI b≠0)) (decide (eI a≠0)) (decide (eI b≠0)) (toD (tSh (tS (eT a) (eT b)) (-1)) 2)=.tuple #[.float .f64 (if vI a b then mdF a b else 0),.int .i64 (if vI a b then 0 else 1)]:=by
 rw[←midV_eq]
 cases v:vI a b
 ·rfl
 ·obtain⟨c1,c2,hs⟩:=vI_cases ha hb v
  rcases c1 with ⟨f1,e1,t1⟩|⟨rfl,e1⟩
  ·rcases c2 with ⟨f2,e2,t2⟩|⟨rfl,e2⟩
   ·rw[e1,e2,t1,t2,all_no1 b f1,far_of f1,far_of f2,hfS_toD];rfl
   ·rw[e1,e2,all_no1 _ f1,far_of f1,show iFar 9218868437227405312=true by decide +kernel];rfl
  ·rcases c2 with ⟨f2,e2,t2⟩|⟨rfl,e2⟩
   ·rw[e1,e2,all_no2 _ f2,far_of f2,show iFar 18442240474082181120=true by decide +kernel];rfl
   ·rw[e1,e2,show iAll 18442240474082181120 9218868437227405312=true by decide +kernel];rfl
theorem dmid (a b:Nat) (ha:a<18446744073709551616) (hb:b<18446744073709551616) (w:World):Calls Tryz.prog 16 #[.agg #[.float .f64 a,.float .f64 b]] w fun r w'=>r=.returned (.tuple #[.float .f64 (if vI a b then mdF a b else 0),.int .i64 (if vI a b then 0 else 1)])∧Bw w w':=by
 have k:=dmid_1 a b (eI a) (eI b) (toD (tSh (tS (eT a) (eT b)) (-1)) 2) ⟨rfl,rfl⟩ (fun e1 e2=>by
  have t1:eT a=tF a:=by unfold eT;rw[if_pos e1]
  have t2:eT b=tF b:=by unfold eT;rw[if_pos e2]
  obtain⟨o1,o2,-,-⟩:=hfS_facts a b
  have:=o1.facts
  rw[t1,t2]
  exact⟨rfl,o2,fun _=>⟨by omega,by omega⟩⟩) w ha hb
 rw[mid_doc ha hb] at k
 exact k
theorem rd_nn {a b:Nat} (ha:a<18446744073709551616) (hb:b<18446744073709551616) (v:vI a b=true):isNaN (rdP a b)=false∧isNaN (rdQ a b)=false:=by
 obtain⟨na,nb⟩:=vI_nn v
 have fm:=mdF_fin ha hb v
 have nm:=fin_nn fm
 have em:=(eI_zero_fin (mdF_lt a b) nm).2 fm
 have n1:isNaN (ngt a)=false:=by unfold isNaN at na ⊢; rw[ngt_mag ha];exact na
 have n2:isNaN (ngt (mdF a b))=false:=by unfold isNaN at nm ⊢; rw[ngt_mag (mdF_lt a b)];exact nm
 have e2:eI (ngt (mdF a b))=0:=by rw[eI_ngt (mdF_lt a b),em];rfl
 constructor
 ·exact fAdM_nn (mdF_lt a b) (ngt_lt ha) nm n1 (by rw[em];omega) (by rw[em];omega) (by omega)
 ·exact fAdM_nn hb (ngt_lt (mdF_lt a b)) nb n2 (by rw[e2];omega) (by rw[e2];omega) (by omega)
theorem nn_stp {x:Nat} (h:isNaN x=false):stp x≤9218868437227405312:=by
 have n':¬ 9218868437227405312<mag x:=of_decide_eq_false h
 unfold stp sgn
 split <;> omega
theorem fMax_inf {x y:Nat} (hx:x<18446744073709551616) (hy:y<18446744073709551616) (nx:isNaN x=false) (ny:isNaN y=false) (h:x=9218868437227405312∨y=9218868437227405312):fMax x y=9218868437227405312:=by
 have k:=fMax_stp x y
 have k1:=nn_stp nx
 have k2:=nn_stp ny
 have ke:stp 9218868437227405312=9218868437227405312:=by decide
 have ks:stp (fMax x y)=9218868437227405312:=by
  rcases h with h|h
  ·rw[k,h,ke];omega
  ·rw[k,h,ke];omega
 refine stp_inj (fMax_lt hx hy) (by omega) (by rw[ks,ke]) ?_ (by omega)
 intro hz
 rw[hz] at ks
 exact absurd ks (by decide)
theorem rad_doc {a b:Nat} (ha:a<18446744073709551616) (hb:b<18446744073709551616) (v:vI a b=true) (h:eI a≠0∨eI b≠0):fMax (rdP a b) (rdQ a b)=9218868437227405312:=by
 obtain⟨n1,n2⟩:=rd_nn ha hb v
 refine fMax_inf (fAdM_lt (mdF_lt a b) (ngt_lt ha) (by omega)) (fAdM_lt hb (ngt_lt (mdF_lt a b)) (by omega)) n1 n2 ?_
 obtain⟨na,nb⟩:=vI_nn v
 have fm:=mdF_fin ha hb v
 have nm:=fin_nn fm
 have em:=(eI_zero_fin (mdF_lt a b) nm).2 fm
 obtain⟨c1,c2,hs⟩:=vI_cases ha hb v
 have key:∀ x c,x<18446744073709551616→c<18446744073709551616→isNaN x=false→isNaN c=false→eI x+eI c=1→fAdM x c 3=9218868437227405312:=fun x c hx hc nx nc e=>by
  have k:=enF_plus hx hc nx nc (by omega) (by omega) (m:=3) (by omega)
  rw[e] at k
  have e1:enF 1 (plT (eI x) (eI c) (eT x) (eT c)) 3=9218868437227405312:=by unfold enF;rfl
  rw[e1] at k
  rcases pl_cases (fAdM x c 3)with h|⟨-,h⟩
  ·rw[h] at k;exact k.symm
  ·rw[h] at k;exact absurd k (by decide)
 rcases c1 with ⟨f1,e1,t1⟩|⟨-,e1⟩
 ·rcases c2 with ⟨f2,e2,t2⟩|⟨-,e2⟩
  ·exact absurd h (by rw[e1,e2];simp)
  ·right
   refine key b _ hb (ngt_lt (mdF_lt a b)) nb (by unfold isNaN at nm ⊢; rw[ngt_mag (mdF_lt a b)];exact nm) ?_
   rw[eI_ngt (mdF_lt a b),em,e2];rfl
 ·left
  refine key _ (ngt a) (mdF_lt a b) (ngt_lt ha) nm (by unfold isNaN at na ⊢; rw[ngt_mag ha];exact na) ?_
  rw[eI_ngt ha,em,e1];rfl
theorem drad (a b:Nat) (ha:a<18446744073709551616) (hb:b<18446744073709551616) (w:World):Calls Tryz.prog 18 #[.agg #[.float .f64 a,.float .f64 b]] w fun r w'=>r=.returned (.tuple #[.float .f64 (if vI a b then fMax (rdP a b) (rdQ a b)else 0),.int .i64 (if vI a b then 0 else 1)])∧Bw w w':=by
 have hml:=mdF_lt a b
 obtain⟨p,hp⟩:∃ p,p=tS (tF b) (tNeg (tF (mdF a b))):=⟨_,rfl⟩
 obtain⟨q,hq⟩:∃ q,q=tS (tF (mdF a b)) (tNeg (tF a)):=⟨_,rfl⟩
 have fins:vI a b=true→eI a=0→eI b=0→mag a<9218868437227405312∧mag b<9218868437227405312∧stp a≤stp b∧mdF a b=hfS a b:=fun v e1 e2=>by
  obtain⟨c1,c2,hs⟩:=vI_cases ha hb v
  rcases c1 with ⟨f1,-,-⟩|⟨-,e⟩
  ·rcases c2 with ⟨f2,-,-⟩|⟨-,e⟩
   ·refine⟨f1,f2,hs,?_⟩
    unfold mdF
    rw[all_no1 b f1,far_of f1,far_of f2]
    rfl
   ·omega
  ·omega
 have rf:vI a b=true→eI a=0→eI b=0→Ok p∧Ok q∧toD (if ordN p.1 p.2.1 p.2.2 q.1 q.2.1 q.2.2<0 then q else p) 3=fMax (rdP a b) (rdQ a b):=fun v e1 e2=>by
  obtain⟨f1,f2,hs,hm⟩:=fins v e1 e2
  have k:=hfS_in ha hb f1 f2 hs
  exact rad_fin ha hb hml f1 f2 (mdF_fin ha hb v) (by rw[hm];exact k.1) (by rw[hm];exact k.2.1) hp hq
 have k:=drad_1 a b (eI a) (eI b) (mdF a b) (fMax (rdP a b) (rdQ a b)) (if ordN p.1 p.2.1 p.2.2 q.1 q.2.1 q.2.2<0 then q else p) ⟨rfl,rfl⟩
  (fun v W=>by
   have k:=dmid a b ha hb W
   rw[v] at k
   exact k)
  (fun v e1 e2 W=>by
   obtain⟨op,oq,-⟩:=rf v e1 e2
   exact dhalf_1 a b (mdF a b) (tF a) (tF b) (tF (mdF a b)) p q _ W (fun W=>float_dn b hb W) (fun W=>float_dn (mdF a b) hml W) (fun W=>float_dn a ha W)
    (fun W A B h1 h2=>by
     have k:=less8_dn (tF_ok b) (tF_ok (mdF a b)) h1 h2
     rw[tD8_eq (tF_ok _),←hp] at k
     exact k)
    (fun W A B h1 h2=>by
     have k:=less8_dn (tF_ok (mdF a b)) (tF_ok a) h1 h2
     rw[tD8_eq (tF_ok _),←hq] at k
     exact k)
    (fun W A B h1 h2=>dorder op oq h1 h2))
  (fun v e1 e2 W A h=>by
   obtain⟨op,oq,e⟩:=rf v e1 e2
   have o:Ok (if ordN p.1 p.2.1 p.2.2 q.1 q.2.1 q.2.2<0 then q else p):=by
    split
    ·exact oq
    ·exact op
   have k:=dto8 (m:=3) o (by omega) h
   rw[e] at k
   exact k) w ha hb
 refine k.mono ?_
 rintro r w' ⟨rfl,hbl⟩
 refine⟨?_,hbl⟩
 congr 1
 unfold raV
 cases v:vI a b
 ·rfl
 ·by_cases h:eI a≠0∨eI b≠0
  ·rw[rad_doc ha hb v h]
   simp
  ·have h1:eI a=0:=by omega
   have h2:eI b=0:=by omega
   rw[h1,h2]
   rfl
theorem mids8_1 (a b x y:Nat) (f1:Int) (w:World)
  (k1:∀ W,Bw w W→Calls Tryz.prog 15 #[.agg #[.float .f64 a,.float .f64 b]] W fun r w'=>r=.returned (.tuple #[.float .f64 x,.int .i64 f1])∧Bw W w')
  (k2:∀ W,Bw w W→Calls Tryz.prog 16 #[.agg #[.float .f64 a,.float .f64 b]] W fun r w'=>r=.returned (.tuple #[.float .f64 x,.int .i64 f1])∧Bw W w')
  (k3:∀ W,Bw w W→Calls Tryz.prog 17 #[.agg #[.float .f64 a,.float .f64 b]] W fun r w'=>r=.returned (.tuple #[.float .f64 y,.int .i64 f1])∧Bw W w')
  (k4:∀ W,Bw w W→Calls Tryz.prog 18 #[.agg #[.float .f64 a,.float .f64 b]] W fun r w'=>r=.returned (.tuple #[.float .f64 y,.int .i64 f1])∧Bw W w')
  (m1:∀ W,Bw w W→Calls Tryz.prog 19 #[.float .f64 x,.float .f64 x] W fun r w'=>r=.returned (.bool true)∧Bw W w')
  (m2:∀ W,Bw w W→Calls Tryz.prog 19 #[.float .f64 y,.float .f64 y] W fun r w'=>r=.returned (.bool true)∧Bw W w')
  (m3:∀ W,Bw w W→Calls Tryz.prog 14 #[] W fun r w'=>r=.returned (.bool true)∧Bw W w') :
  Calls Tryz.prog 4 #[.agg #[.float .f64 a,.float .f64 b]] w fun r w'=>r=.returned (.bool true)∧Bw w w':=by
 have fe1:(f1==f1)=true:=by simp
 have Hk1:Hid _:=k1
 have Hk2:Hid _:=k2
 have Hk3:Hid _:=k3
 have Hk4:Hid _:=k4
 have Hm1:Hid _:=m1
 have Hm2:Hid _:=m2
 have Hm3:Hid _:=m3
 obtain⟨W,hW⟩:∃ W,W=(w.alloc (.cells #[.float .f64 a,.float .f64 b] 24)):=⟨_,rfl⟩
 have HX:Hid (Bw w W∧IvB W (w.heap.size) a b):=by
  rw[hW]
  exact⟨bxs1_0 w a b,bxs1_1 w a b⟩
 have HK:Hid (∀ w',Bw W w'→IvF w' (w.heap.size) a b):=fun w' hb=>(HX.out.2).later hb
 have AW:Hid (Bw w W):=HX.out.1
 have BW_W:Hid (Bw W W):=Below.refl _ _
 clear k1 k2 k3 k4 m1 m2 m3
 go_enter Tryz.func4,Tryz.ntmps4
 go_upto_region 1 with fail
 rw[←hW]
 clear hW
 obtain⟨c0,c1,z0,z1⟩:=HK.out W BW_W.out
 clear z0 z1
 have kk:=Hk1.out W AW.out
 clear Hk1
 go_wp2_with fail
 clear c0 c1
 refine kk.mono ?_
 rintro r w1 ⟨rfl,hb⟩
 clear kk
 have Aw1:Hid (Bw w w1):=AW.out.trans (hb.mono AW.out.size)
 have BW_w1:Hid (Bw W w1):=BW_W.out.trans (hb.mono BW_W.out.size)
 clear hb AW BW_W 
 obtain⟨c0,c1,z0,z1⟩:=HK.out w1 BW_w1.out
 clear z0 z1
 have kk:=Hk2.out w1 Aw1.out
 clear Hk2
 go_wp2_with fail
 clear c0 c1
 refine kk.mono ?_
 rintro r w2 ⟨rfl,hb⟩
 clear kk
 have Aw2:Hid (Bw w w2):=Aw1.out.trans (hb.mono Aw1.out.size)
 have BW_w2:Hid (Bw W w2):=BW_w1.out.trans (hb.mono BW_w1.out.size)
 clear hb Aw1 BW_w1 
 obtain⟨c0,c1,z0,z1⟩:=HK.out w2 BW_w2.out
 clear z0 z1
 have kk:=Hk3.out w2 Aw2.out
 clear Hk3
 go_wp2_with fail
 clear c0 c1
 refine kk.mono ?_
 rintro r w3 ⟨rfl,hb⟩
 clear kk
 have Aw3:Hid (Bw w w3):=Aw2.out.trans (hb.mono Aw2.out.size)
 have BW_w3:Hid (Bw W w3):=BW_w2.out.trans (hb.mono BW_w2.out.size)
 clear hb Aw2 BW_w2 
 obtain⟨c0,c1,z0,z1⟩:=HK.out w3 BW_w3.out
 clear z0 z1
 have kk:=Hk4.out w3 Aw3.out
 clear Hk4
 go_wp2_with fail
 clear c0 c1
 refine kk.mono ?_
 rintro r w4 ⟨rfl,hb⟩
 clear kk
 have Aw4:Hid (Bw w w4):=Aw3.out.trans (hb.mono Aw3.out.size)
 have BW_w4:Hid (Bw W w4):=BW_w3.out.trans (hb.mono BW_w3.out.size)
 clear hb Aw3 BW_w3 
 have HKK:Hid (∀ w',Bw w4 w'→w'.cell? ⟨w.heap.size,0,none⟩=some (.float .f64 a)∧w'.cell? ⟨w.heap.size,1,none⟩=some (.float .f64 b)∧Bw w4 w'):=fun w' hb=>⟨(HK.out w' (BW_w4.out.trans (hb.mono BW_w4.out.size))).1,(HK.out w' (BW_w4.out.trans (hb.mono BW_w4.out.size))).2.1,hb⟩
 have hBR:Bw w4 w4.drew:=(Below.refl _ _).drew
 have q1:∀ W,Bw w4 W→Calls Tryz.prog 19 #[.float .f64 x,.float .f64 x] W fun r w'=>r=.returned (.bool true)∧Bw w4 w':=fun W h=>(Hm1.out W (Aw4.out.trans (h.mono Aw4.out.size))).mono fun r w' ⟨e1,e2⟩=>⟨e1,h.trans (e2.mono h.size)⟩
 have q2:∀ W,Bw w4 W→Calls Tryz.prog 19 #[.float .f64 y,.float .f64 y] W fun r w'=>r=.returned (.bool true)∧Bw w4 w':=fun W h=>(Hm2.out W (Aw4.out.trans (h.mono Aw4.out.size))).mono fun r w' ⟨e1,e2⟩=>⟨e1,h.trans (e2.mono h.size)⟩
 have q3:∀ W,Bw w4 W→Calls Tryz.prog 14 #[] W fun r w'=>r=.returned (.bool true)∧Bw w4 w':=fun W h=>(Hm3.out W (Aw4.out.trans (h.mono Aw4.out.size))).mono fun r w' ⟨e1,e2⟩=>⟨e1,h.trans (e2.mono h.size)⟩
 clear Hm1 Hm2 Hm3  HX HK BW_w4
 obtain⟨a0,a1,-⟩:=HKK.out w4 (Below.refl _ _)
 go_upto_region 5 with fail
 have D0:Hid (Bw w4 w4):=Below.refl _ _
 have kk:=q1 w4 D0.out
 go_wp2_with fail
 refine kk.mono ?_
 rintro r z_1 ⟨rfl,hb⟩
 have D1:Hid (Bw w4 z_1):=hb
 clear kk hb D0
 clear a0 a1
 obtain⟨a0,a1,-⟩:=HKK.out z_1 D1.out
 have kk:=q2 z_1 D1.out
 go_wp2_with fail
 refine kk.mono ?_
 rintro r z_2 ⟨rfl,hb⟩
 have D2:Hid (Bw w4 z_2):=hb
 clear kk hb D1
 clear a0 a1
 obtain⟨a0,a1,-⟩:=HKK.out z_2 D2.out
 have kk:=q3 z_2 D2.out
 go_wp2_with fail
 refine kk.mono ?_
 rintro r wz ⟨rfl,hb⟩
 have D3:Hid (Bw w4 wz):=hb
 clear kk hb D2
 clear a0 a1
 obtain⟨a0,a1,-⟩:=HKK.out wz D3.out
 have hbz:=D3.out
 have HF:Hid (Bw w wz):=Aw4.out.trans (hbz.mono Aw4.out.size)
 clear q1 q2 q3 HKK hBR a0 a1 hbz
 go_wp2_with fail
 go_ret
 exact⟨rfl,HF.out⟩
theorem radV_or (v:Bool) (R:Nat):radV (if v then 0 else 1) R=.tuple #[.float .f64 (if v then R else 0),.int .i64 (if v then 0 else 1)]:=by
 cases v <;> rfl
theorem spanMiddles_ok (a b:Nat) (w:World) (ha:a<18446744073709551616) (hb:b<18446744073709551616) (hT:Tab32 w) (hJ:Ie.Tab w) :
  Calls Tryz.prog 4 #[.agg #[.float .f64 a,.float .f64 b]] w fun r w'=>r=.returned (.bool true)∧Bw w w' :=
 mids8_1 a b (if vI a b then mdF a b else 0) (if vI a b then fMax (rdP a b) (rdQ a b)else 0) (if vI a b then 0 else 1) w
  (fun W h=>by have k:=smid a b ha hb W (hT.later h) (Tab.later hJ h);rw[midV_eq] at k;exact k)
  (fun W _=>dmid a b ha hb W)
  (fun W h=>by have k:=srad a b ha hb W (hT.later h) (Tab.later hJ h) (fun v=>(rd_nn ha hb v).1) (fun v=>(rd_nn ha hb v).2);rw[radV_or] at k;exact k)
  (fun W _=>drad a b ha hb W)
  (fun W _=>(llike_self _ (or_lt8 (mdF_lt a b)) W).mono fun r w' ⟨e,h⟩=>⟨e,h ▸ Below.refl _ _⟩)
  (fun W _=>(llike_self _ (or_lt8 (fMax_lt (fAdM_lt (mdF_lt a b) (ngt_lt ha) (by omega)) (fAdM_lt hb (ngt_lt (mdF_lt a b)) (by omega)))) W).mono fun r w' ⟨e,h⟩=>⟨e,h ▸ Below.refl _ _⟩)
  (fun W h=>works8 W (hT.later h) (Tab.later hJ h))
end Go.Proofs.YtjiolfnchiioaaaGreatDoor
