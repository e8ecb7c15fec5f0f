/- Own work: contracts of the program's functions, part 10: SB6 SH6 SH7 SH8 SH9 SI1 SI2 SI3 SI4 UB4 HX W46 W47 W48 RE2 RE5 RE6 RD2 L12 L15 SE1 SE2 SB7 SE3 SF1 SF2 SF3 SF4 SNP SN1 SN2 SN3 SN4 SN5 SN6 SN7 SN8 SN9 SNB. -/
import Derived.Test.YtjiolfnchiioaaaGreatDoorA9
import Derived.Test.YtjiolfnchiioaaaGreatDoorA8
import Derived.Test.YtjiolfnchiioaaaGreatDoorA6
import Derived.Test.YtjiolfnchiioaaaGreatDoorA4
import Derived.Test.YtjiolfnchiioaaaGreatDoorA5
import Derived.Lib.ItoaNum
import Derived.Test.YtjiolfnchiioaaaGreatDoorA7

set_option maxHeartbeats 16000000
set_option maxRecDepth 200000
set_option linter.unusedVariables false
set_option linter.unusedSimpArgs false
namespace Go.Proofs.YtjiolfnchiioaaaGreatDoor
open Go.RowKit Go.Fl64
theorem vz_cnF {K:Nat} {lo hi:Int} {s:Bool} {z:Nat} {e:Int} (h:Fits lo hi z e) (hK:0≤lo+K):vz K (cn s z e).1 (cn s z e).2.1 (cn s z e).2.2=vz K s z e:=by
 rcases h with h|⟨h,-,-⟩
 ·subst h;rw[show cn s 0 e=(false,0,0)from if_pos rfl,vz_zero,vz_zero]
 ·exact vz_cn (by omega)
theorem vz_tS {K:Nat} {lo hi:Int} {t1 t2:Bool×Nat×Int} (h1:Fits lo hi t1.2.1 t1.2.2) (h2:Fits lo hi t2.2.1 t2.2.2) (e1:0≤t1.2.2+K) (e2:0≤t2.2.2+K) (hK:0≤lo+K):vz K (tS t1 t2).1 (tS t1 t2).2.1 (tS t1 t2).2.2=vz K t1.1 t1.2.1 t1.2.2+vz K t2.1 t2.2.1 t2.2.2:=by
 unfold tS
 rw[vz_cnF (Fits.sum h1 h2) hK,vz_sumN e1 e2]
end Go.Proofs.YtjiolfnchiioaaaGreatDoor
namespace Go.Proofs.YtjiolfnchiioaaaGreatDoor
open Go.RowKit
end Go.Proofs.YtjiolfnchiioaaaGreatDoor
namespace Go.Proofs.YtjiolfnchiioaaaGreatDoor
open Go.RowKit Go.Fl64
theorem ord_round {K:Nat} (hK:70000≤K) {s t:Bool} {x y:Nat} {e f m:Int} (hx:Ok (s,x,e)) (hy:Ok (t,y,f)) (hm:1≤m∧m≤3) (h:vz K s x e≤vz K t y f):stp (tfF s true x e m)≤stp (tfF t true y f m):=by
 have f1:=hx.facts
 have f2:=hy.facts
 simp only at f1 f2
 rw[tf_bdy hm,tf_bdy hm,(stp_sig (bdy_le _ _ _)).1,(stp_sig (bdy_le _ _ _)).1]
 rw[vz_VA,vz_VA] at h
 have z1:VA K x e=0→x=0:=fun h0=>Decidable.byContradiction fun hne=>by have:=VA_ne (K:=K) (e:=e) hne;omega
 have z2:VA K y f=0→y=0:=fun h0=>Decidable.byContradiction fun hne=>by have:=VA_ne (K:=K) (e:=f) hne;omega
 cases s
 ·cases t
  ·simp only[sv] at h ⊢
   have:=bdy_mono hK f1.2.1 f2.2.1 (wyN_ways false m) (show VA K x e≤VA K y f by simpa using h)
   simpa using this
  ·simp only[sv] at h
   have h1:VA K y f=0:=by simp at h;omega
   have:=f2.2.2.2.1 (z2 h1)
   simp at this
 ·cases t
  ·have h1:(0:Int)≤((bdy x e (wyN true m):Nat):Int):=Int.natCast_nonneg _
   have h2:(0:Int)≤((bdy y f (wyN false m):Nat):Int):=Int.natCast_nonneg _
   show -((bdy x e (wyN true m):Nat):Int)≤((bdy y f (wyN false m):Nat):Int)
   omega
  ·simp only[sv] at h ⊢
   have:=bdy_mono hK f2.2.1 f1.2.1 (wyN_ways true m) (show VA K y f≤VA K x e by simp at h;omega)
   simp
   exact_mod_cast this
theorem dorder {t1 t2:Bool×Nat×Int} {X Y:Value} {w:World} (o1:Ok t1) (o2:Ok t2) (h1:DN w X t1) (h2:DN w Y t2):Calls Tryz.prog 53 #[X,Y] w fun r w'=>r=.returned (.int .i64 (ordN t1.1 t1.2.1 t1.2.2 t2.1 t2.2.1 t2.2.2))∧Bw w w':=by
 obtain⟨ao,cap,rfl,a1⟩:=h1
 obtain⟨ao',cap',rfl,a2⟩:=h2
 obtain⟨f1,f2,f3,-,-⟩:=o1.facts
 obtain⟨g1,g2,g3,-,-⟩:=o2.facts
 exact rorder a1 a2 (by omega) (by omega) (by omega) (by omega)
end Go.Proofs.YtjiolfnchiioaaaGreatDoor
namespace Go.Proofs.YtjiolfnchiioaaaGreatDoor
open Go.RowKit
structure ParZ (W0:World) (a0:Act) (m n:Nat) (slot bx:Nat→Tmp) (vs:Nat→Nat) (T:TypeId) (zs:Array Value) (V:Nat→World→Value→Prop) (listed:Array Bool) (a:Act) (w:World):Prop where
 below:Bw W0 w
 size:a.tmps.size=a0.tmps.size
 defers:a.defers=a0.defers
 other:∀ s,(∀ j,j<m→s≠slot j)→(∀ k,k<n→s≠bx k)→a.tmps[s]?=a0.tmps[s]?
 val:∀ j,j<m→listed.getD j false=true→∃ u,a.tmps[slot j]?=some u∧V j w u
 box:∀ k,k<n→listed.getD (m+k) false=true→∃ g cs,a.tmps[bx k]?=some (.pointer (some ⟨g,0,none⟩))∧W0.heap.size≤g∧w.heap[g]?=some (.cells cs T (0,0))∧cs.size=zs.size ∧
  (listed.getD (m+n+k) false=true→a.tmps[slot (vs k)]?=some (.agg cs))∧(listed.getD (m+n+k) false=false→cs=zs)
 apart:∀ k k',k<n→k'<n→k≠k'→listed.getD (m+k) false=true→listed.getD (m+k') false=true→a.tmps[bx k]?≠a.tmps[bx k']?
 stored:∀ k,k<n→listed.getD (m+n+k) false=true→listed.getD (m+k) false=true∧listed.getD (vs k) false=true
theorem parz_region {P:Program} {ops:Array Oper} {Q:Exit→Act→World→Prop} {id:Nat} (hm:P.follows .mixedOrders=true) (m n:Nat) (slot bx:Nat→Tmp) (vs:Nat→Nat) (dep:Nat→List Nat) (T:TypeId) (zs:Array Value)
  (W0:World) (a0:Act) (V:Nat→World→Value→Prop) (hsz:ops.size=m+n+n)
  (hord:∀ (i:Nat) (o:Oper),ops[i]?=some o→∀ e ∈ o.after,e.on<i)
  (hV1:∀ j w w' u,Bw w w'→V j w u→V j w' u)
  (hV2:∀ j w u g cs',w.heap[g]?=some (.cells zs T (0,0))→V j w u→V j (w.setRow g cs') u)
  (hVs:∀ k,k<n→∀ w u,V (vs k) w u→∃ cs:Array Value,u=.agg cs∧cs.size=zs.size∧cs.all (·.oneCell')=true)
  (hdep:∀ j,j<m→∀ j' ∈ dep j,j'<m∧∀ o,ops[j]?=some o→∃ e ∈ o.after,e.on=j'∧Region.binds .any e=true)
  (hA:∀ j,j<m→∀ (a:Act) (w:World),Bw W0 w→(∀ s,(∀ j,j<m→s≠slot j)→(∀ k,k<n→s≠bx k)→a.tmps[s]?=a0.tmps[s]?) →
   (∀ j' ∈ dep j,∃ u,a.tmps[slot j']?=some u∧V j' w u)→wpOp P ops Q j (fun a' w'=>∃ u,a'=a.put (some (slot j)) u∧V j w' u∧Bw w w') a w)
  (hal:∀ k,k<n→∃ o,ops[m+k]?=some o∧o.guard=none∧o.op=.alloc T∧o.dst=some (bx k))
  (hz:∀ w,(zeroValue T).run P w=.ok (.agg zs) w) (hi:(P.info? T).map (·.size)=some zs.size)
  (hst:∀ k,k<n→vs k<m∧∃ o,ops[m+n+k]?=some o∧o.guard=none∧o.op=.store T (.tmp (bx k)) (.tmp (slot (vs k)))∧o.dst=none∧(∃ e ∈ o.after,e.on=m+k∧Region.binds .any e=true)∧(∃ e ∈ o.after,e.on=vs k∧Region.binds .any e=true))
  (hin:∀ j,j<m→slot j<a0.tmps.size) (hbin:∀ k,k<n→bx k<a0.tmps.size)
  (hinj:∀ j j',j<m→j'<m→slot j=slot j'→j=j') (hbinj:∀ k k',k<n→k'<n→bx k=bx k'→k=k') (hsb:∀ j k,j<m→k<n→slot j≠bx k)
  (hQ:∀ (u:Nat→Value) (g:Nat→Nat) (a:Act) (w:World),Bw W0 w→(∀ j,j<m→a.tmps[slot j]?=some (u j)∧V j w (u j)) →
   (∀ k,k<n→a.tmps[bx k]?=some (.pointer (some ⟨g k,0,none⟩))∧W0.heap.size≤g k∧∃ cs,u (vs k)=.agg cs∧w.heap[g k]?=some (.cells cs T (0,0))) →
   a.tmps.size=a0.tmps.size→a.defers=a0.defers→(∀ s,(∀ j,j<m→s≠slot j)→(∀ k,k<n→s≠bx k)→a.tmps[s]?=a0.tmps[s]?)→Q .normal a w) :
  (Code.region id ops true).wp P Q a0 W0:=by
 refine wp_region_any hm ?_
 refine wpAny_inv (ParZ W0 a0 m n slot bx vs T zs V) ?_ ?_ ops.size _ a0 _ (by simp) ?_ (by simp)
 ·-- a step
  intro listed a w i hl hI hr
  obtain⟨hun,o,ho,hall⟩:=mem_ready.1 hr
  have hunf:=not_listed hun
  have hio:i<ops.size:=(Array.getElem?_eq_some_iff.1 ho).1
  have hil:i<listed.size:=by omega
  have hset:=listed_set hil
  have hne:∀ x,x≠i→(listed.setIfInBounds i true).getD x false=listed.getD x false:=fun x hx=>getD_set_ne false (Ne.symm hx)
  have hpart:i<m∨(∃ k,k<n∧i=m+k)∨∃ k,k<n∧i=m+n+k:=by
   by_cases h1:i<m
   ·exact .inl h1
   ·by_cases h2:i<m+n
    ·exact .inr (.inl ⟨i - m,by omega,by omega⟩)
    ·exact .inr (.inr ⟨i - m - n,by omega,by omega⟩)
  rcases hpart with him|⟨k,hk,rfl⟩|⟨k,hk,rfl⟩
  ·refine wpOp_mono ?_ (hA i him a w hI.below hI.other fun j' hj'=>?_)
   ·rintro a' w' ⟨u,rfl,hu,hb⟩
    have hlt:slot i<a.tmps.size:=by rw[hI.size];exact hin i him
    refine⟨hI.below.trans (hb.mono hI.below.size),by rw[put_size];exact hI.size,by rw[put_defers];exact hI.defers,fun s h1 h2=>?_,fun j hj h1=>?_,fun k hk h1=>?_,fun k k' hk hk' hkk h1 h2=>?_,fun k hk h1=>?_⟩
    ·rw[put_get_ne (h1 i him)];exact hI.other s h1 h2
    ·by_cases e:j=i
     ·subst e;exact⟨u,put_get hlt,hu⟩
     ·rw[hne j e] at h1
      obtain⟨u',g1,g2⟩:=hI.val j hj h1
      exact⟨u',by rw[put_get_ne (fun e2=>e (hinj j i hj him e2))];exact g1,hV1 _ _ _ _ hb g2⟩
    ·rw[hne _ (by omega)] at h1
     obtain⟨g,cs,g1,g2,g3,g4,g5,g6⟩:=hI.box k hk h1
     refine⟨g,cs,by rw[put_get_ne (Ne.symm (hsb i k him hk))];exact g1,g2,(hb.block g (Array.getElem?_eq_some_iff.1 g3).1).trans g3,g4,fun h2=>?_,fun h2=>g6 (by rw[←hne (m+n+k) (by omega)];exact h2)⟩
     rw[hne _ (by omega)] at h2
     have h3:=(hI.stored k hk h2).2
     have h4:vs k≠i:=fun e=>by rw[e,hunf] at h3;cases h3
     rw[put_get_ne (fun e2=>h4 (hinj _ _ (hst k hk).1 him e2))]
     exact g5 h2
    ·rw[hne _ (by omega)] at h1 h2
     rw[put_get_ne (Ne.symm (hsb i k him hk)),put_get_ne (Ne.symm (hsb i k' him hk'))]
     exact hI.apart k k' hk hk' hkk h1 h2
    ·rw[hne _ (by omega)] at h1
     obtain⟨h2,h3⟩:=hI.stored k hk h1
     exact⟨by rw[hne _ (by omega)];exact h2,getD_set_true h3⟩
   ·obtain⟨h1,h2⟩:=hdep i him j' hj'
    obtain⟨e,he,rfl,hbd⟩:=h2 o ho
    exact hI.val _ h1 (hall e he hbd)
  ·obtain⟨o',ho',hg,hop,hd⟩:=hal k hk
   refine step_alloc ho' hg hop hz ?_
   rw[hd]
   have hlt:bx k<a.tmps.size:=by rw[hI.size];exact hbin k hk
   have hbw:Below w.heap.size w (w.alloc (.cells zs T)):=(Below.refl _ _).alloc (Nat.le_refl _) _
   refine⟨hI.below.trans (hbw.mono hI.below.size),by rw[put_size];exact hI.size,by rw[put_defers];exact hI.defers,fun s h1 h2=>?_,fun j hj h1=>?_,fun k1 hk1 h1=>?_,fun k1 k2 hk1 hk2 hkk h1 h2=>?_,fun k1 hk1 h1=>?_⟩
   ·rw[put_get_ne (h2 k hk)];exact hI.other s h1 h2
   ·rw[hne j (by omega)] at h1
    obtain⟨u',g1,g2⟩:=hI.val j hj h1
    exact⟨u',by rw[put_get_ne (hsb j k hj hk)];exact g1,hV1 _ _ _ _ hbw g2⟩
   ·by_cases e:k1=k
    ·subst e
     refine⟨w.heap.size,zs,put_get hlt,hI.below.size,heap_alloc_new _ _,rfl,fun h2=>?_,fun _=>rfl⟩
     rw[hne _ (by omega)] at h2
     have:=(hI.stored k1 hk h2).1
     rw[hunf] at this
     cases this
    ·rw[hne _ (by omega)] at h1
     obtain⟨g,cs,g1,g2,g3,g4,g5,g6⟩:=hI.box k1 hk1 h1
     refine⟨g,cs,by rw[put_get_ne (fun e2=>e (hbinj _ _ hk1 hk e2))];exact g1,g2,(hbw.block g (Array.getElem?_eq_some_iff.1 g3).1).trans g3,g4,fun h2=>?_,fun h2=>g6 (by rw[←hne (m+n+k1) (by omega)];exact h2)⟩
     rw[hne _ (by omega)] at h2
     rw[put_get_ne (hsb _ k (hst k1 hk1).1 hk)]
     exact g5 h2
   ·have old:∀ k1,k1<n→k1≠k→listed.getD (m+k1) false=true→a.tmps[bx k1]?≠some (.pointer (some ⟨w.heap.size,0,none⟩)):=fun k1 hk1 e h1 h2=>by
     obtain⟨g,cs,g1,g2,g3,g4,g5,g6⟩:=hI.box k1 hk1 h1
     have hlt:=(Array.getElem?_eq_some_iff.1 g3).1
     rw[g1] at h2
     simp only[Option.some.injEq,Value.pointer.injEq,Addr.mk.injEq] at h2
     omega
    by_cases e1:k1=k
    ·subst e1
     rw[hne _ (by omega)] at h2
     rw[put_get hlt,put_get_ne (fun e2=>hkk (hbinj _ _ hk hk2 e2.symm))]
     exact Ne.symm (old k2 hk2 (Ne.symm hkk) h2)
    ·rw[hne _ (by omega)] at h1
     by_cases e2:k2=k
     ·subst e2
      rw[put_get hlt,put_get_ne (fun e2=>e1 (hbinj _ _ hk1 hk e2))]
      exact old k1 hk1 e1 h1
     ·rw[hne _ (by omega)] at h2
      rw[put_get_ne (fun e3=>e1 (hbinj _ _ hk1 hk e3)),put_get_ne (fun e3=>e2 (hbinj _ _ hk2 hk e3))]
      exact hI.apart k1 k2 hk1 hk2 hkk h1 h2
   ·rw[hne _ (by omega)] at h1
    obtain⟨h2,h3⟩:=hI.stored k1 hk1 h1
    exact⟨getD_set_true h2,getD_set_true h3⟩
  ·obtain⟨hvm,o',ho',hg,hop,hd,⟨e1,he1,hon1,hb1⟩,e2,he2,hon2,hb2⟩:=hst k hk
   obtain rfl:o'=o:=Option.some.inj (ho'.symm.trans ho)
   have l1:=hall e1 he1 hb1
   have l2:=hall e2 he2 hb2
   rw[hon1] at l1
   rw[hon2] at l2
   obtain⟨u,hu1,hu2⟩:=hI.val _ hvm l2
   obtain⟨cs,rfl,hc1,hc2⟩:=hVs k hk w u hu2
   obtain⟨g,old,g1,g2,g3,g4,g5,g6⟩:=hI.box k hk l1
   rw[g6 hunf] at g3 g4
   refine step_store ho' hg hop g1 hu1 g3 (by rw[hc1];exact hi) (by omega) hc2 ?_
   rw[hd]
   show ParZ W0 a0 m n slot bx vs T zs V _ a _
   refine⟨below_row hI.below g2 _,hI.size,hI.defers,hI.other,fun j hj h1=>?_,fun k1 hk1 h1=>?_,fun k1 k2 hk1 hk2 hkk h1 h2=>?_,fun k1 hk1 h1=>?_⟩
   ·rw[hne j (by omega)] at h1
    obtain⟨u',q1,q2⟩:=hI.val j hj h1
    exact⟨u',q1,hV2 _ _ _ _ _ g3 q2⟩
   ·rw[hne _ (by omega)] at h1
    by_cases e:k1=k
    ·subst e
     exact⟨g,cs,g1,g2,setRow_heap w g _ cs T _ g3,hc1,fun _=>hu1,fun h2=>by rw[hset] at h2;cases h2⟩
    ·obtain⟨g',cs',q1,q2,q3,q4,q5,q6⟩:=hI.box k1 hk1 h1
     have hgg:g'≠g:=fun e2=>by
      subst e2
      exact hI.apart k1 k hk1 hk e h1 l1 (q1.trans g1.symm)
     refine⟨g',cs',q1,q2,(setRow_other w g g' cs hgg).trans q3,q4,fun h2=>?_,fun h2=>q6 (by rw[←hne (m+n+k1) (by omega)];exact h2)⟩
     rw[hne _ (by omega)] at h2
     exact q5 h2
   ·rw[hne _ (by omega)] at h1 h2
    exact hI.apart k1 k2 hk1 hk2 hkk h1 h2
   ·by_cases e:k1=k
    ·subst e
     exact⟨getD_set_true l1,getD_set_true l2⟩
    ·rw[hne _ (by omega)] at h1
     obtain⟨h2,h3⟩:=hI.stored k1 hk1 h1
     exact⟨getD_set_true h2,getD_set_true h3⟩
 ·-- the end: all have come up
  intro listed a w hl hI hr
  have hfull:∀ i,i<ops.size→listed.getD i false=true:=by
   intro i
   induction i using Nat.strongRecOn with
   | _ i ih =>
    intro hi
    cases hx:listed.getD i false with
    | true=>rfl
    | false =>
     exfalso
     have ho:ops[i]?=some ops[i]:=Array.getElem?_eq_getElem hi
     have:i ∈ Region.ready .any ops listed:=by
      refine mem_ready.2 ⟨?_,ops[i],ho,fun e he _=>ih e.on (hord i _ ho e he) (Nat.lt_trans (hord i _ ho e he) hi)⟩
      have hil:i<listed.size:=by omega
      simp only[Array.getD_eq_getD_getElem?,Array.getElem?_eq_getElem hil,Option.getD_some] at hx ⊢
      exact hx
     rw[hr] at this
     cases this
  have hval:∀ j,∃ u,j<m→a.tmps[slot j]?=some u∧V j w u:=fun j=>by
   by_cases hj:j<m
   ·obtain⟨u,h1,h2⟩:=hI.val j hj (hfull j (by omega))
    exact⟨u,fun _=>⟨h1,h2⟩⟩
   ·exact⟨undef,fun h=>absurd h hj⟩
  obtain⟨u,hu⟩:=Classical.axiomOfChoice hval
  have hbox:∀ k,∃ g,k<n→a.tmps[bx k]?=some (.pointer (some ⟨g,0,none⟩))∧W0.heap.size≤g∧∃ cs,u (vs k)=.agg cs∧w.heap[g]?=some (.cells cs T (0,0)):=fun k=>by
   by_cases hk:k<n
   ·obtain⟨g,cs,h1,h2,h3,h4,h5,-⟩:=hI.box k hk (hfull _ (by omega))
    refine⟨g,fun _=>⟨h1,h2,cs,?_,h3⟩⟩
    have h6:=h5 (hfull _ (by omega))
    rw[(hu _ (hst k hk).1).1] at h6
    exact Option.some.inj h6
   ·exact⟨0,fun h=>absurd h hk⟩
  obtain⟨g,hg⟩:=Classical.axiomOfChoice hbox
  exact hQ u g a w hI.below hu hg hI.size hI.defers hI.other
 ·-- the start
  have h0:∀ x,(Array.replicate ops.size false).getD x false=true→False:=fun x h=>by
   simp[Array.getD_eq_getD_getElem?,Array.getElem?_replicate] at h
   split at h <;> simp at h
  exact⟨(Below.refl _ _).drew,rfl,rfl,fun _ _ _=>rfl,fun j _ h=>(h0 _ h).elim,fun k _ h=>(h0 _ h).elim,fun k k' _ _ _ h=>(h0 _ h).elim,fun k _ h=>(h0 _ h).elim⟩
end Go.Proofs.YtjiolfnchiioaaaGreatDoor
/- Floats in order: not above, the lesser and the greater of two; intervals that may be. -/
namespace Go.Fl64
def le (a b:Nat):Bool := !isNaN a && !isNaN b&&decide (stp a≤stp b)
theorem ord_le (a b:Nat) (ha:a<18446744073709551616) (hb:b<18446744073709551616):(FloatKind.f64.format.order a b==some Ordering.lt||FloatKind.f64.format.order a b==some Ordering.eq)=le a b:=by
 rw[ord_lt a b ha hb,ord_eq a b ha hb]
 unfold lt eq le
 cases isNaN a <;> cases isNaN b <;> simp
 rw[←Bool.decide_or]
 exact decide_eq_decide.2 (by omega)
theorem ord_ne (a b:Nat) (ha:a<18446744073709551616) (hb:b<18446744073709551616):(FloatKind.f64.format.order a b != some Ordering.eq) = !eq a b:=by
 rw[←ord_eq a b ha hb];rfl
def fMin (x y:Nat):Nat:=if stp x<stp y then x else if stp y<stp x then y else if neg x then x else y
def fMax (x y:Nat):Nat:=if stp x<stp y then y else if stp y<stp x then x else if neg x then y else x
theorem dec_neg (a:Nat) (h:a<18446744073709551616) (n:isNaN a=false):(FloatKind.f64.decode a).neg=neg a:=by
 unfold FloatKind.decode
 rw[f64]
 have n':¬ 9218868437227405312<mag a:=of_decide_eq_false n
 by_cases f:mag a<9218868437227405312
 ·obtain⟨m,k,e,_⟩:=read_number a h f
  rw[e];rfl
 ·rw[read_infinity a h (by omega)];rfl
theorem run_fmin {P:Program} (w:World) (ts:Array TypeId) (t:TypeId) (x y:Nat) (hx:x<18446744073709551616) (hy:y<18446744073709551616) (nx:isNaN x=false) (ny:isNaN y=false) :
  (Builtin.min_ ts t #[.float .f64 x,.float .f64 y]).run P w=.ok (.float .f64 (fMin x y)) w:=by
 have ho:=order_num x y hx hy nx ny
 have hd:=dec_neg x hx nx
 rw[←f64] at ho
 unfold fMin
 rcases Int.lt_trichotomy (stp x) (stp y)with h|h|h
 ·rw[cmp_lt h] at ho
  rw[if_pos h]
  simp[Builtin.min_,Builtin.min2,ho]
 ·rw[cmp_eq h] at ho
  rw[if_neg (by omega),if_neg (by omega)]
  simp[Builtin.min_,Builtin.min2,ho,hd]
 ·rw[cmp_gt h] at ho
  rw[if_neg (by omega),if_pos h]
  simp[Builtin.min_,Builtin.min2,ho]
theorem run_fmax {P:Program} (w:World) (ts:Array TypeId) (t:TypeId) (x y:Nat) (hx:x<18446744073709551616) (hy:y<18446744073709551616) (nx:isNaN x=false) (ny:isNaN y=false) :
  (Builtin.max_ ts t #[.float .f64 x,.float .f64 y]).run P w=.ok (.float .f64 (fMax x y)) w:=by
 have ho:=order_num x y hx hy nx ny
 have hd:=dec_neg x hx nx
 rw[←f64] at ho
 unfold fMax
 rcases Int.lt_trichotomy (stp x) (stp y)with h|h|h
 ·rw[cmp_lt h] at ho
  rw[if_pos h]
  simp[Builtin.max_,Builtin.max2,ho]
 ·rw[cmp_eq h] at ho
  rw[if_neg (by omega),if_neg (by omega)]
  simp[Builtin.max_,Builtin.max2,ho,hd]
 ·rw[cmp_gt h] at ho
  rw[if_neg (by omega),if_pos h]
  simp[Builtin.max_,Builtin.max2,ho]
theorem fMin_or (x y:Nat):fMin x y=x∨fMin x y=y:=by
 unfold fMin
 split
 ·exact .inl rfl
 ·split
  ·exact .inr rfl
  ·split
   ·exact .inl rfl
   ·exact .inr rfl
theorem fMax_or (x y:Nat):fMax x y=x∨fMax x y=y:=by
 unfold fMax
 split
 ·exact .inr rfl
 ·split
  ·exact .inl rfl
  ·split
   ·exact .inr rfl
   ·exact .inl rfl
theorem fMin_lt {x y:Nat} (hx:x<18446744073709551616) (hy:y<18446744073709551616):fMin x y<18446744073709551616:=by
 rcases fMin_or x y with h|h <;> rw[h] <;> assumption
theorem fMax_lt {x y:Nat} (hx:x<18446744073709551616) (hy:y<18446744073709551616):fMax x y<18446744073709551616:=by
 rcases fMax_or x y with h|h <;> rw[h] <;> assumption
theorem fMin_nn {x y:Nat} (hx:isNaN x=false) (hy:isNaN y=false):isNaN (fMin x y)=false:=by
 rcases fMin_or x y with h|h <;> rw[h] <;> assumption
theorem fMax_nn {x y:Nat} (hx:isNaN x=false) (hy:isNaN y=false):isNaN (fMax x y)=false:=by
 rcases fMax_or x y with h|h <;> rw[h] <;> assumption
theorem fMax_stp (x y:Nat):stp (fMax x y)=max (stp x) (stp y):=by
 unfold fMax
 split
 ·omega
 ·split
  ·omega
  ·split <;> omega
def pl (a:Nat):Nat:=if a=9223372036854775808 then 0 else a
theorem pl_nan (a:Nat):isNaN (pl a)=isNaN a:=by
 unfold pl
 split
 ·rename_i h;rw[h];decide
 ·rfl
theorem stp_zero {a:Nat} (ha:a<18446744073709551616):stp a=0↔(a=0∨a=9223372036854775808):=by
 unfold stp sgn neg mag
 constructor
 ·intro h
  split at h <;> rename_i h1 <;> simp only[decide_eq_true_eq] at h1 <;> omega
 ·rintro(rfl|rfl) <;> decide
def vI (lo hi:Nat):Bool:=le lo hi&&lt lo 9218868437227405312&&lt 18442240474082181120 hi&&decide (lo≠9223372036854775808)&&decide (hi≠9223372036854775808)
theorem stp_inj {a b:Nat} (ha:a<18446744073709551616) (hb:b<18446744073709551616) (h:stp a=stp b) (h1:a≠9223372036854775808) (h2:b≠9223372036854775808):a=b:=by
 unfold stp sgn neg mag at h
 split at h <;> split at h <;> rename_i h3 h4 <;> simp only[decide_eq_true_eq] at h3 h4 <;> omega
end Go.Fl64
namespace Go.Proofs.YtjiolfnchiioaaaGreatDoor
open Go.RowKit Go.Fl64
theorem eq_zero (a:Nat) (ha:a<18446744073709551616):eq a 0=(decide (a=0)||decide (a=9223372036854775808)):=by
 rw[←Bool.decide_or]
 unfold eq
 rw[show isNaN 0=false from rfl]
 have h:=stp_zero ha
 rw[show stp 0=0 from rfl]
 by_cases h0:stp a=0
 ·have h1:=h.1 h0
  rw[decide_eq_true h0,decide_eq_true h1]
  rcases h1 with rfl|rfl <;> rfl
 ·rw[decide_eq_false h0,decide_eq_false fun h2=>h0 (h.2 h2),Bool.and_false]
theorem pmn (a:Nat) (ha:a<18446744073709551616) (w:World) :
  Calls Tryz.prog 46 #[.float .f64 a] w fun r w'=>r=.returned (.bool (decide (a=9223372036854775808)))∧w'=w:=by
 have k:=Ie.c33 a ha
 have e:=ord_eq a 0 ha (by omega)
 rw[eq_zero a ha] at e
 by_cases h:a=0∨a=9223372036854775808
 ·have e1:(FloatKind.f64.format.order a 0==some Ordering.eq)=true:=by
   rw[e,←Bool.decide_or];exact decide_eq_true h
  have e2:decide (a=9223372036854775808)=neg a:=by
   rcases h with rfl|rfl <;> rfl
  rw[e2]
  clear e e2 h
  go_enter Tryz.func46,Tryz.ntmps46
  go_wp2_with (first|(go_at_call 78;refine(k _).mono ?_;rintro r w' ⟨rfl,rfl⟩))
  go_ret
  exact⟨rfl,rfl⟩
 ·have e1:(FloatKind.f64.format.order a 0==some Ordering.eq)=false:=by
   rw[e,←Bool.decide_or];exact decide_eq_false h
  rw[decide_eq_false fun h1=>h (.inr h1)]
  clear e h
  go_enter Tryz.func46,Tryz.ntmps46
  go_wp2
  go_ret
  exact⟨rfl,rfl⟩
theorem ppl (a:Nat) (ha:a<18446744073709551616) (w:World) :
  Calls Tryz.prog 79 #[.float .f64 a] w fun r w'=>r=.returned (.float .f64 (pl a))∧w'=w:=by
 have e:=ord_eq a 0 ha (by omega)
 rw[eq_zero a ha] at e
 by_cases h:a=0∨a=9223372036854775808
 ·have e1:(FloatKind.f64.format.order a 0==some Ordering.eq)=true:=by
   rw[e,←Bool.decide_or];exact decide_eq_true h
  have e2:pl a=0:=by
   rcases h with rfl|rfl <;> rfl
  rw[e2]
  clear e e2 h
  go_enter Tryz.func79,Tryz.ntmps79
  go_wp2
  go_ret
  exact⟨rfl,rfl⟩
 ·have e1:(FloatKind.f64.format.order a 0==some Ordering.eq)=false:=by
   rw[e,←Bool.decide_or];exact decide_eq_false h
  have e2:pl a=a:=if_neg fun h1=>h (.inr h1)
  rw[e2]
  clear e e2 h
  go_enter Tryz.func79,Tryz.ntmps79
  go_wp2
  go_ret
  exact⟨rfl,rfl⟩
theorem box_cells2 {w:World} {g:Nat} {a b:Value} {T:TypeId} (h:w.heap[g]?=some (.cells #[a,b] T (0,0))):w.cell? ⟨g,0,none⟩=some a∧w.cell? ⟨g,1,none⟩=some b:=by
 simp[World.cell?,h]
theorem bdrewN {B:Nat} {a w:World} (h:Below B a w) (n:Nat):Below B a (w.drewN n):=h.trans ⟨rfl,rfl,rfl,Nat.le_refl _,fun _ _=>rfl⟩
theorem cinf_p (w:World):Calls Tryz.prog 34 #[.int .i64 1] w fun r w'=>r=.returned (.float .f64 9218868437227405312)∧w'=w:=by
 have hb:=Ie.run_frombits
 go_enter Tryz.func34,Tryz.ntmps34
 go_wp2
 go_ret
 exact⟨rfl,rfl⟩
theorem isinf_p (a:Nat) (ha:a<18446744073709551616) (w:World) :
  Calls Tryz.prog 38 #[.float .f64 a,.int .i64 1] w fun e w'=>e=.returned (.bool (lt 9218868437227405311 a))∧w'=w:=by
 have h:=ord_gt a 9218868437227405311 ha (by omega)
 have H:Hid ((FloatKind.f64.format.order a 9218868437227405311==some Ordering.gt)=lt 9218868437227405311 a):=h
 clear h
 go_enter Tryz.func38,Tryz.ntmps38
 go_wp2
 go_ret
 exact⟨congrArg Ending.returned (congrArg Value.bool H.out),rfl⟩
theorem run_negf8 (a:Nat) (w:World):(Op.unary .neg (.float .f64 a)).run Tryz.prog w=.ok (.float .f64 (Op.negFloat .f64 a)) w:=rfl
theorem isinf_m (a:Nat) (ha:a<18446744073709551616) (w:World) :
  Calls Tryz.prog 38 #[.float .f64 a,.int .i64 (-1)] w fun e w'=>e=.returned (.bool (lt 9218868437227405311 (ngt a)))∧w'=w:=by
 have kn:=run_negf8
 have h:=ord_gt (ngt a) 9218868437227405311 (ngt_lt ha) (by omega)
 have hn:=negF a ha
 generalize ngt a=b at *
 have H:Hid ((FloatKind.f64.format.order b 9218868437227405311==some Ordering.gt)=lt 9218868437227405311 b):=h
 clear h
 go_enter Tryz.func38,Tryz.ntmps38
 go_wp2
 go_ret
 refine⟨?_,rfl⟩
 rw[hn] at *
 exact congrArg Ending.returned (congrArg Value.bool H.out)
theorem ngt_stp {a:Nat} (ha:a<18446744073709551616):stp (ngt a) = - stp a:=by
 unfold stp
 rw[ngt_mag ha,ngt_neg ha]
 cases neg a <;> simp[sgn]
theorem ngt_nan8 {a:Nat} (ha:a<18446744073709551616):isNaN (ngt a)=isNaN a:=by
 unfold isNaN;rw[ngt_mag ha]
theorem nan_stp {a:Nat} (h:isNaN a=false) : -9218868437227405312≤stp a∧stp a≤9218868437227405312:=by
 have h':¬ 9218868437227405312<mag a:=of_decide_eq_false h
 unfold stp sgn
 split <;> omega
theorem vI_p (lo hi:Nat) (h1:lo<18446744073709551616) (h2:hi<18446744073709551616) :
  vI lo hi=(le lo hi && !(lt 9218868437227405311 lo||lt 9218868437227405311 (ngt hi))&&(!decide (lo=9223372036854775808) && !decide (hi=9223372036854775808))):=by
 unfold vI
 cases hl:le lo hi
 ·rfl
 ·unfold le at hl
  simp only[Bool.and_eq_true,Bool.not_eq_true',decide_eq_true_eq] at hl
  obtain⟨⟨n1,n2⟩,h3⟩:=hl
  have b1:=nan_stp n1
  have b2:=nan_stp n2
  have e1:lt lo 9218868437227405312 = !lt 9218868437227405311 lo:=by
   unfold lt
   rw[n1,show isNaN 9218868437227405312=false by decide,show isNaN 9218868437227405311=false by decide,show stp 9218868437227405312=9218868437227405312 by decide,show stp 9218868437227405311=9218868437227405311 by decide]
   rw[Bool.not_false,Bool.true_and,Bool.true_and,Bool.true_and,←decide_not]
   exact decide_eq_decide.2 (by omega)
  have e2:lt 18442240474082181120 hi = !lt 9218868437227405311 (ngt hi):=by
   unfold lt
   rw[ngt_nan8 h2,n2,ngt_stp h2,show isNaN 18442240474082181120=false by decide,show isNaN 9218868437227405311=false by decide,show stp 18442240474082181120 = -9218868437227405312 by decide,show stp 9218868437227405311=9218868437227405311 by decide]
   rw[Bool.not_false,Bool.true_and,Bool.true_and,Bool.true_and,←decide_not]
   exact decide_eq_decide.2 (by omega)
  rw[e1,e2]
  simp[Bool.and_assoc]
theorem pvalid_1 (lo hi:Nat) (w:World)
  (h:(FloatKind.f64.format.order lo hi==some Ordering.lt||FloatKind.f64.format.order lo hi==some Ordering.eq)=false) :
  Calls Tryz.prog 20 #[.agg #[.float .f64 lo,.float .f64 hi]] w fun r w'=>r=.returned (.bool false)∧Bw w w':=by
 go_enter Tryz.func20,Tryz.ntmps20
 go_wp2_with (first|fail)
 go_ret
 exact⟨rfl,(Below.refl _ _).alloc (Nat.le_refl _) _⟩
theorem pvalid_2 (lo hi:Nat) (w:World) (p q s:Bool)
  (h:(FloatKind.f64.format.order lo hi==some Ordering.lt||FloatKind.f64.format.order lo hi==some Ordering.eq)=true)
  (k1:∀ W,Calls Tryz.prog 38 #[.float .f64 lo,.int .i64 1] W fun e w'=>e=.returned (.bool true)∧w'=W)
  (k2:∀ W,Calls Tryz.prog 38 #[.float .f64 hi,.int .i64 (-1)] W fun e w'=>e=.returned (.bool p)∧w'=W)
  (k3:∀ W,Calls Tryz.prog 46 #[.float .f64 lo] W fun e w'=>e=.returned (.bool q)∧w'=W)
  (k4:∀ W,Calls Tryz.prog 46 #[.float .f64 hi] W fun e w'=>e=.returned (.bool s)∧w'=W) :
  Calls Tryz.prog 20 #[.agg #[.float .f64 lo,.float .f64 hi]] w fun r w'=>r=.returned (.bool false)∧Bw w w':=by
 go_enter Tryz.func20,Tryz.ntmps20
 go_wp2_with (first|(go_at_call 38;first|(with_reducible refine(k1 _).mono ?_;rintro r w' ⟨rfl,rfl⟩)|(with_reducible refine(k2 _).mono ?_;rintro r w' ⟨rfl,rfl⟩))|(go_at_call 46;first|(with_reducible refine(k3 _).mono ?_;rintro r w' ⟨rfl,rfl⟩)|(with_reducible refine(k4 _).mono ?_;rintro r w' ⟨rfl,rfl⟩)))
 go_ret
 exact⟨rfl,(Below.refl _ _).alloc (Nat.le_refl _) _⟩
theorem pvalid_3 (lo hi:Nat) (w:World) (q s:Bool)
  (h:(FloatKind.f64.format.order lo hi==some Ordering.lt||FloatKind.f64.format.order lo hi==some Ordering.eq)=true)
  (k1:∀ W,Calls Tryz.prog 38 #[.float .f64 lo,.int .i64 1] W fun e w'=>e=.returned (.bool false)∧w'=W)
  (k2:∀ W,Calls Tryz.prog 38 #[.float .f64 hi,.int .i64 (-1)] W fun e w'=>e=.returned (.bool true)∧w'=W)
  (k3:∀ W,Calls Tryz.prog 46 #[.float .f64 lo] W fun e w'=>e=.returned (.bool q)∧w'=W)
  (k4:∀ W,Calls Tryz.prog 46 #[.float .f64 hi] W fun e w'=>e=.returned (.bool s)∧w'=W) :
  Calls Tryz.prog 20 #[.agg #[.float .f64 lo,.float .f64 hi]] w fun r w'=>r=.returned (.bool false)∧Bw w w':=by
 go_enter Tryz.func20,Tryz.ntmps20
 go_wp2_with (first|(go_at_call 38;first|(with_reducible refine(k1 _).mono ?_;rintro r w' ⟨rfl,rfl⟩)|(with_reducible refine(k2 _).mono ?_;rintro r w' ⟨rfl,rfl⟩))|(go_at_call 46;first|(with_reducible refine(k3 _).mono ?_;rintro r w' ⟨rfl,rfl⟩)|(with_reducible refine(k4 _).mono ?_;rintro r w' ⟨rfl,rfl⟩)))
 go_ret
 exact⟨rfl,(Below.refl _ _).alloc (Nat.le_refl _) _⟩
theorem pvalid_4 (lo hi:Nat) (w:World) (s:Bool)
  (h:(FloatKind.f64.format.order lo hi==some Ordering.lt||FloatKind.f64.format.order lo hi==some Ordering.eq)=true)
  (k1:∀ W,Calls Tryz.prog 38 #[.float .f64 lo,.int .i64 1] W fun e w'=>e=.returned (.bool false)∧w'=W)
  (k2:∀ W,Calls Tryz.prog 38 #[.float .f64 hi,.int .i64 (-1)] W fun e w'=>e=.returned (.bool false)∧w'=W)
  (k3:∀ W,Calls Tryz.prog 46 #[.float .f64 lo] W fun e w'=>e=.returned (.bool true)∧w'=W)
  (k4:∀ W,Calls Tryz.prog 46 #[.float .f64 hi] W fun e w'=>e=.returned (.bool s)∧w'=W) :
  Calls Tryz.prog 20 #[.agg #[.float .f64 lo,.float .f64 hi]] w fun r w'=>r=.returned (.bool false)∧Bw w w':=by
 go_enter Tryz.func20,Tryz.ntmps20
 go_wp2_with (first|(go_at_call 38;first|(with_reducible refine(k1 _).mono ?_;rintro r w' ⟨rfl,rfl⟩)|(with_reducible refine(k2 _).mono ?_;rintro r w' ⟨rfl,rfl⟩))|(go_at_call 46;first|(with_reducible refine(k3 _).mono ?_;rintro r w' ⟨rfl,rfl⟩)|(with_reducible refine(k4 _).mono ?_;rintro r w' ⟨rfl,rfl⟩)))
 go_ret
 exact⟨rfl,(Below.refl _ _).alloc (Nat.le_refl _) _⟩
theorem pvalid_5 (lo hi:Nat) (w:World) (s:Bool)
  (h:(FloatKind.f64.format.order lo hi==some Ordering.lt||FloatKind.f64.format.order lo hi==some Ordering.eq)=true)
  (k1:∀ W,Calls Tryz.prog 38 #[.float .f64 lo,.int .i64 1] W fun e w'=>e=.returned (.bool false)∧w'=W)
  (k2:∀ W,Calls Tryz.prog 38 #[.float .f64 hi,.int .i64 (-1)] W fun e w'=>e=.returned (.bool false)∧w'=W)
  (k3:∀ W,Calls Tryz.prog 46 #[.float .f64 lo] W fun e w'=>e=.returned (.bool false)∧w'=W)
  (k4:∀ W,Calls Tryz.prog 46 #[.float .f64 hi] W fun e w'=>e=.returned (.bool s)∧w'=W) :
  Calls Tryz.prog 20 #[.agg #[.float .f64 lo,.float .f64 hi]] w fun r w'=>r=.returned (.bool (!s))∧Bw w w':=by
 go_enter Tryz.func20,Tryz.ntmps20
 go_wp2_with (first|(go_at_call 38;first|(with_reducible refine(k1 _).mono ?_;rintro r w' ⟨rfl,rfl⟩)|(with_reducible refine(k2 _).mono ?_;rintro r w' ⟨rfl,rfl⟩))|(go_at_call 46;first|(with_reducible refine(k3 _).mono ?_;rintro r w' ⟨rfl,rfl⟩)|(with_reducible refine(k4 _).mono ?_;rintro r w' ⟨rfl,rfl⟩)))
 go_ret
 exact⟨rfl,(Below.refl _ _).alloc (Nat.le_refl _) _⟩
theorem svalid (lo hi:Nat) (h1:lo<18446744073709551616) (h2:hi<18446744073709551616) (w:World) :
  Calls Tryz.prog 20 #[.agg #[.float .f64 lo,.float .f64 hi]] w fun r w'=>r=.returned (.bool (vI lo hi))∧Bw w w':=by
 have ho:=ord_le lo hi h1 h2
 rw[vI_p lo hi h1 h2]
 have k1:=isinf_p lo h1
 have k2:=isinf_m hi h2
 have k3:=pmn lo h1
 have k4:=pmn hi h2
 cases hl:le lo hi
 ·rw[hl] at ho
  exact pvalid_1 lo hi w ho
 ·rw[hl] at ho
  cases hp:lt 9218868437227405311 lo
  ·rw[hp] at k1
   cases hq:lt 9218868437227405311 (ngt hi)
   ·rw[hq] at k2
    cases hs:decide (lo=9223372036854775808)
    ·rw[hs] at k3
     exact pvalid_5 lo hi w _ ho k1 k2 k3 k4
    ·rw[hs] at k3
     exact pvalid_4 lo hi w _ ho k1 k2 k3 k4
   ·rw[hq] at k2
    exact pvalid_3 lo hi w _ _ ho k1 k2 k3 k4
  ·rw[hp] at k1
   exact pvalid_2 lo hi w _ _ _ ho k1 k2 k3 k4
theorem dclean (a:Nat) (ha:a<18446744073709551616) (w:World) :
  Calls Tryz.prog 48 #[.float .f64 a] w fun r w'=>r=.returned (.bool (!decide (a=9223372036854775808)))∧w'=w:=by
 have k:=Ie.c33 a ha
 have e:=ord_ne a 0 ha (by omega)
 rw[eq_zero a ha] at e
 by_cases h:a=0∨a=9223372036854775808
 ·have e1:(FloatKind.f64.format.order a 0 != some Ordering.eq)=false:=by
   rw[e,←Bool.decide_or,decide_eq_true h];rfl
  have e2:decide (a=9223372036854775808)=neg a:=by
   rcases h with rfl|rfl <;> rfl
  rw[e2]
  clear e e2 h
  go_enter Tryz.func48,Tryz.ntmps48
  go_wp2_with (first|(go_at_call 78;refine(k _).mono ?_;rintro r w' ⟨rfl,rfl⟩))
  go_ret
  exact⟨rfl,rfl⟩
 ·have e1:(FloatKind.f64.format.order a 0 != some Ordering.eq)=true:=by
   rw[e,←Bool.decide_or,decide_eq_false h];rfl
  rw[decide_eq_false fun h1=>h (.inr h1)]
  clear e h
  go_enter Tryz.func48,Tryz.ntmps48
  go_wp2
  go_ret
  exact⟨rfl,rfl⟩
theorem dvalid_1 (lo hi:Nat) (w:World) (p q r s:Bool)
  (o1:(FloatKind.f64.format.order lo hi==some Ordering.lt||FloatKind.f64.format.order lo hi==some Ordering.eq)=false)
  (o2:(FloatKind.f64.format.order lo 9218868437227405312==some Ordering.lt)=p)
  (o3:(FloatKind.f64.format.order hi 18442240474082181120==some Ordering.gt)=q)
  (k3:∀ W,Calls Tryz.prog 48 #[.float .f64 lo] W fun e w'=>e=.returned (.bool r)∧w'=W)
  (k4:∀ W,Calls Tryz.prog 48 #[.float .f64 hi] W fun e w'=>e=.returned (.bool s)∧w'=W) :
  Calls Tryz.prog 22 #[.agg #[.float .f64 lo,.float .f64 hi]] w fun r w'=>r=.returned (.bool false)∧Bw w w':=by
 obtain⟨W,hW⟩:∃ W,W=w.alloc (.cells #[.float .f64 lo,.float .f64 hi] 24):=⟨_,rfl⟩
 have HX:Hid (Bw w W):=by rw[hW];exact(Below.refl _ _).alloc (Nat.le_refl _) _
 have hcl:W.cell? ⟨w.heap.size,0,none⟩=some (.float .f64 lo)∧W.cell? ⟨w.heap.size,1,none⟩=some (.float .f64 hi):=by rw[hW];exact box_cells2 (heap_alloc_new _ _)
 obtain⟨c0,c1⟩:=hcl
 go_enter Tryz.func22,Tryz.ntmps22
 go_upto_region 1 with fail
 rw[←hW]
 clear hW
 go_quiet (first|(go_at_call 34;first|(with_reducible refine Calls.quiet_of_same (cinf_p _))|(with_reducible refine Calls.quiet_of_same (cinf_m _)))|(go_at_call 48;first|(with_reducible refine Calls.quiet_of_same (k3 _))|(with_reducible refine Calls.quiet_of_same (k4 _))))
 go_wp2
 go_ret
 exact⟨rfl,bdrewN HX.out _⟩
theorem dvalid_2 (lo hi:Nat) (w:World) (q r s:Bool)
  (o1:(FloatKind.f64.format.order lo hi==some Ordering.lt||FloatKind.f64.format.order lo hi==some Ordering.eq)=true)
  (o2:(FloatKind.f64.format.order lo 9218868437227405312==some Ordering.lt)=false)
  (o3:(FloatKind.f64.format.order hi 18442240474082181120==some Ordering.gt)=q)
  (k3:∀ W,Calls Tryz.prog 48 #[.float .f64 lo] W fun e w'=>e=.returned (.bool r)∧w'=W)
  (k4:∀ W,Calls Tryz.prog 48 #[.float .f64 hi] W fun e w'=>e=.returned (.bool s)∧w'=W) :
  Calls Tryz.prog 22 #[.agg #[.float .f64 lo,.float .f64 hi]] w fun r w'=>r=.returned (.bool false)∧Bw w w':=by
 obtain⟨W,hW⟩:∃ W,W=w.alloc (.cells #[.float .f64 lo,.float .f64 hi] 24):=⟨_,rfl⟩
 have HX:Hid (Bw w W):=by rw[hW];exact(Below.refl _ _).alloc (Nat.le_refl _) _
 have hcl:W.cell? ⟨w.heap.size,0,none⟩=some (.float .f64 lo)∧W.cell? ⟨w.heap.size,1,none⟩=some (.float .f64 hi):=by rw[hW];exact box_cells2 (heap_alloc_new _ _)
 obtain⟨c0,c1⟩:=hcl
 go_enter Tryz.func22,Tryz.ntmps22
 go_upto_region 1 with fail
 rw[←hW]
 clear hW
 go_quiet (first|(go_at_call 34;first|(with_reducible refine Calls.quiet_of_same (cinf_p _))|(with_reducible refine Calls.quiet_of_same (cinf_m _)))|(go_at_call 48;first|(with_reducible refine Calls.quiet_of_same (k3 _))|(with_reducible refine Calls.quiet_of_same (k4 _))))
 go_wp2
 go_ret
 exact⟨rfl,bdrewN HX.out _⟩
theorem dvalid_3 (lo hi:Nat) (w:World) (r s:Bool)
  (o1:(FloatKind.f64.format.order lo hi==some Ordering.lt||FloatKind.f64.format.order lo hi==some Ordering.eq)=true)
  (o2:(FloatKind.f64.format.order lo 9218868437227405312==some Ordering.lt)=true)
  (o3:(FloatKind.f64.format.order hi 18442240474082181120==some Ordering.gt)=false)
  (k3:∀ W,Calls Tryz.prog 48 #[.float .f64 lo] W fun e w'=>e=.returned (.bool r)∧w'=W)
  (k4:∀ W,Calls Tryz.prog 48 #[.float .f64 hi] W fun e w'=>e=.returned (.bool s)∧w'=W) :
  Calls Tryz.prog 22 #[.agg #[.float .f64 lo,.float .f64 hi]] w fun r w'=>r=.returned (.bool false)∧Bw w w':=by
 obtain⟨W,hW⟩:∃ W,W=w.alloc (.cells #[.float .f64 lo,.float .f64 hi] 24):=⟨_,rfl⟩
 have HX:Hid (Bw w W):=by rw[hW];exact(Below.refl _ _).alloc (Nat.le_refl _) _
 have hcl:W.cell? ⟨w.heap.size,0,none⟩=some (.float .f64 lo)∧W.cell? ⟨w.heap.size,1,none⟩=some (.float .f64 hi):=by rw[hW];exact box_cells2 (heap_alloc_new _ _)
 obtain⟨c0,c1⟩:=hcl
 go_enter Tryz.func22,Tryz.ntmps22
 go_upto_region 1 with fail
 rw[←hW]
 clear hW
 go_quiet (first|(go_at_call 34;first|(with_reducible refine Calls.quiet_of_same (cinf_p _))|(with_reducible refine Calls.quiet_of_same (cinf_m _)))|(go_at_call 48;first|(with_reducible refine Calls.quiet_of_same (k3 _))|(with_reducible refine Calls.quiet_of_same (k4 _))))
 go_wp2
 go_ret
 exact⟨rfl,bdrewN HX.out _⟩
theorem dvalid_4 (lo hi:Nat) (w:World) (s:Bool)
  (o1:(FloatKind.f64.format.order lo hi==some Ordering.lt||FloatKind.f64.format.order lo hi==some Ordering.eq)=true)
  (o2:(FloatKind.f64.format.order lo 9218868437227405312==some Ordering.lt)=true)
  (o3:(FloatKind.f64.format.order hi 18442240474082181120==some Ordering.gt)=true)
  (k3:∀ W,Calls Tryz.prog 48 #[.float .f64 lo] W fun e w'=>e=.returned (.bool false)∧w'=W)
  (k4:∀ W,Calls Tryz.prog 48 #[.float .f64 hi] W fun e w'=>e=.returned (.bool s)∧w'=W) :
  Calls Tryz.prog 22 #[.agg #[.float .f64 lo,.float .f64 hi]] w fun r w'=>r=.returned (.bool false)∧Bw w w':=by
 obtain⟨W,hW⟩:∃ W,W=w.alloc (.cells #[.float .f64 lo,.float .f64 hi] 24):=⟨_,rfl⟩
 have HX:Hid (Bw w W):=by rw[hW];exact(Below.refl _ _).alloc (Nat.le_refl _) _
 have hcl:W.cell? ⟨w.heap.size,0,none⟩=some (.float .f64 lo)∧W.cell? ⟨w.heap.size,1,none⟩=some (.float .f64 hi):=by rw[hW];exact box_cells2 (heap_alloc_new _ _)
 obtain⟨c0,c1⟩:=hcl
 go_enter Tryz.func22,Tryz.ntmps22
 go_upto_region 1 with fail
 rw[←hW]
 clear hW
 go_quiet (first|(go_at_call 34;first|(with_reducible refine Calls.quiet_of_same (cinf_p _))|(with_reducible refine Calls.quiet_of_same (cinf_m _)))|(go_at_call 48;first|(with_reducible refine Calls.quiet_of_same (k3 _))|(with_reducible refine Calls.quiet_of_same (k4 _))))
 go_wp2
 go_ret
 exact⟨rfl,bdrewN HX.out _⟩
theorem dvalid_5 (lo hi:Nat) (w:World) (s:Bool)
  (o1:(FloatKind.f64.format.order lo hi==some Ordering.lt||FloatKind.f64.format.order lo hi==some Ordering.eq)=true)
  (o2:(FloatKind.f64.format.order lo 9218868437227405312==some Ordering.lt)=true)
  (o3:(FloatKind.f64.format.order hi 18442240474082181120==some Ordering.gt)=true)
  (k3:∀ W,Calls Tryz.prog 48 #[.float .f64 lo] W fun e w'=>e=.returned (.bool true)∧w'=W)
  (k4:∀ W,Calls Tryz.prog 48 #[.float .f64 hi] W fun e w'=>e=.returned (.bool s)∧w'=W) :
  Calls Tryz.prog 22 #[.agg #[.float .f64 lo,.float .f64 hi]] w fun r w'=>r=.returned (.bool s)∧Bw w w':=by
 obtain⟨W,hW⟩:∃ W,W=w.alloc (.cells #[.float .f64 lo,.float .f64 hi] 24):=⟨_,rfl⟩
 have HX:Hid (Bw w W):=by rw[hW];exact(Below.refl _ _).alloc (Nat.le_refl _) _
 have hcl:W.cell? ⟨w.heap.size,0,none⟩=some (.float .f64 lo)∧W.cell? ⟨w.heap.size,1,none⟩=some (.float .f64 hi):=by rw[hW];exact box_cells2 (heap_alloc_new _ _)
 obtain⟨c0,c1⟩:=hcl
 go_enter Tryz.func22,Tryz.ntmps22
 go_upto_region 1 with fail
 rw[←hW]
 clear hW
 go_quiet (first|(go_at_call 34;first|(with_reducible refine Calls.quiet_of_same (cinf_p _))|(with_reducible refine Calls.quiet_of_same (cinf_m _)))|(go_at_call 48;first|(with_reducible refine Calls.quiet_of_same (k3 _))|(with_reducible refine Calls.quiet_of_same (k4 _))))
 go_wp2
 go_ret
 exact⟨rfl,bdrewN HX.out _⟩
theorem d8valid (lo hi:Nat) (h1:lo<18446744073709551616) (h2:hi<18446744073709551616) (w:World) :
  Calls Tryz.prog 22 #[.agg #[.float .f64 lo,.float .f64 hi]] w fun r w'=>r=.returned (.bool (vI lo hi))∧Bw w w':=by
 have o1:=ord_le lo hi h1 h2
 have o2:=ord_lt lo 9218868437227405312 h1 (by omega)
 have o3:=ord_gt hi 18442240474082181120 h2 (by omega)
 have k3:=dclean lo h1
 have k4:=dclean hi h2
 unfold vI
 rw[decide_not,decide_not]
 cases hl:le lo hi
 ·rw[hl] at o1
  exact dvalid_1 lo hi w _ _ _ _ o1 o2 o3 k3 k4
 ·rw[hl] at o1
  cases hp:lt lo 9218868437227405312
  ·rw[hp] at o2
   exact dvalid_2 lo hi w _ _ _ o1 o2 o3 k3 k4
  ·rw[hp] at o2
   cases hq:lt 18442240474082181120 hi
   ·rw[hq] at o3
    exact dvalid_3 lo hi w _ _ o1 o2 o3 k3 k4
   ·rw[hq] at o3
    cases hs:decide (lo=9223372036854775808)
    ·rw[hs] at k3
     exact dvalid_5 lo hi w _ o1 o2 o3 k3 k4
    ·rw[hs] at k3
     exact dvalid_4 lo hi w _ o1 o2 o3 k3 k4
theorem run_store_flt (P:Program) (w:World) (a:Addr) (m:Mode) (k:FloatKind) (n:Nat):(store a (.float k n) m).run P w=stored P w a (.float k n) m:=run_store P w a _ m rfl
attribute [local go_sem] run_store_flt
theorem smaybe_1 (g k:Nat) (lo hi:Nat→Nat) (w:World) (hk:k≤3)
  (h0:∀ i,i<k→w.cell? ⟨g,i*2,none⟩=some (.float .f64 (lo i))) (h1:∀ i,i<k→w.cell? ⟨g,i*2+1,none⟩=some (.float .f64 (hi i)))
  (b0:∀ i,lo i<18446744073709551616) (b1:∀ i,hi i<18446744073709551616) :
  Calls Tryz.prog 29 #[.slice (some ⟨g,0,none⟩) k k] w fun r w'=>r=.returned (.bool (decide (∀ i,i<k→vI (lo i) (hi i)=true)))∧Bw w w':=by
 generalize hans:decide (∀ i,i<k→vI (lo i) (hi i)=true)=ans
 have HA:Hid (ans=decide (∀ i,i<k→vI (lo i) (hi i)=true)):=hans.symm
 clear hans
 go_enter Tryz.func29,Tryz.ntmps29
 go_wp2
 go_loopw [7] (fun i wr=>∃ j:Nat,j≤k∧i=.int .i64 j∧Hid (Bw w wr)∧Hid (∀ i,i<j→vI (lo i) (hi i)=true)) (fun i _=>k - (intOf i).toNat)
 case atStart=>exact⟨0,Nat.zero_le _,rfl,Below.refl _ _,(fun i hi'=>absurd hi' (Nat.not_lt_zero _):∀ i,i<0→vI (lo i) (hi i)=true)⟩
 case round =>
  obtain⟨j,hj,rfl,hB,hok⟩:=hrel
  by_cases hjk:j<k
  ·have a0:wr.cell? ⟨g,j*2,none⟩=some (.float .f64 (lo j)):=(hB.out.cell (World.block_lt_of_cell? _ _ (h0 j hjk))).trans (h0 j hjk)
   have a1:wr.cell? ⟨g,j*2+1,none⟩=some (.float .f64 (hi j)):=(hB.out.cell (World.block_lt_of_cell? _ _ (h1 j hjk))).trans (h1 j hjk)
   have hg:g<wr.heap.size:=World.block_lt_of_cell? _ _ a0
   have hji:(j:Int)<(k:Int):=by omega
   clear h0 h1
   have k18:=svalid (lo j) (hi j) (b0 j) (b1 j) (wr.alloc (.cells #[.float .f64 (lo j),.float .f64 (hi j)] 24))
   generalize hokj:vI (lo j) (hi j)=okj at *
   have HOK:Hid (vI (lo j) (hi j)=okj):=hokj
   clear hokj b0 b1
   go_wp2_with fail
   refine k18.mono ?_
   rintro r w1 ⟨rfl,hw1⟩
   have HB1:Hid (Bw w w1):=(hB.out.alloc hB.out.size _).trans (hw1.mono (by have:=hB.out.size;simp;omega))
   clear hw1 k18
   cases okj
   ·go_wp2
    go_ret
    refine⟨congrArg Ending.returned (congrArg Value.bool ?_),HB1.out⟩
    rw[HA.out,decide_eq_false]
    intro h
    have:=h j hjk
    rw[HOK.out] at this
    exact absurd this (by decide)
   ·go_wp2
    exact⟨⟨j+1,by omega,by simp,HB1,(fun i hi'=>by
     by_cases e1:i=j
     ·subst e1;exact HOK.out
     ·exact hok.out i (by omega):∀ i,i<j+1→vI (lo i) (hi i)=true)⟩,by simp[intOf];omega⟩
  ·obtain rfl:j=k:=by omega
   clear h0 h1
   go_wp2
   go_ret
   refine⟨congrArg Ending.returned (congrArg Value.bool ?_),hB.out⟩
   rw[HA.out,decide_eq_true hok.out]
theorem box_cells_2x2 {w:World} {g:Nat} {a b c d:Value} {T:TypeId} (h:w.heap[g]?=some (.cells #[a,b,c,d] T (0,0))):w.cell? ⟨g,0,none⟩=some a∧w.cell? ⟨g,1,none⟩=some b∧w.cell? ⟨g,2,none⟩=some c∧w.cell? ⟨g,3,none⟩=some d:=by
 simp[World.cell?,h]
theorem smaybe {a b c d g:Nat} {T:TypeId} {w:World} (h:w.heap[g]?=some (.cells #[.float .f64 a,.float .f64 b,.float .f64 c,.float .f64 d] T (0,0)))
  (ha:a<18446744073709551616) (hb:b<18446744073709551616) (hc:c<18446744073709551616) (hd:d<18446744073709551616) :
  Calls Tryz.prog 29 #[.slice (some ⟨g,0,none⟩) 2 2] w fun r w'=>r=.returned (.bool (vI a b&&vI c d))∧Bw w w':=by
 obtain⟨x0,x1,x2,x3⟩:=box_cells_2x2 h
 have k:=smaybe_1 g 2 (fun i=>if i=0 then a else c) (fun i=>if i=0 then b else d) w (by omega)
  (fun i hi=>by rcases(show i=0∨i=1 by omega)with rfl|rfl;exact x0;exact x2)
  (fun i hi=>by rcases(show i=0∨i=1 by omega)with rfl|rfl;exact x1;exact x3)
  (fun i=>by split <;> assumption) (fun i=>by split <;> assumption)
 have e:decide (∀ i,i<2→vI (if i=0 then a else c) (if i=0 then b else d)=true)=(vI a b&&vI c d):=by
  rw[Bool.eq_iff_iff,decide_eq_true_eq,Bool.and_eq_true]
  constructor
  ·intro h
   exact⟨h 0 (by omega),h 1 (by omega)⟩
  ·rintro⟨h1,h2⟩ i hi
   rcases(show i=0∨i=1 by omega)with rfl|rfl
   ·exact h1
   ·exact h2
 rw[e] at k
 exact k
theorem iv_info:(Tryz.prog.info? 24).map (·.size)=some 2:=by kernel_rfl
theorem sall (w:World):Calls Tryz.prog 36 #[] w fun r w'=>r=.returned (.agg #[.float .f64 18442240474082181120,.float .f64 9218868437227405312])∧Bw w w':=by
 go_enter Tryz.func36,Tryz.ntmps36
 go_wp2_with (first|(go_at_call 34;first|(with_reducible refine(cinf_p _).mono ?_;rintro r w' ⟨rfl,rfl⟩)|(with_reducible refine(cinf_m _).mono ?_;rintro r w' ⟨rfl,rfl⟩)))
 refine bodyPost_ret (results_cell_row rfl _ _ w.heap.size 24 #[.float .f64 18442240474082181120,.float .f64 9218868437227405312] (0,0) _ rfl (heap_alloc_new _ _) Tryz.underlying24 rfl iv_info) rfl ?_
 exact⟨rfl,(Below.refl _ _).alloc (Nat.le_refl _) _⟩
theorem sbetween (a b:Nat) (w:World) (ha:a<18446744073709551616) (hb:b<18446744073709551616):Calls Tryz.prog 47 #[.float .f64 a,.float .f64 b] w fun r w'=>r=.returned (.agg #[.float .f64 (pl a),.float .f64 (pl b)])∧Bw w w':=by
 have k1:=ppl a ha
 have k2:=ppl b hb
 generalize pl a=A at *
 generalize pl b=C at *
 go_enter Tryz.func47,Tryz.ntmps47
 go_wp2_with (first|(go_at_call 79;first|(with_reducible refine(k1 _).mono ?_;rintro r w' ⟨rfl,rfl⟩)|(with_reducible refine(k2 _).mono ?_;rintro r w' ⟨rfl,rfl⟩)))
 refine bodyPost_ret (results_cell_row rfl _ _ w.heap.size 24 #[.float .f64 A,.float .f64 C] (0,0) _ rfl (heap_alloc_new _ _) Tryz.underlying24 rfl iv_info) rfl ?_
 exact⟨rfl,(Below.refl _ _).alloc (Nat.le_refl _) _⟩
attribute [local go_sem] run_store_flt
theorem shas_1 (lo hi f:Nat) (v i p q:Bool) (w:World)
  (k1:∀ W,Calls Tryz.prog 20 #[.agg #[.float .f64 lo,.float .f64 hi]] W fun r w'=>r=.returned (.bool v)∧Bw W w')
  (k2:∀ W,Calls Tryz.prog 38 #[.float .f64 f,.int .i64 0] W fun r w'=>r=.returned (.bool i)∧w'=W)
  (o1:(FloatKind.f64.format.order lo f==some Ordering.lt||FloatKind.f64.format.order lo f==some Ordering.eq)=p) (o2:(FloatKind.f64.format.order f hi==some Ordering.lt||FloatKind.f64.format.order f hi==some Ordering.eq)=q) :
  Calls Tryz.prog 37 #[.agg #[.float .f64 lo,.float .f64 hi],.float .f64 f] w fun r w'=>r=.returned (.bool (v && !i&&p&&q))∧Bw w w':=by
 obtain⟨W,hW⟩:∃ W,W=w.alloc (.cells #[.float .f64 lo,.float .f64 hi] 24):=⟨_,rfl⟩
 have HX:Hid (Bw w W∧W.heap[w.heap.size]?=some (.cells #[.float .f64 lo,.float .f64 hi] 24 (0,0))):=⟨by rw[hW];exact(Below.refl _ _).alloc (Nat.le_refl _) _,by rw[hW];exact heap_alloc_new _ _⟩
 have HK:Hid (∀ w',Bw W w'→w'.cell? ⟨w.heap.size,0,none⟩=some (.float .f64 lo)∧w'.cell? ⟨w.heap.size,1,none⟩=some (.float .f64 hi)):=fun w' hb=>box_cells2 (box_later HX.out.2 hb (lt_of_box HX.out.2))
 obtain⟨c0,c1⟩:=HK.out W (Below.refl _ _)
 have kv:=k1 W
 clear k1
 go_enter Tryz.func37,Tryz.ntmps37
 go_upto_region 1 with fail
 rw[←hW]
 clear hW
 go_wp2_with fail
 refine kv.mono ?_
 rintro r w1 ⟨rfl,hb1⟩
 clear c0 c1
 obtain⟨c0,c1⟩:=HK.out w1 hb1
 have HB:Hid (Bw w w1):=HX.out.1.trans (hb1.mono HX.out.1.size)
 clear hb1 HK HX kv
 cases v <;> cases i <;> cases p
 all_goals
  go_wp2_with (first|(go_at_call 38;refine(k2 _).mono ?_;rintro r w' ⟨rfl,rfl⟩))
  go_ret
  exact⟨rfl,HB.out⟩
def hI (lo hi f:Nat):Bool:=vI lo hi && !lt 9218868437227405311 (mag f)&&le lo f&&le f hi
theorem shas (lo hi f:Nat) (h1:lo<18446744073709551616) (h2:hi<18446744073709551616) (h3:f<18446744073709551616) (w:World) :
  Calls Tryz.prog 37 #[.agg #[.float .f64 lo,.float .f64 hi],.float .f64 f] w fun r w'=>r=.returned (.bool (hI lo hi f))∧Bw w w' :=
 shas_1 lo hi f _ _ _ _ w (fun W=>svalid lo hi h1 h2 W) (fun W=>c123 f h3 W) (ord_le lo f h1 h3) (ord_le f hi h3 h2)
theorem stp_eq {x y:Nat} (hx:x<18446744073709551616) (hy:y<18446744073709551616) (h:stp x=stp y) (h0:stp x≠0):x=y :=
 stp_inj hx hy h (fun e=>h0 (by rw[e];decide)) (fun e=>h0 (by rw[h,e];decide))
attribute [local go_sem] run_store_flt
def IvB (W:World) (g:Nat) (a b:Nat):Prop:=W.heap[g]?=some (.cells #[.float .f64 a,.float .f64 b] 24 (0,0))
def IvF (W:World) (g:Nat) (a b:Nat):Prop:=W.cell? ⟨g,0,none⟩=some (.float .f64 a)∧W.cell? ⟨g,1,none⟩=some (.float .f64 b)∧W.frozen? ⟨g,0,none⟩=false∧W.frozen? ⟨g,1,none⟩=false
theorem IvB.facts {W:World} {g a b:Nat} (h:IvB W g a b):IvF W g a b:=by
 unfold IvB at h
 simp[IvF,World.cell?,World.frozen?,h]
theorem IvB.lt {W:World} {g a b:Nat} (h:IvB W g a b):g<W.heap.size:=lt_of_box h
theorem IvB.box {W w':World} {g a b:Nat} (h:IvB W g a b) (hb:Bw W w'):IvB w' g a b:=box_later h hb h.lt
theorem IvB.later {W w':World} {g a b:Nat} (h:IvB W g a b) (hb:Bw W w'):IvF w' g a b:=(h.box hb).facts
theorem IvB.new (w:World) (a b:Nat):IvB (w.alloc (.cells #[.float .f64 a,.float .f64 b] 24)) w.heap.size a b:=heap_alloc_new _ _
theorem IvB.alloc {W:World} {g a b:Nat} (h:IvB W g a b) (o:Obj):IvB (W.alloc o) g a b:=h.box ((Below.refl _ _).alloc (Nat.le_refl _) _)
theorem IvB.set {W:World} {g a b:Nat} (h:IvB W g a b) (c d:Nat):IvB ((W.setCell ⟨g,0,none⟩ (.float .f64 c)).setCell ⟨g,1,none⟩ (.float .f64 d)) g c d:=by
 unfold IvB at *
 simp[World.setCell,Array.getElem?_modify,h]
theorem below_store2 {B:Nat} {w w':World} {g:Nat} (h:Below B w w') (hg:B≤g) (a b:Value):Below B w ((w'.setCell ⟨g,0,none⟩ a).setCell ⟨g,1,none⟩ b) :=
 (h.setCell hg _).setCell hg _
theorem bxs1_0 (w:World) (a b:Nat):Below w.heap.size w (w.alloc (.cells #[.float .f64 a,.float .f64 b] 24)):=(Below.refl _ _).alloc (Nat.le_refl _) _
theorem bxs1_1 (w:World) (a b:Nat):IvB (w.alloc (.cells #[.float .f64 a,.float .f64 b] 24)) w.heap.size a b:=IvB.new w a b
theorem bxs2_0 (w:World) (a b c d:Nat):Below w.heap.size w ((w.alloc (.cells #[.float .f64 a,.float .f64 b] 24)).alloc (.cells #[.float .f64 c,.float .f64 d] 24)):=(bxs1_0 w a b).alloc (bxs1_0 w a b).size _
theorem bxs2_1 (w:World) (a b c d:Nat):IvB ((w.alloc (.cells #[.float .f64 a,.float .f64 b] 24)).alloc (.cells #[.float .f64 c,.float .f64 d] 24)) w.heap.size a b:=(bxs1_1 w a b).alloc _
theorem bxs2_2 (w:World) (a b c d:Nat):IvB ((w.alloc (.cells #[.float .f64 a,.float .f64 b] 24)).alloc (.cells #[.float .f64 c,.float .f64 d] 24)) (w.heap.size+1) c d:=by
 have:=IvB.new (w.alloc (.cells #[.float .f64 a,.float .f64 b] 24)) c d
 simpa using this
theorem bxs3_0 (w:World) (a b c d e f:Nat):Below w.heap.size w (((w.alloc (.cells #[.float .f64 a,.float .f64 b] 24)).alloc (.cells #[.float .f64 c,.float .f64 d] 24)).alloc (.cells #[.float .f64 e,.float .f64 f] 24)):=(bxs2_0 w a b c d).alloc (bxs2_0 w a b c d).size _
theorem bxs3_1 (w:World) (a b c d e f:Nat):IvB (((w.alloc (.cells #[.float .f64 a,.float .f64 b] 24)).alloc (.cells #[.float .f64 c,.float .f64 d] 24)).alloc (.cells #[.float .f64 e,.float .f64 f] 24)) w.heap.size a b:=(bxs2_1 w a b c d).alloc _
theorem bxs3_2 (w:World) (a b c d e f:Nat):IvB (((w.alloc (.cells #[.float .f64 a,.float .f64 b] 24)).alloc (.cells #[.float .f64 c,.float .f64 d] 24)).alloc (.cells #[.float .f64 e,.float .f64 f] 24)) (w.heap.size+1) c d:=(bxs2_2 w a b c d).alloc _
theorem bxs3_3 (w:World) (a b c d e f:Nat):IvB (((w.alloc (.cells #[.float .f64 a,.float .f64 b] 24)).alloc (.cells #[.float .f64 c,.float .f64 d] 24)).alloc (.cells #[.float .f64 e,.float .f64 f] 24)) (w.heap.size+1+1) e f:=by
 have:=IvB.new ((w.alloc (.cells #[.float .f64 a,.float .f64 b] 24)).alloc (.cells #[.float .f64 c,.float .f64 d] 24)) e f
 simpa using this
theorem vI_nn {a b:Nat} (h:vI a b=true):isNaN a=false∧isNaN b=false:=by
 unfold vI le at h
 simp only[Bool.and_eq_true,Bool.not_eq_true'] at h
 exact h.1.1.1.1.1
attribute [local go_sem] run_store_flt
def orV (ok:Bool) (x y:Nat) (g h:Value):Value:=if ok then .tuple #[.agg #[.float .f64 x,.float .f64 y],g] else .tuple #[.agg #[.float .f64 0,.float .f64 0],h]
attribute [local go_sem] run_store_flt
theorem dLike_self (x:Nat) (hx:x<18446744073709551616) (w:World) :
  Calls Tryz.prog 45 #[.float .f64 x,.float .f64 x] w fun r w'=>r=.returned (.bool true)∧w'=w:=by
 have hb:=Ie.run_bits
 have e:=self_ne x hx
 cases hn:isNaN x
 ·rw[hn] at e
  go_enter Tryz.func45,Tryz.ntmps45
  go_wp2
  go_ret
  exact⟨by simp,rfl⟩
 ·rw[hn] at e
  go_enter Tryz.func45,Tryz.ntmps45
  go_wp2
  go_ret
  exact⟨rfl,rfl⟩
theorem llike_self (x:Nat) (hx:x<18446744073709551616) (w:World) :
  Calls Tryz.prog 19 #[.float .f64 x,.float .f64 x] w fun r w'=>r=.returned (.bool true)∧w'=w:=by
 have k:=dLike_self x hx
 go_enter Tryz.func19,Tryz.ntmps19
 go_wp2_with (first|(go_at_call 45;refine(k _).mono ?_;rintro r w' ⟨rfl,rfl⟩))
 go_ret
 exact⟨rfl,rfl⟩
theorem isame (x y:Nat) (hx:x<18446744073709551616) (hy:y<18446744073709551616) (w:World) :
  Calls Tryz.prog 13 #[.agg #[.float .f64 x,.float .f64 y],.agg #[.float .f64 x,.float .f64 y]] w fun r w'=>r=.returned (.bool true)∧Bw w w':=by
 have k1:=llike_self x hx
 have k2:=llike_self y hy
 go_enter Tryz.func13,Tryz.ntmps13
 go_wp2_with (first|(go_at_call 19;first|(with_reducible refine(k1 _).mono ?_;rintro r w' ⟨rfl,rfl⟩)|(with_reducible refine(k2 _).mono ?_;rintro r w' ⟨rfl,rfl⟩)))
 go_ret
 exact⟨rfl,bxs2_0 w _ _ _ _⟩
theorem lof (a b:Nat) (w:World):Calls Tryz.prog 33 #[.float .f64 a,.float .f64 b] w fun r w'=>r=.returned (.agg #[.float .f64 a,.float .f64 b])∧Bw w w':=by
 go_enter Tryz.func33,Tryz.ntmps33
 go_wp2
 refine bodyPost_ret (results_cell_row rfl _ _ w.heap.size 24 #[.float .f64 a,.float .f64 b] (0,0) _ rfl (heap_alloc_new _ _) Tryz.underlying24 rfl iv_info) rfl ?_
 exact⟨rfl,(Below.refl _ _).alloc (Nat.le_refl _) _⟩
theorem sorn (a:Nat) (ha:a<18446744073709551616) (w:World) :
  Calls Tryz.prog 90 #[.float .f64 a] w fun r w'=>r=.returned (.float .f64 (if isNaN a then 0 else a))∧w'=w:=by
 have e:=self_ne a ha
 cases hn:isNaN a
 ·rw[hn] at e
  go_enter Tryz.func90,Tryz.ntmps90
  go_wp2
  go_ret
  exact⟨rfl,rfl⟩
 ·rw[hn] at e
  go_enter Tryz.func90,Tryz.ntmps90
  go_wp2
  go_ret
  exact⟨rfl,rfl⟩
theorem spairs (a b c d:Nat) (w:World):Calls Tryz.prog 55 #[.agg #[.float .f64 a,.float .f64 b],.agg #[.float .f64 c,.float .f64 d]] w fun r w' =>
  r=.returned (.agg #[.float .f64 a,.float .f64 c,.float .f64 a,.float .f64 d,.float .f64 b,.float .f64 c,.float .f64 b,.float .f64 d])∧Bw w w':=by
 go_enter Tryz.func55,Tryz.ntmps55
 go_wp2
 have hn:=heap_alloc_new ((w.alloc (.cells #[.float .f64 a,.float .f64 b] 24)).alloc (.cells #[.float .f64 c,.float .f64 d] 24)) (.cells #[.float .f64 a,.float .f64 c,.float .f64 a,.float .f64 d,.float .f64 b,.float .f64 c,.float .f64 b,.float .f64 d] 74)
 refine bodyPost_ret (results_cell_row rfl _ _ (w.heap.size+1+1) 74 #[.float .f64 a,.float .f64 c,.float .f64 a,.float .f64 d,.float .f64 b,.float .f64 c,.float .f64 b,.float .f64 d] (0,0) _ rfl (by simpa using hn) (show Tryz.prog.underlying 74=some (.array 4 72) by kernel_rfl) rfl (by kernel_rfl)) rfl ?_
 exact⟨rfl,(bxs2_0 w a b c d).alloc (bxs2_0 w a b c d).size _⟩
attribute [local go_sem] run_store_flt
theorem smul_1 (a b c d x y:Nat) (v:Bool) (w:World)
  (k1:∀ W g T,W.heap[g]?=some (.cells #[.float .f64 a,.float .f64 b,.float .f64 c,.float .f64 d] T (0,0))→Calls Tryz.prog 29 #[.slice (some ⟨g,0,none⟩) 2 2] W fun r w'=>r=.returned (.bool v)∧Bw W w')
  (k2:v=true→∀ W,Bw w W→Calls Tryz.prog 56 #[.agg #[.float .f64 a,.float .f64 c,.float .f64 a,.float .f64 d,.float .f64 b,.float .f64 c,.float .f64 b,.float .f64 d],.func (.func 57) #[] #[]] W fun r w'=>r=.returned (.agg #[.float .f64 x,.float .f64 y])∧Bw W w') :
  Calls Tryz.prog 32 #[.agg #[.float .f64 a,.float .f64 b],.agg #[.float .f64 c,.float .f64 d]] w fun r w'=>r=.returned (orV v x y (.int .i64 0) (.int .i64 1))∧Bw w w':=by
 have H1:Hid _:=k1
 have H2:Hid _:=k2
 obtain⟨W,hW⟩:∃ W,W=(((w.alloc (.cells #[.float .f64 a,.float .f64 b] 24)).alloc (.cells #[.float .f64 c,.float .f64 d] 24)).alloc (.cells #[.float .f64 0,.float .f64 0] 24)):=⟨_,rfl⟩
 have HX:Hid (Bw w W∧IvB W (w.heap.size) a b∧IvB W (w.heap.size+1) c d∧IvB W (w.heap.size+1+1) 0 0):=by
  rw[hW]
  exact⟨bxs3_0 w a b c d 0 0,bxs3_1 w a b c d 0 0,bxs3_2 w a b c d 0 0,bxs3_3 w a b c d 0 0⟩
 have HK:Hid (∀ w',Bw W w'→IvF w' (w.heap.size) a b∧IvF w' (w.heap.size+1) c d∧IvF w' (w.heap.size+1+1) 0 0):=fun w' hb=>⟨(HX.out.2.1).later hb,(HX.out.2.2.1).later hb,(HX.out.2.2.2).later hb⟩
 obtain⟨⟨c0,c1,z0,z1⟩,⟨c2,c3,z2,z3⟩,⟨c4,c5,z4,z5⟩⟩:=HK.out W (Below.refl _ _)
 have kk:=H1.out (W.alloc (.cells #[.float .f64 a,.float .f64 b,.float .f64 c,.float .f64 d] 24)) W.heap.size _ (heap_alloc_new _ _)
 clear k1 k2 H1
 go_enter Tryz.func32,Tryz.ntmps32
 go_upto_region 1 with fail
 rw[←hW]
 clear hW
 go_wp2_with fail
 refine kk.mono ?_
 rintro r w1 ⟨rfl,hb1⟩
 clear kk
 have hb2:Bw W w1:=((Below.refl _ _).alloc (Nat.le_refl _) _).trans (hb1.mono (by simp))
 clear c0 c1 c2 c3 c4 c5 z0 z1 z2 z3 z4 z5
 obtain⟨⟨c0,c1,z0,z1⟩,⟨c2,c3,z2,z3⟩,⟨c4,c5,z4,z5⟩⟩:=HK.out w1 hb2
 cases v
 ·have HB:Hid (Bw w w1):=HX.out.1.trans (hb2.mono HX.out.1.size)
  have HR:Hid (IvB w1 (w.heap.size+1+1) 0 0):=HX.out.2.2.2.box hb2
  clear hb1 hb2 HK HX H2
  go_wp2
  refine bodyPost_ret (results_cell_tmp_row rfl _ _ (w.heap.size+1+1) 24 #[.float .f64 0,.float .f64 0] (0,0) _ rfl (HR.out.set _ _) Tryz.underlying24 rfl iv_info) rfl ?_
  exact⟨rfl,below_store2 HB.out (by omega) _ _⟩
 have kp:=spairs a b c d w1
 have HB1:Hid (Bw W w1):=hb2
 clear hb1 hb2
 go_wp2_with fail
 refine kp.mono ?_
 rintro r w2 ⟨rfl,hb2⟩
 have hb3:Bw W w2:=HB1.out.trans (hb2.mono HB1.out.size)
 clear c0 c1 c2 c3 c4 c5 z0 z1 z2 z3 z4 z5 kp HB1
 have ks:=H2.out (by simp) w2 (HX.out.1.trans (hb3.mono HX.out.1.size))
 have HB3:Hid (Bw W w2):=hb3
 clear hb2 hb3 H2
 go_wp2_with fail
 refine ks.mono ?_
 rintro r w3 ⟨rfl,hb4⟩
 have hb5:Bw W w3:=HB3.out.trans (hb4.mono HB3.out.size)
 obtain⟨⟨c0,c1,z0,z1⟩,⟨c2,c3,z2,z3⟩,⟨c4,c5,z4,z5⟩⟩:=HK.out w3 hb5
 have HB:Hid (Bw w w3):=HX.out.1.trans (hb5.mono HX.out.1.size)
 have HR:Hid (IvB w3 (w.heap.size+1+1) 0 0):=HX.out.2.2.2.box hb5
 clear ks hb4 hb5 HK HX HB3
 go_wp2
 refine bodyPost_ret (results_cell_tmp_row rfl _ _ (w.heap.size+1+1) 24 #[.float .f64 x,.float .f64 y] (0,0) _ rfl (HR.out.set _ _) Tryz.underlying24 rfl iv_info) rfl ?_
 exact⟨rfl,below_store2 HB.out (by omega) _ _⟩
def quoV (v z:Bool) (x y:Nat):Value:=if v then(if z then .tuple #[.agg #[.float .f64 0,.float .f64 0],.int .i64 6] else .tuple #[.agg #[.float .f64 x,.float .f64 y],.int .i64 0])else .tuple #[.agg #[.float .f64 0,.float .f64 0],.int .i64 1]
theorem squo_1 (a b c d x y:Nat) (v z:Bool) (w:World)
  (k1:∀ W g T,W.heap[g]?=some (.cells #[.float .f64 a,.float .f64 b,.float .f64 c,.float .f64 d] T (0,0))→Calls Tryz.prog 29 #[.slice (some ⟨g,0,none⟩) 2 2] W fun r w'=>r=.returned (.bool v)∧Bw W w')
  (k2:v=true→z=false→∀ W,Bw w W→Calls Tryz.prog 56 #[.agg #[.float .f64 a,.float .f64 c,.float .f64 a,.float .f64 d,.float .f64 b,.float .f64 c,.float .f64 b,.float .f64 d],.func (.func 59) #[] #[]] W fun r w'=>r=.returned (.agg #[.float .f64 x,.float .f64 y])∧Bw W w')
  (k3:v=true→∀ W,Calls Tryz.prog 37 #[.agg #[.float .f64 c,.float .f64 d],.float .f64 0] W fun r w'=>r=.returned (.bool z)∧Bw W w') :
  Calls Tryz.prog 35 #[.agg #[.float .f64 a,.float .f64 b],.agg #[.float .f64 c,.float .f64 d]] w fun r w'=>r=.returned (quoV v z x y)∧Bw w w':=by
 have H1:Hid _:=k1
 have H2:Hid _:=k2
 have H3:Hid _:=k3
 obtain⟨W,hW⟩:∃ W,W=(((w.alloc (.cells #[.float .f64 a,.float .f64 b] 24)).alloc (.cells #[.float .f64 c,.float .f64 d] 24)).alloc (.cells #[.float .f64 0,.float .f64 0] 24)):=⟨_,rfl⟩
 have HX:Hid (Bw w W∧IvB W (w.heap.size) a b∧IvB W (w.heap.size+1) c d∧IvB W (w.heap.size+1+1) 0 0):=by
  rw[hW]
  exact⟨bxs3_0 w a b c d 0 0,bxs3_1 w a b c d 0 0,bxs3_2 w a b c d 0 0,bxs3_3 w a b c d 0 0⟩
 have HK:Hid (∀ w',Bw W w'→IvF w' (w.heap.size) a b∧IvF w' (w.heap.size+1) c d∧IvF w' (w.heap.size+1+1) 0 0):=fun w' hb=>⟨(HX.out.2.1).later hb,(HX.out.2.2.1).later hb,(HX.out.2.2.2).later hb⟩
 obtain⟨⟨c0,c1,z0,z1⟩,⟨c2,c3,z2,z3⟩,⟨c4,c5,z4,z5⟩⟩:=HK.out W (Below.refl _ _)
 have kk:=H1.out (W.alloc (.cells #[.float .f64 a,.float .f64 b,.float .f64 c,.float .f64 d] 24)) W.heap.size _ (heap_alloc_new _ _)
 clear k1 k2 k3 H1
 go_enter Tryz.func35,Tryz.ntmps35
 go_upto_region 1 with fail
 rw[←hW]
 clear hW
 go_wp2_with fail
 refine kk.mono ?_
 rintro r w1 ⟨rfl,hb1⟩
 clear kk
 have hb2:Bw W w1:=((Below.refl _ _).alloc (Nat.le_refl _) _).trans (hb1.mono (by simp))
 clear c0 c1 c2 c3 c4 c5 z0 z1 z2 z3 z4 z5
 obtain⟨⟨c0,c1,z0,z1⟩,⟨c2,c3,z2,z3⟩,⟨c4,c5,z4,z5⟩⟩:=HK.out w1 hb2
 cases v
 ·have HB:Hid (Bw w w1):=HX.out.1.trans (hb2.mono HX.out.1.size)
  have HR:Hid (IvB w1 (w.heap.size+1+1) 0 0):=HX.out.2.2.2.box hb2
  clear hb1 hb2 HK HX H2 H3
  go_wp2
  refine bodyPost_ret (results_cell_tmp_row rfl _ _ (w.heap.size+1+1) 24 #[.float .f64 0,.float .f64 0] (0,0) _ rfl (HR.out.set _ _) Tryz.underlying24 rfl iv_info) rfl ?_
  exact⟨rfl,below_store2 HB.out (by omega) _ _⟩
 have kh:=H3.out (by simp) w1
 have HB1:Hid (Bw W w1):=hb2
 clear hb1 hb2 H3
 go_wp2_with fail
 refine kh.mono ?_
 rintro r w2 ⟨rfl,hb2⟩
 have hb3:Bw W w2:=HB1.out.trans (hb2.mono HB1.out.size)
 clear c0 c1 c2 c3 c4 c5 z0 z1 z2 z3 z4 z5 kh HB1
 obtain⟨⟨c0,c1,z0,z1⟩,⟨c2,c3,z2,z3⟩,⟨c4,c5,z4,z5⟩⟩:=HK.out w2 hb3
 cases z
 case true =>
  have HB:Hid (Bw w w2):=HX.out.1.trans (hb3.mono HX.out.1.size)
  have HR:Hid (IvB w2 (w.heap.size+1+1) 0 0):=HX.out.2.2.2.box hb3
  clear hb2 hb3 HK HX H2
  go_wp2
  refine bodyPost_ret (results_cell_tmp_row rfl _ _ (w.heap.size+1+1) 24 #[.float .f64 0,.float .f64 0] (0,0) _ rfl (HR.out.set _ _) Tryz.underlying24 rfl iv_info) rfl ?_
  exact⟨rfl,below_store2 HB.out (by omega) _ _⟩
 have kp:=spairs a b c d w2
 have HB1:Hid (Bw W w2):=hb3
 clear hb2 hb3
 go_wp2_with fail
 refine kp.mono ?_
 rintro r w3 ⟨rfl,hb2⟩
 have hb3:Bw W w3:=HB1.out.trans (hb2.mono HB1.out.size)
 clear c0 c1 c2 c3 c4 c5 z0 z1 z2 z3 z4 z5 kp HB1
 have ks:=H2.out (by simp) (by simp) w3 (HX.out.1.trans (hb3.mono HX.out.1.size))
 have HB3:Hid (Bw W w3):=hb3
 clear hb2 hb3 H2
 go_wp2_with fail
 refine ks.mono ?_
 rintro r w4 ⟨rfl,hb4⟩
 have hb5:Bw W w4:=HB3.out.trans (hb4.mono HB3.out.size)
 obtain⟨⟨c0,c1,z0,z1⟩,⟨c2,c3,z2,z3⟩,⟨c4,c5,z4,z5⟩⟩:=HK.out w4 hb5
 have HB:Hid (Bw w w4):=HX.out.1.trans (hb5.mono HX.out.1.size)
 have HR:Hid (IvB w4 (w.heap.size+1+1) 0 0):=HX.out.2.2.2.box hb5
 clear ks hb4 hb5 HK HX HB3
 go_wp2
 refine bodyPost_ret (results_cell_tmp_row rfl _ _ (w.heap.size+1+1) 24 #[.float .f64 x,.float .f64 y] (0,0) _ rfl (HR.out.set _ _) Tryz.underlying24 rfl iv_info) rfl ?_
 exact⟨rfl,below_store2 HB.out (by omega) _ _⟩
end Go.Proofs.YtjiolfnchiioaaaGreatDoor
