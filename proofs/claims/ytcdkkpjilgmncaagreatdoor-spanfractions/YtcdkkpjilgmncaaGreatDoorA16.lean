/- Own work: contracts of the program's functions, part 16: FRA PX PZ PZ2 SNF SNG SNI SNJ SNL SNQ. -/
import Derived.Test.YtcdkkpjilgmncaaGreatDoorA15
import Derived.Laws.StructEq
import Derived.Test.YtcdkkpjilgmncaaGreatDoorA7
import Derived.Test.YtcdkkpjilgmncaaGreatDoorA9
import Derived.Test.YtcdkkpjilgmncaaGreatDoorA12
import Derived.Test.YtcdkkpjilgmncaaGreatDoorA13
import Derived.Test.YtcdkkpjilgmncaaGreatDoorA6

set_option maxHeartbeats 16000000
set_option maxRecDepth 200000
set_option linter.unusedVariables false
set_option linter.unusedSimpArgs false
namespace Go.Proofs.YtcdkkpjilgmncaaGreatDoor
open Go.RowKit Go.Fl64
theorem run_ldF (g:Nat) (cs:Array Value) (w:World) (h:w.heap[g]?=some (.cells cs 45 (0,0))) (hs:cs.size=6):(Instr.loadAt 45 (.pointer (some ⟨g,0,none⟩))).run Tryz.prog w=.ok (.agg cs) w:=by
 have hi:(Tryz.prog.info? 45).map (·.size)=some cs.size:=by rw[hs];kernel_rfl
 simp only[Instr.loadAt,Instr.sureAddr,Sem.run_bind,Sem.run_pure,Result.andThen_ok,run_loadVar_row w g 45 45 cs (0,0) _ h Tryz.underlying45 rfl hi]
theorem PN.keep {W0 V:World} {n:Nat} {gs:Nat→Nat} {B:Nat} {A:Value} {t:Bool×Nat×Int} (hK:KeepB n gs B W0 V) (hbox:∀ k,k<n→∃ cs,W0.heap[gs k]?=some (.cells cs 45 (0,0))∧FrC cs) (h:PN W0 A t):PN V A t:=by
 obtain⟨ao,cap,rfl,a',c',h1,h2,h3,bb,o,h4,h5⟩:=h
 refine⟨ao,cap,rfl,a',c',h1,h2,h3,bb,o,h4,fun i hi=>?_⟩
 have hc:=h5 i hi
 have hlt:bb<W0.heap.size:=World.block_lt_of_cell? _ _ hc
 have hne:∀ k,k<n→bb≠gs k:=by
  rintro k hk rfl
  obtain⟨cs,hE,_,_,_,_,_,_,_,_,_,_,rfl⟩:=hbox k hk
  simp only[World.cell?,hE] at hc
  rcases(show o+i=0∨o+i=1∨o+i=2∨o+i=3∨o+i=4∨o+i=5∨6≤o+i by omega)with e|e|e|e|e|e|e
  ·rw[e] at hc;simp at hc
  ·rw[e] at hc;simp at hc
  ·rw[e] at hc;simp at hc
  ·rw[e] at hc;simp at hc
  ·rw[e] at hc;simp at hc
  ·rw[e] at hc;simp at hc
  ·rw[Array.getElem?_eq_none (by simpa using e)] at hc;cases hc
 have:=hK.keep bb hlt hne
 unfold World.cell? at hc ⊢
 rw[this]
 exact hc
theorem Fv.keep {W0 V:World} {n:Nat} {gs:Nat→Nat} {B:Nat} {U:Value} {t1 t2:Bool×Nat×Int} (hK:KeepB n gs B W0 V) (hbox:∀ k,k<n→∃ cs,W0.heap[gs k]?=some (.cells cs 45 (0,0))∧FrC cs) (h:Fv W0 U t1 t2):Fv V U t1 t2:=by
 obtain⟨_,_,_,_,_,_,_,_,_,_,e,h1,h2⟩:=h
 exact⟨_,_,_,_,_,_,_,_,_,_,e,h1.keep hK hbox,h2.keep hK hbox⟩
theorem FB.keep {W0 V:World} {n:Nat} {gs:Nat→Nat} {B g:Nat} {t1 t2:Bool×Nat×Int} (hK:KeepB n gs B W0 V) (hbox:∀ k,k<n→∃ cs,W0.heap[gs k]?=some (.cells cs 45 (0,0))∧FrC cs) (hg:∀ k,k<n→g≠gs k) (h:FB W0 g t1 t2):FB V g t1 t2:=by
 obtain⟨cs,h1,h2⟩:=h
 exact⟨cs,(hK.keep g (lt_of_box h1) hg).trans h1,h2.keep hK hbox⟩
theorem FB.frc {W:World} {g:Nat} {t1 t2:Bool×Nat×Int} (h:FB W g t1 t2):∃ cs,W.heap[g]?=some (.cells cs 45 (0,0))∧FrC cs:=by
 obtain⟨cs,h1,h2⟩:=h
 exact⟨cs,h1,h2.frc⟩
theorem FrC.size {cs:Array Value} (h:FrC cs):cs.size=6:=by
 obtain⟨_,_,_,_,_,_,_,_,_,_,rfl⟩:=h
 rfl
theorem below_keep {w W0 V:World} {n:Nat} {gs:Nat→Nat} {B:Nat} (h:Bw w W0) (hK:KeepB n gs B W0 V) (hB:w.heap.size≤B):Bw w V:=h.trans (hK.below.mono hB)
def NC3 (cs:Array Value):Prop:=∃ (s1:Bool) (ao1:Option Addr) (n1 cp1:Nat) (e1:Int),cs = #[.bool s1,.slice ao1 n1 cp1,.int .i64 e1]
theorem PN.row3 {W:World} {A:Value} {t:Bool×Nat×Int} {g:Nat} {T:TypeId} {cs:Array Value} (h:PN W A t) (hE:W.heap[g]?=some (.cells cs T (0,0))) (hC:NC3 cs) (cs':Array Value):PN (W.setRow g cs') A t:=by
 obtain⟨_,_,_,_,_,rfl⟩:=hC
 exact h.cells (s2:=false) (a2:=none) (m2:=0) (c2:=0) (e2:=0) (.inl hE) fun b hb=>setRow_other W g b cs' hb
theorem isP_rows3 (t:Bool×Nat×Int):∀ w u g cs cs',w.heap[g]?=some (.cells cs 28 (0,0))→NC3 cs→isP t w u→isP t (w.setRow g cs') u:=fun w u g cs cs' h hC h2=>PN.row3 h2 h hC _
def isT2 (T:Bool×Nat×Int):World→Value→Prop:=fun w u=>∃ s ao n cap e,u=.tuple #[.agg #[.bool s,.slice ao n cap,.int .i64 e],.int .i64 0]∧PN w (.agg #[.bool s,.slice ao n cap,.int .i64 e]) T
theorem isT2_stays (T:Bool×Nat×Int):Stays (isT2 T):=fun _ _ _ hb ⟨s,ao,n,cap,e,h1,h2⟩=>⟨s,ao,n,cap,e,h1,h2.later hb⟩
theorem isT2_rows3 (t:Bool×Nat×Int):∀ w u g cs cs',w.heap[g]?=some (.cells cs 28 (0,0))→NC3 cs→isT2 t w u→isT2 t (w.setRow g cs') u:=fun w u g cs cs' h hC ⟨s,ao,n,cap,e,h1,h2⟩=>⟨s,ao,n,cap,e,h1,PN.row3 h2 h hC _⟩
theorem PN.keep3 {W0 V:World} {n:Nat} {gs:Nat→Nat} {B:Nat} {A:Value} {t:Bool×Nat×Int} {T:TypeId} (hK:KeepB n gs B W0 V) (hbox:∀ k,k<n→∃ cs,W0.heap[gs k]?=some (.cells cs T (0,0))∧NC3 cs) (h:PN W0 A t):PN V A t:=by
 obtain⟨ao,cap,rfl,a',c',h1,h2,h3,bb,o,h4,h5⟩:=h
 refine⟨ao,cap,rfl,a',c',h1,h2,h3,bb,o,h4,fun i hi=>?_⟩
 have hc:=h5 i hi
 have hlt:bb<W0.heap.size:=World.block_lt_of_cell? _ _ hc
 have hne:∀ k,k<n→bb≠gs k:=by
  rintro k hk rfl
  obtain⟨cs,hE,_,_,_,_,_,rfl⟩:=hbox k hk
  simp only[World.cell?,hE] at hc
  rcases(show o+i=0∨o+i=1∨o+i=2∨3≤o+i by omega)with e|e|e|e
  ·rw[e] at hc;simp at hc
  ·rw[e] at hc;simp at hc
  ·rw[e] at hc;simp at hc
  ·rw[Array.getElem?_eq_none (by simpa using e)] at hc;cases hc
 have:=hK.keep bb hlt hne
 unfold World.cell? at hc ⊢
 rw[this]
 exact hc
theorem PN.cells3 {W:World} {A:Value} {t:Bool×Nat×Int} (h:PN W A t):∃ cs:Array Value,A=.agg cs∧cs.size=3∧NC3 cs∧cs.all (·.oneCell')=true:=by
 obtain⟨s,ao,n,cap,e,rfl⟩:=h.shape
 exact⟨_,rfl,rfl,⟨_,_,_,_,_,rfl⟩,one3 rfl rfl⟩
def two (a b:Nat) (k:Nat):Nat:=if k=0 then a else b
theorem two_inj {a b:Nat} (h:a≠b):∀ k k',k<2→k'<2→two a b k=two a b k'→k=k':=by
 intro k k' hk hk' he
 rcases(show k=0∨k=1 by omega)with rfl|rfl <;> rcases(show k'=0∨k'=1 by omega)with rfl|rfl
 ·rfl
 ·exact absurd he h
 ·exact absurd he.symm h
 ·rfl
theorem ne7 {g g5 g6 m:Nat} (h:m≤g) (h5:g5<m) (h6:g6<m):∀ i,i<2→g≠two g5 g6 i:=by
 intro i hi
 rcases(show i=0∨i=1 by omega)with rfl|rfl
 ·show g≠g5;omega
 ·show g≠g6;omega
theorem lt5F {k:Nat} (h:k<5):k=0∨k=1∨k=2∨k=3∨k=4:=by omega
end Go.Proofs.YtcdkkpjilgmncaaGreatDoor
namespace Go.Proofs.YtcdkkpjilgmncaaGreatDoor
open Go.RowKit
structure ParX (pv pa ps:Nat→Nat) (W0:World) (a0:Act) (m n:Nat) (slot bx:Nat→Tmp) (vs:Nat→Nat) (T:TypeId) (zs:Array Value) (V:Nat→World→Value→Prop) (listed:Array Bool) (a:Act) (w:World):Prop where
 below:Bw W0 w
 size:a.tmps.size=a0.tmps.size
 defers:a.defers=a0.defers
 other:∀ s,(∀ j,j<m→s≠slot j)→(∀ k,k<n→s≠bx k)→a.tmps[s]?=a0.tmps[s]?
 val:∀ j,j<m→listed.getD (pv j) false=true→∃ u,a.tmps[slot j]?=some u∧V j w u
 box:∀ k,k<n→listed.getD (pa k) false=true→∃ g cs,a.tmps[bx k]?=some (.pointer (some ⟨g,0,none⟩))∧W0.heap.size≤g∧w.heap[g]?=some (.cells cs T (0,0))∧cs.size=zs.size ∧
  (listed.getD (ps k) false=true→a.tmps[slot (vs k)]?=some (.agg cs))∧(listed.getD (ps k) false=false→cs=zs)
 apart:∀ k k',k<n→k'<n→k≠k'→listed.getD (pa k) false=true→listed.getD (pa k') false=true→a.tmps[bx k]?≠a.tmps[bx k']?
 stored:∀ k,k<n→listed.getD (ps k) false=true→listed.getD (pa k) false=true∧listed.getD (pv (vs k)) false=true
theorem parx_region {P:Program} {ops:Array Oper} {Q:Exit→Act→World→Prop} {id:Nat} (hm:P.follows .mixedOrders=true) (pv pa ps:Nat→Nat) (m n:Nat) (slot bx:Nat→Tmp) (vs:Nat→Nat) (dep:Nat→List Nat) (T:TypeId) (zs:Array Value)
  (W0:World) (a0:Act) (V:Nat→World→Value→Prop) (hall0:∀ i,i<ops.size→(∃ j,j<m∧i=pv j)∨(∃ k,k<n∧i=pa k)∨∃ k,k<n∧i=ps k)
  (hpv:∀ j,j<m→pv j<ops.size) (hpa:∀ k,k<n→pa k<ops.size) (hps:∀ k,k<n→ps k<ops.size)
  (hvv:∀ j j',j<m→j'<m→pv j=pv j'→j=j') (haa:∀ k k',k<n→k'<n→pa k=pa k'→k=k') (hss:∀ k k',k<n→k'<n→ps k=ps k'→k=k')
  (hva:∀ j k,j<m→k<n→pv j≠pa k) (hvs:∀ j k,j<m→k<n→pv j≠ps k) (has:∀ k k',k<n→k'<n→pa k≠ps k')
  (hord:∀ (i:Nat) (o:Oper),ops[i]?=some o→∀ e ∈ o.after,Region.binds .any e=true→e.on<i)
  (hV1:∀ j w w' u,Bw w w'→V j w u→V j w' u)
  (hV2:∀ j w u g cs',w.heap[g]?=some (.cells zs T (0,0))→V j w u→V j (w.setRow g cs') u)
  (hVs:∀ k,k<n→∀ w u,V (vs k) w u→∃ cs:Array Value,u=.agg cs∧cs.size=zs.size∧cs.all (·.oneCell')=true)
  (hdep:∀ j,j<m→∀ j' ∈ dep j,j'<m∧∀ o,ops[pv j]?=some o→∃ e ∈ o.after,e.on=pv j'∧Region.binds .any e=true)
  (hA:∀ j,j<m→∀ (a:Act) (w:World),Bw W0 w→(∀ s,(∀ j,j<m→s≠slot j)→(∀ k,k<n→s≠bx k)→a.tmps[s]?=a0.tmps[s]?) →
   (∀ j' ∈ dep j,∃ u,a.tmps[slot j']?=some u∧V j' w u)→wpOp P ops Q (pv j) (fun a' w'=>∃ u,a'=a.put (some (slot j)) u∧V j w' u∧Bw w w') a w)
  (hal:∀ k,k<n→∃ o,ops[pa k]?=some o∧o.guard=none∧o.op=.alloc T∧o.dst=some (bx k))
  (hz:∀ w,(zeroValue T).run P w=.ok (.agg zs) w) (hi:(P.info? T).map (·.size)=some zs.size)
  (hst:∀ k,k<n→vs k<m∧∃ o,ops[ps k]?=some o∧o.guard=none∧o.op=.store T (.tmp (bx k)) (.tmp (slot (vs k)))∧o.dst=none∧(∃ e ∈ o.after,e.on=pa k∧Region.binds .any e=true)∧(∃ e ∈ o.after,e.on=pv (vs k)∧Region.binds .any e=true))
  (hin:∀ j,j<m→slot j<a0.tmps.size) (hbin:∀ k,k<n→bx k<a0.tmps.size)
  (hinj:∀ j j',j<m→j'<m→slot j=slot j'→j=j') (hbinj:∀ k k',k<n→k'<n→bx k=bx k'→k=k') (hsb:∀ j k,j<m→k<n→slot j≠bx k)
  (hQ:∀ (u:Nat→Value) (g:Nat→Nat) (a:Act) (w:World),Bw W0 w→(∀ j,j<m→a.tmps[slot j]?=some (u j)∧V j w (u j)) →
   (∀ k,k<n→a.tmps[bx k]?=some (.pointer (some ⟨g k,0,none⟩))∧W0.heap.size≤g k∧∃ cs,u (vs k)=.agg cs∧w.heap[g k]?=some (.cells cs T (0,0))) →
   (∀ k k',k<n→k'<n→k≠k'→g k≠g k')→a.tmps.size=a0.tmps.size→a.defers=a0.defers→(∀ s,(∀ j,j<m→s≠slot j)→(∀ k,k<n→s≠bx k)→a.tmps[s]?=a0.tmps[s]?)→Q .normal a w) :
  (Code.region id ops true).wp P Q a0 W0:=by
 refine wp_region_any hm ?_
 refine wpAny_inv (ParX pv pa ps W0 a0 m n slot bx vs T zs V) ?_ ?_ ops.size _ a0 _ (by simp) ?_ (by simp)
 ·-- a step
  intro listed a w i hl hI hr
  obtain⟨hun,o,ho,hall⟩:=mem_ready.1 hr
  have hunf:=not_listed hun
  have hio:i<ops.size:=(Array.getElem?_eq_some_iff.1 ho).1
  have hil:i<listed.size:=by omega
  have hset:=listed_set hil
  have hne:∀ x,x≠i→(listed.setIfInBounds i true).getD x false=listed.getD x false:=fun x hx=>getD_set_ne false (Ne.symm hx)
  rcases hall0 i hio with ⟨i,him,rfl⟩|⟨k,hk,rfl⟩|⟨k,hk,rfl⟩
  ·have nv:∀ j,j<m→j≠i→pv j≠pv i:=fun j hj e e2=>e (hvv j i hj him e2)
   have na:∀ k,k<n→pa k≠pv i:=fun k hk e=>hva i k him hk e.symm
   have ns:∀ k,k<n→ps k≠pv i:=fun k hk e=>hvs i k him hk e.symm
   refine wpOp_mono ?_ (hA i him a w hI.below hI.other fun j' hj'=>?_)
   ·rintro a' w' ⟨u,rfl,hu,hb⟩
    have hlt:slot i<a.tmps.size:=by rw[hI.size];exact hin i him
    refine⟨hI.below.trans (hb.mono hI.below.size),by rw[put_size];exact hI.size,by rw[put_defers];exact hI.defers,fun s h1 h2=>?_,fun j hj h1=>?_,fun k hk h1=>?_,fun k k' hk hk' hkk h1 h2=>?_,fun k hk h1=>?_⟩
    ·rw[put_get_ne (h1 i him)];exact hI.other s h1 h2
    ·by_cases e:j=i
     ·subst e;exact⟨u,put_get hlt,hu⟩
     ·rw[hne _ (nv j hj e)] at h1
      obtain⟨u',g1,g2⟩:=hI.val j hj h1
      exact⟨u',by rw[put_get_ne (fun e2=>e (hinj j i hj him e2))];exact g1,hV1 _ _ _ _ hb g2⟩
    ·rw[hne _ (na k hk)] at h1
     obtain⟨g,cs,g1,g2,g3,g4,g5,g6⟩:=hI.box k hk h1
     refine⟨g,cs,by rw[put_get_ne (Ne.symm (hsb i k him hk))];exact g1,g2,(hb.block g (Array.getElem?_eq_some_iff.1 g3).1).trans g3,g4,fun h2=>?_,fun h2=>g6 (by rw[←hne (ps k) (ns k hk)];exact h2)⟩
     rw[hne _ (ns k hk)] at h2
     have h3:=(hI.stored k hk h2).2
     have h4:vs k≠i:=fun e=>by rw[e,hunf] at h3;cases h3
     rw[put_get_ne (fun e2=>h4 (hinj _ _ (hst k hk).1 him e2))]
     exact g5 h2
    ·rw[hne _ (na k hk)] at h1
     rw[hne _ (na k' hk')] at h2
     rw[put_get_ne (Ne.symm (hsb i k him hk)),put_get_ne (Ne.symm (hsb i k' him hk'))]
     exact hI.apart k k' hk hk' hkk h1 h2
    ·rw[hne _ (ns k hk)] at h1
     obtain⟨h2,h3⟩:=hI.stored k hk h1
     exact⟨getD_set_true h2,getD_set_true h3⟩
   ·obtain⟨h1,h2⟩:=hdep i him j' hj'
    obtain⟨e,he,h3,hbd⟩:=h2 o ho
    exact hI.val _ h1 (by rw[←h3];exact hall e he hbd)
  ·have nv:∀ j,j<m→pv j≠pa k:=fun j hj=>hva j k hj hk
   have na:∀ k1,k1<n→k1≠k→pa k1≠pa k:=fun k1 hk1 e e2=>e (haa k1 k hk1 hk e2)
   have ns:∀ k1,k1<n→ps k1≠pa k:=fun k1 hk1 e=>has k k1 hk hk1 e.symm
   obtain⟨o',ho',hg,hop,hd⟩:=hal k hk
   refine step_alloc ho' hg hop hz ?_
   rw[hd]
   have hlt:bx k<a.tmps.size:=by rw[hI.size];exact hbin k hk
   have hbw:Below w.heap.size w (w.alloc (.cells zs T)):=(Below.refl _ _).alloc (Nat.le_refl _) _
   refine⟨hI.below.trans (hbw.mono hI.below.size),by rw[put_size];exact hI.size,by rw[put_defers];exact hI.defers,fun s h1 h2=>?_,fun j hj h1=>?_,fun k1 hk1 h1=>?_,fun k1 k2 hk1 hk2 hkk h1 h2=>?_,fun k1 hk1 h1=>?_⟩
   ·rw[put_get_ne (h2 k hk)];exact hI.other s h1 h2
   ·rw[hne _ (nv j hj)] at h1
    obtain⟨u',g1,g2⟩:=hI.val j hj h1
    exact⟨u',by rw[put_get_ne (hsb j k hj hk)];exact g1,hV1 _ _ _ _ hbw g2⟩
   ·by_cases e:k1=k
    ·subst e
     refine⟨w.heap.size,zs,put_get hlt,hI.below.size,heap_alloc_new _ _,rfl,fun h2=>?_,fun _=>rfl⟩
     rw[hne _ (ns k1 hk)] at h2
     have:=(hI.stored k1 hk h2).1
     rw[hunf] at this
     cases this
    ·rw[hne _ (na k1 hk1 e)] at h1
     obtain⟨g,cs,g1,g2,g3,g4,g5,g6⟩:=hI.box k1 hk1 h1
     refine⟨g,cs,by rw[put_get_ne (fun e2=>e (hbinj _ _ hk1 hk e2))];exact g1,g2,(hbw.block g (Array.getElem?_eq_some_iff.1 g3).1).trans g3,g4,fun h2=>?_,fun h2=>g6 (by rw[←hne (ps k1) (ns k1 hk1)];exact h2)⟩
     rw[hne _ (ns k1 hk1)] at h2
     rw[put_get_ne (hsb _ k (hst k1 hk1).1 hk)]
     exact g5 h2
   ·have old:∀ k1,k1<n→k1≠k→listed.getD (pa k1) false=true→a.tmps[bx k1]?≠some (.pointer (some ⟨w.heap.size,0,none⟩)):=fun k1 hk1 e h1 h2=>by
     obtain⟨g,cs,g1,g2,g3,g4,g5,g6⟩:=hI.box k1 hk1 h1
     have hlt:=(Array.getElem?_eq_some_iff.1 g3).1
     rw[g1] at h2
     simp only[Option.some.injEq,Value.pointer.injEq,Addr.mk.injEq] at h2
     omega
    by_cases e1:k1=k
    ·subst e1
     rw[hne _ (na k2 hk2 (Ne.symm hkk))] at h2
     rw[put_get hlt,put_get_ne (fun e2=>hkk (hbinj _ _ hk hk2 e2.symm))]
     exact Ne.symm (old k2 hk2 (Ne.symm hkk) h2)
    ·rw[hne _ (na k1 hk1 e1)] at h1
     by_cases e2:k2=k
     ·subst e2
      rw[put_get hlt,put_get_ne (fun e2=>e1 (hbinj _ _ hk1 hk e2))]
      exact old k1 hk1 e1 h1
     ·rw[hne _ (na k2 hk2 e2)] at h2
      rw[put_get_ne (fun e3=>e1 (hbinj _ _ hk1 hk e3)),put_get_ne (fun e3=>e2 (hbinj _ _ hk2 hk e3))]
      exact hI.apart k1 k2 hk1 hk2 hkk h1 h2
   ·rw[hne _ (ns k1 hk1)] at h1
    obtain⟨h2,h3⟩:=hI.stored k1 hk1 h1
    exact⟨getD_set_true h2,getD_set_true h3⟩
  ·have nv:∀ j,j<m→pv j≠ps k:=fun j hj=>hvs j k hj hk
   have na:∀ k1,k1<n→pa k1≠ps k:=fun k1 hk1=>has k1 k hk1 hk
   have ns:∀ k1,k1<n→k1≠k→ps k1≠ps k:=fun k1 hk1 e e2=>e (hss k1 k hk1 hk e2)
   obtain⟨hvm,o',ho',hg,hop,hd,⟨e1,he1,hon1,hb1⟩,e2,he2,hon2,hb2⟩:=hst k hk
   obtain rfl:o'=o:=Option.some.inj (ho'.symm.trans ho)
   have l1:=hall e1 he1 hb1
   have l2:=hall e2 he2 hb2
   rw[hon1] at l1
   rw[hon2] at l2
   obtain⟨u,hu1,hu2⟩:=hI.val _ hvm l2
   obtain⟨cs,rfl,hc1,hc2⟩:=hVs k hk w u hu2
   obtain⟨g,old,g1,g2,g3,g4,g5,g6⟩:=hI.box k hk l1
   rw[g6 hunf] at g3 g4
   refine step_store ho' hg hop g1 hu1 g3 (by rw[hc1];exact hi) (by omega) hc2 ?_
   rw[hd]
   show ParX pv pa ps W0 a0 m n slot bx vs T zs V _ a _
   refine⟨below_row hI.below g2 _,hI.size,hI.defers,hI.other,fun j hj h1=>?_,fun k1 hk1 h1=>?_,fun k1 k2 hk1 hk2 hkk h1 h2=>?_,fun k1 hk1 h1=>?_⟩
   ·rw[hne _ (nv j hj)] at h1
    obtain⟨u',q1,q2⟩:=hI.val j hj h1
    exact⟨u',q1,hV2 _ _ _ _ _ g3 q2⟩
   ·rw[hne _ (na k1 hk1)] at h1
    by_cases e:k1=k
    ·subst e
     exact⟨g,cs,g1,g2,setRow_heap w g _ cs T _ g3,hc1,fun _=>hu1,fun h2=>by rw[hset] at h2;cases h2⟩
    ·obtain⟨g',cs',q1,q2,q3,q4,q5,q6⟩:=hI.box k1 hk1 h1
     have hgg:g'≠g:=fun e2=>by
      subst e2
      exact hI.apart k1 k hk1 hk e h1 l1 (q1.trans g1.symm)
     refine⟨g',cs',q1,q2,(setRow_other w g g' cs hgg).trans q3,q4,fun h2=>?_,fun h2=>q6 (by rw[←hne (ps k1) (ns k1 hk1 e)];exact h2)⟩
     rw[hne _ (ns k1 hk1 e)] at h2
     exact q5 h2
   ·rw[hne _ (na k1 hk1)] at h1
    rw[hne _ (na k2 hk2)] at h2
    exact hI.apart k1 k2 hk1 hk2 hkk h1 h2
   ·by_cases e:k1=k
    ·subst e
     exact⟨getD_set_true l1,getD_set_true l2⟩
    ·rw[hne _ (ns k1 hk1 e)] at h1
     obtain⟨h2,h3⟩:=hI.stored k1 hk1 h1
     exact⟨getD_set_true h2,getD_set_true h3⟩
 ·-- the end: all have come up
  intro listed a w hl hI hr
  have hfull:∀ i,i<ops.size→listed.getD i false=true:=by
   intro i
   induction i using Nat.strongRecOn with
   | _ i ih =>
    intro hi
    cases hx:listed.getD i false with
    | true=>rfl
    | false =>
     exfalso
     have ho:ops[i]?=some ops[i]:=Array.getElem?_eq_getElem hi
     have:i ∈ Region.ready .any ops listed:=by
      refine mem_ready.2 ⟨?_,ops[i],ho,fun e he hbe=>ih e.on (hord i _ ho e he hbe) (Nat.lt_trans (hord i _ ho e he hbe) hi)⟩
      have hil:i<listed.size:=by omega
      simp only[Array.getD_eq_getD_getElem?,Array.getElem?_eq_getElem hil,Option.getD_some] at hx ⊢
      exact hx
     rw[hr] at this
     cases this
  have hval:∀ j,∃ u,j<m→a.tmps[slot j]?=some u∧V j w u:=fun j=>by
   by_cases hj:j<m
   ·obtain⟨u,h1,h2⟩:=hI.val j hj (hfull _ (hpv j hj))
    exact⟨u,fun _=>⟨h1,h2⟩⟩
   ·exact⟨undef,fun h=>absurd h hj⟩
  obtain⟨u,hu⟩:=Classical.axiomOfChoice hval
  have hbox:∀ k,∃ g,k<n→a.tmps[bx k]?=some (.pointer (some ⟨g,0,none⟩))∧W0.heap.size≤g∧∃ cs,u (vs k)=.agg cs∧w.heap[g]?=some (.cells cs T (0,0)):=fun k=>by
   by_cases hk:k<n
   ·obtain⟨g,cs,h1,h2,h3,h4,h5,-⟩:=hI.box k hk (hfull _ (hpa k hk))
    refine⟨g,fun _=>⟨h1,h2,cs,?_,h3⟩⟩
    have h6:=h5 (hfull _ (hps k hk))
    rw[(hu _ (hst k hk).1).1] at h6
    exact Option.some.inj h6
   ·exact⟨0,fun h=>absurd h hk⟩
  obtain⟨g,hg⟩:=Classical.axiomOfChoice hbox
  exact hQ u g a w hI.below hu hg (fun k k' hk hk' hkk e=>hI.apart k k' hk hk' hkk (hfull _ (hpa k hk)) (hfull _ (hpa k' hk')) (by rw[(hg k hk).1,(hg k' hk').1,e])) hI.size hI.defers hI.other
 ·-- the start
  have h0:∀ x,(Array.replicate ops.size false).getD x false=true→False:=fun x h=>by
   simp[Array.getD_eq_getD_getElem?,Array.getElem?_replicate] at h
   split at h <;> simp at h
  exact⟨(Below.refl _ _).drew,rfl,rfl,fun _ _ _=>rfl,fun j _ h=>(h0 _ h).elim,fun k _ h=>(h0 _ h).elim,fun k k' _ _ _ h=>(h0 _ h).elim,fun k _ h=>(h0 _ h).elim⟩
theorem parzd_region {P:Program} {ops:Array Oper} {Q:Exit→Act→World→Prop} {id:Nat} (hm:P.follows .mixedOrders=true) (m n:Nat) (slot bx:Nat→Tmp) (vs:Nat→Nat) (dep:Nat→List Nat) (T:TypeId) (zs:Array Value)
  (W0:World) (a0:Act) (V:Nat→World→Value→Prop) (hsz:ops.size=m+n+n)
  (hord:∀ (i:Nat) (o:Oper),ops[i]?=some o→∀ e ∈ o.after,Region.binds .any e=true→e.on<i)
  (hV1:∀ j w w' u,Bw w w'→V j w u→V j w' u)
  (hV2:∀ j w u g cs',w.heap[g]?=some (.cells zs T (0,0))→V j w u→V j (w.setRow g cs') u)
  (hVs:∀ k,k<n→∀ w u,V (vs k) w u→∃ cs:Array Value,u=.agg cs∧cs.size=zs.size∧cs.all (·.oneCell')=true)
  (hdep:∀ j,j<m→∀ j' ∈ dep j,j'<m∧∀ o,ops[j]?=some o→∃ e ∈ o.after,e.on=j'∧Region.binds .any e=true)
  (hA:∀ j,j<m→∀ (a:Act) (w:World),Bw W0 w→(∀ s,(∀ j,j<m→s≠slot j)→(∀ k,k<n→s≠bx k)→a.tmps[s]?=a0.tmps[s]?) →
   (∀ j' ∈ dep j,∃ u,a.tmps[slot j']?=some u∧V j' w u)→wpOp P ops Q j (fun a' w'=>∃ u,a'=a.put (some (slot j)) u∧V j w' u∧Bw w w') a w)
  (hal:∀ k,k<n→∃ o,ops[m+k]?=some o∧o.guard=none∧o.op=.alloc T∧o.dst=some (bx k))
  (hz:∀ w,(zeroValue T).run P w=.ok (.agg zs) w) (hi:(P.info? T).map (·.size)=some zs.size)
  (hst:∀ k,k<n→vs k<m∧∃ o,ops[m+n+k]?=some o∧o.guard=none∧o.op=.store T (.tmp (bx k)) (.tmp (slot (vs k)))∧o.dst=none∧(∃ e ∈ o.after,e.on=m+k∧Region.binds .any e=true)∧(∃ e ∈ o.after,e.on=vs k∧Region.binds .any e=true))
  (hin:∀ j,j<m→slot j<a0.tmps.size) (hbin:∀ k,k<n→bx k<a0.tmps.size)
  (hinj:∀ j j',j<m→j'<m→slot j=slot j'→j=j') (hbinj:∀ k k',k<n→k'<n→bx k=bx k'→k=k') (hsb:∀ j k,j<m→k<n→slot j≠bx k)
  (hQ:∀ (u:Nat→Value) (g:Nat→Nat) (a:Act) (w:World),Bw W0 w→(∀ j,j<m→a.tmps[slot j]?=some (u j)∧V j w (u j)) →
   (∀ k,k<n→a.tmps[bx k]?=some (.pointer (some ⟨g k,0,none⟩))∧W0.heap.size≤g k∧∃ cs,u (vs k)=.agg cs∧w.heap[g k]?=some (.cells cs T (0,0))) →
   (∀ k k',k<n→k'<n→k≠k'→g k≠g k')→a.tmps.size=a0.tmps.size→a.defers=a0.defers→(∀ s,(∀ j,j<m→s≠slot j)→(∀ k,k<n→s≠bx k)→a.tmps[s]?=a0.tmps[s]?)→Q .normal a w) :
  (Code.region id ops true).wp P Q a0 W0:=by
 refine parx_region hm (fun j=>j) (fun k=>m+k) (fun k=>m+n+k) m n slot bx vs dep T zs W0 a0 V (fun i hi=>?_) (fun j hj=>by omega) (fun k hk=>by omega) (fun k hk=>by omega) (fun j j' _ _ e=>e) (fun k k' _ _ e=>by omega) (fun k k' _ _ e=>by omega) (fun j k hj hk=>by omega) (fun j k hj hk=>by omega) (fun k k' hk hk'=>by omega) hord hV1 hV2 hVs hdep hA hal hz hi hst hin hbin hinj hbinj hsb hQ
 by_cases h1:i<m
 ·exact .inl ⟨i,h1,rfl⟩
 ·by_cases h2:i<m+n
  ·exact .inr (.inl ⟨i - m,by omega,by omega⟩)
  ·exact .inr (.inr ⟨i - m - n,by omega,by omega⟩)
def zrow (m n sl b0:Nat) (D:List (List Nat)) (vs:List Nat) (i:Nat) (o:Oper):Bool :=
 o.after.all (fun e => !(Region.binds .any e)||decide (e.on<i))&&o.guard.isNone&&(if i<m then o.dst==some (sl+i)&&(dL D i).all (fun j=>decide (j<m)&&vhas o j)else if i<m+n then o.dst==some (b0+(i - m))else o.dst==none&&decide (vs.getD (i - m - n) m<m)&&vhas o (m+(i - m - n))&&vhas o (vs.getD (i - m - n) m))
def zchk (ops:Array Oper) (m n sl b0:Nat) (D:List (List Nat)) (vs:List Nat):Bool :=
 ops.size==m+n+n&&(List.range (m+n+n)).all fun i=>match ops[i]? with|some o=>zrow m n sl b0 D vs i o|none=>false
theorem zchk_row {ops:Array Oper} {m n sl b0:Nat} {D:List (List Nat)} {vs:List Nat} (h:zchk ops m n sl b0 D vs=true) {i:Nat} {o:Oper} (ho:ops[i]?=some o):zrow m n sl b0 D vs i o=true:=by
 unfold zchk at h
 rw[Bool.and_eq_true,beq_iff_eq] at h
 have hi:i<m+n+n:=by have:=(Array.getElem?_eq_some_iff.1 ho).1;omega
 have h1:=List.all_eq_true.1 h.2 i (List.mem_range.2 hi)
 simp only[ho] at h1
 exact h1
theorem zrow_a {m n sl b0:Nat} {D:List (List Nat)} {vs:List Nat} {i:Nat} {o:Oper} (h:zrow m n sl b0 D vs i o=true):(∀ e ∈ o.after,Region.binds .any e=true→e.on<i)∧o.guard=none:=by
 unfold zrow at h
 rw[Bool.and_eq_true,Bool.and_eq_true] at h
 exact⟨fun e he hb=>by have h7:=Array.all_eq_true_iff_forall_mem.1 h.1.1 e he;rw[hb] at h7;exact of_decide_eq_true (by simpa using h7),Option.isNone_iff_eq_none.1 h.1.2⟩
theorem zrow_b {m n sl b0:Nat} {D:List (List Nat)} {vs:List Nat} {i:Nat} {o:Oper} (h:zrow m n sl b0 D vs i o=true) (hi:i<m):o.dst=some (sl+i)∧∀ j ∈ dL D i,j<m∧∃ e ∈ o.after,e.on=j∧Region.binds .any e=true:=by
 unfold zrow at h
 rw[Bool.and_eq_true] at h
 have h2:=h.2
 rw[if_pos hi,Bool.and_eq_true] at h2
 refine⟨by simpa using h2.1,fun j hj=>?_⟩
 have:=List.all_eq_true.1 h2.2 j hj
 rw[Bool.and_eq_true] at this
 exact⟨of_decide_eq_true this.1,vhas_ex this.2⟩
theorem zrow_c {m n sl b0:Nat} {D:List (List Nat)} {vs:List Nat} {k:Nat} {o:Oper} (h:zrow m n sl b0 D vs (m+k) o=true) (hk:k<n):o.dst=some (b0+k):=by
 unfold zrow at h
 rw[Bool.and_eq_true] at h
 have h2:=h.2
 rw[if_neg (by omega),if_pos (by omega),Nat.add_sub_cancel_left] at h2
 simpa using h2
theorem zrow_d {m n sl b0:Nat} {D:List (List Nat)} {vs:List Nat} {k:Nat} {o:Oper} (h:zrow m n sl b0 D vs (m+n+k) o=true):o.dst=none∧vs.getD k m<m∧(∃ e ∈ o.after,e.on=m+k∧Region.binds .any e=true)∧∃ e ∈ o.after,e.on=vs.getD k m∧Region.binds .any e=true:=by
 unfold zrow at h
 rw[Bool.and_eq_true] at h
 have h2:=h.2
 rw[if_neg (by omega),if_neg (by omega),show m+n+k - m - n=k by omega,Bool.and_eq_true,Bool.and_eq_true,Bool.and_eq_true] at h2
 obtain⟨⟨⟨h3,h4⟩,h5⟩,h6⟩:=h2
 exact⟨by simpa using h3,of_decide_eq_true h4,vhas_ex h5,vhas_ex h6⟩
def ZRowsAll (T:TypeId) (zs:Array Value):List (World→Value→Prop)→Prop
 | []=>True
 | P :: r=>(∀ w u g cs',w.heap[g]?=some (.cells zs T (0,0))→P w u→P (w.setRow g cs') u)∧ZRowsAll T zs r
theorem vL_zrows {T:TypeId} {zs:Array Value}:∀ {L:List (World→Value→Prop)},ZRowsAll T zs L→∀ j w u g cs',w.heap[g]?=some (.cells zs T (0,0))→vL L j w u→vL L j (w.setRow g cs') u
 | [],_,j=>fun w u g cs' _ h=>by simp[vL] at h
 | P :: r,hL,0=>hL.1
 | P :: r,hL,j+1=>fun w u g cs' h1 h=>vL_zrows hL.2 j w u g cs' h1 h
theorem zL_region {P:Program} {ops:Array Oper} {Q:Exit→Act→World→Prop} {id:Nat} (hm:P.follows .mixedOrders=true) (m n sl b0:Nat) (D:List (List Nat)) (vs:List Nat) (T:TypeId) (zs:Array Value)
  (W0:World) (a0:Act) (L:List (World→Value→Prop)) (hchk:zchk ops m n sl b0 D vs=true)
  (hV1:StaysAll L) (hV2:ZRowsAll T zs L) (hin:sl+m≤a0.tmps.size) (hbin:b0+n≤a0.tmps.size) (hsb:b0+n≤sl∨sl+m≤b0)
  (hVs:∀ k,k<n→∀ w u,vL L (vs.getD k m) w u→∃ cs:Array Value,u=.agg cs∧cs.size=zs.size∧cs.all (·.oneCell')=true)
  (hA:∀ j,j<m→∀ o,ops[j]?=some o→∀ (a:Act) (w:World),Bw W0 w→(∀ s:Nat,(s<sl∨sl+m≤s)→(s<b0∨b0+n≤s)→a.tmps[s]?=a0.tmps[s]?) →
   (∀ j' ∈ dL D j,∃ u,a.tmps[sl+j']?=some u∧vL L j' w u)→o.wp P a w (fun a' w'=>∃ u,a'=a.put o.dst u∧vL L j w' u∧Bw w w') Q)
  (hal:∀ k,k<n→∃ o,ops[m+k]?=some o∧o.op=.alloc T)
  (hz:∀ w,(zeroValue T).run P w=.ok (.agg zs) w) (hi:(P.info? T).map (·.size)=some zs.size)
  (hst:∀ k,k<n→∃ o,ops[m+n+k]?=some o∧o.op=.store T (.tmp (b0+k)) (.tmp (sl+vs.getD k m)))
  (hQ:∀ (u:Nat→Value) (g:Nat→Nat) (w:World),Bw W0 w→(∀ j,j<m→vL L j w (u j)) →
   (∀ k,k<n→W0.heap.size≤g k∧∃ cs,u (vs.getD k m)=.agg cs∧w.heap[g k]?=some (.cells cs T (0,0)))→(∀ k k',k<n→k'<n→k≠k'→g k≠g k') →
   Q .normal (putL a0 ((List.range m).map (fun j=>(sl+j,u j))++(List.range n).map (fun k=>(b0+k,.pointer (some ⟨g k,0,none⟩))))) w) :
  (Code.region id ops true).wp P Q a0 W0:=by
 have hsz:ops.size=m+n+n:=by
  unfold zchk at hchk
  rw[Bool.and_eq_true,beq_iff_eq] at hchk
  exact hchk.1
 have o1:∀ {s:Nat},(s<sl∨sl+m≤s)→∀ j,j<m→s≠sl+j:=fun h j hj=>by omega
 have o2:∀ {s:Nat},(s<b0∨b0+n≤s)→∀ k,k<n→s≠b0+k:=fun h j hj=>by omega
 refine parzd_region hm m n (fun j=>sl+j) (fun k=>b0+k) (fun k=>vs.getD k m) (dL D) T zs W0 a0 (vL L) hsz (fun i o ho=>(zrow_a (zchk_row hchk ho)).1) (fun j w w' u hb h=>vL_stays hV1 j w w' u hb h) (fun j w u g cs' h1 h=>vL_zrows hV2 j w u g cs' h1 h) hVs ?_ ?_ ?_ hz hi ?_ (fun j hj=>Nat.lt_of_lt_of_le (Nat.add_lt_add_left hj sl) hin) (fun j hj=>Nat.lt_of_lt_of_le (Nat.add_lt_add_left hj b0) hbin) (fun i i' _ _ h=>Nat.add_left_cancel h) (fun i i' _ _ h=>Nat.add_left_cancel h) ?_ ?_
 ·intro j hj j' hj'
  obtain⟨o,ho⟩:∃ o,ops[j]?=some o:=⟨ops[j]'(by omega),Array.getElem?_eq_getElem (by omega)⟩
  have h4:=(zrow_b (zchk_row hchk ho) hj).2 j' hj'
  refine⟨h4.1,fun o' ho'=>?_⟩
  obtain rfl:o=o':=Option.some.inj (ho.symm.trans ho')
  exact h4.2
 ·intro j hj a w hb ho1 hd
  obtain⟨o,ho⟩:∃ o,ops[j]?=some o:=⟨ops[j]'(by omega),Array.getElem?_eq_getElem (by omega)⟩
  have hr:=zchk_row hchk ho
  refine step_wanted ho (zrow_a hr).2 ?_
  have h5:=hA j hj o ho a w hb (fun s hs hs2=>ho1 s (o1 hs) (o2 hs2)) hd
  rw[(zrow_b hr hj).1] at h5
  exact h5
 ·intro k hk
  obtain⟨o,ho,hop⟩:=hal k hk
  have hr:=zchk_row hchk ho
  exact⟨o,ho,(zrow_a hr).2,hop,zrow_c hr hk⟩
 ·intro k hk
  obtain⟨o,ho,hop⟩:=hst k hk
  have hr:=zchk_row hchk ho
  have hd:=zrow_d hr
  exact⟨hd.2.1,o,ho,(zrow_a hr).2,hop,hd.1,hd.2.2.1,hd.2.2.2⟩
 ·intro j k hj hk
  show sl+j≠b0+k
  omega
 ·intro u g a w hb hu hg hap hs hd hoth
  have ha:a=putL a0 ((List.range m).map (fun j=>(sl+j,u j))++(List.range n).map (fun k=>(b0+k,.pointer (some ⟨g k,0,none⟩)))):=by
   refine act_putL ?_ hs hd ?_ ?_
   ·have e:((List.range m).map (fun j=>(sl+j,u j))++(List.range n).map (fun k=>(b0+k,Value.pointer (some ⟨g k,0,none⟩)))).map (·.1)=(List.range m).map (fun j=>sl+j)++(List.range n).map (fun k=>b0+k):=by simp[Function.comp_def]
    rw[e,List.nodup_append]
    refine⟨?_,?_,?_⟩
    ·refine List.pairwise_map.2 ((List.nodup_range (n:=m)).imp_of_mem ?_)
     intro x y hx hy hne he
     exact hne (Nat.add_left_cancel he)
    ·refine List.pairwise_map.2 ((List.nodup_range (n:=n)).imp_of_mem ?_)
     intro x y hx hy hne he
     exact hne (Nat.add_left_cancel he)
    ·intro x hx y hy
     obtain⟨j,hj,rfl⟩:=List.mem_map.1 hx
     obtain⟨k,hk,rfl⟩:=List.mem_map.1 hy
     have h1:=List.mem_range.1 hj
     have h2:=List.mem_range.1 hk
     show sl+j≠b0+k
     omega
   ·intro p hp
    rcases List.mem_append.1 hp with h|h
    ·obtain⟨j,hj,rfl⟩:=List.mem_map.1 h
     exact(hu j (List.mem_range.1 hj)).1
    ·obtain⟨k,hk,rfl⟩:=List.mem_map.1 h
     exact(hg k (List.mem_range.1 hk)).1
   ·intro s hsn
    refine hoth s (fun j hj he=>hsn ?_) (fun k hk he=>hsn ?_)
    ·rw[List.map_append]
     exact List.mem_append_left _ (List.mem_map.2 ⟨_,List.mem_map.2 ⟨j,List.mem_range.2 hj,rfl⟩,he.symm⟩)
    ·rw[List.map_append]
     exact List.mem_append_right _ (List.mem_map.2 ⟨_,List.mem_map.2 ⟨k,List.mem_range.2 hk,rfl⟩,he.symm⟩)
  rw[ha]
  exact hQ u g w hb (fun j hj=>(hu j hj).2) (fun k hk=>⟨(hg k hk).2.1,(hg k hk).2.2⟩) hap
end Go.Proofs.YtcdkkpjilgmncaaGreatDoor
namespace Go.Proofs.YtcdkkpjilgmncaaGreatDoor
open Go.RowKit Go.Fl64
attribute [local go_sem] run_store_flt
theorem flt_under:Tryz.prog.underlying 22=some (.float .f64):=by kernel_rfl
theorem run_equalIn_flt (k x y:Nat) (w:World):(Op.equalIn (k+1) 22 (.float .f64 x) (.float .f64 y)).run Tryz.prog w=.ok (FloatKind.f64.format.order x y==some Ordering.eq) w:=by
 simp[Op.equalIn,run_underlying flt_under,Op.floatEq]
theorem eqIv (a b c d:Nat) (w:World):(Op.equalIn 10000 24 (.agg #[.float .f64 a,.float .f64 b]) (.agg #[.float .f64 c,.float .f64 d])).run Tryz.prog w=.ok ((FloatKind.f64.format.order a c==some Ordering.eq)&&(FloatKind.f64.format.order b d==some Ordering.eq)) w:=by
 have hS:Tryz.prog.underlying 24=some (.struct (Tryz.prog.fieldsOf 24)):=by kernel_rfl
 have hp:Tryz.prog.stoodInHeld 24=false:=by kernel_rfl
 have h1:=fun k=>run_equalIn_flt k a c w
 have h2:=fun k=>run_equalIn_flt k b d w
 rw[show(10000:Nat)=9999+1 from rfl,run_equalIn_agg w 9999 24 _ _ hS hp]
 simp only[Program.fieldsOf,Tryz.underlying24]
 rw[show(9999:Nat)=9998+1 from rfl]
 generalize (FloatKind.f64.format.order a c==some Ordering.eq)=p at *
 generalize (FloatKind.f64.format.order b d==some Ordering.eq)=q at *
 go_simp
 cases p <;> cases q <;> simp
def midV (v q i j:Bool) (H:Nat):Value:=if v then(if q then .tuple #[.float .f64 0,.int .i64 0] else if i then .tuple #[.float .f64 18442240474082181119,.int .i64 0] else if j then .tuple #[.float .f64 9218868437227405311,.int .i64 0] else .tuple #[.float .f64 H,.int .i64 0])else .tuple #[.float .f64 0,.int .i64 1]
theorem smid_1 (lo hi H:Nat) (v q i j:Bool) (w:World)
  (k1:∀ W,Calls Tryz.prog 12 #[.agg #[.float .f64 lo,.float .f64 hi]] W fun r w'=>r=.returned (.bool v)∧Bw W w')
  (he:∀ W,(Op.equalIn 10000 24 (.agg #[.float .f64 lo,.float .f64 hi]) (.agg #[.float .f64 18442240474082181120,.float .f64 9218868437227405312])).run Tryz.prog W=.ok q W)
  (k3:∀ W,Calls Tryz.prog 34 #[.float .f64 lo,.int .i64 0] W fun r w'=>r=.returned (.bool i)∧w'=W)
  (k4:∀ W,Calls Tryz.prog 34 #[.float .f64 hi,.int .i64 0] W fun r w'=>r=.returned (.bool j)∧w'=W)
  (k5:v=true→i=false→j=false→∀ W,Bw w W→Calls Tryz.prog 121 #[.float .f64 lo,.float .f64 hi] W fun r w'=>r=.returned (.float .f64 H)∧Bw W w') :
  Calls Tryz.prog 74 #[.agg #[.float .f64 lo,.float .f64 hi]] w fun r w'=>r=.returned (midV v q i j H)∧Bw w w':=by
 have HE:Hid (∀ W,(Op.equalIn 10000 24 (.agg #[.float .f64 lo,.float .f64 hi]) (.agg #[.float .f64 18442240474082181120,.float .f64 9218868437227405312])).run Tryz.prog W=.ok q W):=he
 have H3:Hid _:=k3
 have H4:Hid _:=k4
 have H5:Hid _:=k5
 obtain⟨W,hW⟩:∃ W,W=(w.alloc (.cells #[.float .f64 lo,.float .f64 hi] 24)):=⟨_,rfl⟩
 have HX:Hid (Bw w W∧IvB W (w.heap.size) lo hi):=by
  rw[hW]
  exact⟨bxs1_0 w lo hi,bxs1_1 w lo hi⟩
 have HK:Hid (∀ w',Bw W w'→IvF w' (w.heap.size) lo hi):=fun w' hb=>(HX.out.2).later hb
 obtain⟨c0,c1,z0,z1⟩:=HK.out W (Below.refl _ _)
 have kk:=k1 W
 have HV:Hid (Bw w W):=HX.out.1
 clear k1 k3 k4 k5 he
 go_enter Tryz.func74,Tryz.ntmps74
 go_upto_region 1 with fail
 rw[←hW]
 clear hW
 go_wp2_with fail
 refine kk.mono ?_
 rintro r w1 ⟨rfl,hb1⟩
 clear kk c0 c1 z0 z1
 obtain⟨c0,c1,z0,z1⟩:=HK.out w1 hb1
 have HB1:Hid (Bw W w1):=hb1
 clear hb1
 cases v
 ·have HB:Hid (Bw w w1):=HV.out.trans (HB1.out.mono HV.out.size)
  clear HK HX HB1 H3 H4 H5 HE
  go_wp2
  go_ret2
  exact⟨rfl,HB.out⟩
 have he:=HE.out
 have hR:Bw W w1.drew:=HB1.out.drew
 obtain⟨d0,d1,y0,y1⟩:=HK.out w1.drew hR
 go_upto_region 3 with fail
 go_region_held3 (fun w'=>w'.cell? ⟨w.heap.size,0,none⟩=some (.float .f64 lo)∧w'.cell? ⟨w.heap.size,1,none⟩=some (.float .f64 hi)) (first|(with_reducible assumption)|exact⟨d0,d1⟩|exact⟨c0,c1⟩|exact⟨(HK.out _ hb2).1,(HK.out _ hb2).2.1⟩|exact⟨(HK.out _ hb2.drew).1,(HK.out _ hb2.drew).2.1⟩|go_keep)
  (first|(go_at_call 32;refine(sall _).mono ?_;rintro r w2 ⟨rfl,hb2⟩;replace hb2:=hR.trans (hb2.mono hR.size)))
 obtain⟨u0,u1,u2,u3⟩:=HK.out w2 hb2
 have HB2:Hid (Bw w w2):=HV.out.trans (hb2.mono HV.out.size)
 have k3:=H3.out
 have k4:=H4.out
 clear c0 c1 z0 z1 d0 d1 y0 y1 hR HB1 HK HX HE H3 H4 HV hb2 he
 cases q
 case true =>
  go_wp2
  go_ret2
  exact⟨rfl,HB2.out⟩
 cases i
 case true =>
  go_wp2_with (first|(go_at_call 34;refine(k3 _).mono ?_;rintro r w' ⟨rfl,hw⟩;replace hw:=hw.symm;subst hw))
  go_ret2
  exact⟨rfl,HB2.out⟩
 cases j
 case true =>
  go_wp2_with (first|(go_at_call 34;first|(with_reducible refine(k3 _).mono ?_;rintro r w' ⟨rfl,hw⟩;replace hw:=hw.symm;subst hw)|(with_reducible refine(k4 _).mono ?_;rintro r w' ⟨rfl,hw⟩;replace hw:=hw.symm;subst hw)))
  go_ret2
  exact⟨rfl,HB2.out⟩
 have kk:=H5.out (by simp) (by simp) (by simp) w2 HB2.out
 go_wp2_with (first|(go_at_call 34;first|(with_reducible refine(k3 _).mono ?_;rintro r w' ⟨rfl,hw⟩;replace hw:=hw.symm;subst hw)|(with_reducible refine(k4 _).mono ?_;rintro r w' ⟨rfl,hw⟩;replace hw:=hw.symm;subst hw)))
 refine kk.mono ?_
 rintro r w3 ⟨rfl,hb3⟩
 have HB3:Hid (Bw w w3):=HB2.out.trans (hb3.mono HB2.out.size)
 clear kk hb3
 go_wp2_with fail
 go_ret2
 exact⟨rfl,HB3.out⟩
def radV (e:Int) (R:Nat):Value:=if e=0 then .tuple #[.float .f64 R,.int .i64 0] else .tuple #[.float .f64 0,.int .i64 e]
theorem srad_1 (lo hi M P Q R:Nat) (e:Int) (w:World)
  (k1:∀ W,Bw w W→Calls Tryz.prog 74 #[.agg #[.float .f64 lo,.float .f64 hi]] W fun r w'=>r=.returned (.tuple #[.float .f64 M,.int .i64 e])∧Bw W w')
  (k2:e=0→∀ W,Bw w W→Calls Tryz.prog 75 #[.float .f64 M,.float .f64 lo,.int .i64 3] W fun r w'=>r=.returned (.float .f64 P)∧Bw W w')
  (k3:e=0→∀ W,Bw w W→Calls Tryz.prog 75 #[.float .f64 hi,.float .f64 M,.int .i64 3] W fun r w'=>r=.returned (.float .f64 Q)∧Bw W w')
  (hm:e=0→∀ W ts t,(Builtin.max_ ts t #[.float .f64 P,.float .f64 Q]).run Tryz.prog W=.ok (.float .f64 R) W) :
  Calls Tryz.prog 31 #[.agg #[.float .f64 lo,.float .f64 hi]] w fun r w'=>r=.returned (radV e R)∧Bw w w':=by
 have H2:Hid _:=k2
 have H3:Hid _:=k3
 have HM:Hid (e=0→∀ W ts t,(Builtin.max_ ts t #[.float .f64 P,.float .f64 Q]).run Tryz.prog W=.ok (.float .f64 R) W):=hm
 obtain⟨W,hW⟩:∃ W,W=(w.alloc (.cells #[.float .f64 lo,.float .f64 hi] 24)):=⟨_,rfl⟩
 have HX:Hid (Bw w W∧IvB W (w.heap.size) lo hi):=by
  rw[hW]
  exact⟨bxs1_0 w lo hi,bxs1_1 w lo hi⟩
 have HK:Hid (∀ w',Bw W w'→IvF w' (w.heap.size) lo hi):=fun w' hb=>(HX.out.2).later hb
 obtain⟨c0,c1,z0,z1⟩:=HK.out W (Below.refl _ _)
 have HV:Hid (Bw w W):=HX.out.1
 have kk:=k1 W HV.out
 clear k1 k2 k3 hm
 go_enter Tryz.func31,Tryz.ntmps31
 go_upto_region 1 with fail
 rw[←hW]
 clear hW
 go_wp2_with fail
 refine kk.mono ?_
 rintro r w1 ⟨rfl,hb1⟩
 clear kk c0 c1 z0 z1
 obtain⟨c0,c1,z0,z1⟩:=HK.out w1 hb1
 have HB1:Hid (Bw W w1):=hb1
 have HB:Hid (Bw w w1):=HV.out.trans (hb1.mono HV.out.size)
 clear hb1
 by_cases he:e=0
 ·subst he
  have hm:=HM.out rfl
  have hR:Bw W w1.drew:=HB1.out.drew
  have q2:∀ W',Bw W W'→Calls Tryz.prog 75 #[.float .f64 M,.float .f64 lo,.int .i64 3] W' fun r w'=>r=.returned (.float .f64 P)∧Bw W w':=fun W' h=>(H2.out rfl W' (HV.out.trans (h.mono HV.out.size))).mono fun r w' ⟨e1,e2⟩=>⟨e1,h.trans (e2.mono h.size)⟩
  have q3:∀ W',Bw W W'→Calls Tryz.prog 75 #[.float .f64 hi,.float .f64 M,.int .i64 3] W' fun r w'=>r=.returned (.float .f64 Q)∧Bw W w':=fun W' h=>(H3.out rfl W' (HV.out.trans (h.mono HV.out.size))).mono fun r w' ⟨e1,e2⟩=>⟨e1,h.trans (e2.mono h.size)⟩
  obtain⟨d0,d1,y0,y1⟩:=HK.out w1.drew hR
  clear HM H2 H3
  go_upto_region 4 with fail
  go_region_held3 (fun w'=>w'.cell? ⟨w.heap.size,0,none⟩=some (.float .f64 lo)∧w'.cell? ⟨w.heap.size,1,none⟩=some (.float .f64 hi)) (first|(with_reducible assumption)|exact⟨d0,d1⟩|exact⟨c0,c1⟩|exact⟨(HK.out _ hb3).1,(HK.out _ hb3).2.1⟩|exact⟨(HK.out _ hb2).1,(HK.out _ hb2).2.1⟩|go_keep)
   (first|(go_at_call 75;with_reducible refine(q2 _ hR).mono ?_;rintro r w2 ⟨rfl,hb2⟩)|(go_at_call 75;with_reducible refine(q3 _ hb2).mono ?_;rintro r w3 ⟨rfl,hb3⟩))
  have HB3:Hid (Bw w w3):=HV.out.trans (hb3.mono HV.out.size)
  clear c0 c1 z0 z1 d0 d1 y0 y1 hR HB1 HK HX q2 q3 HV hb2 hb3
  go_wp2_with fail
  go_ret2
  exact⟨rfl,HB3.out⟩
 ·have hq:(e==0)=false:=by simp[he]
  have hq2:(e != 0)=true:=by simp[he]
  have HE:Hid (e≠0):=he
  clear HM H2 H3 HK HX HV HB1 he
  go_wp2
  go_ret2
  exact⟨by unfold radV;rw[if_neg HE.out];rfl,HB.out⟩
def iAll (lo hi:Nat):Bool:=eq lo 18442240474082181120&&eq hi 9218868437227405312
def iFar (a:Nat):Bool:=lt 9218868437227405311 (mag a)
theorem far_fin {a:Nat} (h:iFar a=false) (hn:isNaN a=false):mag a<9218868437227405312:=by
 have n':¬ 9218868437227405312<mag a:=of_decide_eq_false hn
 have hm:isNaN (mag a)=false:=by
  unfold isNaN
  rw[show mag (mag a)=mag a by unfold mag;omega]
  exact decide_eq_false n'
 have hs:stp (mag a)=(mag a:Int):=by
  unfold stp sgn neg
  rw[show mag (mag a)=mag a by unfold mag;omega,if_neg (by have:=mag_lt a;simp;omega)]
 unfold iFar lt at h
 rw[hm,hs,show isNaN 9218868437227405311=false by decide,show stp 9218868437227405311=9218868437227405311 by decide] at h
 simp only[Bool.not_false,Bool.true_and,decide_eq_false_iff_not] at h
 omega
theorem smid (lo hi:Nat) (h1:lo<18446744073709551616) (h2:hi<18446744073709551616) (w:World) (hT:Tab32 w) (hJ:Ie.Tab w) :
  Calls Tryz.prog 74 #[.agg #[.float .f64 lo,.float .f64 hi]] w fun r w'=>r=.returned (midV (vI lo hi) (iAll lo hi) (iFar lo) (iFar hi) (hfS lo hi))∧Bw w w':=by
 refine smid_1 lo hi _ _ _ _ _ w (fun W=>svalid lo hi h1 h2 W) (fun W=>?_) (fun W=>c123 lo h1 W) (fun W=>c123 hi h2 W) (fun hv hi' hj W h=>shalf lo hi h1 h2 (far_fin hi' (vI_nn hv).1) (far_fin hj (vI_nn hv).2) W (hT.later h) (Tab.later hJ h))
 rw[eqIv,ord_eq lo _ h1 (by omega),ord_eq hi _ h2 (by omega)]
 rfl
def mdF (lo hi:Nat):Nat:=if iAll lo hi then 0 else if iFar lo then 18442240474082181119 else if iFar hi then 9218868437227405311 else hfS lo hi
theorem mdF_lt (lo hi:Nat):mdF lo hi<18446744073709551616:=by
 unfold mdF
 split
 ·omega
 ·split
  ·omega
  ·split
   ·omega
   ·exact hfS_lt _ _
theorem midV_eq (v:Bool) (lo hi:Nat):midV v (iAll lo hi) (iFar lo) (iFar hi) (hfS lo hi)=.tuple #[.float .f64 (if v then mdF lo hi else 0),.int .i64 (if v then 0 else 1)]:=by
 unfold midV mdF
 cases v
 ·rfl
 ·cases iAll lo hi
  ·cases iFar lo
   ·cases iFar hi <;> rfl
   ·rfl
  ·rfl
def rdP (lo hi:Nat):Nat:=fAdM (mdF lo hi) (ngt lo) 3
def rdQ (lo hi:Nat):Nat:=fAdM hi (ngt (mdF lo hi)) 3
theorem srad (lo hi:Nat) (h1:lo<18446744073709551616) (h2:hi<18446744073709551616) (w:World) (hT:Tab32 w) (hJ:Ie.Tab w) (hP:vI lo hi=true→isNaN (rdP lo hi)=false) (hQ:vI lo hi=true→isNaN (rdQ lo hi)=false) :
  Calls Tryz.prog 31 #[.agg #[.float .f64 lo,.float .f64 hi]] w fun r w'=>r=.returned (radV (if vI lo hi then 0 else 1) (fMax (rdP lo hi) (rdQ lo hi)))∧Bw w w':=by
 have hv:(if vI lo hi=true then(0:Int)else 1)=0→vI lo hi=true:=by
  cases vI lo hi <;> simp
 have m3:(1:Int)≤3∧(3:Int)≤3:=by omega
 have hPl:rdP lo hi<18446744073709551616:=(faddM_p _ _ 3 m3 (mdF_lt lo hi) (ngt_lt h1)).1
 have hQl:rdQ lo hi<18446744073709551616:=(faddM_p _ _ 3 m3 h2 (ngt_lt (mdF_lt lo hi))).1
 refine srad_1 lo hi (if vI lo hi then mdF lo hi else 0) (rdP lo hi) (rdQ lo hi) _ _ w (fun W h=>?_) (fun he W h=>?_) (fun he W h=>?_) (fun he W ts t=>run_fmax W ts t _ _ hPl hQl (hP (hv he)) (hQ (hv he)))
 ·have:=smid lo hi h1 h2 W (hT.later h) (Tab.later hJ h)
  rw[midV_eq] at this
  exact this
 ·rw[if_pos (hv he)]
  refine(fsubM (mdF lo hi) lo 3 m3 (mdF_lt lo hi) h1 W (hT.later h) (Tab.later hJ h)).mono ?_
  rintro r w' ⟨n,rfl,hl,hb⟩
  rw[hl.eq (hP (hv he))]
  exact⟨rfl,hb⟩
 ·rw[if_pos (hv he)]
  refine(fsubM hi (mdF lo hi) 3 m3 h2 (mdF_lt lo hi) W (hT.later h) (Tab.later hJ h)).mono ?_
  rintro r w' ⟨n,rfl,hl,hb⟩
  rw[hl.eq (hQ (hv he))]
  exact⟨rfl,hb⟩
theorem rad_at:vI 4607182418800017408 4611686018427387904=true∧isNaN (rdP 4607182418800017408 4611686018427387904)=false∧isNaN (rdQ 4607182418800017408 4611686018427387904)=false∧fMax (rdP 4607182418800017408 4611686018427387904) (rdQ 4607182418800017408 4611686018427387904)=4602678819172646912:=by decide +kernel
attribute [local go_sem] run_store_flt
theorem works_1 (w : World)
    (k1 : ∀ W, Bw w W → Calls Tryz.prog 27 #[.agg #[.float .f64 13830554455654793216, .float .f64 4611686018427387904], .agg #[.float .f64 4613937818241073152, .float .f64 9218868437227405312]] W fun r w' => r = .returned (.tuple #[.agg #[.float .f64 18442240474082181120, .float .f64 9218868437227405312], .int .i64 0]) ∧ Bw W w')
    (k2 : ∀ W, Bw w W → Calls Tryz.prog 30 #[.agg #[.float .f64 4607182418800017408, .float .f64 4607182418800017408], .agg #[.float .f64 4613937818241073152, .float .f64 4613937818241073152]] W fun r w' => r = .returned (.tuple #[.agg #[.float .f64 4599676419421066581, .float .f64 4599676419421066582], .int .i64 0]) ∧ Bw W w')
    (k3 : ∀ W, Bw w W → Calls Tryz.prog 30 #[.agg #[.float .f64 4607182418800017408, .float .f64 4607182418800017408], .agg #[.float .f64 13830554455654793216, .float .f64 4607182418800017408]] W fun r w' => r = .returned (.tuple #[.agg #[.float .f64 0, .float .f64 0], .int .i64 6]) ∧ Bw W w')
    (k4 : ∀ W, Bw w W → Calls Tryz.prog 31 #[.agg #[.float .f64 4607182418800017408, .float .f64 4611686018427387904]] W fun r w' => r = .returned (.tuple #[.float .f64 4602678819172646912, .int .i64 0]) ∧ Bw W w')
    (k5 : ∀ W, Bw w W → Calls Tryz.prog 33 #[.agg #[.float .f64 4607182418800017408, .float .f64 4611686018427387904], .float .f64 4609434218613702656] W fun r w' => r = .returned (.bool true) ∧ Bw W w')
    (k6 : ∀ W, Bw w W → Calls Tryz.prog 33 #[.agg #[.float .f64 4607182418800017408, .float .f64 4611686018427387904], .float .f64 4613937818241073152] W fun r w' => r = .returned (.bool false) ∧ Bw W w') :
    Calls Tryz.prog 11 #[] w fun r w' => r = .returned (.bool true) ∧ Bw w w' := by
  have hh : (FloatKind.f64.format.order 4602678819172646912 4602678819172646912 == some Ordering.eq) = true := by decide
  have H1 : Hid _ := k1
  have H2 : Hid _ := k2
  have H3 : Hid _ := k3
  have H4 : Hid _ := k4
  have H5 : Hid _ := k5
  have H6 : Hid _ := k6
  have A0 : Hid (Bw w w) := Below.refl _ _
  clear k1 k2 k3 k4 k5 k6
  go_enter Tryz.func11, Tryz.ntmps11
  have kk := lof 13830554455654793216 4611686018427387904 w
  go_wp2_with fail
  refine kk.mono ?_
  rintro r w1 ⟨rfl, hb⟩
  have A1 : Hid (Bw w w1) := A0.out.trans (hb.mono A0.out.size)
  clear hb kk A0
  go_wp2_with fail
  refine (cinf_p w1).mono ?_
  rintro r w' ⟨rfl, hw⟩
  replace hw := hw.symm
  subst hw
  have kk := lof 4613937818241073152 9218868437227405312 w1
  go_wp2_with fail
  refine kk.mono ?_
  rintro r w2 ⟨rfl, hb⟩
  have A2 : Hid (Bw w w2) := A1.out.trans (hb.mono A1.out.size)
  clear hb kk A1
  have kk := H1.out w2 A2.out
  go_wp2_with fail
  refine kk.mono ?_
  rintro r w3 ⟨rfl, hb⟩
  have A3 : Hid (Bw w w3) := A2.out.trans (hb.mono A2.out.size)
  clear hb kk A2
  obtain ⟨V1, hV1⟩ : ∃ V, V = w3.alloc (.cells #[.float .f64 18442240474082181120, .float .f64 9218868437227405312] 24) := ⟨_, rfl⟩
  have AV1 : Hid (Bw w V1) := by rw [hV1]; exact A3.out.alloc A3.out.size _
  have XV1 : Hid (IvB V1 w3.heap.size 18442240474082181120 9218868437227405312) := by rw [hV1]; exact IvB.new _ _ _
  have BV1_V1 : Hid (Bw V1 V1) := Below.refl _ _
  clear A3
  have kk := lof 4607182418800017408 4607182418800017408 V1
  go_wp2_with fail
  rw [← hV1]
  clear hV1
  generalize hgV1 : w3.heap.size = gV1 at *
  clear hgV1
  refine kk.mono ?_
  rintro r w4 ⟨rfl, hb⟩
  have A4 : Hid (Bw w w4) := AV1.out.trans (hb.mono AV1.out.size)
  have BV1_4 : Hid (Bw V1 w4) := BV1_V1.out.trans (hb.mono BV1_V1.out.size)
  clear BV1_V1
  clear hb kk AV1
  have kk := lof 4613937818241073152 4613937818241073152 w4
  go_wp2_with fail
  refine kk.mono ?_
  rintro r w5 ⟨rfl, hb⟩
  have A5 : Hid (Bw w w5) := A4.out.trans (hb.mono A4.out.size)
  have BV1_5 : Hid (Bw V1 w5) := BV1_4.out.trans (hb.mono BV1_4.out.size)
  clear BV1_4
  clear hb kk A4
  have kk := H2.out w5 A5.out
  go_wp2_with fail
  refine kk.mono ?_
  rintro r w6 ⟨rfl, hb⟩
  have A6 : Hid (Bw w w6) := A5.out.trans (hb.mono A5.out.size)
  have BV1_6 : Hid (Bw V1 w6) := BV1_5.out.trans (hb.mono BV1_5.out.size)
  clear BV1_5
  clear hb kk A5
  obtain ⟨V2, hV2⟩ : ∃ V, V = w6.alloc (.cells #[.float .f64 4599676419421066581, .float .f64 4599676419421066582] 24) := ⟨_, rfl⟩
  have AV2 : Hid (Bw w V2) := by rw [hV2]; exact A6.out.alloc A6.out.size _
  have XV2 : Hid (IvB V2 w6.heap.size 4599676419421066581 4599676419421066582) := by rw [hV2]; exact IvB.new _ _ _
  have BV1_V2 : Hid (Bw V1 V2) := by rw [hV2]; exact BV1_6.out.alloc BV1_6.out.size _
  clear BV1_6
  have BV2_V2 : Hid (Bw V2 V2) := Below.refl _ _
  clear A6
  have kk := lof 4607182418800017408 4607182418800017408 V2
  go_wp2_with fail
  rw [← hV2]
  clear hV2
  generalize hgV2 : w6.heap.size = gV2 at *
  clear hgV2
  refine kk.mono ?_
  rintro r w7 ⟨rfl, hb⟩
  have A7 : Hid (Bw w w7) := AV2.out.trans (hb.mono AV2.out.size)
  have BV1_7 : Hid (Bw V1 w7) := BV1_V2.out.trans (hb.mono BV1_V2.out.size)
  clear BV1_V2
  have BV2_7 : Hid (Bw V2 w7) := BV2_V2.out.trans (hb.mono BV2_V2.out.size)
  clear BV2_V2
  clear hb kk AV2
  have kk := lof 13830554455654793216 4607182418800017408 w7
  go_wp2_with fail
  refine kk.mono ?_
  rintro r w8 ⟨rfl, hb⟩
  have A8 : Hid (Bw w w8) := A7.out.trans (hb.mono A7.out.size)
  have BV1_8 : Hid (Bw V1 w8) := BV1_7.out.trans (hb.mono BV1_7.out.size)
  clear BV1_7
  have BV2_8 : Hid (Bw V2 w8) := BV2_7.out.trans (hb.mono BV2_7.out.size)
  clear BV2_7
  clear hb kk A7
  have kk := H3.out w8 A8.out
  go_wp2_with fail
  refine kk.mono ?_
  rintro r w9 ⟨rfl, hb⟩
  have A9 : Hid (Bw w w9) := A8.out.trans (hb.mono A8.out.size)
  have BV1_9 : Hid (Bw V1 w9) := BV1_8.out.trans (hb.mono BV1_8.out.size)
  clear BV1_8
  have BV2_9 : Hid (Bw V2 w9) := BV2_8.out.trans (hb.mono BV2_8.out.size)
  clear BV2_8
  clear hb kk A8
  obtain ⟨V3, hV3⟩ : ∃ V, V = w9.alloc (.cells #[.float .f64 0, .float .f64 0] 24) := ⟨_, rfl⟩
  have AV3 : Hid (Bw w V3) := by rw [hV3]; exact A9.out.alloc A9.out.size _
  have XV3 : Hid (IvB V3 w9.heap.size 0 0) := by rw [hV3]; exact IvB.new _ _ _
  have BV1_V3 : Hid (Bw V1 V3) := by rw [hV3]; exact BV1_9.out.alloc BV1_9.out.size _
  clear BV1_9
  have BV2_V3 : Hid (Bw V2 V3) := by rw [hV3]; exact BV2_9.out.alloc BV2_9.out.size _
  clear BV2_9
  have BV3_V3 : Hid (Bw V3 V3) := Below.refl _ _
  clear A9
  have kk := lof 4607182418800017408 4611686018427387904 V3
  go_wp2_with fail
  rw [← hV3]
  clear hV3
  generalize hgV3 : w9.heap.size = gV3 at *
  clear hgV3
  refine kk.mono ?_
  rintro r w10 ⟨rfl, hb⟩
  have A10 : Hid (Bw w w10) := AV3.out.trans (hb.mono AV3.out.size)
  have BV1_10 : Hid (Bw V1 w10) := BV1_V3.out.trans (hb.mono BV1_V3.out.size)
  clear BV1_V3
  have BV2_10 : Hid (Bw V2 w10) := BV2_V3.out.trans (hb.mono BV2_V3.out.size)
  clear BV2_V3
  have BV3_10 : Hid (Bw V3 w10) := BV3_V3.out.trans (hb.mono BV3_V3.out.size)
  clear BV3_V3
  clear hb kk AV3
  have kk := H4.out w10 A10.out
  go_wp2_with fail
  refine kk.mono ?_
  rintro r w11 ⟨rfl, hb⟩
  have A11 : Hid (Bw w w11) := A10.out.trans (hb.mono A10.out.size)
  have BV1_11 : Hid (Bw V1 w11) := BV1_10.out.trans (hb.mono BV1_10.out.size)
  clear BV1_10
  have BV2_11 : Hid (Bw V2 w11) := BV2_10.out.trans (hb.mono BV2_10.out.size)
  clear BV2_10
  have BV3_11 : Hid (Bw V3 w11) := BV3_10.out.trans (hb.mono BV3_10.out.size)
  clear BV3_10
  clear hb kk A10
  have XM : Hid (IvB w11 gV1 18442240474082181120 9218868437227405312) := XV1.out.box BV1_11.out
  have XQ : Hid (IvB w11 gV2 4599676419421066581 4599676419421066582) := XV2.out.box BV2_11.out
  clear XV1 XV2 XV3 BV1_11 BV2_11 BV3_11
  have HK : Hid (∀ w', Bw w11 w' → ((w'.cell? ⟨gV1, 0, none⟩ = some (.float .f64 18442240474082181120) ∧ w'.cell? ⟨gV1, 1, none⟩ = some (.float .f64 9218868437227405312)) ∧ (w'.cell? ⟨gV2, 0, none⟩ = some (.float .f64 4599676419421066581) ∧ w'.cell? ⟨gV2, 1, none⟩ = some (.float .f64 4599676419421066582))) ∧ Bw w11 w') := fun w' hb => ⟨⟨⟨(XM.out.later hb).1, (XM.out.later hb).2.1⟩, (XQ.out.later hb).1, (XQ.out.later hb).2.1⟩, hb⟩
  have hBR : Bw w11 w11.drew := (Below.refl _ _).drew
  have q1 : ∀ W, Bw w11 W → Calls Tryz.prog 32 #[] W fun r w' => r = .returned (.agg #[.float .f64 18442240474082181120, .float .f64 9218868437227405312]) ∧ Bw w11 w' := fun W h => (sall W).mono fun r w' ⟨e1, e2⟩ => ⟨e1, h.trans (e2.mono h.size)⟩
  have q2 : ∀ W, Bw w11 W → Calls Tryz.prog 10 #[.agg #[.float .f64 18442240474082181120, .float .f64 9218868437227405312], .agg #[.float .f64 18442240474082181120, .float .f64 9218868437227405312]] W fun r w' => r = .returned (.bool true) ∧ Bw w11 w' := fun W h => (isame _ _ (by omega) (by omega) W).mono fun r w' ⟨e1, e2⟩ => ⟨e1, h.trans (e2.mono h.size)⟩
  have q3 : ∀ W, Bw w11 W → Calls Tryz.prog 10 #[.agg #[.float .f64 4599676419421066581, .float .f64 4599676419421066582], .agg #[.float .f64 4599676419421066581, .float .f64 4599676419421066582]] W fun r w' => r = .returned (.bool true) ∧ Bw w11 w' := fun W h => (isame _ _ (by omega) (by omega) W).mono fun r w' ⟨e1, e2⟩ => ⟨e1, h.trans (e2.mono h.size)⟩
  have q4 : ∀ a b W, Bw w11 W → Calls Tryz.prog 28 #[.float .f64 a, .float .f64 b] W fun r w' => r = .returned (.agg #[.float .f64 a, .float .f64 b]) ∧ Bw w11 w' := fun a b W h => (lof a b W).mono fun r w' ⟨e1, e2⟩ => ⟨e1, h.trans (e2.mono h.size)⟩
  have q5 : ∀ W, Bw w11 W → Calls Tryz.prog 33 #[.agg #[.float .f64 4607182418800017408, .float .f64 4611686018427387904], .float .f64 4609434218613702656] W fun r w' => r = .returned (.bool true) ∧ Bw w11 w' := fun W h => (H5.out W (A11.out.trans (h.mono A11.out.size))).mono fun r w' ⟨e1, e2⟩ => ⟨e1, h.trans (e2.mono h.size)⟩
  have q6 : ∀ W, Bw w11 W → Calls Tryz.prog 33 #[.agg #[.float .f64 4607182418800017408, .float .f64 4611686018427387904], .float .f64 4613937818241073152] W fun r w' => r = .returned (.bool false) ∧ Bw w11 w' := fun W h => (H6.out W (A11.out.trans (h.mono A11.out.size))).mono fun r w' ⟨e1, e2⟩ => ⟨e1, h.trans (e2.mono h.size)⟩
  clear H1 H2 H3 H4 H5 H6 XM XQ
  obtain ⟨⟨⟨a0, a1⟩, a2, a3⟩, -⟩ := HK.out w11 (Below.refl _ _)
  go_upto_region 5 with fail
  go_region_held3 (fun w' => ((w'.cell? ⟨gV1, 0, none⟩ = some (.float .f64 18442240474082181120) ∧ w'.cell? ⟨gV1, 1, none⟩ = some (.float .f64 9218868437227405312)) ∧ (w'.cell? ⟨gV2, 0, none⟩ = some (.float .f64 4599676419421066581) ∧ w'.cell? ⟨gV2, 1, none⟩ = some (.float .f64 4599676419421066582))) ∧ Bw w11 w') (first | (with_reducible assumption) | exact HK.out _ hBR | (refine HK.out _ ?_; with_reducible assumption) | go_keep)
    (first | (go_at_call 32; with_reducible refine (q1 _ (by first | (with_reducible assumption) | exact hBR)).mono ?_; rintro r w5 ⟨rfl, hb5⟩)
           | (go_at_call 10; with_reducible refine (q2 _ (by first | (with_reducible assumption) | exact hBR)).mono ?_; rintro r w5 ⟨rfl, hb5⟩)
           | (go_at_call 10; with_reducible refine (q3 _ (by first | (with_reducible assumption) | exact hBR)).mono ?_; rintro r w5 ⟨rfl, hb5⟩)
           | (go_at_call 28; with_reducible refine (q4 _ _ _ (by first | (with_reducible assumption) | exact hBR)).mono ?_; rintro r w5 ⟨rfl, hb5⟩)
           | (go_at_call 33; with_reducible refine (q5 _ (by first | (with_reducible assumption) | exact hBR)).mono ?_; rintro r w5 ⟨rfl, hb5⟩)
           | (go_at_call 33; with_reducible refine (q6 _ (by first | (with_reducible assumption) | exact hBR)).mono ?_; rintro r w5 ⟨rfl, hb5⟩))
  have HF : Hid (Bw w w5) := A11.out.trans (hb5.mono A11.out.size)
  clear q1 q2 q3 q4 q5 q6 HK hBR a0 a1 a2 a3 hb5
  go_wp2_with fail
  go_ret
  exact ⟨rfl, HF.out⟩
theorem works8 (w:World) (hT:Tab32 w) (hJ:Ie.Tab w):Calls Tryz.prog 11 #[] w fun r w'=>r=.returned (.bool true)∧Bw w w':=by
 refine works_1 w (fun W h=>?_) (fun W h=>?_) (fun W h=>?_) (fun W h=>?_) (fun W h=>?_) (fun W h=>?_)
 ·have k:=smul 13830554455654793216 4611686018427387904 4613937818241073152 9218868437227405312 (by omega) (by omega) (by omega) (by omega) W (hT.later h) (Tab.later hJ h)
  rw[mul_at.1,mul_at.2.1,mul_at.2.2] at k
  exact k
 ·have k:=squo 4607182418800017408 4607182418800017408 4613937818241073152 4613937818241073152 (by omega) (by omega) (by omega) (by omega) W (hT.later h) (Tab.later hJ h)
  rw[quo_at.1,quo_at.2.1,quo_at.2.2.1,quo_at.2.2.2] at k
  exact k
 ·have k:=squo 4607182418800017408 4607182418800017408 13830554455654793216 4607182418800017408 (by omega) (by omega) (by omega) (by omega) W (hT.later h) (Tab.later hJ h)
  rw[quo_at2.1,quo_at2.2] at k
  exact k
 ·have k:=srad 4607182418800017408 4611686018427387904 (by omega) (by omega) W (hT.later h) (Tab.later hJ h) (fun _=>rad_at.2.1) (fun _=>rad_at.2.2.1)
  rw[rad_at.2.2.2,rad_at.1] at k
  exact k
 ·have k:=shas 4607182418800017408 4611686018427387904 4609434218613702656 (by omega) (by omega) (by omega) W
  rw[has_at.1] at k
  exact k
 ·have k:=shas 4607182418800017408 4611686018427387904 4613937818241073152 (by omega) (by omega) (by omega) W
  rw[has_at.2] at k
  exact k
attribute [local go_sem] run_store_flt
attribute [local go_sem] run_store_flt
attribute [local go_sem] run_store_flt
theorem run_fieldI0 (g:Nat) (w:World):(Instr.fieldAt 24 (.pointer (some ⟨g,0,none⟩)) 0).run Tryz.prog w=.ok (.pointer (some ⟨g,0,none⟩)) w:=by kernel_rfl
theorem run_fieldI1 (g:Nat) (w:World):(Instr.fieldAt 24 (.pointer (some ⟨g,0,none⟩)) 1).run Tryz.prog w=.ok (.pointer (some ⟨g,1,none⟩)) w:=by kernel_rfl
theorem run_loadF (g f x:Nat) (w:World) (h:w.cell? ⟨g,f,none⟩=some (.float .f64 x)):(Instr.loadAt 22 (.pointer (some ⟨g,f,none⟩))).run Tryz.prog w=.ok (.float .f64 x) w:=by
 have u:=Tryz.isAgg22
 simp[Instr.loadAt,Instr.sureAddr,loadVar,h,go_sem]
end Go.Proofs.YtcdkkpjilgmncaaGreatDoor
