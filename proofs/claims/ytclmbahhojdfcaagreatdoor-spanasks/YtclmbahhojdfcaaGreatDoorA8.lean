/- Own work: contracts of the program's functions, part 8: SN6 SN7 SN8 SN9 SNB SNC SND. -/
import Derived.Test.YtclmbahhojdfcaaGreatDoorA7

set_option maxHeartbeats 16000000
set_option maxRecDepth 200000
set_option linter.unusedVariables false
set_option linter.unusedSimpArgs false
namespace Go.Proofs.YtclmbahhojdfcaaGreatDoor
open Go.RowKit Go.Fl64
theorem rd (x:Nat) (hx:x<18446744073709551616) (nx:isNaN x=false) :
  (mag x=9218868437227405312∧FloatKind.f64.decode x=.infinity (neg x))∨(mag x<9218868437227405312∧(FloatKind.f64.decode x).isInfinity=false∧(FloatKind.f64.decode x).isNaN=false∧(FloatKind.f64.decode x).neg=neg x∧(FloatKind.f64.decode x).isZero=decide (mag x=0)):=by
 unfold FloatKind.decode
 rw[f64]
 have n':¬ 9218868437227405312<mag x:=of_decide_eq_false nx
 by_cases f:mag x<9218868437227405312
 ·obtain⟨m,k,e,h⟩:=read_number x hx f
  refine .inr ⟨f,?_⟩
  rw[e]
  refine⟨rfl,rfl,rfl,?_⟩
  have h2:m=0↔mag x=0:=by
   rw[←val_eq_zero (mag x),←h]
   constructor
   ·rintro rfl;simp
   ·intro h3
    rcases Nat.mul_eq_zero.1 h3 with h4|h4
    ·exact h4
    ·have:=Nat.two_pow_pos k;omega
  rw[←decide_eq_decide.2 h2]
  cases m with
  | zero=>rfl
  | succ n=>simp[Ieee.Datum.isZero]
 ·exact .inl ⟨by omega,read_infinity x hx (by omega)⟩
theorem inf_beq (s t:Bool):((Ieee.Datum.infinity s) == .infinity t)=(s==t):=by cases s <;> cases t <;> rfl
theorem not_inf {d:Ieee.Datum} (s:Bool) (h:d.isInfinity=false):(d == .infinity s)=false:=by
 cases d with
 | number _ _ _=>rfl
 | infinity t=>simp[Ieee.Datum.isInfinity] at h
 | nan _ _=>rfl
theorem rd_inf (x:Nat) (s:Bool) (hx:x<18446744073709551616) (nx:isNaN x=false):(FloatKind.f64.decode x == .infinity s)=decide (stp x=if s then -9218868437227405312 else 9218868437227405312):=by
 rcases rd x hx nx with ⟨mx,dx⟩|⟨mx,x1,x2,x3,x4⟩
 ·rw[dx,inf_beq]
  unfold stp sgn
  rw[mx]
  cases neg x <;> cases s <;> rfl
 ·rw[not_inf s x1]
  symm
  apply decide_eq_false
  unfold stp sgn
  cases neg x <;> cases s <;> simp <;> omega
theorem rd_nan (x:Nat) (hx:x<18446744073709551616) (nx:isNaN x=false):(FloatKind.f64.decode x).isNaN=false:=by
 rcases rd x hx nx with ⟨mx,dx⟩|⟨mx,x1,x2,x3,x4⟩
 ·rw[dx];rfl
 ·exact x2
theorem rd_zero (x:Nat) (hx:x<18446744073709551616) (nx:isNaN x=false):(FloatKind.f64.decode x).isZero=decide (stp x=0):=by
 rcases rd x hx nx with ⟨mx,dx⟩|⟨mx,x1,x2,x3,x4⟩
 ·rw[dx]
  symm
  apply decide_eq_false
  unfold stp sgn
  rw[mx]
  cases neg x <;> simp
 ·rw[x4]
  apply decide_eq_decide.2
  unfold stp sgn
  split <;> omega
theorem stp_eq {x y:Nat} (hx:x<18446744073709551616) (hy:y<18446744073709551616) (h:stp x=stp y) (h0:stp x≠0):x=y :=
 stp_inj hx hy h (fun e=>h0 (by rw[e];decide)) (fun e=>h0 (by rw[h,e];decide))
theorem gt_cmp (x y:Int):(some (compare x y)==some Ordering.gt)=decide (y<x):=by
 rcases Int.lt_trichotomy x y with h|h|h
 ·rw[Fl64.cmp_lt h,decide_eq_false (by omega)];rfl
 ·rw[Fl64.cmp_eq h,decide_eq_false (by omega)];rfl
 ·rw[Fl64.cmp_gt h,decide_eq_true h];rfl
theorem lt_cmp (x y:Int):(some (compare x y)==some Ordering.lt)=decide (x<y):=by
 rcases Int.lt_trichotomy x y with h|h|h
 ·rw[Fl64.cmp_lt h,decide_eq_true h];rfl
 ·rw[Fl64.cmp_eq h,decide_eq_false (by omega)];rfl
 ·rw[Fl64.cmp_gt h,decide_eq_false (by omega)];rfl
theorem pick_max (s:String) (x y:Nat) (hx:x<18446744073709551616) (hy:y<18446744073709551616) (nx:isNaN x=false) (ny:isNaN y=false) :
  Extern.MathDim.pick s false .gt #[.float .f64 x,.float .f64 y]=pure (.float .f64 (fMax x y)):=by
 have ho:(FloatKind.f64.decode x).order (FloatKind.f64.decode y)=some (compare (stp x) (stp y)):=order_num x y hx hy nx ny
 have sx:=nan_stp nx
 have sy:=nan_stp ny
 have e0:FloatKind.f64.encode (.infinity false)=9218868437227405312:=by decide
 have e1:stp 9218868437227405312=9218868437227405312:=by decide
 have e2:9218868437227405312<18446744073709551616:=by omega
 show(pure (Value.float .f64 (if FloatKind.f64.decode x == .infinity false||FloatKind.f64.decode y == .infinity false then FloatKind.f64.encode (.infinity false)else if(FloatKind.f64.decode x).isNaN||(FloatKind.f64.decode y).isNaN then 0x7FF8000000000001 else if(FloatKind.f64.decode x).isZero&&(FloatKind.f64.decode y).isZero then(if(FloatKind.f64.decode x).neg==false then x else y)else if(FloatKind.f64.decode x).order (FloatKind.f64.decode y)==some .gt then x else y)):Sem Value)=_
 congr 2
 rw[ho,gt_cmp,e0,rd_inf x false hx nx,rd_inf y false hy ny,rd_nan x hx nx,rd_nan y hy ny,rd_zero x hx nx,rd_zero y hy ny,dec_neg x hx nx]
 simp only[Bool.or_eq_true,Bool.and_eq_true,decide_eq_true_eq,Bool.or_self,Bool.false_eq_true,if_false,if_true]
 unfold fMax
 split
 ·rename_i h
  rcases h with h|h
  ·have hxe:x=9218868437227405312:=stp_eq hx e2 (by omega) (by omega)
   rcases Int.lt_trichotomy (stp x) (stp y)with g|g|g
   ·first|omega|rw[if_pos g,hxe]
   ·have hye:y=9218868437227405312:=stp_eq hy e2 (by omega) (by omega)
    rw[if_neg (by omega),if_neg (by omega),hxe,hye];simp
   ·first|omega|rw[if_neg (by omega),if_pos g,hxe]
  ·have hye:y=9218868437227405312:=stp_eq hy e2 (by omega) (by omega)
   rcases Int.lt_trichotomy (stp x) (stp y)with g|g|g
   ·first|omega|rw[if_pos g,hye]
   ·have hxe:x=9218868437227405312:=stp_eq hx e2 (by omega) (by omega)
    rw[if_neg (by omega),if_neg (by omega),hxe,hye];simp
   ·first|omega|rw[if_neg (by omega),if_pos g,hye]
 ·split
  ·rename_i h0
   have g1:¬ stp x<stp y:=by omega
   have g2:¬ stp y<stp x:=by omega
   simp only[g1,g2,if_false]
   cases neg x <;> rfl
  ·rename_i h0
   rcases Int.lt_trichotomy (stp x) (stp y)with g|g|g
   ·have g2:¬ stp y<stp x:=by omega
    simp only[g,g2,if_true,if_false]
   ·have e:x=y:=stp_eq hx hy g (by omega)
    subst e
    simp
   ·have g2:¬ stp x<stp y:=by omega
    simp only[g,g2,if_true,if_false]
theorem pick_min (s:String) (x y:Nat) (hx:x<18446744073709551616) (hy:y<18446744073709551616) (nx:isNaN x=false) (ny:isNaN y=false) :
  Extern.MathDim.pick s true .lt #[.float .f64 x,.float .f64 y]=pure (.float .f64 (fMin x y)):=by
 have ho:(FloatKind.f64.decode x).order (FloatKind.f64.decode y)=some (compare (stp x) (stp y)):=order_num x y hx hy nx ny
 have sx:=nan_stp nx
 have sy:=nan_stp ny
 have e0:FloatKind.f64.encode (.infinity true)=18442240474082181120:=by decide
 have e1:stp 18442240474082181120 = -9218868437227405312:=by decide
 have e2:18442240474082181120<18446744073709551616:=by omega
 show(pure (Value.float .f64 (if FloatKind.f64.decode x == .infinity true||FloatKind.f64.decode y == .infinity true then FloatKind.f64.encode (.infinity true)else if(FloatKind.f64.decode x).isNaN||(FloatKind.f64.decode y).isNaN then 0x7FF8000000000001 else if(FloatKind.f64.decode x).isZero&&(FloatKind.f64.decode y).isZero then(if(FloatKind.f64.decode x).neg==true then x else y)else if(FloatKind.f64.decode x).order (FloatKind.f64.decode y)==some .lt then x else y)):Sem Value)=_
 congr 2
 rw[ho,lt_cmp,e0,rd_inf x true hx nx,rd_inf y true hy ny,rd_nan x hx nx,rd_nan y hy ny,rd_zero x hx nx,rd_zero y hy ny,dec_neg x hx nx]
 simp only[Bool.or_eq_true,Bool.and_eq_true,decide_eq_true_eq,Bool.or_self,Bool.false_eq_true,if_false,if_true]
 unfold fMin
 split
 ·rename_i h
  rcases h with h|h
  ·have hxe:x=18442240474082181120:=stp_eq hx e2 (by omega) (by omega)
   rcases Int.lt_trichotomy (stp x) (stp y)with g|g|g
   ·first|omega|rw[if_pos g,hxe]
   ·have hye:y=18442240474082181120:=stp_eq hy e2 (by omega) (by omega)
    rw[if_neg (by omega),if_neg (by omega),hxe,hye];simp
   ·first|omega|rw[if_neg (by omega),if_pos g,hxe]
  ·have hye:y=18442240474082181120:=stp_eq hy e2 (by omega) (by omega)
   rcases Int.lt_trichotomy (stp x) (stp y)with g|g|g
   ·first|omega|rw[if_pos g,hye]
   ·have hxe:x=18442240474082181120:=stp_eq hx e2 (by omega) (by omega)
    rw[if_neg (by omega),if_neg (by omega),hxe,hye];simp
   ·first|omega|rw[if_neg (by omega),if_pos g,hye]
 ·split
  ·rename_i h0
   have g1:¬ stp x<stp y:=by omega
   have g2:¬ stp y<stp x:=by omega
   simp only[g1,g2,if_false]
   cases neg x <;> rfl
  ·rename_i h0
   rcases Int.lt_trichotomy (stp x) (stp y)with g|g|g
   ·have g2:¬ stp y<stp x:=by omega
    simp only[g,g2,if_true,if_false]
   ·have e:x=y:=stp_eq hx hy g (by omega)
    subst e
    simp
   ·have g2:¬ stp x<stp y:=by omega
    simp only[g,g2,if_true,if_false]
theorem run_archMax (x y:Nat) (w:World) (hx:x<18446744073709551616) (hy:y<18446744073709551616) (nx:isNaN x=false) (ny:isNaN y=false) :
  (callFunc 72 #[.float .f64 x,.float .f64 y]).run Tryz.prog w=.ok (.value (.float .f64 (fMax x y))) w:=by
 rw [run_callFunc_extern Tryz.func72 (e := Extern.MathDim.pick "math.archMax" false .gt) (by kernel_rfl) (by kernel_rfl) (by kernel_rfl) (by kernel_rfl), pick_max _ x y hx hy nx ny]
 rfl
theorem dmax (x y:Nat) (w:World) (hx:x<18446744073709551616) (hy:y<18446744073709551616) (nx:isNaN x=false) (ny:isNaN y=false) :
  Calls Tryz.prog 46 #[.float .f64 x,.float .f64 y] w fun r w'=>r=.returned (.float .f64 (fMax x y))∧w'=w:=by
 have k:=fun W=>run_archMax x y W hx hy nx ny
 generalize fMax x y=m at *
 go_enter Tryz.func46,Tryz.ntmps46
 go_wp2
 go_ret
 exact⟨rfl,rfl⟩
theorem run_archMin (x y:Nat) (w:World) (hx:x<18446744073709551616) (hy:y<18446744073709551616) (nx:isNaN x=false) (ny:isNaN y=false) :
  (callFunc 74 #[.float .f64 x,.float .f64 y]).run Tryz.prog w=.ok (.value (.float .f64 (fMin x y))) w:=by
 rw [run_callFunc_extern Tryz.func74 (e := Extern.MathDim.pick "math.archMin" true .lt) (by kernel_rfl) (by kernel_rfl) (by kernel_rfl) (by kernel_rfl), pick_min _ x y hx hy nx ny]
 rfl
theorem dmin (x y:Nat) (w:World) (hx:x<18446744073709551616) (hy:y<18446744073709551616) (nx:isNaN x=false) (ny:isNaN y=false) :
  Calls Tryz.prog 47 #[.float .f64 x,.float .f64 y] w fun r w'=>r=.returned (.float .f64 (fMin x y))∧w'=w:=by
 have k:=fun W=>run_archMin x y W hx hy nx ny
 generalize fMin x y=m at *
 go_enter Tryz.func47,Tryz.ntmps47
 go_wp2
 go_ret
 exact⟨rfl,rfl⟩
attribute [local go_sem] run_store_flt
def IvB (W:World) (g:Nat) (a b:Nat):Prop:=W.heap[g]?=some (.cells #[.float .f64 a,.float .f64 b] 24 (0,0))
def IvF (W:World) (g:Nat) (a b:Nat):Prop:=W.cell? ⟨g,0,none⟩=some (.float .f64 a)∧W.cell? ⟨g,1,none⟩=some (.float .f64 b)∧W.frozen? ⟨g,0,none⟩=false∧W.frozen? ⟨g,1,none⟩=false
theorem IvB.facts {W:World} {g a b:Nat} (h:IvB W g a b):IvF W g a b:=by
 unfold IvB at h
 simp[IvF,World.cell?,World.frozen?,h]
theorem IvB.lt {W:World} {g a b:Nat} (h:IvB W g a b):g<W.heap.size:=lt_of_box h
theorem IvB.box {W w':World} {g a b:Nat} (h:IvB W g a b) (hb:Bw W w'):IvB w' g a b:=box_later h hb h.lt
theorem IvB.later {W w':World} {g a b:Nat} (h:IvB W g a b) (hb:Bw W w'):IvF w' g a b:=(h.box hb).facts
theorem IvB.new (w:World) (a b:Nat):IvB (w.alloc (.cells #[.float .f64 a,.float .f64 b] 24)) w.heap.size a b:=heap_alloc_new _ _
theorem IvB.alloc {W:World} {g a b:Nat} (h:IvB W g a b) (o:Obj):IvB (W.alloc o) g a b:=h.box ((Below.refl _ _).alloc (Nat.le_refl _) _)
theorem IvB.set {W:World} {g a b:Nat} (h:IvB W g a b) (c d:Nat):IvB ((W.setCell ⟨g,0,none⟩ (.float .f64 c)).setCell ⟨g,1,none⟩ (.float .f64 d)) g c d:=by
 unfold IvB at *
 simp[World.setCell,Array.getElem?_modify,h]
theorem below_store2 {B:Nat} {w w':World} {g:Nat} (h:Below B w w') (hg:B≤g) (a b:Value):Below B w ((w'.setCell ⟨g,0,none⟩ a).setCell ⟨g,1,none⟩ b) :=
 (h.setCell hg _).setCell hg _
theorem bxs1_0 (w:World) (a b:Nat):Below w.heap.size w (w.alloc (.cells #[.float .f64 a,.float .f64 b] 24)):=(Below.refl _ _).alloc (Nat.le_refl _) _
theorem bxs1_1 (w:World) (a b:Nat):IvB (w.alloc (.cells #[.float .f64 a,.float .f64 b] 24)) w.heap.size a b:=IvB.new w a b
theorem bxs2_0 (w:World) (a b c d:Nat):Below w.heap.size w ((w.alloc (.cells #[.float .f64 a,.float .f64 b] 24)).alloc (.cells #[.float .f64 c,.float .f64 d] 24)):=(bxs1_0 w a b).alloc (bxs1_0 w a b).size _
theorem bxs2_1 (w:World) (a b c d:Nat):IvB ((w.alloc (.cells #[.float .f64 a,.float .f64 b] 24)).alloc (.cells #[.float .f64 c,.float .f64 d] 24)) w.heap.size a b:=(bxs1_1 w a b).alloc _
theorem bxs2_2 (w:World) (a b c d:Nat):IvB ((w.alloc (.cells #[.float .f64 a,.float .f64 b] 24)).alloc (.cells #[.float .f64 c,.float .f64 d] 24)) (w.heap.size+1) c d:=by
 have:=IvB.new (w.alloc (.cells #[.float .f64 a,.float .f64 b] 24)) c d
 simpa using this
theorem bxs3_0 (w:World) (a b c d e f:Nat):Below w.heap.size w (((w.alloc (.cells #[.float .f64 a,.float .f64 b] 24)).alloc (.cells #[.float .f64 c,.float .f64 d] 24)).alloc (.cells #[.float .f64 e,.float .f64 f] 24)):=(bxs2_0 w a b c d).alloc (bxs2_0 w a b c d).size _
theorem bxs3_1 (w:World) (a b c d e f:Nat):IvB (((w.alloc (.cells #[.float .f64 a,.float .f64 b] 24)).alloc (.cells #[.float .f64 c,.float .f64 d] 24)).alloc (.cells #[.float .f64 e,.float .f64 f] 24)) w.heap.size a b:=(bxs2_1 w a b c d).alloc _
theorem bxs3_2 (w:World) (a b c d e f:Nat):IvB (((w.alloc (.cells #[.float .f64 a,.float .f64 b] 24)).alloc (.cells #[.float .f64 c,.float .f64 d] 24)).alloc (.cells #[.float .f64 e,.float .f64 f] 24)) (w.heap.size+1) c d:=(bxs2_2 w a b c d).alloc _
theorem bxs3_3 (w:World) (a b c d e f:Nat):IvB (((w.alloc (.cells #[.float .f64 a,.float .f64 b] 24)).alloc (.cells #[.float .f64 c,.float .f64 d] 24)).alloc (.cells #[.float .f64 e,.float .f64 f] 24)) (w.heap.size+1+1) e f:=by
 have:=IvB.new ((w.alloc (.cells #[.float .f64 a,.float .f64 b] 24)).alloc (.cells #[.float .f64 c,.float .f64 d] 24)) e f
 simpa using this
theorem max_any (x y:Nat) (hx:x<18446744073709551616) (hy:y<18446744073709551616) (W:World):∃ n W1,n<18446744073709551616∧(∀ ts t,(Builtin.max_ ts t #[.float .f64 x,.float .f64 y]).run Tryz.prog W=.ok (.float .f64 n) W1)∧Bw W W1∧(isNaN x=false→isNaN y=false→n=fMax x y):=by
 by_cases h:isNaN x=true∨isNaN y=true
 ·refine⟨(Question.nanMinMax .f64 true x y).cut (W.tape W.drawn (.nanMinMax .f64 true x y)),W.drew,?_,?_,(Below.refl _ _).drew,?_⟩
  ·simp only[Question.cut];omega
  ·intro ts t
   have ho:FloatKind.f64.format.order x y=none:=by
    rw[f64]
    rcases h with h|h
    ·exact order_nan_left x y h
    ·exact order_nan_right x y h
   simp[Builtin.max_,Builtin.max2,ho,Question.forced]
  ·intro h1 h2
   rw[h1,h2] at h
   simp at h
 ·have h1:isNaN x=false:=by cases e:isNaN x;rfl;exact absurd (.inl e) h
  have h2:isNaN y=false:=by cases e:isNaN y;rfl;exact absurd (.inr e) h
  exact⟨fMax x y,W,fMax_lt hx hy,fun ts t=>run_fmax W ts t x y hx hy h1 h2,Below.refl _ _,fun _ _=>rfl⟩
theorem min_any (x y:Nat) (hx:x<18446744073709551616) (hy:y<18446744073709551616) (W:World):∃ n W1,n<18446744073709551616∧(∀ ts t,(Builtin.min_ ts t #[.float .f64 x,.float .f64 y]).run Tryz.prog W=.ok (.float .f64 n) W1)∧Bw W W1∧(isNaN x=false→isNaN y=false→n=fMin x y):=by
 by_cases h:isNaN x=true∨isNaN y=true
 ·refine⟨(Question.nanMinMax .f64 false x y).cut (W.tape W.drawn (.nanMinMax .f64 false x y)),W.drew,?_,?_,(Below.refl _ _).drew,?_⟩
  ·simp only[Question.cut];omega
  ·intro ts t
   have ho:FloatKind.f64.format.order x y=none:=by
    rw[f64]
    rcases h with h|h
    ·exact order_nan_left x y h
    ·exact order_nan_right x y h
   simp[Builtin.min_,Builtin.min2,ho,Question.forced]
  ·intro h1 h2
   rw[h1,h2] at h
   simp at h
 ·have h1:isNaN x=false:=by cases e:isNaN x;rfl;exact absurd (.inl e) h
  have h2:isNaN y=false:=by cases e:isNaN y;rfl;exact absurd (.inr e) h
  exact⟨fMin x y,W,fMin_lt hx hy,fun ts t=>run_fmin W ts t x y hx hy h1 h2,Below.refl _ _,fun _ _=>rfl⟩
theorem vI_nn {a b:Nat} (h:vI a b=true):isNaN a=false∧isNaN b=false:=by
 unfold vI le at h
 simp only[Bool.and_eq_true,Bool.not_eq_true'] at h
 exact h.1.1.1.1.1
attribute [local go_sem] run_store_flt
def orV (ok:Bool) (x y:Nat) (g h:Value):Value:=if ok then .tuple #[.agg #[.float .f64 x,.float .f64 y],g] else .tuple #[.agg #[.float .f64 0,.float .f64 0],h]
theorem smeet_1 (a b c d:Nat) (v:Bool) (w:World) (ha:a<18446744073709551616) (hb:b<18446744073709551616) (hc:c<18446744073709551616) (hd:d<18446744073709551616)
  (k1:∀ W g T,W.heap[g]?=some (.cells #[.float .f64 a,.float .f64 b,.float .f64 c,.float .f64 d] T (0,0))→Calls Tryz.prog 45 #[.slice (some ⟨g,0,none⟩) 2 2] W fun r w'=>r=.returned (.bool v)∧Bw W w')
  (hv:v=true→(isNaN a=false∧isNaN b=false)∧(isNaN c=false∧isNaN d=false)) :
  Calls Tryz.prog 15 #[.agg #[.float .f64 a,.float .f64 b],.agg #[.float .f64 c,.float .f64 d]] w fun r w'=>r=.returned (orV (v && !lt (fMin b d) (fMax a c)) (fMax a c) (fMin b d) (.bool true) (.bool false))∧Bw w w':=by
 have H1:Hid _:=k1
 obtain⟨W,hW⟩:∃ W,W=(((w.alloc (.cells #[.float .f64 a,.float .f64 b] 24)).alloc (.cells #[.float .f64 c,.float .f64 d] 24)).alloc (.cells #[.float .f64 0,.float .f64 0] 24)):=⟨_,rfl⟩
 have HX:Hid (Bw w W∧IvB W (w.heap.size) a b∧IvB W (w.heap.size+1) c d∧IvB W (w.heap.size+1+1) 0 0):=by
  rw[hW]
  exact⟨bxs3_0 w a b c d 0 0,bxs3_1 w a b c d 0 0,bxs3_2 w a b c d 0 0,bxs3_3 w a b c d 0 0⟩
 have HK:Hid (∀ w',Bw W w'→IvF w' (w.heap.size) a b∧IvF w' (w.heap.size+1) c d∧IvF w' (w.heap.size+1+1) 0 0):=fun w' hb=>⟨(HX.out.2.1).later hb,(HX.out.2.2.1).later hb,(HX.out.2.2.2).later hb⟩
 obtain⟨n1,W1,l1,r1,B1,e1⟩:=max_any a c ha hc W
 obtain⟨n2,W2,l2,r2,B2,e2⟩:=min_any b d hb hd W1
 have o:=ord_gt n1 n2 l1 l2
 have HE:Hid (v=true→n1=fMax a c∧n2=fMin b d):=fun h=>⟨e1 (hv h).1.1 (hv h).2.1,e2 (hv h).1.2 (hv h).2.2⟩
 have hB2:Bw W W2:=B1.trans (B2.mono B1.size)
 obtain⟨⟨c0,c1,z0,z1⟩,⟨c2,c3,z2,z3⟩,⟨c4,c5,z4,z5⟩⟩:=HK.out W (Below.refl _ _)
 obtain⟨⟨d0,d1,y0,y1⟩,⟨d2,d3,y2,y3⟩,⟨d4,d5,y4,y5⟩⟩:=HK.out W1 B1
 obtain⟨W3,hW3⟩:∃ W3,W3=W2.alloc (.cells #[.float .f64 n1,.float .f64 n2] 24):=⟨_,rfl⟩
 have hB3:Bw W W3:=by rw[hW3];exact hB2.alloc hB2.size _
 have HBX:Hid (IvB W3 W2.heap.size n1 n2):=by rw[hW3];exact IvB.new _ _ _
 obtain⟨⟨g0,g1,x0,x1⟩,⟨g2,g3,x2,x3⟩,⟨g4,g5,x4,x5⟩⟩:=HK.out W3 hB3
 have kk:=H1.out (W3.alloc (.cells #[.float .f64 a,.float .f64 b,.float .f64 c,.float .f64 d] 24)) W3.heap.size _ (heap_alloc_new _ _)
 have HB3:Hid (Bw W W3):=hB3
 clear k1 hv e1 e2 l1 l2 B1 B2 hB2 hB3 ha hb hc hd H1
 go_enter Tryz.func15,Tryz.ntmps15
 go_upto_region 1 with fail
 rw[←hW]
 clear hW
 go_upto_region 2 with fail
 rw[←hW3]
 clear hW3 r1 r2
 clear c0 c1 c2 c3 c4 c5 z0 z1 z2 z3 z4 z5 d0 d1 d2 d3 d4 d5 y0 y1 y2 y3 y4 y5
 go_wp2_with fail
 refine kk.mono ?_
 rintro r w1 ⟨rfl,hb1⟩
 clear kk
 have hb2:Bw W3 w1:=((Below.refl _ _).alloc (Nat.le_refl _) _).trans (hb1.mono (by simp))
 have hb3:Bw W w1:=HB3.out.trans (hb2.mono HB3.out.size)
 clear g0 g1 g2 g3 g4 g5 x0 x1 x2 x3 x4 x5
 obtain⟨⟨c0,c1,z0,z1⟩,⟨c2,c3,z2,z3⟩,⟨c4,c5,z4,z5⟩⟩:=HK.out w1 hb3
 obtain⟨u0,u1,u2,u3⟩:=HBX.out.later hb2
 have HB:Hid (Bw w w1):=HX.out.1.trans (hb3.mono HX.out.1.size)
 have HR:IvB w1 (w.heap.size+1+1) 0 0:=HX.out.2.2.2.box hb3
 have HR:Hid (IvB w1 (w.heap.size+1+1) 0 0):=HR
 clear hb1 hb2 hb3 HK HX HBX HB3
 cases v
 ·go_wp2
  refine bodyPost_ret (results_cell_tmp_row rfl _ _ (w.heap.size+1+1) 24 #[.float .f64 0,.float .f64 0] (0,0) _ rfl (HR.out.set _ _) Tryz.underlying24 rfl iv_info) rfl ?_
  exact⟨rfl,below_store2 HB.out (by omega) _ _⟩
 obtain⟨rfl,rfl⟩:=HE.out rfl
 cases hq:lt (fMin b d) (fMax a c)
 ·rw[hq] at o
  go_wp2
  refine bodyPost_ret (results_cell_tmp_row rfl _ _ (w.heap.size+1+1) 24 #[.float .f64 (fMax a c),.float .f64 (fMin b d)] (0,0) _ rfl (HR.out.set _ _) Tryz.underlying24 rfl iv_info) rfl ?_
  exact⟨by rw[hq];rfl,below_store2 HB.out (by omega) _ _⟩
 ·rw[hq] at o
  go_wp2
  refine bodyPost_ret (results_cell_tmp_row rfl _ _ (w.heap.size+1+1) 24 #[.float .f64 0,.float .f64 0] (0,0) _ rfl (HR.out.set _ _) Tryz.underlying24 rfl iv_info) rfl ?_
  exact⟨by rw[hq];rfl,below_store2 HB.out (by omega) _ _⟩
theorem dhull_1 (a b c d n1 n2:Nat) (u v:Bool) (w:World)
  (k1:∀ W,Calls Tryz.prog 10 #[.agg #[.float .f64 a,.float .f64 b]] W fun r w'=>r=.returned (.bool u)∧Bw W w')
  (k2:∀ W,Calls Tryz.prog 10 #[.agg #[.float .f64 c,.float .f64 d]] W fun r w'=>r=.returned (.bool v)∧Bw W w')
  (k3:∀ W,u=true→v=true→Calls Tryz.prog 47 #[.float .f64 a,.float .f64 c] W fun r w'=>r=.returned (.float .f64 n1)∧w'=W)
  (k4:∀ W,u=true→v=true→Calls Tryz.prog 46 #[.float .f64 b,.float .f64 d] W fun r w'=>r=.returned (.float .f64 n2)∧w'=W) :
  Calls Tryz.prog 18 #[.agg #[.float .f64 a,.float .f64 b],.agg #[.float .f64 c,.float .f64 d]] w fun r w'=>r=.returned (orV (u&&v) n1 n2 (.int .i64 0) (.int .i64 1))∧Bw w w':=by
 have H1:Hid _:=k1
 have H2:Hid _:=k2
 obtain⟨W,hW⟩:∃ W,W=(((w.alloc (.cells #[.float .f64 a,.float .f64 b] 24)).alloc (.cells #[.float .f64 c,.float .f64 d] 24)).alloc (.cells #[.float .f64 0,.float .f64 0] 24)):=⟨_,rfl⟩
 have HX:Hid (Bw w W∧IvB W (w.heap.size) a b∧IvB W (w.heap.size+1) c d∧IvB W (w.heap.size+1+1) 0 0):=by
  rw[hW]
  exact⟨bxs3_0 w a b c d 0 0,bxs3_1 w a b c d 0 0,bxs3_2 w a b c d 0 0,bxs3_3 w a b c d 0 0⟩
 have HK:Hid (∀ w',Bw W w'→IvF w' (w.heap.size) a b∧IvF w' (w.heap.size+1) c d∧IvF w' (w.heap.size+1+1) 0 0):=fun w' hb=>⟨(HX.out.2.1).later hb,(HX.out.2.2.1).later hb,(HX.out.2.2.2).later hb⟩
 obtain⟨⟨c0,c1,z0,z1⟩,⟨c2,c3,z2,z3⟩,⟨c4,c5,z4,z5⟩⟩:=HK.out W (Below.refl _ _)
 have H3:Hid _:=k3
 have H4:Hid _:=k4
 have kv:=H1.out W
 clear k1 k2 k3 k4
 go_enter Tryz.func18,Tryz.ntmps18
 go_upto_region 1 with fail
 rw[←hW]
 clear hW
 go_wp2_with fail
 refine kv.mono ?_
 rintro r w1 ⟨rfl,hb1⟩
 clear kv H1 c0 c1 c2 c3 c4 c5 z0 z1 z2 z3 z4 z5
 obtain⟨⟨c0,c1,z0,z1⟩,⟨c2,c3,z2,z3⟩,⟨c4,c5,z4,z5⟩⟩:=HK.out w1 hb1
 cases u
 ·have HB:Hid (Bw w w1):=HX.out.1.trans (hb1.mono HX.out.1.size)
  have HR:Hid (IvB w1 (w.heap.size+1+1) 0 0):=HX.out.2.2.2.box hb1
  clear hb1 HK HX H2 H3 H4
  go_wp2
  refine bodyPost_ret (results_cell_tmp_row rfl _ _ (w.heap.size+1+1) 24 #[.float .f64 0,.float .f64 0] (0,0) _ rfl (HR.out.set _ _) Tryz.underlying24 rfl iv_info) rfl ?_
  exact⟨rfl,below_store2 HB.out (by omega) _ _⟩
 have kv:=H2.out w1
 have HB1:Hid (Bw W w1):=hb1
 clear hb1 H2
 go_wp2_with fail
 refine kv.mono ?_
 rintro r w2 ⟨rfl,hb2⟩
 have hb3:Bw W w2:=HB1.out.trans (hb2.mono HB1.out.size)
 clear kv c0 c1 c2 c3 c4 c5 z0 z1 z2 z3 z4 z5
 obtain⟨⟨c0,c1,z0,z1⟩,⟨c2,c3,z2,z3⟩,⟨c4,c5,z4,z5⟩⟩:=HK.out w2 hb3
 have HB:Hid (Bw w w2):=HX.out.1.trans (hb3.mono HX.out.1.size)
 have HR:Hid (IvB w2 (w.heap.size+1+1) 0 0):=HX.out.2.2.2.box hb3
 cases v
 ·clear hb2 hb3 HK HX HB1 H3 H4
  go_wp2
  refine bodyPost_ret (results_cell_tmp_row rfl _ _ (w.heap.size+1+1) 24 #[.float .f64 0,.float .f64 0] (0,0) _ rfl (HR.out.set _ _) Tryz.underlying24 rfl iv_info) rfl ?_
  exact⟨rfl,below_store2 HB.out (by omega) _ _⟩
 have m3:=fun W=>H3.out W (by simp) (by simp)
 have m4:=fun W=>H4.out W (by simp) (by simp)
 have hR2:Bw w2 w2.drew:=(Below.refl _ _).drew
 have hb4:Bw W w2.drew:=hb3.trans (hR2.mono hb3.size)
 have HR2:Hid (IvB w2.drew (w.heap.size+1+1) 0 0):=HX.out.2.2.2.box hb4
 have HB2:Hid (Bw w w2.drew):=HX.out.1.trans (hb4.mono HX.out.1.size)
 have HC:Hid (IvF w2.drew (w.heap.size) a b∧IvF w2.drew (w.heap.size+1) c d∧IvF w2.drew (w.heap.size+1+1) 0 0):=HK.out w2.drew hb4
 obtain⟨⟨s0,s1,s2,s3⟩,⟨s4,s5,s6,s7⟩,s8,s9,s10,s11⟩:=HC.out
 clear H3 H4 hb2 hb3 hb4 HB1 HX HK hR2
 go_upto_region 3 with fail
 go_region_held3 (fun w'=>(w'.cell? ⟨w.heap.size,0,none⟩=some (.float .f64 a)∧w'.cell? ⟨w.heap.size,1,none⟩=some (.float .f64 b))∧(w'.cell? ⟨w.heap.size+1,0,none⟩=some (.float .f64 c)∧w'.cell? ⟨w.heap.size+1,1,none⟩=some (.float .f64 d))) (first|(with_reducible assumption)|exact⟨⟨s0,s1⟩,s4,s5⟩|exact⟨⟨c0,c1⟩,c2,c3⟩|(refine⟨⟨?_,?_⟩,?_,?_⟩ <;> (change World.cell? (World.setCell (World.setCell _ _ _) _ _) _=_;rw[World.cell?_setCell_other _ _ _ _ (by first|(simp;done)|(simp;omega)),World.cell?_setCell_other _ _ _ _ (by first|(simp;done)|(simp;omega))];with_reducible assumption))|go_keep)
  (first|(go_at_call 47;refine(m3 _).mono ?_;rintro r w' ⟨rfl,rfl⟩)|(go_at_call 46;refine(m4 _).mono ?_;rintro r w' ⟨rfl,rfl⟩))
 go_wp2_with fail
 refine bodyPost_ret (results_cell_tmp_row rfl _ _ (w.heap.size+1+1) 24 #[.float .f64 n1,.float .f64 n2] (0,0) _ rfl (HR.out.set _ _) Tryz.underlying24 rfl iv_info) rfl ?_
 exact⟨rfl,(below_store2 HB.out (by omega) _ _).drew⟩
theorem dmeet_1 (a b c d n1 n2:Nat) (u v p q:Bool) (w:World)
  (k1:∀ W,Calls Tryz.prog 10 #[.agg #[.float .f64 a,.float .f64 b]] W fun r w'=>r=.returned (.bool u)∧Bw W w')
  (k2:∀ W,Calls Tryz.prog 10 #[.agg #[.float .f64 c,.float .f64 d]] W fun r w'=>r=.returned (.bool v)∧Bw W w')
  (o1:(FloatKind.f64.format.order a d==some Ordering.gt)=p) (o2:(FloatKind.f64.format.order c b==some Ordering.gt)=q)
  (k3:∀ W,u=true→v=true→Calls Tryz.prog 46 #[.float .f64 a,.float .f64 c] W fun r w'=>r=.returned (.float .f64 n1)∧w'=W)
  (k4:∀ W,u=true→v=true→Calls Tryz.prog 47 #[.float .f64 b,.float .f64 d] W fun r w'=>r=.returned (.float .f64 n2)∧w'=W) :
  Calls Tryz.prog 16 #[.agg #[.float .f64 a,.float .f64 b],.agg #[.float .f64 c,.float .f64 d]] w fun r w'=>r=.returned (orV (u&&v && !p && !q) n1 n2 (.bool true) (.bool false))∧Bw w w':=by
 have H1:Hid _:=k1
 have H2:Hid _:=k2
 obtain⟨W,hW⟩:∃ W,W=(((w.alloc (.cells #[.float .f64 a,.float .f64 b] 24)).alloc (.cells #[.float .f64 c,.float .f64 d] 24)).alloc (.cells #[.float .f64 0,.float .f64 0] 24)):=⟨_,rfl⟩
 have HX:Hid (Bw w W∧IvB W (w.heap.size) a b∧IvB W (w.heap.size+1) c d∧IvB W (w.heap.size+1+1) 0 0):=by
  rw[hW]
  exact⟨bxs3_0 w a b c d 0 0,bxs3_1 w a b c d 0 0,bxs3_2 w a b c d 0 0,bxs3_3 w a b c d 0 0⟩
 have HK:Hid (∀ w',Bw W w'→IvF w' (w.heap.size) a b∧IvF w' (w.heap.size+1) c d∧IvF w' (w.heap.size+1+1) 0 0):=fun w' hb=>⟨(HX.out.2.1).later hb,(HX.out.2.2.1).later hb,(HX.out.2.2.2).later hb⟩
 obtain⟨⟨c0,c1,z0,z1⟩,⟨c2,c3,z2,z3⟩,⟨c4,c5,z4,z5⟩⟩:=HK.out W (Below.refl _ _)
 have H3:Hid _:=k3
 have H4:Hid _:=k4
 have kv:=H1.out W
 clear k1 k2 k3 k4
 go_enter Tryz.func16,Tryz.ntmps16
 go_upto_region 1 with fail
 rw[←hW]
 clear hW
 go_wp2_with fail
 refine kv.mono ?_
 rintro r w1 ⟨rfl,hb1⟩
 clear kv H1 c0 c1 c2 c3 c4 c5 z0 z1 z2 z3 z4 z5
 obtain⟨⟨c0,c1,z0,z1⟩,⟨c2,c3,z2,z3⟩,⟨c4,c5,z4,z5⟩⟩:=HK.out w1 hb1
 cases u
 ·have HB:Hid (Bw w w1):=HX.out.1.trans (hb1.mono HX.out.1.size)
  have HR:Hid (IvB w1 (w.heap.size+1+1) 0 0):=HX.out.2.2.2.box hb1
  clear hb1 HK HX H2 H3 H4
  go_wp2
  refine bodyPost_ret (results_cell_tmp_row rfl _ _ (w.heap.size+1+1) 24 #[.float .f64 0,.float .f64 0] (0,0) _ rfl (HR.out.set _ _) Tryz.underlying24 rfl iv_info) rfl ?_
  exact⟨rfl,below_store2 HB.out (by omega) _ _⟩
 have kv:=H2.out w1
 have HB1:Hid (Bw W w1):=hb1
 clear hb1 H2
 go_wp2_with fail
 refine kv.mono ?_
 rintro r w2 ⟨rfl,hb2⟩
 have hb3:Bw W w2:=HB1.out.trans (hb2.mono HB1.out.size)
 clear kv c0 c1 c2 c3 c4 c5 z0 z1 z2 z3 z4 z5
 obtain⟨⟨c0,c1,z0,z1⟩,⟨c2,c3,z2,z3⟩,⟨c4,c5,z4,z5⟩⟩:=HK.out w2 hb3
 have HB:Hid (Bw w w2):=HX.out.1.trans (hb3.mono HX.out.1.size)
 have HR:Hid (IvB w2 (w.heap.size+1+1) 0 0):=HX.out.2.2.2.box hb3
 cases v
 ·clear hb2 hb3 HK HX HB1 H3 H4
  go_wp2
  refine bodyPost_ret (results_cell_tmp_row rfl _ _ (w.heap.size+1+1) 24 #[.float .f64 0,.float .f64 0] (0,0) _ rfl (HR.out.set _ _) Tryz.underlying24 rfl iv_info) rfl ?_
  exact⟨rfl,below_store2 HB.out (by omega) _ _⟩
 cases p
 case true =>
  clear hb2 hb3 HK HX HB1 H3 H4
  go_wp2
  refine bodyPost_ret (results_cell_tmp_row rfl _ _ (w.heap.size+1+1) 24 #[.float .f64 0,.float .f64 0] (0,0) _ rfl (HR.out.set _ _) Tryz.underlying24 rfl iv_info) rfl ?_
  exact⟨rfl,below_store2 HB.out (by omega) _ _⟩
 cases q
 case true =>
  clear hb2 hb3 HK HX HB1 H3 H4
  go_wp2
  refine bodyPost_ret (results_cell_tmp_row rfl _ _ (w.heap.size+1+1) 24 #[.float .f64 0,.float .f64 0] (0,0) _ rfl (HR.out.set _ _) Tryz.underlying24 rfl iv_info) rfl ?_
  exact⟨rfl,below_store2 HB.out (by omega) _ _⟩
 have m3:=fun W=>H3.out W (by simp) (by simp)
 have m4:=fun W=>H4.out W (by simp) (by simp)
 have hR2:Bw w2 w2.drew:=(Below.refl _ _).drew
 have hb4:Bw W w2.drew:=hb3.trans (hR2.mono hb3.size)
 have HR2:Hid (IvB w2.drew (w.heap.size+1+1) 0 0):=HX.out.2.2.2.box hb4
 have HB2:Hid (Bw w w2.drew):=HX.out.1.trans (hb4.mono HX.out.1.size)
 have HC:Hid (IvF w2.drew (w.heap.size) a b∧IvF w2.drew (w.heap.size+1) c d∧IvF w2.drew (w.heap.size+1+1) 0 0):=HK.out w2.drew hb4
 obtain⟨⟨s0,s1,s2,s3⟩,⟨s4,s5,s6,s7⟩,s8,s9,s10,s11⟩:=HC.out
 clear H3 H4 hb2 hb3 hb4 HB1 HX HK hR2
 go_upto_region 3 with fail
 go_region_held3 (fun w'=>(w'.cell? ⟨w.heap.size,0,none⟩=some (.float .f64 a)∧w'.cell? ⟨w.heap.size,1,none⟩=some (.float .f64 b))∧(w'.cell? ⟨w.heap.size+1,0,none⟩=some (.float .f64 c)∧w'.cell? ⟨w.heap.size+1,1,none⟩=some (.float .f64 d))) (first|(with_reducible assumption)|exact⟨⟨s0,s1⟩,s4,s5⟩|exact⟨⟨c0,c1⟩,c2,c3⟩|(refine⟨⟨?_,?_⟩,?_,?_⟩ <;> (change World.cell? (World.setCell (World.setCell _ _ _) _ _) _=_;rw[World.cell?_setCell_other _ _ _ _ (by first|(simp;done)|(simp;omega)),World.cell?_setCell_other _ _ _ _ (by first|(simp;done)|(simp;omega))];with_reducible assumption))|go_keep)
  (first|(go_at_call 46;refine(m3 _).mono ?_;rintro r w' ⟨rfl,rfl⟩)|(go_at_call 47;refine(m4 _).mono ?_;rintro r w' ⟨rfl,rfl⟩))
 go_wp2_with fail
 refine bodyPost_ret (results_cell_tmp_row rfl _ _ (w.heap.size+1+1) 24 #[.float .f64 n1,.float .f64 n2] (0,0) _ rfl (HR.out.set _ _) Tryz.underlying24 rfl iv_info) rfl ?_
 exact⟨rfl,(below_store2 HB.out (by omega) _ _).drew⟩
theorem shull_1 (a b c d n1 n2:Nat) (v:Bool) (w:World)
  (k1:∀ W g T,W.heap[g]?=some (.cells #[.float .f64 a,.float .f64 b,.float .f64 c,.float .f64 d] T (0,0))→Calls Tryz.prog 45 #[.slice (some ⟨g,0,none⟩) 2 2] W fun r w'=>r=.returned (.bool v)∧Bw W w')
  (r1:v=true→∀ W ts t,(Builtin.min_ ts t #[.float .f64 a,.float .f64 c]).run Tryz.prog W=.ok (.float .f64 n1) W)
  (r2:v=true→∀ W ts t,(Builtin.max_ ts t #[.float .f64 b,.float .f64 d]).run Tryz.prog W=.ok (.float .f64 n2) W) :
  Calls Tryz.prog 17 #[.agg #[.float .f64 a,.float .f64 b],.agg #[.float .f64 c,.float .f64 d]] w fun r w'=>r=.returned (orV v n1 n2 (.int .i64 0) (.int .i64 1))∧Bw w w':=by
 have H1:Hid _:=k1
 obtain⟨W,hW⟩:∃ W,W=(((w.alloc (.cells #[.float .f64 a,.float .f64 b] 24)).alloc (.cells #[.float .f64 c,.float .f64 d] 24)).alloc (.cells #[.float .f64 0,.float .f64 0] 24)):=⟨_,rfl⟩
 have HX:Hid (Bw w W∧IvB W (w.heap.size) a b∧IvB W (w.heap.size+1) c d∧IvB W (w.heap.size+1+1) 0 0):=by
  rw[hW]
  exact⟨bxs3_0 w a b c d 0 0,bxs3_1 w a b c d 0 0,bxs3_2 w a b c d 0 0,bxs3_3 w a b c d 0 0⟩
 have HK:Hid (∀ w',Bw W w'→IvF w' (w.heap.size) a b∧IvF w' (w.heap.size+1) c d∧IvF w' (w.heap.size+1+1) 0 0):=fun w' hb=>⟨(HX.out.2.1).later hb,(HX.out.2.2.1).later hb,(HX.out.2.2.2).later hb⟩
 obtain⟨⟨c0,c1,z0,z1⟩,⟨c2,c3,z2,z3⟩,⟨c4,c5,z4,z5⟩⟩:=HK.out W (Below.refl _ _)
 have kk:=H1.out (W.alloc (.cells #[.float .f64 a,.float .f64 b,.float .f64 c,.float .f64 d] 24)) W.heap.size _ (heap_alloc_new _ _)
 have HR1:Hid (v=true→∀ W ts t,(Builtin.min_ ts t #[.float .f64 a,.float .f64 c]).run Tryz.prog W=.ok (.float .f64 n1) W):=r1
 have HR2:Hid (v=true→∀ W ts t,(Builtin.max_ ts t #[.float .f64 b,.float .f64 d]).run Tryz.prog W=.ok (.float .f64 n2) W):=r2
 clear k1 r1 r2 H1
 go_enter Tryz.func17,Tryz.ntmps17
 go_upto_region 1 with fail
 rw[←hW]
 clear hW
 go_wp2_with fail
 refine kk.mono ?_
 rintro r w1 ⟨rfl,hb1⟩
 clear kk
 have hb2:Bw W w1:=((Below.refl _ _).alloc (Nat.le_refl _) _).trans (hb1.mono (by simp))
 clear c0 c1 c2 c3 c4 c5 z0 z1 z2 z3 z4 z5
 obtain⟨⟨c0,c1,z0,z1⟩,⟨c2,c3,z2,z3⟩,⟨c4,c5,z4,z5⟩⟩:=HK.out w1 hb2
 have HB:Hid (Bw w w1):=HX.out.1.trans (hb2.mono HX.out.1.size)
 have HR:Hid (IvB w1 (w.heap.size+1+1) 0 0):=HX.out.2.2.2.box hb2
 clear hb1 hb2 HK HX
 cases v
 ·clear HR1 HR2
  go_wp2
  refine bodyPost_ret (results_cell_tmp_row rfl _ _ (w.heap.size+1+1) 24 #[.float .f64 0,.float .f64 0] (0,0) _ rfl (HR.out.set _ _) Tryz.underlying24 rfl iv_info) rfl ?_
  exact⟨rfl,below_store2 HB.out (by omega) _ _⟩
 ·have r1:=HR1.out rfl
  have r2:=HR2.out rfl
  clear HR1 HR2
  go_wp2
  refine bodyPost_ret (results_cell_tmp_row rfl _ _ (w.heap.size+1+1) 24 #[.float .f64 n1,.float .f64 n2] (0,0) _ rfl (HR.out.set _ _) Tryz.underlying24 rfl iv_info) rfl ?_
  exact⟨rfl,below_store2 HB.out (by omega) _ _⟩
def mtI (a b c d:Nat):Bool:=vI a b&&vI c d && !lt (fMin b d) (fMax a c)
theorem mt_eq (a b c d:Nat):mtI a b c d=(vI a b&&vI c d && !lt d a && !lt b c):=by
 unfold mtI
 cases h1:vI a b
 ·rfl
 cases h2:vI c d
 ·rfl
 obtain⟨n1,n2⟩:=vI_nn h1
 obtain⟨n3,n4⟩:=vI_nn h2
 have s1:stp a≤stp b:=by
  unfold vI le at h1
  simp only[Bool.and_eq_true,decide_eq_true_eq] at h1
  exact h1.1.1.1.1.2
 have s2:stp c≤stp d:=by
  unfold vI le at h2
  simp only[Bool.and_eq_true,decide_eq_true_eq] at h2
  exact h2.1.1.1.1.2
 unfold lt
 rw[fMin_nn n2 n4,fMax_nn n1 n3,fMin_stp,fMax_stp,n1,n2,n3,n4]
 simp only[Bool.not_false,Bool.true_and]
 rw[←decide_not,←decide_not,←decide_not,←Bool.decide_and]
 exact decide_eq_decide.2 (by omega)
theorem smeet (a b c d:Nat) (ha:a<18446744073709551616) (hb:b<18446744073709551616) (hc:c<18446744073709551616) (hd:d<18446744073709551616) (w:World) :
  Calls Tryz.prog 15 #[.agg #[.float .f64 a,.float .f64 b],.agg #[.float .f64 c,.float .f64 d]] w fun r w'=>r=.returned (orV (mtI a b c d) (fMax a c) (fMin b d) (.bool true) (.bool false))∧Bw w w' :=
 smeet_1 a b c d _ w ha hb hc hd (fun W g T h=>smaybe h ha hb hc hd) (fun h=>by
  rw[Bool.and_eq_true] at h
  exact⟨vI_nn h.1,vI_nn h.2⟩)
theorem dmeet (a b c d:Nat) (ha:a<18446744073709551616) (hb:b<18446744073709551616) (hc:c<18446744073709551616) (hd:d<18446744073709551616) (w:World) :
  Calls Tryz.prog 16 #[.agg #[.float .f64 a,.float .f64 b],.agg #[.float .f64 c,.float .f64 d]] w fun r w'=>r=.returned (orV (mtI a b c d) (fMax a c) (fMin b d) (.bool true) (.bool false))∧Bw w w':=by
 rw[mt_eq]
 exact dmeet_1 a b c d _ _ _ _ _ _ w (fun W=>d8valid a b ha hb W) (fun W=>d8valid c d hc hd W) (ord_gt a d ha hd) (ord_gt c b hc hb)
  (fun W h1 h2=>dmax a c W ha hc (vI_nn h1).1 (vI_nn h2).1) (fun W h1 h2=>dmin b d W hb hd (vI_nn h1).2 (vI_nn h2).2)
theorem shull (a b c d:Nat) (ha:a<18446744073709551616) (hb:b<18446744073709551616) (hc:c<18446744073709551616) (hd:d<18446744073709551616) (w:World) :
  Calls Tryz.prog 17 #[.agg #[.float .f64 a,.float .f64 b],.agg #[.float .f64 c,.float .f64 d]] w fun r w'=>r=.returned (orV (vI a b&&vI c d) (fMin a c) (fMax b d) (.int .i64 0) (.int .i64 1))∧Bw w w' :=
 shull_1 a b c d _ _ _ w (fun W g T h=>smaybe h ha hb hc hd) (fun h W ts t=>by
  rw[Bool.and_eq_true] at h
  exact run_fmin W ts t a c ha hc (vI_nn h.1).1 (vI_nn h.2).1) (fun h W ts t=>by
  rw[Bool.and_eq_true] at h
  exact run_fmax W ts t b d hb hd (vI_nn h.1).2 (vI_nn h.2).2)
theorem dhull (a b c d:Nat) (ha:a<18446744073709551616) (hb:b<18446744073709551616) (hc:c<18446744073709551616) (hd:d<18446744073709551616) (w:World) :
  Calls Tryz.prog 18 #[.agg #[.float .f64 a,.float .f64 b],.agg #[.float .f64 c,.float .f64 d]] w fun r w'=>r=.returned (orV (vI a b&&vI c d) (fMin a c) (fMax b d) (.int .i64 0) (.int .i64 1))∧Bw w w' :=
 dhull_1 a b c d _ _ _ _ w (fun W=>d8valid a b ha hb W) (fun W=>d8valid c d hc hd W)
  (fun W h1 h2=>dmin a c W ha hc (vI_nn h1).1 (vI_nn h2).1) (fun W h1 h2=>dmax b d W hb hd (vI_nn h1).2 (vI_nn h2).2)
attribute [local go_sem] run_store_flt
theorem dLike_self (x:Nat) (hx:x<18446744073709551616) (w:World) :
  Calls Tryz.prog 63 #[.float .f64 x,.float .f64 x] w fun r w'=>r=.returned (.bool true)∧w'=w:=by
 have hb:=Ie.run_bits
 have e:=self_ne x hx
 cases hn:isNaN x
 ·rw[hn] at e
  go_enter Tryz.func63,Tryz.ntmps63
  go_wp2
  go_ret
  exact⟨by simp,rfl⟩
 ·rw[hn] at e
  go_enter Tryz.func63,Tryz.ntmps63
  go_wp2
  go_ret
  exact⟨rfl,rfl⟩
theorem llike_self (x:Nat) (hx:x<18446744073709551616) (w:World) :
  Calls Tryz.prog 35 #[.float .f64 x,.float .f64 x] w fun r w'=>r=.returned (.bool true)∧w'=w:=by
 have k:=dLike_self x hx
 go_enter Tryz.func35,Tryz.ntmps35
 go_wp2_with (first|(go_at_call 63;refine(k _).mono ?_;rintro r w' ⟨rfl,rfl⟩))
 go_ret
 exact⟨rfl,rfl⟩
theorem isame (x y:Nat) (hx:x<18446744073709551616) (hy:y<18446744073709551616) (w:World) :
  Calls Tryz.prog 11 #[.agg #[.float .f64 x,.float .f64 y],.agg #[.float .f64 x,.float .f64 y]] w fun r w'=>r=.returned (.bool true)∧Bw w w':=by
 have k1:=llike_self x hx
 have k2:=llike_self y hy
 go_enter Tryz.func11,Tryz.ntmps11
 go_wp2_with (first|(go_at_call 35;first|(with_reducible refine(k1 _).mono ?_;rintro r w' ⟨rfl,rfl⟩)|(with_reducible refine(k2 _).mono ?_;rintro r w' ⟨rfl,rfl⟩)))
 go_ret
 exact⟨rfl,bxs2_0 w _ _ _ _⟩
theorem lof (a b:Nat) (w:World):Calls Tryz.prog 43 #[.float .f64 a,.float .f64 b] w fun r w'=>r=.returned (.agg #[.float .f64 a,.float .f64 b])∧Bw w w':=by
 go_enter Tryz.func43,Tryz.ntmps43
 go_wp2
 refine bodyPost_ret (results_cell_row rfl _ _ w.heap.size 24 #[.float .f64 a,.float .f64 b] (0,0) _ rfl (heap_alloc_new _ _) Tryz.underlying24 rfl iv_info) rfl ?_
 exact⟨rfl,(Below.refl _ _).alloc (Nat.le_refl _) _⟩
theorem sorn (a:Nat) (ha:a<18446744073709551616) (w:World) :
  Calls Tryz.prog 99 #[.float .f64 a] w fun r w'=>r=.returned (.float .f64 (if isNaN a then 0 else a))∧w'=w:=by
 have e:=self_ne a ha
 cases hn:isNaN a
 ·rw[hn] at e
  go_enter Tryz.func99,Tryz.ntmps99
  go_wp2
  go_ret
  exact⟨rfl,rfl⟩
 ·rw[hn] at e
  go_enter Tryz.func99,Tryz.ntmps99
  go_wp2
  go_ret
  exact⟨rfl,rfl⟩
theorem spairs (a b c d:Nat) (w:World):Calls Tryz.prog 68 #[.agg #[.float .f64 a,.float .f64 b],.agg #[.float .f64 c,.float .f64 d]] w fun r w' =>
  r=.returned (.agg #[.float .f64 a,.float .f64 c,.float .f64 a,.float .f64 d,.float .f64 b,.float .f64 c,.float .f64 b,.float .f64 d])∧Bw w w':=by
 go_enter Tryz.func68,Tryz.ntmps68
 go_wp2
 have hn:=heap_alloc_new ((w.alloc (.cells #[.float .f64 a,.float .f64 b] 24)).alloc (.cells #[.float .f64 c,.float .f64 d] 24)) (.cells #[.float .f64 a,.float .f64 c,.float .f64 a,.float .f64 d,.float .f64 b,.float .f64 c,.float .f64 b,.float .f64 d] 76)
 refine bodyPost_ret (results_cell_row rfl _ _ (w.heap.size+1+1) 76 #[.float .f64 a,.float .f64 c,.float .f64 a,.float .f64 d,.float .f64 b,.float .f64 c,.float .f64 b,.float .f64 d] (0,0) _ rfl (by simpa using hn) (show Tryz.prog.underlying 76=some (.array 4 74) by kernel_rfl) rfl (by kernel_rfl)) rfl ?_
 exact⟨rfl,(bxs2_0 w a b c d).alloc (bxs2_0 w a b c d).size _⟩
attribute [local go_sem] run_store_flt
theorem smul_1 (a b c d x y:Nat) (v:Bool) (w:World)
  (k1:∀ W g T,W.heap[g]?=some (.cells #[.float .f64 a,.float .f64 b,.float .f64 c,.float .f64 d] T (0,0))→Calls Tryz.prog 45 #[.slice (some ⟨g,0,none⟩) 2 2] W fun r w'=>r=.returned (.bool v)∧Bw W w')
  (k2:v=true→∀ W,Bw w W→Calls Tryz.prog 69 #[.agg #[.float .f64 a,.float .f64 c,.float .f64 a,.float .f64 d,.float .f64 b,.float .f64 c,.float .f64 b,.float .f64 d],.func (.func 70) #[] #[]] W fun r w'=>r=.returned (.agg #[.float .f64 x,.float .f64 y])∧Bw W w') :
  Calls Tryz.prog 42 #[.agg #[.float .f64 a,.float .f64 b],.agg #[.float .f64 c,.float .f64 d]] w fun r w'=>r=.returned (orV v x y (.int .i64 0) (.int .i64 1))∧Bw w w':=by
 have H1:Hid _:=k1
 have H2:Hid _:=k2
 obtain⟨W,hW⟩:∃ W,W=(((w.alloc (.cells #[.float .f64 a,.float .f64 b] 24)).alloc (.cells #[.float .f64 c,.float .f64 d] 24)).alloc (.cells #[.float .f64 0,.float .f64 0] 24)):=⟨_,rfl⟩
 have HX:Hid (Bw w W∧IvB W (w.heap.size) a b∧IvB W (w.heap.size+1) c d∧IvB W (w.heap.size+1+1) 0 0):=by
  rw[hW]
  exact⟨bxs3_0 w a b c d 0 0,bxs3_1 w a b c d 0 0,bxs3_2 w a b c d 0 0,bxs3_3 w a b c d 0 0⟩
 have HK:Hid (∀ w',Bw W w'→IvF w' (w.heap.size) a b∧IvF w' (w.heap.size+1) c d∧IvF w' (w.heap.size+1+1) 0 0):=fun w' hb=>⟨(HX.out.2.1).later hb,(HX.out.2.2.1).later hb,(HX.out.2.2.2).later hb⟩
 obtain⟨⟨c0,c1,z0,z1⟩,⟨c2,c3,z2,z3⟩,⟨c4,c5,z4,z5⟩⟩:=HK.out W (Below.refl _ _)
 have kk:=H1.out (W.alloc (.cells #[.float .f64 a,.float .f64 b,.float .f64 c,.float .f64 d] 24)) W.heap.size _ (heap_alloc_new _ _)
 clear k1 k2 H1
 go_enter Tryz.func42,Tryz.ntmps42
 go_upto_region 1 with fail
 rw[←hW]
 clear hW
 go_wp2_with fail
 refine kk.mono ?_
 rintro r w1 ⟨rfl,hb1⟩
 clear kk
 have hb2:Bw W w1:=((Below.refl _ _).alloc (Nat.le_refl _) _).trans (hb1.mono (by simp))
 clear c0 c1 c2 c3 c4 c5 z0 z1 z2 z3 z4 z5
 obtain⟨⟨c0,c1,z0,z1⟩,⟨c2,c3,z2,z3⟩,⟨c4,c5,z4,z5⟩⟩:=HK.out w1 hb2
 cases v
 ·have HB:Hid (Bw w w1):=HX.out.1.trans (hb2.mono HX.out.1.size)
  have HR:Hid (IvB w1 (w.heap.size+1+1) 0 0):=HX.out.2.2.2.box hb2
  clear hb1 hb2 HK HX H2
  go_wp2
  refine bodyPost_ret (results_cell_tmp_row rfl _ _ (w.heap.size+1+1) 24 #[.float .f64 0,.float .f64 0] (0,0) _ rfl (HR.out.set _ _) Tryz.underlying24 rfl iv_info) rfl ?_
  exact⟨rfl,below_store2 HB.out (by omega) _ _⟩
 have kp:=spairs a b c d w1
 have HB1:Hid (Bw W w1):=hb2
 clear hb1 hb2
 go_wp2_with fail
 refine kp.mono ?_
 rintro r w2 ⟨rfl,hb2⟩
 have hb3:Bw W w2:=HB1.out.trans (hb2.mono HB1.out.size)
 clear c0 c1 c2 c3 c4 c5 z0 z1 z2 z3 z4 z5 kp HB1
 have ks:=H2.out (by simp) w2 (HX.out.1.trans (hb3.mono HX.out.1.size))
 have HB3:Hid (Bw W w2):=hb3
 clear hb2 hb3 H2
 go_wp2_with fail
 refine ks.mono ?_
 rintro r w3 ⟨rfl,hb4⟩
 have hb5:Bw W w3:=HB3.out.trans (hb4.mono HB3.out.size)
 obtain⟨⟨c0,c1,z0,z1⟩,⟨c2,c3,z2,z3⟩,⟨c4,c5,z4,z5⟩⟩:=HK.out w3 hb5
 have HB:Hid (Bw w w3):=HX.out.1.trans (hb5.mono HX.out.1.size)
 have HR:Hid (IvB w3 (w.heap.size+1+1) 0 0):=HX.out.2.2.2.box hb5
 clear ks hb4 hb5 HK HX HB3
 go_wp2
 refine bodyPost_ret (results_cell_tmp_row rfl _ _ (w.heap.size+1+1) 24 #[.float .f64 x,.float .f64 y] (0,0) _ rfl (HR.out.set _ _) Tryz.underlying24 rfl iv_info) rfl ?_
 exact⟨rfl,below_store2 HB.out (by omega) _ _⟩
def quoV (v z:Bool) (x y:Nat):Value:=if v then(if z then .tuple #[.agg #[.float .f64 0,.float .f64 0],.int .i64 6] else .tuple #[.agg #[.float .f64 x,.float .f64 y],.int .i64 0])else .tuple #[.agg #[.float .f64 0,.float .f64 0],.int .i64 1]
theorem squo_1 (a b c d x y:Nat) (v z:Bool) (w:World)
  (k1:∀ W g T,W.heap[g]?=some (.cells #[.float .f64 a,.float .f64 b,.float .f64 c,.float .f64 d] T (0,0))→Calls Tryz.prog 45 #[.slice (some ⟨g,0,none⟩) 2 2] W fun r w'=>r=.returned (.bool v)∧Bw W w')
  (k2:v=true→z=false→∀ W,Bw w W→Calls Tryz.prog 69 #[.agg #[.float .f64 a,.float .f64 c,.float .f64 a,.float .f64 d,.float .f64 b,.float .f64 c,.float .f64 b,.float .f64 d],.func (.func 71) #[] #[]] W fun r w'=>r=.returned (.agg #[.float .f64 x,.float .f64 y])∧Bw W w')
  (k3:v=true→∀ W,Calls Tryz.prog 19 #[.agg #[.float .f64 c,.float .f64 d],.float .f64 0] W fun r w'=>r=.returned (.bool z)∧Bw W w') :
  Calls Tryz.prog 44 #[.agg #[.float .f64 a,.float .f64 b],.agg #[.float .f64 c,.float .f64 d]] w fun r w'=>r=.returned (quoV v z x y)∧Bw w w':=by
 have H1:Hid _:=k1
 have H2:Hid _:=k2
 have H3:Hid _:=k3
 obtain⟨W,hW⟩:∃ W,W=(((w.alloc (.cells #[.float .f64 a,.float .f64 b] 24)).alloc (.cells #[.float .f64 c,.float .f64 d] 24)).alloc (.cells #[.float .f64 0,.float .f64 0] 24)):=⟨_,rfl⟩
 have HX:Hid (Bw w W∧IvB W (w.heap.size) a b∧IvB W (w.heap.size+1) c d∧IvB W (w.heap.size+1+1) 0 0):=by
  rw[hW]
  exact⟨bxs3_0 w a b c d 0 0,bxs3_1 w a b c d 0 0,bxs3_2 w a b c d 0 0,bxs3_3 w a b c d 0 0⟩
 have HK:Hid (∀ w',Bw W w'→IvF w' (w.heap.size) a b∧IvF w' (w.heap.size+1) c d∧IvF w' (w.heap.size+1+1) 0 0):=fun w' hb=>⟨(HX.out.2.1).later hb,(HX.out.2.2.1).later hb,(HX.out.2.2.2).later hb⟩
 obtain⟨⟨c0,c1,z0,z1⟩,⟨c2,c3,z2,z3⟩,⟨c4,c5,z4,z5⟩⟩:=HK.out W (Below.refl _ _)
 have kk:=H1.out (W.alloc (.cells #[.float .f64 a,.float .f64 b,.float .f64 c,.float .f64 d] 24)) W.heap.size _ (heap_alloc_new _ _)
 clear k1 k2 k3 H1
 go_enter Tryz.func44,Tryz.ntmps44
 go_upto_region 1 with fail
 rw[←hW]
 clear hW
 go_wp2_with fail
 refine kk.mono ?_
 rintro r w1 ⟨rfl,hb1⟩
 clear kk
 have hb2:Bw W w1:=((Below.refl _ _).alloc (Nat.le_refl _) _).trans (hb1.mono (by simp))
 clear c0 c1 c2 c3 c4 c5 z0 z1 z2 z3 z4 z5
 obtain⟨⟨c0,c1,z0,z1⟩,⟨c2,c3,z2,z3⟩,⟨c4,c5,z4,z5⟩⟩:=HK.out w1 hb2
 cases v
 ·have HB:Hid (Bw w w1):=HX.out.1.trans (hb2.mono HX.out.1.size)
  have HR:Hid (IvB w1 (w.heap.size+1+1) 0 0):=HX.out.2.2.2.box hb2
  clear hb1 hb2 HK HX H2 H3
  go_wp2
  refine bodyPost_ret (results_cell_tmp_row rfl _ _ (w.heap.size+1+1) 24 #[.float .f64 0,.float .f64 0] (0,0) _ rfl (HR.out.set _ _) Tryz.underlying24 rfl iv_info) rfl ?_
  exact⟨rfl,below_store2 HB.out (by omega) _ _⟩
 have kh:=H3.out (by simp) w1
 have HB1:Hid (Bw W w1):=hb2
 clear hb1 hb2 H3
 go_wp2_with fail
 refine kh.mono ?_
 rintro r w2 ⟨rfl,hb2⟩
 have hb3:Bw W w2:=HB1.out.trans (hb2.mono HB1.out.size)
 clear c0 c1 c2 c3 c4 c5 z0 z1 z2 z3 z4 z5 kh HB1
 obtain⟨⟨c0,c1,z0,z1⟩,⟨c2,c3,z2,z3⟩,⟨c4,c5,z4,z5⟩⟩:=HK.out w2 hb3
 cases z
 case true =>
  have HB:Hid (Bw w w2):=HX.out.1.trans (hb3.mono HX.out.1.size)
  have HR:Hid (IvB w2 (w.heap.size+1+1) 0 0):=HX.out.2.2.2.box hb3
  clear hb2 hb3 HK HX H2
  go_wp2
  refine bodyPost_ret (results_cell_tmp_row rfl _ _ (w.heap.size+1+1) 24 #[.float .f64 0,.float .f64 0] (0,0) _ rfl (HR.out.set _ _) Tryz.underlying24 rfl iv_info) rfl ?_
  exact⟨rfl,below_store2 HB.out (by omega) _ _⟩
 have kp:=spairs a b c d w2
 have HB1:Hid (Bw W w2):=hb3
 clear hb2 hb3
 go_wp2_with fail
 refine kp.mono ?_
 rintro r w3 ⟨rfl,hb2⟩
 have hb3:Bw W w3:=HB1.out.trans (hb2.mono HB1.out.size)
 clear c0 c1 c2 c3 c4 c5 z0 z1 z2 z3 z4 z5 kp HB1
 have ks:=H2.out (by simp) (by simp) w3 (HX.out.1.trans (hb3.mono HX.out.1.size))
 have HB3:Hid (Bw W w3):=hb3
 clear hb2 hb3 H2
 go_wp2_with fail
 refine ks.mono ?_
 rintro r w4 ⟨rfl,hb4⟩
 have hb5:Bw W w4:=HB3.out.trans (hb4.mono HB3.out.size)
 obtain⟨⟨c0,c1,z0,z1⟩,⟨c2,c3,z2,z3⟩,⟨c4,c5,z4,z5⟩⟩:=HK.out w4 hb5
 have HB:Hid (Bw w w4):=HX.out.1.trans (hb5.mono HX.out.1.size)
 have HR:Hid (IvB w4 (w.heap.size+1+1) 0 0):=HX.out.2.2.2.box hb5
 clear ks hb4 hb5 HK HX HB3
 go_wp2
 refine bodyPost_ret (results_cell_tmp_row rfl _ _ (w.heap.size+1+1) 24 #[.float .f64 x,.float .f64 y] (0,0) _ rfl (HR.out.set _ _) Tryz.underlying24 rfl iv_info) rfl ?_
 exact⟨rfl,below_store2 HB.out (by omega) _ _⟩
attribute [local go_sem] run_store_flt
def lowF (D:Nat→Nat):Nat→Nat
 | 0=>9218868437227405312
 | n+1=>fMin (lowF D n) (D n)
def hiF (D:Nat→Nat):Nat→Nat
 | 0=>18442240474082181120
 | n+1=>fMax (hiF D n) (D n)
theorem lowF_ok {D:Nat→Nat} (h:∀ i,D i<18446744073709551616∧isNaN (D i)=false):∀ n,lowF D n<18446744073709551616∧isNaN (lowF D n)=false
 | 0=>⟨by unfold lowF;omega,by unfold lowF;decide⟩
 | n+1=>⟨fMin_lt (lowF_ok h n).1 (h n).1,fMin_nn (lowF_ok h n).2 (h n).2⟩
theorem hiF_ok {D:Nat→Nat} (h:∀ i,D i<18446744073709551616∧isNaN (D i)=false):∀ n,hiF D n<18446744073709551616∧isNaN (hiF D n)=false
 | 0=>⟨by unfold hiF;omega,by unfold hiF;decide⟩
 | n+1=>⟨fMax_lt (hiF_ok h n).1 (h n).1,fMax_nn (hiF_ok h n).2 (h n).2⟩
def onF (a:Nat):Nat:=if isNaN a then 0 else a
theorem onF_ok {a:Nat} (h:a<18446744073709551616):onF a<18446744073709551616∧isNaN (onF a)=false:=by
 unfold onF
 cases e:isNaN a
 ·exact⟨h,e⟩
 ·rw[if_pos rfl];exact⟨by omega,by decide⟩
theorem onF_lk {n X:Nat} (h:lk n X):onF n=onF X:=by
 rcases lk_or h with rfl|⟨h1,h2⟩
 ·rfl
 ·unfold onF;rw[h1,h2];rfl
theorem sorn_lk {n X:Nat} (h:lk n X) (w:World):Calls Tryz.prog 99 #[.float .f64 n] w fun r w'=>r=.returned (.float .f64 (onF X))∧w'=w:=by
 rw[←onF_lk h]
 exact sorn n h.1 w
theorem run_pairs0 (a b c d e f g h:Nat) (w:World):(Instr.index 76 (.agg #[.float .f64 a,.float .f64 b,.float .f64 c,.float .f64 d,.float .f64 e,.float .f64 f,.float .f64 g,.float .f64 h]) (.int .i64 0)).run Tryz.prog w=.ok (.agg #[.float .f64 a,.float .f64 b]) w:=by kernel_rfl
theorem run_pairs1 (a b c d e f g h:Nat) (w:World):(Instr.index 76 (.agg #[.float .f64 a,.float .f64 b,.float .f64 c,.float .f64 d,.float .f64 e,.float .f64 f,.float .f64 g,.float .f64 h]) (.int .i64 1)).run Tryz.prog w=.ok (.agg #[.float .f64 c,.float .f64 d]) w:=by kernel_rfl
theorem run_pairs2 (a b c d e f g h:Nat) (w:World):(Instr.index 76 (.agg #[.float .f64 a,.float .f64 b,.float .f64 c,.float .f64 d,.float .f64 e,.float .f64 f,.float .f64 g,.float .f64 h]) (.int .i64 2)).run Tryz.prog w=.ok (.agg #[.float .f64 e,.float .f64 f]) w:=by kernel_rfl
theorem run_pairs3 (a b c d e f g h:Nat) (w:World):(Instr.index 76 (.agg #[.float .f64 a,.float .f64 b,.float .f64 c,.float .f64 d,.float .f64 e,.float .f64 f,.float .f64 g,.float .f64 h]) (.int .i64 3)).run Tryz.prog w=.ok (.agg #[.float .f64 g,.float .f64 h]) w:=by kernel_rfl
theorem sspread_Mul (X Y D E:Nat→Nat) (w:World) (hD:∀ i,D i<18446744073709551616) (hE:∀ i,E i<18446744073709551616)
  (kd:∀ i,i<4→∀ W,Bw w W→Calls Tryz.prog 70 #[.float .f64 (X i),.float .f64 (Y i),.int .i64 1] W fun r w'=>∃ n,r=.returned (.float .f64 n)∧lk n (D i)∧Bw W w')
  (ku:∀ i,i<4→∀ W,Bw w W→Calls Tryz.prog 70 #[.float .f64 (X i),.float .f64 (Y i),.int .i64 3] W fun r w'=>∃ n,r=.returned (.float .f64 n)∧lk n (E i)∧Bw W w') :
  Calls Tryz.prog 69 #[.agg #[.float .f64 (X 0),.float .f64 (Y 0),.float .f64 (X 1),.float .f64 (Y 1),.float .f64 (X 2),.float .f64 (Y 2),.float .f64 (X 3),.float .f64 (Y 3)],.func (.func 70) #[] #[]] w fun r w'=>r=.returned (.agg #[.float .f64 (pl (lowF (fun i=>onF (D i)) 4)),.float .f64 (pl (hiF (fun i=>onF (E i)) 4))])∧Bw w w':=by
 have HD:Hid _:=kd
 have HU:Hid _:=ku
 have HLo:Hid (∀ n,lowF (fun i=>onF (D i)) n<18446744073709551616∧isNaN (lowF (fun i=>onF (D i)) n)=false):=lowF_ok fun i=>onF_ok (hD i)
 have HHi:Hid (∀ n,hiF (fun i=>onF (E i)) n<18446744073709551616∧isNaN (hiF (fun i=>onF (E i)) n)=false):=hiF_ok fun i=>onF_ok (hE i)
 have HDE:Hid ((∀ i,D i<18446744073709551616)∧∀ i,E i<18446744073709551616):=⟨hD,hE⟩
 obtain⟨W,hW⟩:∃ W,W=(w.alloc (.cells #[.float .f64 (X 0),.float .f64 (Y 0),.float .f64 (X 1),.float .f64 (Y 1),.float .f64 (X 2),.float .f64 (Y 2),.float .f64 (X 3),.float .f64 (Y 3)] 76)).alloc (.cells #[.float .f64 0,.float .f64 0] 24):=⟨_,rfl⟩
 have HX:Hid (Bw w W∧W.heap[w.heap.size]?=some (.cells #[.float .f64 (X 0),.float .f64 (Y 0),.float .f64 (X 1),.float .f64 (Y 1),.float .f64 (X 2),.float .f64 (Y 2),.float .f64 (X 3),.float .f64 (Y 3)] 76 (0,0))∧IvB W (w.heap.size+1) 0 0):=by
  rw[hW]
  refine⟨((Below.refl _ _).alloc (Nat.le_refl _) _).alloc (by simp) _,?_,?_⟩
  ·exact(Below.heap_alloc _ _ _ (by simp)).trans (heap_alloc_new _ _)
  ·have:=IvB.new (w.alloc (.cells #[.float .f64 (X 0),.float .f64 (Y 0),.float .f64 (X 1),.float .f64 (Y 1),.float .f64 (X 2),.float .f64 (Y 2),.float .f64 (X 3),.float .f64 (Y 3)] 76)) 0 0
   simpa using this
 clear kd ku hD hE
 go_enter Tryz.func69,Tryz.ntmps69
 go_upto_region 1 with fail
 rw[←hW]
 clear hW
 have hc:W.cell? ⟨w.heap.size,0,none⟩=some (.float .f64 (X 0))∧W.cell? ⟨w.heap.size,1,none⟩=some (.float .f64 (Y 0))∧W.cell? ⟨w.heap.size,2,none⟩=some (.float .f64 (X 1))∧W.cell? ⟨w.heap.size,3,none⟩=some (.float .f64 (Y 1))∧W.cell? ⟨w.heap.size,4,none⟩=some (.float .f64 (X 2))∧W.cell? ⟨w.heap.size,5,none⟩=some (.float .f64 (Y 2))∧W.cell? ⟨w.heap.size,6,none⟩=some (.float .f64 (X 3))∧W.cell? ⟨w.heap.size,7,none⟩=some (.float .f64 (Y 3)):=by
  have:=HX.out.2.1
  simp[World.cell?,this]
 obtain⟨q0,q1,q2,q3,q4,q5,q6,q7⟩:=hc
 have hI1:∀ W,Calls Tryz.prog 40 #[.int .i64 1] W fun r w'=>r=.returned (.float .f64 (lowF (fun i=>onF (D i)) 0))∧w'=W:=cinf_p
 have hI2:∀ W,Calls Tryz.prog 40 #[.int .i64 (-1)] W fun r w'=>r=.returned (.float .f64 (hiF (fun i=>onF (E i)) 0))∧w'=W:=cinf_m
 generalize hlo:lowF (fun i=>onF (D i))=Lo at *
 generalize hhi:hiF (fun i=>onF (E i))=Hi at *
 have HlH:Hid (lowF (fun i=>onF (D i))=Lo∧hiF (fun i=>onF (E i))=Hi):=⟨hlo,hhi⟩
 clear hlo hhi
 go_wp2_with (first|(go_at_call 40;first|(with_reducible refine(hI1 _).mono ?_;rintro r w' ⟨rfl,hw⟩;replace hw:=hw.symm;subst hw)|(with_reducible refine(hI2 _).mono ?_;rintro r w' ⟨rfl,hw⟩;replace hw:=hw.symm;subst hw)))
 clear hI1 hI2 q0 q1 q2 q3 q4 q5 q6 q7
 go_loopw [5,6,12] (fun lo hi i wr=>∃ j:Nat,j≤4∧i=.int .i64 j∧lo=.float .f64 (Lo j)∧hi=.float .f64 (Hi j)∧Hid (Bw W wr)) (fun lo hi i _=>4 - (intOf i).toNat)
 case atStart=>exact⟨0,by omega,rfl,rfl,rfl,Below.refl _ _⟩
 case round =>
  obtain⟨j,hj,rfl,rfl,rfl,hB⟩:=hrel
  obtain⟨W1,hW1⟩:∃ f:Nat→World,f=fun j=>wr.alloc (.cells #[.float .f64 (X j),.float .f64 (Y j)] 74):=⟨_,rfl⟩
  have HB1:Hid (∀ j,(W1 j).heap[wr.heap.size]?=some (.cells #[.float .f64 (X j),.float .f64 (Y j)] 74 (0,0))):=fun j=>by rw[hW1];exact heap_alloc_new _ _
  have HBW1:Hid (∀ j,Below W.heap.size W (W1 j)):=fun j=>by rw[hW1];exact hB.out.alloc hB.out.size _
  have HL1:Hid (∀ j,Lo (j+1)=fMin (Lo j) (onF (D j))∧Hi (j+1)=fMax (Hi j) (onF (E j))):=fun j=>by rw[←HlH.out.1,←HlH.out.2];exact⟨rfl,rfl⟩
  rcases(show j=0∨j=1∨j=2∨j=3∨j=4 by omega)with rfl|rfl|rfl|rfl|rfl
  ·have hW1:W1 0=wr.alloc (.cells #[.float .f64 (X 0),.float .f64 (Y 0)] 74):=by rw[hW1]
   have hp:=run_pairs0 (X 0) (Y 0) (X 1) (Y 1) (X 2) (Y 2) (X 3) (Y 3) wr
   have kd:=HD.out 0 (by omega) (W1 0) (HX.out.1.trans ((HBW1.out 0).mono HX.out.1.size))
   have ⟨s0,s1⟩:=box_cells2 (HB1.out 0)
   have HB1:=HB1.out 0
   have HB1:Hid ((W1 0).heap[wr.heap.size]?=some (.cells #[.float .f64 (X 0),.float .f64 (Y 0)] 74 (0,0))):=HB1
   have HBW:Hid (Below W.heap.size W (W1 0)):=HBW1.out 0
   clear HBW1
   generalize W1 0=V at *
   go_upto_region 5 with fail
   rw[←hW1]
   clear hW1
   go_wp2_with fail
   refine kd.mono ?_
   rintro r w2 ⟨n,rfl,hl,hb2⟩
   have ko:=sorn_lk hl w2
   have hm:=fun ts t=>run_fmin (P:=Tryz.prog) w2 ts t _ _ (HLo.out 0).1 (onF_ok (HDE.out.1 0)).1 (HLo.out 0).2 (onF_ok (HDE.out.1 0)).2
   rw[←(HL1.out 0).1] at hm
   obtain⟨t0,t1⟩:=box_cells2 (box_later HB1.out hb2 (lt_of_box HB1.out))
   have HB3:Hid (Bw W w2):=HBW.out.trans (hb2.mono HBW.out.size)
   clear hl hb2 kd s0 s1 HBW HB1
   have ku:=HU.out 0 (by omega) w2 (HX.out.1.trans (HB3.out.mono HX.out.1.size))
   generalize onF (D 0)=d0 at *
   go_wp2_with fail
   refine ko.mono ?_
   rintro r w3 ⟨rfl,hw⟩
   replace hw:=hw.symm
   subst hw
   clear ko
   go_wp2_with fail
   refine ku.mono ?_
   rintro r w3 ⟨n2,rfl,hl,hb2⟩
   have ko:=sorn_lk hl w3
   clear hm
   have hm:=fun ts t=>run_fmax (P:=Tryz.prog) w3 ts t _ _ (HHi.out 0).1 (onF_ok (HDE.out.2 0)).1 (HHi.out 0).2 (onF_ok (HDE.out.2 0)).2
   rw[←(HL1.out 0).2] at hm
   have HB4:Hid (Bw W w3):=HB3.out.trans (hb2.mono HB3.out.size)
   clear hl hb2 ku t0 t1 HB3
   generalize onF (E 0)=e0 at *
   go_wp2_with fail
   refine ko.mono ?_
   rintro r w4 ⟨rfl,hw⟩
   replace hw:=hw.symm
   subst hw
   clear ko
   go_wp2_with fail
   exact⟨⟨0+1,by omega,rfl,rfl,rfl,HB4⟩,by simp[intOf]⟩
  ·have hW1:W1 1=wr.alloc (.cells #[.float .f64 (X 1),.float .f64 (Y 1)] 74):=by rw[hW1]
   have hp:=run_pairs1 (X 0) (Y 0) (X 1) (Y 1) (X 2) (Y 2) (X 3) (Y 3) wr
   have kd:=HD.out 1 (by omega) (W1 1) (HX.out.1.trans ((HBW1.out 1).mono HX.out.1.size))
   have ⟨s0,s1⟩:=box_cells2 (HB1.out 1)
   have HB1:=HB1.out 1
   have HB1:Hid ((W1 1).heap[wr.heap.size]?=some (.cells #[.float .f64 (X 1),.float .f64 (Y 1)] 74 (0,0))):=HB1
   have HBW:Hid (Below W.heap.size W (W1 1)):=HBW1.out 1
   clear HBW1
   generalize W1 1=V at *
   go_upto_region 5 with fail
   rw[←hW1]
   clear hW1
   go_wp2_with fail
   refine kd.mono ?_
   rintro r w2 ⟨n,rfl,hl,hb2⟩
   have ko:=sorn_lk hl w2
   have hm:=fun ts t=>run_fmin (P:=Tryz.prog) w2 ts t _ _ (HLo.out 1).1 (onF_ok (HDE.out.1 1)).1 (HLo.out 1).2 (onF_ok (HDE.out.1 1)).2
   rw[←(HL1.out 1).1] at hm
   obtain⟨t0,t1⟩:=box_cells2 (box_later HB1.out hb2 (lt_of_box HB1.out))
   have HB3:Hid (Bw W w2):=HBW.out.trans (hb2.mono HBW.out.size)
   clear hl hb2 kd s0 s1 HBW HB1
   have ku:=HU.out 1 (by omega) w2 (HX.out.1.trans (HB3.out.mono HX.out.1.size))
   generalize onF (D 1)=d0 at *
   go_wp2_with fail
   refine ko.mono ?_
   rintro r w3 ⟨rfl,hw⟩
   replace hw:=hw.symm
   subst hw
   clear ko
   go_wp2_with fail
   refine ku.mono ?_
   rintro r w3 ⟨n2,rfl,hl,hb2⟩
   have ko:=sorn_lk hl w3
   clear hm
   have hm:=fun ts t=>run_fmax (P:=Tryz.prog) w3 ts t _ _ (HHi.out 1).1 (onF_ok (HDE.out.2 1)).1 (HHi.out 1).2 (onF_ok (HDE.out.2 1)).2
   rw[←(HL1.out 1).2] at hm
   have HB4:Hid (Bw W w3):=HB3.out.trans (hb2.mono HB3.out.size)
   clear hl hb2 ku t0 t1 HB3
   generalize onF (E 1)=e0 at *
   go_wp2_with fail
   refine ko.mono ?_
   rintro r w4 ⟨rfl,hw⟩
   replace hw:=hw.symm
   subst hw
   clear ko
   go_wp2_with fail
   exact⟨⟨1+1,by omega,rfl,rfl,rfl,HB4⟩,by simp[intOf]⟩
  ·have hW1:W1 2=wr.alloc (.cells #[.float .f64 (X 2),.float .f64 (Y 2)] 74):=by rw[hW1]
   have hp:=run_pairs2 (X 0) (Y 0) (X 1) (Y 1) (X 2) (Y 2) (X 3) (Y 3) wr
   have kd:=HD.out 2 (by omega) (W1 2) (HX.out.1.trans ((HBW1.out 2).mono HX.out.1.size))
   have ⟨s0,s1⟩:=box_cells2 (HB1.out 2)
   have HB1:=HB1.out 2
   have HB1:Hid ((W1 2).heap[wr.heap.size]?=some (.cells #[.float .f64 (X 2),.float .f64 (Y 2)] 74 (0,0))):=HB1
   have HBW:Hid (Below W.heap.size W (W1 2)):=HBW1.out 2
   clear HBW1
   generalize W1 2=V at *
   go_upto_region 5 with fail
   rw[←hW1]
   clear hW1
   go_wp2_with fail
   refine kd.mono ?_
   rintro r w2 ⟨n,rfl,hl,hb2⟩
   have ko:=sorn_lk hl w2
   have hm:=fun ts t=>run_fmin (P:=Tryz.prog) w2 ts t _ _ (HLo.out 2).1 (onF_ok (HDE.out.1 2)).1 (HLo.out 2).2 (onF_ok (HDE.out.1 2)).2
   rw[←(HL1.out 2).1] at hm
   obtain⟨t0,t1⟩:=box_cells2 (box_later HB1.out hb2 (lt_of_box HB1.out))
   have HB3:Hid (Bw W w2):=HBW.out.trans (hb2.mono HBW.out.size)
   clear hl hb2 kd s0 s1 HBW HB1
   have ku:=HU.out 2 (by omega) w2 (HX.out.1.trans (HB3.out.mono HX.out.1.size))
   generalize onF (D 2)=d0 at *
   go_wp2_with fail
   refine ko.mono ?_
   rintro r w3 ⟨rfl,hw⟩
   replace hw:=hw.symm
   subst hw
   clear ko
   go_wp2_with fail
   refine ku.mono ?_
   rintro r w3 ⟨n2,rfl,hl,hb2⟩
   have ko:=sorn_lk hl w3
   clear hm
   have hm:=fun ts t=>run_fmax (P:=Tryz.prog) w3 ts t _ _ (HHi.out 2).1 (onF_ok (HDE.out.2 2)).1 (HHi.out 2).2 (onF_ok (HDE.out.2 2)).2
   rw[←(HL1.out 2).2] at hm
   have HB4:Hid (Bw W w3):=HB3.out.trans (hb2.mono HB3.out.size)
   clear hl hb2 ku t0 t1 HB3
   generalize onF (E 2)=e0 at *
   go_wp2_with fail
   refine ko.mono ?_
   rintro r w4 ⟨rfl,hw⟩
   replace hw:=hw.symm
   subst hw
   clear ko
   go_wp2_with fail
   exact⟨⟨2+1,by omega,rfl,rfl,rfl,HB4⟩,by simp[intOf]⟩
  ·have hW1:W1 3=wr.alloc (.cells #[.float .f64 (X 3),.float .f64 (Y 3)] 74):=by rw[hW1]
   have hp:=run_pairs3 (X 0) (Y 0) (X 1) (Y 1) (X 2) (Y 2) (X 3) (Y 3) wr
   have kd:=HD.out 3 (by omega) (W1 3) (HX.out.1.trans ((HBW1.out 3).mono HX.out.1.size))
   have ⟨s0,s1⟩:=box_cells2 (HB1.out 3)
   have HB1:=HB1.out 3
   have HB1:Hid ((W1 3).heap[wr.heap.size]?=some (.cells #[.float .f64 (X 3),.float .f64 (Y 3)] 74 (0,0))):=HB1
   have HBW:Hid (Below W.heap.size W (W1 3)):=HBW1.out 3
   clear HBW1
   generalize W1 3=V at *
   go_upto_region 5 with fail
   rw[←hW1]
   clear hW1
   go_wp2_with fail
   refine kd.mono ?_
   rintro r w2 ⟨n,rfl,hl,hb2⟩
   have ko:=sorn_lk hl w2
   have hm:=fun ts t=>run_fmin (P:=Tryz.prog) w2 ts t _ _ (HLo.out 3).1 (onF_ok (HDE.out.1 3)).1 (HLo.out 3).2 (onF_ok (HDE.out.1 3)).2
   rw[←(HL1.out 3).1] at hm
   obtain⟨t0,t1⟩:=box_cells2 (box_later HB1.out hb2 (lt_of_box HB1.out))
   have HB3:Hid (Bw W w2):=HBW.out.trans (hb2.mono HBW.out.size)
   clear hl hb2 kd s0 s1 HBW HB1
   have ku:=HU.out 3 (by omega) w2 (HX.out.1.trans (HB3.out.mono HX.out.1.size))
   generalize onF (D 3)=d0 at *
   go_wp2_with fail
   refine ko.mono ?_
   rintro r w3 ⟨rfl,hw⟩
   replace hw:=hw.symm
   subst hw
   clear ko
   go_wp2_with fail
   refine ku.mono ?_
   rintro r w3 ⟨n2,rfl,hl,hb2⟩
   have ko:=sorn_lk hl w3
   clear hm
   have hm:=fun ts t=>run_fmax (P:=Tryz.prog) w3 ts t _ _ (HHi.out 3).1 (onF_ok (HDE.out.2 3)).1 (HHi.out 3).2 (onF_ok (HDE.out.2 3)).2
   rw[←(HL1.out 3).2] at hm
   have HB4:Hid (Bw W w3):=HB3.out.trans (hb2.mono HB3.out.size)
   clear hl hb2 ku t0 t1 HB3
   generalize onF (E 3)=e0 at *
   go_wp2_with fail
   refine ko.mono ?_
   rintro r w4 ⟨rfl,hw⟩
   replace hw:=hw.symm
   subst hw
   clear ko
   go_wp2_with fail
   exact⟨⟨3+1,by omega,rfl,rfl,rfl,HB4⟩,by simp[intOf]⟩
  ·have kb:=sbetween (Lo 4) (Hi 4) wr (HLo.out 4).1 (HHi.out 4).1
   have HR:Hid (IvB wr (w.heap.size+1) 0 0):=HX.out.2.2.box hB.out
   have HBw:Hid (Bw w wr):=HX.out.1.trans (hB.out.mono HX.out.1.size)
   clear HB1 HBW1 hW1
   go_wp2_with fail
   refine kb.mono ?_
   rintro r w2 ⟨rfl,hb2⟩
   have hR2:IvB w2 (w.heap.size+1) 0 0:=HR.out.box hb2
   obtain⟨y0,y1,y2,y3⟩:=hR2.facts
   have HR:Hid (IvB w2 (w.heap.size+1) 0 0):=hR2
   have HB2:Hid (Bw w w2):=HBw.out.trans (hb2.mono HBw.out.size)
   clear hb2 hR2 kb
   generalize hA:pl (Lo 4)=A at *
   generalize hC:pl (Hi 4)=C at *
   have HAC:Hid (pl (Lo 4)=A∧pl (Hi 4)=C):=⟨hA,hC⟩
   clear hA hC
   go_wp2_with fail
   refine bodyPost_ret (results_cell_row rfl _ _ (w.heap.size+1) 24 #[.float .f64 A,.float .f64 C] (0,0) _ rfl (HR.out.set _ _) Tryz.underlying24 rfl iv_info) rfl ?_
   exact⟨by rw[HlH.out.1,HlH.out.2,HAC.out.1,HAC.out.2],below_store2 HB2.out (by omega) _ _⟩
theorem sspread_Div (X Y D E:Nat→Nat) (w:World) (hD:∀ i,D i<18446744073709551616) (hE:∀ i,E i<18446744073709551616)
  (kd:∀ i,i<4→∀ W,Bw w W→Calls Tryz.prog 71 #[.float .f64 (X i),.float .f64 (Y i),.int .i64 1] W fun r w'=>∃ n,r=.returned (.float .f64 n)∧lk n (D i)∧Bw W w')
  (ku:∀ i,i<4→∀ W,Bw w W→Calls Tryz.prog 71 #[.float .f64 (X i),.float .f64 (Y i),.int .i64 3] W fun r w'=>∃ n,r=.returned (.float .f64 n)∧lk n (E i)∧Bw W w') :
  Calls Tryz.prog 69 #[.agg #[.float .f64 (X 0),.float .f64 (Y 0),.float .f64 (X 1),.float .f64 (Y 1),.float .f64 (X 2),.float .f64 (Y 2),.float .f64 (X 3),.float .f64 (Y 3)],.func (.func 71) #[] #[]] w fun r w'=>r=.returned (.agg #[.float .f64 (pl (lowF (fun i=>onF (D i)) 4)),.float .f64 (pl (hiF (fun i=>onF (E i)) 4))])∧Bw w w':=by
 have HD:Hid _:=kd
 have HU:Hid _:=ku
 have HLo:Hid (∀ n,lowF (fun i=>onF (D i)) n<18446744073709551616∧isNaN (lowF (fun i=>onF (D i)) n)=false):=lowF_ok fun i=>onF_ok (hD i)
 have HHi:Hid (∀ n,hiF (fun i=>onF (E i)) n<18446744073709551616∧isNaN (hiF (fun i=>onF (E i)) n)=false):=hiF_ok fun i=>onF_ok (hE i)
 have HDE:Hid ((∀ i,D i<18446744073709551616)∧∀ i,E i<18446744073709551616):=⟨hD,hE⟩
 obtain⟨W,hW⟩:∃ W,W=(w.alloc (.cells #[.float .f64 (X 0),.float .f64 (Y 0),.float .f64 (X 1),.float .f64 (Y 1),.float .f64 (X 2),.float .f64 (Y 2),.float .f64 (X 3),.float .f64 (Y 3)] 76)).alloc (.cells #[.float .f64 0,.float .f64 0] 24):=⟨_,rfl⟩
 have HX:Hid (Bw w W∧W.heap[w.heap.size]?=some (.cells #[.float .f64 (X 0),.float .f64 (Y 0),.float .f64 (X 1),.float .f64 (Y 1),.float .f64 (X 2),.float .f64 (Y 2),.float .f64 (X 3),.float .f64 (Y 3)] 76 (0,0))∧IvB W (w.heap.size+1) 0 0):=by
  rw[hW]
  refine⟨((Below.refl _ _).alloc (Nat.le_refl _) _).alloc (by simp) _,?_,?_⟩
  ·exact(Below.heap_alloc _ _ _ (by simp)).trans (heap_alloc_new _ _)
  ·have:=IvB.new (w.alloc (.cells #[.float .f64 (X 0),.float .f64 (Y 0),.float .f64 (X 1),.float .f64 (Y 1),.float .f64 (X 2),.float .f64 (Y 2),.float .f64 (X 3),.float .f64 (Y 3)] 76)) 0 0
   simpa using this
 clear kd ku hD hE
 go_enter Tryz.func69,Tryz.ntmps69
 go_upto_region 1 with fail
 rw[←hW]
 clear hW
 have hc:W.cell? ⟨w.heap.size,0,none⟩=some (.float .f64 (X 0))∧W.cell? ⟨w.heap.size,1,none⟩=some (.float .f64 (Y 0))∧W.cell? ⟨w.heap.size,2,none⟩=some (.float .f64 (X 1))∧W.cell? ⟨w.heap.size,3,none⟩=some (.float .f64 (Y 1))∧W.cell? ⟨w.heap.size,4,none⟩=some (.float .f64 (X 2))∧W.cell? ⟨w.heap.size,5,none⟩=some (.float .f64 (Y 2))∧W.cell? ⟨w.heap.size,6,none⟩=some (.float .f64 (X 3))∧W.cell? ⟨w.heap.size,7,none⟩=some (.float .f64 (Y 3)):=by
  have:=HX.out.2.1
  simp[World.cell?,this]
 obtain⟨q0,q1,q2,q3,q4,q5,q6,q7⟩:=hc
 have hI1:∀ W,Calls Tryz.prog 40 #[.int .i64 1] W fun r w'=>r=.returned (.float .f64 (lowF (fun i=>onF (D i)) 0))∧w'=W:=cinf_p
 have hI2:∀ W,Calls Tryz.prog 40 #[.int .i64 (-1)] W fun r w'=>r=.returned (.float .f64 (hiF (fun i=>onF (E i)) 0))∧w'=W:=cinf_m
 generalize hlo:lowF (fun i=>onF (D i))=Lo at *
 generalize hhi:hiF (fun i=>onF (E i))=Hi at *
 have HlH:Hid (lowF (fun i=>onF (D i))=Lo∧hiF (fun i=>onF (E i))=Hi):=⟨hlo,hhi⟩
 clear hlo hhi
 go_wp2_with (first|(go_at_call 40;first|(with_reducible refine(hI1 _).mono ?_;rintro r w' ⟨rfl,hw⟩;replace hw:=hw.symm;subst hw)|(with_reducible refine(hI2 _).mono ?_;rintro r w' ⟨rfl,hw⟩;replace hw:=hw.symm;subst hw)))
 clear hI1 hI2 q0 q1 q2 q3 q4 q5 q6 q7
 go_loopw [5,6,12] (fun lo hi i wr=>∃ j:Nat,j≤4∧i=.int .i64 j∧lo=.float .f64 (Lo j)∧hi=.float .f64 (Hi j)∧Hid (Bw W wr)) (fun lo hi i _=>4 - (intOf i).toNat)
 case atStart=>exact⟨0,by omega,rfl,rfl,rfl,Below.refl _ _⟩
 case round =>
  obtain⟨j,hj,rfl,rfl,rfl,hB⟩:=hrel
  obtain⟨W1,hW1⟩:∃ f:Nat→World,f=fun j=>wr.alloc (.cells #[.float .f64 (X j),.float .f64 (Y j)] 74):=⟨_,rfl⟩
  have HB1:Hid (∀ j,(W1 j).heap[wr.heap.size]?=some (.cells #[.float .f64 (X j),.float .f64 (Y j)] 74 (0,0))):=fun j=>by rw[hW1];exact heap_alloc_new _ _
  have HBW1:Hid (∀ j,Below W.heap.size W (W1 j)):=fun j=>by rw[hW1];exact hB.out.alloc hB.out.size _
  have HL1:Hid (∀ j,Lo (j+1)=fMin (Lo j) (onF (D j))∧Hi (j+1)=fMax (Hi j) (onF (E j))):=fun j=>by rw[←HlH.out.1,←HlH.out.2];exact⟨rfl,rfl⟩
  rcases(show j=0∨j=1∨j=2∨j=3∨j=4 by omega)with rfl|rfl|rfl|rfl|rfl
  ·have hW1:W1 0=wr.alloc (.cells #[.float .f64 (X 0),.float .f64 (Y 0)] 74):=by rw[hW1]
   have hp:=run_pairs0 (X 0) (Y 0) (X 1) (Y 1) (X 2) (Y 2) (X 3) (Y 3) wr
   have kd:=HD.out 0 (by omega) (W1 0) (HX.out.1.trans ((HBW1.out 0).mono HX.out.1.size))
   have ⟨s0,s1⟩:=box_cells2 (HB1.out 0)
   have HB1:=HB1.out 0
   have HB1:Hid ((W1 0).heap[wr.heap.size]?=some (.cells #[.float .f64 (X 0),.float .f64 (Y 0)] 74 (0,0))):=HB1
   have HBW:Hid (Below W.heap.size W (W1 0)):=HBW1.out 0
   clear HBW1
   generalize W1 0=V at *
   go_upto_region 5 with fail
   rw[←hW1]
   clear hW1
   go_wp2_with fail
   refine kd.mono ?_
   rintro r w2 ⟨n,rfl,hl,hb2⟩
   have ko:=sorn_lk hl w2
   have hm:=fun ts t=>run_fmin (P:=Tryz.prog) w2 ts t _ _ (HLo.out 0).1 (onF_ok (HDE.out.1 0)).1 (HLo.out 0).2 (onF_ok (HDE.out.1 0)).2
   rw[←(HL1.out 0).1] at hm
   obtain⟨t0,t1⟩:=box_cells2 (box_later HB1.out hb2 (lt_of_box HB1.out))
   have HB3:Hid (Bw W w2):=HBW.out.trans (hb2.mono HBW.out.size)
   clear hl hb2 kd s0 s1 HBW HB1
   have ku:=HU.out 0 (by omega) w2 (HX.out.1.trans (HB3.out.mono HX.out.1.size))
   generalize onF (D 0)=d0 at *
   go_wp2_with fail
   refine ko.mono ?_
   rintro r w3 ⟨rfl,hw⟩
   replace hw:=hw.symm
   subst hw
   clear ko
   go_wp2_with fail
   refine ku.mono ?_
   rintro r w3 ⟨n2,rfl,hl,hb2⟩
   have ko:=sorn_lk hl w3
   clear hm
   have hm:=fun ts t=>run_fmax (P:=Tryz.prog) w3 ts t _ _ (HHi.out 0).1 (onF_ok (HDE.out.2 0)).1 (HHi.out 0).2 (onF_ok (HDE.out.2 0)).2
   rw[←(HL1.out 0).2] at hm
   have HB4:Hid (Bw W w3):=HB3.out.trans (hb2.mono HB3.out.size)
   clear hl hb2 ku t0 t1 HB3
   generalize onF (E 0)=e0 at *
   go_wp2_with fail
   refine ko.mono ?_
   rintro r w4 ⟨rfl,hw⟩
   replace hw:=hw.symm
   subst hw
   clear ko
   go_wp2_with fail
   exact⟨⟨0+1,by omega,rfl,rfl,rfl,HB4⟩,by simp[intOf]⟩
  ·have hW1:W1 1=wr.alloc (.cells #[.float .f64 (X 1),.float .f64 (Y 1)] 74):=by rw[hW1]
   have hp:=run_pairs1 (X 0) (Y 0) (X 1) (Y 1) (X 2) (Y 2) (X 3) (Y 3) wr
   have kd:=HD.out 1 (by omega) (W1 1) (HX.out.1.trans ((HBW1.out 1).mono HX.out.1.size))
   have ⟨s0,s1⟩:=box_cells2 (HB1.out 1)
   have HB1:=HB1.out 1
   have HB1:Hid ((W1 1).heap[wr.heap.size]?=some (.cells #[.float .f64 (X 1),.float .f64 (Y 1)] 74 (0,0))):=HB1
   have HBW:Hid (Below W.heap.size W (W1 1)):=HBW1.out 1
   clear HBW1
   generalize W1 1=V at *
   go_upto_region 5 with fail
   rw[←hW1]
   clear hW1
   go_wp2_with fail
   refine kd.mono ?_
   rintro r w2 ⟨n,rfl,hl,hb2⟩
   have ko:=sorn_lk hl w2
   have hm:=fun ts t=>run_fmin (P:=Tryz.prog) w2 ts t _ _ (HLo.out 1).1 (onF_ok (HDE.out.1 1)).1 (HLo.out 1).2 (onF_ok (HDE.out.1 1)).2
   rw[←(HL1.out 1).1] at hm
   obtain⟨t0,t1⟩:=box_cells2 (box_later HB1.out hb2 (lt_of_box HB1.out))
   have HB3:Hid (Bw W w2):=HBW.out.trans (hb2.mono HBW.out.size)
   clear hl hb2 kd s0 s1 HBW HB1
   have ku:=HU.out 1 (by omega) w2 (HX.out.1.trans (HB3.out.mono HX.out.1.size))
   generalize onF (D 1)=d0 at *
   go_wp2_with fail
   refine ko.mono ?_
   rintro r w3 ⟨rfl,hw⟩
   replace hw:=hw.symm
   subst hw
   clear ko
   go_wp2_with fail
   refine ku.mono ?_
   rintro r w3 ⟨n2,rfl,hl,hb2⟩
   have ko:=sorn_lk hl w3
   clear hm
   have hm:=fun ts t=>run_fmax (P:=Tryz.prog) w3 ts t _ _ (HHi.out 1).1 (onF_ok (HDE.out.2 1)).1 (HHi.out 1).2 (onF_ok (HDE.out.2 1)).2
   rw[←(HL1.out 1).2] at hm
   have HB4:Hid (Bw W w3):=HB3.out.trans (hb2.mono HB3.out.size)
   clear hl hb2 ku t0 t1 HB3
   generalize onF (E 1)=e0 at *
   go_wp2_with fail
   refine ko.mono ?_
   rintro r w4 ⟨rfl,hw⟩
   replace hw:=hw.symm
   subst hw
   clear ko
   go_wp2_with fail
   exact⟨⟨1+1,by omega,rfl,rfl,rfl,HB4⟩,by simp[intOf]⟩
  ·have hW1:W1 2=wr.alloc (.cells #[.float .f64 (X 2),.float .f64 (Y 2)] 74):=by rw[hW1]
   have hp:=run_pairs2 (X 0) (Y 0) (X 1) (Y 1) (X 2) (Y 2) (X 3) (Y 3) wr
   have kd:=HD.out 2 (by omega) (W1 2) (HX.out.1.trans ((HBW1.out 2).mono HX.out.1.size))
   have ⟨s0,s1⟩:=box_cells2 (HB1.out 2)
   have HB1:=HB1.out 2
   have HB1:Hid ((W1 2).heap[wr.heap.size]?=some (.cells #[.float .f64 (X 2),.float .f64 (Y 2)] 74 (0,0))):=HB1
   have HBW:Hid (Below W.heap.size W (W1 2)):=HBW1.out 2
   clear HBW1
   generalize W1 2=V at *
   go_upto_region 5 with fail
   rw[←hW1]
   clear hW1
   go_wp2_with fail
   refine kd.mono ?_
   rintro r w2 ⟨n,rfl,hl,hb2⟩
   have ko:=sorn_lk hl w2
   have hm:=fun ts t=>run_fmin (P:=Tryz.prog) w2 ts t _ _ (HLo.out 2).1 (onF_ok (HDE.out.1 2)).1 (HLo.out 2).2 (onF_ok (HDE.out.1 2)).2
   rw[←(HL1.out 2).1] at hm
   obtain⟨t0,t1⟩:=box_cells2 (box_later HB1.out hb2 (lt_of_box HB1.out))
   have HB3:Hid (Bw W w2):=HBW.out.trans (hb2.mono HBW.out.size)
   clear hl hb2 kd s0 s1 HBW HB1
   have ku:=HU.out 2 (by omega) w2 (HX.out.1.trans (HB3.out.mono HX.out.1.size))
   generalize onF (D 2)=d0 at *
   go_wp2_with fail
   refine ko.mono ?_
   rintro r w3 ⟨rfl,hw⟩
   replace hw:=hw.symm
   subst hw
   clear ko
   go_wp2_with fail
   refine ku.mono ?_
   rintro r w3 ⟨n2,rfl,hl,hb2⟩
   have ko:=sorn_lk hl w3
   clear hm
   have hm:=fun ts t=>run_fmax (P:=Tryz.prog) w3 ts t _ _ (HHi.out 2).1 (onF_ok (HDE.out.2 2)).1 (HHi.out 2).2 (onF_ok (HDE.out.2 2)).2
   rw[←(HL1.out 2).2] at hm
   have HB4:Hid (Bw W w3):=HB3.out.trans (hb2.mono HB3.out.size)
   clear hl hb2 ku t0 t1 HB3
   generalize onF (E 2)=e0 at *
   go_wp2_with fail
   refine ko.mono ?_
   rintro r w4 ⟨rfl,hw⟩
   replace hw:=hw.symm
   subst hw
   clear ko
   go_wp2_with fail
   exact⟨⟨2+1,by omega,rfl,rfl,rfl,HB4⟩,by simp[intOf]⟩
  ·have hW1:W1 3=wr.alloc (.cells #[.float .f64 (X 3),.float .f64 (Y 3)] 74):=by rw[hW1]
   have hp:=run_pairs3 (X 0) (Y 0) (X 1) (Y 1) (X 2) (Y 2) (X 3) (Y 3) wr
   have kd:=HD.out 3 (by omega) (W1 3) (HX.out.1.trans ((HBW1.out 3).mono HX.out.1.size))
   have ⟨s0,s1⟩:=box_cells2 (HB1.out 3)
   have HB1:=HB1.out 3
   have HB1:Hid ((W1 3).heap[wr.heap.size]?=some (.cells #[.float .f64 (X 3),.float .f64 (Y 3)] 74 (0,0))):=HB1
   have HBW:Hid (Below W.heap.size W (W1 3)):=HBW1.out 3
   clear HBW1
   generalize W1 3=V at *
   go_upto_region 5 with fail
   rw[←hW1]
   clear hW1
   go_wp2_with fail
   refine kd.mono ?_
   rintro r w2 ⟨n,rfl,hl,hb2⟩
   have ko:=sorn_lk hl w2
   have hm:=fun ts t=>run_fmin (P:=Tryz.prog) w2 ts t _ _ (HLo.out 3).1 (onF_ok (HDE.out.1 3)).1 (HLo.out 3).2 (onF_ok (HDE.out.1 3)).2
   rw[←(HL1.out 3).1] at hm
   obtain⟨t0,t1⟩:=box_cells2 (box_later HB1.out hb2 (lt_of_box HB1.out))
   have HB3:Hid (Bw W w2):=HBW.out.trans (hb2.mono HBW.out.size)
   clear hl hb2 kd s0 s1 HBW HB1
   have ku:=HU.out 3 (by omega) w2 (HX.out.1.trans (HB3.out.mono HX.out.1.size))
   generalize onF (D 3)=d0 at *
   go_wp2_with fail
   refine ko.mono ?_
   rintro r w3 ⟨rfl,hw⟩
   replace hw:=hw.symm
   subst hw
   clear ko
   go_wp2_with fail
   refine ku.mono ?_
   rintro r w3 ⟨n2,rfl,hl,hb2⟩
   have ko:=sorn_lk hl w3
   clear hm
   have hm:=fun ts t=>run_fmax (P:=Tryz.prog) w3 ts t _ _ (HHi.out 3).1 (onF_ok (HDE.out.2 3)).1 (HHi.out 3).2 (onF_ok (HDE.out.2 3)).2
   rw[←(HL1.out 3).2] at hm
   have HB4:Hid (Bw W w3):=HB3.out.trans (hb2.mono HB3.out.size)
   clear hl hb2 ku t0 t1 HB3
   generalize onF (E 3)=e0 at *
   go_wp2_with fail
   refine ko.mono ?_
   rintro r w4 ⟨rfl,hw⟩
   replace hw:=hw.symm
   subst hw
   clear ko
   go_wp2_with fail
   exact⟨⟨3+1,by omega,rfl,rfl,rfl,HB4⟩,by simp[intOf]⟩
  ·have kb:=sbetween (Lo 4) (Hi 4) wr (HLo.out 4).1 (HHi.out 4).1
   have HR:Hid (IvB wr (w.heap.size+1) 0 0):=HX.out.2.2.box hB.out
   have HBw:Hid (Bw w wr):=HX.out.1.trans (hB.out.mono HX.out.1.size)
   clear HB1 HBW1 hW1
   go_wp2_with fail
   refine kb.mono ?_
   rintro r w2 ⟨rfl,hb2⟩
   have hR2:IvB w2 (w.heap.size+1) 0 0:=HR.out.box hb2
   obtain⟨y0,y1,y2,y3⟩:=hR2.facts
   have HR:Hid (IvB w2 (w.heap.size+1) 0 0):=hR2
   have HB2:Hid (Bw w w2):=HBw.out.trans (hb2.mono HBw.out.size)
   clear hb2 hR2 kb
   generalize hA:pl (Lo 4)=A at *
   generalize hC:pl (Hi 4)=C at *
   have HAC:Hid (pl (Lo 4)=A∧pl (Hi 4)=C):=⟨hA,hC⟩
   clear hA hC
   go_wp2_with fail
   refine bodyPost_ret (results_cell_row rfl _ _ (w.heap.size+1) 24 #[.float .f64 A,.float .f64 C] (0,0) _ rfl (HR.out.set _ _) Tryz.underlying24 rfl iv_info) rfl ?_
   exact⟨by rw[HlH.out.1,HlH.out.2,HAC.out.1,HAC.out.2],below_store2 HB2.out (by omega) _ _⟩
def pk4 (a b c d:Nat):Nat→Nat
 | 0=>a
 | 1=>b
 | 2=>c
 | _=>d
theorem pk4_lt {a b c d:Nat} (ha:a<18446744073709551616) (hb:b<18446744073709551616) (hc:c<18446744073709551616) (hd:d<18446744073709551616) (i:Nat):pk4 a b c d i<18446744073709551616:=by
 unfold pk4
 split <;> assumption
def mlo (a b c d:Nat):Nat:=pl (lowF (fun i=>onF (fMul (pk4 a a b b i) (pk4 c d c d i) 1)) 4)
def mhi (a b c d:Nat):Nat:=pl (hiF (fun i=>onF (fMul (pk4 a a b b i) (pk4 c d c d i) 3)) 4)
def qlo (a b c d:Nat):Nat:=pl (lowF (fun i=>onF (fDiv (pk4 a a b b i) (pk4 c d c d i) 1)) 4)
def qhi (a b c d:Nat):Nat:=pl (hiF (fun i=>onF (fDiv (pk4 a a b b i) (pk4 c d c d i) 3)) 4)
theorem smul (a b c d:Nat) (ha:a<18446744073709551616) (hb:b<18446744073709551616) (hc:c<18446744073709551616) (hd:d<18446744073709551616) (w:World) (hT:Tab32 w) (hJ:Ie.Tab w) :
  Calls Tryz.prog 42 #[.agg #[.float .f64 a,.float .f64 b],.agg #[.float .f64 c,.float .f64 d]] w fun r w'=>r=.returned (orV (vI a b&&vI c d) (mlo a b c d) (mhi a b c d) (.int .i64 0) (.int .i64 1))∧Bw w w' :=
 smul_1 a b c d _ _ _ w (fun W g T h=>smaybe h ha hb hc hd) (fun _ W hW =>
  sspread_Mul (pk4 a a b b) (pk4 c d c d) (fun i=>fMul (pk4 a a b b i) (pk4 c d c d i) 1) (fun i=>fMul (pk4 a a b b i) (pk4 c d c d i) 3) W (fun i=>fMul_lt) (fun i=>fMul_lt)
   (fun i _ V hV=>pmul_all _ _ 1 (pk4_lt ha ha hb hb i) (pk4_lt hc hd hc hd i) V (hT.later (hW.trans (hV.mono hW.size))) (Tab.later hJ (hW.trans (hV.mono hW.size))))
   (fun i _ V hV=>pmul_all _ _ 3 (pk4_lt ha ha hb hb i) (pk4_lt hc hd hc hd i) V (hT.later (hW.trans (hV.mono hW.size))) (Tab.later hJ (hW.trans (hV.mono hW.size)))))
theorem squo (a b c d:Nat) (ha:a<18446744073709551616) (hb:b<18446744073709551616) (hc:c<18446744073709551616) (hd:d<18446744073709551616) (w:World) (hT:Tab32 w) (hJ:Ie.Tab w) :
  Calls Tryz.prog 44 #[.agg #[.float .f64 a,.float .f64 b],.agg #[.float .f64 c,.float .f64 d]] w fun r w'=>r=.returned (quoV (vI a b&&vI c d) (hI c d 0) (qlo a b c d) (qhi a b c d))∧Bw w w' :=
 squo_1 a b c d _ _ _ _ w (fun W g T h=>smaybe h ha hb hc hd) (fun _ _ W hW =>
  sspread_Div (pk4 a a b b) (pk4 c d c d) (fun i=>fDiv (pk4 a a b b i) (pk4 c d c d i) 1) (fun i=>fDiv (pk4 a a b b i) (pk4 c d c d i) 3) W (fun i=>fDiv_lt) (fun i=>fDiv_lt)
   (fun i _ V hV=>pdiv_all _ _ 1 (pk4_lt ha ha hb hb i) (pk4_lt hc hd hc hd i) V (hT.later (hW.trans (hV.mono hW.size))) (Tab.later hJ (hW.trans (hV.mono hW.size))))
   (fun i _ V hV=>pdiv_all _ _ 3 (pk4_lt ha ha hb hb i) (pk4_lt hc hd hc hd i) V (hT.later (hW.trans (hV.mono hW.size))) (Tab.later hJ (hW.trans (hV.mono hW.size)))))
  (fun _ W=>shas c d 0 hc hd (by omega) W)
theorem mul_at:mlo 13830554455654793216 4611686018427387904 4613937818241073152 9218868437227405312=18442240474082181120∧mhi 13830554455654793216 4611686018427387904 4613937818241073152 9218868437227405312=9218868437227405312∧(vI 13830554455654793216 4611686018427387904&&vI 4613937818241073152 9218868437227405312)=true:=by decide +kernel
theorem quo_at:qlo 4607182418800017408 4607182418800017408 4613937818241073152 4613937818241073152=4599676419421066581∧qhi 4607182418800017408 4607182418800017408 4613937818241073152 4613937818241073152=4599676419421066582∧(vI 4607182418800017408 4607182418800017408&&vI 4613937818241073152 4613937818241073152)=true∧hI 4613937818241073152 4613937818241073152 0=false:=by decide +kernel
theorem quo_at2:(vI 4607182418800017408 4607182418800017408&&vI 13830554455654793216 4607182418800017408)=true∧hI 13830554455654793216 4607182418800017408 0=true:=by decide +kernel
theorem has_at:hI 4607182418800017408 4611686018427387904 4609434218613702656=true∧hI 4607182418800017408 4611686018427387904 4613937818241073152=false:=by decide +kernel
end Go.Proofs.YtclmbahhojdfcaaGreatDoor
