/- Own work: contracts of the program's functions, part 1: Dg D3 D4 W0 W1 Ar W2 W3 Ar2 W4 W5 W6 W7 D5 W8 W9. -/
import Derived.Test.YtfkaogdmlcdceaaGreatDoorChecked
import Derived.WalkKit
import Derived.WalkSpells
import Derived.WalkLawsBesides
import Derived.BigQuiet
import Derived.LoopTactic
import Derived.Deep.LoopGhost
import Derived.Deep.OwnRows
import Derived.Deep.Light
import Derived.Laws.BitsLemmas
import Derived.Laws.BitsAllLaws
import Derived.Laws.Bits64
import Derived.Laws.MathBits
import Derived.Lib.TrailingZeros
import Derived.Lib.LaidTab
import Derived.RowKit

set_option maxHeartbeats 16000000
set_option maxRecDepth 200000
set_option linter.unusedVariables false
set_option linter.unusedSimpArgs false
namespace Go.Proofs.YtfkaogdmlcdceaaGreatDoor
open Go Go.RowKit
abbrev kU5:=@if_neg
abbrev kU6:=@if_pos
abbrev kU7:=@congrArg
abbrev kU9:=@List.setIfInBounds_toArray
abbrev kG0:=@List.set_cons_zero
abbrev kG1:=@List.set_cons_succ
abbrev kG2:=@List.length_cons
abbrev kG3:=@List.length_nil
abbrev kG4:=@List.getD_cons_zero
abbrev kG5:=@List.getD_cons_succ
abbrev kG6:=@Int.tdiv_eq_ediv_of_nonneg
abbrev kG7:=@Nat.lt_one_iff
abbrev kG8:=@Nat.one_ne_zero
abbrev kG9:=@List.nil_append
abbrev kH0:=@List.cons_append
abbrev kH1:=@Nat.pow_pos
abbrev kH2:=@List.map_cons
abbrev kH3:=@List.map_nil
abbrev kH4:=@Nat.add_assoc
abbrev kH5:=@Nat.add_comm
abbrev kH6:=@Nat.zero_add
abbrev kH7:=@Nat.add_zero
abbrev kH8:=@Nat.le_refl
abbrev kH9:=@Go.RowKit.Below.refl
abbrev kF0:=@Option.some.inj
abbrev kF1:=@decide_eq_false
abbrev kF2:=@decide_eq_true
abbrev kF3:=@Nat.two_pow_pos
abbrev kF4:=@Nat.pow_le_pow_right
abbrev kF5:=@Nat.mul_le_mul_right
abbrev kF6:=@Nat.lt_of_lt_of_le
abbrev kF7:=@Nat.lt_of_le_of_lt
abbrev kF8:=@Nat.le_trans
abbrev kF9:=@Nat.div_le_self
abbrev kB0:=@Nat.pos_of_ne_zero
abbrev kB1:=@Nat.mul_le_mul_left
abbrev kB2:=@Nat.mod_eq_of_lt
abbrev kB3:=@Nat.mod_lt
abbrev kB4:=@Nat.zero_le
abbrev kB5:=@IntKind.wrap_i64
abbrev kB6:=@IntKind.wrap_u64
abbrev kB7:=@heap_alloc_new
abbrev kB8:=@bodyPost_ret
abbrev kB9:=@Bool.and_eq_true
abbrev kN0:=@Nat.div_div_eq_div_mul
abbrev kN1:=@Int.natAbs_natCast
abbrev kN2:=@beq_eq_false_iff_ne
abbrev kN3:=@Nat.pow_add
abbrev kN4:=@Nat.mul_comm
abbrev kN5:=@Nat.pow_succ
abbrev kN6:=@Nat.mul_assoc
abbrev kN7:=@Nat.pow_zero
abbrev kN8:=@Int.natCast_mul
abbrev kN9:=@Int.toNat_natCast
abbrev kM0:=@List.length_append
abbrev kM1:=@Nat.mul_one
abbrev kM2:=@results_cell_row
abbrev kM3:=@results_tmp2
abbrev kM4:=@Nat.mul_lt_mul_of_pos_right
abbrev kM5:=@Nat.add_sub_cancel
abbrev kM6:=@Nat.div_lt_iff_lt_mul
abbrev kM7:=@List.mem_range
abbrev kM8:=@Nat.le_of_lt
abbrev kM9:=@Nat.div_mul_le_self
theorem ω {p:Prop}(h:p:=by omega):p:=h
theorem δ {p:Prop}(h:p:=by decide):p:=h
theorem eE {α:Sort _}(x:α):∃ y,y=x:=⟨x,rfl⟩
theorem aI3 {a b c:Prop}(x:a)(y:b)(z:c):a∧b∧c:=⟨x,y,z⟩
theorem aI4 {a b c d:Prop}(x:a)(y:b)(z:c)(w:d):a∧b∧c∧d:=⟨x,y,z,w⟩
theorem aI5 {a b c d e:Prop}(x:a)(y:b)(z:c)(w:d)(v:e):a∧b∧c∧d∧e:=⟨x,y,z,w,v⟩
theorem aI6 {a b c d e f:Prop}(x:a)(y:b)(z:c)(w:d)(v:e)(u:f):a∧b∧c∧d∧e∧f:=⟨x,y,z,w,v,u⟩
abbrev iV (x:Int):Value:=.int .i64 x
abbrev Nu (s:Bool)(a:Option Addr)(n c:Nat)(e:Int):Array Value:=#[.bool s,.slice a n c,.int .i64 e]
abbrev Hn (W:World)(g:Nat)(s:Bool)(a:Option Addr)(n c:Nat)(e:Int)(t:Nat):Prop:=W.heap[g]?=some (.cells #[.bool s,.slice a n c,.int .i64 e] t (0,0))
abbrev Ca (f:Nat)(a:Array Value)(w:World)(Q:Ending→World→Prop):Prop:=Calls Tryz.prog f a w Q
abbrev Ce (W:World)(g:Nat)(k:Nat)(v:Value):Prop:=W.cell? ⟨g,k,none⟩=some v
abbrev C3 (W:World)(g:Nat)(s:Bool)(a:Option Addr)(n c:Nat)(e:Int):Prop:=W.cell? ⟨g,0,none⟩=some (.bool s)∧W.cell? ⟨g,1,none⟩=some (.slice a n c)∧W.cell? ⟨g,2,none⟩=some (.int .i64 e)
abbrev Hx (W:World)(g:Nat)(A:Array Value)(t:Nat):Prop:=W.heap[g]?=some (.cells A t (0,0))
abbrev Rq (w:World)(v:Value):Ending→World→Prop:=fun r w'=>r=.returned v∧Go.RowKit.Below w.heap.size w w'
theorem lR {n:Nat}:n≤n:=kH8 n
theorem bR {g:Nat}{w:World}:Go.RowKit.Below g w w:=Go.RowKit.Below.refl g w
end Go.Proofs.YtfkaogdmlcdceaaGreatDoor
namespace Go.Proofs.YtfkaogdmlcdceaaGreatDoor
attribute [local go_sem] iV Nu
abbrev Bw (a b : World) : Prop := Go.RowKit.Below a.heap.size a b
end Go.Proofs.YtfkaogdmlcdceaaGreatDoor
namespace Go.Proofs.YtfkaogdmlcdceaaGreatDoor
attribute [local go_sem] iV Nu
def B:Nat:=4294967296
theorem qG6:0<B:=by unfold B;omega
def dg (x i:Nat):Nat:=x / B^i % B
theorem qZ2 (n:Nat):0<B^n:=kH1 qG6
theorem qY0 (n:Nat):B^(n+1)=B^n*B:=kN5 ..
theorem qX1 (x i:Nat):dg x i<B:=kB3 _ qG6
theorem qU0 {x n:Nat} (h:x<B^n):dg x n=0:=by
 rw[dg,Nat.div_eq_of_lt h];rfl
def dlen (x:Nat):Nat:=if h:x=0 then 0 else dlen (x / B)+1
termination_by x
decreasing_by exact Nat.div_lt_self (by omega) (by unfold B;omega)
theorem qQ5:dlen 0=0:=by rw[dlen];simp
theorem qJ1 {x:Nat} (h:x≠0):dlen x=dlen (x / B)+1:=by rw[dlen];simp[h]
theorem qZ3 (n:Nat):∀ x,dlen x≤n↔x<B^n:=by
 induction n with
 | zero =>
  intro x;by_cases h:x=0
  ·subst h;simp[qQ5]
  ·rw[qJ1 h];simp;omega
 | succ n ih =>
  intro x;by_cases h:x=0
  ·subst h;simp[qQ5];exact qZ2 _
  ·rw[qJ1 h,Nat.add_le_add_iff_right,ih,qY0,kM6 qG6]
theorem qY5 (x:Nat):x<B^dlen x:=(qZ3 _ x).1 lR
theorem yK4 {x:Nat} (h:x≠0):B^(dlen x - 1)≤x:=by
 have J:=qJ1 h;have Y:=qZ3 (dlen x - 1) x;exact Nat.le_of_not_lt fun u=>by have:=Y.2 u;omega
theorem qQ8 {x:Nat}:dlen x=0↔x=0:=by
 have:=qZ3 0 x
 simp at this
 omega
theorem yU0 {x n:Nat} (V:x<B^n) (u:n=0∨B^(n - 1)≤x):dlen x=n:=by
 have H:=(qZ3 n x).2 V;rcases u with u|u
 ·omega
 ·have J:=qZ3 (n - 1) x;have:¬ dlen x≤n - 1:=fun Y=>by have:=J.1 Y;omega
  omega
theorem qZ5 {x y:Nat} (h:x≤y):dlen x≤dlen y:=(qZ3 _ _).2 (kF7 h (qY5 y))
theorem zT4 {x:Nat} (h:x≠0):dg x (dlen x - 1)≠0:=by
 have H:=yK4 h;have Y:=qY5 x;have V:dlen x=(dlen x - 1)+1:=by have:=qJ1 h;omega
 rw[V,qY0] at Y;unfold dg;have u:0<B^(dlen x - 1):=qZ2 _;generalize B^(dlen x - 1)=p at *;have F:=Nat.div_pos H u;have J:x / p<B:=(kM6 u).2 (by rw[kN4];exact Y)
 rw[kB2 J];omega
theorem qK7 {x i:Nat} (h:dlen x≤i):dg x i=0:=qU0 ((qZ3 i x).1 h)
theorem qL4 (x:Nat):dg x 0=x % B:=by simp[dg]
theorem qR7 (x k i:Nat):dg (x / B^k) i=dg x (k+i):=by
 rw[dg,dg,kN0,←kN3]
theorem qK3 (x i:Nat):x % B^(i+1)=x % B^i+B^i*dg x i:=by
 rw[qY0,Nat.mod_mul,dg]
theorem qB0 (x i:Nat):x=x % B^i+B^i*(x / B^i):=(Nat.mod_add_div x (B^i)).symm
def addc (x y i:Nat):Nat:=(x % B^i+y % B^i) / B^i
theorem qN9 (x y:Nat):addc x y 0=0:=by simp[addc,Nat.mod_one]
theorem qF3 (x y i:Nat):addc x y i≤1:=by
 have Y:=kB3 x (qZ2 i);have u:=kB3 y (qZ2 i);unfold addc;have:(x % B^i+y % B^i) / B^i<2:=(kM6 (qZ2 i)).2 ω
 omega
theorem qT1 (x y i:Nat):addc x y (i+1)=(addc x y i+dg x i+dg y i) / B:=by
 unfold addc;rw[qK3,qK3,qY0,←kN0];have:x % B^i+B^i*dg x i+(y % B^i+B^i*dg y i)=(x % B^i+y % B^i)+B^i*(dg x i+dg y i):=by rw[Nat.mul_add];omega
 rw[this,Nat.add_mul_div_left _ _ (qZ2 i),kH4]
theorem qR8 (x y i:Nat):dg (x+y) i=(addc x y i+dg x i+dg y i) % B:=by
 have h:(x+y) / B^i=addc x y i+(x / B^i+y / B^i):=by
  have Y:=qB0 x i;have u:=qB0 y i;unfold addc;have:x+y=(x % B^i+y % B^i)+B^i*(x / B^i+y / B^i):=by rw[Nat.mul_add];omega
  conv=>lhs;rw[this]
  rw[Nat.add_mul_div_left _ _ (qZ2 i)]
 unfold dg;rw[h];generalize x / B^i=p;generalize y / B^i=q;generalize addc x y i=c;unfold B;omega
def mulc (x t i:Nat):Nat:=(x % B^i*t) / B^i
theorem qR2 (x t:Nat):mulc x t 0=0:=by simp[mulc,Nat.mod_one]
theorem zB9 (x t i:Nat):mulc x t i≤t:=by
 have u:=kB3 x (qZ2 i);unfold mulc;apply Nat.div_le_of_le_mul
 exact kF5 _ (kM8 u)
theorem zX7 {x t i:Nat} (u:0<t):mulc x t i<t:=by
 have Y:=kB3 x (qZ2 i);unfold mulc;rw[kM6 (qZ2 i),kN4 t];exact kM4 Y u
theorem qR3 (x t i:Nat):mulc x t (i+1)=(mulc x t i+dg x i*t) / B:=by
 unfold mulc;rw[qK3,qY0,←kN0,Nat.add_mul,kN6,Nat.add_mul_div_left _ _ (qZ2 i)]
theorem qA6 (x t i:Nat):dg (x*t) i=(mulc x t i+dg x i*t) % B:=by
 have h:x*t / B^i=mulc x t i+x / B^i*t:=by
  unfold mulc;conv=>lhs;rw[qB0 x i]
  rw[Nat.add_mul,kN6,Nat.add_mul_div_left _ _ (qZ2 i)]
 unfold dg;rw[h,Nat.add_mod,Nat.mul_mod];conv=>rhs;rw[Nat.add_mod,Nat.mul_mod,Nat.mod_mod]
def subb (x y i:Nat):Nat:=if x % B^i<y % B^i then 1 else 0
theorem qS1 (x y:Nat):subb x y 0=0:=by simp[subb,Nat.mod_one]
theorem qT9 (x y i:Nat):subb x y i≤1:=by unfold subb;split <;> omega
theorem qN1 (x y i:Nat):subb x y (i+1)=if dg x i<dg y i+subb x y i then 1 else 0:=by
 unfold subb;rw[qK3,qK3];have J:=kB3 x (qZ2 i);have Y:=kB3 y (qZ2 i);generalize x % B^i=p at *;generalize y % B^i=q at *;generalize dg x i=c;generalize dg y i=d;generalize B^i=m at *;rcases Nat.lt_trichotomy c d with h|h|h
 ·have:m*c+m≤m*d:=by have:=kB1 m (show c+1≤d from h);rw[Nat.mul_add,kM1] at this;exact this
  rw[kU6 ω,kU6 ω]
 ·subst h;by_cases u:p<q
  ·rw[kU6 ω,kU6 u,kU6 ω]
  ·rw[kU5 ω,kU5 u,kU5 ω]
 ·have:m*d+m≤m*c:=by have:=kB1 m (show d+1≤c from h);rw[Nat.mul_add,kM1] at this;exact this
  rw[kU5 ω];by_cases u:p<q
  ·rw[kU6 u,kU5 ω]
  ·rw[kU5 u,kU5 ω]
def wsub (x y n:Nat):Nat:=(x+B^n - y % B^n) % B^n
theorem qN6 {x n i:Nat} (h:i<n):dg (x % B^n) i=dg x i:=by
 have u:B^n=B^(i+1)*B^(n - (i+1)):=by rw[←kN3];congr 1;omega
 have H:x % B^n % B^(i+1)=x % B^(i+1):=by rw[u];exact Nat.mod_mul_right_mod ..
 have Y:=qK3 (x % B^n) i;have V:=qK3 x i;have J:x % B^n % B^i=x % B^i:=by
  have u:B^n=B^i*B^(n - i):=by rw[←kN3];congr 1;omega
  rw[u];exact Nat.mod_mul_right_mod ..
 rw[H,J,V] at Y;have:=Nat.eq_of_mul_eq_mul_left (qZ2 i) (Nat.add_left_cancel Y)
 exact this.symm
theorem qA5 {x y n i:Nat} (h:i<n):dg (wsub x y n) i=(dg x i+B+B - dg y i - subb x y i) % B:=by
 -- z + y = x (mod B^n): by the digits of a sum
 unfold wsub;rw[qN6 h];have hy:=kB3 y (qZ2 n);generalize I:x+B^n - y % B^n=z;have V:z+y % B^n=x+B^n:=ω;have L:B^n=B^(i+1)*B^(n - (i+1)):=by rw[←kN3];congr 1;omega
 have T:dg (x+B^n) i=dg x i:=by
  have:(x+B^n) % B^(i+1)=x % B^(i+1):=by rw[L,Nat.add_mul_mod_self_left]
  have F:=qK3 (x+B^n) i;have C:=qK3 x i;have J:(x+B^n) % B^i=x % B^i:=by
   have Y:B^n=B^i*B^(n - i):=by rw[←kN3];congr 1;omega
   rw[Y,Nat.add_mul_mod_self_left]
  rw[this,J,C] at F;exact(Nat.eq_of_mul_eq_mul_left (qZ2 i) (Nat.add_left_cancel F)).symm
 have e2:=qR8 z (y % B^n) i;rw[V,T,qN6 h] at e2;have D:addc z (y % B^n) i=subb x y i:=by
  have Y:B^n=B^i*B^(n - i):=by rw[←kN3];congr 1;omega
  have J:(x+B^n) % B^i=x % B^i:=by rw[Y,Nat.add_mul_mod_self_left]
  have H:y % B^n % B^i=y % B^i:=by rw[Y];exact Nat.mod_mul_right_mod ..
  unfold addc subb;rw[H];have h6:=kB3 z (qZ2 i);have h7:=kB3 y (qZ2 i);have h8:=kB3 x (qZ2 i);have W:(z % B^i+y % B^i) % B^i=x % B^i:=by
   rw[←H,←Nat.add_mod,V,J]
  generalize z % B^i=a at *;generalize y % B^i=b at *;generalize x % B^i=c at *;generalize B^i=m at *;by_cases u:a+b<m
  ·rw[kB2 u] at W;rw[Nat.div_eq_of_lt u,kU5 ω]
  ·have:(a+b) / m=1:=by
    rw[Nat.div_eq_iff ω];omega
   rw[this];have:(a+b) % m=a+b - m:=by
    rw[Nat.mod_eq_sub_mod ω,kB2 ω]
   rw[kU6 ω]
 rw[D] at e2;have b1:=qX1 z i;have b2:=qX1 y i;have b3:=qX1 x i;have b4:=qT9 x y i;rw[e2];generalize dg z i=p at *;generalize dg y i=q at *;generalize subb x y i=s at *;clear e2 D T;unfold B at *;omega
theorem qM3 {x y n:Nat} (hx:x<B^n) (h:y≤x):wsub x y n=x - y:=by
 unfold wsub;rw[kB2 (show y<B^n by omega),show x+B^n - y=(x - y)+B^n by omega,Nat.add_mod_right,kB2 ω]
theorem yB9:B=2^32:=rfl
theorem zQ5 {z u j:Nat} (h:j<u):dg (z*B^u) j=0:=by
 have Y:B^u=B^(u - (j+1))*B*B^j:=by rw[←qY0,←kN3];congr 1;omega
 unfold dg;rw[Y,←kN6,←kN6,Nat.mul_div_cancel _ (qZ2 j),Nat.mul_mod_left]
theorem yU3 (z u i:Nat):dg (z*B^u) (u+i)=dg z i:=by
 unfold dg;rw[kN3,←kN0,Nat.mul_div_cancel _ (qZ2 u)]
theorem qB9 {k:Nat}:2^k=B^(k / 32)*2^(k % 32):=by
 have:k=32*(k / 32)+k % 32:=ω
 conv=>lhs;rw[this]
 rw[kN3,Nat.pow_mul];rfl
theorem zJ1 {p:Nat} (u:p≤32):2^p*2^(32 - p)=B:=by rw[←kN3,yB9];congr 1;omega
theorem kQ1 {x p i:Nat} (H:p<32):dg (x / 2^p) i=((dg x i+dg x (i+1)*B) / 2^p) % B:=by
 have V:0<2^p:=kH1 ω;have u:=zJ1 (p:=p) ω;unfold dg;rw[qY0,←kN0,kN0,kN4 (2^p),←kN0];generalize x / B^i=y;have e:y=(y % B+(y / B % B)*B)+2^p*(2^(32 - p)*B*(y / B / B)):=by
  have D:=Nat.mod_add_div y B;have J:=Nat.mod_add_div (y / B) B;have Y:2^p*(2^(32 - p)*B*(y / B / B))=B*(B*(y / B / B)):=by rw[←kN6,←kN6,u,kN6]
  rw[Y];generalize y / B / B=r at *;have F:B*(y / B)=B*(y / B % B)+B*(B*r):=by rw[←Nat.mul_add,J]
  rw[kN4 (y / B % B)];omega
 conv=>lhs;rw[e]
 rw[Nat.add_mul_div_left _ _ V,kN6,kN4 (2^(32 - p)),kN6,Nat.add_mul_mod_self_left]
theorem qV3 (x i:Nat):x / B^i=x / B^(i+1)*B+dg x i:=by
 unfold dg;rw[qY0,←kN0];have:=Nat.mod_add_div (x / B^i) B
 rw[kN4 B] at this;omega
theorem qR5 {x y i:Nat} (h:x / B^(i+1)=y / B^(i+1)) (Y:dg x i<dg y i):x<y:=by
 have J:=qV3 x i;have V:=qV3 y i;rw[h] at J;exact Nat.lt_of_not_le fun u=>by
  have:=Nat.div_le_div_right (c:=B^i) u
  omega
theorem zD4 {x y i:Nat} (h:x / B^(i+1)=y / B^(i+1)) (u:dg x i=dg y i):x / B^i=y / B^i:=by
 rw[qV3 x i,qV3 y i,h,u]
theorem qM8 {x y:Nat} (h:dlen x<dlen y):x<y:=Nat.lt_of_not_le fun u=>by have:=qZ5 u;omega
def bl (x:Nat):Nat:=if x=0 then 0 else Nat.log2 x+1
theorem qJ4 (x n:Nat):bl x≤n↔x<2^n:=by
 unfold bl;by_cases h:x=0
 ·subst h;simp;exact kH1 ω
 ·rw[kU5 h];have:=Nat.log2_lt (n:=x) (k:=n) h
  omega
theorem qG2 (x:Nat):x<2^bl x:=(qJ4 x _).1 lR
theorem xN5 {x n:Nat} (V:x<2^n) (u:n=0∨2^(n - 1)≤x):bl x=n:=by
 have H:=(qJ4 x n).2 V;rcases u with u|u
 ·omega
 ·have J:=qJ4 x (n - 1);have:¬ bl x≤n - 1:=fun Y=>by have:=J.1 Y;omega
  omega
theorem qD1 {x:Nat} (h:x≠0):2^(bl x - 1)≤x:=by
 have J:bl x=Nat.log2 x+1:=by unfold bl;rw[kU5 h]
 have Y:=qJ4 x (bl x - 1);exact Nat.le_of_not_lt fun u=>by have:=Y.2 u;omega
theorem zQ8 {x:Nat} (h:x≠0):bl x=32*(dlen x - 1)+bl (dg x (dlen x - 1)):=by
 have D:=zT4 h;have F:=qY5 x;have H:dlen x=(dlen x - 1)+1:=by have:=qJ1 h;omega
 have V:=qK3 x (dlen x - 1);rw[←H,kB2 F] at V;have C:=kB3 x (qZ2 (dlen x - 1));have Y:B^(dlen x - 1)=2^(32*(dlen x - 1)):=by rw[Nat.pow_mul];rfl
 generalize dg x (dlen x - 1)=d at *;generalize dlen x - 1=n at *;have u:=qG2 d;have J:=qD1 D;have W:0<bl d:=kB0 fun T=>by rw[T] at u;simp at u;omega
 refine xN5 ?_ (.inr ?_)
 ·rw[kN3,←Y];have:B^n*d+B^n≤B^n*2^bl d:=by
   have:=kB1 (B^n) (show d+1≤2^bl d from u)
   rw[Nat.mul_add,kM1] at this;exact this
  omega
 ·rw[show 32*n+bl d - 1=32*n+(bl d - 1) by omega,kN3,←Y]
  have:=kB1 (B^n) J
  generalize x % B^n=L at *;omega
def tz (x:Nat):Nat:=if h:x=0 then 0 else if x % 2=1 then 0 else tz (x / 2)+1
termination_by x
decreasing_by omega
theorem qC9 {x:Nat} (h:x % 2=1):tz x=0:=by rw[tz];rw[dif_neg ω,kU6 h]
theorem zZ4 {x:Nat} (u:x≠0) (h:x % 2=0):tz x=tz (x / 2)+1:=by rw[tz];rw[dif_neg u,kU5 ω]
theorem yE3 (k:Nat):∀ m,m % 2=1→tz (2^k*m)=k:=by
 induction k with
 | zero=>intro m u;simp[qC9 u]
 | succ k ih =>
  intro m u;have e:2^(k+1)*m=2*(2^k*m):=by rw[kN5];grind
  have Y:0<2^k*m:=Nat.mul_pos (kH1 ω) ω;rw[e,zZ4 ω ω,Nat.mul_div_cancel_left _ ω,ih m u]
theorem qX0:∀ n x,x≤n→x≠0→2^tz x*(x / 2^tz x)=x∧x / 2^tz x % 2=1:=by
 intro n;induction n with
 | zero=>intro x Y u;omega
 | succ n ih =>
  intro x Y u;by_cases h:x % 2=1
  ·rw[qC9 h];simp;exact h
  ·rw[zZ4 u ω];obtain⟨a,b⟩:=ih (x / 2) ω ω;rw[kN5,kN4 (2^_) 2,←kN0];refine⟨?_,b⟩
   rw[kN6,a];omega
theorem yN7 {x i:Nat} (J:x % B^i=0) (H:dg x i≠0):tz x=32*i+tz (dg x i):=by
 obtain⟨a,b⟩:=qX0 _ (dg x i) lR H;have u:=qX1 x i;have e:=qB0 x i;have e2:=qV3 x i;rw[J,kH6] at e;generalize V:dg x i=d at *;have W:tz d<32:=by
  exact Nat.lt_of_not_le fun h=>by
   have:2^32≤2^tz d:=kF4 ω h
   have D:0<d / 2^tz d:=kB0 fun T=>by rw[T] at b;simp at b
   have:=kB1 (2^tz d) D
   unfold B at u;omega
 have Y:=zJ1 (p:=tz d) ω;have F:B^i=2^(32*i):=by rw[Nat.pow_mul];rfl
 generalize tz d=t at *;generalize d / 2^t=o at *;generalize x / B^(i+1)=r at *;have L:x=2^(32*i+t)*(2^(32 - t)*r+o):=by
  rw[e,e2,kN3,F,←a,←Y];grind
 rw[L];refine yE3 _ _ ?_;have:2^(32 - t)=2*2^(31 - t):=by rw[kN4,←kN5];congr 1;omega
 rw[this,kN6];omega
theorem zR8 {r d q R D m:Nat} (J:q*d≤r) (H:r<(R+1)*m) (u:D*m≤d) (V:0<m):q*D≤R:=by
 have F:q*(D*m)≤q*d:=kB1 _ u;have Y:q*D*m<(R+1)*m:=by rw[kN6];omega
 have:=Nat.lt_of_mul_lt_mul_right Y
 omega
theorem yS8 {r d g R D m:Nat} (Y:g*D≤R) (u:g<B) (T:R*m≤r) (V:d<(D+1)*m) (J:B*m≤d) (F:0<m):(g - 1)*d≤r:=by
 by_cases H:g=0
 ·subst H;simp
 have h1:g*D*m≤R*m:=kF5 _ Y;have h2:g*(d+1)≤g*((D+1)*m):=kB1 _ V;have I:g*((D+1)*m)=g*D*m+g*m:=by grind
 have C:g*m≤B*m:=kF5 _ ω;have W:g*d=(g - 1)*d+d:=by
  have:=Nat.add_mul (g - 1) 1 d
  rw[show g - 1+1=g by omega,Nat.one_mul] at this
  exact this
 have L:g*(d+1)=g*d+g:=by grind
 omega
end Go.Proofs.YtfkaogdmlcdceaaGreatDoor
namespace Go.Proofs.YtfkaogdmlcdceaaGreatDoor
open Go.RowKit
attribute [local go_sem] iV Nu
def At (w:World) (ao:Option Addr) (n x:Nat):Prop :=
 ∃ b o,(0<n→ao=some ⟨b,o,none⟩)∧∀ i,i<n→w.cell? ⟨b,o+i,none⟩=some (.int .u32 (dg x i:Nat))
def qS2:Value→Nat | .slice _ n _=>n|_=>0
theorem zU8 {x k:Nat} (h:dlen x≤k) (J:0<k) (Y:dg x (k - 1)=0):dlen x≤k - 1:=by
 by_cases hx:x=0
 ·subst hx;rw[qQ5];omega
 ·refine Nat.le_of_not_lt fun u=>?_;have:dlen x=k:=ω
  subst this;exact zT4 hx Y
theorem zU7 {x k:Nat} (h:dlen x≤k) (u:k=0∨dg x (k - 1)≠0):dlen x=k:=by
 rcases u with u|u
 ·omega
 ·refine Nat.le_antisymm h (Nat.le_of_not_lt fun Y=>u (qK7 ω))
theorem c62 (ao:Option Addr) (n cap x:Nat) (w:World) (hx:dlen x≤n) (I:n≤cap) (hc:n≤70368744177664) (h:At w ao n x) :
  Ca 199 #[.slice ao n cap] w fun e w'=>e=.returned (.slice ao (dlen x) cap)∧w'=w:=by
 obtain⟨b,o,W,u⟩:=h
 go_enter Tryz.func199,Tryz.ntmps199
 go_wp2
 go_loop [0] (fun v=>∃ k:Nat,k≤n∧v=.slice ao k cap∧dlen x≤k) (fun v=>qS2 v)
 case atStart=>exact⟨n,kH8 _,rfl,hx⟩
 case round =>
  obtain⟨k,hk,rfl,J⟩:=hrel;by_cases C:k=0
  ·subst C;have e:dlen x=0:=ω;clear J hx
   go_wp2
   go_ret;exact⟨rfl,rfl⟩
  ·obtain⟨j,rfl⟩:∃ j,k=j+1:=⟨k - 1,ω⟩;have L:j<n:=ω;obtain rfl:=W ω;have g:=u j L;have V:=Hid.out (p:=dlen x≤j+1) J;have F:Hid _:=J;clear J u hx;generalize H:dg x j=q at g;have D:Hid _:=H;clear H V;by_cases Y:q=0
   ·subst Y
    go_wp2;exact⟨⟨j,ω,rfl,zU8 F.out ω D.out⟩,by simp[qS2]⟩
   ·have T:((q:Int)==0)=false:=by simp;exact Y
    go_wp2
    go_ret;rw[zU7 F.out (.inr (by rw[kM5,D.out];exact Y))]
    exact⟨rfl,rfl⟩
end Go.Proofs.YtfkaogdmlcdceaaGreatDoor
namespace Go.Proofs.YtfkaogdmlcdceaaGreatDoor
attribute [local go_sem] iV Nu
theorem qV2 {p:Nat} (h:p<32):2^p≤2147483648:=by
 have:2^p≤2^31:=kF4 ω ω
 exact this
theorem qO7 {a c p:Nat} (Y:a % 2^p=0) (u:c<2^p):a ||| c=a+c:=by
 obtain⟨m,rfl⟩:∃ m,a=2^p*m:=⟨a / 2^p,by have:=Nat.mod_add_div a (2^p);omega⟩
 exact(Nat.two_pow_add_eq_or_of_lt u m).symm
theorem zY8 (p:Nat):(2:Int)^p=((2^p:Nat):Int):=by simp
theorem qX3 {d:Nat} (u:d<B):IntKind.u64.wrap (d:Int)=(d:Int):=by
 rw[kB6];unfold B at u;omega
theorem qN3 {d t:Nat} (u:d<B) (Y:t≤2147483648):d*t≤9223372034707292160:=by
 have J:d*t≤4294967295*t:=kF5 _ (by unfold B at u;omega)
 omega
theorem zZ9 {d p:Nat} (u:d<B) (Y:p<32):IntKind.u64.wrap (IntKind.u64.wrap (d:Int)*2^p)=((d*2^p:Nat):Int):=by
 rw[qX3 u,zY8,kB6,←kN8];have:=qN3 u (qV2 Y)
 generalize d*2^p=m at *;omega
theorem xS9 {d c p:Nat} (Y:d<B) (u:p<32) (V:c<2^p):IntKind.u64.wrap (IntKind.u64.wrap (d:Int)*2^p) / 4294967296 % 4294967296=(((c+d*2^p) / B:Nat):Int):=by
 rw[zZ9 Y u];have D:=qN3 Y (qV2 u);have F:=qV2 u;have J:=zJ1 (p:=p) ω;have H:(c+d*2^p) / B=d*2^p / B:=by
  rw[←J,←kN0,←kN0,Nat.add_mul_div_right _ _ (kF3 p),Nat.div_eq_of_lt V,Nat.mul_div_cancel _ (kF3 p),kH6]
 rw[H];generalize d*2^p=m at *;unfold B;omega
theorem xS8 {d c p:Nat} (D:d<B) (H:p<32) (L:c<2^p) :
  bits .or .u32 (IntKind.u64.wrap (IntKind.u64.wrap (d:Int)*2^p) % 4294967296) (c:Int)=(((c+d*2^p) % B:Nat):Int):=by
 rw[zZ9 D H];have h1:=qN3 D (qV2 H);have h2:=qV2 H;have V:=zJ1 (p:=p) ω;have e:((d*2^p:Nat):Int) % 4294967296=(((d*2^p) % B:Nat):Int):=by
  unfold B;omega
 rw[e];have T:d*2^p % B % 2^p=0:=by
  rw[←V,Nat.mod_mul_right_mod,Nat.mul_mod_left]
 have u:d*2^p % B<B:=kB3 _ qG6;have J:c<B:=by unfold B;omega
 rw[u32_or_nat _ _ u J];have Y:(c+d*2^p) % B=d*2^p % B+c:=by
  have I:d*2^p % B+c<B:=by
   -- the sum has room: the first part is a multiple of 2^p below B
   obtain⟨m,F⟩:∃ m,d*2^p % B=2^p*m:=⟨d*2^p % B / 2^p,by have:=Nat.mod_add_div (d*2^p % B) (2^p);omega⟩
   rw[F] at u ⊢;rw[←V] at u;have C:=Nat.lt_of_mul_lt_mul_left u;have W:2^p*(m+1)≤2^p*2^(32 - p):=kB1 _ C;rw[Nat.mul_add,kM1,V] at W;omega
  rw[kH5,Nat.add_mod,kB2 J,kB2 I]
 rw[Y,qO7 T L]
theorem qO1 {u d1:Nat} (Y:u<B) (J:d1<B):bits .or .u64 (IntKind.u64.wrap (u:Int)) (IntKind.u64.wrap (IntKind.u64.wrap (d1:Int)*4294967296))=((u+d1*B:Nat):Int):=by
 have e:IntKind.u64.wrap (IntKind.u64.wrap (d1:Int)*4294967296)=((d1*B:Nat):Int):=by
  rw[qX3 J,kB6];unfold B at *; omega
 rw[qX3 Y,e,u64_or_nat _ _ (by unfold B at *; omega) (by unfold B at *; omega),Nat.or_comm,qO7 (p:=32) (by rw[←yB9];exact Nat.mul_mod_left ..) Y,kH5]
theorem qS3 {u d1 p:Nat} (J:u<B) (Y:d1<B) :
  bits .or .u64 (IntKind.u64.wrap (u:Int)) (IntKind.u64.wrap (IntKind.u64.wrap (d1:Int)*4294967296)) / 2^p % 4294967296=(((u+d1*B) / 2^p % B:Nat):Int):=by
 rw[qO1 J Y,zY8,←Int.natCast_ediv];generalize (u+d1*B) / 2^p=m;unfold B;omega
theorem qS4 {u p:Nat} (Y:u<B):IntKind.u64.wrap (u:Int) / 2^p % 4294967296=((u / 2^p % B:Nat):Int):=by
 rw[qX3 Y,zY8,←Int.natCast_ediv];generalize u / 2^p=m;unfold B;omega
end Go.Proofs.YtfkaogdmlcdceaaGreatDoor
namespace Go.Proofs.YtfkaogdmlcdceaaGreatDoor
open Go.RowKit
attribute [local go_sem] iV Nu
theorem Tryz.info96:(Tryz.prog.info? 96).map (fun i=>(i.zero,i.size,i.bytes))=some (some (.int .u32 0),1,4):=by kernel_rfl
structure Mk (w wr:World) (n:Nat) (f:Nat→Nat):Prop where
 below:Bw w wr
 size:wr.heap.size=w.heap.size+1
 row:wr.rowIs w.heap.size 96 n (fun i=>.int .u32 (f i:Nat))
theorem Mk.start (w:World) (n:Nat):Mk w (w.alloc (.cells (madeCells #[.int .u32 0] n) 96)) n (fun _=>0) :=
 ⟨bR.alloc lR _,by simp,World.rowIs_made w _ n 96⟩
theorem Mk.cell {w wr:World} {n:Nat} {f:Nat→Nat} (h:Mk w wr n f) {i:Nat} (hi:i<n):wr.cell? ⟨w.heap.size,i,none⟩=some (.int .u32 (f i:Nat)):=h.row.cell hi
theorem Mk.frozen {w wr:World} {n:Nat} {f:Nat→Nat} (h:Mk w wr n f) (i:Nat):wr.frozen? ⟨w.heap.size,i,none⟩=false:=h.row.frozen i
theorem Mk.set {w wr:World} {n:Nat} {f:Nat→Nat} (h:Mk w wr n f) (i d:Nat):Mk w (wr.setCell ⟨w.heap.size,i,none⟩ (.int .u32 (d:Nat))) n (fun j=>if j=i then d else f j) :=
 ⟨h.below.setCell lR _,by simp[h.size],(h.row.set i _).congr (fun j _=>by split <;> rfl)⟩
theorem Mk.congr {w wr:World} {n:Nat} {f g:Nat→Nat} (h:Mk w wr n f) (e:∀ i,i<n→f i=g i):Mk w wr n g :=
 ⟨h.below,h.size,h.row.congr (fun i hi=>by rw[e i hi])⟩
theorem Mk.at {w wr:World} {n x:Nat} (h:Mk w wr n (dg x)):At wr (some ⟨w.heap.size,0,none⟩) n x :=
 ⟨w.heap.size,0,fun _=>rfl,fun i hi=>by rw[kH6];exact h.cell hi⟩
theorem Mk.old {w wr:World} {n:Nat} {f:Nat→Nat} (h:Mk w wr n f) {p:Addr} {u:Value} (Y:w.cell? p=some u):wr.cell? p=some u :=
 (h.below.cell (World.block_lt_of_cell? _ _ Y)).trans Y
def Own (w':World) (base:Nat) (v:Value) (x:Nat):Prop :=
 (v=.slice none 0 0∧x=0)∨∃ g cap f,v=.slice (some ⟨g,0,none⟩) (dlen x) cap∧base≤g∧dlen x≤cap∧cap≤9223372036854775807∧w'.rowIs g 96 cap f∧∀ i,i<dlen x→f i=.int .u32 (dg x i:Nat)
def Is (w:World) (v:Value) (x:Nat):Prop:=∃ ao cap,v=.slice ao (dlen x) cap∧dlen x≤cap∧cap≤9223372036854775807∧At w ao (dlen x) x
theorem Own.is {w:World} {u:Nat} {v:Value} {x:Nat} (h:Own w u v x):Is w v x:=by
 rcases h with ⟨rfl,rfl⟩|⟨g,cap,f,rfl,F,H,V,J,Y⟩
 ·exact⟨none,0,by rw[qQ5],by rw[qQ5];omega,ω,0,0,fun h=>by rw[qQ5] at h;omega,fun i hi=>by rw[qQ5] at hi;omega⟩
 ·exact⟨_,cap,rfl,H,V,g,0,fun _=>rfl,fun i hi=>by rw[kH6,J.cell ω,Y i hi]⟩
theorem At.later {w w':World} {ao:Option Addr} {n x:Nat} (h:At w ao n x) (Y:Bw w w'):At w' ao n x:=by
 obtain⟨b,o,J,u⟩:=h;exact⟨b,o,J,fun i hi=>(Y.cell (World.block_lt_of_cell? _ _ (u i hi))).trans (u i hi)⟩
theorem Is.later {w w':World} {v:Value} {x:Nat} (h:Is w v x) (u:Bw w w'):Is w' v x:=by
 obtain⟨ao,cap,H,V,J,Y⟩:=h;exact⟨ao,cap,H,V,J,Y.later u⟩
theorem Own.later {w w':World} {u:Nat} {v:Value} {x:Nat} (h:Own w u v x) (J:Bw w w'):Own w' u v x:=by
 rcases h with h|⟨g,cap,f,T,D,F,H,Y,V⟩
 ·exact .inl h
 ·exact .inr ⟨g,cap,f,T,D,F,H,Y.of_block (J.block _ Y.lt),V⟩
theorem Own.mono {w:World} {Y u:Nat} {v:Value} {x:Nat} (h:Own w Y v x) (J:u≤Y):Own w u v x:=by
 rcases h with h|⟨g,cap,f,F,H,V⟩
 ·exact .inl h
 ·exact .inr ⟨g,cap,f,F,kF8 J H,V⟩
theorem qG7 {w Y u:World} (J:Bw w Y) (V:Bw Y u):Bw w u:=J.trans (V.mono J.size)
theorem Mk.own {w wr:World} {n x:Nat} (h:Mk w wr n (dg x)) (hx:dlen x≤n) (u:n≤70368744177664):Own wr w.heap.size (.slice (some ⟨w.heap.size,0,none⟩) (dlen x) n) x :=
 .inr ⟨w.heap.size,n,_,rfl,kH8 _,hx,ω,h.row,fun i hi=>rfl⟩
theorem qF6 (x k:Nat):x*2^k=x*2^(k % 32)*B^(k / 32):=by
 rw[qB9 (k:=k)];grind
theorem yQ3 {w wr:World} {n x k u Y j d c:Nat} (L:k / 32=u) (W:k % 32=Y) (C:Mk w wr (u+n+1) (fun t=>if t<u+j then dg (x*2^k) t else 0))
  (D:dg x j=d) (T:mulc x (2^Y) j=c) (H:d<B) (F:c<2^Y) (I:j<n) :
  (∃ J:Nat,J≤n∧Value.int .u32 (IntKind.u64.wrap (IntKind.u64.wrap (d:Int)*2^Y) / 4294967296 % 4294967296)=Value.int .u32 (mulc x (2^Y) J:Nat)∧iV ((j:Int)+1)=iV (J:Int) ∧
   Mk w (wr.setCell ⟨w.heap.size,u+j,none⟩ (Value.int .u32 (bits .or .u32 (IntKind.u64.wrap (IntKind.u64.wrap (d:Int)*2^Y) % 4294967296) (c:Int)))) (u+n+1) fun t=>if t<u+J then dg (x*2^k) t else 0) ∧
  n - (intOf (iV ((j:Int)+1))).toNat<n - (intOf (iV (j:Int))).toNat:=by
 have V:Y<32:=ω;refine⟨⟨j+1,ω,?_,by simp,?_⟩,by simp[intOf];omega⟩
 ·rw[xS9 H V F,qR3,D,T]
 ·rw[xS8 H V F];refine(C.set (u+j) _).congr fun i hi=>?_
  by_cases e:i=u+j
  ·subst e;rw[kU6 rfl,kU6 ω,qF6 x k,L,W,yU3,qA6,D,T]
  ·rw[kU5 e];by_cases e2:i<u+j
   ·rw[kU6 e2,kU6 ω]
   ·rw[kU5 e2,kU5 ω]
theorem qK2 {x k n:Nat} (Y:dlen x=n):dlen (x*2^k)≤k / 32+n+1:=by
 rw[qZ3,qF6];have u:=qY5 x;rw[Y] at u;have V:2^(k % 32)≤B:=by have:=qV2 (p:=k % 32) ω;unfold B;omega
 have J:B^(k / 32+n+1)=B^n*B*B^(k / 32):=by rw[kN3,kN3,Nat.pow_one];grind
 rw[J];refine kM4 ?_ (qZ2 _);exact Nat.mul_lt_mul_of_lt_of_le u V qG6
theorem xX6 {w wr:World} {n x k u Y c:Nat} (V:k / 32=u) (H:k % 32=Y) (F:dlen x=n) (L:Mk w wr (u+n+1) (fun t=>if t<u+n then dg (x*2^k) t else 0))
  (T:mulc x (2^Y) n=c) (D:c<2^Y):Mk w (wr.setCell ⟨w.heap.size,u+n,none⟩ (Value.int .u32 (c:Nat))) (u+n+1) (dg (x*2^k)):=by
 refine(L.set (u+n) c).congr fun i hi=>?_
 by_cases e:i=u+n
 ·subst e;rw[kU6 rfl,qF6,V,H,yU3,qA6,T];have J:=qY5 x;rw[F] at J;have W:=qV2 (p:=Y) ω;rw[qU0 J,Nat.zero_mul,kH7,kB2 (by unfold B;omega)]
 ·rw[kU5 e,kU6 ω]
theorem kK4 (ao:Option Addr) (cap x k:Nat) (w:World) (qQ:0<dlen x) (hx:dlen x≤35184372088832) (hk:k≤1099511627776) (h:At w ao (dlen x) x) :
  Ca 182 #[.slice ao (dlen x) cap,iV k] w fun e w'=>∃ v,e=.returned v∧Own w' w.heap.size v (x*2^k)∧Bw w w':=by
 obtain⟨b,o,hb,J⟩:=h;obtain rfl:=hb qQ;generalize hn:dlen x=n at *;have hq:(k:Int).tdiv 32=((k / 32:Nat):Int):=by rw[kG6 ω];rfl
 have hr:(k:Int).tmod 32=((k % 32:Nat):Int):=by rw[Int.tmod_eq_emod_of_nonneg ω];rfl
 have qJ:((n:Int)==0)=false:=by simp;omega
 generalize F:k / 32=u at *;generalize D:k % 32=Y at *;have T:=run_make_row' (P:=Tryz.prog) 48 96 (.int .u32 0) 4 Tryz.underlying48 Tryz.info96 rfl .i64 .i64 (u+n+1) ω ω;rw[show((u+n+1:Nat):Int)=(u:Int)+n+1 by omega] at T
 have HN:Hid _:=hn;have I:Hid _:=F;have HP:Hid _:=D;have qX:u≤1099511627776:=ω;have qK:Y<32:=ω;clear hn F D
 go_enter Tryz.func182,Tryz.ntmps182
 go_wp2;clear T
 go_loopw [8,27] (fun c i wr=>∃ j:Nat,j≤n∧c=.int .u32 (mulc x (2^Y) j:Nat)∧i=iV j∧Mk w wr (u+n+1) (fun t=>if t<u+j then dg (x*2^k) t else 0)) (fun _ i _=>n - (intOf i).toNat)
 case atStart=>exact⟨0,kB4 _,by rw[qR2];rfl,rfl,(Mk.start w _).congr fun i hi=>by
  by_cases e:i<u+0
  ·rw[kU6 e,qF6,I.out,HP.out,zQ5 ω]
  ·rw[kU5 e]⟩
 case round =>
  obtain⟨j,hj,rfl,rfl,H⟩:=hrel;by_cases L:j<n
  ·have g1:=H.old (J j L);have g2:=H.cell (i:=u+j) ω;have g3:=H.frozen (u+j);have W:=qX1 x j;have V:=zX7 (x:=x) (i:=j) (kF3 Y);rw[kU5 ω] at g2;have qV:(j:Int)<(n:Int):=ω;generalize hd:dg x j=d at *;generalize C:mulc x (2^Y) j=c at *;have HD:Hid _:=hd;have HC:Hid _:=C;have qZ:Hid _:=W;have qY:Hid _:=V;have HM:Hid _:=H;clear hd C W V H J
   go_wp2;exact yQ3 I.out HP.out HM.out HD.out HC.out qZ.out qY.out L
  ·obtain rfl:j=n:=ω;have g2:=H.cell (i:=u+j) ω;have g3:=H.frozen (u+j);have V:=zX7 (x:=x) (i:=j) (kF3 Y);rw[kU5 ω] at g2;generalize C:mulc x (2^Y) j=c at *;have hE:=xX6 I.out HP.out HN.out H C V;have hA:=hE.at;have hL:=qK2 (k:=k) HN.out;rw[I.out] at hL;have HC:Hid _:=hE;clear C V H J hE
   go_wp2_with (first|(go_at_call 199;refine(c62 _ _ _ (x*2^k) _ hL lR ω hA).mono ?_;rintro e w' ⟨rfl,rfl⟩))
   go_ret;exact⟨_,rfl,HC.out.own hL ω,HC.out.below⟩
theorem kK5 (ao:Option Addr) (cap k:Nat) (w:World) (J:k≤1099511627776) :
  Ca 182 #[.slice ao 0 cap,iV k] w fun e w'=>e=.returned (.slice none 0 0)∧w'=w:=by
 have Y:(k:Int).tdiv 32=((k / 32:Nat):Int):=by rw[kG6 ω];rfl
 have u:(k:Int).tmod 32=((k % 32:Nat):Int):=by rw[Int.tmod_eq_emod_of_nonneg ω];rfl
 go_enter Tryz.func182,Tryz.ntmps182
 go_wp2
 go_ret;exact⟨rfl,rfl⟩
theorem c109 {v:Value} {x:Nat} {w:World} (h:Is w v x) (k:Nat) (hx:dlen x≤35184372088832) (u:k≤1099511627776) :
  Ca 182 #[v,iV k] w fun e w'=>∃ v,e=.returned v∧Own w' w.heap.size v (x*2^k)∧Bw w w':=by
 obtain⟨ao,cap,rfl,H,V,J⟩:=h;by_cases Y:x=0
 ·subst Y;rw[qQ5];refine(kK5 ao cap k w u).mono ?_
  rintro e w' ⟨rfl,rfl⟩;exact⟨_,rfl,.inl ⟨rfl,by simp⟩,kH9 _ _⟩
 ·exact kK4 ao cap x k w (kB0 fun h=>Y (qQ8.1 h)) hx u J
theorem qG0 {x k u Y j:Nat} (J:k / 32=u) (V:k % 32=Y):dg (x / 2^k) j=(dg x (u+j)+dg x (u+(j+1))*B) / 2^Y % B:=by
 rw[qB9 (k:=k),←kN0,kQ1 ω,J,V,qR7,qR7]
theorem zZ8 {x k m:Nat} (h:dlen x=k / 32+m):dlen (x / 2^k)≤m:=by
 rw[qZ3,qB9 (k:=k),←kN0];have u:=qY5 x;rw[h,kN3,kN4] at u;have Y:=(kM6 (qZ2 (k / 32))).2 u;exact kF7 (kF9 ..) Y
theorem qS5 {w wr:World} {m x k j:Nat} {q:Int} (J:Mk w wr m (fun t=>if t<j then dg (x / 2^k) t else 0)) (Y:q=(dg (x / 2^k) j:Nat)) (V:j<m) :
  (∃ u:Nat,u≤m∧iV ((j:Int)+1)=iV (u:Int) ∧
   Mk w (wr.setCell ⟨w.heap.size,j,none⟩ (Value.int .u32 q)) m fun t=>if t<u then dg (x / 2^k) t else 0) ∧
  m - (intOf (iV ((j:Int)+1))).toNat<m - (intOf (iV (j:Int))).toNat:=by
 subst Y;refine⟨⟨j+1,ω,by simp,(J.set j _).congr fun i hi=>?_⟩,by simp[intOf];omega⟩
 by_cases e:i=j
 ·subst e;rw[kU6 rfl,kU6 ω]
 ·rw[kU5 e];by_cases e2:i<j
  ·rw[kU6 e2,kU6 ω]
  ·rw[kU5 e2,kU5 ω]
theorem kK1 (ao:Option Addr) (n cap k:Nat) (w:World) (T:k≤1099511627776) (H:n≤k / 32) :
  Ca 214 #[.slice ao n cap,iV k] w fun e w'=>e=.returned (.slice none 0 0)∧w'=w:=by
 have D:(k:Int).tdiv 32=((k / 32:Nat):Int):=by rw[kG6 ω];rfl
 have F:(k:Int).tmod 32=((k % 32:Nat):Int):=by rw[Int.tmod_eq_emod_of_nonneg ω];rfl
 have J:k / 32≤1099511627776:=ω;generalize k / 32=u at *;generalize k % 32=Y at *;have V:(n:Int)≤(u:Int):=ω;clear H
 go_enter Tryz.func214,Tryz.ntmps214
 go_wp2
 go_ret;exact⟨rfl,rfl⟩
theorem kK0 (b o cap m u V x k:Nat) (w:World) (qU:0<m) (hm:m≤35184372088832) (hk:k≤1099511627776) (qX:u+m≤cap) (I:cap≤9223372036854775807) (H:k / 32=u) (F:k % 32=V)
  (hn:dlen x=u+m) (Y:∀ i,i<u+m→w.cell? ⟨b,o+i,none⟩=some (.int .u32 (dg x i:Nat))) :
  Ca 214 #[.slice (some ⟨b,o,none⟩) (u+m:Nat) cap,iV k] w fun e w'=>∃ v,e=.returned v∧Own w' w.heap.size v (x / 2^k)∧Bw w w':=by
 have hq:(k:Int).tdiv 32=((k / 32:Nat):Int):=by rw[kG6 ω];rfl
 have hr:(k:Int).tmod 32=((k % 32:Nat):Int):=by rw[Int.tmod_eq_emod_of_nonneg ω];rfl
 have qK:u≤1099511627776:=ω;have qJ:V<32:=ω;rw[H] at hq;rw[F] at hr;have W:=run_make_row' (P:=Tryz.prog) 48 96 (.int .u32 0) 4 Tryz.underlying48 Tryz.info96 rfl .i64 .i64 m ω ω;have HN:Hid _:=hn;have HW:Hid _:=H;have HP:Hid _:=F;clear hn H F;have qV:(u:Int)<((u+m:Nat):Int):=ω;have qZ:¬ u=cap:=ω
 go_enter Tryz.func214,Tryz.ntmps214
 go_wp2;clear W
 go_loopw [27] (fun i wr=>∃ j:Nat,j≤m∧i=iV j∧Mk w wr m (fun t=>if t<j then dg (x / 2^k) t else 0)) (fun i _=>m - (intOf i).toNat)
 case atStart=>exact⟨0,kB4 _,rfl,(Mk.start w _).congr fun i hi=>by rw[kU5 ω]⟩
 case round =>
  obtain⟨j,hj,rfl,J⟩:=hrel;by_cases qG:j+1<m
  ·have g1:=J.old (Y (u+j) ω);have g4:=J.old (Y (u+(j+1)) ω);rw[←kH4] at g1 g4;have g2:=J.cell (i:=j) ω;have g3:=J.frozen j;rw[kU5 ω] at g2;have C:(j:Int)+1<(m:Int):=ω;have HM:Hid _:=J;generalize T:dg x (u+j)=d at *;generalize D:dg x (u+(j+1))=d1 at *;have HD:Hid _:=T;have qQ:Hid _:=D;have L:Hid (d<B∧d1<B):=⟨T ▸ qX1 _ _,D ▸ qX1 _ _⟩;clear T D J Y
   go_wp2;exact qS5 HM.out (by rw[qS3 L.out.1 L.out.2,qG0 HW.out HP.out,HD.out,qQ.out]) ω
  ·by_cases qH:j<m
   ·have g1:=J.old (Y (u+j) ω);rw[←kH4] at g1;have g2:=J.cell (i:=j) ω;have g3:=J.frozen j;rw[kU5 ω] at g2;have C:¬ (j:Int)+1<(m:Int):=ω;have qY:(j:Int)<(m:Int):=ω;have HM:Hid _:=J;generalize T:dg x (u+j)=d at *;have HD:Hid _:=T;have L:Hid (d<B):=T ▸ qX1 _ _;have HZ:Hid (dg x (u+(j+1))=0):=qK7 (by rw[HN.out];omega)
    clear T J Y
    go_wp2;exact qS5 HM.out (by rw[qS4 L.out,qG0 HW.out HP.out,HD.out,HZ.out,Nat.zero_mul,kH7]) ω
   ·obtain rfl:j=m:=ω;have hE:Mk w wr j (dg (x / 2^k)):=J.congr fun i hi=>kU6 hi;have hA:=hE.at;have hL:=zZ8 (k:=k) (m:=j) (by rw[HW.out];exact HN.out)
    have HC:Hid _:=hE;clear J Y hE
    go_wp2_with (first|(go_at_call 199;refine(c62 _ _ _ (x / 2^k) _ hL lR ω hA).mono ?_;rintro e w' ⟨rfl,rfl⟩))
    go_ret;exact⟨_,rfl,HC.out.own hL ω,HC.out.below⟩
theorem c120 {v:Value} {x:Nat} {w:World} (h:Is w v x) (k:Nat) (hx:dlen x≤35184372088832) (Y:k≤1099511627776) :
  Ca 214 #[v,iV k] w fun e w'=>∃ v,e=.returned v∧Own w' w.heap.size v (x / 2^k)∧Bw w w':=by
 obtain⟨ao,cap,rfl,T,D,b,o,F,J⟩:=h;by_cases V:dlen x≤k / 32
 ·refine(kK1 ao _ cap k w Y V).mono ?_
  rintro e w' ⟨rfl,rfl⟩;refine⟨_,rfl,.inl ⟨rfl,?_⟩,kH9 _ _⟩
  have H:=(qZ3 _ _).1 V;rw[qB9 (k:=k),←kN0,Nat.div_eq_of_lt H,Nat.zero_div]
 ·obtain rfl:=F ω;obtain⟨m,u⟩:∃ m,dlen x=k / 32+m:=⟨dlen x - k / 32,ω⟩;rw[u] at J ⊢;exact kK0 b o cap m _ _ x k w ω ω Y ω D rfl rfl u J
theorem c57 (n:Nat) (w:World) (V:n<18446744073709551616) :
  Ca 154 #[.int .u64 n] w fun e w'=>∃ v,e=.returned v∧Own w' w.heap.size v n∧Bw w w':=by
 have Y:dlen n≤2:=(qZ3 2 n).2 (by unfold B;omega)
 have u:Mk w (w.alloc (Obj.cells #[Value.int IntKind.u32 ((n:Int) % 4294967296),Value.int IntKind.u32 ((n:Int) / 4294967296)] 96)) 2 (dg n):=by
  refine⟨bR.alloc lR _,by simp,World.rowIs_alloc w _ _ _ fun i hi=>?_⟩
  match i,hi with
  | 0,_=>simp[dg,B]
  | 1,_=>simp[dg,B];omega
 have J:=u.at
 go_enter Tryz.func154,Tryz.ntmps154
 go_wp2_with (first|(go_at_call 199;refine(c62 _ _ _ n _ Y lR ω J).mono ?_;rintro e w' ⟨rfl,rfl⟩))
 go_ret;exact⟨_,rfl,u.own Y ω,u.below⟩
end Go.Proofs.YtfkaogdmlcdceaaGreatDoor
namespace Go.Proofs.YtfkaogdmlcdceaaGreatDoor
attribute [local go_sem] iV Nu
theorem zO6 {n:Nat} (h:n<4294967296):n / 2147483648=(n.testBit 31).toNat:=by
 rw[Nat.testBit_eq_decide_div_mod_eq];have J:n / 2^31<2:=ω;by_cases Y:n / 2^31=1
 ·have:n / 2147483648=1:=Y
  rw[this];rfl
 ·have u:n / 2^31=0:=ω;have:n / 2147483648=0:=u
  rw[this];rfl
theorem zO5 {n:Nat} (h:n<4294967296):n.testBit 31=decide (2147483648≤n):=by
 have u:=zO6 h;cases h2:n.testBit 31
 ·rw[h2] at u;simp at u;simp;omega
 ·rw[h2] at u;simp at u;simp;omega
theorem zL8 {x y b:Nat} (hx:x<B) (Y:y<B) (hb:b≤1) :
  bits .or .u32 (bits .and .u32 (bits .xor .u32 IntKind.u32.max (x:Int)) (y:Int)) (bits .and .u32 (bits .xor .u32 IntKind.u32.max (bits .xor .u32 (x:Int) (y:Int))) (((x:Int) - y - b) % 4294967296)) / 2147483648
   = ((if x<y+b then 1 else 0:Nat):Int):=by
 have F:IntKind.u32.max=((4294967295:Nat):Int):=by decide
 have T:((x:Int) - y - b) % 4294967296=(((x+8589934592 - y - b) % 4294967296:Nat):Int):=by unfold B at *; omega
 rw[F,T];unfold B at *;have u:(x+8589934592 - y - b) % 4294967296<4294967296:=kB3 _ ω;generalize D:(x+8589934592 - y - b) % 4294967296=d at *;have b1:4294967295 ^^^ x<4294967296:=Nat.xor_lt_two_pow (n:=32) ω hx;have H:=Nat.xor_lt_two_pow (n:=32) hx Y;have b3:4294967295 ^^^ (x ^^^ y)<4294967296:=Nat.xor_lt_two_pow (n:=32) ω H;have V:(4294967295 ^^^ x) &&& y<4294967296:=Nat.and_lt_two_pow (n:=32) _ Y;have J:(4294967295 ^^^ (x ^^^ y)) &&& d<4294967296:=Nat.and_lt_two_pow (n:=32) _ u;rw[u32_xor_nat _ _ ω hx,u32_and_nat _ _ b1 Y,u32_xor_nat _ _ hx Y,u32_xor_nat _ _ ω H,u32_and_nat _ _ b3 u,u32_or_nat _ _ V J];have b6:=Nat.or_lt_two_pow (n:=32) V J;have e:=zO6 b6;rw[Nat.testBit_or,Nat.testBit_and,Nat.testBit_and,Nat.testBit_xor,Nat.testBit_xor,Nat.testBit_xor,zO5 hx,zO5 Y,zO5 u] at e;have em:(4294967295:Nat).testBit 31=true:=by decide
 rw[em] at e;have e2:(((((4294967295 ^^^ x) &&& y) ||| ((4294967295 ^^^ (x ^^^ y)) &&& d):Nat):Int)) / 2147483648=((((4294967295 ^^^ x) &&& y ||| (4294967295 ^^^ (x ^^^ y)) &&& d) / 2147483648:Nat):Int):=by rw[Int.natCast_ediv];rfl
 rw[e2,e];congr 1
 by_cases I:2147483648≤x <;> by_cases C:2147483648≤y <;> by_cases W:2147483648≤d <;> by_cases L:x<y+b <;> simp[I,C,W,L] <;> omega
end Go.Proofs.YtfkaogdmlcdceaaGreatDoor
namespace Go.Proofs.YtfkaogdmlcdceaaGreatDoor
open Go.RowKit
attribute [local go_sem] iV Nu
theorem c174 {x y b:Nat} (hx:x<B) (J:y<B) (V:b≤1) (w:World) :
  Ca 277 #[.int .u32 x,.int .u32 y,.int .u32 b] w fun e w'=>e=.returned (.tuple #[.int .u32 ((x+B+B - y - b) % B:Nat),.int .u32 (if x<y+b then 1 else 0:Nat)])∧w'=w:=by
 have u:=zL8 hx J V;have Y:((x:Int) - y - b) % 4294967296=(((x+B+B - y - b) % B:Nat):Int):=by unfold B at *; omega
 generalize (if x<y+b then 1 else 0:Nat)=r at *;generalize (x+B+B - y - b) % B=d at *;have D:=Hid.out (p:=_) u;have H:Hid _:=u;have F:Hid _:=Y;clear u Y D
 go_enter Tryz.func277,Tryz.ntmps277
 go_wp2
 go_ret2
 rw[H.out,F.out];exact⟨rfl,rfl⟩
theorem c188 {x y b:Nat} (hx:x<B) (J:y<B) (u:b≤1) (w:World) :
  Ca 278 #[.int .u32 x,.int .u32 y,.int .u32 b] w fun e w'=>e=.returned (.tuple #[.int .u32 ((x+y+b) % B:Nat),.int .u32 ((x+y+b) / B:Nat)])∧w'=w:=by
 have Y:IntKind.u64.wrap (IntKind.u64.wrap (IntKind.u64.wrap (x:Int)+IntKind.u64.wrap (y:Int))+IntKind.u64.wrap (b:Int))=((x+y+b:Nat):Int):=by
  rw[qX3 hx,qX3 J,qX3 (by unfold B;omega),kB6,kB6];unfold B at *; omega
 have H:Hid _:=Y;have V:Hid _:=u;clear Y u
 go_enter Tryz.func278,Tryz.ntmps278
 go_wp2
 go_ret2
 have u:=V.out;rw[H.out,show((x+y+b:Nat):Int) % 4294967296=(((x+y+b) % B:Nat):Int) by unfold B at *; omega,show((x+y+b:Nat):Int) / 4294967296 % 4294967296=(((x+y+b) / B:Nat):Int) by unfold B at *; omega]
 exact⟨rfl,rfl⟩
theorem qT2 {w wr:World} {n x y j:Nat} {q:Int} (J:Mk w wr (n+1) (fun t=>if t<j then dg (x+y) t else 0)) (Y:q=(addc x y j+dg x j+dg y j:Nat)) (H:j<n) :
  (∃ u:Nat,u≤n∧Value.int .u64 (q / 4294967296)=Value.int .u64 (addc x y u:Nat)∧iV ((j:Int)+1)=iV (u:Int) ∧
   Mk w (wr.setCell ⟨w.heap.size,j,none⟩ (Value.int .u32 (q % 4294967296))) (n+1) fun t=>if t<u then dg (x+y) t else 0) ∧
  n - (intOf (iV ((j:Int)+1))).toNat<n - (intOf (iV (j:Int))).toNat:=by
 have V:q / 4294967296=(addc x y (j+1):Nat):=by rw[qT1,Y];unfold B;omega
 have e2:q % 4294967296=(dg (x+y) j:Nat):=by rw[qR8,Y];unfold B;omega
 rw[V,e2];refine⟨⟨j+1,ω,rfl,by simp,(J.set j _).congr fun i hi=>?_⟩,by simp[intOf];omega⟩
 by_cases e:i=j
 ·subst e;rw[kU6 rfl,kU6 ω]
 ·rw[kU5 e];by_cases e2:i<j
  ·rw[kU6 e2,kU6 ω]
  ·rw[kU5 e2,kU5 ω]
theorem yF2 {x y n:Nat} (hx:dlen x=n) (u:dlen y≤n):dlen (x+y)≤n+1:=by
 rw[qZ3,qY0];have Y:=qY5 x;have J:=(qZ3 n y).1 u;rw[hx] at Y;have:B^n*2≤B^n*B:=kB1 _ (by unfold B;omega)
 omega
theorem yF3 {w wr:World} {n x y:Nat} {q:Int} (hx:dlen x=n) (u:dlen y≤n) (J:Mk w wr (n+1) (fun t=>if t<n then dg (x+y) t else 0)) (Y:q=(addc x y n:Nat)) :
  Mk w (wr.setCell ⟨w.heap.size,n,none⟩ (Value.int .u32 q)) (n+1) (dg (x+y)):=by
 subst Y;refine(J.set n _).congr fun i hi=>?_
 by_cases e:i=n
 ·subst e;rw[kU6 rfl,qR8,qK7 (x:=x) ω,qK7 u,kH7,kB2];have:=qF3 x y i
  unfold B;omega
 ·rw[kU5 e,kU6 ω]
theorem kY8 (ao bo:Option Addr) (ba oa bb ob na nb ca cb x y:Nat) (w:World) (ha:0<na→ao=some ⟨ba,oa,none⟩) (hb:0<nb→bo=some ⟨bb,ob,none⟩) (qQ:na≤35184372088832) (hx:dlen x=na) (hy:dlen y=nb) (qY:nb≤na)
  (J:∀ i,i<na→w.cell? ⟨ba,oa+i,none⟩=some (.int .u32 (dg x i:Nat))) (Y:∀ i,i<nb→w.cell? ⟨bb,ob+i,none⟩=some (.int .u32 (dg y i:Nat))) :
  Ca 219 #[.slice ao na ca,.slice bo nb cb] w fun e w'=>∃ v,e=.returned v∧Own w' w.heap.size v (x+y)∧Bw w w':=by
 have D:=run_make_row' (P:=Tryz.prog) 48 96 (.int .u32 0) 4 Tryz.underlying48 Tryz.info96 rfl .i64 .i64 (na+1) ω ω;rw[show((na+1:Nat):Int)=(na:Int)+1 by omega] at D
 have HX:Hid _:=hx;have HY:Hid _:=hy;have qZ:¬ (na:Int)<(nb:Int):=ω;clear hx hy
 go_enter Tryz.func219,Tryz.ntmps219
 go_wp2;clear D
 go_loopw [6,22] (fun c i wr=>∃ j:Nat,j≤na∧c=.int .u64 (addc x y j:Nat)∧i=iV j∧Mk w wr (na+1) (fun t=>if t<j then dg (x+y) t else 0)) (fun _ i _=>na - (intOf i).toNat)
 case atStart=>exact⟨0,kB4 _,by rw[qN9];rfl,rfl,(Mk.start w _).congr fun i hi=>by rw[kU5 ω]⟩
 case round =>
  obtain⟨j,hj,rfl,rfl,u⟩:=hrel;by_cases V:j<na
  ·obtain rfl:=ha ω;have g1:=u.old (J j V);have g2:=u.cell (i:=j) ω;have g3:=u.frozen j;rw[kU5 ω] at g2;have qX:(j:Int)<(na:Int):=ω;have HM:Hid _:=u;have HL:Hid (dg x j<B∧dg y j<B∧addc x y j≤1):=⟨qX1 _ _,qX1 _ _,qF3 _ _ _⟩;by_cases I:j<nb
   ·obtain rfl:=hb ω;have g4:=u.old (Y j I);have T:(j:Int)<(nb:Int):=ω;generalize W:dg x j=d at *;generalize L:dg y j=d1 at *;generalize H:addc x y j=c at *;have HD:Hid _:=aI3 W L H;clear W L H u J Y
    go_wp2;refine qT2 HM.out ?_ V;obtain⟨F,C,l3⟩:=HL.out;obtain⟨d1,d2,d3⟩:=HD.out;rw[d1,d2,d3,qX3 F,qX3 C,kB6,kB6];unfold B at F C;omega
   ·have T:¬ (j:Int)<(nb:Int):=ω;generalize W:dg x j=d at *;generalize H:addc x y j=c at *;have HD:Hid _:=And.intro W H;clear W H u J Y;have HZ:Hid (dg y j=0):=qK7 (by rw[HY.out];omega)
    go_wp2;refine qT2 HM.out ?_ V;obtain⟨F,C,l3⟩:=HL.out;obtain⟨d1,d3⟩:=HD.out;rw[d1,d3,HZ.out,qX3 F,kB6];unfold B at F;omega
  ·obtain rfl:j=na:=ω;have g2:=u.cell (i:=j) ω;have g3:=u.frozen j;rw[kU5 ω] at g2;have qK:=qF3 x y j;have hE:=yF3 (q:=(addc x y j:Nat)) HX.out (by rw[HY.out];omega) u rfl
   have hA:=hE.at;have hL:=yF2 HX.out (y:=y) (by rw[HY.out];omega)
   generalize addc x y j=c at *;have H:(c:Int) % 4294967296=c:=ω;have HC:Hid _:=hE;clear u J Y hE
   go_wp2_with (first|(go_at_call 199;refine(c62 _ _ _ (x+y) _ hL lR ω hA).mono ?_;rintro e w' ⟨rfl,rfl⟩))
   go_ret;exact⟨_,rfl,HC.out.own hL ω,HC.out.below⟩
theorem kY7 (ao bo:Option Addr) (ba oa bb ob na nb ca cb x y:Nat) (w:World) (ha:0<na→ao=some ⟨ba,oa,none⟩) (hb:0<nb→bo=some ⟨bb,ob,none⟩) (qQ:na≤35184372088832) (hx:dlen x=na) (hy:dlen y=nb) (qY:nb<na)
  (J:∀ i,i<na→w.cell? ⟨ba,oa+i,none⟩=some (.int .u32 (dg x i:Nat))) (Y:∀ i,i<nb→w.cell? ⟨bb,ob+i,none⟩=some (.int .u32 (dg y i:Nat))) :
  Ca 219 #[.slice bo nb cb,.slice ao na ca] w fun e w'=>∃ v,e=.returned v∧Own w' w.heap.size v (x+y)∧Bw w w':=by
 have D:=run_make_row' (P:=Tryz.prog) 48 96 (.int .u32 0) 4 Tryz.underlying48 Tryz.info96 rfl .i64 .i64 (na+1) ω ω;rw[show((na+1:Nat):Int)=(na:Int)+1 by omega] at D
 have HX:Hid _:=hx;have HY:Hid _:=hy;have qZ:(nb:Int)<(na:Int):=ω;clear hx hy
 go_enter Tryz.func219,Tryz.ntmps219
 go_wp2;clear D
 go_loopw [6,22] (fun c i wr=>∃ j:Nat,j≤na∧c=.int .u64 (addc x y j:Nat)∧i=iV j∧Mk w wr (na+1) (fun t=>if t<j then dg (x+y) t else 0)) (fun _ i _=>na - (intOf i).toNat)
 case atStart=>exact⟨0,kB4 _,by rw[qN9];rfl,rfl,(Mk.start w _).congr fun i hi=>by rw[kU5 ω]⟩
 case round =>
  obtain⟨j,hj,rfl,rfl,u⟩:=hrel;by_cases V:j<na
  ·obtain rfl:=ha ω;have g1:=u.old (J j V);have g2:=u.cell (i:=j) ω;have g3:=u.frozen j;rw[kU5 ω] at g2;have qX:(j:Int)<(na:Int):=ω;have HM:Hid _:=u;have HL:Hid (dg x j<B∧dg y j<B∧addc x y j≤1):=⟨qX1 _ _,qX1 _ _,qF3 _ _ _⟩;by_cases I:j<nb
   ·obtain rfl:=hb ω;have g4:=u.old (Y j I);have T:(j:Int)<(nb:Int):=ω;generalize W:dg x j=d at *;generalize L:dg y j=d1 at *;generalize H:addc x y j=c at *;have HD:Hid _:=aI3 W L H;clear W L H u J Y
    go_wp2;refine qT2 HM.out ?_ V;obtain⟨F,C,l3⟩:=HL.out;obtain⟨d1,d2,d3⟩:=HD.out;rw[d1,d2,d3,qX3 F,qX3 C,kB6,kB6];unfold B at F C;omega
   ·have T:¬ (j:Int)<(nb:Int):=ω;generalize W:dg x j=d at *;generalize H:addc x y j=c at *;have HD:Hid _:=And.intro W H;clear W H u J Y;have HZ:Hid (dg y j=0):=qK7 (by rw[HY.out];omega)
    go_wp2;refine qT2 HM.out ?_ V;obtain⟨F,C,l3⟩:=HL.out;obtain⟨d1,d3⟩:=HD.out;rw[d1,d3,HZ.out,qX3 F,kB6];unfold B at F;omega
  ·obtain rfl:j=na:=ω;have g2:=u.cell (i:=j) ω;have g3:=u.frozen j;rw[kU5 ω] at g2;have qK:=qF3 x y j;have hE:=yF3 (q:=(addc x y j:Nat)) HX.out (by rw[HY.out];omega) u rfl
   have hA:=hE.at;have hL:=yF2 HX.out (y:=y) (by rw[HY.out];omega)
   generalize addc x y j=c at *;have H:(c:Int) % 4294967296=c:=ω;have HC:Hid _:=hE;clear u J Y hE
   go_wp2_with (first|(go_at_call 199;refine(c62 _ _ _ (x+y) _ hL lR ω hA).mono ?_;rintro e w' ⟨rfl,rfl⟩))
   go_ret;exact⟨_,rfl,HC.out.own hL ω,HC.out.below⟩
theorem c122 {u v:Value} {x y:Nat} {w:World} (h1:Is w u x) (h2:Is w v y) (hx:dlen x≤35184372088832) (hy:dlen y≤35184372088832) :
  Ca 219 #[u,v] w fun e w'=>∃ v,e=.returned v∧Own w' w.heap.size v (x+y)∧Bw w w':=by
 obtain⟨ao,H,rfl,a1,a2,T,J,I,C⟩:=h1;obtain⟨F,V,rfl,b1,b2,D,Y,W,L⟩:=h2;by_cases h:dlen y≤dlen x
 ·exact kY8 ao F T J D Y _ _ H V x y w I W hx rfl rfl h C L
 ·rw[kH5];exact kY7 F ao D Y T J _ _ V H y x w W I hy rfl rfl ω L C
theorem qI3 (x:Nat):bl x=bitLen x:=by unfold bl bitLen;rfl
theorem len_fin (x k p:Nat) (y:Int) (hk:k≤56) (hp:2^k=p) (hy:y.toNat=x / p) (hy0:x / p≠0) (hy1:x / p<256):wrap64 ((k:Int)+wrap64 (bitLen y.toNat:Int))=(bitLen x:Int):=by
 have e:=bitLen_shift x k (by rw[hp];exact hy0)
 have l:=bitLen_le8 (x / p) hy1;rw[hp] at e;rw[hy,e];generalize bitLen (x / p)=a at *;unfold wrap64;omega
theorem len_fin0 (x:Nat) (hx:x<256):wrap64 (wrap64 (bitLen (x:Int).toNat:Int))=(bitLen x:Int):=by
 have l:=bitLen_le8 x hx;rw[kN9];generalize bitLen x=a at *;unfold wrap64;omega
theorem c127 (x:Nat) (hx:x<B) (w:World) :
  Calls Tryz.prog 215 #[.int .u32 x] w fun e w'=>e=.returned (.int .i64 (bl x:Nat))∧w'=w:=by
 rw[qI3];obtain⟨X,hX⟩:∃ X:Int,X=(x:Int):=⟨_,rfl⟩;rw[←hX];have hX0:0≤X:=ω;have hX1:Hid (X<4294967296):=(by unfold B at hx;omega:X<4294967296)
 have hX':Hid (X=(x:Int)):=hX;clear hX hx
 go_enter Tryz.func215,Tryz.ntmps215
 go_wp2;all_goals go_ret
 all_goals (refine⟨kU7 Ending.returned (kU7 (Value.int IntKind.i64) ?_),rfl⟩)
 all_goals have h1:=hX1.out
 all_goals have h2:=hX'.out
 all_goals clear hX1 hX'
 all_goals subst h2
 all_goals rw[len8tab_get]
 ·exact len_fin x 24 16777216 _ δ δ ω ω ω
 ·exact len_fin x 16 65536 _ δ δ ω ω ω
 ·exact len_fin x 8 256 _ δ δ ω ω ω
 ·exact len_fin0 x ω
theorem c158x (x k u:Nat) (w:World) (V:((x:Int)==0)=false)
  (Y:bits BinOp.and IntKind.u32 (x:Int) (-(x:Int) % 4294967296)*125613361 % 4294967296 / 134217728=(u:Int))
  (hi:u<32) (H:k<32) (J:w.cell? ⟨4,u,none⟩=some (.int .u8 k)) :
  Ca 251 #[.int .u32 x] w fun e w'=>e=.returned (iV k)∧w'=w:=by
 go_enter Tryz.func251,Tryz.ntmps251
 go_wp2_with (simp only[Y])
 go_ret;exact⟨rfl,rfl⟩
def Tab32 (w:World):Prop:=∀ i,i<32→w.cell? ⟨4,i,none⟩=some (.int .u8 (Lib.deBruijn32tab.getD i 0:Nat))
theorem Tab32.later {w w':World} (h:Tab32 w) (u:Bw w w'):Tab32 w':=fun i hi=>(u.cell (World.block_lt_of_cell? _ _ (h i hi))).trans (h i hi)
theorem zD1 {x n:Nat} (Y:x≠0) (h:x<2^n):Lib.ctz n x=tz x:=by
 obtain⟨m,u,J⟩:=Lib.ctzFrom_spec n x ω h;have e:Lib.ctz n x=Lib.ctzFrom n x:=by simp[Lib.ctz,Y]
 rw[e];conv=>rhs;rw[u]
 rw[yE3 _ _ ω]
theorem c158 (x:Nat) (hx:x<B) (J:x≠0) (w:World) (D:Tab32 w) :
  Ca 251 #[.int .u32 x] w fun e w'=>e=.returned (iV (tz x:Nat))∧w'=w:=by
 rw[←zD1 (n:=32) J hx];obtain⟨H,F⟩:=Lib.lowest_bit 32 x J hx;obtain⟨hi,V⟩:=Lib.deBruijn32_at _ F;have u:=D _ hi;rw[V] at u;refine c158x x _ _ w (by simp;omega) ?_ hi F u
 have Y:=H;unfold B at hx;have T : -(x:Int) % 4294967296=((4294967296 - x:Nat):Int):=ω;rw[T,u32_and_nat x _ hx ω,Y];generalize 2^Lib.ctz 32 x=a;omega
theorem qD4 {x:Nat} (hx:x<B):bl x≤32:=(qJ4 x 32).2 hx
theorem c147 (x:Nat) (hx:x<B) (w:World) :
  Ca 217 #[.int .u32 x] w fun e w'=>e=.returned (iV (32 - bl x:Nat))∧w'=w:=by
 have k:=c127 x hx;have Y:=qD4 hx;have u:((32 - bl x:Nat):Int)=32 - (bl x:Int):=ω;rw[u];clear hx u;generalize bl x=b at *
 go_enter Tryz.func217,Tryz.ntmps217
 go_wp2_with (first|(go_at_call 215;refine(k _).mono ?_;rintro e w' ⟨rfl,rfl⟩))
 go_ret;exact⟨rfl,rfl⟩
theorem c74_0 (ao:Option Addr) (cap:Nat) (w:World):Ca 181 #[.slice ao 0 cap] w fun e w'=>e=.returned (iV 0)∧w'=w:=by
 go_enter Tryz.func181,Tryz.ntmps181
 go_wp2
 go_ret;exact⟨rfl,rfl⟩
theorem c74_1 (b o n cap d l:Nat) (w:World) (Y:n≤35184372088832) (J:l≤32) (V:w.cell? ⟨b,o+n,none⟩=some (.int .u32 d))
  (u:∀ w,Ca 215 #[.int .u32 d] w fun e w'=>e=.returned (iV l)∧w'=w) :
  Ca 181 #[.slice (some ⟨b,o,none⟩) (n+1) cap] w fun e w'=>e=.returned (iV (32*n+l:Nat))∧w'=w:=by
 go_enter Tryz.func181,Tryz.ntmps181
 go_wp2_with (first|(go_at_call 215;refine(u _).mono ?_;rintro e w' ⟨rfl,rfl⟩))
 go_ret;refine⟨kU7 Ending.returned (kU7 (Value.int IntKind.i64) ?_),rfl⟩
 omega
theorem c74 {v:Value} {x:Nat} {w:World} (h:Is w v x) (hx:dlen x≤35184372088832):Ca 181 #[v] w fun e w'=>e=.returned (iV (bl x:Nat))∧w'=w:=by
 obtain⟨ao,cap,rfl,D,F,b,o,V,J⟩:=h;by_cases u:x=0
 ·subst u;rw[qQ5];exact c74_0 ao cap w
 ·have H:=qJ1 u;obtain rfl:=V ω;rw[zQ8 u];have Y:=J (dlen x - 1) ω;have:=c74_1 b o (dlen x - 1) cap _ _ w ω (qD4 (qX1 x (dlen x - 1))) Y (fun w=>c127 _ (qX1 _ _) w)
  rw[show dlen x - 1+1=dlen x by omega] at this
  exact this
theorem xQ3 (b o n cap x:Nat) (w:World) (hn:n≤35184372088832) (H:dlen x=n) (V:x≠0) (hT:Tab32 w) (J:∀ i,i<n→w.cell? ⟨b,o+i,none⟩=some (.int .u32 (dg x i:Nat))) :
  Ca 213 #[.slice (some ⟨b,o,none⟩) n cap] w fun e w'=>e=.returned (iV (tz x:Nat))∧w'=w:=by
 have D:Hid _:=And.intro H V;clear H V
 go_enter Tryz.func213,Tryz.ntmps213
 go_wp2
 go_loop [3] (fun i=>∃ j:Nat,j<n∧i=iV j∧Hid (x % B^j=0)) (fun i=>n - (intOf i).toNat)
 case atStart=>exact⟨0,kB0 fun h=>D.out.2 (qQ8.1 (D.out.1.trans h)),rfl,(Nat.mod_one x:x % B^0=0)⟩
 case round =>
  obtain⟨j,hj,rfl,C⟩:=hrel;have g:=J j hj;have I:=qX1 x j;generalize hd:dg x j=d at *;have T:Hid _:=hd;have Y:=fun h=>c158 d I h w hT;clear J hT hd I;by_cases u:d=0
  ·subst u;clear Y;have HM:Hid (x % B^(j+1)=0):=(by rw[qK3,C.out,T.out,Nat.mul_zero]:x % B^(j+1)=0)
   have L:j+1<n:=by
    refine Nat.lt_of_not_le fun h=>?_;have F:=(qZ3 (j+1) x).1 (by rw[D.out.1];exact h)
    have h2:=HM.out;rw[kB2 F] at h2;exact D.out.2 h2
   go_wp2;exact⟨⟨j+1,L,by simp,HM⟩,by simp[intOf];omega⟩
  ·have qZ:((d:Int)==0)=false:=by simp;exact u
   have k:=Y u;clear Y;have W:tz x=32*j+tz d:=by rw[yN7 C.out (by rw[T.out];exact u),T.out]
   have qQ:tz d≤32:=by
    have F:d<2^32:=T.out ▸ qX1 x j;rw[←zD1 (n:=32) u F];have:=(Lib.lowest_bit 32 d u F).2
    omega
   generalize tz d=t at *;have HT:Hid _:=W;clear W
   go_wp2_with (first|(go_at_call 251;refine k.mono ?_;rintro e w' ⟨rfl,rfl⟩))
   go_ret;refine⟨kU7 Ending.returned (kU7 (Value.int IntKind.i64) ?_),rfl⟩
   rw[HT.out];omega
theorem c119 {v:Value} {x:Nat} {w:World} (h:Is w v x) (hx:dlen x≤35184372088832) (u:x≠0) (Y:Tab32 w):Ca 213 #[v] w fun e w'=>e=.returned (iV (tz x:Nat))∧w'=w:=by
 obtain⟨ao,cap,rfl,D,F,b,o,V,J⟩:=h;have H:=qJ1 u;obtain rfl:=V ω;exact xQ3 b o _ cap x w hx rfl u Y J
theorem zJ4 {w wr:World} {n x y j r s:Nat} (V:Mk w wr n (fun t=>if t<j then dg (x - y) t else 0)) (J:r=dg (x - y) j) (Y:s=subb x y (j+1)) (H:j<n) :
  (∃ u:Nat,u≤n∧Value.int .u32 (s:Nat)=Value.int .u32 (subb x y u:Nat)∧iV ((j:Int)+1)=iV (u:Int) ∧
   Mk w (wr.setCell ⟨w.heap.size,j,none⟩ (Value.int .u32 (r:Nat))) n fun t=>if t<u then dg (x - y) t else 0) ∧
  n - (intOf (iV ((j:Int)+1))).toNat<n - (intOf (iV (j:Int))).toNat:=by
 subst J Y;refine⟨⟨j+1,ω,rfl,by simp,(V.set j _).congr fun i hi=>?_⟩,by simp[intOf];omega⟩
 by_cases e:i=j
 ·subst e;rw[kU6 rfl,kU6 ω]
 ·rw[kU5 e];by_cases e2:i<j
  ·rw[kU6 e2,kU6 ω]
  ·rw[kU5 e2,kU5 ω]
theorem kY4 (ao bo:Option Addr) (ba oa bb ob na nb ca cb x y:Nat) (w:World) (ha:0<na→ao=some ⟨ba,oa,none⟩) (hb:0<nb→bo=some ⟨bb,ob,none⟩) (qY:na≤35184372088832) (hx:dlen x=na) (hy:dlen y=nb) (Y:y≤x)
  (H:∀ i,i<na→w.cell? ⟨ba,oa+i,none⟩=some (.int .u32 (dg x i:Nat))) (V:∀ i,i<nb→w.cell? ⟨bb,ob+i,none⟩=some (.int .u32 (dg y i:Nat))) :
  Ca 257 #[.slice ao na ca,.slice bo nb cb] w fun e w'=>∃ v,e=.returned v∧Own w' w.heap.size v (x - y)∧Bw w w':=by
 have C:=run_make_row' (P:=Tryz.prog) 48 96 (.int .u32 0) 4 Tryz.underlying48 Tryz.info96 rfl .i64 .i64 na ω ω;have HX:Hid _:=hx;have HY:Hid _:=hy;have qK:Hid _:=Y;have qZ:nb≤na:=by have:=qZ5 Y;omega
 have qQ:Hid (wsub x y na=x - y):=qM3 (by rw[←hx];exact qY5 x) Y
 clear hx hy Y
 go_enter Tryz.func257,Tryz.ntmps257
 go_wp2;clear C
 go_loopw [6,15] (fun c i wr=>∃ j:Nat,j≤na∧c=.int .u32 (subb x y j:Nat)∧i=iV j∧Mk w wr na (fun t=>if t<j then dg (x - y) t else 0)) (fun _ i _=>na - (intOf i).toNat)
 case atStart=>exact⟨0,kB4 _,by rw[qS1];rfl,rfl,(Mk.start w _).congr fun i hi=>by rw[kU5 ω]⟩
 case round =>
  obtain⟨j,hj,rfl,rfl,F⟩:=hrel;by_cases J:j<na
  ·obtain rfl:=ha ω;have g1:=F.old (H j J);have g2:=F.cell (i:=j) ω;have g3:=F.frozen j;rw[kU5 ω] at g2;have qX:(j:Int)<(na:Int):=ω;have HM:Hid _:=F;have u:=fun w=>c174 (qX1 x j) (qX1 y j) (qT9 x y j) w;have e1:(dg x j+B+B - dg y j - subb x y j) % B=dg (x - y) j:=by rw[←qQ.out,qA5 J]
   have e2:=(qN1 x y j).symm;rw[e1,e2] at u;by_cases I:j<nb
   ·obtain rfl:=hb ω;have g4:=F.old (V j I);have L:(j:Int)<(nb:Int):=ω;generalize dg x j=d at *;generalize dg y j=d1 at *;generalize subb x y j=c at *;generalize T:dg (x - y) j=r at *;generalize D:subb x y (j+1)=s at *;have W:Hid _:=And.intro T.symm D.symm;clear F H V T D e1 e2
    go_wp2_with (first|(go_at_call 277;refine(u _).mono ?_;rintro e w' ⟨rfl,rfl⟩))
    exact zJ4 HM.out W.out.1 W.out.2 J
   ·have L:¬ (j:Int)<(nb:Int):=ω;rw[qK7 (x:=y) (i:=j) (by rw[HY.out];omega)] at u
    generalize dg x j=d at *;generalize subb x y j=c at *;generalize T:dg (x - y) j=r at *;generalize D:subb x y (j+1)=s at *;have W:Hid _:=And.intro T.symm D.symm;clear F H V T D e1 e2
    go_wp2_with (first|(go_at_call 277;refine(u _).mono ?_;rintro e w' ⟨rfl,rfl⟩))
    exact zJ4 HM.out W.out.1 W.out.2 J
  ·obtain rfl:j=na:=ω;have hE:Mk w wr j (dg (x - y)):=F.congr fun i hi=>kU6 hi;have hA:=hE.at;have hL:dlen (x - y)≤j:=by rw[←HX.out];exact qZ5 (Nat.sub_le ..)
   have HC:Hid _:=hE;clear F H V hE;generalize subb x y j=c at *
   go_wp2_with (first|(go_at_call 199;refine(c62 _ _ _ (x - y) _ hL lR ω hA).mono ?_;rintro e w' ⟨rfl,rfl⟩))
   go_ret;exact⟨_,rfl,HC.out.own hL ω,HC.out.below⟩
theorem c138 {u v:Value} {x y:Nat} {w:World} (F:Is w u x) (H:Is w v y) (hx:dlen x≤35184372088832) (Y:y≤x) :
  Ca 257 #[u,v] w fun e w'=>∃ v,e=.returned v∧Own w' w.heap.size v (x - y)∧Bw w w':=by
 obtain⟨ao,T,rfl,a1,a2,C,V,a3,a4⟩:=F;obtain⟨L,D,rfl,b1,b2,W,J,b3,I⟩:=H;exact kY4 ao L C V W J _ _ T D x y w a3 b3 hx rfl rfl Y a4 I
def cmpI (x y:Int):Int:=if x<y then -1 else if y<x then 1 else 0
theorem c162 (x:Int) (w:World):Ca 275 #[iV x] w fun e w'=>e=.returned (.bool false)∧w'=w:=by
 go_enter Tryz.func275,Tryz.ntmps275
 go_wp2
 go_ret;exact⟨by simp,rfl⟩
theorem c182 (x:Int) (w:World):Ca 276 #[.int .u32 x] w fun e w'=>e=.returned (.bool false)∧w'=w:=by
 go_enter Tryz.func276,Tryz.ntmps276
 go_wp2
 go_ret;exact⟨by simp,rfl⟩
theorem c128 (x y:Int) (w:World):Ca 252 #[iV x,iV y] w fun e w'=>e=.returned (iV (cmpI x y))∧w'=w:=by
 go_enter Tryz.func252,Tryz.ntmps252
 go_wp2_with (first|(go_at_call 275;refine(c162 _ _).mono ?_;rintro e w' ⟨rfl,rfl⟩))
 all_goals go_ret
 all_goals refine⟨kU7 Ending.returned (kU7 (Value.int IntKind.i64) ?_),rfl⟩
 all_goals unfold cmpI
 ·rw[kU6 (by assumption)]
 ·rw[kU5 ω,kU6 ω]
 ·rw[kU5 ω,kU5 ω]
theorem c163 (x y:Int) (w:World):Ca 253 #[.int .u32 x,.int .u32 y] w fun e w'=>e=.returned (iV (cmpI x y))∧w'=w:=by
 go_enter Tryz.func253,Tryz.ntmps253
 go_wp2_with (first|(go_at_call 276;refine(c182 _ _).mono ?_;rintro e w' ⟨rfl,rfl⟩))
 all_goals go_ret
 all_goals refine⟨kU7 Ending.returned (kU7 (Value.int IntKind.i64) ?_),rfl⟩
 all_goals unfold cmpI
 ·rw[kU6 (by assumption)]
 ·rw[kU5 ω,kU6 ω]
 ·rw[kU5 ω,kU5 ω]
theorem kY6 (ao V:Option Addr) (na nb J Y:Nat) (w:World) (h:na≠nb) :
  Ca 216 #[.slice ao na J,.slice V nb Y] w fun e w'=>e=.returned (iV (cmpI na nb))∧w'=w:=by
 have H:((na:Int)==(nb:Int))=false:=by simp;omega
 have u:((na:Int) != (nb:Int))=true:=by simp;omega
 have k:=c128 na nb;generalize cmpI na nb=r at *
 go_enter Tryz.func216,Tryz.ntmps216
 go_wp2_with (first|(go_at_call 252;refine(k _).mono ?_;rintro e w' ⟨rfl,rfl⟩))
 go_ret;exact⟨rfl,rfl⟩
theorem kY5 (ao bo:Option Addr) (ba oa bb ob n ca cb x y:Nat) (w:World) (ha:0<n→ao=some ⟨ba,oa,none⟩) (hb:0<n→bo=some ⟨bb,ob,none⟩) (hn:n≤35184372088832) (hx:dlen x=n) (hy:dlen y=n)
  (V:∀ i,i<n→w.cell? ⟨ba,oa+i,none⟩=some (.int .u32 (dg x i:Nat))) (J:∀ i,i<n→w.cell? ⟨bb,ob+i,none⟩=some (.int .u32 (dg y i:Nat))) :
  Ca 216 #[.slice ao n ca,.slice bo n cb] w fun e w'=>e=.returned (iV (cmpI x y))∧∃ d,w'=w.drewN d:=by
 have qY:((n:Int) != (n:Int))=false:=by simp
 have C:Hid _:=And.intro hx hy;clear hx hy
 go_enter Tryz.func216,Tryz.ntmps216
 go_wp2
 go_loopw [5] (fun i wr=>∃ (j d:Nat),j≤n∧i=iV ((j:Int) - 1)∧wr=w.drewN d∧Hid (x / B^j=y / B^j)) (fun i _=>(intOf i+1).toNat)
 case atStart=>exact⟨n,0,kH8 _,rfl,rfl,(by rw[Nat.div_eq_of_lt ((qZ3 n x).1 (by rw[C.out.1];omega)),Nat.div_eq_of_lt ((qZ3 n y).1 (by rw[C.out.2];omega))]:x / B^n=y / B^n)⟩
 case round =>
  obtain⟨j,d,hj,rfl,rfl,T⟩:=hrel;by_cases qQ:j=0
  ·subst qQ;have e:x=y:=by have:=T.out;simpa using this
   have HE:Hid (cmpI x y=0):=(by subst e;unfold cmpI;simp:cmpI x y=0)
   clear T e V J
   go_wp2
   go_ret;rw[HE.out];exact⟨rfl,d,rfl⟩
  ·obtain⟨i,rfl⟩:∃ i,j=i+1:=⟨j - 1,ω⟩;have hi:i<n:=ω;obtain rfl:=ha ω;obtain rfl:=hb ω;have g1:(w.drewN d).cell? ⟨ba,oa+i,none⟩=some (.int .u32 (dg x i:Nat)):=V i hi;have g2:(w.drewN d).cell? ⟨bb,ob+i,none⟩=some (.int .u32 (dg y i:Nat)):=J i hi;have qZ:(i:Int)<(n:Int):=ω;have ei:((i+1:Nat):Int) - 1=(i:Int):=ω;rw[ei];have u:=c163 (dg x i:Nat) (dg y i:Nat);generalize W:dg x i=Y at *;generalize L:dg y i=H at *;have HD:Hid _:=And.intro W L;clear V J W L ei;have HW:Hid (∃ F,w.drewN d=w.drewN F):=⟨d,rfl⟩;generalize w.drewN d=I at *;by_cases D:Y=H
   ·subst D;have t1:((Y:Int) != (Y:Int))=false:=by simp
    clear u
    go_wp2
    go_quiet (fail)
    go_wp2;obtain⟨F,rfl⟩:=HW.out;exact⟨⟨i,_,ω,rfl,World.drewN_drewN ..,(zD4 T.out (HD.out.1.trans HD.out.2.symm):x / B^i=y / B^i)⟩,by simp[intOf]⟩
   ·have t1:((Y:Int) != (H:Int))=true:=by simp;omega
    have HC:Hid (cmpI x y=cmpI Y H):=by
     have h1:=HD.out;show cmpI x y=cmpI Y H
     rcases Nat.lt_or_gt_of_ne D with h2|h2
     ·have:=qR5 (i:=i) T.out ω
      unfold cmpI;rw[kU6 ω,kU6 ω]
     ·have:=qR5 (i:=i) T.out.symm ω
      unfold cmpI;rw[kU5 ω,kU6 ω,kU5 ω,kU6 ω]
    generalize cmpI Y H=r at *
    go_wp2
    go_quiet (fail)
    go_wp2;have HV:Hid (∃ F,I.drewN nq=w.drewN F):=by
     obtain⟨F,e⟩:=HW.out;exact⟨_,by rw[e];exact World.drewN_drewN ..⟩
    have qK:(I.drewN nq).cell? ⟨ba,oa+i,none⟩=some (.int .u32 (Y:Nat)):=g1;have qX:(I.drewN nq).cell? ⟨bb,ob+i,none⟩=some (.int .u32 (H:Nat)):=g2;generalize I.drewN nq=wq at *
    go_quiet ((go_at_call 253;exact Calls.quiet_of_same (u _)))
    go_wp2
    go_ret;obtain⟨F,e⟩:=HV.out;rw[HC.out,e];exact⟨rfl,_,World.drewN_drewN ..⟩
theorem c129 {u v:Value} {x y:Nat} {w:World} (W:Is w u x) (Y:Is w v y) (hx:dlen x≤35184372088832) (hy:dlen y≤35184372088832) :
  Ca 216 #[u,v] w fun e w'=>e=.returned (iV (cmpI x y))∧∃ d,w'=w.drewN d:=by
 obtain⟨ao,V,rfl,a1,a2,I,L,a3,a4⟩:=W;obtain⟨H,J,rfl,b1,b2,C,T,D,F⟩:=Y;by_cases h:dlen x=dlen y
 ·rw[←h] at D F ⊢;exact kY5 ao H I L C T _ V J x y w a3 D hx rfl h.symm a4 F
 ·refine(kY6 ao H _ _ V J w h).mono ?_
  rintro e w' ⟨rfl,rfl⟩;refine⟨kU7 Ending.returned (kU7 (Value.int IntKind.i64) ?_),0,rfl⟩
  unfold cmpI;rcases Nat.lt_or_gt_of_ne h with Y|Y
  ·have:=qM8 Y
   rw[kU6 ω,kU6 ω]
  ·have:=qM8 Y
   rw[kU5 ω,kU6 ω,kU5 ω,kU6 ω]
end Go.Proofs.YtfkaogdmlcdceaaGreatDoor
namespace Go.Proofs.YtfkaogdmlcdceaaGreatDoor
attribute [local go_sem] iV Nu
def macc (p y a j:Nat):Nat:=(p % B^j+y % B^j*a) / B^j
theorem zV2 (p y a:Nat):macc p y a 0=0:=by simp[macc,Nat.mod_one]
theorem zN0 (p y a j:Nat):macc p y a j≤a:=by
 have J:=kB3 p (qZ2 j);have Y:=kB3 y (qZ2 j);unfold macc;have u:p % B^j+y % B^j*a<(a+1)*B^j:=by
  have:y % B^j*a≤B^j*a:=kF5 _ (kM8 Y)
  rw[Nat.add_mul,Nat.one_mul,kN4 a];omega
 have:=(kM6 (qZ2 j)).2 u
 omega
theorem yD6 (p y a j:Nat):p % B^(j+1)+y % B^(j+1)*a=(p % B^j+y % B^j*a)+B^j*(dg p j+dg y j*a):=by
 rw[qK3,qK3];grind
theorem yY9 (p y a j:Nat):macc p y a (j+1)=(macc p y a j+dg p j+dg y j*a) / B:=by
 unfold macc;rw[yD6,qY0,←kN0,Nat.add_mul_div_left _ _ (qZ2 j),kH4]
theorem xF6 (p y a j:Nat):dg (p+y*a) j=(macc p y a j+dg p j+dg y j*a) % B:=by
 have h:(p+y*a) / B^j=macc p y a j+(p / B^j+y / B^j*a):=by
  have Y:=qB0 p j;have u:=qB0 y j;have:p+y*a=(p % B^j+y % B^j*a)+B^j*(p / B^j+y / B^j*a):=by
   conv=>lhs;rw[Y,u]
   grind
  rw[this,Nat.add_mul_div_left _ _ (qZ2 j)];rfl
 unfold dg;rw[h,kH4];have J:(p / B^j+y / B^j*a) % B=(p / B^j % B+y / B^j % B*a) % B:=by
  rw[Nat.add_mod,Nat.mul_mod];conv=>rhs;rw[Nat.add_mod,Nat.mul_mod,Nat.mod_mod,Nat.mod_mod]
 rw[Nat.add_mod,J,←Nat.add_mod]
theorem zJ8 (x y i:Nat):x % B^(i+1)*y=x % B^i*y+B^i*(y*dg x i):=by rw[qK3];grind
theorem yP3 (x y i:Nat):x % B^(i+1)*y / B^i=x % B^i*y / B^i+y*dg x i:=by
 rw[zJ8,Nat.add_mul_div_left _ _ (qZ2 i)]
theorem zS8 {x y i t:Nat} (h:t<i):dg (x % B^(i+1)*y) t=dg (x % B^i*y) t:=by
 have u:∀ z,dg z t=dg (z % B^i) t:=fun z=>(qN6 h).symm;rw[u,u (x % B^i*y),zJ8,Nat.add_mul_mod_self_left]
theorem zS7 (x y i j:Nat):dg (x % B^(i+1)*y) (i+j)=(macc (x % B^i*y / B^i) y (dg x i) j+dg (x % B^i*y) (i+j)+dg y j*dg x i) % B:=by
 rw[←qR7,yP3,xF6,qR7]
theorem zB3 (x y i:Nat):x % B^i*y<B^(i+dlen y):=by
 rw[kN3];exact Nat.mul_lt_mul_of_lt_of_le (kB3 _ (qZ2 i)) (kM8 (qY5 y)) (qZ2 _)
theorem qE6 {x y i t:Nat} (h:i+dlen y≤t):dg (x % B^i*y) t=0 :=
 qU0 (kF6 (zB3 x y i) (kF4 qG6 h))
theorem qM7 {c f d e:Nat} (V:c<B) (J:f<B) (Y:d<B) (u:e<B):c+f+e*d<18446744073709551616∧e*d<18446744073709551616∧e*d+f<18446744073709551616:=by
 have:e*d≤4294967295*4294967295:=Nat.mul_le_mul (by unfold B at u;omega) (by unfold B at Y;omega)
 unfold B at *;omega
end Go.Proofs.YtfkaogdmlcdceaaGreatDoor
namespace Go.Proofs.YtfkaogdmlcdceaaGreatDoor
open Go.RowKit
attribute [local go_sem] iV Nu
def mid (x y i j:Nat):Nat→Nat:=fun t=>if t<i+j then dg (x % B^(i+1)*y) t else dg (x % B^i*y) t
theorem yD3 {c f d e:Nat} (V:c<B) (u:f<B) (J:d<B) (Y:e<B) :
  IntKind.u64.wrap ((c:Int)+IntKind.u64.wrap (IntKind.u64.wrap (IntKind.u64.wrap (d:Int)*IntKind.u64.wrap (e:Int))+IntKind.u64.wrap (f:Int)))=((c+f+e*d:Nat):Int):=by
 obtain⟨D,F,H⟩:=qM7 V u J Y;rw[qX3 J,qX3 Y,qX3 u,←kN8,kN4 d e];generalize e*d=m at *;rw[kB6,kB6,kB6];omega
theorem zV1 {w wr:World} {n nb x y i j f e c d:Nat} {q:Int} (F:Mk w wr n (mid x y i j)) (Y:q=(c+f+e*d:Nat)) (H:dg x i=d)
  (D:dg (x % B^i*y) (i+j)=f∧dg y j=e∧macc (x % B^i*y / B^i) y d j=c) (C:j<nb) :
  (∃ u:Nat,u≤nb∧Value.int .u64 (q / 4294967296)=Value.int .u64 (macc (x % B^i*y / B^i) y d u:Nat)∧iV ((j:Int)+1)=iV (u:Int) ∧
   Mk w (wr.setCell ⟨w.heap.size,i+j,none⟩ (Value.int .u32 (q % 4294967296))) n (mid x y i u)) ∧
  nb - (intOf (iV ((j:Int)+1))).toNat<nb - (intOf (iV (j:Int))).toNat:=by
 obtain⟨V,e2,J⟩:=D;have L:q / 4294967296=(macc (x % B^i*y / B^i) y d (j+1):Nat):=by rw[yY9,qR7,V,e2,J,Y];unfold B;omega
 have T:q % 4294967296=(dg (x % B^(i+1)*y) (i+j):Nat):=by rw[zS7,H,V,e2,J,Y];unfold B;omega
 rw[L,T];refine⟨⟨j+1,ω,rfl,by simp,(F.set (i+j) _).congr fun t W=>?_⟩,by simp[intOf];omega⟩
 unfold mid;by_cases e:t=i+j
 ·subst e;rw[kU6 rfl,kU6 ω]
 ·rw[kU5 e];by_cases e2:t<i+j
  ·rw[kU6 e2,kU6 ω]
  ·rw[kU5 e2,kU5 ω]
theorem yY5 {w wr:World} {na nb x y i d:Nat} {q:Int} (H:Mk w wr (na+nb) (mid x y i nb)) (D:dlen y=nb) (V:dg x i=d) (J:d<B) (Y:q=(macc (x % B^i*y / B^i) y d nb:Nat) % 4294967296) (hi:i<na) :
  (∃ u:Nat,u≤na∧iV ((i:Int)+1)=iV (u:Int)∧Mk w (wr.setCell ⟨w.heap.size,i+nb,none⟩ (Value.int .u32 q)) (na+nb) (dg (x % B^u*y))) ∧
  na - (intOf (iV ((i:Int)+1))).toNat<na - (intOf (iV (i:Int))).toNat:=by
 have L:=zN0 (x % B^i*y / B^i) y d nb;have F:q=(dg (x % B^(i+1)*y) (i+nb):Nat):=by
  rw[zS7,V,qE6 ω,qK7 (x:=y) ω,Y,Nat.zero_mul];unfold B at *;omega
 rw[F];refine⟨⟨i+1,ω,by simp,(H.set (i+nb) _).congr fun t T=>?_⟩,by simp[intOf];omega⟩
 unfold mid;by_cases e:t=i+nb
 ·subst e;rw[kU6 rfl]
 ·rw[kU5 e];by_cases e2:t<i+nb
  ·rw[kU6 e2]
  ·rw[kU5 e2,qE6 ω,qE6 ω]
theorem kY3 (ao bo:Option Addr) (ba oa bb ob na nb ca cb x y:Nat) (w:World) (ha:0<na→ao=some ⟨ba,oa,none⟩) (hb:0<nb→bo=some ⟨bb,ob,none⟩) (qY:na≤35184372088832) (qZ:nb≤35184372088832) (hx:dlen x=na) (hy:dlen y=nb)
  (Y:∀ i,i<na→w.cell? ⟨ba,oa+i,none⟩=some (.int .u32 (dg x i:Nat))) (u:∀ i,i<nb→w.cell? ⟨bb,ob+i,none⟩=some (.int .u32 (dg y i:Nat))) :
  Ca 258 #[.slice ao na ca,.slice bo nb cb] w fun e w'=>∃ v,e=.returned v∧Own w' w.heap.size v (x*y)∧Bw w w':=by
 have F:=run_make_row' (P:=Tryz.prog) 48 96 (.int .u32 0) 4 Tryz.underlying48 Tryz.info96 rfl .i64 .i64 (na+nb) ω ω;rw[show((na+nb:Nat):Int)=(na:Int)+nb by omega] at F
 have HX:Hid _:=hx;have HY:Hid _:=hy;clear hx hy
 go_enter Tryz.func258,Tryz.ntmps258
 go_wp2;clear F
 go_loopw [19] (fun c wr=>∃ i:Nat,i≤na∧c=iV i∧Mk w wr (na+nb) (dg (x % B^i*y))) (fun c _=>na - (intOf c).toNat)
 case atStart=>exact⟨0,kB4 _,rfl,(Mk.start w _).congr fun t ht=>by simp[Nat.mod_one,dg]⟩
 case round =>
  obtain⟨i,hi,rfl,H⟩:=hrel;by_cases T:i<na
  ·obtain rfl:=ha ω;have g1:=H.old (Y i T);have qK:(i:Int)<(na:Int):=ω;have HO:Hid _:=H;generalize hd:dg x i=d at *;have HD:Hid _:=hd;have V:Hid (d<B):=hd ▸ qX1 _ _;clear hd H
   go_wp2
   go_loopw [8,26] (fun c s wi=>∃ j:Nat,j≤nb∧c=.int .u64 (macc (x % B^i*y / B^i) y d j:Nat)∧s=iV j∧Mk w wi (na+nb) (mid x y i j)) (fun _ s _=>nb - (intOf s).toNat)
   case atStart=>exact⟨0,kB4 _,by rw[zV2];rfl,rfl,HO.out.congr fun t ht=>by
     unfold mid;by_cases e:t<i+0
     ·rw[kU6 e,zS8 ω]
     ·rw[kU5 e]⟩
   case round =>
    obtain⟨j,hj,rfl,rfl,J⟩:=hrel;by_cases D:j<nb
    ·obtain rfl:=hb ω;have g4:=J.old (u j D);have qX:(j:Int)<(nb:Int):=ω;have g2:=J.cell (i:=i+j) ω;have g3:=J.frozen (i+j);have qQ:=zN0 (x % B^i*y / B^i) y d j;have ef:mid x y i j (i+j)=dg (x % B^i*y) (i+j):=kU5 ω;rw[ef] at g2;generalize L:dg (x % B^i*y) (i+j)=f at *;generalize I:dg y j=e at *;generalize W:macc (x % B^i*y / B^i) y d j=c at *;have HE:Hid _:=aI3 L I W;have HL:Hid (c<B∧f<B∧e<B):=⟨by have:=V.out;omega,L ▸ qX1 _ _,I ▸ qX1 _ _⟩
     have HM:Hid _:=J;clear L I W qQ J Y u ef
     go_wp2;exact zV1 HM.out (yD3 HL.out.1 HL.out.2.1 V.out HL.out.2.2) HD.out HE.out D
    ·obtain rfl:j=nb:=ω;have g2:=J.cell (i:=i+j) ω;have g3:=J.frozen (i+j);have HM:Hid _:=J;generalize L:mid x y i j (i+j)=f at *;generalize W:macc (x % B^i*y / B^i) y d j=c at *;have C:Hid _:=W;clear L W J Y u
     go_wp2;exact yY5 HM.out HY.out HD.out V.out (by rw[C.out]) T
  ·obtain rfl:i=na:=ω;have hE:Mk w wr (i+nb) (dg (x*y)):=by
    have e:x % B^i=x:=kB2 (by rw[←HX.out];exact qY5 x)
    rw[e] at H;exact H
   have hA:=hE.at;have hL:dlen (x*y)≤i+nb:=by
    have h1:=zB3 x y i;rw[kB2 (by rw[←HX.out];exact qY5 x),HY.out] at h1
    exact(qZ3 _ _).2 h1
   have C:Hid _:=hE;clear H Y u hE
   go_wp2_with (first|(go_at_call 199;refine(c62 _ _ _ (x*y) _ hL lR ω hA).mono ?_;rintro e w' ⟨rfl,rfl⟩))
   go_ret;exact⟨_,rfl,C.out.own hL ω,C.out.below⟩
theorem c143 {u v:Value} {x y:Nat} {w:World} (F:Is w u x) (H:Is w v y) (hx:dlen x≤35184372088832) (V:dlen y≤35184372088832) :
  Ca 258 #[u,v] w fun e w'=>∃ v,e=.returned v∧Own w' w.heap.size v (x*y)∧Bw w w':=by
 obtain⟨ao,T,rfl,a1,a2,C,J,a3,a4⟩:=F;obtain⟨L,D,rfl,b1,b2,W,Y,b3,I⟩:=H;exact kY3 ao L C J W Y _ _ T D x y w a3 b3 hx V rfl rfl a4 I
structure Only (g:Nat) (w w':World):Prop where
 os:w'.os=w.os
 tape:w'.tape=w.tape
 output:w'.output=w.output
 size:w'.heap.size=w.heap.size
 block:∀ k,k≠g→w'.heap[k]?=w.heap[k]?
theorem Only.refl (g:Nat) (w:World):Only g w w:=⟨rfl,rfl,rfl,rfl,fun _ _=>rfl⟩
theorem Only.trans {g:Nat} {a b c:World} (h:Only g a b) (k:Only g b c):Only g a c:=⟨k.os.trans h.os,k.tape.trans h.tape,k.output.trans h.output,k.size.trans h.size,fun i hi=>(k.block i hi).trans (h.block i hi)⟩
theorem Only.drewN (g:Nat) (w:World) (n:Nat):Only g w (w.drewN n):=⟨rfl,rfl,rfl,rfl,fun _ _=>rfl⟩
theorem Only.set {g:Nat} {w wr:World} (h:Only g w wr) (o:Nat) (u:Value):Only g w (wr.setCell ⟨g,o,none⟩ u) :=
 h.trans ⟨rfl,rfl,rfl,by simp[World.setCell],fun k Y=>Below.heap_setCell _ _ _ _ Y⟩
theorem Only.cell {g:Nat} {w wr:World} (h:Only g w wr) {p:Addr} {u:Value} (Y:p.block≠g) (J:w.cell? p=some u):wr.cell? p=some u:=(World.cell?_of_block (w:=w) (h.block p.block Y)).trans J
theorem Only.below {g B:Nat} {w wr:World} (h:Only g w wr) (Y:B≤g):Below B w wr:=⟨h.os,h.tape,h.output,by rw[h.size];exact kH8 _,fun k u=>h.block k ω⟩
def RowGe (w:World) (b N:Nat) (f:Nat→Value):Prop:=∃ c:Array Value,w.heap[b]?=some (.cells c 96 (0,0))∧N≤c.size∧∀ i,i<N→c[i]?=some (f i)
theorem RowGe.cell {w:World} {b N:Nat} {f:Nat→Value} (h:RowGe w b N f) {i:Nat} (hi:i<N):w.cell? ⟨b,i,none⟩=some (f i):=by
 obtain⟨c,Y,_,u⟩:=h;simp[World.cell?,Y,u i hi]
theorem RowGe.frozen {w:World} {b N:Nat} {f:Nat→Value} (h:RowGe w b N f) (i:Nat):w.frozen? ⟨b,i,none⟩=false:=by
 obtain⟨c,u,_,_⟩:=h;simp[World.frozen?,u]
theorem RowGe.congr {w:World} {b N:Nat} {f g:Nat→Value} (h:RowGe w b N f) (e:∀ i,i<N→f i=g i):RowGe w b N g:=by
 obtain⟨c,J,u,Y⟩:=h;exact⟨c,J,u,fun i hi=>by rw[Y i hi,e i hi]⟩
theorem RowGe.of_block {w w':World} {b N:Nat} {f:Nat→Value} (h:RowGe w b N f) (e:w'.heap[b]?=w.heap[b]?):RowGe w' b N f:=by
 obtain⟨c,J,u,Y⟩:=h;exact⟨c,e.trans J,u,Y⟩
theorem RowGe.lt {w:World} {b N:Nat} {f:Nat→Value} (h:RowGe w b N f):b<w.heap.size:=by
 obtain⟨c,Y,_,_⟩:=h;obtain⟨u,_⟩:=Array.getElem?_eq_some_iff.1 Y;exact u
theorem RowGe.of {w:World} {b n N:Nat} {f:Nat→Value} (h:w.rowIs b 96 n f) (V:N≤n):RowGe w b N f:=by
 obtain⟨c,Y,J,u⟩:=h;exact⟨c,Y,ω,fun i hi=>u i ω⟩
theorem RowGe.set {w:World} {b N:Nat} {f:Nat→Value} (h:RowGe w b N f) (i:Nat) (v:Value):RowGe (w.setCell ⟨b,i,none⟩ v) b N (fun j=>if j=i then v else f j):=by
 obtain⟨c,V,u,J⟩:=h;refine⟨c.setIfInBounds i v,?_,by simpa using u,fun j Y=>?_⟩
 ·simp[World.setCell,Array.getElem?_modify,V]
 ·rw[Array.getElem?_setIfInBounds];by_cases e:j=i
  ·subst e;simp
   omega
  ·rw[kU5 (fun h=>e h.symm)];show c[j]?=some (if j=i then v else f j)
   rw[kU5 e];exact J j Y
structure In (g:Nat) (w wr:World) (N:Nat) (f:Nat→Nat):Prop where
 only:Only g w wr
 row:RowGe wr g N (fun i=>.int .u32 (f i:Nat))
theorem In.cell {g:Nat} {w wr:World} {N:Nat} {f:Nat→Nat} (h:In g w wr N f) {i:Nat} (hi:i<N):wr.cell? ⟨g,i,none⟩=some (.int .u32 (f i:Nat)):=h.row.cell hi
theorem In.frozen {g:Nat} {w wr:World} {N:Nat} {f:Nat→Nat} (h:In g w wr N f) (i:Nat):wr.frozen? ⟨g,i,none⟩=false:=h.row.frozen i
theorem In.set {g:Nat} {w wr:World} {N:Nat} {f:Nat→Nat} (h:In g w wr N f) (i d:Nat):In g w (wr.setCell ⟨g,i,none⟩ (.int .u32 (d:Nat))) N (fun j=>if j=i then d else f j) :=
 ⟨h.only.set _ _,(h.row.set i _).congr (fun j _=>by split <;> rfl)⟩
theorem In.congr {g:Nat} {w wr:World} {N:Nat} {f u:Nat→Nat} (h:In g w wr N f) (e:∀ i,i<N→f i=u i):In g w wr N u:=⟨h.only,h.row.congr (fun i hi=>by rw[e i hi])⟩
def put (off j z:Nat) (f:Nat→Nat):Nat→Nat:=fun s=>if off≤s∧s<off+j then dg z (s - off)else f s
theorem qC1 (off z:Nat) (f:Nat→Nat) (s:Nat):put off 0 z f s=f s:=kU5 ω
theorem In.put {g:Nat} {w wr:World} {N off j z:Nat} {f:Nat→Nat} (h:In g w wr N (put off j z f)) {q:Int} (u:q=(dg z j:Nat)):In g w (wr.setCell ⟨g,off+j,none⟩ (.int .u32 q)) N (put off (j+1) z f):=by
 subst u;refine(h.set (off+j) _).congr fun s Y=>?_
 unfold YtfkaogdmlcdceaaGreatDoor.put;by_cases e:s=off+j
 ·subst e;rw[kU6 rfl,kU6 ω,Nat.add_sub_cancel_left]
 ·rw[kU5 e];by_cases e2:off≤s∧s<off+j
  ·rw[kU6 e2,kU6 ω]
  ·rw[kU5 e2,kU5 ω]
theorem qC2 {off j z s:Nat} {f:Nat→Nat} (h:off+j≤s):put off j z f s=f s:=kU5 ω
theorem kX8 (g off cap N n r d L C cb:Nat) (bo:Option Addr) (f:Nat→Nat) (w:World) (hn:n≤35184372088832) (hb:0<n→bo=some ⟨L,C,none⟩) (D:L≠g) (hd:d<B^n)
  (Y:∀ i,i<n→w.cell? ⟨L,C+i,none⟩=some (.int .u32 (dg d i:Nat))) (hN:off+n+1≤N) (T:In g w w N f) (H:∀ j,j≤n→f (off+j)=dg r j) :
  Ca 256 #[.slice (some ⟨g,off,none⟩) (n+1:Nat) cap,.slice bo n cb] w fun e w'=>e=.returned (.tuple #[])∧In g w w' N (put off (n+1) (r+d) f):=by
 have HD:Hid _:=hd;clear hd
 go_enter Tryz.func256,Tryz.ntmps256
 go_wp2
 go_loopw [4,9] (fun c i wr=>∃ j:Nat,j≤n∧c=.int .u32 (addc r d j:Nat)∧i=iV j∧In g w wr N (put off j (r+d) f)) (fun _ i _=>n - (intOf i).toNat)
 case atStart=>exact⟨0,kB4 _,by rw[qN9];rfl,rfl,T.congr fun s _=>(qC1 ..).symm⟩
 case round =>
  obtain⟨j,hj,rfl,rfl,J⟩:=hrel;have g2:=J.cell (i:=off+j) ω;have g3:=J.frozen (off+j);rw[qC2 ω,H j hj] at g2;by_cases V:j<n
  ·obtain rfl:=hb ω;have g1:=J.only.cell D (Y j V);have qQ:(j:Int)<(n:Int):=ω;have u:=fun w=>c188 (qX1 r j) (qX1 d j) (qF3 r d j) w;have e1:(dg r j+dg d j+addc r d j) % B=dg (r+d) j:=by rw[qR8];congr 1;omega
   have e2:(dg r j+dg d j+addc r d j) / B=addc r d (j+1):=by rw[qT1];congr 1;omega
   rw[e1,e2] at u;have W:Hid _:=J;generalize dg r j=x at *;generalize dg d j=y at *;generalize addc r d j=c at *;generalize I:dg (r+d) j=s at *;generalize F:addc r d (j+1)=c' at *;have HS:Hid _:=And.intro I F;clear J Y T H e1 e2 I F
   go_wp2_with (first|(go_at_call 278;refine(u _).mono ?_;rintro e w' ⟨rfl,rfl⟩))
   exact⟨⟨j+1,ω,by rw[HS.out.2],by simp,W.out.put (by rw[HS.out.1])⟩,by simp[intOf];omega⟩
  ·obtain rfl:j=n:=ω;have hx:=qX1 r j;have F:=qF3 r d j;have W:Hid _:=J;have HE:Hid (dg (r+d) j=(dg r j+addc r d j) % B):=(by rw[qR8,qU0 HD.out];congr 1;omega:dg (r+d) j=(dg r j+addc r d j) % B)
   generalize dg r j=x at *;generalize addc r d j=c at *;clear J Y T H hx
   go_wp2
   go_end0
   exact⟨rfl,W.out.put (by rw[HE.out];unfold B;omega)⟩
theorem kX9 (g off cap N n r d t bb ob cb:Nat) (bo:Option Addr) (f:Nat→Nat) (w:World) (hn:n≤35184372088832) (hb:0<n→bo=some ⟨bb,ob,none⟩) (qQ:bb≠g) (hd:d<B^n) (ht:t<B) (hr:r<B^(n+1))
  (V:∀ i,i<n→w.cell? ⟨bb,ob+i,none⟩=some (.int .u32 (dg d i:Nat))) (hN:off+n+1≤N) (hI:In g w w N f) (I:∀ j,j≤n→f (off+j)=dg r j) :
  Ca 255 #[.slice (some ⟨g,off,none⟩) (n+1:Nat) cap,.slice bo n cb,.int .u32 t] w fun e w'=>e=.returned (.bool (decide (r<d*t)))∧In g w w' N (put off (n+1) (wsub r (d*t) (n+1)) f):=by
 have H:Hid _:=aI3 hd ht hr;clear hd ht hr
 go_enter Tryz.func255,Tryz.ntmps255
 go_wp2
 go_loopw [7,8,13] (fun c b i wr=>∃ j:Nat,j≤n∧c=.int .u64 (mulc d t j:Nat)∧b=.int .u32 (subb r (d*t) j:Nat)∧i=iV j∧In g w wr N (put off j (wsub r (d*t) (n+1)) f)) (fun _ _ i _=>n - (intOf i).toNat)
 case atStart=>exact⟨0,kB4 _,by rw[qR2];rfl,by rw[qS1];rfl,rfl,hI.congr fun s _=>(qC1 ..).symm⟩
 case round =>
  obtain⟨j,hj,rfl,rfl,rfl,F⟩:=hrel;have g2:=F.cell (i:=off+j) ω;have g3:=F.frozen (off+j);rw[qC2 ω,I j hj] at g2;have u:=fun w=>c174 (qX1 r j) (qX1 (d*t) j) (qT9 r (d*t) j) w;have e1:(dg r j+B+B - dg (d*t) j - subb r (d*t) j) % B=dg (wsub r (d*t) (n+1)) j:=(qA5 ω).symm;have e2:=(qN1 r (d*t) j).symm;rw[e1,e2] at u;have HM:Hid _:=F;have T:=zB9 d t j;by_cases C:j<n
  ·obtain rfl:=hb ω;have g1:=F.only.cell qQ (V j C);have qZ:(j:Int)<(n:Int):=ω;have hw:IntKind.u64.wrap ((mulc d t j:Nat)+IntKind.u64.wrap (IntKind.u64.wrap ((dg d j:Nat):Int)*IntKind.u64.wrap (t:Int)))=((mulc d t j+dg d j*t:Nat):Int):=by
    have:=qM7 (c:=mulc d t j) (f:=0) (d:=t) (e:=dg d j) (by have:=H.out.2.1;omega) (by unfold B;omega) H.out.2.1 (qX1 _ _)
    rw[qX3 (qX1 _ _),qX3 H.out.2.1,←kN8];generalize dg d j*t=m at *;rw[kB6,kB6];omega
   have h1:((mulc d t j+dg d j*t:Nat):Int) % 4294967296=(dg (d*t) j:Nat):=by rw[qA6];unfold B;omega
   have h2:((mulc d t j+dg d j*t:Nat):Int) / 4294967296=(mulc d t (j+1):Nat):=by rw[qR3];unfold B;omega
   generalize hQ:mulc d t j+dg d j*t=Q at *;generalize dg r j=x at *;generalize dg (d*t) j=y at *;generalize dg d j=dj at *;generalize mulc d t j=c at *;generalize subb r (d*t) j=b at *;generalize D:dg (wsub r (d*t) (n+1)) j=s at *;generalize hc:subb r (d*t) (j+1)=b' at *;generalize L:mulc d t (j+1)=c' at *;have W:Hid _:=aI3 D hc L;clear F V hI I e1 e2 D hc L hQ T
   go_wp2_with (first|(go_at_call 277;simp only[hw,h1];refine(u _).mono ?_;rintro e w' ⟨rfl,rfl⟩))
   exact⟨⟨j+1,ω,by rw[W.out.2.2],by rw[W.out.2.1],by simp,HM.out.put (by rw[W.out.1])⟩,by simp[intOf];omega⟩
  ·obtain rfl:j=n:=ω;have h1:((mulc d t j:Nat):Int) % 4294967296=(dg (d*t) j:Nat):=by rw[qA6,qU0 H.out.1];unfold B;omega
   have J:subb r (d*t) (j+1)=if r<d*t then 1 else 0:=by
    unfold subb;have hm:d*t<B^(j+1):=by rw[qY0];exact Nat.mul_lt_mul_of_lt_of_le H.out.1 (kM8 H.out.2.1) qG6
    rw[kB2 H.out.2.2,kB2 hm]
   have Y:(((subb r (d*t) (j+1):Nat):Int) != 0)=decide (r<d*t):=by rw[J];by_cases h:r<d*t <;> simp[h]
   generalize dg r j=x at *;generalize dg (d*t) j=y at *;generalize mulc d t j=c at *;generalize subb r (d*t) j=b at *;generalize D:dg (wsub r (d*t) (j+1)) j=s at *;generalize subb r (d*t) (j+1)=b' at *;have W:Hid _:=D;have HB:Hid _:=Y;clear F V hI I e1 e2 D T J Y
   go_wp2_with (first|(go_at_call 277;simp only[h1];refine(u _).mono ?_;rintro e w' ⟨rfl,rfl⟩))
   go_ret;exact⟨kU7 Ending.returned (kU7 Value.bool HB.out),HM.out.put (by rw[W.out])⟩
end Go.Proofs.YtfkaogdmlcdceaaGreatDoor
