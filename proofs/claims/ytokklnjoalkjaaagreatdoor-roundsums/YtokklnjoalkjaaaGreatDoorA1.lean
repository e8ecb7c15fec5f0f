/- Own work: contracts of the program's functions, part 1: Dg D3 D4 W0 W1 Ar W2 W3 Ar2 W4 W5 W6 W7 D5 W8. -/
import Derived.Test.YtokklnjoalkjaaaGreatDoorChecked
import Derived.WalkKit
import Derived.WalkSpells
import Derived.WalkLawsBesides
import Derived.BigQuiet
import Derived.LoopTactic
import Derived.Deep.LoopGhost
import Derived.Deep.OwnRows
import Derived.Deep.Light
import Derived.Laws.BitsLemmas
import Derived.Laws.BitsAllLaws
import Derived.Laws.Bits64
import Derived.Laws.MathBits
import Derived.Lib.TrailingZeros
import Derived.Lib.LaidTab

set_option maxHeartbeats 16000000
set_option maxRecDepth 200000
set_option linter.unusedVariables false
set_option linter.unusedSimpArgs false
namespace Go.Proofs.YtokklnjoalkjaaaGreatDoor
abbrev Bw (a b : World) : Prop := Go.RowKit.Below a.heap.size a b
end Go.Proofs.YtokklnjoalkjaaaGreatDoor
namespace Go.Proofs.YtokklnjoalkjaaaGreatDoor
def B:Nat:=4294967296
theorem B_pos:0<B:=by unfold B;omega
def dg (x i:Nat):Nat:=x / B^i % B
theorem Bpow_pos (n:Nat):0<B^n:=Nat.pow_pos B_pos
theorem Bpow_succ (n:Nat):B^(n+1)=B^n*B:=Nat.pow_succ ..
theorem dg_lt (x i:Nat):dg x i<B:=Nat.mod_lt _ B_pos
theorem dg_of_lt {x n:Nat} (h:x<B^n):dg x n=0:=by
 rw[dg,Nat.div_eq_of_lt h];rfl
def dlen (x:Nat):Nat:=if h:x=0 then 0 else dlen (x / B)+1
termination_by x
decreasing_by exact Nat.div_lt_self (by omega) (by unfold B;omega)
theorem dlen_zero:dlen 0=0:=by rw[dlen];simp
theorem dlen_pos {x:Nat} (h:x≠0):dlen x=dlen (x / B)+1:=by rw[dlen];simp[h]
theorem dlen_le (n:Nat):∀ x,dlen x≤n↔x<B^n:=by
 induction n with
 | zero =>
  intro x
  by_cases h:x=0
  ·subst h;simp[dlen_zero]
  ·rw[dlen_pos h];simp;omega
 | succ n ih =>
  intro x
  by_cases h:x=0
  ·subst h;simp[dlen_zero];exact Bpow_pos _
  ·rw[dlen_pos h,Nat.add_le_add_iff_right,ih,Bpow_succ,Nat.div_lt_iff_lt_mul B_pos]
theorem lt_dlen (x:Nat):x<B^dlen x:=(dlen_le _ x).1 (Nat.le_refl _)
theorem le_dlen {x:Nat} (h:x≠0):B^(dlen x - 1)≤x:=by
 have h1:=dlen_pos h
 have h2:=dlen_le (dlen x - 1) x
 exact Nat.le_of_not_lt fun h3=>by have:=h2.2 h3;omega
theorem dlen_eq_zero {x:Nat}:dlen x=0↔x=0:=by
 have:=dlen_le 0 x
 simp at this
 omega
theorem dlen_eq {x n:Nat} (h1:x<B^n) (h2:n=0∨B^(n - 1)≤x):dlen x=n:=by
 have h3:=(dlen_le n x).2 h1
 rcases h2 with h2|h2
 ·omega
 ·have h4:=dlen_le (n - 1) x
  have:¬ dlen x≤n - 1:=fun h5=>by have:=h4.1 h5;omega
  omega
theorem dlen_mono {x y:Nat} (h:x≤y):dlen x≤dlen y:=(dlen_le _ _).2 (Nat.lt_of_le_of_lt h (lt_dlen y))
theorem dg_top {x:Nat} (h:x≠0):dg x (dlen x - 1)≠0:=by
 have h1:=le_dlen h
 have h2:=lt_dlen x
 have h3:dlen x=(dlen x - 1)+1:=by have:=dlen_pos h;omega
 rw[h3,Bpow_succ] at h2
 unfold dg
 have h4:0<B^(dlen x - 1):=Bpow_pos _
 generalize B^(dlen x - 1)=p at *
 have h5:0<x / p:=Nat.div_pos h1 h4
 have h6:x / p<B:=(Nat.div_lt_iff_lt_mul h4).2 (by rw[Nat.mul_comm];exact h2)
 rw[Nat.mod_eq_of_lt h6];omega
theorem dg_past {x i:Nat} (h:dlen x≤i):dg x i=0:=dg_of_lt ((dlen_le i x).1 h)
theorem dg_zero (x:Nat):dg x 0=x % B:=by simp[dg]
theorem dg_div (x k i:Nat):dg (x / B^k) i=dg x (k+i):=by
 rw[dg,dg,Nat.div_div_eq_div_mul,←Nat.pow_add]
theorem mod_succ (x i:Nat):x % B^(i+1)=x % B^i+B^i*dg x i:=by
 rw[Bpow_succ,Nat.mod_mul,dg]
theorem div_split (x i:Nat):x=x % B^i+B^i*(x / B^i):=(Nat.mod_add_div x (B^i)).symm
def addc (x y i:Nat):Nat:=(x % B^i+y % B^i) / B^i
theorem addc_zero (x y:Nat):addc x y 0=0:=by simp[addc,Nat.mod_one]
theorem addc_le (x y i:Nat):addc x y i≤1:=by
 have h1:=Nat.mod_lt x (Bpow_pos i)
 have h2:=Nat.mod_lt y (Bpow_pos i)
 unfold addc
 have:(x % B^i+y % B^i) / B^i<2:=(Nat.div_lt_iff_lt_mul (Bpow_pos i)).2 (by omega)
 omega
theorem addc_succ (x y i:Nat):addc x y (i+1)=(addc x y i+dg x i+dg y i) / B:=by
 unfold addc
 rw[mod_succ,mod_succ,Bpow_succ,←Nat.div_div_eq_div_mul]
 have:x % B^i+B^i*dg x i+(y % B^i+B^i*dg y i)=(x % B^i+y % B^i)+B^i*(dg x i+dg y i):=by rw[Nat.mul_add];omega
 rw[this,Nat.add_mul_div_left _ _ (Bpow_pos i),Nat.add_assoc]
theorem dg_add (x y i:Nat):dg (x+y) i=(addc x y i+dg x i+dg y i) % B:=by
 have h:(x+y) / B^i=addc x y i+(x / B^i+y / B^i):=by
  have h1:=div_split x i
  have h2:=div_split y i
  unfold addc
  have:x+y=(x % B^i+y % B^i)+B^i*(x / B^i+y / B^i):=by rw[Nat.mul_add];omega
  conv=>lhs;rw[this]
  rw[Nat.add_mul_div_left _ _ (Bpow_pos i)]
 unfold dg
 rw[h]
 generalize x / B^i=p
 generalize y / B^i=q
 generalize addc x y i=c
 unfold B
 omega
def mulc (x t i:Nat):Nat:=(x % B^i*t) / B^i
theorem mulc_zero (x t:Nat):mulc x t 0=0:=by simp[mulc,Nat.mod_one]
theorem mulc_le (x t i:Nat):mulc x t i≤t:=by
 have h1:=Nat.mod_lt x (Bpow_pos i)
 unfold mulc
 apply Nat.div_le_of_le_mul
 exact Nat.mul_le_mul_right _ (Nat.le_of_lt h1)
theorem mulc_lt {x t i:Nat} (ht:0<t):mulc x t i<t:=by
 have h1:=Nat.mod_lt x (Bpow_pos i)
 unfold mulc
 rw[Nat.div_lt_iff_lt_mul (Bpow_pos i),Nat.mul_comm t]
 exact Nat.mul_lt_mul_of_pos_right h1 ht
theorem mulc_succ (x t i:Nat):mulc x t (i+1)=(mulc x t i+dg x i*t) / B:=by
 unfold mulc
 rw[mod_succ,Bpow_succ,←Nat.div_div_eq_div_mul,Nat.add_mul,Nat.mul_assoc,Nat.add_mul_div_left _ _ (Bpow_pos i)]
theorem dg_mul (x t i:Nat):dg (x*t) i=(mulc x t i+dg x i*t) % B:=by
 have h:x*t / B^i=mulc x t i+x / B^i*t:=by
  unfold mulc
  conv=>lhs;rw[div_split x i]
  rw[Nat.add_mul,Nat.mul_assoc,Nat.add_mul_div_left _ _ (Bpow_pos i)]
 unfold dg
 rw[h,Nat.add_mod,Nat.mul_mod]
 conv=>rhs;rw[Nat.add_mod,Nat.mul_mod,Nat.mod_mod]
def subb (x y i:Nat):Nat:=if x % B^i<y % B^i then 1 else 0
theorem subb_zero (x y:Nat):subb x y 0=0:=by simp[subb,Nat.mod_one]
theorem subb_le (x y i:Nat):subb x y i≤1:=by unfold subb;split <;> omega
theorem subb_succ (x y i:Nat):subb x y (i+1)=if dg x i<dg y i+subb x y i then 1 else 0:=by
 unfold subb
 rw[mod_succ,mod_succ]
 have h1:=Nat.mod_lt x (Bpow_pos i)
 have h2:=Nat.mod_lt y (Bpow_pos i)
 generalize x % B^i=p at *
 generalize y % B^i=q at *
 generalize dg x i=c
 generalize dg y i=d
 generalize B^i=m at *
 rcases Nat.lt_trichotomy c d with h|h|h
 ·have:m*c+m≤m*d:=by have:=Nat.mul_le_mul_left m (show c+1≤d from h);rw[Nat.mul_add,Nat.mul_one] at this;exact this
  rw[if_pos (by omega),if_pos (by omega)]
 ·subst h
  by_cases h3:p<q
  ·rw[if_pos (by omega),if_pos h3,if_pos (by omega)]
  ·rw[if_neg (by omega),if_neg h3,if_neg (by omega)]
 ·have:m*d+m≤m*c:=by have:=Nat.mul_le_mul_left m (show d+1≤c from h);rw[Nat.mul_add,Nat.mul_one] at this;exact this
  rw[if_neg (by omega)]
  by_cases h3:p<q
  ·rw[if_pos h3,if_neg (by omega)]
  ·rw[if_neg h3,if_neg (by omega)]
def wsub (x y n:Nat):Nat:=(x+B^n - y % B^n) % B^n
theorem dg_mod {x n i:Nat} (h:i<n):dg (x % B^n) i=dg x i:=by
 have h0:B^n=B^(i+1)*B^(n - (i+1)):=by rw[←Nat.pow_add];congr 1;omega
 have h1:x % B^n % B^(i+1)=x % B^(i+1):=by rw[h0];exact Nat.mod_mul_right_mod ..
 have h2:=mod_succ (x % B^n) i
 have h3:=mod_succ x i
 have h4:x % B^n % B^i=x % B^i:=by
  have h0:B^n=B^i*B^(n - i):=by rw[←Nat.pow_add];congr 1;omega
  rw[h0];exact Nat.mod_mul_right_mod ..
 rw[h1,h4,h3] at h2
 have:=Nat.eq_of_mul_eq_mul_left (Bpow_pos i) (Nat.add_left_cancel h2)
 exact this.symm
theorem dg_wsub {x y n i:Nat} (h:i<n):dg (wsub x y n) i=(dg x i+B+B - dg y i - subb x y i) % B:=by
 -- z + y = x (mod B^n): by the digits of a sum
 unfold wsub
 rw[dg_mod h]
 have hy:=Nat.mod_lt y (Bpow_pos n)
 generalize hz:x+B^n - y % B^n=z
 have hs:z+y % B^n=x+B^n:=by omega
 have hp:B^n=B^(i+1)*B^(n - (i+1)):=by rw[←Nat.pow_add];congr 1;omega
 have e1:dg (x+B^n) i=dg x i:=by
  have:(x+B^n) % B^(i+1)=x % B^(i+1):=by rw[hp,Nat.add_mul_mod_self_left]
  have h2:=mod_succ (x+B^n) i
  have h3:=mod_succ x i
  have h4:(x+B^n) % B^i=x % B^i:=by
   have h0:B^n=B^i*B^(n - i):=by rw[←Nat.pow_add];congr 1;omega
   rw[h0,Nat.add_mul_mod_self_left]
  rw[this,h4,h3] at h2
  exact(Nat.eq_of_mul_eq_mul_left (Bpow_pos i) (Nat.add_left_cancel h2)).symm
 have e2:=dg_add z (y % B^n) i
 rw[hs,e1,dg_mod h] at e2
 have e3:addc z (y % B^n) i=subb x y i:=by
  have h0:B^n=B^i*B^(n - i):=by rw[←Nat.pow_add];congr 1;omega
  have h4:(x+B^n) % B^i=x % B^i:=by rw[h0,Nat.add_mul_mod_self_left]
  have h5:y % B^n % B^i=y % B^i:=by rw[h0];exact Nat.mod_mul_right_mod ..
  unfold addc subb
  rw[h5]
  have h6:=Nat.mod_lt z (Bpow_pos i)
  have h7:=Nat.mod_lt y (Bpow_pos i)
  have h8:=Nat.mod_lt x (Bpow_pos i)
  have h9:(z % B^i+y % B^i) % B^i=x % B^i:=by
   rw[←h5,←Nat.add_mod,hs,h4]
  generalize z % B^i=a at *
  generalize y % B^i=b at *
  generalize x % B^i=c at *
  generalize B^i=m at *
  by_cases hlt:a+b<m
  ·rw[Nat.mod_eq_of_lt hlt] at h9
   rw[Nat.div_eq_of_lt hlt,if_neg (by omega)]
  ·have:(a+b) / m=1:=by
    rw[Nat.div_eq_iff (by omega)];omega
   rw[this]
   have:(a+b) % m=a+b - m:=by
    rw[Nat.mod_eq_sub_mod (by omega),Nat.mod_eq_of_lt (by omega)]
   rw[if_pos (by omega)]
 rw[e3] at e2
 have b1:=dg_lt z i
 have b2:=dg_lt y i
 have b3:=dg_lt x i
 have b4:=subb_le x y i
 rw[e2]
 generalize dg z i=p at *
 generalize dg y i=q at *
 generalize subb x y i=s at *
 clear e2 e3 e1
 unfold B at *
 omega
theorem wsub_of_le {x y n:Nat} (hx:x<B^n) (h:y≤x):wsub x y n=x - y:=by
 unfold wsub
 rw[Nat.mod_eq_of_lt (show y<B^n by omega),show x+B^n - y=(x - y)+B^n by omega,Nat.add_mod_right,Nat.mod_eq_of_lt (by omega)]
theorem B_two:B=2^32:=rfl
theorem dg_shl_low {z whole j:Nat} (h:j<whole):dg (z*B^whole) j=0:=by
 have h0:B^whole=B^(whole - (j+1))*B*B^j:=by rw[←Bpow_succ,←Nat.pow_add];congr 1;omega
 unfold dg
 rw[h0,←Nat.mul_assoc,←Nat.mul_assoc,Nat.mul_div_cancel _ (Bpow_pos j),Nat.mul_mod_left]
theorem dg_shl (z whole i:Nat):dg (z*B^whole) (whole+i)=dg z i:=by
 unfold dg
 rw[Nat.pow_add,←Nat.div_div_eq_div_mul,Nat.mul_div_cancel _ (Bpow_pos whole)]
theorem two_split {k:Nat}:2^k=B^(k / 32)*2^(k % 32):=by
 have:k=32*(k / 32)+k % 32:=by omega
 conv=>lhs;rw[this]
 rw[Nat.pow_add,Nat.pow_mul];rfl
theorem two_le {p:Nat} (hp:p≤32):2^p*2^(32 - p)=B:=by rw[←Nat.pow_add,B_two];congr 1;omega
theorem dg_shr {x p i:Nat} (hp:p<32):dg (x / 2^p) i=((dg x i+dg x (i+1)*B) / 2^p) % B:=by
 have h2:0<2^p:=Nat.pow_pos (by omega)
 have hq:=two_le (p:=p) (by omega)
 unfold dg
 rw[Bpow_succ,←Nat.div_div_eq_div_mul,Nat.div_div_eq_div_mul,Nat.mul_comm (2^p),←Nat.div_div_eq_div_mul]
 generalize x / B^i=y
 have e:y=(y % B+(y / B % B)*B)+2^p*(2^(32 - p)*B*(y / B / B)):=by
  have h1:=Nat.mod_add_div y B
  have h3:=Nat.mod_add_div (y / B) B
  have h4:2^p*(2^(32 - p)*B*(y / B / B))=B*(B*(y / B / B)):=by rw[←Nat.mul_assoc,←Nat.mul_assoc,hq,Nat.mul_assoc]
  rw[h4]
  generalize y / B / B=r at *
  have h5:B*(y / B)=B*(y / B % B)+B*(B*r):=by rw[←Nat.mul_add,h3]
  rw[Nat.mul_comm (y / B % B)]
  omega
 conv=>lhs;rw[e]
 rw[Nat.add_mul_div_left _ _ h2,Nat.mul_assoc,Nat.mul_comm (2^(32 - p)),Nat.mul_assoc,Nat.add_mul_mod_self_left]
theorem top_split (x i:Nat):x / B^i=x / B^(i+1)*B+dg x i:=by
 unfold dg
 rw[Bpow_succ,←Nat.div_div_eq_div_mul]
 have:=Nat.mod_add_div (x / B^i) B
 rw[Nat.mul_comm B] at this
 omega
theorem lt_of_top {x y i:Nat} (h:x / B^(i+1)=y / B^(i+1)) (hlt:dg x i<dg y i):x<y:=by
 have h1:=top_split x i
 have h2:=top_split y i
 rw[h] at h1
 exact Nat.lt_of_not_le fun hle=>by
  have:=Nat.div_le_div_right (c:=B^i) hle
  omega
theorem top_step {x y i:Nat} (h:x / B^(i+1)=y / B^(i+1)) (he:dg x i=dg y i):x / B^i=y / B^i:=by
 rw[top_split x i,top_split y i,h,he]
theorem lt_of_dlen {x y:Nat} (h:dlen x<dlen y):x<y:=Nat.lt_of_not_le fun hle=>by have:=dlen_mono hle;omega
def bl (x:Nat):Nat:=if x=0 then 0 else Nat.log2 x+1
theorem bl_le (x n:Nat):bl x≤n↔x<2^n:=by
 unfold bl
 by_cases h:x=0
 ·subst h;simp;exact Nat.pow_pos (by omega)
 ·rw[if_neg h]
  have:=Nat.log2_lt (n:=x) (k:=n) h
  omega
theorem lt_bl (x:Nat):x<2^bl x:=(bl_le x _).1 (Nat.le_refl _)
theorem bl_eq {x n:Nat} (h1:x<2^n) (h2:n=0∨2^(n - 1)≤x):bl x=n:=by
 have h3:=(bl_le x n).2 h1
 rcases h2 with h2|h2
 ·omega
 ·have h4:=bl_le x (n - 1)
  have:¬ bl x≤n - 1:=fun h5=>by have:=h4.1 h5;omega
  omega
theorem le_bl {x:Nat} (h:x≠0):2^(bl x - 1)≤x:=by
 have h1:bl x=Nat.log2 x+1:=by unfold bl;rw[if_neg h]
 have h2:=bl_le x (bl x - 1)
 exact Nat.le_of_not_lt fun h3=>by have:=h2.2 h3;omega
theorem bl_top {x:Nat} (h:x≠0):bl x=32*(dlen x - 1)+bl (dg x (dlen x - 1)):=by
 have h1:=dg_top h
 have h2:=lt_dlen x
 have h3:dlen x=(dlen x - 1)+1:=by have:=dlen_pos h;omega
 have h4:=mod_succ x (dlen x - 1)
 rw[←h3,Nat.mod_eq_of_lt h2] at h4
 have h5:=Nat.mod_lt x (Bpow_pos (dlen x - 1))
 have hb:B^(dlen x - 1)=2^(32*(dlen x - 1)):=by rw[Nat.pow_mul];rfl
 generalize dg x (dlen x - 1)=d at *
 generalize dlen x - 1=n at *
 have l1:=lt_bl d
 have l2:=le_bl h1
 have l3:0<bl d:=Nat.pos_of_ne_zero fun h0=>by rw[h0] at l1;simp at l1;omega
 refine bl_eq ?_ (.inr ?_)
 ·rw[Nat.pow_add,←hb]
  have:B^n*d+B^n≤B^n*2^bl d:=by
   have:=Nat.mul_le_mul_left (B^n) (show d+1≤2^bl d from l1)
   rw[Nat.mul_add,Nat.mul_one] at this;exact this
  omega
 ·rw[show 32*n+bl d - 1=32*n+(bl d - 1) by omega,Nat.pow_add,←hb]
  have:=Nat.mul_le_mul_left (B^n) l2
  generalize x % B^n=rr at *
  omega
def tz (x:Nat):Nat:=if h:x=0 then 0 else if x % 2=1 then 0 else tz (x / 2)+1
termination_by x
decreasing_by omega
theorem tz_odd {x:Nat} (h:x % 2=1):tz x=0:=by rw[tz];rw[dif_neg (by omega),if_pos h]
theorem tz_even {x:Nat} (h0:x≠0) (h:x % 2=0):tz x=tz (x / 2)+1:=by rw[tz];rw[dif_neg h0,if_neg (by omega)]
theorem tz_pow (k:Nat):∀ m,m % 2=1→tz (2^k*m)=k:=by
 induction k with
 | zero=>intro m hm;simp[tz_odd hm]
 | succ k ih =>
  intro m hm
  have e:2^(k+1)*m=2*(2^k*m):=by rw[Nat.pow_succ];grind
  have hp:0<2^k*m:=Nat.mul_pos (Nat.pow_pos (by omega)) (by omega)
  rw[e,tz_even (by omega) (by omega),Nat.mul_div_cancel_left _ (by omega),ih m hm]
theorem tz_spec:∀ n x,x≤n→x≠0→2^tz x*(x / 2^tz x)=x∧x / 2^tz x % 2=1:=by
 intro n
 induction n with
 | zero=>intro x h1 h2;omega
 | succ n ih =>
  intro x h1 h2
  by_cases h:x % 2=1
  ·rw[tz_odd h];simp;exact h
  ·rw[tz_even h2 (by omega)]
   obtain⟨a,b⟩:=ih (x / 2) (by omega) (by omega)
   rw[Nat.pow_succ,Nat.mul_comm (2^_) 2,←Nat.div_div_eq_div_mul]
   refine⟨?_,b⟩
   rw[Nat.mul_assoc,a];omega
theorem tz_digit {x i:Nat} (hl:x % B^i=0) (hd:dg x i≠0):tz x=32*i+tz (dg x i):=by
 obtain⟨a,b⟩:=tz_spec _ (dg x i) (Nat.le_refl _) hd
 have hlt:=dg_lt x i
 have e:=div_split x i
 have e2:=top_split x i
 rw[hl,Nat.zero_add] at e
 generalize hdd:dg x i=d at *
 have l1:tz d<32:=by
  exact Nat.lt_of_not_le fun h=>by
   have:2^32≤2^tz d:=Nat.pow_le_pow_right (by omega) h
   have h3:0<d / 2^tz d:=Nat.pos_of_ne_zero fun h0=>by rw[h0] at b;simp at b
   have:=Nat.mul_le_mul_left (2^tz d) h3
   unfold B at hlt
   omega
 have hq:=two_le (p:=tz d) (by omega)
 have hb:B^i=2^(32*i):=by rw[Nat.pow_mul];rfl
 generalize tz d=t at *
 generalize d / 2^t=o at *
 generalize x / B^(i+1)=r at *
 have e3:x=2^(32*i+t)*(2^(32 - t)*r+o):=by
  rw[e,e2,Nat.pow_add,hb,←a,←hq];grind
 rw[e3]
 refine tz_pow _ _ ?_
 have:2^(32 - t)=2*2^(31 - t):=by rw[Nat.mul_comm,←Nat.pow_succ];congr 1;omega
 rw[this,Nat.mul_assoc]
 omega
theorem guess_ge {r d q R D m:Nat} (hq:q*d≤r) (hR:r<(R+1)*m) (hD:D*m≤d) (hm:0<m):q*D≤R:=by
 have h1:q*(D*m)≤q*d:=Nat.mul_le_mul_left _ hD
 have h2:q*D*m<(R+1)*m:=by rw[Nat.mul_assoc];omega
 have:=Nat.lt_of_mul_lt_mul_right h2
 omega
theorem guess_le {r d g R D m:Nat} (hg:g*D≤R) (hgB:g<B) (hR:R*m≤r) (hd:d<(D+1)*m) (hdd:B*m≤d) (hm:0<m):(g - 1)*d≤r:=by
 by_cases h0:g=0
 ·subst h0;simp
 have h1:g*D*m≤R*m:=Nat.mul_le_mul_right _ hg
 have h2:g*(d+1)≤g*((D+1)*m):=Nat.mul_le_mul_left _ hd
 have h3:g*((D+1)*m)=g*D*m+g*m:=by grind
 have h4:g*m≤B*m:=Nat.mul_le_mul_right _ (by omega)
 have h5:g*d=(g - 1)*d+d:=by
  have:=Nat.add_mul (g - 1) 1 d
  rw[show g - 1+1=g by omega,Nat.one_mul] at this
  exact this
 have h6:g*(d+1)=g*d+g:=by grind
 omega
theorem newton_lt {a b m:Nat} (hb:0<b) (h:b*b+m<2*b*(a+1)):m<(a+1)*(a+1):=by
 refine Nat.lt_of_not_le fun hle=>?_
 -- (b - (a+1))^2 >= 0
 rcases Nat.le_total b (a+1)with h1|h1
 ·obtain⟨c,hc⟩:=Nat.exists_eq_add_of_le h1
  rw[hc] at h hle
  have:2*b*(b+c)=2*(b*b)+2*(b*c):=by grind
  have:(b+c)*(b+c)=b*b+2*(b*c)+c*c:=by grind
  have:=Nat.zero_le (c*c)
  omega
 ·obtain⟨c,hc⟩:=Nat.exists_eq_add_of_le h1
  generalize a+1=t at *
  subst hc
  have:2*(t+c)*t=2*(t*t)+2*(t*c):=by grind
  have:(t+c)*(t+c)=t*t+2*(t*c)+c*c:=by grind
  have:=Nat.zero_le (c*c)
  omega
theorem newton_gt {t b m p:Nat} (hp:p*p≤2*b) (hlo:b≤p∨(b - p)*(b - p)<m) (hhi:m<(b+p)*(b+p)) (h:2*b*(t+1)≤b*b+m) (hpos:0<m) (hpp:0<p):t*t<m:=by
 refine Nat.lt_of_not_le fun hle=>?_
 have e0:2*b*(t+1)=2*(b*t)+2*b:=by grind
 rcases Nat.le_total t b with h1|h1
 ·obtain⟨c,hc⟩:=Nat.exists_eq_add_of_le h1
  subst hc
  have e1:(t+c)*(t+c)=t*t+2*(t*c)+c*c:=by grind
  have e2:(t+c)*t=t*t+t*c:=by grind
  have h2:2*(t+c)≤c*c:=by omega
  -- c < p
  have h3:c<p:=by
   refine Nat.lt_of_not_le fun hcp=>?_
   rcases hlo with hlo|hlo
   ·have:t=0:=by omega
    subst this
    simp at hle;omega
   ·have:(t+c - p)*(t+c - p) ≥ t*t:=by
     have:t≤t+c - p:=by omega
     exact Nat.mul_le_mul this this
    omega
  have:c*c<p*p:=Nat.mul_lt_mul_of_lt_of_le h3 (by omega) hpp
  omega
 ·obtain⟨c,hc⟩:=Nat.exists_eq_add_of_le h1
  subst hc
  have e1:(b+c)*(b+c)=b*b+2*(b*c)+c*c:=by grind
  have e2:b*(b+c)=b*b+b*c:=by grind
  have e3:(b+p)*(b+p)=b*b+2*(b*p)+p*p:=by grind
  have h2:2*b≤c*c:=by omega
  have h3:p≤c:=by
   refine Nat.le_of_not_lt fun hcp=>?_
   have:c*c<p*p:=Nat.mul_lt_mul_of_lt_of_le hcp (by omega) hpp
   omega
  have:b*p≤b*c:=Nat.mul_le_mul_left _ h3
  omega
theorem root_step {a e k m:Nat} (he:4^e≤m / 4^k) (hk:k≤e+1) (hk1:1≤k) (hlo:(a - 1)*(a - 1)<m / 4^k) (hhi:m / 4^k<(a+1)*(a+1)) :
  (a*2^(k - 1)+m / 2^(k+1) / a - 1)*(a*2^(k - 1)+m / 2^(k+1) / a - 1)<m∧m<(a*2^(k - 1)+m / 2^(k+1) / a+1)*(a*2^(k - 1)+m / 2^(k+1) / a+1):=by
 have p4:4^k=2^k*2^k:=by rw[show(4:Nat)=2*2 from rfl,Nat.mul_pow]
 have p4e:4^e=2^e*2^e:=by rw[show(4:Nat)=2*2 from rfl,Nat.mul_pow]
 have hge:2^e≤a:=by
  refine Nat.le_of_not_lt fun hlt=>?_
  have:(a+1)*(a+1)≤2^e*2^e:=Nat.mul_le_mul hlt hlt
  omega
 have p2e:0<2^e:=Nat.pow_pos (by omega)
 have hkp:2^k=2*2^(k - 1):=by rw[Nat.mul_comm,←Nat.pow_succ];congr 1;omega
 have hkp1:2^(k+1)=2*2^k:=by rw[Nat.mul_comm,←Nat.pow_succ]
 have hke:2^(k - 1)≤2^e:=Nat.pow_le_pow_right (by omega) (by omega)
 have hpp:0<2^(k - 1):=Nat.pow_pos (by omega)
 rw[Nat.div_div_eq_div_mul,hkp1,hkp]
 rw[p4,hkp] at he hlo hhi
 rw[p4e] at he
 clear p4 p4e hkp hkp1
 generalize 2^e=E at *
 generalize 2^(k - 1)=h at *
 have ha:0<a:=by omega
 -- b = 2 h a
 have hden:2*(2*h)*a=2*(2*h*a):=by grind
 rw[hden]
 have hb0:0<2*h*a:=Nat.mul_pos (by omega) ha
 have hq1:=Nat.div_add_mod m (2*(2*h*a))
 have hq2:=Nat.mod_lt m (show 0<2*(2*h*a) by omega)
 generalize m / (2*(2*h*a))=q at *
 generalize m % (2*(2*h*a))=r at *
 have hM1:=Nat.div_add_mod m (2*h*(2*h))
 have hM2:=Nat.mod_lt m (show 0<2*h*(2*h)from Nat.mul_pos (by omega) (by omega))
 generalize m / (2*h*(2*h))=M at *
 generalize m % (2*h*(2*h))=s at *
 have hmpos:0<m:=by
  have:0<2*h*(2*h)*M:=Nat.mul_pos (Nat.mul_pos (by omega) (by omega)) (by omega)
  omega
 generalize hb:2*h*a=b at *
 have ea:2*(a*h)=b:=by rw[←hb];grind
 have key:2*b*(a*h+q)=b*b+2*b*q:=by grind
 constructor
 ·refine newton_gt (b:=b) (p:=2*h) ?_ ?_ ?_ ?_ hmpos (by omega)
  ·rw[←hb]
   have:2*h*(2*h)≤2*h*(2*a):=Nat.mul_le_mul_left _ (by omega)
   grind
  ·right
   have e1:b - 2*h=2*h*(a - 1):=by rw[←hb,Nat.mul_sub,Nat.mul_one]
   rw[e1]
   have:2*h*(2*h)*((a - 1)*(a - 1))+2*h*(2*h)≤2*h*(2*h)*M:=by
    have:=Nat.mul_le_mul_left (2*h*(2*h)) (show(a - 1)*(a - 1)+1≤M from hlo)
    rw[Nat.mul_add,Nat.mul_one] at this
    exact this
   have e2:2*h*(a - 1)*(2*h*(a - 1))=2*h*(2*h)*((a - 1)*(a - 1)):=by grind
   have:0<2*h*(2*h):=Nat.mul_pos (by omega) (by omega)
   omega
  ·have:2*h*(2*h)*(M+1)≤2*h*(2*h)*((a+1)*(a+1)):=Nat.mul_le_mul_left _ hhi
   have e2:(b+2*h)*(b+2*h)=2*h*(2*h)*((a+1)*(a+1)):=by rw[←hb];grind
   rw[Nat.mul_add,Nat.mul_one] at this
   omega
  ·have hpos:0<a*h+q:=by have:=Nat.mul_pos ha hpp;omega
   rw[show a*h+q - 1+1=a*h+q by omega,key]
   omega
 ·refine newton_lt hb0 ?_
  have:2*b*(a*h+q+1)=2*b*(a*h+q)+2*b:=by grind
  omega
end Go.Proofs.YtokklnjoalkjaaaGreatDoor
namespace Go.Proofs.YtokklnjoalkjaaaGreatDoor
open Go.RowKit
def At (w:World) (ao:Option Addr) (n x:Nat):Prop :=
 ∃ b o,(0<n→ao=some ⟨b,o,none⟩)∧∀ i,i<n→w.cell? ⟨b,o+i,none⟩=some (.int .u32 (dg x i:Nat))
def sliceLen:Value→Nat | .slice _ n _=>n|_=>0
theorem dlen_down {x k:Nat} (h:dlen x≤k) (h0:0<k) (hd:dg x (k - 1)=0):dlen x≤k - 1:=by
 by_cases hx:x=0
 ·subst hx;rw[dlen_zero];omega
 ·refine Nat.le_of_not_lt fun hlt=>?_
  have:dlen x=k:=by omega
  subst this
  exact dg_top hx hd
theorem dlen_here {x k:Nat} (h:dlen x≤k) (hd:k=0∨dg x (k - 1)≠0):dlen x=k:=by
 rcases hd with hd|hd
 ·omega
 ·refine Nat.le_antisymm h (Nat.le_of_not_lt fun hlt=>hd (dg_past (by omega)))
theorem c62 (ao:Option Addr) (n cap x:Nat) (w:World) (hx:dlen x≤n) (hn:n≤cap) (hc:n≤70368744177664) (h:At w ao n x) :
  Calls Tryz.prog 139 #[.slice ao n cap] w fun e w'=>e=.returned (.slice ao (dlen x) cap)∧w'=w:=by
 obtain⟨b,o,hb,hcell⟩:=h
 go_enter Tryz.func139,Tryz.ntmps139
 go_wp2
 go_loop [0] (fun v=>∃ k:Nat,k≤n∧v=.slice ao k cap∧dlen x≤k) (fun v=>sliceLen v)
 case atStart=>exact⟨n,Nat.le_refl _,rfl,hx⟩
 case round =>
  obtain⟨k,hk,rfl,hd⟩:=hrel
  by_cases h0:k=0
  ·subst h0
   have e:dlen x=0:=by omega
   clear hd hx
   go_wp2
   go_ret
   exact⟨rfl,rfl⟩
  ·obtain⟨j,rfl⟩:∃ j,k=j+1:=⟨k - 1,by omega⟩
   have hj:j<n:=by omega
   obtain rfl:=hb (by omega)
   have g:=hcell j hj
   have hdj:=Hid.out (p:=dlen x≤j+1) hd
   have hD:Hid (dlen x≤j+1):=hd
   clear hd hcell hx
   generalize hq:dg x j=q at g
   have HQ:Hid (dg x j=q):=hq
   clear hq hdj
   by_cases hq0:q=0
   ·subst hq0
    go_wp2
    exact⟨⟨j,by omega,rfl,dlen_down hD.out (by omega) HQ.out⟩,by simp[sliceLen]⟩
   ·have hq1:((q:Int)==0)=false:=by simp;exact hq0
    go_wp2
    go_ret
    rw[dlen_here hD.out (.inr (by rw[Nat.add_sub_cancel,HQ.out];exact hq0))]
    exact⟨rfl,rfl⟩
end Go.Proofs.YtokklnjoalkjaaaGreatDoor
namespace Go.Proofs.YtokklnjoalkjaaaGreatDoor
theorem two_small {p:Nat} (h:p<32):2^p≤2147483648:=by
 have:2^p≤2^31:=Nat.pow_le_pow_right (by omega) (by omega)
 exact this
theorem or_add {a c p:Nat} (ha:a % 2^p=0) (hc:c<2^p):a ||| c=a+c:=by
 obtain⟨m,rfl⟩:∃ m,a=2^p*m:=⟨a / 2^p,by have:=Nat.mod_add_div a (2^p);omega⟩
 exact(Nat.two_pow_add_eq_or_of_lt hc m).symm
theorem cast_pow (p:Nat):(2:Int)^p=((2^p:Nat):Int):=by simp
theorem wrap_d {d:Nat} (hd:d<B):IntKind.u64.wrap (d:Int)=(d:Int):=by
 rw[IntKind.wrap_u64];unfold B at hd;omega
theorem mul_small {d t:Nat} (hd:d<B) (ht:t≤2147483648):d*t≤9223372034707292160:=by
 have h1:d*t≤4294967295*t:=Nat.mul_le_mul_right _ (by unfold B at hd;omega)
 omega
theorem shl_word {d p:Nat} (hd:d<B) (hp:p<32):IntKind.u64.wrap (IntKind.u64.wrap (d:Int)*2^p)=((d*2^p:Nat):Int):=by
 rw[wrap_d hd,cast_pow,IntKind.wrap_u64,←Int.natCast_mul]
 have:=mul_small hd (two_small hp)
 generalize d*2^p=m at *
 omega
theorem shl_hi {d c p:Nat} (hd:d<B) (hp:p<32) (hc:c<2^p):IntKind.u64.wrap (IntKind.u64.wrap (d:Int)*2^p) / 4294967296 % 4294967296=(((c+d*2^p) / B:Nat):Int):=by
 rw[shl_word hd hp]
 have h1:=mul_small hd (two_small hp)
 have h2:=two_small hp
 have hq:=two_le (p:=p) (by omega)
 have h3:(c+d*2^p) / B=d*2^p / B:=by
  rw[←hq,←Nat.div_div_eq_div_mul,←Nat.div_div_eq_div_mul,Nat.add_mul_div_right _ _ (Nat.two_pow_pos p),Nat.div_eq_of_lt hc,Nat.mul_div_cancel _ (Nat.two_pow_pos p),Nat.zero_add]
 rw[h3]
 generalize d*2^p=m at *
 unfold B
 omega
theorem shl_lo {d c p:Nat} (hd:d<B) (hp:p<32) (hc:c<2^p) :
  bits .or .u32 (IntKind.u64.wrap (IntKind.u64.wrap (d:Int)*2^p) % 4294967296) (c:Int)=(((c+d*2^p) % B:Nat):Int):=by
 rw[shl_word hd hp]
 have h1:=mul_small hd (two_small hp)
 have h2:=two_small hp
 have hq:=two_le (p:=p) (by omega)
 have e:((d*2^p:Nat):Int) % 4294967296=(((d*2^p) % B:Nat):Int):=by
  unfold B;omega
 rw[e]
 have hm:d*2^p % B % 2^p=0:=by
  rw[←hq,Nat.mod_mul_right_mod,Nat.mul_mod_left]
 have hlt:d*2^p % B<B:=Nat.mod_lt _ B_pos
 have hc2:c<B:=by unfold B;omega
 rw[u32_or_nat _ _ hlt hc2]
 have hsum:(c+d*2^p) % B=d*2^p % B+c:=by
  have h5:d*2^p % B+c<B:=by
   -- the sum has room: the first part is a multiple of 2^p below B
   obtain⟨m,hm'⟩:∃ m,d*2^p % B=2^p*m:=⟨d*2^p % B / 2^p,by have:=Nat.mod_add_div (d*2^p % B) (2^p);omega⟩
   rw[hm'] at hlt ⊢
   rw[←hq] at hlt
   have h6:m<2^(32 - p):=Nat.lt_of_mul_lt_mul_left hlt
   have h7:2^p*(m+1)≤2^p*2^(32 - p):=Nat.mul_le_mul_left _ h6
   rw[Nat.mul_add,Nat.mul_one,hq] at h7
   omega
  rw[Nat.add_comm,Nat.add_mod,Nat.mod_eq_of_lt hc2,Nat.mod_eq_of_lt h5]
 rw[hsum,or_add hm hc]
theorem two_digits {d0 d1:Nat} (h0:d0<B) (h1:d1<B):bits .or .u64 (IntKind.u64.wrap (d0:Int)) (IntKind.u64.wrap (IntKind.u64.wrap (d1:Int)*4294967296))=((d0+d1*B:Nat):Int):=by
 have e:IntKind.u64.wrap (IntKind.u64.wrap (d1:Int)*4294967296)=((d1*B:Nat):Int):=by
  rw[wrap_d h1,IntKind.wrap_u64];unfold B at *; omega
 rw[wrap_d h0,e,u64_or_nat _ _ (by unfold B at *; omega) (by unfold B at *; omega),Nat.or_comm,or_add (p:=32) (by rw[←B_two];exact Nat.mul_mod_left ..) h0,Nat.add_comm]
theorem shr_word2 {d0 d1 p:Nat} (h0:d0<B) (h1:d1<B) :
  bits .or .u64 (IntKind.u64.wrap (d0:Int)) (IntKind.u64.wrap (IntKind.u64.wrap (d1:Int)*4294967296)) / 2^p % 4294967296=(((d0+d1*B) / 2^p % B:Nat):Int):=by
 rw[two_digits h0 h1,cast_pow,←Int.natCast_ediv]
 generalize (d0+d1*B) / 2^p=m
 unfold B;omega
theorem shr_word1 {d0 p:Nat} (h0:d0<B):IntKind.u64.wrap (d0:Int) / 2^p % 4294967296=((d0 / 2^p % B:Nat):Int):=by
 rw[wrap_d h0,cast_pow,←Int.natCast_ediv]
 generalize d0 / 2^p=m
 unfold B;omega
end Go.Proofs.YtokklnjoalkjaaaGreatDoor
namespace Go.Proofs.YtokklnjoalkjaaaGreatDoor
open Go.RowKit
theorem Tryz.info68:(Tryz.prog.info? 68).map (fun i=>(i.zero,i.size,i.bytes))=some (some (.int .u32 0),1,4):=by kernel_rfl
structure Mk (w wr:World) (n:Nat) (f:Nat→Nat):Prop where
 below:Bw w wr
 size:wr.heap.size=w.heap.size+1
 row:wr.rowIs w.heap.size 68 n (fun i=>.int .u32 (f i:Nat))
theorem Mk.start (w:World) (n:Nat):Mk w (w.alloc (.cells (madeCells #[.int .u32 0] n) 68)) n (fun _=>0) :=
 ⟨(Below.refl _ _).alloc (Nat.le_refl _) _,by simp,World.rowIs_made w _ n 68⟩
theorem Mk.cell {w wr:World} {n:Nat} {f:Nat→Nat} (h:Mk w wr n f) {i:Nat} (hi:i<n):wr.cell? ⟨w.heap.size,i,none⟩=some (.int .u32 (f i:Nat)):=h.row.cell hi
theorem Mk.frozen {w wr:World} {n:Nat} {f:Nat→Nat} (h:Mk w wr n f) (i:Nat):wr.frozen? ⟨w.heap.size,i,none⟩=false:=h.row.frozen i
theorem Mk.set {w wr:World} {n:Nat} {f:Nat→Nat} (h:Mk w wr n f) (i d:Nat):Mk w (wr.setCell ⟨w.heap.size,i,none⟩ (.int .u32 (d:Nat))) n (fun j=>if j=i then d else f j) :=
 ⟨h.below.setCell (Nat.le_refl _) _,by simp[h.size],(h.row.set i _).congr (fun j _=>by split <;> rfl)⟩
theorem Mk.congr {w wr:World} {n:Nat} {f g:Nat→Nat} (h:Mk w wr n f) (e:∀ i,i<n→f i=g i):Mk w wr n g :=
 ⟨h.below,h.size,h.row.congr (fun i hi=>by rw[e i hi])⟩
theorem Mk.at {w wr:World} {n x:Nat} (h:Mk w wr n (dg x)):At wr (some ⟨w.heap.size,0,none⟩) n x :=
 ⟨w.heap.size,0,fun _=>rfl,fun i hi=>by rw[Nat.zero_add];exact h.cell hi⟩
theorem Mk.old {w wr:World} {n:Nat} {f:Nat→Nat} (h:Mk w wr n f) {p:Addr} {u:Value} (hp:w.cell? p=some u):wr.cell? p=some u :=
 (h.below.cell (World.block_lt_of_cell? _ _ hp)).trans hp
def Own (w':World) (base:Nat) (v:Value) (x:Nat):Prop :=
 (v=.slice none 0 0∧x=0)∨∃ g cap f,v=.slice (some ⟨g,0,none⟩) (dlen x) cap∧base≤g∧dlen x≤cap∧cap≤9223372036854775807∧w'.rowIs g 68 cap f∧∀ i,i<dlen x→f i=.int .u32 (dg x i:Nat)
def Is (w:World) (v:Value) (x:Nat):Prop:=∃ ao cap,v=.slice ao (dlen x) cap∧dlen x≤cap∧cap≤9223372036854775807∧At w ao (dlen x) x
theorem Own.is {w:World} {base:Nat} {v:Value} {x:Nat} (h:Own w base v x):Is w v x:=by
 rcases h with ⟨rfl,rfl⟩|⟨g,cap,f,rfl,hb,h1,h2,h3,h4⟩
 ·exact⟨none,0,by rw[dlen_zero],by rw[dlen_zero];omega,by omega,0,0,fun h=>by rw[dlen_zero] at h;omega,fun i hi=>by rw[dlen_zero] at hi;omega⟩
 ·exact⟨_,cap,rfl,h1,h2,g,0,fun _=>rfl,fun i hi=>by rw[Nat.zero_add,h3.cell (by omega),h4 i hi]⟩
theorem At.later {w w':World} {ao:Option Addr} {n x:Nat} (h:At w ao n x) (hb:Bw w w'):At w' ao n x:=by
 obtain⟨b,o,h1,h2⟩:=h
 exact⟨b,o,h1,fun i hi=>(hb.cell (World.block_lt_of_cell? _ _ (h2 i hi))).trans (h2 i hi)⟩
theorem Is.later {w w':World} {v:Value} {x:Nat} (h:Is w v x) (hb:Bw w w'):Is w' v x:=by
 obtain⟨ao,cap,h1,h2,h3,h4⟩:=h
 exact⟨ao,cap,h1,h2,h3,h4.later hb⟩
theorem Own.later {w w':World} {base:Nat} {v:Value} {x:Nat} (h:Own w base v x) (hb:Bw w w'):Own w' base v x:=by
 rcases h with h|⟨g,cap,f,h0,h1,h2,h3,h4,h5⟩
 ·exact .inl h
 ·exact .inr ⟨g,cap,f,h0,h1,h2,h3,h4.of_block (hb.block _ h4.lt),h5⟩
theorem Own.mono {w:World} {base base':Nat} {v:Value} {x:Nat} (h:Own w base v x) (hb:base'≤base):Own w base' v x:=by
 rcases h with h|⟨g,cap,f,h0,h1,h2⟩
 ·exact .inl h
 ·exact .inr ⟨g,cap,f,h0,Nat.le_trans hb h1,h2⟩
theorem below_step {w w1 w2:World} (h1:Bw w w1) (h2:Bw w1 w2):Bw w w2:=h1.trans (h2.mono h1.size)
theorem Mk.own {w wr:World} {n x:Nat} (h:Mk w wr n (dg x)) (hx:dlen x≤n) (hn:n≤70368744177664):Own wr w.heap.size (.slice (some ⟨w.heap.size,0,none⟩) (dlen x) n) x :=
 .inr ⟨w.heap.size,n,_,rfl,Nat.le_refl _,hx,by omega,h.row,fun i hi=>rfl⟩
theorem shl_split (x k:Nat):x*2^k=x*2^(k % 32)*B^(k / 32):=by
 rw[two_split (k:=k)];grind
theorem shl_round {w wr:World} {n x k whole part j d c:Nat} (hw:k / 32=whole) (hp:k % 32=part) (hM:Mk w wr (whole+n+1) (fun t=>if t<whole+j then dg (x*2^k) t else 0))
  (hd:dg x j=d) (hc:mulc x (2^part) j=c) (hdl:d<B) (hcl:c<2^part) (hj:j<n) :
  (∃ j_1:Nat,j_1≤n∧Value.int .u32 (IntKind.u64.wrap (IntKind.u64.wrap (d:Int)*2^part) / 4294967296 % 4294967296)=Value.int .u32 (mulc x (2^part) j_1:Nat)∧Value.int .i64 ((j:Int)+1)=Value.int .i64 (j_1:Int) ∧
   Mk w (wr.setCell ⟨w.heap.size,whole+j,none⟩ (Value.int .u32 (bits .or .u32 (IntKind.u64.wrap (IntKind.u64.wrap (d:Int)*2^part) % 4294967296) (c:Int)))) (whole+n+1) fun t=>if t<whole+j_1 then dg (x*2^k) t else 0) ∧
  n - (intOf (Value.int .i64 ((j:Int)+1))).toNat<n - (intOf (Value.int .i64 (j:Int))).toNat:=by
 have hpb:part<32:=by omega
 refine⟨⟨j+1,by omega,?_,by simp,?_⟩,by simp[intOf];omega⟩
 ·rw[shl_hi hdl hpb hcl,mulc_succ,hd,hc]
 ·rw[shl_lo hdl hpb hcl]
  refine(hM.set (whole+j) _).congr fun i hi=>?_
  by_cases e:i=whole+j
  ·subst e
   rw[if_pos rfl,if_pos (by omega),shl_split x k,hw,hp,dg_shl,dg_mul,hd,hc]
  ·rw[if_neg e]
   by_cases e2:i<whole+j
   ·rw[if_pos e2,if_pos (by omega)]
   ·rw[if_neg e2,if_neg (by omega)]
theorem shl_len {x k n:Nat} (hn:dlen x=n):dlen (x*2^k)≤k / 32+n+1:=by
 rw[dlen_le,shl_split]
 have h1:=lt_dlen x
 rw[hn] at h1
 have h2:2^(k % 32)≤B:=by have:=two_small (p:=k % 32) (by omega);unfold B;omega
 have h3:B^(k / 32+n+1)=B^n*B*B^(k / 32):=by rw[Nat.pow_add,Nat.pow_add,Nat.pow_one];grind
 rw[h3]
 refine Nat.mul_lt_mul_of_pos_right ?_ (Bpow_pos _)
 exact Nat.mul_lt_mul_of_lt_of_le h1 h2 B_pos
theorem shl_end {w wr:World} {n x k whole part c:Nat} (hw:k / 32=whole) (hp:k % 32=part) (hn:dlen x=n) (hM:Mk w wr (whole+n+1) (fun t=>if t<whole+n then dg (x*2^k) t else 0))
  (hc:mulc x (2^part) n=c) (hcl:c<2^part):Mk w (wr.setCell ⟨w.heap.size,whole+n,none⟩ (Value.int .u32 (c:Nat))) (whole+n+1) (dg (x*2^k)):=by
 refine(hM.set (whole+n) c).congr fun i hi=>?_
 by_cases e:i=whole+n
 ·subst e
  rw[if_pos rfl,shl_split,hw,hp,dg_shl,dg_mul,hc]
  have h1:=lt_dlen x
  rw[hn] at h1
  have h2:=two_small (p:=part) (by omega)
  rw[dg_of_lt h1,Nat.zero_mul,Nat.add_zero,Nat.mod_eq_of_lt (by unfold B;omega)]
 ·rw[if_neg e,if_pos (by omega)]
theorem c109_1 (ao:Option Addr) (cap x k:Nat) (w:World) (hx0:0<dlen x) (hx:dlen x≤35184372088832) (hk:k≤1099511627776) (h:At w ao (dlen x) x) :
  Calls Tryz.prog 99 #[.slice ao (dlen x) cap,.int .i64 k] w fun e w'=>∃ v,e=.returned v∧Own w' w.heap.size v (x*2^k)∧Bw w w':=by
 obtain⟨b,o,hb,hcell⟩:=h
 obtain rfl:=hb hx0
 generalize hn:dlen x=n at *
 have hq:(k:Int).tdiv 32=((k / 32:Nat):Int):=by rw[Int.tdiv_eq_ediv_of_nonneg (by omega)];rfl
 have hr:(k:Int).tmod 32=((k % 32:Nat):Int):=by rw[Int.tmod_eq_emod_of_nonneg (by omega)];rfl
 have hn0:((n:Int)==0)=false:=by simp;omega
 generalize hwh:k / 32=whole at *
 generalize hpa:k % 32=part at *
 have hmk:=run_make_row' (P:=Tryz.prog) 37 68 (.int .u32 0) 4 Tryz.underlying37 Tryz.info68 rfl .i64 .i64 (whole+n+1) (by omega) (by omega)
 rw[show((whole+n+1:Nat):Int)=(whole:Int)+n+1 by omega] at hmk
 have HN:Hid (dlen x=n):=hn
 have HW:Hid (k / 32=whole):=hwh
 have HP:Hid (k % 32=part):=hpa
 have hwb:whole≤1099511627776:=by omega
 have hpb:part<32:=by omega
 clear hn hwh hpa
 go_enter Tryz.func99,Tryz.ntmps99
 go_wp2
 clear hmk
 go_loopw [8,27] (fun c i wr=>∃ j:Nat,j≤n∧c=.int .u32 (mulc x (2^part) j:Nat)∧i=.int .i64 j∧Mk w wr (whole+n+1) (fun t=>if t<whole+j then dg (x*2^k) t else 0)) (fun _ i _=>n - (intOf i).toNat)
 case atStart=>exact⟨0,Nat.zero_le _,by rw[mulc_zero];rfl,rfl,(Mk.start w _).congr fun i hi=>by
  by_cases e:i<whole+0
  ·rw[if_pos e,shl_split,HW.out,HP.out,dg_shl_low (by omega)]
  ·rw[if_neg e]⟩
 case round =>
  obtain⟨j,hj,rfl,rfl,hM⟩:=hrel
  by_cases hjn:j<n
  ·have g1:=hM.old (hcell j hjn)
   have g2:=hM.cell (i:=whole+j) (by omega)
   have g3:=hM.frozen (whole+j)
   have hdl:=dg_lt x j
   have hcl:=mulc_lt (x:=x) (i:=j) (Nat.two_pow_pos part)
   rw[if_neg (by omega)] at g2
   have hji:(j:Int)<(n:Int):=by omega
   generalize hd:dg x j=d at *
   generalize hc:mulc x (2^part) j=c at *
   have HD:Hid (dg x j=d):=hd
   have HC:Hid (mulc x (2^part) j=c):=hc
   have HDL:Hid (d<B):=hdl
   have HCL:Hid (c<2^part):=hcl
   have HM:Hid (Mk w wr (whole+n+1) (fun t=>if t<whole+j then dg (x*2^k) t else 0)):=hM
   clear hd hc hdl hcl hM hcell
   go_wp2
   exact shl_round HW.out HP.out HM.out HD.out HC.out HDL.out HCL.out hjn
  ·obtain rfl:j=n:=by omega
   have g2:=hM.cell (i:=whole+j) (by omega)
   have g3:=hM.frozen (whole+j)
   have hcl:=mulc_lt (x:=x) (i:=j) (Nat.two_pow_pos part)
   rw[if_neg (by omega)] at g2
   generalize hc:mulc x (2^part) j=c at *
   have hE:=shl_end HW.out HP.out HN.out hM hc hcl
   have hA:=hE.at
   have hL:=shl_len (k:=k) HN.out
   rw[HW.out] at hL
   have HC:Hid (Mk w (wr.setCell ⟨w.heap.size,whole+j,none⟩ (Value.int .u32 (c:Nat))) (whole+j+1) (dg (x*2^k))):=hE
   clear hc hcl hM hcell hE
   go_wp2_with (first|(go_at_call 139;refine(c62 _ _ _ (x*2^k) _ hL (Nat.le_refl _) (by omega) hA).mono ?_;rintro e w' ⟨rfl,rfl⟩))
   go_ret
   exact⟨_,rfl,HC.out.own hL (by omega),HC.out.below⟩
theorem c109_0 (ao:Option Addr) (cap k:Nat) (w:World) (hk:k≤1099511627776) :
  Calls Tryz.prog 99 #[.slice ao 0 cap,.int .i64 k] w fun e w'=>e=.returned (.slice none 0 0)∧w'=w:=by
 have hq:(k:Int).tdiv 32=((k / 32:Nat):Int):=by rw[Int.tdiv_eq_ediv_of_nonneg (by omega)];rfl
 have hr:(k:Int).tmod 32=((k % 32:Nat):Int):=by rw[Int.tmod_eq_emod_of_nonneg (by omega)];rfl
 go_enter Tryz.func99,Tryz.ntmps99
 go_wp2
 go_ret
 exact⟨rfl,rfl⟩
theorem c109 {v:Value} {x:Nat} {w:World} (h:Is w v x) (k:Nat) (hx:dlen x≤35184372088832) (hk:k≤1099511627776) :
  Calls Tryz.prog 99 #[v,.int .i64 k] w fun e w'=>∃ v,e=.returned v∧Own w' w.heap.size v (x*2^k)∧Bw w w':=by
 obtain⟨ao,cap,rfl,h1,h2,h3⟩:=h
 by_cases h0:x=0
 ·subst h0
  rw[dlen_zero]
  refine(c109_0 ao cap k w hk).mono ?_
  rintro e w' ⟨rfl,rfl⟩
  exact⟨_,rfl,.inl ⟨rfl,by simp⟩,Below.refl _ _⟩
 ·exact c109_1 ao cap x k w (Nat.pos_of_ne_zero fun h=>h0 (dlen_eq_zero.1 h)) hx hk h3
theorem shr_digit {x k whole part j:Nat} (hw:k / 32=whole) (hp:k % 32=part):dg (x / 2^k) j=(dg x (whole+j)+dg x (whole+(j+1))*B) / 2^part % B:=by
 rw[two_split (k:=k),←Nat.div_div_eq_div_mul,dg_shr (by omega),hw,hp,dg_div,dg_div]
theorem shr_len {x k m:Nat} (h:dlen x=k / 32+m):dlen (x / 2^k)≤m:=by
 rw[dlen_le,two_split (k:=k),←Nat.div_div_eq_div_mul]
 have h1:=lt_dlen x
 rw[h,Nat.pow_add,Nat.mul_comm] at h1
 have h2:=(Nat.div_lt_iff_lt_mul (Bpow_pos (k / 32))).2 h1
 exact Nat.lt_of_le_of_lt (Nat.div_le_self ..) h2
theorem shr_round {w wr:World} {m x k j:Nat} {q:Int} (hM:Mk w wr m (fun t=>if t<j then dg (x / 2^k) t else 0)) (hq:q=(dg (x / 2^k) j:Nat)) (hj:j<m) :
  (∃ j_1:Nat,j_1≤m∧Value.int .i64 ((j:Int)+1)=Value.int .i64 (j_1:Int) ∧
   Mk w (wr.setCell ⟨w.heap.size,j,none⟩ (Value.int .u32 q)) m fun t=>if t<j_1 then dg (x / 2^k) t else 0) ∧
  m - (intOf (Value.int .i64 ((j:Int)+1))).toNat<m - (intOf (Value.int .i64 (j:Int))).toNat:=by
 subst hq
 refine⟨⟨j+1,by omega,by simp,(hM.set j _).congr fun i hi=>?_⟩,by simp[intOf];omega⟩
 by_cases e:i=j
 ·subst e
  rw[if_pos rfl,if_pos (by omega)]
 ·rw[if_neg e]
  by_cases e2:i<j
  ·rw[if_pos e2,if_pos (by omega)]
  ·rw[if_neg e2,if_neg (by omega)]
theorem c120_0 (ao:Option Addr) (n cap k:Nat) (w:World) (hk:k≤1099511627776) (hn:n≤k / 32) :
  Calls Tryz.prog 141 #[.slice ao n cap,.int .i64 k] w fun e w'=>e=.returned (.slice none 0 0)∧w'=w:=by
 have hq:(k:Int).tdiv 32=((k / 32:Nat):Int):=by rw[Int.tdiv_eq_ediv_of_nonneg (by omega)];rfl
 have hr:(k:Int).tmod 32=((k % 32:Nat):Int):=by rw[Int.tmod_eq_emod_of_nonneg (by omega)];rfl
 have hwb:k / 32≤1099511627776:=by omega
 generalize k / 32=whole at *
 generalize k % 32=part at *
 have hni:(n:Int)≤(whole:Int):=by omega
 clear hn
 go_enter Tryz.func141,Tryz.ntmps141
 go_wp2
 go_ret
 exact⟨rfl,rfl⟩
theorem c120_1 (b o cap m whole part x k:Nat) (w:World) (hm0:0<m) (hm:m≤35184372088832) (hk:k≤1099511627776) (hcap:whole+m≤cap) (hcap2:cap≤9223372036854775807) (hwh:k / 32=whole) (hpa:k % 32=part)
  (hn:dlen x=whole+m) (hcell:∀ i,i<whole+m→w.cell? ⟨b,o+i,none⟩=some (.int .u32 (dg x i:Nat))) :
  Calls Tryz.prog 141 #[.slice (some ⟨b,o,none⟩) (whole+m:Nat) cap,.int .i64 k] w fun e w'=>∃ v,e=.returned v∧Own w' w.heap.size v (x / 2^k)∧Bw w w':=by
 have hq:(k:Int).tdiv 32=((k / 32:Nat):Int):=by rw[Int.tdiv_eq_ediv_of_nonneg (by omega)];rfl
 have hr:(k:Int).tmod 32=((k % 32:Nat):Int):=by rw[Int.tmod_eq_emod_of_nonneg (by omega)];rfl
 have hwb:whole≤1099511627776:=by omega
 have hpb:part<32:=by omega
 rw[hwh] at hq
 rw[hpa] at hr
 have hmk:=run_make_row' (P:=Tryz.prog) 37 68 (.int .u32 0) 4 Tryz.underlying37 Tryz.info68 rfl .i64 .i64 m (by omega) (by omega)
 have HN:Hid (dlen x=whole+m):=hn
 have HW:Hid (k / 32=whole):=hwh
 have HP:Hid (k % 32=part):=hpa
 clear hn hwh hpa
 have hmi:(whole:Int)<((whole+m:Nat):Int):=by omega
 have hmi2:¬ whole=cap:=by omega
 go_enter Tryz.func141,Tryz.ntmps141
 go_wp2
 clear hmk
 go_loopw [27] (fun i wr=>∃ j:Nat,j≤m∧i=.int .i64 j∧Mk w wr m (fun t=>if t<j then dg (x / 2^k) t else 0)) (fun i _=>m - (intOf i).toNat)
 case atStart=>exact⟨0,Nat.zero_le _,rfl,(Mk.start w _).congr fun i hi=>by rw[if_neg (by omega)]⟩
 case round =>
  obtain⟨j,hj,rfl,hM⟩:=hrel
  by_cases hjn:j+1<m
  ·have g1:=hM.old (hcell (whole+j) (by omega))
   have g4:=hM.old (hcell (whole+(j+1)) (by omega))
   rw[←Nat.add_assoc] at g1 g4
   have g2:=hM.cell (i:=j) (by omega)
   have g3:=hM.frozen j
   rw[if_neg (by omega)] at g2
   have hji:(j:Int)+1<(m:Int):=by omega
   have HM:Hid (Mk w wr m (fun t=>if t<j then dg (x / 2^k) t else 0)):=hM
   generalize hd:dg x (whole+j)=d at *
   generalize hd1:dg x (whole+(j+1))=d1 at *
   have HD:Hid (dg x (whole+j)=d):=hd
   have HD1:Hid (dg x (whole+(j+1))=d1):=hd1
   have HL:Hid (d<B∧d1<B):=⟨hd ▸ dg_lt _ _,hd1 ▸ dg_lt _ _⟩
   clear hd hd1 hM hcell
   go_wp2
   exact shr_round HM.out (by rw[shr_word2 HL.out.1 HL.out.2,shr_digit HW.out HP.out,HD.out,HD1.out]) (by omega)
  ·by_cases hjm:j<m
   ·have g1:=hM.old (hcell (whole+j) (by omega))
    rw[←Nat.add_assoc] at g1
    have g2:=hM.cell (i:=j) (by omega)
    have g3:=hM.frozen j
    rw[if_neg (by omega)] at g2
    have hji:¬ (j:Int)+1<(m:Int):=by omega
    have hji2:(j:Int)<(m:Int):=by omega
    have HM:Hid (Mk w wr m (fun t=>if t<j then dg (x / 2^k) t else 0)):=hM
    generalize hd:dg x (whole+j)=d at *
    have HD:Hid (dg x (whole+j)=d):=hd
    have HL:Hid (d<B):=hd ▸ dg_lt _ _
    have HZ:Hid (dg x (whole+(j+1))=0):=dg_past (by rw[HN.out];omega)
    clear hd hM hcell
    go_wp2
    exact shr_round HM.out (by rw[shr_word1 HL.out,shr_digit HW.out HP.out,HD.out,HZ.out,Nat.zero_mul,Nat.add_zero]) (by omega)
   ·obtain rfl:j=m:=by omega
    have hE:Mk w wr j (dg (x / 2^k)):=hM.congr fun i hi=>if_pos hi
    have hA:=hE.at
    have hL:=shr_len (k:=k) (m:=j) (by rw[HW.out];exact HN.out)
    have HC:Hid (Mk w wr j (dg (x / 2^k))):=hE
    clear hM hcell hE
    go_wp2_with (first|(go_at_call 139;refine(c62 _ _ _ (x / 2^k) _ hL (Nat.le_refl _) (by omega) hA).mono ?_;rintro e w' ⟨rfl,rfl⟩))
    go_ret
    exact⟨_,rfl,HC.out.own hL (by omega),HC.out.below⟩
theorem c120 {v:Value} {x:Nat} {w:World} (h:Is w v x) (k:Nat) (hx:dlen x≤35184372088832) (hk:k≤1099511627776) :
  Calls Tryz.prog 141 #[v,.int .i64 k] w fun e w'=>∃ v,e=.returned v∧Own w' w.heap.size v (x / 2^k)∧Bw w w':=by
 obtain⟨ao,cap,rfl,h1,h2,b,o,h3,h4⟩:=h
 by_cases h0:dlen x≤k / 32
 ·refine(c120_0 ao _ cap k w hk h0).mono ?_
  rintro e w' ⟨rfl,rfl⟩
  refine⟨_,rfl,.inl ⟨rfl,?_⟩,Below.refl _ _⟩
  have h5:=(dlen_le _ _).1 h0
  rw[two_split (k:=k),←Nat.div_div_eq_div_mul,Nat.div_eq_of_lt h5,Nat.zero_div]
 ·obtain rfl:=h3 (by omega)
  obtain⟨m,hm⟩:∃ m,dlen x=k / 32+m:=⟨dlen x - k / 32,by omega⟩
  rw[hm] at h4 ⊢
  exact c120_1 b o cap m _ _ x k w (by omega) (by omega) hk (by omega) h2 rfl rfl hm h4
theorem c57 (n:Nat) (w:World) (hn:n<18446744073709551616) :
  Calls Tryz.prog 127 #[.int .u64 n] w fun e w'=>∃ v,e=.returned v∧Own w' w.heap.size v n∧Bw w w':=by
 have hL:dlen n≤2:=(dlen_le 2 n).2 (by unfold B;omega)
 have hM:Mk w (w.alloc (Obj.cells #[Value.int IntKind.u32 ((n:Int) % 4294967296),Value.int IntKind.u32 ((n:Int) / 4294967296)] 68)) 2 (dg n):=by
  refine⟨(Below.refl _ _).alloc (Nat.le_refl _) _,by simp,World.rowIs_alloc w _ _ _ fun i hi=>?_⟩
  match i,hi with
  | 0,_=>simp[dg,B]
  | 1,_=>simp[dg,B];omega
 have hA:=hM.at
 go_enter Tryz.func127,Tryz.ntmps127
 go_wp2_with (first|(go_at_call 139;refine(c62 _ _ _ n _ hL (Nat.le_refl _) (by omega) hA).mono ?_;rintro e w' ⟨rfl,rfl⟩))
 go_ret
 exact⟨_,rfl,hM.own hL (by omega),hM.below⟩
end Go.Proofs.YtokklnjoalkjaaaGreatDoor
namespace Go.Proofs.YtokklnjoalkjaaaGreatDoor
theorem top_bit {n:Nat} (h:n<4294967296):n / 2147483648=(n.testBit 31).toNat:=by
 rw[Nat.testBit_eq_decide_div_mod_eq]
 have h1:n / 2^31<2:=by omega
 by_cases h2:n / 2^31=1
 ·have:n / 2147483648=1:=h2
  rw[this];rfl
 ·have h3:n / 2^31=0:=by omega
  have:n / 2147483648=0:=h3
  rw[this];rfl
theorem top_of {n:Nat} (h:n<4294967296):n.testBit 31=decide (2147483648≤n):=by
 have h1:=top_bit h
 cases h2:n.testBit 31
 ·rw[h2] at h1;simp at h1;simp;omega
 ·rw[h2] at h1;simp at h1;simp;omega
theorem sub_borrow {x y b:Nat} (hx:x<B) (hy:y<B) (hb:b≤1) :
  bits .or .u32 (bits .and .u32 (bits .xor .u32 IntKind.u32.max (x:Int)) (y:Int)) (bits .and .u32 (bits .xor .u32 IntKind.u32.max (bits .xor .u32 (x:Int) (y:Int))) (((x:Int) - y - b) % 4294967296)) / 2147483648
   = ((if x<y+b then 1 else 0:Nat):Int):=by
 have hm:IntKind.u32.max=((4294967295:Nat):Int):=by decide
 have hd:((x:Int) - y - b) % 4294967296=(((x+8589934592 - y - b) % 4294967296:Nat):Int):=by unfold B at *; omega
 rw[hm,hd]
 unfold B at *
 have hdl:(x+8589934592 - y - b) % 4294967296<4294967296:=Nat.mod_lt _ (by omega)
 generalize hdd:(x+8589934592 - y - b) % 4294967296=d at *
 have b1:4294967295 ^^^ x<4294967296:=Nat.xor_lt_two_pow (n:=32) (by omega) hx
 have b2:x ^^^ y<4294967296:=Nat.xor_lt_two_pow (n:=32) hx hy
 have b3:4294967295 ^^^ (x ^^^ y)<4294967296:=Nat.xor_lt_two_pow (n:=32) (by omega) b2
 have b4:(4294967295 ^^^ x) &&& y<4294967296:=Nat.and_lt_two_pow (n:=32) _ hy
 have b5:(4294967295 ^^^ (x ^^^ y)) &&& d<4294967296:=Nat.and_lt_two_pow (n:=32) _ hdl
 rw[u32_xor_nat _ _ (by omega) hx,u32_and_nat _ _ b1 hy,u32_xor_nat _ _ hx hy,u32_xor_nat _ _ (by omega) b2,u32_and_nat _ _ b3 hdl,u32_or_nat _ _ b4 b5]
 have b6:((4294967295 ^^^ x) &&& y) ||| ((4294967295 ^^^ (x ^^^ y)) &&& d)<4294967296:=Nat.or_lt_two_pow (n:=32) b4 b5
 have e:=top_bit b6
 rw[Nat.testBit_or,Nat.testBit_and,Nat.testBit_and,Nat.testBit_xor,Nat.testBit_xor,Nat.testBit_xor,top_of hx,top_of hy,top_of hdl] at e
 have em:(4294967295:Nat).testBit 31=true:=by decide
 rw[em] at e
 have e2:(((((4294967295 ^^^ x) &&& y) ||| ((4294967295 ^^^ (x ^^^ y)) &&& d):Nat):Int)) / 2147483648=((((4294967295 ^^^ x) &&& y ||| (4294967295 ^^^ (x ^^^ y)) &&& d) / 2147483648:Nat):Int):=by rw[Int.natCast_ediv];rfl
 rw[e2,e]
 congr 1
 by_cases h1:2147483648≤x <;> by_cases h2:2147483648≤y <;> by_cases h3:2147483648≤d <;> by_cases h4:x<y+b <;> simp[h1,h2,h3,h4] <;> omega
end Go.Proofs.YtokklnjoalkjaaaGreatDoor
namespace Go.Proofs.YtokklnjoalkjaaaGreatDoor
open Go.RowKit
theorem c174 {x y b:Nat} (hx:x<B) (hy:y<B) (hb:b≤1) (w:World) :
  Calls Tryz.prog 172 #[.int .u32 x,.int .u32 y,.int .u32 b] w fun e w'=>e=.returned (.tuple #[.int .u32 ((x+B+B - y - b) % B:Nat),.int .u32 (if x<y+b then 1 else 0:Nat)])∧w'=w:=by
 have h1:=sub_borrow hx hy hb
 have h2:((x:Int) - y - b) % 4294967296=(((x+B+B - y - b) % B:Nat):Int):=by unfold B at *; omega
 generalize (if x<y+b then 1 else 0:Nat)=r at *
 generalize (x+B+B - y - b) % B=d at *
 have H1:=Hid.out (p:=_) h1
 have HH:Hid (bits .or .u32 (bits .and .u32 (bits .xor .u32 IntKind.u32.max (x:Int)) (y:Int)) (bits .and .u32 (bits .xor .u32 IntKind.u32.max (bits .xor .u32 (x:Int) (y:Int))) (((x:Int) - y - b) % 4294967296)) / 2147483648=(r:Int)):=h1
 have H2:Hid (((x:Int) - y - b) % 4294967296=(d:Int)):=h2
 clear h1 h2 H1
 go_enter Tryz.func172,Tryz.ntmps172
 go_wp2
 go_ret2
 rw[HH.out,H2.out]
 exact⟨rfl,rfl⟩
theorem c188 {x y b:Nat} (hx:x<B) (hy:y<B) (hb:b≤1) (w:World) :
  Calls Tryz.prog 178 #[.int .u32 x,.int .u32 y,.int .u32 b] w fun e w'=>e=.returned (.tuple #[.int .u32 ((x+y+b) % B:Nat),.int .u32 ((x+y+b) / B:Nat)])∧w'=w:=by
 have h1:IntKind.u64.wrap (IntKind.u64.wrap (IntKind.u64.wrap (x:Int)+IntKind.u64.wrap (y:Int))+IntKind.u64.wrap (b:Int))=((x+y+b:Nat):Int):=by
  rw[wrap_d hx,wrap_d hy,wrap_d (by unfold B;omega),IntKind.wrap_u64,IntKind.wrap_u64];unfold B at *; omega
 have HH:Hid (IntKind.u64.wrap (IntKind.u64.wrap (IntKind.u64.wrap (x:Int)+IntKind.u64.wrap (y:Int))+IntKind.u64.wrap (b:Int))=((x+y+b:Nat):Int)):=h1
 have Hb:Hid (b≤1):=hb
 clear h1 hb
 go_enter Tryz.func178,Tryz.ntmps178
 go_wp2
 go_ret2
 have hb:=Hb.out
 rw[HH.out,show((x+y+b:Nat):Int) % 4294967296=(((x+y+b) % B:Nat):Int) by unfold B at *; omega,show((x+y+b:Nat):Int) / 4294967296 % 4294967296=(((x+y+b) / B:Nat):Int) by unfold B at *; omega]
 exact⟨rfl,rfl⟩
theorem add_round {w wr:World} {n x y j:Nat} {q:Int} (hM:Mk w wr (n+1) (fun t=>if t<j then dg (x+y) t else 0)) (hq:q=(addc x y j+dg x j+dg y j:Nat)) (hj:j<n) :
  (∃ j_1:Nat,j_1≤n∧Value.int .u64 (q / 4294967296)=Value.int .u64 (addc x y j_1:Nat)∧Value.int .i64 ((j:Int)+1)=Value.int .i64 (j_1:Int) ∧
   Mk w (wr.setCell ⟨w.heap.size,j,none⟩ (Value.int .u32 (q % 4294967296))) (n+1) fun t=>if t<j_1 then dg (x+y) t else 0) ∧
  n - (intOf (Value.int .i64 ((j:Int)+1))).toNat<n - (intOf (Value.int .i64 (j:Int))).toNat:=by
 have e1:q / 4294967296=(addc x y (j+1):Nat):=by rw[addc_succ,hq];unfold B;omega
 have e2:q % 4294967296=(dg (x+y) j:Nat):=by rw[dg_add,hq];unfold B;omega
 rw[e1,e2]
 refine⟨⟨j+1,by omega,rfl,by simp,(hM.set j _).congr fun i hi=>?_⟩,by simp[intOf];omega⟩
 by_cases e:i=j
 ·subst e
  rw[if_pos rfl,if_pos (by omega)]
 ·rw[if_neg e]
  by_cases e2:i<j
  ·rw[if_pos e2,if_pos (by omega)]
  ·rw[if_neg e2,if_neg (by omega)]
theorem add_len {x y n:Nat} (hx:dlen x=n) (hy:dlen y≤n):dlen (x+y)≤n+1:=by
 rw[dlen_le,Bpow_succ]
 have h1:=lt_dlen x
 have h2:=(dlen_le n y).1 hy
 rw[hx] at h1
 have:B^n*2≤B^n*B:=Nat.mul_le_mul_left _ (by unfold B;omega)
 omega
theorem add_end {w wr:World} {n x y:Nat} {q:Int} (hx:dlen x=n) (hy:dlen y≤n) (hM:Mk w wr (n+1) (fun t=>if t<n then dg (x+y) t else 0)) (hq:q=(addc x y n:Nat)) :
  Mk w (wr.setCell ⟨w.heap.size,n,none⟩ (Value.int .u32 q)) (n+1) (dg (x+y)):=by
 subst hq
 refine(hM.set n _).congr fun i hi=>?_
 by_cases e:i=n
 ·subst e
  rw[if_pos rfl,dg_add,dg_past (x:=x) (by omega),dg_past hy,Nat.add_zero,Nat.mod_eq_of_lt]
  have:=addc_le x y i
  unfold B;omega
 ·rw[if_neg e,if_pos (by omega)]
theorem c122_1 (ao bo:Option Addr) (ba oa bb ob na nb ca cb x y:Nat) (w:World) (ha:0<na→ao=some ⟨ba,oa,none⟩) (hb:0<nb→bo=some ⟨bb,ob,none⟩) (hna:na≤35184372088832) (hx:dlen x=na) (hy:dlen y=nb) (hle:nb≤na)
  (hca:∀ i,i<na→w.cell? ⟨ba,oa+i,none⟩=some (.int .u32 (dg x i:Nat))) (hcb:∀ i,i<nb→w.cell? ⟨bb,ob+i,none⟩=some (.int .u32 (dg y i:Nat))) :
  Calls Tryz.prog 146 #[.slice ao na ca,.slice bo nb cb] w fun e w'=>∃ v,e=.returned v∧Own w' w.heap.size v (x+y)∧Bw w w':=by
 have hmk:=run_make_row' (P:=Tryz.prog) 37 68 (.int .u32 0) 4 Tryz.underlying37 Tryz.info68 rfl .i64 .i64 (na+1) (by omega) (by omega)
 rw[show((na+1:Nat):Int)=(na:Int)+1 by omega] at hmk
 have HX:Hid (dlen x=na):=hx
 have HY:Hid (dlen y=nb):=hy
 have hlt:¬ (na:Int)<(nb:Int):=by omega
 clear hx hy
 go_enter Tryz.func146,Tryz.ntmps146
 go_wp2
 clear hmk
 go_loopw [6,22] (fun c i wr=>∃ j:Nat,j≤na∧c=.int .u64 (addc x y j:Nat)∧i=.int .i64 j∧Mk w wr (na+1) (fun t=>if t<j then dg (x+y) t else 0)) (fun _ i _=>na - (intOf i).toNat)
 case atStart=>exact⟨0,Nat.zero_le _,by rw[addc_zero];rfl,rfl,(Mk.start w _).congr fun i hi=>by rw[if_neg (by omega)]⟩
 case round =>
  obtain⟨j,hj,rfl,rfl,hM⟩:=hrel
  by_cases hja:j<na
  ·obtain rfl:=ha (by omega)
   have g1:=hM.old (hca j hja)
   have g2:=hM.cell (i:=j) (by omega)
   have g3:=hM.frozen j
   rw[if_neg (by omega)] at g2
   have hji:(j:Int)<(na:Int):=by omega
   have HM:Hid (Mk w wr (na+1) (fun t=>if t<j then dg (x+y) t else 0)):=hM
   have HL:Hid (dg x j<B∧dg y j<B∧addc x y j≤1):=⟨dg_lt _ _,dg_lt _ _,addc_le _ _ _⟩
   by_cases hjb:j<nb
   ·obtain rfl:=hb (by omega)
    have g4:=hM.old (hcb j hjb)
    have hji2:(j:Int)<(nb:Int):=by omega
    generalize hd:dg x j=d at *
    generalize hd1:dg y j=d1 at *
    generalize hc:addc x y j=c at *
    have HD:Hid (dg x j=d∧dg y j=d1∧addc x y j=c):=⟨hd,hd1,hc⟩
    clear hd hd1 hc hM hca hcb
    go_wp2
    refine add_round HM.out ?_ hja
    obtain⟨l1,l2,l3⟩:=HL.out
    obtain⟨d1,d2,d3⟩:=HD.out
    rw[d1,d2,d3,wrap_d l1,wrap_d l2,IntKind.wrap_u64,IntKind.wrap_u64]
    unfold B at l1 l2
    omega
   ·have hji2:¬ (j:Int)<(nb:Int):=by omega
    generalize hd:dg x j=d at *
    generalize hc:addc x y j=c at *
    have HD:Hid (dg x j=d∧addc x y j=c):=⟨hd,hc⟩
    clear hd hc hM hca hcb
    have HZ:Hid (dg y j=0):=dg_past (by rw[HY.out];omega)
    go_wp2
    refine add_round HM.out ?_ hja
    obtain⟨l1,l2,l3⟩:=HL.out
    obtain⟨d1,d3⟩:=HD.out
    rw[d1,d3,HZ.out,wrap_d l1,IntKind.wrap_u64]
    unfold B at l1
    omega
  ·obtain rfl:j=na:=by omega
   have g2:=hM.cell (i:=j) (by omega)
   have g3:=hM.frozen j
   rw[if_neg (by omega)] at g2
   have hcl:=addc_le x y j
   have hE:=add_end (q:=(addc x y j:Nat)) HX.out (by rw[HY.out];omega) hM rfl
   have hA:=hE.at
   have hL:=add_len HX.out (y:=y) (by rw[HY.out];omega)
   generalize addc x y j=c at *
   have hc:(c:Int) % 4294967296=c:=by omega
   have HC:Hid (Mk w (wr.setCell ⟨w.heap.size,j,none⟩ (Value.int .u32 (c:Nat))) (j+1) (dg (x+y))):=hE
   clear hM hca hcb hE
   go_wp2_with (first|(go_at_call 139;refine(c62 _ _ _ (x+y) _ hL (Nat.le_refl _) (by omega) hA).mono ?_;rintro e w' ⟨rfl,rfl⟩))
   go_ret
   exact⟨_,rfl,HC.out.own hL (by omega),HC.out.below⟩
theorem c122_2 (ao bo:Option Addr) (ba oa bb ob na nb ca cb x y:Nat) (w:World) (ha:0<na→ao=some ⟨ba,oa,none⟩) (hb:0<nb→bo=some ⟨bb,ob,none⟩) (hna:na≤35184372088832) (hx:dlen x=na) (hy:dlen y=nb) (hle:nb<na)
  (hca:∀ i,i<na→w.cell? ⟨ba,oa+i,none⟩=some (.int .u32 (dg x i:Nat))) (hcb:∀ i,i<nb→w.cell? ⟨bb,ob+i,none⟩=some (.int .u32 (dg y i:Nat))) :
  Calls Tryz.prog 146 #[.slice bo nb cb,.slice ao na ca] w fun e w'=>∃ v,e=.returned v∧Own w' w.heap.size v (x+y)∧Bw w w':=by
 have hmk:=run_make_row' (P:=Tryz.prog) 37 68 (.int .u32 0) 4 Tryz.underlying37 Tryz.info68 rfl .i64 .i64 (na+1) (by omega) (by omega)
 rw[show((na+1:Nat):Int)=(na:Int)+1 by omega] at hmk
 have HX:Hid (dlen x=na):=hx
 have HY:Hid (dlen y=nb):=hy
 have hlt:(nb:Int)<(na:Int):=by omega
 clear hx hy
 go_enter Tryz.func146,Tryz.ntmps146
 go_wp2
 clear hmk
 go_loopw [6,22] (fun c i wr=>∃ j:Nat,j≤na∧c=.int .u64 (addc x y j:Nat)∧i=.int .i64 j∧Mk w wr (na+1) (fun t=>if t<j then dg (x+y) t else 0)) (fun _ i _=>na - (intOf i).toNat)
 case atStart=>exact⟨0,Nat.zero_le _,by rw[addc_zero];rfl,rfl,(Mk.start w _).congr fun i hi=>by rw[if_neg (by omega)]⟩
 case round =>
  obtain⟨j,hj,rfl,rfl,hM⟩:=hrel
  by_cases hja:j<na
  ·obtain rfl:=ha (by omega)
   have g1:=hM.old (hca j hja)
   have g2:=hM.cell (i:=j) (by omega)
   have g3:=hM.frozen j
   rw[if_neg (by omega)] at g2
   have hji:(j:Int)<(na:Int):=by omega
   have HM:Hid (Mk w wr (na+1) (fun t=>if t<j then dg (x+y) t else 0)):=hM
   have HL:Hid (dg x j<B∧dg y j<B∧addc x y j≤1):=⟨dg_lt _ _,dg_lt _ _,addc_le _ _ _⟩
   by_cases hjb:j<nb
   ·obtain rfl:=hb (by omega)
    have g4:=hM.old (hcb j hjb)
    have hji2:(j:Int)<(nb:Int):=by omega
    generalize hd:dg x j=d at *
    generalize hd1:dg y j=d1 at *
    generalize hc:addc x y j=c at *
    have HD:Hid (dg x j=d∧dg y j=d1∧addc x y j=c):=⟨hd,hd1,hc⟩
    clear hd hd1 hc hM hca hcb
    go_wp2
    refine add_round HM.out ?_ hja
    obtain⟨l1,l2,l3⟩:=HL.out
    obtain⟨d1,d2,d3⟩:=HD.out
    rw[d1,d2,d3,wrap_d l1,wrap_d l2,IntKind.wrap_u64,IntKind.wrap_u64]
    unfold B at l1 l2
    omega
   ·have hji2:¬ (j:Int)<(nb:Int):=by omega
    generalize hd:dg x j=d at *
    generalize hc:addc x y j=c at *
    have HD:Hid (dg x j=d∧addc x y j=c):=⟨hd,hc⟩
    clear hd hc hM hca hcb
    have HZ:Hid (dg y j=0):=dg_past (by rw[HY.out];omega)
    go_wp2
    refine add_round HM.out ?_ hja
    obtain⟨l1,l2,l3⟩:=HL.out
    obtain⟨d1,d3⟩:=HD.out
    rw[d1,d3,HZ.out,wrap_d l1,IntKind.wrap_u64]
    unfold B at l1
    omega
  ·obtain rfl:j=na:=by omega
   have g2:=hM.cell (i:=j) (by omega)
   have g3:=hM.frozen j
   rw[if_neg (by omega)] at g2
   have hcl:=addc_le x y j
   have hE:=add_end (q:=(addc x y j:Nat)) HX.out (by rw[HY.out];omega) hM rfl
   have hA:=hE.at
   have hL:=add_len HX.out (y:=y) (by rw[HY.out];omega)
   generalize addc x y j=c at *
   have hc:(c:Int) % 4294967296=c:=by omega
   have HC:Hid (Mk w (wr.setCell ⟨w.heap.size,j,none⟩ (Value.int .u32 (c:Nat))) (j+1) (dg (x+y))):=hE
   clear hM hca hcb hE
   go_wp2_with (first|(go_at_call 139;refine(c62 _ _ _ (x+y) _ hL (Nat.le_refl _) (by omega) hA).mono ?_;rintro e w' ⟨rfl,rfl⟩))
   go_ret
   exact⟨_,rfl,HC.out.own hL (by omega),HC.out.below⟩
theorem c122 {u v:Value} {x y:Nat} {w:World} (h1:Is w u x) (h2:Is w v y) (hx:dlen x≤35184372088832) (hy:dlen y≤35184372088832) :
  Calls Tryz.prog 146 #[u,v] w fun e w'=>∃ v,e=.returned v∧Own w' w.heap.size v (x+y)∧Bw w w':=by
 obtain⟨ao,ca,rfl,a1,a2,ba,oa,a3,a4⟩:=h1
 obtain⟨bo,cb,rfl,b1,b2,bb,ob,b3,b4⟩:=h2
 by_cases h:dlen y≤dlen x
 ·exact c122_1 ao bo ba oa bb ob _ _ ca cb x y w a3 b3 hx rfl rfl h a4 b4
 ·rw[Nat.add_comm]
  exact c122_2 bo ao bb ob ba oa _ _ cb ca y x w b3 a3 hy rfl rfl (by omega) b4 a4
theorem bl_bitLen (x:Nat):bl x=bitLen x:=by unfold bl bitLen;rfl
theorem len_fin (x k p:Nat) (y:Int) (hk:k≤56) (hp:2^k=p) (hy:y.toNat=x / p) (hy0:x / p≠0) (hy1:x / p<256):wrap64 ((k:Int)+wrap64 (bitLen y.toNat:Int))=(bitLen x:Int):=by
 have e:=bitLen_shift x k (by rw[hp];exact hy0)
 have l:=bitLen_le8 (x / p) hy1
 rw[hp] at e
 rw[hy,e]
 generalize bitLen (x / p)=a at *
 unfold wrap64
 omega
theorem len_fin0 (x:Nat) (hx:x<256):wrap64 (wrap64 (bitLen (x:Int).toNat:Int))=(bitLen x:Int):=by
 have l:=bitLen_le8 x hx
 rw[Int.toNat_natCast]
 generalize bitLen x=a at *
 unfold wrap64
 omega
theorem c127 (x:Nat) (hx:x<B) (w:World) :
  Calls Tryz.prog 135 #[.int .u32 x] w fun e w'=>e=.returned (.int .i64 (bl x:Nat))∧w'=w:=by
 rw[bl_bitLen]
 obtain⟨X,hX⟩:∃ X:Int,X=(x:Int):=⟨_,rfl⟩
 rw[←hX]
 have hX0:0≤X:=by omega
 have hX1:Hid (X<4294967296):=(by unfold B at hx;omega:X<4294967296)
 have hX':Hid (X=(x:Int)):=hX
 clear hX hx
 go_enter Tryz.func135,Tryz.ntmps135
 go_wp2
 all_goals go_ret
 all_goals (refine⟨congrArg Ending.returned (congrArg (Value.int IntKind.i64) ?_),rfl⟩)
 all_goals have h1:=hX1.out
 all_goals have h2:=hX'.out
 all_goals clear hX1 hX'
 all_goals subst h2
 all_goals rw[len8tab_get]
 ·exact len_fin x 24 16777216 _ (by decide) (by decide) (by omega) (by omega) (by omega)
 ·exact len_fin x 16 65536 _ (by decide) (by decide) (by omega) (by omega) (by omega)
 ·exact len_fin x 8 256 _ (by decide) (by decide) (by omega) (by omega) (by omega)
 ·exact len_fin0 x (by omega)
theorem c158x (x k idx:Nat) (w:World) (hx0:((x:Int)==0)=false)
  (key:bits BinOp.and IntKind.u32 (x:Int) (-(x:Int) % 4294967296)*125613361 % 4294967296 / 134217728=(idx:Int))
  (hi:idx<32) (hk:k<32) (hcell:w.cell? ⟨2,idx,none⟩=some (.int .u8 k)) :
  Calls Tryz.prog 169 #[.int .u32 x] w fun e w'=>e=.returned (.int .i64 k)∧w'=w:=by
 go_enter Tryz.func169,Tryz.ntmps169
 go_wp2_with (simp only[key])
 go_ret
 exact⟨rfl,rfl⟩
def Tab32 (w:World):Prop:=∀ i,i<32→w.cell? ⟨2,i,none⟩=some (.int .u8 (Lib.deBruijn32tab.getD i 0:Nat))
theorem Tab32.later {w w':World} (h:Tab32 w) (hb:Bw w w'):Tab32 w':=fun i hi=>(hb.cell (World.block_lt_of_cell? _ _ (h i hi))).trans (h i hi)
theorem tz_ctz {x n:Nat} (h0:x≠0) (h:x<2^n):Lib.ctz n x=tz x:=by
 obtain⟨m,hm,hk⟩:=Lib.ctzFrom_spec n x (by omega) h
 have e:Lib.ctz n x=Lib.ctzFrom n x:=by simp[Lib.ctz,h0]
 rw[e]
 conv=>rhs;rw[hm]
 rw[tz_pow _ _ (by omega)]
theorem c158 (x:Nat) (hx:x<B) (hx0:x≠0) (w:World) (hT:Tab32 w) :
  Calls Tryz.prog 169 #[.int .u32 x] w fun e w'=>e=.returned (.int .i64 (tz x:Nat))∧w'=w:=by
 rw[←tz_ctz (n:=32) hx0 hx]
 obtain⟨hlow,hk⟩:=Lib.lowest_bit 32 x hx0 hx
 obtain⟨hi,htab⟩:=Lib.deBruijn32_at _ hk
 have hcell:=hT _ hi
 rw[htab] at hcell
 refine c158x x _ _ w (by simp;omega) ?_ hi hk hcell
 have hlow':x &&& (4294967296 - x)=2^Lib.ctz 32 x:=hlow
 unfold B at hx
 have e1 : -(x:Int) % 4294967296=((4294967296 - x:Nat):Int):=by omega
 rw[e1,u32_and_nat x _ hx (by omega),hlow']
 generalize 2^Lib.ctz 32 x=a
 omega
theorem bl_le32 {x:Nat} (hx:x<B):bl x≤32:=(bl_le x 32).2 hx
theorem c147 (x:Nat) (hx:x<B) (w:World) :
  Calls Tryz.prog 137 #[.int .u32 x] w fun e w'=>e=.returned (.int .i64 (32 - bl x:Nat))∧w'=w:=by
 have k:=c127 x hx
 have hl:=bl_le32 hx
 have hl2:((32 - bl x:Nat):Int)=32 - (bl x:Int):=by omega
 rw[hl2]
 clear hx hl2
 generalize bl x=b at *
 go_enter Tryz.func137,Tryz.ntmps137
 go_wp2_with (first|(go_at_call 135;refine(k _).mono ?_;rintro e w' ⟨rfl,rfl⟩))
 go_ret
 exact⟨rfl,rfl⟩
theorem c74_0 (ao:Option Addr) (cap:Nat) (w:World):Calls Tryz.prog 97 #[.slice ao 0 cap] w fun e w'=>e=.returned (.int .i64 0)∧w'=w:=by
 go_enter Tryz.func97,Tryz.ntmps97
 go_wp2
 go_ret
 exact⟨rfl,rfl⟩
theorem c74_1 (b o n cap d l:Nat) (w:World) (hn:n≤35184372088832) (hl:l≤32) (hc:w.cell? ⟨b,o+n,none⟩=some (.int .u32 d))
  (k127:∀ w,Calls Tryz.prog 135 #[.int .u32 d] w fun e w'=>e=.returned (.int .i64 l)∧w'=w) :
  Calls Tryz.prog 97 #[.slice (some ⟨b,o,none⟩) (n+1) cap] w fun e w'=>e=.returned (.int .i64 (32*n+l:Nat))∧w'=w:=by
 go_enter Tryz.func97,Tryz.ntmps97
 go_wp2_with (first|(go_at_call 135;refine(k127 _).mono ?_;rintro e w' ⟨rfl,rfl⟩))
 go_ret
 refine⟨congrArg Ending.returned (congrArg (Value.int IntKind.i64) ?_),rfl⟩
 omega
theorem c74 {v:Value} {x:Nat} {w:World} (h:Is w v x) (hx:dlen x≤35184372088832):Calls Tryz.prog 97 #[v] w fun e w'=>e=.returned (.int .i64 (bl x:Nat))∧w'=w:=by
 obtain⟨ao,cap,rfl,h1,h2,b,o,h3,h4⟩:=h
 by_cases h0:x=0
 ·subst h0
  rw[dlen_zero]
  exact c74_0 ao cap w
 ·have hp:=dlen_pos h0
  obtain rfl:=h3 (by omega)
  rw[bl_top h0]
  have h5:=h4 (dlen x - 1) (by omega)
  have:=c74_1 b o (dlen x - 1) cap _ _ w (by omega) (bl_le32 (dg_lt x (dlen x - 1))) h5 (fun w=>c127 _ (dg_lt _ _) w)
  rw[show dlen x - 1+1=dlen x by omega] at this
  exact this
theorem c119_1 (b o n cap x:Nat) (w:World) (hn:n≤35184372088832) (hn1:dlen x=n) (hx0:x≠0) (hT:Tab32 w) (hcell:∀ i,i<n→w.cell? ⟨b,o+i,none⟩=some (.int .u32 (dg x i:Nat))) :
  Calls Tryz.prog 142 #[.slice (some ⟨b,o,none⟩) n cap] w fun e w'=>e=.returned (.int .i64 (tz x:Nat))∧w'=w:=by
 have HN:Hid (dlen x=n∧x≠0):=⟨hn1,hx0⟩
 clear hn1 hx0
 go_enter Tryz.func142,Tryz.ntmps142
 go_wp2
 go_loop [3] (fun i=>∃ j:Nat,j<n∧i=.int .i64 j∧Hid (x % B^j=0)) (fun i=>n - (intOf i).toNat)
 case atStart=>exact⟨0,Nat.pos_of_ne_zero fun h=>HN.out.2 (dlen_eq_zero.1 (HN.out.1.trans h)),rfl,(Nat.mod_one x:x % B^0=0)⟩
 case round =>
  obtain⟨j,hj,rfl,hm⟩:=hrel
  have g:=hcell j hj
  have hl:=dg_lt x j
  generalize hd:dg x j=d at *
  have HD:Hid (dg x j=d):=hd
  have k158:=fun h=>c158 d hl h w hT
  clear hcell hT hd hl
  by_cases hd0:d=0
  ·subst hd0
   clear k158
   have HM:Hid (x % B^(j+1)=0):=(by rw[mod_succ,hm.out,HD.out,Nat.mul_zero]:x % B^(j+1)=0)
   have hlt:j+1<n:=by
    refine Nat.lt_of_not_le fun h=>?_
    have h1:=(dlen_le (j+1) x).1 (by rw[HN.out.1];exact h)
    have h2:=HM.out
    rw[Nat.mod_eq_of_lt h1] at h2
    exact HN.out.2 h2
   go_wp2
   exact⟨⟨j+1,hlt,by simp,HM⟩,by simp[intOf];omega⟩
  ·have hd1:((d:Int)==0)=false:=by simp;exact hd0
   have k:=k158 hd0
   clear k158
   have ht:tz x=32*j+tz d:=by rw[tz_digit hm.out (by rw[HD.out];exact hd0),HD.out]
   have hle:tz d≤32:=by
    have h1:d<2^32:=HD.out ▸ dg_lt x j
    rw[←tz_ctz (n:=32) hd0 h1]
    have:=(Lib.lowest_bit 32 d hd0 h1).2
    omega
   generalize tz d=t at *
   have HT:Hid (tz x=32*j+t):=ht
   clear ht
   go_wp2_with (first|(go_at_call 169;refine k.mono ?_;rintro e w' ⟨rfl,rfl⟩))
   go_ret
   refine⟨congrArg Ending.returned (congrArg (Value.int IntKind.i64) ?_),rfl⟩
   rw[HT.out]
   omega
theorem c119 {v:Value} {x:Nat} {w:World} (h:Is w v x) (hx:dlen x≤35184372088832) (hx0:x≠0) (hT:Tab32 w):Calls Tryz.prog 142 #[v] w fun e w'=>e=.returned (.int .i64 (tz x:Nat))∧w'=w:=by
 obtain⟨ao,cap,rfl,h1,h2,b,o,h3,h4⟩:=h
 have hp:=dlen_pos hx0
 obtain rfl:=h3 (by omega)
 exact c119_1 b o _ cap x w hx rfl hx0 hT h4
theorem sub_round {w wr:World} {n x y j r s:Nat} (hM:Mk w wr n (fun t=>if t<j then dg (x - y) t else 0)) (hr:r=dg (x - y) j) (hs:s=subb x y (j+1)) (hj:j<n) :
  (∃ j_1:Nat,j_1≤n∧Value.int .u32 (s:Nat)=Value.int .u32 (subb x y j_1:Nat)∧Value.int .i64 ((j:Int)+1)=Value.int .i64 (j_1:Int) ∧
   Mk w (wr.setCell ⟨w.heap.size,j,none⟩ (Value.int .u32 (r:Nat))) n fun t=>if t<j_1 then dg (x - y) t else 0) ∧
  n - (intOf (Value.int .i64 ((j:Int)+1))).toNat<n - (intOf (Value.int .i64 (j:Int))).toNat:=by
 subst hr hs
 refine⟨⟨j+1,by omega,rfl,by simp,(hM.set j _).congr fun i hi=>?_⟩,by simp[intOf];omega⟩
 by_cases e:i=j
 ·subst e
  rw[if_pos rfl,if_pos (by omega)]
 ·rw[if_neg e]
  by_cases e2:i<j
  ·rw[if_pos e2,if_pos (by omega)]
  ·rw[if_neg e2,if_neg (by omega)]
theorem c138_1 (ao bo:Option Addr) (ba oa bb ob na nb ca cb x y:Nat) (w:World) (ha:0<na→ao=some ⟨ba,oa,none⟩) (hb:0<nb→bo=some ⟨bb,ob,none⟩) (hna:na≤35184372088832) (hx:dlen x=na) (hy:dlen y=nb) (hle:y≤x)
  (hca:∀ i,i<na→w.cell? ⟨ba,oa+i,none⟩=some (.int .u32 (dg x i:Nat))) (hcb:∀ i,i<nb→w.cell? ⟨bb,ob+i,none⟩=some (.int .u32 (dg y i:Nat))) :
  Calls Tryz.prog 148 #[.slice ao na ca,.slice bo nb cb] w fun e w'=>∃ v,e=.returned v∧Own w' w.heap.size v (x - y)∧Bw w w':=by
 have hmk:=run_make_row' (P:=Tryz.prog) 37 68 (.int .u32 0) 4 Tryz.underlying37 Tryz.info68 rfl .i64 .i64 na (by omega) (by omega)
 have HX:Hid (dlen x=na):=hx
 have HY:Hid (dlen y=nb):=hy
 have HLE:Hid (y≤x):=hle
 have hnb:nb≤na:=by have:=dlen_mono hle;omega
 have HWS:Hid (wsub x y na=x - y):=wsub_of_le (by rw[←hx];exact lt_dlen x) hle
 clear hx hy hle
 go_enter Tryz.func148,Tryz.ntmps148
 go_wp2
 clear hmk
 go_loopw [6,15] (fun c i wr=>∃ j:Nat,j≤na∧c=.int .u32 (subb x y j:Nat)∧i=.int .i64 j∧Mk w wr na (fun t=>if t<j then dg (x - y) t else 0)) (fun _ i _=>na - (intOf i).toNat)
 case atStart=>exact⟨0,Nat.zero_le _,by rw[subb_zero];rfl,rfl,(Mk.start w _).congr fun i hi=>by rw[if_neg (by omega)]⟩
 case round =>
  obtain⟨j,hj,rfl,rfl,hM⟩:=hrel
  by_cases hja:j<na
  ·obtain rfl:=ha (by omega)
   have g1:=hM.old (hca j hja)
   have g2:=hM.cell (i:=j) (by omega)
   have g3:=hM.frozen j
   rw[if_neg (by omega)] at g2
   have hji:(j:Int)<(na:Int):=by omega
   have HM:Hid (Mk w wr na (fun t=>if t<j then dg (x - y) t else 0)):=hM
   have k174:=fun w=>c174 (dg_lt x j) (dg_lt y j) (subb_le x y j) w
   have e1:(dg x j+B+B - dg y j - subb x y j) % B=dg (x - y) j:=by rw[←HWS.out,dg_wsub hja]
   have e2:=(subb_succ x y j).symm
   rw[e1,e2] at k174
   by_cases hjb:j<nb
   ·obtain rfl:=hb (by omega)
    have g4:=hM.old (hcb j hjb)
    have hji2:(j:Int)<(nb:Int):=by omega
    generalize dg x j=d at *
    generalize dg y j=d1 at *
    generalize subb x y j=c at *
    generalize hr:dg (x - y) j=r at *
    generalize hs:subb x y (j+1)=s at *
    have HD:Hid (r=dg (x - y) j∧s=subb x y (j+1)):=⟨hr.symm,hs.symm⟩
    clear hM hca hcb hr hs e1 e2
    go_wp2_with (first|(go_at_call 172;refine(k174 _).mono ?_;rintro e w' ⟨rfl,rfl⟩))
    exact sub_round HM.out HD.out.1 HD.out.2 hja
   ·have hji2:¬ (j:Int)<(nb:Int):=by omega
    rw[dg_past (x:=y) (i:=j) (by rw[HY.out];omega)] at k174
    generalize dg x j=d at *
    generalize subb x y j=c at *
    generalize hr:dg (x - y) j=r at *
    generalize hs:subb x y (j+1)=s at *
    have HD:Hid (r=dg (x - y) j∧s=subb x y (j+1)):=⟨hr.symm,hs.symm⟩
    clear hM hca hcb hr hs e1 e2
    go_wp2_with (first|(go_at_call 172;refine(k174 _).mono ?_;rintro e w' ⟨rfl,rfl⟩))
    exact sub_round HM.out HD.out.1 HD.out.2 hja
  ·obtain rfl:j=na:=by omega
   have hE:Mk w wr j (dg (x - y)):=hM.congr fun i hi=>if_pos hi
   have hA:=hE.at
   have hL:dlen (x - y)≤j:=by rw[←HX.out];exact dlen_mono (Nat.sub_le ..)
   have HC:Hid (Mk w wr j (dg (x - y))):=hE
   clear hM hca hcb hE
   generalize subb x y j=c at *
   go_wp2_with (first|(go_at_call 139;refine(c62 _ _ _ (x - y) _ hL (Nat.le_refl _) (by omega) hA).mono ?_;rintro e w' ⟨rfl,rfl⟩))
   go_ret
   exact⟨_,rfl,HC.out.own hL (by omega),HC.out.below⟩
theorem c138 {u v:Value} {x y:Nat} {w:World} (h1:Is w u x) (h2:Is w v y) (hx:dlen x≤35184372088832) (hle:y≤x) :
  Calls Tryz.prog 148 #[u,v] w fun e w'=>∃ v,e=.returned v∧Own w' w.heap.size v (x - y)∧Bw w w':=by
 obtain⟨ao,ca,rfl,a1,a2,ba,oa,a3,a4⟩:=h1
 obtain⟨bo,cb,rfl,b1,b2,bb,ob,b3,b4⟩:=h2
 exact c138_1 ao bo ba oa bb ob _ _ ca cb x y w a3 b3 hx rfl rfl hle a4 b4
def cmpI (x y:Int):Int:=if x<y then -1 else if y<x then 1 else 0
theorem c162 (x:Int) (w:World):Calls Tryz.prog 176 #[.int .i64 x] w fun e w'=>e=.returned (.bool false)∧w'=w:=by
 go_enter Tryz.func176,Tryz.ntmps176
 go_wp2
 go_ret
 exact⟨by simp,rfl⟩
theorem c182 (x:Int) (w:World):Calls Tryz.prog 177 #[.int .u32 x] w fun e w'=>e=.returned (.bool false)∧w'=w:=by
 go_enter Tryz.func177,Tryz.ntmps177
 go_wp2
 go_ret
 exact⟨by simp,rfl⟩
theorem c128 (x y:Int) (w:World):Calls Tryz.prog 164 #[.int .i64 x,.int .i64 y] w fun e w'=>e=.returned (.int .i64 (cmpI x y))∧w'=w:=by
 go_enter Tryz.func164,Tryz.ntmps164
 go_wp2_with (first|(go_at_call 176;refine(c162 _ _).mono ?_;rintro e w' ⟨rfl,rfl⟩))
 all_goals go_ret
 all_goals refine⟨congrArg Ending.returned (congrArg (Value.int IntKind.i64) ?_),rfl⟩
 all_goals unfold cmpI
 ·rw[if_pos (by assumption)]
 ·rw[if_neg (by omega),if_pos (by omega)]
 ·rw[if_neg (by omega),if_neg (by omega)]
theorem c163 (x y:Int) (w:World):Calls Tryz.prog 165 #[.int .u32 x,.int .u32 y] w fun e w'=>e=.returned (.int .i64 (cmpI x y))∧w'=w:=by
 go_enter Tryz.func165,Tryz.ntmps165
 go_wp2_with (first|(go_at_call 177;refine(c182 _ _).mono ?_;rintro e w' ⟨rfl,rfl⟩))
 all_goals go_ret
 all_goals refine⟨congrArg Ending.returned (congrArg (Value.int IntKind.i64) ?_),rfl⟩
 all_goals unfold cmpI
 ·rw[if_pos (by assumption)]
 ·rw[if_neg (by omega),if_pos (by omega)]
 ·rw[if_neg (by omega),if_neg (by omega)]
theorem c129_1 (ao bo:Option Addr) (na nb ca cb:Nat) (w:World) (h:na≠nb) :
  Calls Tryz.prog 136 #[.slice ao na ca,.slice bo nb cb] w fun e w'=>e=.returned (.int .i64 (cmpI na nb))∧w'=w:=by
 have h':((na:Int)==(nb:Int))=false:=by simp;omega
 have h'':((na:Int) != (nb:Int))=true:=by simp;omega
 have k:=c128 na nb
 generalize cmpI na nb=r at *
 go_enter Tryz.func136,Tryz.ntmps136
 go_wp2_with (first|(go_at_call 164;refine(k _).mono ?_;rintro e w' ⟨rfl,rfl⟩))
 go_ret
 exact⟨rfl,rfl⟩
theorem c129_2 (ao bo:Option Addr) (ba oa bb ob n ca cb x y:Nat) (w:World) (ha:0<n→ao=some ⟨ba,oa,none⟩) (hb:0<n→bo=some ⟨bb,ob,none⟩) (hn:n≤35184372088832) (hx:dlen x=n) (hy:dlen y=n)
  (hca:∀ i,i<n→w.cell? ⟨ba,oa+i,none⟩=some (.int .u32 (dg x i:Nat))) (hcb:∀ i,i<n→w.cell? ⟨bb,ob+i,none⟩=some (.int .u32 (dg y i:Nat))) :
  Calls Tryz.prog 136 #[.slice ao n ca,.slice bo n cb] w fun e w'=>e=.returned (.int .i64 (cmpI x y))∧∃ d,w'=w.drewN d:=by
 have h'':((n:Int) != (n:Int))=false:=by simp
 have HXY:Hid (dlen x=n∧dlen y=n):=⟨hx,hy⟩
 clear hx hy
 go_enter Tryz.func136,Tryz.ntmps136
 go_wp2
 go_loopw [5] (fun i wr=>∃ (j d:Nat),j≤n∧i=.int .i64 ((j:Int) - 1)∧wr=w.drewN d∧Hid (x / B^j=y / B^j)) (fun i _=>(intOf i+1).toNat)
 case atStart=>exact⟨n,0,Nat.le_refl _,rfl,rfl,(by rw[Nat.div_eq_of_lt ((dlen_le n x).1 (by rw[HXY.out.1];omega)),Nat.div_eq_of_lt ((dlen_le n y).1 (by rw[HXY.out.2];omega))]:x / B^n=y / B^n)⟩
 case round =>
  obtain⟨j,d,hj,rfl,rfl,hh⟩:=hrel
  by_cases hj0:j=0
  ·subst hj0
   have e:x=y:=by have:=hh.out;simpa using this
   have HE:Hid (cmpI x y=0):=(by subst e;unfold cmpI;simp:cmpI x y=0)
   clear hh e hca hcb
   go_wp2
   go_ret
   rw[HE.out]
   exact⟨rfl,d,rfl⟩
  ·obtain⟨i,rfl⟩:∃ i,j=i+1:=⟨j - 1,by omega⟩
   have hi:i<n:=by omega
   obtain rfl:=ha (by omega)
   obtain rfl:=hb (by omega)
   have g1:(w.drewN d).cell? ⟨ba,oa+i,none⟩=some (.int .u32 (dg x i:Nat)):=hca i hi
   have g2:(w.drewN d).cell? ⟨bb,ob+i,none⟩=some (.int .u32 (dg y i:Nat)):=hcb i hi
   have hii:(i:Int)<(n:Int):=by omega
   have ei:((i+1:Nat):Int) - 1=(i:Int):=by omega
   rw[ei]
   have k163:=c163 (dg x i:Nat) (dg y i:Nat)
   generalize hdx:dg x i=dx at *
   generalize hdy:dg y i=dy at *
   have HD:Hid (dg x i=dx∧dg y i=dy):=⟨hdx,hdy⟩
   clear hca hcb hdx hdy ei
   have HW:Hid (∃ d',w.drewN d=w.drewN d'):=⟨d,rfl⟩
   generalize w.drewN d=wd at *
   by_cases hne:dx=dy
   ·subst hne
    have t1:((dx:Int) != (dx:Int))=false:=by simp
    clear k163
    go_wp2
    go_quiet (fail)
    go_wp2
    obtain⟨d',rfl⟩:=HW.out
    exact⟨⟨i,_,by omega,rfl,World.drewN_drewN ..,(top_step hh.out (HD.out.1.trans HD.out.2.symm):x / B^i=y / B^i)⟩,by simp[intOf]⟩
   ·have t1:((dx:Int) != (dy:Int))=true:=by simp;omega
    have HC:Hid (cmpI x y=cmpI dx dy):=by
     have h1:=HD.out
     show cmpI x y=cmpI dx dy
     rcases Nat.lt_or_gt_of_ne hne with h2|h2
     ·have:=lt_of_top (i:=i) hh.out (by omega)
      unfold cmpI
      rw[if_pos (by omega),if_pos (by omega)]
     ·have:=lt_of_top (i:=i) hh.out.symm (by omega)
      unfold cmpI
      rw[if_neg (by omega),if_pos (by omega),if_neg (by omega),if_pos (by omega)]
    generalize cmpI dx dy=r at *
    go_wp2
    go_quiet (fail)
    go_wp2
    have HV:Hid (∃ d',wd.drewN nq=w.drewN d'):=by
     obtain⟨d',e⟩:=HW.out
     exact⟨_,by rw[e];exact World.drewN_drewN ..⟩
    have g1':(wd.drewN nq).cell? ⟨ba,oa+i,none⟩=some (.int .u32 (dx:Nat)):=g1
    have g2':(wd.drewN nq).cell? ⟨bb,ob+i,none⟩=some (.int .u32 (dy:Nat)):=g2
    generalize wd.drewN nq=wq at *
    go_quiet ((go_at_call 165;exact Calls.quiet_of_same (k163 _)))
    go_wp2
    go_ret
    obtain⟨d',e⟩:=HV.out
    rw[HC.out,e]
    exact⟨rfl,_,World.drewN_drewN ..⟩
theorem c129 {u v:Value} {x y:Nat} {w:World} (h1:Is w u x) (h2:Is w v y) (hx:dlen x≤35184372088832) (hy:dlen y≤35184372088832) :
  Calls Tryz.prog 136 #[u,v] w fun e w'=>e=.returned (.int .i64 (cmpI x y))∧∃ d,w'=w.drewN d:=by
 obtain⟨ao,ca,rfl,a1,a2,ba,oa,a3,a4⟩:=h1
 obtain⟨bo,cb,rfl,b1,b2,bb,ob,b3,b4⟩:=h2
 by_cases h:dlen x=dlen y
 ·rw[←h] at b3 b4 ⊢
  exact c129_2 ao bo ba oa bb ob _ ca cb x y w a3 b3 hx rfl h.symm a4 b4
 ·refine(c129_1 ao bo _ _ ca cb w h).mono ?_
  rintro e w' ⟨rfl,rfl⟩
  refine⟨congrArg Ending.returned (congrArg (Value.int IntKind.i64) ?_),0,rfl⟩
  unfold cmpI
  rcases Nat.lt_or_gt_of_ne h with h2|h2
  ·have:=lt_of_dlen h2
   rw[if_pos (by omega),if_pos (by omega)]
  ·have:=lt_of_dlen h2
   rw[if_neg (by omega),if_pos (by omega),if_neg (by omega),if_pos (by omega)]
end Go.Proofs.YtokklnjoalkjaaaGreatDoor
namespace Go.Proofs.YtokklnjoalkjaaaGreatDoor
def macc (p y a j:Nat):Nat:=(p % B^j+y % B^j*a) / B^j
theorem macc_zero (p y a:Nat):macc p y a 0=0:=by simp[macc,Nat.mod_one]
theorem macc_le (p y a j:Nat):macc p y a j≤a:=by
 have h1:=Nat.mod_lt p (Bpow_pos j)
 have h2:=Nat.mod_lt y (Bpow_pos j)
 unfold macc
 have h3:p % B^j+y % B^j*a<(a+1)*B^j:=by
  have:y % B^j*a≤B^j*a:=Nat.mul_le_mul_right _ (Nat.le_of_lt h2)
  rw[Nat.add_mul,Nat.one_mul,Nat.mul_comm a]
  omega
 have:=(Nat.div_lt_iff_lt_mul (Bpow_pos j)).2 h3
 omega
theorem macc_sum (p y a j:Nat):p % B^(j+1)+y % B^(j+1)*a=(p % B^j+y % B^j*a)+B^j*(dg p j+dg y j*a):=by
 rw[mod_succ,mod_succ];grind
theorem macc_succ (p y a j:Nat):macc p y a (j+1)=(macc p y a j+dg p j+dg y j*a) / B:=by
 unfold macc
 rw[macc_sum,Bpow_succ,←Nat.div_div_eq_div_mul,Nat.add_mul_div_left _ _ (Bpow_pos j),Nat.add_assoc]
theorem dg_macc (p y a j:Nat):dg (p+y*a) j=(macc p y a j+dg p j+dg y j*a) % B:=by
 have h:(p+y*a) / B^j=macc p y a j+(p / B^j+y / B^j*a):=by
  have h1:=div_split p j
  have h2:=div_split y j
  have:p+y*a=(p % B^j+y % B^j*a)+B^j*(p / B^j+y / B^j*a):=by
   conv=>lhs;rw[h1,h2]
   grind
  rw[this,Nat.add_mul_div_left _ _ (Bpow_pos j)];rfl
 unfold dg
 rw[h,Nat.add_assoc]
 have e1:(p / B^j+y / B^j*a) % B=(p / B^j % B+y / B^j % B*a) % B:=by
  rw[Nat.add_mod,Nat.mul_mod]
  conv=>rhs;rw[Nat.add_mod,Nat.mul_mod,Nat.mod_mod,Nat.mod_mod]
 rw[Nat.add_mod,e1,←Nat.add_mod]
theorem prod_step (x y i:Nat):x % B^(i+1)*y=x % B^i*y+B^i*(y*dg x i):=by rw[mod_succ];grind
theorem prod_div (x y i:Nat):x % B^(i+1)*y / B^i=x % B^i*y / B^i+y*dg x i:=by
 rw[prod_step,Nat.add_mul_div_left _ _ (Bpow_pos i)]
theorem prod_low {x y i t:Nat} (h:t<i):dg (x % B^(i+1)*y) t=dg (x % B^i*y) t:=by
 have h0:∀ z,dg z t=dg (z % B^i) t:=fun z=>(dg_mod h).symm
 rw[h0,h0 (x % B^i*y),prod_step,Nat.add_mul_mod_self_left]
theorem prod_mid (x y i j:Nat):dg (x % B^(i+1)*y) (i+j)=(macc (x % B^i*y / B^i) y (dg x i) j+dg (x % B^i*y) (i+j)+dg y j*dg x i) % B:=by
 rw[←dg_div,prod_div,dg_macc,dg_div]
theorem prod_lt (x y i:Nat):x % B^i*y<B^(i+dlen y):=by
 rw[Nat.pow_add]
 exact Nat.mul_lt_mul_of_lt_of_le (Nat.mod_lt _ (Bpow_pos i)) (Nat.le_of_lt (lt_dlen y)) (Bpow_pos _)
theorem prod_high {x y i t:Nat} (h:i+dlen y≤t):dg (x % B^i*y) t=0 :=
 dg_of_lt (Nat.lt_of_lt_of_le (prod_lt x y i) (Nat.pow_le_pow_right B_pos h))
theorem mac_fits {c f d e:Nat} (hc:c<B) (hf:f<B) (hd:d<B) (he:e<B):c+f+e*d<18446744073709551616∧e*d<18446744073709551616∧e*d+f<18446744073709551616:=by
 have:e*d≤4294967295*4294967295:=Nat.mul_le_mul (by unfold B at he;omega) (by unfold B at hd;omega)
 unfold B at *
 omega
end Go.Proofs.YtokklnjoalkjaaaGreatDoor
namespace Go.Proofs.YtokklnjoalkjaaaGreatDoor
open Go.RowKit
def mid (x y i j:Nat):Nat→Nat:=fun t=>if t<i+j then dg (x % B^(i+1)*y) t else dg (x % B^i*y) t
theorem mul_word {c f d e:Nat} (hc:c<B) (hf:f<B) (hd:d<B) (he:e<B) :
  IntKind.u64.wrap ((c:Int)+IntKind.u64.wrap (IntKind.u64.wrap (IntKind.u64.wrap (d:Int)*IntKind.u64.wrap (e:Int))+IntKind.u64.wrap (f:Int)))=((c+f+e*d:Nat):Int):=by
 obtain⟨h1,h2,h3⟩:=mac_fits hc hf hd he
 rw[wrap_d hd,wrap_d he,wrap_d hf,←Int.natCast_mul,Nat.mul_comm d e]
 generalize e*d=m at *
 rw[IntKind.wrap_u64,IntKind.wrap_u64,IntKind.wrap_u64]
 omega
theorem mul_round {w wr:World} {n nb x y i j f e c d:Nat} {q:Int} (hM:Mk w wr n (mid x y i j)) (hq:q=(c+f+e*d:Nat)) (hd:dg x i=d)
  (hE:dg (x % B^i*y) (i+j)=f∧dg y j=e∧macc (x % B^i*y / B^i) y d j=c) (hj:j<nb) :
  (∃ j_1:Nat,j_1≤nb∧Value.int .u64 (q / 4294967296)=Value.int .u64 (macc (x % B^i*y / B^i) y d j_1:Nat)∧Value.int .i64 ((j:Int)+1)=Value.int .i64 (j_1:Int) ∧
   Mk w (wr.setCell ⟨w.heap.size,i+j,none⟩ (Value.int .u32 (q % 4294967296))) n (mid x y i j_1)) ∧
  nb - (intOf (Value.int .i64 ((j:Int)+1))).toNat<nb - (intOf (Value.int .i64 (j:Int))).toNat:=by
 obtain⟨e1,e2,e3⟩:=hE
 have h1:q / 4294967296=(macc (x % B^i*y / B^i) y d (j+1):Nat):=by rw[macc_succ,dg_div,e1,e2,e3,hq];unfold B;omega
 have h2:q % 4294967296=(dg (x % B^(i+1)*y) (i+j):Nat):=by rw[prod_mid,hd,e1,e2,e3,hq];unfold B;omega
 rw[h1,h2]
 refine⟨⟨j+1,by omega,rfl,by simp,(hM.set (i+j) _).congr fun t ht=>?_⟩,by simp[intOf];omega⟩
 unfold mid
 by_cases e:t=i+j
 ·subst e
  rw[if_pos rfl,if_pos (by omega)]
 ·rw[if_neg e]
  by_cases e2:t<i+j
  ·rw[if_pos e2,if_pos (by omega)]
  ·rw[if_neg e2,if_neg (by omega)]
theorem mul_row {w wr:World} {na nb x y i d:Nat} {q:Int} (hM:Mk w wr (na+nb) (mid x y i nb)) (hy:dlen y=nb) (hd:dg x i=d) (hdl:d<B) (hq:q=(macc (x % B^i*y / B^i) y d nb:Nat) % 4294967296) (hi:i<na) :
  (∃ i_1:Nat,i_1≤na∧Value.int .i64 ((i:Int)+1)=Value.int .i64 (i_1:Int)∧Mk w (wr.setCell ⟨w.heap.size,i+nb,none⟩ (Value.int .u32 q)) (na+nb) (dg (x % B^i_1*y))) ∧
  na - (intOf (Value.int .i64 ((i:Int)+1))).toNat<na - (intOf (Value.int .i64 (i:Int))).toNat:=by
 have hl:=macc_le (x % B^i*y / B^i) y d nb
 have h2:q=(dg (x % B^(i+1)*y) (i+nb):Nat):=by
  rw[prod_mid,hd,prod_high (by omega),dg_past (x:=y) (by omega),hq,Nat.zero_mul]
  unfold B at *
  omega
 rw[h2]
 refine⟨⟨i+1,by omega,by simp,(hM.set (i+nb) _).congr fun t ht=>?_⟩,by simp[intOf];omega⟩
 unfold mid
 by_cases e:t=i+nb
 ·subst e
  rw[if_pos rfl]
 ·rw[if_neg e]
  by_cases e2:t<i+nb
  ·rw[if_pos e2]
  ·rw[if_neg e2,prod_high (by omega),prod_high (by omega)]
theorem c143_1 (ao bo:Option Addr) (ba oa bb ob na nb ca cb x y:Nat) (w:World) (ha:0<na→ao=some ⟨ba,oa,none⟩) (hb:0<nb→bo=some ⟨bb,ob,none⟩) (hna:na≤35184372088832) (hnb:nb≤35184372088832) (hx:dlen x=na) (hy:dlen y=nb)
  (hca:∀ i,i<na→w.cell? ⟨ba,oa+i,none⟩=some (.int .u32 (dg x i:Nat))) (hcb:∀ i,i<nb→w.cell? ⟨bb,ob+i,none⟩=some (.int .u32 (dg y i:Nat))) :
  Calls Tryz.prog 147 #[.slice ao na ca,.slice bo nb cb] w fun e w'=>∃ v,e=.returned v∧Own w' w.heap.size v (x*y)∧Bw w w':=by
 have hmk:=run_make_row' (P:=Tryz.prog) 37 68 (.int .u32 0) 4 Tryz.underlying37 Tryz.info68 rfl .i64 .i64 (na+nb) (by omega) (by omega)
 rw[show((na+nb:Nat):Int)=(na:Int)+nb by omega] at hmk
 have HX:Hid (dlen x=na):=hx
 have HY:Hid (dlen y=nb):=hy
 clear hx hy
 go_enter Tryz.func147,Tryz.ntmps147
 go_wp2
 clear hmk
 go_loopw [19] (fun c wr=>∃ i:Nat,i≤na∧c=.int .i64 i∧Mk w wr (na+nb) (dg (x % B^i*y))) (fun c _=>na - (intOf c).toNat)
 case atStart=>exact⟨0,Nat.zero_le _,rfl,(Mk.start w _).congr fun t ht=>by simp[Nat.mod_one,dg]⟩
 case round =>
  obtain⟨i,hi,rfl,hO⟩:=hrel
  by_cases hia:i<na
  ·obtain rfl:=ha (by omega)
   have g1:=hO.old (hca i hia)
   have hii:(i:Int)<(na:Int):=by omega
   have HO:Hid (Mk w wr (na+nb) (dg (x % B^i*y))):=hO
   generalize hd:dg x i=d at *
   have HD:Hid (dg x i=d):=hd
   have HDL:Hid (d<B):=hd ▸ dg_lt _ _
   clear hd hO
   go_wp2
   go_loopw [8,26] (fun c s wi=>∃ j:Nat,j≤nb∧c=.int .u64 (macc (x % B^i*y / B^i) y d j:Nat)∧s=.int .i64 j∧Mk w wi (na+nb) (mid x y i j)) (fun _ s _=>nb - (intOf s).toNat)
   case atStart=>exact⟨0,Nat.zero_le _,by rw[macc_zero];rfl,rfl,HO.out.congr fun t ht=>by
     unfold mid
     by_cases e:t<i+0
     ·rw[if_pos e,prod_low (by omega)]
     ·rw[if_neg e]⟩
   case round =>
    obtain⟨j,hj,rfl,rfl,hM⟩:=hrel
    by_cases hjb:j<nb
    ·obtain rfl:=hb (by omega)
     have g4:=hM.old (hcb j hjb)
     have hji:(j:Int)<(nb:Int):=by omega
     have g2:=hM.cell (i:=i+j) (by omega)
     have g3:=hM.frozen (i+j)
     have hcl:=macc_le (x % B^i*y / B^i) y d j
     have ef:mid x y i j (i+j)=dg (x % B^i*y) (i+j):=if_neg (by omega)
     rw[ef] at g2
     generalize hf:dg (x % B^i*y) (i+j)=f at *
     generalize he:dg y j=e at *
     generalize hc:macc (x % B^i*y / B^i) y d j=c at *
     have HE:Hid (dg (x % B^i*y) (i+j)=f∧dg y j=e∧macc (x % B^i*y / B^i) y d j=c):=⟨hf,he,hc⟩
     have HL:Hid (c<B∧f<B∧e<B):=⟨by have:=HDL.out;omega,hf ▸ dg_lt _ _,he ▸ dg_lt _ _⟩
     have HM:Hid (Mk w wr (na+nb) (mid x y i j)):=hM
     clear hf he hc hcl hM hca hcb ef
     go_wp2
     exact mul_round HM.out (mul_word HL.out.1 HL.out.2.1 HDL.out HL.out.2.2) HD.out HE.out hjb
    ·obtain rfl:j=nb:=by omega
     have g2:=hM.cell (i:=i+j) (by omega)
     have g3:=hM.frozen (i+j)
     have HM:Hid (Mk w wr (na+j) (mid x y i j)):=hM
     generalize hf:mid x y i j (i+j)=f at *
     generalize hc:macc (x % B^i*y / B^i) y d j=c at *
     have HC:Hid (macc (x % B^i*y / B^i) y d j=c):=hc
     clear hf hc hM hca hcb
     go_wp2
     exact mul_row HM.out HY.out HD.out HDL.out (by rw[HC.out]) hia
  ·obtain rfl:i=na:=by omega
   have hE:Mk w wr (i+nb) (dg (x*y)):=by
    have e:x % B^i=x:=Nat.mod_eq_of_lt (by rw[←HX.out];exact lt_dlen x)
    rw[e] at hO
    exact hO
   have hA:=hE.at
   have hL:dlen (x*y)≤i+nb:=by
    have h1:=prod_lt x y i
    rw[Nat.mod_eq_of_lt (by rw[←HX.out];exact lt_dlen x),HY.out] at h1
    exact(dlen_le _ _).2 h1
   have HC:Hid (Mk w wr (i+nb) (dg (x*y))):=hE
   clear hO hca hcb hE
   go_wp2_with (first|(go_at_call 139;refine(c62 _ _ _ (x*y) _ hL (Nat.le_refl _) (by omega) hA).mono ?_;rintro e w' ⟨rfl,rfl⟩))
   go_ret
   exact⟨_,rfl,HC.out.own hL (by omega),HC.out.below⟩
theorem c143 {u v:Value} {x y:Nat} {w:World} (h1:Is w u x) (h2:Is w v y) (hx:dlen x≤35184372088832) (hy:dlen y≤35184372088832) :
  Calls Tryz.prog 147 #[u,v] w fun e w'=>∃ v,e=.returned v∧Own w' w.heap.size v (x*y)∧Bw w w':=by
 obtain⟨ao,ca,rfl,a1,a2,ba,oa,a3,a4⟩:=h1
 obtain⟨bo,cb,rfl,b1,b2,bb,ob,b3,b4⟩:=h2
 exact c143_1 ao bo ba oa bb ob _ _ ca cb x y w a3 b3 hx hy rfl rfl a4 b4
end Go.Proofs.YtokklnjoalkjaaaGreatDoor
