/- Own work: contracts of the program's functions, part 6: Q3 Q1 W38 W39 W40 W34 W28 W29 W35 W41. -/
import Derived.Test.YtapooodfgcjoaaaGreatA5
import Derived.Deep.RegionHeld3
import Derived.Laws.AppendOwnNone
import Derived.Lib.SliceRun
import Derived.Laws.IdiomStrings
import Derived.Deep.CutRange

set_option maxHeartbeats 16000000
set_option maxRecDepth 200000
set_option linter.unusedVariables false
set_option linter.unusedSimpArgs false
namespace Go.Proofs.YtapooodfgcjoaaaGreat
open Go.RowKit Go.Fl64
end Go.Proofs.YtapooodfgcjoaaaGreat
namespace Go.Proofs.YtapooodfgcjoaaaGreat
open Go.RowKit
def sv (s:Bool) (x:Nat):Int:=if s then -(x:Int)else x
def vz (K:Nat) (s:Bool) (x:Nat) (e:Int):Int:=sv s x*((2^(e+K).toNat:Nat):Int)
theorem sv_zero (s:Bool):sv s 0=0:=by cases s <;> rfl
theorem sv_eq_zero {s:Bool} {x:Nat}:sv s x=0↔x=0:=by
 cases s <;> simp[sv]
theorem sv_mul (s s':Bool) (x y:Nat):sv (!(s==s')) (x*y)=sv s x*sv s' y:=by
 cases s <;> cases s' <;> simp[sv,Int.natCast_mul,Int.neg_mul,Int.mul_neg]
theorem sv_scale (s:Bool) (x k:Nat):sv s (x*k)=sv s x*(k:Int):=by
 cases s <;> simp[sv,Int.natCast_mul,Int.neg_mul]
theorem two_pos (k:Nat):(0:Int)<((2^k:Nat):Int):=by
 have:=Nat.two_pow_pos k;omega
theorem vz_zero (K:Nat) (s:Bool) (e:Int):vz K s 0 e=0:=by unfold vz;rw[sv_zero,Int.zero_mul]
theorem vz_eq_zero {K:Nat} {s:Bool} {x:Nat} {e:Int}:vz K s x e=0↔x=0:=by
 unfold vz
 constructor
 ·intro h
  rcases Int.mul_eq_zero.1 h with h|h
  ·exact sv_eq_zero.1 h
  ·have:=two_pos (e+K).toNat;omega
 ·rintro rfl;rw[sv_zero,Int.zero_mul]
theorem vz_shift {K:Nat} {s:Bool} {x k:Nat} {e:Int} (h:0≤e+K):vz K s (x*2^k) e=vz K s x (e+k):=by
 unfold vz
 rw[sv_scale,Int.mul_assoc,show(e+(k:Int)+K).toNat=k+(e+K).toNat by omega,Nat.pow_add,Int.natCast_mul]
def cn (s:Bool) (z:Nat) (e:Int):Bool×Nat×Int:=if z=0 then(false,0,0) else(s,z / 2^tz z,e+tz z)
theorem vz_cn {K:Nat} {s:Bool} {z:Nat} {e:Int} (h:0≤e+K):vz K (cn s z e).1 (cn s z e).2.1 (cn s z e).2.2=vz K s z e:=by
 unfold cn
 by_cases h0:z=0
 ·subst h0;rw[if_pos rfl,vz_zero,vz_zero]
 ·rw[if_neg h0]
  have h1:=(tz_spec z z (Nat.le_refl _) h0).1
  show vz K s (z / 2^tz z) (e+tz z)=_
  rw[←vz_shift h,Nat.mul_comm,h1]
theorem odd_pow_eq {x x' a b:Nat} (hx:x % 2=1) (hx':x' % 2=1) (h:x*2^a=x'*2^b):x=x'∧a=b:=by
 have key:∀ {x x' a b:Nat},x % 2=1→a≤b→x*2^a=x'*2^b→x=x'∧a=b:=by
  intro x x' a b hx hab h
  obtain⟨d,rfl⟩:∃ d,b=a+d:=⟨b - a,by omega⟩
  have h1:x=x'*2^d:=by
   have:x*2^a=(x'*2^d)*2^a:=by rw[h,Nat.pow_add];grind
   exact Nat.eq_of_mul_eq_mul_right (Nat.two_pow_pos a) this
  cases d with
  | zero=>simp at h1;exact⟨h1,rfl⟩
  | succ d =>
   exfalso
   rw[Nat.pow_succ,←Nat.mul_assoc] at h1
   omega
 rcases Nat.le_total a b with h1|h1
 ·exact key hx h1 h
 ·have:=key hx' h1 h.symm
  exact⟨this.1.symm,this.2.symm⟩
theorem cn_eq {K:Nat} {s s':Bool} {z z':Nat} {e e':Int} (h1:0≤e+K) (h2:0≤e'+K) (h:vz K s z e=vz K s' z' e'):cn s z e=cn s' z' e':=by
 by_cases h0:z=0
 ·subst h0
  rw[vz_zero] at h
  obtain rfl:=vz_eq_zero.1 h.symm
  simp[cn]
 ·have h0':z'≠0:=fun e0=>by subst e0;rw[vz_zero] at h;exact h0 (vz_eq_zero.1 h)
  have v1:=vz_cn (s:=s) (z:=z) h1
  have v2:=vz_cn (s:=s') (z:=z') h2
  rw[←v1,←v2] at h
  unfold cn at h ⊢
  rw[if_neg h0,if_neg h0'] at h ⊢
  have o1:=(tz_spec z z (Nat.le_refl _) h0).2
  have o2:=(tz_spec z' z' (Nat.le_refl _) h0').2
  generalize z / 2^tz z=x at *
  generalize z' / 2^tz z'=x' at *
  simp only at h
  have hp:0≤e+tz z+(K:Int):=by omega
  have hp':0≤e'+tz z'+(K:Int):=by omega
  generalize e+(tz z:Int)=f at *
  generalize e'+(tz z':Int)=f' at *
  unfold vz sv at h
  have e1:=two_pos (f+K).toNat
  have e2:=two_pos (f'+K).toNat
  have hb:s=s'∧x*2^(f+K).toNat=x'*2^(f'+K).toNat:=by
   have p1:(0:Int)<(x:Int)*((2^(f+K).toNat:Nat):Int):=Int.mul_pos (by omega) e1
   have p2:(0:Int)<(x':Int)*((2^(f'+K).toNat:Nat):Int):=Int.mul_pos (by omega) e2
   have c1:((x*2^(f+K).toNat:Nat):Int)=(x:Int)*((2^(f+K).toNat:Nat):Int):=Int.natCast_mul ..
   have c2:((x'*2^(f'+K).toNat:Nat):Int)=(x':Int)*((2^(f'+K).toNat:Nat):Int):=Int.natCast_mul ..
   generalize (x:Int)*((2^(f+K).toNat:Nat):Int)=A at *
   generalize (x':Int)*((2^(f'+K).toNat:Nat):Int)=A' at *
   have n1 : -(x:Int)*((2^(f+K).toNat:Nat):Int) = -((x:Int)*((2^(f+K).toNat:Nat):Int)):=Int.neg_mul ..
   have n2 : -(x':Int)*((2^(f'+K).toNat:Nat):Int) = -((x':Int)*((2^(f'+K).toNat:Nat):Int)):=Int.neg_mul ..
   cases s <;> cases s' <;> simp only[if_true,if_false,Bool.false_eq_true,Int.neg_mul] at h
   ·exact⟨rfl,by omega⟩
   ·exfalso;omega
   ·exfalso;omega
   ·exact⟨rfl,by omega⟩
  obtain⟨rfl,hb⟩:=hb
  obtain⟨rfl,hab⟩:=odd_pow_eq o1 o2 hb
  rw[show f=f' by omega]
theorem vz_sumN {K:Nat} {na nb:Bool} {x y:Nat} {ea eb:Int} (h1:0≤ea+K) (h2:0≤eb+K) :
  vz K (sumN na x ea nb y eb).1 (sumN na x ea nb y eb).2.1 (sumN na x ea nb y eb).2.2=vz K na x ea+vz K nb y eb:=by
 unfold sumN
 by_cases x0:x=0
 ·subst x0;rw[if_pos rfl,vz_zero,Int.zero_add]
 ·rw[if_neg x0]
  by_cases y0:y=0
  ·subst y0;rw[if_pos rfl,vz_zero,Int.add_zero]
  ·rw[if_neg y0]
   have hm:0≤min ea eb+(K:Int):=by omega
   have e1:vz K na x ea=vz K na (x*2^(ea - min ea eb).toNat) (min ea eb):=by
    rw[vz_shift hm,show min ea eb+((ea - min ea eb).toNat:Int)=ea by omega]
   have e2:vz K nb y eb=vz K nb (y*2^(eb - min ea eb).toNat) (min ea eb):=by
    rw[vz_shift hm,show min ea eb+((eb - min ea eb).toNat:Int)=eb by omega]
   rw[e1,e2]
   generalize x*2^(ea - min ea eb).toNat=X at *
   generalize y*2^(eb - min ea eb).toNat=Y at *
   unfold vz
   rw[←Int.add_mul]
   by_cases hs:na=nb
   ·subst hs
    rw[if_pos rfl]
    congr 1
    cases na <;> simp[sv]
    omega
   ·rw[if_neg hs]
    by_cases hlt:X<Y
    ·rw[if_pos hlt]
     congr 1
     cases na <;> cases nb <;> simp[sv] at hs ⊢ <;> omega
    ·rw[if_neg hlt]
     congr 1
     cases na <;> cases nb <;> simp[sv] at hs ⊢ <;> omega
theorem vz_mul {K L:Nat} {na nb:Bool} {x y:Nat} {ea eb:Int} (h1:0≤ea+K) (h2:0≤eb+L) :
  vz (K+L) (!(na==nb)) (x*y) (ea+eb)=vz K na x ea*vz L nb y eb:=by
 unfold vz
 rw[sv_mul,show(ea+eb+((K+L:Nat):Int)).toNat=(ea+K).toNat+(eb+L).toNat by omega,Nat.pow_add,Int.natCast_mul]
 grind
end Go.Proofs.YtapooodfgcjoaaaGreat
namespace Go.Proofs.YtapooodfgcjoaaaGreat
open Go.RowKit Go.Fl64
end Go.Proofs.YtapooodfgcjoaaaGreat
namespace Go.Proofs.YtapooodfgcjoaaaGreat
open Go.RowKit
end Go.Proofs.YtapooodfgcjoaaaGreat
