/- Own work: contracts of the program's functions, part 22: PTG PTH PTI PTL. -/
import Derived.Test.YtbanebginnakhaaGreatDoorA21
import Derived.Test.YtbanebginnakhaaGreatDoorA14
import Derived.Test.YtbanebginnakhaaGreatDoorA18

set_option maxHeartbeats 16000000
set_option maxRecDepth 200000
set_option linter.unusedVariables false
set_option linter.unusedSimpArgs false
namespace Go.Proofs.YtbanebginnakhaaGreatDoor
open Go Go.RowKit Go.Fl64
def DpO (a b:ByteArray) (ok:Bool) (w:World) (r:Ending) (w':World):Prop:=r=.returned (.tuple #[.string a,.string b,.bool ok])∧Bw w w'
def TkN (s:ByteArray) (k:Int):Prop:=∃ t0 t1 t2 t3 t4 t5,∀ w,Calls Tryz.prog 28 #[.string s] w fun r w'=>r=.returned (.tuple #[.agg #[.bool t0,.string t1,.bool t2,.string t3,.int .i64 t4,.int .i64 t5],.int .i64 k])∧Bw w w'
theorem yQ1 (R:ByteArray) (n:Nat) (w:World) (hn:R.size=n) (hk:TkN R 0) :
  Calls Tryz.prog 11 #[.string R] w fun r w'=>DpO ⟨#[]⟩ ⟨#[]⟩ false w r w':=by
 obtain⟨t0,t1,t2,t3,t4,t5,k0⟩:=hk
 go_enter Tryz.func11,Tryz.ntmps11
 go_wp2_with fail;refine(k0 _).mono ?_
 rintro r w1 ⟨rfl,b1⟩;have B1:Hid (Bw w w1):=b1;clear b1 k0
 go_wp2;refine xW9 (results_tmp3 rfl _ _ _) rfl ?_;exact⟨rfl,B1.out.alloc B1.out.size _⟩
theorem yQ0 (R:ByteArray) (n:Nat) (w:World) (hn:R.size=n) (h0:(n:Int)≠0) (hk:TkN R (n:Nat)) :
  Calls Tryz.prog 11 #[.string R] w fun r w'=>DpO R ⟨#[]⟩ true w r w':=by
 obtain⟨t0,t1,t2,t3,t4,t5,k0⟩:=hk
 go_enter Tryz.func11,Tryz.ntmps11
 go_wp2_with fail;refine(k0 _).mono ?_
 rintro r w1 ⟨rfl,b1⟩;have B1:Hid (Bw w w1):=b1;clear b1 k0
 go_wp2;refine xW9 (results_tmp3 rfl _ _ _) rfl ?_;exact⟨rfl,B1.out.alloc B1.out.size _⟩
theorem yQ (R A:ByteArray) (n k:Nat) (w:World) (hn:R.size=n) (hL:n≤2000000) (h0:(k:Int)≠0) (hk1:k+1=n) (hg:∀ h:k<R.size,(R[k]'h).toNat=105) (hx:R.extract 0 k=A) (hk:TkN R (k:Nat)) :
  Calls Tryz.prog 11 #[.string R] w fun r w'=>DpO ⟨#[]⟩ A true w r w':=by
 obtain⟨t0,t1,t2,t3,t4,t5,k0⟩:=hk;have h0':((k:Int)==0)=false:=by rw[xC2];exact h0
 have h1':((k:Int)==(n:Int))=false:=by rw[xC2];omega
 clear h0;have h2:IntKind.i64.wrap ((n:Int) - 1)=(k:Int):=by rw[xW6];omega
 have h3:(k:Int)<(n:Int):=by omega
 have h4:(k:Int)≤(n:Int):=by omega
 have h5:k<R.size:=by omega
 clear hk1 hL;subst hx
 go_enter Tryz.func11,Tryz.ntmps11
 go_wp2_with fail;refine(k0 _).mono ?_
 rintro r w1 ⟨rfl,b1⟩;have B1:Hid (Bw w w1):=b1;clear b1 k0
 go_upto_region 7 with fail
 go_quiet (fail)
 go_wp2_with fail;refine xW9 (results_tmp3 rfl _ _ _) rfl ?_;exact⟨rfl,qD3 (B1.out.alloc B1.out.size _) _⟩
theorem zO9 (R:ByteArray) (n k l c:Nat) (w:World) (hn:R.size=n) (hL:n≤2000000) (h0:(k:Int)≠0) (hkn:k<n) (hl:l+1=n) (hg:∀ h:k<R.size,(R[k]'h).toNat=c) (hc:((k:Int)==(l:Int))=false∨(((k:Int)==(l:Int))=true∧((c:Int)==105)=false)) (hs1:((c:Int) != 43)=true) (hs2:((c:Int) != 45)=true) (hk:TkN R (k:Nat)) :
  Calls Tryz.prog 11 #[.string R] w fun r w'=>DpO ⟨#[]⟩ ⟨#[]⟩ false w r w':=by
 obtain⟨t0,t1,t2,t3,t4,t5,k0⟩:=hk;have h0':((k:Int)==0)=false:=by rw[xC2];exact h0
 have h1':((k:Int)==(n:Int))=false:=by rw[xC2];omega
 clear h0;have h2:IntKind.i64.wrap ((n:Int) - 1)=(l:Int):=by rw[xW6];omega
 have h3:(k:Int)<(n:Int):=by omega
 have h5:k<R.size:=by omega
 clear hL hkn hl;rcases hc with hc|⟨hc,hc2⟩
 all_goals
  go_enter Tryz.func11,Tryz.ntmps11
  go_wp2_with fail;refine(k0 _).mono ?_
  rintro r w1 ⟨rfl,b1⟩;have B1:Hid (Bw w w1):=b1;clear b1 k0
  go_wp2;refine xW9 (results_tmp3 rfl _ _ _) rfl ?_;exact⟨rfl,B1.out.alloc B1.out.size _⟩
theorem zD4 (R:ByteArray) (n k l c:Nat) (w:World) (hn:R.size=n) (hL:n≤2000000) (h0:(k:Int)≠0) (hkn:k<n) (hl:l+1=n) (hg:∀ h:k<R.size,(R[k]'h).toNat=c) (hc:((k:Int)==(l:Int))=false∨(((k:Int)==(l:Int))=true∧((c:Int)==105)=false)) (T:ByteArray) (hx2:R.extract k n=T) (hs:c=43∨c=45) (hk:TkN R (k:Nat)) (hj:TkN T 0) :
  Calls Tryz.prog 11 #[.string R] w fun r w'=>DpO ⟨#[]⟩ ⟨#[]⟩ false w r w':=by
 obtain⟨t0,t1,t2,t3,t4,t5,k0⟩:=hk;have h0':((k:Int)==0)=false:=by rw[xC2];exact h0
 have h1':((k:Int)==(n:Int))=false:=by rw[xC2];omega
 clear h0;have h2:IntKind.i64.wrap ((n:Int) - 1)=(l:Int):=by rw[xW6];omega
 have h3:(k:Int)<(n:Int):=by omega
 have h5:k<R.size:=by omega
 obtain⟨v0,v1,v2,v3,v4,v5,j0⟩:=hj;have h6:(k:Int)≤(n:Int):=by omega
 clear hL hkn hl;subst hx2;rcases hc with hc|⟨hc,hc2⟩ <;> rcases hs with rfl|rfl
 all_goals
  go_enter Tryz.func11,Tryz.ntmps11
  go_wp2_with fail;refine(k0 _).mono ?_
  rintro r w1 ⟨rfl,b1⟩;have B1:Hid (Bw w w1):=b1;clear b1 k0
  go_wp2_with fail;refine(j0 _).mono ?_
  rintro r w2 ⟨rfl,b2⟩;have B2:Hid (Bw w w2):=by
     exact(B1.out.alloc B1.out.size _).trans (b2.mono (B1.out.alloc B1.out.size _).size)
  clear b2 j0 B1
  go_wp2;refine xW9 (results_tmp3 rfl _ _ _) rfl ?_;exact⟨rfl,B2.out.alloc B2.out.size _⟩
theorem zD3 (R:ByteArray) (n k l c:Nat) (w:World) (hn:R.size=n) (hL:n≤2000000) (h0:(k:Int)≠0) (hkn:k<n) (hl:l+1=n) (hg:∀ h:k<R.size,(R[k]'h).toNat=c) (hc:((k:Int)==(l:Int))=false∨(((k:Int)==(l:Int))=true∧((c:Int)==105)=false)) (T:ByteArray) (hx2:R.extract k n=T) (m:Nat) (hs:c=43∨c=45) (hk:TkN R (k:Nat)) (hj:TkN T (m:Nat)) (hm0:((m:Int)==0)=false) (hkm:k+m≤n) (q:Nat) (hq:q=k+m) (hql:((q:Int) != (l:Int))=true) :
  Calls Tryz.prog 11 #[.string R] w fun r w'=>DpO ⟨#[]⟩ ⟨#[]⟩ false w r w':=by
 obtain⟨t0,t1,t2,t3,t4,t5,k0⟩:=hk;have h0':((k:Int)==0)=false:=by rw[xC2];exact h0
 have h1':((k:Int)==(n:Int))=false:=by rw[xC2];omega
 clear h0;have h2:IntKind.i64.wrap ((n:Int) - 1)=(l:Int):=by rw[xW6];omega
 have h3:(k:Int)<(n:Int):=by omega
 have h5:k<R.size:=by omega
 obtain⟨v0,v1,v2,v3,v4,v5,j0⟩:=hj;have h6:(k:Int)≤(n:Int):=by omega
 have h7:IntKind.i64.wrap ((k:Int)+(m:Int))=(q:Int):=by rw[xW6];omega
 clear hL hkn hl hkm hq;subst hx2;rcases hc with hc|⟨hc,hc2⟩ <;> rcases hs with rfl|rfl
 all_goals
  go_enter Tryz.func11,Tryz.ntmps11
  go_wp2_with fail;refine(k0 _).mono ?_
  rintro r w1 ⟨rfl,b1⟩;have B1:Hid (Bw w w1):=b1;clear b1 k0
  go_wp2_with fail;refine(j0 _).mono ?_
  rintro r w2 ⟨rfl,b2⟩;have B2:Hid (Bw w w2):=by
     exact(B1.out.alloc B1.out.size _).trans (b2.mono (B1.out.alloc B1.out.size _).size)
  clear b2 j0 B1
  go_wp2;refine xW9 (results_tmp3 rfl _ _ _) rfl ?_;exact⟨rfl,B2.out.alloc B2.out.size _⟩
theorem zD2 (R:ByteArray) (n k l c:Nat) (w:World) (hn:R.size=n) (hL:n≤2000000) (h0:(k:Int)≠0) (hkn:k<n) (hl:l+1=n) (hg:∀ h:k<R.size,(R[k]'h).toNat=c) (hc:((k:Int)==(l:Int))=false∨(((k:Int)==(l:Int))=true∧((c:Int)==105)=false)) (T:ByteArray) (hx2:R.extract k n=T) (m:Nat) (hs:c=43∨c=45) (hk:TkN R (k:Nat)) (hj:TkN T (m:Nat)) (hm0:((m:Int)==0)=false) (q e:Nat) (hq:q=k+m) (hql:q=l) (hg2:∀ h:q<R.size,(R[q]'h).toNat=e) (he:((e:Int) != 105)=true) :
  Calls Tryz.prog 11 #[.string R] w fun r w'=>DpO ⟨#[]⟩ ⟨#[]⟩ false w r w':=by
 obtain⟨t0,t1,t2,t3,t4,t5,k0⟩:=hk;have h0':((k:Int)==0)=false:=by rw[xC2];exact h0
 have h1':((k:Int)==(n:Int))=false:=by rw[xC2];omega
 clear h0;have h2:IntKind.i64.wrap ((n:Int) - 1)=(l:Int):=by rw[xW6];omega
 have h3:(k:Int)<(n:Int):=by omega
 have h5:k<R.size:=by omega
 obtain⟨v0,v1,v2,v3,v4,v5,j0⟩:=hj;have h6:(k:Int)≤(n:Int):=by omega
 have h7:IntKind.i64.wrap ((k:Int)+(m:Int))=(q:Int):=by rw[xW6];omega
 have h8:(q:Int)<(n:Int):=by omega
 have h9:q<R.size:=by omega
 have h10:((q:Int) != (l:Int))=false:=by simp[hql]
 clear hL hkn hl hq hql;subst hx2;rcases hc with hc|⟨hc,hc2⟩ <;> rcases hs with rfl|rfl
 all_goals
  go_enter Tryz.func11,Tryz.ntmps11
  go_wp2_with fail;refine(k0 _).mono ?_
  rintro r w1 ⟨rfl,b1⟩;have B1:Hid (Bw w w1):=b1;clear b1 k0
  go_wp2_with fail;refine(j0 _).mono ?_
  rintro r w2 ⟨rfl,b2⟩;have B2:Hid (Bw w w2):=by
     exact(B1.out.alloc B1.out.size _).trans (b2.mono (B1.out.alloc B1.out.size _).size)
  clear b2 j0 B1
  go_wp2;refine xW9 (results_tmp3 rfl _ _ _) rfl ?_;exact⟨rfl,B2.out.alloc B2.out.size _⟩
theorem zO8 (R:ByteArray) (n k l c:Nat) (w:World) (hn:R.size=n) (hL:n≤2000000) (h0:(k:Int)≠0) (hkn:k<n) (hl:l+1=n) (hg:∀ h:k<R.size,(R[k]'h).toNat=c) (hc:((k:Int)==(l:Int))=false∨(((k:Int)==(l:Int))=true∧((c:Int)==105)=false)) (T:ByteArray) (hx2:R.extract k n=T) (m:Nat) (hs:c=43∨c=45) (hk:TkN R (k:Nat)) (hj:TkN T (m:Nat)) (hm0:((m:Int)==0)=false) (q:Nat) (hq:q=k+m) (hql:q=l) (hg2:∀ h:q<R.size,(R[q]'h).toNat=105) (A B:ByteArray) (hA:R.extract 0 k=A) (hB:R.extract k q=B) :
  Calls Tryz.prog 11 #[.string R] w fun r w'=>DpO A B true w r w':=by
 obtain⟨t0,t1,t2,t3,t4,t5,k0⟩:=hk;have h0':((k:Int)==0)=false:=by rw[xC2];exact h0
 have h1':((k:Int)==(n:Int))=false:=by rw[xC2];omega
 clear h0;have h2:IntKind.i64.wrap ((n:Int) - 1)=(l:Int):=by rw[xW6];omega
 have h3:(k:Int)<(n:Int):=by omega
 have h5:k<R.size:=by omega
 obtain⟨v0,v1,v2,v3,v4,v5,j0⟩:=hj;have h6:(k:Int)≤(n:Int):=by omega
 have h7:IntKind.i64.wrap ((k:Int)+(m:Int))=(q:Int):=by rw[xW6];omega
 have h8:(q:Int)<(n:Int):=by omega
 have h9:q<R.size:=by omega
 have h10:((q:Int) != (l:Int))=false:=by simp[hql]
 have h11:(k:Int)≤(q:Int):=by omega
 have h12:(q:Int)≤(n:Int):=by omega
 clear hL hkn hl hq hql;subst hx2 hA hB;rcases hc with hc|⟨hc,hc2⟩ <;> rcases hs with rfl|rfl
 all_goals
  go_enter Tryz.func11,Tryz.ntmps11
  go_wp2_with fail;refine(k0 _).mono ?_
  rintro r w1 ⟨rfl,b1⟩;have B1:Hid (Bw w w1):=b1;clear b1 k0
  go_wp2_with fail;refine(j0 _).mono ?_
  rintro r w2 ⟨rfl,b2⟩;have B2:Hid (Bw w w2):=by
     exact(B1.out.alloc B1.out.size _).trans (b2.mono (B1.out.alloc B1.out.size _).size)
  clear b2 j0 B1
  go_upto_region 13 with fail
  go_quiet (fail)
  go_wp2_with fail;refine xW9 (results_tmp3 rfl _ _ _) rfl ?_;exact⟨rfl,qD3 (B2.out.alloc B2.out.size _) _⟩
theorem zJ0 (R:ByteArray) (m:Int) (w:World) (h:¬ (1≤m∧m≤3)):Calls Tryz.prog 5 #[.string R,.int .i64 m] w fun r w'=>RvO (0,0,1) w r w':=by
 by_cases h1:m<1
 ·clear h
  go_enter Tryz.func5,Tryz.ntmps5
  go_wp2;refine xW9 (xE3 rfl _ _ _) rfl ?_;exact⟨rfl,xL1 _ _⟩
 ·have h3:3<m:=by omega
  clear h
  go_enter Tryz.func5,Tryz.ntmps5
  go_wp2;refine xW9 (xE3 rfl _ _ _) rfl ?_;exact⟨rfl,xL1 _ _⟩
theorem zJ1 (R:ByteArray) (n:Nat) (m:Int) (w:World) (hm:1≤m∧m≤3) (hn:R.size=n) (hL:(1048576:Int)<(n:Int)):Calls Tryz.prog 5 #[.string R,.int .i64 m] w fun r w'=>RvO (0,0,2) w r w':=by
 have hm1:¬ (m<1):=by omega
 have hm3:¬ (3<m):=by omega
 clear hm
 go_enter Tryz.func5,Tryz.ntmps5
 go_wp2;refine xW9 (xE3 rfl _ _ _) rfl ?_;exact⟨rfl,xL1 _ _⟩
theorem yQ2 (R A B:ByteArray) (n:Nat) (m:Int) (w:World) (hm:1≤m∧m≤3) (hn:R.size=n) (hL:¬ (1048576:Int)<(n:Int)) (kP:∀ W,Calls Tryz.prog 11 #[.string R] W fun r w'=>DpO A B false W r w') :
  Calls Tryz.prog 5 #[.string R,.int .i64 m] w fun r w'=>RvO (0,0,3) w r w':=by
 have hm1:¬ (m<1):=by omega
 have hm3:¬ (3<m):=by omega
 clear hm
 go_enter Tryz.func5,Tryz.ntmps5
 go_wp2_with fail;refine(kP _).mono ?_
 rintro r w1 ⟨rfl,b1⟩;have B1:Hid (Bw w w1):=b1;clear b1 kP
 go_wp2;refine xW9 (xE3 rfl _ _ _) rfl ?_;exact⟨rfl,B1.out⟩
theorem yQ9 (R A B:ByteArray) (n:Nat) (m:Int) (w:World) (hm:1≤m∧m≤3) (hn:R.size=n) (hL:¬ (1048576:Int)<(n:Int)) (kP:∀ W,Calls Tryz.prog 11 #[.string R] W fun r w'=>DpO A B true W r w') (ea:A.toList.isEmpty=false) (eb:B.toList.isEmpty=true) (x:Nat) (k1:∀ W,Calls Tryz.prog 12 #[.string A,.int .i64 m] W fun r w'=>RdO x 0 W r w') :
  Calls Tryz.prog 5 #[.string R,.int .i64 m] w fun r w'=>RvO (x,0,0) w r w':=by
 have hm1:¬ (m<1):=by omega
 have hm3:¬ (3<m):=by omega
 clear hm
 go_enter Tryz.func5,Tryz.ntmps5
 go_wp2_with fail;refine(kP _).mono ?_
 rintro r w1 ⟨rfl,b1⟩;have B1:Hid (Bw w w1):=b1;clear b1 kP
 go_wp2_with fail;refine(k1 _).mono ?_
 rintro r w2 ⟨rfl,b2⟩;have B2:Hid (Bw w w2):=B1.out.trans (b2.mono B1.out.size);clear b2 k1 B1
 go_wp2;refine xW9 (xE3 rfl _ _ _) rfl ?_;exact⟨rfl,B2.out⟩
theorem yQ8 (R A B:ByteArray) (n:Nat) (m:Int) (w:World) (hm:1≤m∧m≤3) (hn:R.size=n) (hL:¬ (1048576:Int)<(n:Int)) (kP:∀ W,Calls Tryz.prog 11 #[.string R] W fun r w'=>DpO A B true W r w') (ea:A.toList.isEmpty=false) (eb:B.toList.isEmpty=true) (x:Nat) (e:Int) (k1:∀ W,Calls Tryz.prog 12 #[.string A,.int .i64 m] W fun r w'=>RdO x e W r w') (he:e≠0) :
  Calls Tryz.prog 5 #[.string R,.int .i64 m] w fun r w'=>RvO (0,0,e) w r w':=by
 have hm1:¬ (m<1):=by omega
 have hm3:¬ (3<m):=by omega
 clear hm
 go_enter Tryz.func5,Tryz.ntmps5
 go_wp2_with fail;refine(kP _).mono ?_
 rintro r w1 ⟨rfl,b1⟩;have B1:Hid (Bw w w1):=b1;clear b1 kP
 go_wp2_with fail;refine(k1 _).mono ?_
 rintro r w2 ⟨rfl,b2⟩;have B2:Hid (Bw w w2):=B1.out.trans (b2.mono B1.out.size);clear b2 k1 B1
 go_wp2;refine xW9 (xE3 rfl _ _ _) rfl ?_;exact⟨rfl,B2.out⟩
theorem yQ7 (R A B:ByteArray) (n:Nat) (m:Int) (w:World) (hm:1≤m∧m≤3) (hn:R.size=n) (hL:¬ (1048576:Int)<(n:Int)) (kP:∀ W,Calls Tryz.prog 11 #[.string R] W fun r w'=>DpO A B true W r w') (ea:A.toList.isEmpty=true) (eb:B.toList.isEmpty=false) (y:Nat) (k2:∀ W,Calls Tryz.prog 12 #[.string B,.int .i64 m] W fun r w'=>RdO y 0 W r w') :
  Calls Tryz.prog 5 #[.string R,.int .i64 m] w fun r w'=>RvO (0,y,0) w r w':=by
 have hm1:¬ (m<1):=by omega
 have hm3:¬ (3<m):=by omega
 clear hm
 go_enter Tryz.func5,Tryz.ntmps5
 go_wp2_with fail;refine(kP _).mono ?_
 rintro r w1 ⟨rfl,b1⟩;have B1:Hid (Bw w w1):=b1;clear b1 kP
 go_wp2_with fail;refine(k2 _).mono ?_
 rintro r w2 ⟨rfl,b2⟩;have B2:Hid (Bw w w2):=B1.out.trans (b2.mono B1.out.size);clear b2 k2 B1
 go_wp2;refine xW9 (xE3 rfl _ _ _) rfl ?_;exact⟨rfl,B2.out⟩
theorem yQ6 (R A B:ByteArray) (n:Nat) (m:Int) (w:World) (hm:1≤m∧m≤3) (hn:R.size=n) (hL:¬ (1048576:Int)<(n:Int)) (kP:∀ W,Calls Tryz.prog 11 #[.string R] W fun r w'=>DpO A B true W r w') (ea:A.toList.isEmpty=true) (eb:B.toList.isEmpty=false) (y:Nat) (f:Int) (k2:∀ W,Calls Tryz.prog 12 #[.string B,.int .i64 m] W fun r w'=>RdO y f W r w') (hf:f≠0) :
  Calls Tryz.prog 5 #[.string R,.int .i64 m] w fun r w'=>RvO (0,0,f) w r w':=by
 have hm1:¬ (m<1):=by omega
 have hm3:¬ (3<m):=by omega
 clear hm
 go_enter Tryz.func5,Tryz.ntmps5
 go_wp2_with fail;refine(kP _).mono ?_
 rintro r w1 ⟨rfl,b1⟩;have B1:Hid (Bw w w1):=b1;clear b1 kP
 go_wp2_with fail;refine(k2 _).mono ?_
 rintro r w2 ⟨rfl,b2⟩;have B2:Hid (Bw w w2):=B1.out.trans (b2.mono B1.out.size);clear b2 k2 B1
 go_wp2;refine xW9 (xE3 rfl _ _ _) rfl ?_;exact⟨rfl,B2.out⟩
theorem yQ5 (R A B:ByteArray) (n:Nat) (m:Int) (w:World) (hm:1≤m∧m≤3) (hn:R.size=n) (hL:¬ (1048576:Int)<(n:Int)) (kP:∀ W,Calls Tryz.prog 11 #[.string R] W fun r w'=>DpO A B true W r w') (ea:A.toList.isEmpty=false) (eb:B.toList.isEmpty=false) (x:Nat) (k1:∀ W,Calls Tryz.prog 12 #[.string A,.int .i64 m] W fun r w'=>RdO x 0 W r w') (y:Nat) (k2:∀ W,Calls Tryz.prog 12 #[.string B,.int .i64 m] W fun r w'=>RdO y 0 W r w') :
  Calls Tryz.prog 5 #[.string R,.int .i64 m] w fun r w'=>RvO (x,y,0) w r w':=by
 have hm1:¬ (m<1):=by omega
 have hm3:¬ (3<m):=by omega
 clear hm
 go_enter Tryz.func5,Tryz.ntmps5
 go_wp2_with fail;refine(kP _).mono ?_
 rintro r w1 ⟨rfl,b1⟩;have B1:Hid (Bw w w1):=b1;clear b1 kP
 go_wp2_with fail;refine(k1 _).mono ?_
 rintro r w2 ⟨rfl,b2⟩;have B2:Hid (Bw w w2):=B1.out.trans (b2.mono B1.out.size);clear b2 k1 B1
 go_wp2_with fail;refine(k2 _).mono ?_
 rintro r w3 ⟨rfl,b3⟩;have B3:Hid (Bw w w3):=B2.out.trans (b3.mono B2.out.size);clear b3 k2 B2
 go_wp2;refine xW9 (xE3 rfl _ _ _) rfl ?_;exact⟨rfl,B3.out⟩
theorem yQ4 (R A B:ByteArray) (n:Nat) (m:Int) (w:World) (hm:1≤m∧m≤3) (hn:R.size=n) (hL:¬ (1048576:Int)<(n:Int)) (kP:∀ W,Calls Tryz.prog 11 #[.string R] W fun r w'=>DpO A B true W r w') (ea:A.toList.isEmpty=false) (eb:B.toList.isEmpty=false) (x:Nat) (e:Int) (k1:∀ W,Calls Tryz.prog 12 #[.string A,.int .i64 m] W fun r w'=>RdO x e W r w') (he:e≠0) :
  Calls Tryz.prog 5 #[.string R,.int .i64 m] w fun r w'=>RvO (0,0,e) w r w':=by
 have hm1:¬ (m<1):=by omega
 have hm3:¬ (3<m):=by omega
 clear hm
 go_enter Tryz.func5,Tryz.ntmps5
 go_wp2_with fail;refine(kP _).mono ?_
 rintro r w1 ⟨rfl,b1⟩;have B1:Hid (Bw w w1):=b1;clear b1 kP
 go_wp2_with fail;refine(k1 _).mono ?_
 rintro r w2 ⟨rfl,b2⟩;have B2:Hid (Bw w w2):=B1.out.trans (b2.mono B1.out.size);clear b2 k1 B1
 go_wp2;refine xW9 (xE3 rfl _ _ _) rfl ?_;exact⟨rfl,B2.out⟩
theorem yQ3 (R A B:ByteArray) (n:Nat) (m:Int) (w:World) (hm:1≤m∧m≤3) (hn:R.size=n) (hL:¬ (1048576:Int)<(n:Int)) (kP:∀ W,Calls Tryz.prog 11 #[.string R] W fun r w'=>DpO A B true W r w') (ea:A.toList.isEmpty=false) (eb:B.toList.isEmpty=false) (x:Nat) (k1:∀ W,Calls Tryz.prog 12 #[.string A,.int .i64 m] W fun r w'=>RdO x 0 W r w') (y:Nat) (f:Int) (k2:∀ W,Calls Tryz.prog 12 #[.string B,.int .i64 m] W fun r w'=>RdO y f W r w') (hf:f≠0) :
  Calls Tryz.prog 5 #[.string R,.int .i64 m] w fun r w'=>RvO (0,0,f) w r w':=by
 have hm1:¬ (m<1):=by omega
 have hm3:¬ (3<m):=by omega
 clear hm
 go_enter Tryz.func5,Tryz.ntmps5
 go_wp2_with fail;refine(kP _).mono ?_
 rintro r w1 ⟨rfl,b1⟩;have B1:Hid (Bw w w1):=b1;clear b1 kP
 go_wp2_with fail;refine(k1 _).mono ?_
 rintro r w2 ⟨rfl,b2⟩;have B2:Hid (Bw w w2):=B1.out.trans (b2.mono B1.out.size);clear b2 k1 B1
 go_wp2_with fail;refine(k2 _).mono ?_
 rintro r w3 ⟨rfl,b3⟩;have B3:Hid (Bw w w3):=B2.out.trans (b3.mono B2.out.size);clear b3 k2 B2
 go_wp2;refine xW9 (xE3 rfl _ _ _) rfl ?_;exact⟨rfl,B3.out⟩
theorem qO7 {m:Int} (hm:1≤m∧m≤3):rdA [48] m=(0,0):=by
 rcases(by omega:m=1∨m=2∨m=3)with rfl|rfl|rfl <;> decide +kernel
theorem xG8 {s1 s2:List UInt8} {m:Int} (hm:1≤m∧m≤3) (h1:s1.length≤1048576) (h2:s2.length≤1048576) (h:¬ (dOk s1∧dOk s2)):ptJ (rdA s1 m) (rdA s2 m)=(0,0,3):=by
 unfold ptJ;rw[if_pos];by_cases h3:dOk s1
 ·exact .inr ((qE7 hm h2).2 (fun h4=>h ⟨h3,h4⟩))
 ·exact .inl ((qE7 hm h1).2 h3)
theorem ptJ_b {a:Nat×Int} (h:a.2≠3):ptJ a (0,0)=if a.2=0 then(a.1,0,0) else(0,0,a.2):=by
 unfold ptJ;by_cases h0:a.2=0
 ·simp[h0]
 ·simp[h0,h]
theorem ptJ_c {a:Nat×Int} (h:a.2≠3):ptJ (0,0) a=if a.2=0 then(0,a.1,0) else(0,0,a.2):=by
 unfold ptJ;by_cases h0:a.2=0
 ·simp[h0]
 ·simp[h0,h]
theorem ptJ_f {a b:Nat×Int} (h:a.2≠3) (h':b.2≠3):ptJ a b=if a.2=0 then(if b.2=0 then(a.1,b.1,0) else(0,0,b.2)) else(0,0,a.2):=by
 unfold ptJ;by_cases h0:a.2=0
 ·by_cases h1:b.2=0
  ·simp[h0,h1]
  ·simp[h0,h1,h']
 ·simp[h0,h,h']
theorem qB9 {L:List UInt8} (h:L ≠ []):(⟨L.toArray⟩:ByteArray).toList.isEmpty=false:=by
 rw[qX9];cases L with
 | nil=>exact absurd rfl h
 | cons _ _=>rfl
theorem qN {L:List UInt8} (h:dOk L):L ≠ []:=fun e=>by
 have:=(qG5 h).1
 rw[e] at this;exact absurd this (by decide)
theorem yP5 {s:List UInt8} {t1 t3:ByteArray} {t2:Bool} {t4 t5 k:Int} (h:TkC s t1 t2 t3 t4 t5 k):TkN ⟨s.toArray⟩ k:=⟨_,t1,t2,t3,t4,t5,h⟩
theorem yO0 (L:List UInt8) (a b:Nat):(⟨L.toArray⟩:ByteArray).extract a b=⟨((L.drop a).take (b - a)).toArray⟩:=by
 apply ByteArray.ext
 rw[ByteArray.data_extract];apply Array.ext'
 rw[Array.toList_extract]
theorem xQ2 (s:List UInt8) (hL:s.length≤1048576) :
  (¬ (dOk (pt1 s)∧dOk (pt2 s))∧∀ w,Calls Tryz.prog 11 #[.string ⟨s.toArray⟩] w fun r w'=>DpO ⟨#[]⟩ ⟨#[]⟩ false w r w') ∨
  (dOk s∧pt1 s=s∧pt2 s = [48]∧∀ w,Calls Tryz.prog 11 #[.string ⟨s.toArray⟩] w fun r w'=>DpO ⟨s.toArray⟩ ⟨#[]⟩ true w r w') ∨
  (∃ B,dOk B∧pt1 s = [48]∧pt2 s=B∧∀ w,Calls Tryz.prog 11 #[.string ⟨s.toArray⟩] w fun r w'=>DpO ⟨#[]⟩ ⟨B.toArray⟩ true w r w') ∨
  (∃ A B,dOk A∧dOk B∧pt1 s=A∧pt2 s=B∧∀ w,Calls Tryz.prog 11 #[.string ⟨s.toArray⟩] w fun r w'=>DpO ⟨A.toArray⟩ ⟨B.toArray⟩ true w r w'):=by
 obtain⟨t1,t2,t3,t4,t5,k,hC,hS⟩:=zN3 s hL;have hT:=yP5 hC;obtain⟨n,hn⟩:∃ n,n=s.length:=⟨_,rfl⟩;have hsz:(⟨s.toArray⟩:ByteArray).size=n:=by rw[hn];rfl
 have hget:∀ i (h:i<(⟨s.toArray⟩:ByteArray).size),((⟨s.toArray⟩:ByteArray)[i]'h).toNat=bL s i:=qU0 s;have hkl:k≤n:=by
  rcases hS.1 with h|h
  ·omega
  ·rw[hn];exact h.1
 by_cases h0:k=0
 ·subst h0;exact .inl ⟨pj_a hS,fun w=>yQ1 _ n w hsz hT⟩
 by_cases h1:k=n
 ·obtain rfl:k=s.length:=by omega
  obtain⟨q1,q2,q3⟩:=pj_b hS h0;exact .inr (.inl ⟨q1,q2,q3,fun w=>yQ0 _ s.length w rfl (by omega) hT⟩)
 by_cases h2:k+1=n∧bL s k=105
 ·obtain⟨q1,q2,q3⟩:=pj_c hS h0 (by omega) h2.2
  refine .inr (.inr (.inl ⟨s.take k,q1,q2,q3,fun w=>yQ _ _ n k w hsz (by omega) (by omega) (by omega) (fun h=>?_) (qJ4 s k) hT⟩))
  rw[hget k h,h2.2]
 have hkn:k<n:=by omega
 obtain⟨l,hl⟩:∃ l,l+1=n:=⟨n - 1,by omega⟩
 have hc:((k:Int)==(l:Int))=false∨(((k:Int)==(l:Int))=true∧(((bL s k:Nat):Int)==105)=false):=by
  by_cases e:k=l
  ·right
   refine⟨by simp[e],?_⟩
   have:¬ bL s k=105:=fun h=>h2 ⟨by omega,h⟩
   rw[xC2];omega
  ·left;rw[xC2];omega
 have hn2:¬ (k+1=s.length∧bL s k=105):=by rw[←hn];exact h2
 by_cases h3:bL s k=43∨bL s k=45
 ·have hdl:(s.drop k).length≤1048576:=by rw[List.length_drop];omega
  obtain⟨v1,v2,v3,v4,v5,m,hC2,hS2⟩:=zN3 (s.drop k) hdl;have hT2:=yP5 hC2;have hx2:(⟨s.toArray⟩:ByteArray).extract k n=⟨(s.drop k).toArray⟩:=by rw[hn];exact qJ0 s k
  have hml:m≤n - k:=by
   rcases hS2.1 with h|h
   ·omega
   ·have:=h.1;rw[List.length_drop] at this;omega
  have hpm:=fun hp=>pj_m hS (by omega) hn2 hS2 hp
  by_cases hm0:m=0
  ·subst hm0;refine .inl ⟨fun hp=>(hpm hp).1 rfl,fun w=>zD4 _ n k l (bL s k) w hsz (by omega) (by omega) hkn hl (hget k) hc _ hx2 h3 hT hT2⟩
  by_cases hq:k+m=l
  ·by_cases he:bL s (k+m)=105
   ·have hsg:sgB (bL s k)=true:=by unfold sgB;rcases h3 with h3|h3 <;> rw[h3] <;> rfl
    obtain⟨q1,q2,q3,q4⟩:=pj_f hS h0 (by omega) hsg hS2 hm0 (by omega) he
    refine .inr (.inr (.inr ⟨_,_,q1,q2,q3,q4,fun w=>zO8 _ n k l (bL s k) w hsz (by omega) (by omega) hkn hl (hget k) hc _ hx2 m h3 hT hT2 (by rw[xC2];omega) (k+m) rfl (by omega) (fun h=>?_) _ _ (qJ4 s k) ?_⟩))
    ·rw[hget _ h,he]
    ·rw[yO0,show k+m - k=m by omega]
   ·refine .inl ⟨fun hp=>he (hpm hp).2.2,fun w=>zD2 _ n k l (bL s k) w hsz (by omega) (by omega) hkn hl (hget k) hc _ hx2 m h3 hT hT2 (by rw[xC2];omega) (k+m) (bL s (k+m)) rfl (by omega) (hget _) (by rw[bne_iff_ne];omega)⟩
  ·refine .inl ⟨fun hp=>hq (by have:=(hpm hp).2.1;omega),fun w=>zD3 _ n k l (bL s k) w hsz (by omega) (by omega) hkn hl (hget k) hc _ hx2 m h3 hT hT2 (by rw[xC2];omega) (by omega) (k+m) rfl (by rw[bne_iff_ne];omega)⟩
 ·refine .inl ⟨fun hp=>?_,fun w=>zO9 _ n k l (bL s k) w hsz (by omega) (by omega) hkn hl (hget k) hc (by rw[bne_iff_ne];omega) (by rw[bne_iff_ne];omega) hT⟩
  have:=(pj_k hS (by omega) hn2 hp).1
  unfold sgB at this;simp at this
  omega
theorem xH6 {s:List UInt8} (hL:s.length≤1048576):(pt1 s).length≤1048576∧(pt2 s).length≤1048576:=by
 have h1:=yE5 s;have h2:=yE4 s;omega
theorem qA8 {t:List UInt8} {m:Int} (hm:1≤m∧m≤3) (hL:t.length≤1048576) (h:dOk t):(rdA t m).2≠3:=fun e=>(qE7 hm hL).1 e h
theorem xM1 (s:List UInt8) (m:Int) (w:World):Calls Tryz.prog 5 #[.string ⟨s.toArray⟩,.int .i64 m] w fun r w'=>RvO (ptA s m) w r w':=by
 unfold ptA;by_cases hm:1≤m∧m≤3
 ·rw[if_neg (not_not_intro hm)];by_cases hL:1048576<s.length
  ·rw[if_pos hL];exact zJ1 _ s.length m w hm rfl (by omega)
  ·rw[if_neg hL];obtain⟨l1,l2⟩:=xH6 (s:=s) (by omega)
   have hr:∀ (t:List UInt8) (W:World),Calls Tryz.prog 12 #[.string ⟨t.toArray⟩,.int .i64 m] W fun r w'=>RdO (rdA t m).1 (rdA t m).2 W r w':=fun t W=>xM2 t m W;have he:(⟨#[]⟩:ByteArray).toList.isEmpty=true:=qX9 [];rcases xQ2 s (by omega)with ⟨h,kP⟩|⟨h,h1,h2,kP⟩|⟨B,h,h1,h2,kP⟩|⟨A,B,h,h',h1,h2,kP⟩
   ·rw[xG8 hm l1 l2 h];exact yQ2 _ _ _ s.length m w hm rfl (by omega) kP
   ·rw[h1] at l1;rw[h1,h2,qO7 hm,ptJ_b (qA8 hm l1 h)];have k:=hr s;generalize rdA s m=a at k ⊢;obtain⟨x,e⟩:=a;by_cases h0:e=0
    ·subst h0;rw[if_pos rfl];exact yQ9 _ _ _ s.length m w hm rfl (by omega) kP (qB9 (qN h)) he x k
    ·rw[if_neg h0];exact yQ8 _ _ _ s.length m w hm rfl (by omega) kP (qB9 (qN h)) he x e k h0
   ·rw[h2] at l2;rw[h1,h2,qO7 hm,ptJ_c (qA8 hm l2 h)];have k:=hr B;generalize rdA B m=a at k ⊢;obtain⟨x,e⟩:=a;by_cases h0:e=0
    ·subst h0;rw[if_pos rfl];exact yQ7 _ _ _ s.length m w hm rfl (by omega) kP he (qB9 (qN h)) x k
    ·rw[if_neg h0];exact yQ6 _ _ _ s.length m w hm rfl (by omega) kP he (qB9 (qN h)) x e k h0
   ·rw[h1] at l1;rw[h2] at l2;rw[h1,h2,ptJ_f (qA8 hm l1 h) (qA8 hm l2 h')];have k:=hr A;have k':=hr B;generalize rdA A m=a at k ⊢;generalize rdA B m=b at k' ⊢;obtain⟨x,e⟩:=a;obtain⟨y,f⟩:=b;by_cases h0:e=0
    ·subst h0;rw[if_pos rfl];by_cases h3:f=0
     ·subst h3;rw[if_pos rfl];exact yQ5 _ _ _ s.length m w hm rfl (by omega) kP (qB9 (qN h)) (qB9 (qN h')) x k y k'
     ·rw[if_neg h3];exact yQ3 _ _ _ s.length m w hm rfl (by omega) kP (qB9 (qN h)) (qB9 (qN h')) x k y f k' h3
    ·rw[if_neg h0];exact yQ4 _ _ _ s.length m w hm rfl (by omega) kP (qB9 (qN h)) (qB9 (qN h')) x e k h0
 ·rw[if_pos hm];exact zJ0 _ m w hm
theorem xG9 {a b:Nat×Int} (ha:a.1<18446744073709551616) (hb:b.1<18446744073709551616):(ptJ a b).1<18446744073709551616∧(ptJ a b).2.1<18446744073709551616:=by
 have h0:0<18446744073709551616:=by decide
 unfold ptJ;split
 ·exact⟨h0,h0⟩
 ·split
  ·exact⟨h0,h0⟩
  ·split
   ·exact⟨h0,h0⟩
   ·exact⟨ha,hb⟩
theorem yS3 (s:List UInt8) (m:Int):(ptA s m).1<18446744073709551616∧(ptA s m).2.1<18446744073709551616:=by
 unfold ptA;split
 ·exact⟨by decide,by decide⟩
 ·split
  ·exact⟨by decide,by decide⟩
  ·exact xG9 (yS _ _) (yS _ _)
theorem wp_1:ptA [49,101,45,50,45,51,105] 2=(4576918229304087675,13837309855095848960,0):=by decide +kernel
theorem wp_2:(ptA [49,43,105] 2).2.2=3:=by decide +kernel
theorem wp_3:ShOk 4609434218613702656:=⟨by decide,by decide,by decide +kernel,by decide +kernel,by decide +kernel,by decide +kernel,by decide +kernel,by decide +kernel,by decide +kernel⟩
theorem wp_4:shS 4609434218613702656 = [49,46,53]∧0<(shD 4609434218613702656).length:=by decide +kernel
theorem yB9 (w:World):Calls Tryz.prog 37 #[.float .f64 9223372036854775808] w fun r w'=>r=.returned (.string ⟨#[45,48]⟩)∧Bw w w':=by
 obtain⟨c1,c2,c3⟩:=zV0 (a:=9223372036854775808) (by decide)
 refine qW1 9223372036854775808 [45,48] _ ?_;intro W g1 hW b1;have kC:=fun V=>Ie.c9 9223372036854775808 (by decide) V
 rw[c3] at kC;refine zX4 9223372036854775808 _ _ (neg 9223372036854775808) _ [48] W c1 c2 (by decide) kC (qX2 Tryz.func61 (by kernel_rfl) (by kernel_rfl)) ?_
 refine(yJ4 9223372036854775808 g1 W b1 (by kernel_rfl)).mono ?_
 rintro r w' ⟨rfl,rfl⟩;exact⟨rfl,xL1 _ _⟩
theorem xX5 {w:World} (hT:Tab32 w) (hI:Ie.Tab w) (h10:Tab10 w):Calls Tryz.prog 7 #[] w fun r w'=>r=.returned (.bool true)∧Bw w w':=by
 refine yK1 (ptA [49,43,105] 2).1 (ptA [49,43,105] 2).2.1 w ?_ ?_ ?_
 ·intro W hW;have:=xX4 [49,101,45,50,45,51,105] 2 W (hT.later hW)
  rw[wp_1] at this;exact this
 ·intro W hW;have:=xX4 [49,43,105] 2 W (hT.later hW)
  unfold RvO at this;rw[wp_2] at this;exact this
 ·intro W hW;refine xT W (fun V hV=>?_) (fun V hV=>yB9 V);have:=yJ2 ((hT.later hW).later hV) (Tab.later (Tab.later hI hW) hV) ((h10.later hW).later hV) wp_3 wp_4.2
  rw[wp_4.1] at this;exact this
theorem pointReads_ok (s:List UInt8) (m:Int) (w:World) (hT:Tab32 w) (hI:Ie.Tab w) (h10:Tab10 w) :
  Calls Tryz.prog 3 #[.string ⟨s.toArray⟩,.int .i64 m] w fun r w'=>r=.returned (.bool true)∧Bw w w' :=
 zQ1 ⟨s.toArray⟩ m (ptA s m).2.2 (ptA s m).1 (ptA s m).2.1 w (fun W hW=>xX4 s m W (hT.later hW)) (fun W _=>xM1 s m W) (fun W=>yK2 (yS3 s m).1 (yS3 s m).2 W) (fun W hW=>xX5 (hT.later hW) (Tab.later hI hW) (h10.later hW))
end Go.Proofs.YtbanebginnakhaaGreatDoor
