/-
  What the document's Great, GreatMetas and Same do, the program's Same, and the statements' at and holds.
-/
import Derived.Test.YtmeaiocohalphaaGreatDoorVn9
import Derived.Lib.AppendZerosOnto
import Derived.Lib.Overlaps
set_option maxHeartbeats 8000000
set_option maxRecDepth 100000
namespace Go.Proofs.YtmeaiocohalphaaGreatDoor
open Go.RowKit
set_option linter.all false
set_option synthInstance.maxHeartbeats 400000
set_option synthInstance.maxSize 4000
theorem qx0 (a:Option Addr) (n c:Nat) (l:List Mta) (w:World) (hrd:RdM w (.slice a n c) l):
  Calls Tryz.prog 52 #[.slice a n c] w fun e w'=>∃b,e=.returned (.bool b)∧Hid (b=false→n≤100)∧Below w.heap.size w w':=by
 have HN:=hide hrd.len;have HR:=hide hrd;clear hrd
 by_cases h1:100<n
 ·have h1':(100:Int)<n:=by omega
  go_enter Tryz.func52,Tryz.ntmps52
  go_wp2;go_ret;exact ⟨true,rfl,hide (fun q=>by cases q),Below.refl _ _⟩
 have h1':decide ((100:Int)<n)=false:=by simpa using (by omega:¬(100:Int)<n)
 have HN1:=hide (show n≤100 by omega)
 have hn100:n≤100:=by omega
 go_enter Tryz.func52,Tryz.ntmps52
 go_wp2;clear h1 h1'
 go_loopw [3] (fun i wr=>∃k:Nat,k≤n∧i=.int .i64 k∧Hid (Below w.heap.size w wr)) (fun i _=>n - (intOf i).toNat)
 case atStart=>exact ⟨0,Nat.zero_le _,rfl,hide (Below.refl _ _)⟩
 case round=>
  obtain ⟨k,hk,rfl,hB⟩:=hrel
  by_cases hlt:k<n
  ·have hlt':(k:Int)<n:=by omega
   have hkl:k<l.length:=by have:=HN.out;omega
   obtain ⟨b,off,rfl,q0,q1,q2,q3,q4⟩:=RdM.cells HR.out hB.out k hkl;obtain ⟨x,hx⟩:∃x,x=l[k]:=⟨_,rfl⟩;rw [←hx] at q0 q1 q2 q3 q4;clear hx;have s1:=qdl x.1;have s2:=qdl (Mlo x);have s3:=qdl (Mhi x)
   by_cases l0:1000<x.1.length
   ·have m0:(1000:Int)<x.1.length:=by omega
    go_wp2;go_ret;exact ⟨true,rfl,hide (fun q=>by cases q),hB.out⟩
   have m0:decide ((1000:Int)<x.1.length)=false:=by simpa using (by omega:¬(1000:Int)<x.1.length)
   clear l0
   by_cases l1:1000<(Mlo x).length
   ·have m1:(1000:Int)<(Mlo x).length:=by omega
    go_wp2;go_ret;exact ⟨true,rfl,hide (fun q=>by cases q),hB.out⟩
   have m1:decide ((1000:Int)<(Mlo x).length)=false:=by simpa using (by omega:¬(1000:Int)<(Mlo x).length)
   clear l1
   by_cases l2:1000<(Mhi x).length
   ·have m2:(1000:Int)<(Mhi x).length:=by omega
    go_wp2;go_ret;exact ⟨true,rfl,hide (fun q=>by cases q),hB.out⟩
   have m2:decide ((1000:Int)<(Mhi x).length)=false:=by simpa using (by omega:¬(1000:Int)<(Mhi x).length)
   clear l2;go_wp2;go_roundw
   case rel=>exact ⟨k+1,by omega,by go_num,hB⟩
   case measure=>simp only [intOf];omega
  ·have hd:decide ((k:Int)<n)=false:=by simpa using (by omega:¬(k:Int)<n)
   go_wp2;go_ret;exact ⟨false,rfl,hide (fun _=>HN1.out),hB.out⟩
theorem qact (a:Option Addr) (n c:Nat) (R:Lvs) (nx sq:Int) (lg:List UInt8) (w:World) (hrd:RdVw w (.slice a n c) R):
  Calls Tryz.prog 19 #[.agg #[.slice a n c,.int .i64 nx,.int .i64 sq,.string (bs lg)]] w fun e w'=>∃b,e=.returned (.bool b)∧Hid (b=false→n≤20∧(lvs R).flatten.length≤2000)∧Below w.heap.size w w':=by
 have HN:=hide hrd.len;have HR:=hide hrd;clear hrd;obtain ⟨w1,hw1⟩:∃w1,w1=w.alloc (.cells #[.slice a n c,.int .i64 nx,.int .i64 sq,.string (bs lg)] 36):=⟨_,rfl⟩;have HB1:=hide (show Below w.heap.size w w1 by rw [hw1];exact (Below.refl _ _).alloc (Nat.le_refl _) _);have HV1:=hide (show VvAt w1 w.heap.size (.slice a n c) nx sq lg by rw [hw1];exact VvAt.new w _ nx sq lg);obtain ⟨v0,v1,v2,v3⟩:=HV1.out.cells;have hs:=qdl lg
 by_cases h1:20<n
 ·have h1':(20:Int)<n:=by omega
  go_enter Tryz.func19,Tryz.ntmps19
  go_wp2_with fail
  rw [←hw1];clear hw1;go_wp2;go_ret;exact ⟨true,rfl,hide (fun q=>by cases q),HB1.out⟩
 have h1':decide ((20:Int)<n)=false:=by simpa using (by omega:¬(20:Int)<n)
 by_cases h2:1000<lg.length
 ·have h2':(1000:Int)<lg.length:=by omega
  clear h1
  go_enter Tryz.func19,Tryz.ntmps19
  go_wp2_with fail
  rw [←hw1];clear hw1;go_wp2;go_ret;exact ⟨true,rfl,hide (fun q=>by cases q),HB1.out⟩
 have h2':decide ((1000:Int)<lg.length)=false:=by simpa using (by omega:¬(1000:Int)<lg.length)
 have HN1:=hide (show n≤20 by omega)
 have hn20:n≤20:=by omega
 clear h2
 go_enter Tryz.func19,Tryz.ntmps19
 go_wp2_with fail
 rw [←hw1];clear hw1
 go_wp2_with fail
 clear h1 h1' h2' v0 v1 v2 v3
 go_loopw [3] (fun i wr=>∃k:Nat,k≤n∧i=.int .i64 k∧Hid (cntW R k≤k*100)∧Hid (VvAt wr w.heap.size (.slice a n c) nx sq lg)∧Hid (Below w.heap.size w wr)) (fun i _=>n - (intOf i).toNat)
 case atStart=>exact ⟨0,Nat.zero_le _,rfl,hide (by rw [qabz];omega),HV1,HB1⟩
 case round=>
  obtain ⟨k,hk,rfl,hC,hV,hB⟩:=hrel;clear HB1 HV1;obtain ⟨v0,v1,v2,v3⟩:=hV.out.cells
  by_cases hlt:k<n
  ·have hlt':(k:Int)<n:=by omega
   have hkl:k<R.length:=by have:=HN.out;omega
   obtain ⟨b,off,ax,nx',cx,rfl,q0,hRx,hnx⟩:=HR.out.cells hB.out k hkl;have HS:=hide (qab0 R k hkl);have hc:=qx0 ax nx' cx _ wr (hRx.carry hB.out);have HNX:=hide hnx;clear hRx hnx
   go_wp2_with fail
   refine hc.mono ?_
   rintro e w2 ⟨bb,rfl,hbb,b2⟩;have HV2:=hide (hV.out.carry b2);have HB2:=hide (hB.out.trans (b2.mono hB.out.size));clear hc b2 v0 v1 v2 v3 q0 hV hB
   cases bb with
   | true=>
    go_wp2;go_ret;exact ⟨true,rfl,hide (fun q=>by cases q),HB2.out⟩
   | false=>
    have HC2:=hide (show cntW R (k+1)≤(k+1)*100 by have h1:=hbb.out rfl;have h2:=HNX.out;have h3:=HS.out;have h4:=hC.out;omega);clear hbb hC;go_wp2;go_roundw
    case rel=>exact ⟨k+1,by omega,by go_num,HC2,HV2,HB2⟩
    case measure=>simp only [intOf];omega
  ·have hd:decide ((k:Int)<n)=false:=by simpa using (by omega:¬(k:Int)<n)
   have HF:=hide (show (lvs R).flatten.length≤2000 by
    rw [←qv1 R];have h1:=hC.out;have h2:=HN.out
    have:k=R.length:=by omega
    rw [←this];omega)
   clear hC;go_wp2;go_ret;exact ⟨false,rfl,hide (fun _=>⟨HN1.out,HF.out⟩),hB.out⟩
theorem big_lv {R:Lvs} (hT:(lvs R).flatten.length≤100000) {k:Nat} (hk:k<R.length):(R[k]).2.length≤1000000:=Nat.le_trans (qkg hk) (by omega)
theorem qacu (a:Option Addr) (n c:Nat) (R:Lvs) (a2:Option Addr) (n2 c2:Nat) (R2:Lvs) (w:World) (hrd:RdVw w (.slice a n c) R) (hrd2:RdVw w (.slice a2 n2 c2) R2) (hn:n≤1000) (hT:(lvs R).flatten.length≤100000):
  Calls Tryz.prog 69 #[.slice a n c,.slice a2 n2 c2,.func (.func 70) #[] #[]] w fun e w'=>e=.returned (.bool (decide (lvs R=lvs R2)))∧Below w.heap.size w w':=by
 have HN:=hide hrd.len;have HN2:=hide hrd2.len;have HR:=hide hrd;have HR2:=hide hrd2;have HTF:=hide hT;clear hrd hrd2 hT
 by_cases hnn:n=n2
 ·subst hnn
  go_enter Tryz.func69,Tryz.ntmps69
  go_wp2
  go_loopw [17] (fun i wr=>∃k:Nat,k≤n∧i=.int .i64 k∧Hid ((lvs R).take k=(lvs R2).take k)∧Hid (Below w.heap.size w wr)) (fun i _=>n - (intOf i).toNat)
  case atStart=>exact ⟨0,Nat.zero_le _,rfl,hide rfl,hide (Below.refl _ _)⟩
  case round=>
   obtain ⟨k,hk,rfl,htk,hB⟩:=hrel
   by_cases hlt:k<n
   ·have hlt':(k:Int)<n:=by omega
    have hkl:k<R.length:=by have:=HN.out;omega
    have hkl2:k<R2.length:=by have:=HN2.out;omega
    obtain ⟨b,off,ax,nx',cx,rfl,q0,hRx,hnx⟩:=HR.out.cells hB.out k hkl;obtain ⟨b',off',ay,ny',cy,rfl,p0,hRy,hny⟩:=HR2.out.cells hB.out k hkl2
    have HT:=hide (show (R[k]).2=(R2[k]).2→(lvs R).take (k+1)=(lvs R2).take (k+1) from fun e=>by
     rw [List.take_succ_eq_append_getElem (by rw [qbi];exact hkl),List.take_succ_eq_append_getElem (by rw [qbi];exact hkl2),htk.out,qey hkl,qey hkl2,e])
    have HF:=hide (show ¬(R[k]).2=(R2[k]).2→decide (lvs R=lvs R2)=false from fun e=>by
     rw [decide_eq_false];intro h;apply e
     have h1:(lvs R)[k]? =(lvs R2)[k]?:=by rw [h]
     rw [List.getElem?_eq_getElem (by rw [qbi];exact hkl),List.getElem?_eq_getElem (by rw [qbi];exact hkl2),qey hkl,qey hkl2] at h1
     exact Option.some.inj h1)
    have hc:=qahh ax nx' cx _ ay ny' cy _ wr (big_lv HTF.out hkl) (hRx.carry hB.out) (hRy.carry hB.out)
    by_cases he:(R[k]).2=(R2[k]).2
    ·rw [decide_eq_true he] at hc
     have HT2:=hide (HT.out he);clear he HT HF hRx hRy hnx hny htk
     go_wp2_with fail
     refine hc.mono ?_
     rintro e w2 ⟨rfl,b2⟩;have HB2:=hide (hB.out.trans (b2.mono hB.out.size));clear hc b2 q0 p0 hB;go_wp2;go_roundw
     case rel=>exact ⟨k+1,by omega,by go_num,HT2,HB2⟩
     case measure=>simp only [intOf];omega
    ·rw [decide_eq_false he] at hc
     have HF2:=hide (HF.out he);clear he HT HF hRx hRy hnx hny htk
     go_wp2_with fail
     refine hc.mono ?_
     rintro e w2 ⟨rfl,b2⟩;have HB2:=hide (hB.out.trans (b2.mono hB.out.size));clear hc b2 q0 p0 hB;go_wp2;go_ret;exact ⟨qad HF2.out.symm,HB2.out⟩
   ·have hd:decide ((k:Int)<n)=false:=by simpa using (by omega:¬(k:Int)<n)
    have HE:=hide (show decide (lvs R=lvs R2)=true by
     rw [decide_eq_true_iff]
     have:=htk.out
     rwa [List.take_of_length_le (by rw [qbi];have:=HN.out;omega),List.take_of_length_le (by rw [qbi];have:=HN2.out;omega)] at this)
    clear htk;go_wp2;go_ret;exact ⟨qad HE.out.symm,hB.out⟩
 ·have hne:((n:Int)==(n2:Int))=false:=by simpa using (by omega:¬(n:Int)=n2)
  have HE:=hide (show decide (lvs R=lvs R2)=false by
   rw [decide_eq_false_iff_not];intro h;apply hnn
   have:=congrArg List.length h
   rw [qbi,qbi] at this
   rw [HN.out,HN2.out];exact this)
  clear hnn
  go_enter Tryz.func69,Tryz.ntmps69
  go_wp2;go_ret;exact ⟨qad HE.out.symm,Below.refl _ _⟩
theorem qtu (a:Option Addr) (n c:Nat) (R:Lvs) (nx sq:Int) (lg:List UInt8) (a2:Option Addr) (n2 c2:Nat) (R2:Lvs) (nx2 sq2:Int) (lg2:List UInt8) (w:World) (hrd:RdVw w (.slice a n c) R) (hrd2:RdVw w (.slice a2 n2 c2) R2) (hn:n≤1000) (hT:(lvs R).flatten.length≤100000):
  Calls Tryz.prog 28 #[.agg #[.slice a n c,.int .i64 nx,.int .i64 sq,.string (bs lg)],.agg #[.slice a2 n2 c2,.int .i64 nx2,.int .i64 sq2,.string (bs lg2)]] w fun e w'=>e=.returned (.bool (decide ((lvs R,nx,sq,lg)=(lvs R2,nx2,sq2,lg2))))∧Below w.heap.size w w':=by
 have HN:=hide hrd.len;have HN2:=hide hrd2.len;have HR:=hide hrd;have HR2:=hide hrd2;have HTF:=hide hT;clear hrd hrd2 hT;obtain ⟨w1,hw1⟩:∃w1,w1=w.alloc (.cells #[.slice a n c,.int .i64 nx,.int .i64 sq,.string (bs lg)] 36):=⟨_,rfl⟩
 have hb1:Below w.heap.size w w1:=by rw [hw1];exact (Below.refl _ _).alloc (Nat.le_refl _) _
 have hs1:w1.heap.size=w.heap.size+1:=by rw [hw1];simp
 obtain ⟨w2,hw2⟩:∃w2,w2=w1.alloc (.cells #[.slice a2 n2 c2,.int .i64 nx2,.int .i64 sq2,.string (bs lg2)] 36):=⟨_,rfl⟩
 have hb2:Below w1.heap.size w1 w2:=by rw [hw2];exact (Below.refl _ _).alloc (Nat.le_refl _) _
 have HA2:=hide ((show VvAt w1 w.heap.size (.slice a n c) nx sq lg by rw [hw1];exact VvAt.new w _ nx sq lg).carry hb2);have HC2:=hide (show VvAt w2 (w.heap.size+1) (.slice a2 n2 c2) nx2 sq2 lg2 by rw [hw2,←hs1];exact VvAt.new w1 _ _ _ _);have HB2:=hide (hb1.trans (hb2.mono hb1.size));clear hb1 hb2 hs1
 have HEQ:=hide (show ((lvs R,nx,sq,lg)=(lvs R2,nx2,sq2,lg2))↔nx=nx2∧sq=sq2∧lg=lg2∧lvs R=lvs R2 from by
  simp only [Prod.mk.injEq]
  exact ⟨fun ⟨h1,h2,h3,h4⟩=>⟨h2,h3,h4,h1⟩,fun ⟨h1,h2,h3,h4⟩=>⟨h4,h1,h2,h3⟩⟩)
 obtain ⟨P,hP⟩:∃P,P=decide ((lvs R,nx,sq,lg)=(lvs R2,nx2,sq2,lg2)):=⟨_,rfl⟩;rw [←hP];have HPI:=hide (show P=true↔nx=nx2∧sq=sq2∧lg=lg2∧lvs R=lvs R2 by rw [hP,decide_eq_true_iff];exact HEQ.out);clear hP HEQ;obtain ⟨v0,v1,v2,v3⟩:=HA2.out.cells;obtain ⟨u0,u1,u2,u3⟩:=HC2.out.cells;have hes:=eq_bs lg lg2
 by_cases e1:nx=nx2
 rotate_left
 ·have d1:(nx==nx2)=false:=by simpa using e1
  have HE:=hide (show P=false by rw [←Bool.not_eq_true,HPI.out];exact fun h=>e1 h.1);clear e1 hes
  go_enter Tryz.func28,Tryz.ntmps28
  go_wp2_with fail
  rw [←hw1,←hw2];clear hw1 hw2
  go_wp2_with fail
  go_ret;exact ⟨qad (by rw [HE.out];try simp),HB2.out⟩
 subst e1
 by_cases e2:sq=sq2
 rotate_left
 ·have d2:(sq==sq2)=false:=by simpa using e2
  have HE:=hide (show P=false by rw [←Bool.not_eq_true,HPI.out];exact fun h=>e2 h.2.1);clear e2 hes
  go_enter Tryz.func28,Tryz.ntmps28
  go_wp2_with fail
  rw [←hw1,←hw2];clear hw1 hw2
  go_wp2_with fail
  go_ret;exact ⟨qad (by rw [HE.out];try simp),HB2.out⟩
 subst e2
 by_cases e3:lg=lg2
 rotate_left
 ·have d3:((bs lg).toList==(bs lg2).toList)=false:=by rw [hes];simpa using e3
  have HE:=hide (show P=false by rw [←Bool.not_eq_true,HPI.out];exact fun h=>e3 h.2.2.1);clear e3 hes
  go_enter Tryz.func28,Tryz.ntmps28
  go_wp2_with fail
  rw [←hw1,←hw2];clear hw1 hw2
  go_wp2_with fail
  go_ret;exact ⟨qad (by rw [HE.out];try simp),HB2.out⟩
 subst e3;clear hes;have hc:=qacu a n c R a2 n2 c2 R2 w2 (HR.out.carry HB2.out) (HR2.out.carry HB2.out) hn HTF.out;have HE:=hide (show P=decide (lvs R=lvs R2) by rw [Bool.eq_iff_iff,HPI.out,decide_eq_true_iff];exact ⟨fun h=>h.2.2.2,fun h=>⟨rfl,rfl,rfl,h⟩⟩);obtain ⟨D,hD⟩:∃D,D=decide (lvs R=lvs R2):=⟨_,rfl⟩;rw [←hD] at hc HE;clear hD
 go_enter Tryz.func28,Tryz.ntmps28
 go_wp2_with fail
 rw [←hw1,←hw2];clear hw1 hw2
 go_wp2_with fail
 refine hc.mono ?_
 rintro e w3 ⟨rfl,b3⟩;have HB3:=hide (HB2.out.trans (b3.mono HB2.out.size));clear hc b3 v0 v1 v2 v3 u0 u1 u2 u3;go_wp2;go_ret;exact ⟨qad (by rw [HE.out];try simp),HB3.out⟩
end Go.Proofs.YtmeaiocohalphaaGreatDoor
