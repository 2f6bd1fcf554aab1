/-
  Of the document's side of layer 5: Read: what its steps do to memory.
-/
import Derived.Test.YtmeaiocohalphaaGreatDoorVn9
import Derived.Lib.AppendZerosOnto
import Derived.Lib.Overlaps
import Derived.Test.YtmeaiocohalphaaGreatDoorVn8
import Derived.Test.YtmeaiocohalphaaGreatDoorRowG
import Derived.Test.YtmeaiocohalphaaGreatDoorWal6
import Derived.Test.YtmeaiocohalphaaGreatDoorMathFs6
import Derived.Test.YtmeaiocohalphaaGreatDoorFsTop3
import Derived.Test.YtmeaiocohalphaaGreatDoorMathSl
import Derived.Test.YtmeaiocohalphaaGreatDoorFiRef1
import Derived.Test.YtmeaiocohalphaaGreatDoorFiRef8
import Derived.Test.YtmeaiocohalphaaGreatDoorDMay
import Derived.Test.YtmeaiocohalphaaGreatDoorFiCut5
import Derived.Test.YtmeaiocohalphaaGreatDoorFiRef7
set_option maxHeartbeats 4000000
set_option maxRecDepth 100000
namespace Go.Proofs.YtmeaiocohalphaaGreatDoor
open Go.RowKit
set_option linter.all false
set_option synthInstance.maxHeartbeats 400000
set_option synthInstance.maxSize 4000
theorem qzo (a:Option Addr) (n c:Nat) (l:List Mta) (w:World) (hrd:RdM w (.slice a n c) l):
  Calls Tryz.prog 52 #[.slice a n c] w fun e w'=>∃b,e=.returned (.bool b)∧Hid (b=false→n≤100)∧Below w.heap.size w w':=by
 have HN:=hide hrd.len;have HR:=hide hrd;clear hrd
 by_cases h1:100<n
 ·have h1':(100:Int)<n:=by omega
  go_enter Tryz.func52,Tryz.ntmps52
  go_wp2;go_ret;exact ⟨true,rfl,hide (fun q=>by cases q),Below.refl _ _⟩
 have h1':decide ((100:Int)<n)=false:=by simpa using (by omega:¬(100:Int)<n)
 have HN1:=hide (show n≤100 by omega)
 have hn100:n≤100:=by omega
 go_enter Tryz.func52,Tryz.ntmps52
 go_wp2;clear h1 h1'
 go_loopw [3] (fun i wr=>∃k:Nat,k≤n∧i=.int .i64 k∧Hid (Below w.heap.size w wr)) (fun i _=>n - (intOf i).toNat)
 case atStart=>exact ⟨0,Nat.zero_le _,rfl,hide (Below.refl _ _)⟩
 case round=>
  obtain ⟨k,hk,rfl,hB⟩:=hrel
  by_cases hlt:k<n
  ·have hlt':(k:Int)<n:=by omega
   have hkl:k<l.length:=by have:=HN.out;omega
   obtain ⟨b,off,rfl,q0,q1,q2,q3,q4⟩:=RdM.cells HR.out hB.out k hkl;obtain ⟨x,hx⟩:∃x,x=l[k]:=⟨_,rfl⟩;rw [←hx] at q0 q1 q2 q3 q4;clear hx;have s1:=qbz x.1;have s2:=qbz (Mlo x);have s3:=qbz (Mhi x)
   by_cases l0:1000<x.1.length
   ·have m0:(1000:Int)<x.1.length:=by omega
    go_wp2;go_ret;exact ⟨true,rfl,hide (fun q=>by cases q),hB.out⟩
   have m0:decide ((1000:Int)<x.1.length)=false:=by simpa using (by omega:¬(1000:Int)<x.1.length)
   clear l0
   by_cases l1:1000<(Mlo x).length
   ·have m1:(1000:Int)<(Mlo x).length:=by omega
    go_wp2;go_ret;exact ⟨true,rfl,hide (fun q=>by cases q),hB.out⟩
   have m1:decide ((1000:Int)<(Mlo x).length)=false:=by simpa using (by omega:¬(1000:Int)<(Mlo x).length)
   clear l1
   by_cases l2:1000<(Mhi x).length
   ·have m2:(1000:Int)<(Mhi x).length:=by omega
    go_wp2;go_ret;exact ⟨true,rfl,hide (fun q=>by cases q),hB.out⟩
   have m2:decide ((1000:Int)<(Mhi x).length)=false:=by simpa using (by omega:¬(1000:Int)<(Mhi x).length)
   clear l2;go_wp2;go_roundw
   case rel=>exact ⟨k+1,by omega,by go_num,hB⟩
   case measure=>simp only [intOf];omega
  ·have hd:decide ((k:Int)<n)=false:=by simpa using (by omega:¬(k:Int)<n)
   go_wp2;go_ret;exact ⟨false,rfl,hide (fun _=>HN1.out),hB.out⟩
theorem qad7 (a:Option Addr) (n c:Nat) (R:Lvs) (nx sq:Int) (lg:List UInt8) (w:World) (hrd:RdVw w (.slice a n c) R):
  Calls Tryz.prog 19 #[.agg #[.slice a n c,.int .i64 nx,.int .i64 sq,.string (bs lg)]] w fun e w'=>∃b,e=.returned (.bool b)∧Hid (b=false→n≤20∧(lvs R).flatten.length≤2000)∧Below w.heap.size w w':=by
 have HN:=hide hrd.len;have HR:=hide hrd;clear hrd;obtain ⟨w1,hw1⟩:∃w1,w1=w.alloc (.cells #[.slice a n c,.int .i64 nx,.int .i64 sq,.string (bs lg)] 36):=⟨_,rfl⟩;have HB1:=hide (show Below w.heap.size w w1 by rw [hw1];exact (Below.refl _ _).alloc (Nat.le_refl _) _);have HV1:=hide (show VvAt w1 w.heap.size (.slice a n c) nx sq lg by rw [hw1];exact VvAt.new w _ nx sq lg);obtain ⟨v0,v1,v2,v3⟩:=HV1.out.cells;have hs:=qbz lg
 by_cases h1:20<n
 ·have h1':(20:Int)<n:=by omega
  go_enter Tryz.func19,Tryz.ntmps19
  go_wp2_with fail
  rw [←hw1];clear hw1;go_wp2;go_ret;exact ⟨true,rfl,hide (fun q=>by cases q),HB1.out⟩
 have h1':decide ((20:Int)<n)=false:=by simpa using (by omega:¬(20:Int)<n)
 by_cases h2:1000<lg.length
 ·have h2':(1000:Int)<lg.length:=by omega
  clear h1
  go_enter Tryz.func19,Tryz.ntmps19
  go_wp2_with fail
  rw [←hw1];clear hw1;go_wp2;go_ret;exact ⟨true,rfl,hide (fun q=>by cases q),HB1.out⟩
 have h2':decide ((1000:Int)<lg.length)=false:=by simpa using (by omega:¬(1000:Int)<lg.length)
 have HN1:=hide (show n≤20 by omega)
 have hn20:n≤20:=by omega
 clear h2
 go_enter Tryz.func19,Tryz.ntmps19
 go_wp2_with fail
 rw [←hw1];clear hw1
 go_wp2_with fail
 clear h1 h1' h2' v0 v1 v2 v3
 go_loopw [3] (fun i wr=>∃k:Nat,k≤n∧i=.int .i64 k∧Hid (cntW R k≤k*100)∧Hid (VvAt wr w.heap.size (.slice a n c) nx sq lg)∧Hid (Below w.heap.size w wr)) (fun i _=>n - (intOf i).toNat)
 case atStart=>exact ⟨0,Nat.zero_le _,rfl,hide (by rw [qadg];omega),HV1,HB1⟩
 case round=>
  obtain ⟨k,hk,rfl,hC,hV,hB⟩:=hrel;clear HB1 HV1;obtain ⟨v0,v1,v2,v3⟩:=hV.out.cells
  by_cases hlt:k<n
  ·have hlt':(k:Int)<n:=by omega
   have hkl:k<R.length:=by have:=HN.out;omega
   obtain ⟨b,off,ax,nx',cx,rfl,q0,hRx,hnx⟩:=HR.out.cells hB.out k hkl;have HS:=hide (qxx R k hkl);have hc:=qzo ax nx' cx _ wr (hRx.carry hB.out);have HNX:=hide hnx;clear hRx hnx
   go_wp2_with fail
   refine hc.mono ?_
   rintro e w2 ⟨bb,rfl,hbb,b2⟩;have HV2:=hide (hV.out.carry b2);have HB2:=hide (hB.out.trans (b2.mono hB.out.size));clear hc b2 v0 v1 v2 v3 q0 hV hB
   cases bb with
   | true=>
    go_wp2;go_ret;exact ⟨true,rfl,hide (fun q=>by cases q),HB2.out⟩
   | false=>
    have HC2:=hide (show cntW R (k+1)≤(k+1)*100 by have h1:=hbb.out rfl;have h2:=HNX.out;have h3:=HS.out;have h4:=hC.out;omega);clear hbb hC;go_wp2;go_roundw
    case rel=>exact ⟨k+1,by omega,by go_num,HC2,HV2,HB2⟩
    case measure=>simp only [intOf];omega
  ·have hd:decide ((k:Int)<n)=false:=by simpa using (by omega:¬(k:Int)<n)
   have HF:=hide (show (lvs R).flatten.length≤2000 by
    rw [←qxy R];have h1:=hC.out;have h2:=HN.out
    have:k=R.length:=by omega
    rw [←this];omega)
   clear hC;go_wp2;go_ret;exact ⟨false,rfl,hide (fun _=>⟨HN1.out,HF.out⟩),hB.out⟩
theorem qgm {w a b:World} (h:Hid (Below w.heap.size w a)) (k:Below a.heap.size a b):Hid (Below w.heap.size w b):=hide (h.out.trans (k.mono h.out.size))
theorem AnsV.any9 {base:Nat} {L:List (List Mta)} {nx sq:Int} {lg:List UInt8} {k:Int} {e:Ending} {w':World} (h:AnsV base (L,nx,sq,lg) k e w'):∃a n c S,e=.returned (.tuple #[.agg #[.slice a n c,.int .i64 nx,.int .i64 sq,.string (bs lg)],.int .i64 k])∧OwVw w' base (.slice a n c) S∧lvs S=L∧n=L.length:=by
 obtain ⟨v,S,rfl,ho,hS⟩:=h;obtain ⟨a,c,rfl⟩:=OwG.form ho.1;exact ⟨a,_,c,S,rfl,ho,hS,by rw [←qav,hS]⟩
theorem qzp (x:FsV) (f:Fsd) (w:World) (h:RdX w x f) (hs:(∀g∈f.2.2.1,g.2.length≤1000000000000000)∧∀g∈f.2.2.2,g.2.length≤1000000000000000):
  Calls Tryz.prog 18 #[x.val] w fun e w'=>∃r,e=.returned (.bool r)∧(r=false→(f.1.1.length≤100000∧f.1.2.1.length≤2000∧f.1.2.2.length≤2000)∧okG f.2.2.1∧okG f.2.2.2)∧Below w.heap.size w w':=by
 have HSZ:=hide hs;clear hs;obtain ⟨w1,ew⟩:∃w1,w.alloc (.cells x.cs 33)=w1:=⟨_,rfl⟩
 have hb1:Below w.heap.size w w1:=by rw [←ew];exact (Below.refl _ _).alloc (Nat.le_refl _) _
 have qbe:=hide (show FsAt w1 w.heap.size x by rw [←ew];exact Bq.new _ _ _);obtain ⟨k0,k1,k2,k3,k4,k5⟩:=qab qbe.out;have HX:=hide h;have qad:=hide hb1;clear h hb1;unfold FsV.val;unfold FsV.cs at ew
 go_enter Tryz.func18,Tryz.ntmps18
 go_wp2_with fail
 refine (qabf (d:=f.1) w1 (HX.out.d.carry qad.out)).mono ?_
 rintro e w2 ⟨⟨r1,rfl,hr1⟩,hb2⟩;have qb9:=hide (qbe.out.carry hb2);have qae:=bT qad hb2;clear k0 k1 k2 k3 k4 k5 ew hb2;have H1:=hide hr1;clear hr1
 cases r1 with
 | true=>
  go_wp2;go_ret;exact ⟨_,rfl,(fun h=>by cases h),qae.out⟩
 | false=>
 obtain ⟨k0,k1,k2,k3,k4,k5⟩:=qab qb9.out
 go_wp2_with fail
 refine (qoe _ _ _ f.2.2.1 w2 (HX.out.fl.carry qae.out) HX.out.n4 HSZ.out.1).mono ?_
 rintro e w3 ⟨r2,rfl,hr2,hb3⟩;have qht:=hide (qb9.out.carry hb3);have qak:=bT qae hb3;clear k0 k1 k2 k3 k4 k5 hb3;have H2:=hide hr2;clear hr2
 cases r2 with
 | true=>
  go_wp2;go_ret;exact ⟨_,rfl,(fun h=>by cases h),qak.out⟩
 | false=>
 obtain ⟨k0,k1,k2,k3,k4,k5⟩:=qab qht.out
 go_wp2_with fail
 refine (qoe _ _ _ f.2.2.2 w3 (HX.out.kl.carry qak.out) HX.out.n5 HSZ.out.2).mono ?_
 rintro e w4 ⟨r3,rfl,hr3,hb4⟩;have qbh:=bT qak hb4;clear k0 k1 k2 k3 k4 k5 hb4;have H3:=hide hr3;clear hr3;go_wp2;go_ret;exact ⟨r3,rfl,fun h=>⟨H1.out (by trivial),H2.out (by trivial),H3.out h⟩,qbh.out⟩
set_option synthInstance.maxHeartbeats 400000
set_option synthInstance.maxSize 4000
theorem qahu (b:List UInt8):(redV b).1.length≤4∧(redV b).1.flatten.length≤128:=by
 unfold redV
 split
 ·exact ⟨by show (levM 4 (some b)).1.length≤4;rw [qwd];exact Nat.le_refl _,qth _⟩
 ·exact ⟨by simp [zerV],by simp [zerV]⟩
theorem qalr (f:Fsd):(lodV f).1.length≤4∧(lodV f).1.flatten.length≤128:=by
 have hz:zerV.1.length≤4∧zerV.1.flatten.length≤128:=⟨by simp [zerV],by simp [zerV]⟩;unfold lodV
 split
 ·exact hz
 ·unfold hldV
  split
  ·exact hz
  ·split
   ·exact qahu _
   ·exact hz
def RdrAt (w:World) (q:Nat) (v:Value) (bad:Bool):Prop:=w.heap[q]? =some (.cells #[v,.bool bad] 200 (0,0))
theorem RdrAt.cell0 {w:World} {q:Nat} {v:Value} {bad:Bool} (h:RdrAt w q v bad):w.cell? ⟨q,0,none⟩=some v:=by rw [cell_of_row w q 0 _ _ (0,0) h];rfl
theorem RdrAt.cell1 {w:World} {q:Nat} {v:Value} {bad:Bool} (h:RdrAt w q v bad):w.cell? ⟨q,1,none⟩=some (.bool bad):=by rw [cell_of_row w q 1 _ _ (0,0) h];rfl
theorem RdrAt.carry {w w':World} {q:Nat} {v:Value} {bad:Bool} (h:RdrAt w q v bad) (hb:Below w.heap.size w w'):RdrAt w' q v bad:=(hb.block q (Array.getElem?_eq_some_iff.1 h).1).trans h
theorem RdrAt.new (w:World) (v:Value) (bad:Bool):RdrAt (w.alloc (.cells #[v,.bool bad] 200)) w.heap.size v bad:=heap_alloc_new w _
theorem RdrAt.put0 {w:World} {q:Nat} {v:Value} {bad:Bool} (h:RdrAt w q v bad) (u:Value):RdrAt (w.setCell ⟨q,0,none⟩ u) q u bad:=by
 have a1:=heap_setCell_same w q 0 _ 200 u h;unfold RdrAt
 rw [a1];rfl
theorem RdrAt.put1 {w:World} {q:Nat} {v:Value} {bad:Bool} (h:RdrAt w q v bad) (u:Bool):RdrAt (w.setCell ⟨q,1,none⟩ (.bool u)) q v u:=by
 have a1:=heap_setCell_same w q 1 _ 200 (.bool u) h;unfold RdrAt
 rw [a1];rfl
theorem qad8 (q:Nat) (a:Option Addr) (n c:Nat) (l:List UInt8) (bad:Bool) (m k most:Nat) (w:World) (hq:RdrAt w q (.slice a n c) bad) (hrd:Rd w (.slice a n c) l) (hl:l.length≤1000000) (h:rd l=some (m,k)) (hm:m≤most):
  Calls Tryz.prog 136 #[.pointer (some ⟨q,0,none⟩),.int .u64 most] w fun e w'=>∃a2 c2,e=.returned (.int .u64 m)∧SubX (.slice a n c) l (.slice a2 (l.drop k).length c2) (l.drop k)∧w'=w.setCell ⟨q,0,none⟩ (.slice a2 (l.drop k).length c2):=by
 have hread:=qgz w (by omega) hrd;rw [h] at hread;unfold rdV at hread;obtain ⟨hk0,hkl,hk10,hn64⟩:=qhj h;have x0:=hq.cell0;have z0:=frozen_of_row w q 0 _ _ hq
 rcases hrd with ⟨hl,_⟩ | ⟨b,off,c',e,h1,h2,h3⟩
 ·rw [hl] at hkl;simp at hkl;omega
 obtain ⟨nn,hnn⟩:∃nn,nn=l.length:=⟨_,rfl⟩;rw [←hnn] at e h1 hkl;cases e
 have g1:decide ((most:Int)<m)=false:=by simpa using (by omega:¬(most:Int)<m)
 have g3:(k:Int)≤n:=by omega
 have g4:(0:Int)≤k:=by omega
 have g5:(n:Int)≤c:=by omega
 unfold maxLen at h2;have HRL:=hide (show (l.drop k).length=n - k by rw [List.length_drop,←hnn])
 by_cases hck:k=c
 ·have HX:=hide (show SubX (.slice (some ⟨b,off,none⟩) n c) l (.slice (some ⟨b,off,none⟩) (l.drop k).length 0) (l.drop k) from qqb (List.drop_of_length_le (by omega)) 0)
  have hkn:n=k:=by omega
  have HRL0:=hide (show (l.drop k).length=0 by have:=HRL.out;omega);rw [HRL0.out] at HX ⊢;subst hck;subst hkn;clear h3 h hnn hkl h1 h2 hl hq HRL HRL0
  go_enter Tryz.func136,Tryz.ntmps136
  go_wp2_with fail
  refine hread.mono ?_
  rintro e w1 ⟨rfl,rfl⟩;clear hread;go_wp2;go_ret;exact ⟨some ⟨b,off,none⟩,0,rfl,HX.out,rfl⟩
 ·have HX:=hide (show SubX (.slice (some ⟨b,off,none⟩) n c) l (.slice (some ⟨b,off+k,none⟩) (l.drop k).length (c - k)) (l.drop k) from qqa hnn h1 (by unfold maxLen;omega) hkl hck)
  rw [HRL.out] at HX ⊢;clear h3 h hnn hl hq HRL
  go_enter Tryz.func136,Tryz.ntmps136
  go_wp2_with fail
  refine hread.mono ?_
  rintro e w1 ⟨rfl,rfl⟩;clear hread;go_wp2;go_ret;exact ⟨some ⟨b,off+k,none⟩,c - k,rfl,HX.out,rfl⟩
theorem qzq (q:Nat) (a:Option Addr) (n c:Nat) (l:List UInt8) (bad:Bool) (most:Nat) (w:World) (hq:RdrAt w q (.slice a n c) bad) (hrd:Rd w (.slice a n c) l) (hl:l.length≤1000000) (h:∀m k,rd l=some (m,k)→most<m):
  Calls Tryz.prog 136 #[.pointer (some ⟨q,0,none⟩),.int .u64 most] w fun e w'=>e=.returned (.int .u64 0)∧w'=w.setCell ⟨q,1,none⟩ (.bool true):=by
 have hread:=qgz w (by omega) hrd;have x0:=hq.cell0;have x1:=hq.cell1;have z1:=frozen_of_row w q 1 _ _ hq
 cases e:rd l with
 | none=>
  rw [e] at hread;unfold rdV at hread;clear hrd h e hq
  go_enter Tryz.func136,Tryz.ntmps136
  go_wp2_with fail
  refine hread.mono ?_
  rintro e w1 ⟨rfl,rfl⟩;clear hread;go_wp2;go_ret;exact ⟨rfl,rfl⟩
 | some p=>
  obtain ⟨m,k⟩:=p;have hm:=h m k e;rw [e] at hread;unfold rdV at hread
  have g1:(most:Int)<m:=by omega
  clear hrd h e hq
  go_enter Tryz.func136,Tryz.ntmps136
  go_wp2_with fail
  refine hread.mono ?_
  rintro e w1 ⟨rfl,rfl⟩;clear hread;go_wp2;go_ret;exact ⟨rfl,rfl⟩
theorem qms (m:Nat) (h:m≤1000000):wrap64 (m:Int)=(m:Int):=by unfold wrap64;omega
theorem qad9 (k m s:Nat) (h:k+m≤1000000) (hs:s=k+m):wrap64 ((k:Int)+m)=(s:Int):=by unfold wrap64;omega
theorem qals {n k m:Nat} (h:k+m≤n):decide ((n:Int) - k<m)=false:=decide_eq_false (by omega)
theorem qalt {n k m:Nat} (hk:k≤n) (h:¬m≤n - k):(n:Int) - k<m:=by omega
theorem qalu {w:World} {b off n c k m:Nat} {l:List UInt8} (hn:n=l.length) (hk:k+m≤n) (hm:c≤maxLen) (hnc:n≤c) (h:Rd w (.slice (some ⟨b,off,none⟩) n c) l) (hlen:0<n) (c':Nat) (hc':m≤c') (hc2:c'≤maxLen):Rd w (.slice (some ⟨b,off+k,none⟩) m c') ((l.drop k).take m):=by
 subst hn
 have hl:((l.drop k).take m).length=m:=by rw [List.length_take,List.length_drop];omega
 rcases h with ⟨h,_⟩ | ⟨b',off',c1,e,h1,h2,h3⟩
 ·rw [h] at hlen;simp at hlen
 ·cases e
  refine .inr ⟨b,off+k,c',by rw [hl],by omega,hc2,fun j hj=>?_⟩;rw [hl] at hj;rw [show off+k+j=off+(k+j) by omega,h3 (k+j) (by omega)]
  simp
theorem qalv (q:Nat) (a:Option Addr) (n c:Nat) (l:List UInt8) (bad:Bool) (s r:List UInt8) (w:World) (hq:RdrAt w q (.slice a n c) bad) (hrd:Rd w (.slice a n c) l) (hl:l.length≤1000000) (h:ct l=some (s,r)):
  Calls Tryz.prog 137 #[.pointer (some ⟨q,0,none⟩)] w fun e w'=>∃a2 c2,e=.returned (.string (bs s))∧SubX (.slice a n c) l (.slice a2 r.length c2) r∧w'=w.setCell ⟨q,0,none⟩ (.slice a2 r.length c2):=by
 cases hr:rd l with
 | none=>rw [qo2 hr] at h;cases h
 | some p=>
 obtain ⟨m,k⟩:=p
 by_cases hmk:m≤l.length - k
 case neg=>rw [qo3 hr hmk] at h;cases h
 rw [qi8 hr hmk] at h
 injection h with h
 injection h with es er
 have hread:=qgz w (by omega) hrd;rw [hr] at hread;unfold rdV at hread;obtain ⟨hk0,hkl,hk10,hn64⟩:=qhj hr;have x0:=hq.cell0;have z0:=frozen_of_row w q 0 _ _ hq;have hrd':=hrd
 rcases hrd with ⟨hl0,_⟩ | ⟨b,off,c',e,h1,h2,h3⟩
 ·rw [hl0] at hkl;simp at hkl;omega
 obtain ⟨nn,hnn⟩:∃nn,nn=l.length:=⟨_,rfl⟩;rw [←hnn] at e h1 hkl hmk
 have hl2:nn≤1000000:=by omega
 cases e;have hmx:=hide h2;clear h2 hn64;have hd1:m≤n - k:=hmk;obtain ⟨d,hd⟩:∃d,d=n - k:=⟨_,rfl⟩;rw [←hd] at hmk hd1
 have hdk:k+d=n:=by rw [hd];exact Nat.add_sub_cancel' hkl
 have hmm:k+m≤1000000:=Nat.le_trans (Nat.le_trans (Nat.add_le_add_left hmk k) (Nat.le_of_eq hdk)) hl2;have hd2:d≤1000000:=Nat.le_trans (Nat.le_trans (Nat.le_add_left d k) (Nat.le_of_eq hdk)) hl2;have hkmn:k+m≤n:=Nat.le_trans (Nat.add_le_add_left hmk k) (Nat.le_of_eq hdk);have g1:decide ((n:Int) - k<m)=false:=qals hkmn;have g2:wrap64 (m:Int)=m:=qms m (Nat.le_trans (Nat.le_add_left m k) hmm);have g2b:wrap64 ((k:Int)+m)=((k+m:Nat):Int):=qad9 k m _ hmm rfl;have HDD:=hide hd;have HDK:=hide hdk;clear hd hdk hd1;have g3:(k:Int)≤n:=Int.ofNat_le.2 hkl;have g4:(0:Int)≤k:=Int.natCast_nonneg k;have g5:(n:Int)≤c:=Int.ofNat_le.2 h1;have g6:((k+m:Nat):Int)≤n:=Int.ofNat_le.2 hkmn;have g7:((k+m:Nat):Int)≤c:=Int.ofNat_le.2 (Nat.le_trans hkmn h1);have g8:(k:Int)≤((k+m:Nat):Int):=Int.ofNat_le.2 (Nat.le_add_right k m);have HRL:=hide (show r.length=n - (k+m) by rw [←er,List.length_drop,←hnn])
 have hcv:∀aa cc,Rd w (.slice aa m cc) s→(convert 23 9 (.slice aa m cc)).run Tryz.prog w=.ok (.string (bs s)) w:=fun aa cc h=>qb1 _ _ _ Tryz.underlying23 Tryz.underlying5 Tryz.underlying9 h
 have HRS:=hide (fun c' h2 h4=>qalu (m:=m) (k:=k) hnn hkmn hmx.out h1 hrd' (Nat.lt_of_lt_of_le hk0 hkl) c' h2 h4);have hes:=es;subst es;have HER:=hide er
 by_cases hck:k=c
 ·have hkn:n=k:=by omega
  have hm0:m=0:=by omega
  subst hm0;subst hck;subst hkn;have HX:=hide (show SubX (.slice (some ⟨b,off,none⟩) n n) l (.slice (some ⟨b,off,none⟩) r.length 0) r from qqb (by rw [←er];exact List.drop_of_length_le (by omega)) 0)
  have hrl0:r.length=0:=by have:=HRL.out;omega
  rw [hrl0] at HX ⊢;have hcv0:=hcv (some ⟨b,off,none⟩) 0 (by rw [List.take_zero];exact .inl ⟨rfl,.inr ⟨_,_,rfl⟩⟩);rw [List.take_zero] at hcv0 ⊢;clear hcv HRS HRL hrl0 HER er h3 hr hnn hl hq hrd' g1 g2 g2b g6 g7 g8 hmm hd2 hkmn hmk
  have k1:wrap64 ((n:Int) - n)=0:=by rw [Int.sub_self];exact qms 0 (by omega)
  go_enter Tryz.func137,Tryz.ntmps137
  go_wp2_with fail
  refine hread.mono ?_
  rintro e w1 ⟨rfl,rfl⟩;clear hread;go_wp2;go_ret;exact ⟨some ⟨b,off,none⟩,0,rfl,HX.out,rfl⟩
 ·have HC1:=hide (hcv (some ⟨b,off+k,none⟩) (c - k) (HRS.out (c - k) (by omega) (Nat.le_trans (Nat.sub_le c k) hmx.out)))
  have hcv1:=HC1.out;obtain ⟨s,hs⟩:∃s,s=(l.drop k).take m:=⟨_,rfl⟩;rw [←hs] at hcv1 ⊢
  by_cases hkm:k+m=c
  ·have HX:=hide (show SubX (.slice (some ⟨b,off,none⟩) n c) l (.slice (some ⟨b,off,none⟩) r.length 0) r from qqb (by rw [←er];exact List.drop_of_length_le (by omega)) 0)
   have hrl0:r.length=0:=by have:=HRL.out;omega
   obtain ⟨tt,htt⟩:∃tt,tt=k+m:=⟨_,rfl⟩
   have hnc:n=tt:=by omega
   have hcc:c=tt:=by omega
   subst hcc;subst hnc;rw [hrl0] at HX ⊢
   have e1:m=n - k:=by omega
   have hcv2:(convert 23 9 (.slice (some ⟨b,off+k,none⟩) (n - k) (n - k))).run Tryz.prog w=.ok (.string (bs s)) w:=by
    have:=hcv1
    rw [←e1] at this ⊢;exact this
   have hsum:(k:Int)+(m:Int)=(n:Int):=by omega
   have hkc:¬k=n:=by omega
   clear hcv HRS HRL hrl0 HER er h3 hr hnn hl hq hrd' HC1 hs htt hkm g2b g6 g7 g8 e1 hkmn hmm
   go_enter Tryz.func137,Tryz.ntmps137
   go_wp2_with fail
   refine hread.mono ?_
   rintro e w1 ⟨rfl,rfl⟩;clear hread;go_wp2;go_ret
   first
    | exact ⟨some ⟨b,off,none⟩,0,rfl,HX.out,rfl⟩
    | exact ⟨rfl,some ⟨b,off,none⟩,0,HX.out,rfl⟩
  ·have HX:=hide (show SubX (.slice (some ⟨b,off,none⟩) n c) l (.slice (some ⟨b,off+(k+m),none⟩) r.length (c - (k+m))) r by rw [←er];exact qqa hnn h1 hmx.out hkmn hkm)
   rw [HRL.out] at HX ⊢;clear hcv HRS HRL HER er h3 hr hnn hl hq hrd' HC1 hs
   go_enter Tryz.func137,Tryz.ntmps137
   go_wp2_with fail
   refine hread.mono ?_
   rintro e w1 ⟨rfl,rfl⟩;clear hread;go_wp2;go_ret;exact ⟨some ⟨b,off+(k+m),none⟩,c - (k+m),rfl,HX.out,rfl⟩
theorem qahv (q:Nat) (a:Option Addr) (n c:Nat) (l:List UInt8) (bad:Bool) (w:World) (hq:RdrAt w q (.slice a n c) bad) (hrd:Rd w (.slice a n c) l) (hn:n=l.length) (hl:l.length≤1000000) (h:ct l=none):
  Calls Tryz.prog 137 #[.pointer (some ⟨q,0,none⟩)] w fun e w'=>e=.returned (.string {data:=#[]})∧w'=w.setCell ⟨q,1,none⟩ (.bool true):=by
 have hread:=qgz w (by omega) hrd;have x0:=hq.cell0;have x1:=hq.cell1;have z1:=frozen_of_row w q 1 _ _ hq
 cases e:rd l with
 | none=>
  rw [e] at hread;unfold rdV at hread;clear hrd h e hq hn
  go_enter Tryz.func137,Tryz.ntmps137
  go_wp2_with fail
  refine hread.mono ?_
  rintro e w1 ⟨rfl,rfl⟩;clear hread;go_wp2;go_ret;exact ⟨rfl,rfl⟩
 | some p=>
  obtain ⟨m,k⟩:=p;obtain ⟨hk0,hkl,hk10,hn64⟩:=qhj e
  have hmk:¬m≤l.length - k:=fun hmk=>by rw [qi8 e hmk] at h;cases h
  rw [e] at hread;unfold rdV at hread;rw [←hn] at hmk hkl;have g1:(n:Int) - k<m:=qalt hkl hmk
  have hl2:n≤1000000:=by omega
  clear hrd h e hq hn hmk
  go_enter Tryz.func137,Tryz.ntmps137
  go_wp2_with fail
  refine hread.mono ?_
  rintro e w1 ⟨rfl,rfl⟩;clear hread;go_wp2;go_ret;exact ⟨rfl,rfl⟩
def NumR (most:Nat) (l:List UInt8) (bad:Bool) (m:Nat) (l':List UInt8) (bad':Bool):Prop:=
 (∃k,rd l=some (m,k)∧m≤most∧l'=l.drop k∧bad'=bad)∨((∀x k,rd l=some (x,k)→most<x)∧m=0∧l'=l∧bad'=true)
def TxtR (l:List UInt8) (bad:Bool) (s:List UInt8) (l':List UInt8) (bad':Bool):Prop:=
 (ct l=some (s,l')∧bad'=bad)∨(ct l=none∧s=[]∧l'=l∧bad'=true)
theorem NumR.le {most:Nat} {l l':List UInt8} {bad bad':Bool} {m:Nat} (h:NumR most l bad m l' bad'):m≤most∧l'.length≤l.length:=by
 rcases h with ⟨k,_,h,rfl,_⟩ | ⟨_,rfl,rfl,_⟩
 ·exact ⟨h,by rw [List.length_drop];omega⟩
 ·exact ⟨Nat.zero_le _,Nat.le_refl _⟩
theorem NumR.exact {most:Nat} {l' r:List UInt8} {bad bad':Bool} {m v:Nat} (h:NumR most (sm v++r) bad m l' bad') (hv:v≤most) (hm:v<18446744073709551616):m=v∧l'=r∧bad'=bad:=by
 have e:=qajx v hm r
 rcases h with ⟨k,h1,h2,h3,h4⟩ | ⟨h1,_⟩
 ·rw [e] at h1
  injection h1 with h1
  injection h1 with a1 a2
  subst a1 a2;exact ⟨rfl,by rw [h3];simp,h4⟩
 ·have:=h1 _ _ e
  omega
theorem TxtR.le {l l' s:List UInt8} {bad bad':Bool} (h:TxtR l bad s l' bad'):l'.length≤l.length:=by
 rcases h with ⟨h,_⟩ | ⟨_,_,rfl,_⟩
 ·have:=congrArg List.length (qne h)
  rw [List.length_append] at this;omega
 ·exact Nat.le_refl _
theorem TxtR.exact {l' r s t:List UInt8} {bad bad':Bool} (h:TxtR (tx t++r) bad s l' bad') (ht:t.length<18446744073709551616):s=t∧l'=r∧bad'=bad:=by
 have e:=ct_tx t r ht
 rcases h with ⟨h1,h2⟩ | ⟨h1,_⟩
 ·rw [e] at h1
  injection h1 with h1
  injection h1 with a1 a2
  exact ⟨a1.symm,a2.symm,h2⟩
 ·rw [e] at h1;cases h1
def RdrP (q:Nat) (v:Value) (l:List UInt8) (w:World) (l':List UInt8) (bad':Bool) (w':World):Prop:=
 ∃a2 c2,SubX v l (.slice a2 l'.length c2) l'∧RdrAt w' q (.slice a2 l'.length c2) bad'∧w.grownBy w' (some q)∧KeepT 200 w w'
theorem qfc (q:Nat) (a:Option Addr) (n c:Nat) (l:List UInt8) (bad:Bool) (most:Nat) (w:World) (hq:RdrAt w q (.slice a n c) bad) (hrd:Rd w (.slice a n c) l) (hn:n=l.length) (hl:l.length≤1000000):
  Calls Tryz.prog 136 #[.pointer (some ⟨q,0,none⟩),.int .u64 most] w fun e w'=>∃m l' bad',e=.returned (.int .u64 (m:Nat))∧NumR most l bad m l' bad'∧RdrP q (.slice a n c) l w l' bad' w':=by
 by_cases h:∃m k,rd l=some (m,k)∧m≤most
 ·obtain ⟨m,k,h1,h2⟩:=h
  refine (qad8 q a n c l bad m k most w hq hrd hl h1 h2).mono ?_
  rintro e w' ⟨a2,c2,rfl,hs,rfl⟩;exact ⟨m,l.drop k,bad,rfl,.inl ⟨k,h1,h2,rfl,rfl⟩,a2,c2,hs,hq.put0 _,qai w ⟨q,0,none⟩ _,KeepT.set hq⟩
 ·refine (qzq q a n c l bad most w hq hrd hl (fun m k e=>?_)).mono ?_
  ·by_cases hm:m≤most
   ·exact absurd ⟨m,k,e,hm⟩ h
   ·omega
  ·rintro e w' ⟨rfl,rfl⟩
   refine ⟨0,l,true,rfl,.inr ⟨fun m k e=>?_,rfl,rfl,rfl⟩,a,c, ?_, ?_,qai w ⟨q,1,none⟩ _,KeepT.set hq⟩
   ·by_cases hm:m≤most
    ·exact absurd ⟨m,k,e,hm⟩ h
    ·omega
   ·rw [hn];exact SubX.refl _ _
   ·rw [←hn];exact hq.put1 true
theorem qx6 (q:Nat) (a:Option Addr) (n c:Nat) (l:List UInt8) (bad:Bool) (w:World) (hq:RdrAt w q (.slice a n c) bad) (hrd:Rd w (.slice a n c) l) (hn:n=l.length) (hl:l.length≤1000000):
  Calls Tryz.prog 137 #[.pointer (some ⟨q,0,none⟩)] w fun e w'=>∃s l' bad',e=.returned (.string (bs s))∧TxtR l bad s l' bad'∧RdrP q (.slice a n c) l w l' bad' w':=by
 cases h:ct l with
 | some p=>
  obtain ⟨s,r⟩:=p
  refine (qalv q a n c l bad s r w hq hrd hl h).mono ?_
  rintro e w' ⟨a2,c2,rfl,hs,rfl⟩;exact ⟨s,r,bad,rfl,.inl ⟨h,rfl⟩,a2,c2,hs,hq.put0 _,qai w ⟨q,0,none⟩ _,KeepT.set hq⟩
 | none=>
  refine (qahv q a n c l bad w hq hrd hn hl h).mono ?_
  rintro e w' ⟨rfl,rfl⟩;refine ⟨[],l,true,rfl,.inr ⟨h,rfl,rfl,rfl⟩,a,c, ?_, ?_,qai w ⟨q,1,none⟩ _,KeepT.set hq⟩
  ·rw [hn];exact SubX.refl _ _
  ·rw [←hn];exact hq.put1 true
theorem qdt {x0 x x9:World} {r:Option Nat} (h:x0.grownBy x r) (hb:Below x0.heap.size x x9):x0.grownBy x9 r:=⟨hb.os.trans h.os,hb.tape.trans h.tape,hb.output.trans h.output,Nat.le_trans h.size hb.size,fun k hk hr=>(hb.block k hk).trans (h.block k hk hr)⟩
theorem DirAt.keepT {w w':World} {q:Nat} {y:Value} {t:TypeId} (h:DirAt w q y) (ht:31≠t) (hk:KeepT t w w'):DirAt w' q y:=hk q _ _ _ ht h
theorem BlkD.keepT {w w':World} {q:Nat} {t:TypeId} (h:BlkD w q) (ht:31≠t) (hk:KeepT t w w'):BlkD w' q:=by obtain ⟨y,h⟩:=h;exact ⟨y,hk q _ _ _ ht h⟩
theorem FileAt.keepT {w w':World} {q:Nat} {s:ByteArray} {y:Value} {t:TypeId} (h:FileAt w q s y) (ht:98≠t) (hk:KeepT t w w'):FileAt w' q s y:=hk q _ _ _ ht h
theorem ExtAt.keepT {w w':World} {q:Nat} {x y:Value} {t:TypeId} (h:ExtAt w q x y) (ht:237≠t) (hk:KeepT t w w'):ExtAt w' q x y:=hk q _ _ _ ht h
theorem RdrAt.keepT {w w':World} {q:Nat} {v:Value} {bad:Bool} {t:TypeId} (h:RdrAt w q v bad) (ht:200≠t) (hk:KeepT t w w'):RdrAt w' q v bad:=hk q _ _ _ ht h
def qalw (fs:List Fl):Prop:=fs.length≤40∧∀f∈fs,f.1.length≤16∧f.2.length≤64∧∀x∈f.2,smX x
theorem qahw {fs:List Fl} {B:Int} (h:mayF fs B) (hB:B≤4096):qalw fs:=by
 refine ⟨h.1,fun f hf=>?_⟩;have h1:=qdg (h.2.1.1 f hf);exact ⟨by omega,by omega,((qaas h hB).2 f hf).2.2⟩
def OutQ (b:List UInt8) (nn k:Nat) (ds:List Fl) (l:List UInt8) (bad:Bool):Prop:=
 ∀fs,bytF fs=b→qalw fs→nn=fs.length∧ds=fs.take k∧l=(fs.drop k).flatMap qcf∧bad=false
def InQ (b:List UInt8) (k:Nat) (s:List UInt8) (m j:Nat) (es:List Ex) (l:List UInt8) (bad:Bool):Prop:=
 ∀fs,bytF fs=b→qalw fs→∃hk:k<fs.length,s=(fs[k]).1∧m=(fs[k]).2.length∧es=(fs[k]).2.take j∧l=bytE ((fs[k]).2.drop j)++(fs.drop (k+1)).flatMap qcf∧bad=false
theorem qzr {b l:List UInt8} {m:Nat} {bad:Bool} (h:NumR 40 b false m l bad):OutQ b m 0 [] l bad:=by
 rintro fs rfl hg;obtain ⟨a1,a2,a3⟩:=NumR.exact (v:=fs.length) (r:=fs.flatMap qcf) h hg.1 (by have:=hg.1;omega);exact ⟨a1,by simp,by simpa using a2,a3⟩
theorem qaea {b l l1 l2:List UInt8} {nn k:Nat} {ds:List Fl} {s:List UInt8} {m:Nat} {bad1 bad2:Bool} (h:OutQ b nn k ds l false) (hk:k<nn) (ht:TxtR l false s l1 bad1) (hn:NumR 64 l1 bad1 m l2 bad2):InQ b k s m 0 [] l2 bad2:=by
 rintro fs hb hg;obtain ⟨a1,a2,a3,_⟩:=h fs hb hg
 have hk':k<fs.length:=by omega
 have hf:=hg.2 _ (List.getElem_mem hk')
 have e:(fs.drop k).flatMap qcf=tx (fs[k]).1++(sm (fs[k]).2.length++(bytE (fs[k]).2++(fs.drop (k+1)).flatMap qcf)):=by
  rw [ql9 fs k hk',List.flatMap_cons];unfold qcf
  simp
 rw [a3,e] at ht;obtain ⟨b1,b2,b3⟩:=ht.exact (by omega);rw [b2,b3] at hn;obtain ⟨c1,c2,c3⟩:=hn.exact hf.2.1 (by omega);exact ⟨hk',b1,c1,by simp,by rw [c2];simp,c3⟩
theorem qahx {b l l1 l2:List UInt8} {k:Nat} {s:List UInt8} {m j:Nat} {es:List Ex} {x y:Nat} {bad1 bad2:Bool} (h:InQ b k s m j es l false) (hj:j<m) (hx:NumR 4096 l false x l1 bad1) (hy:NumR 4096 l1 bad1 y l2 bad2):InQ b k s m (j+1) (es++[((x:Int),(y:Int))]) l2 bad2:=by
 rintro fs hb hg;obtain ⟨hk,a1,a2,a3,a4,_⟩:=h fs hb hg
 have hj':j<(fs[k]).2.length:=by omega
 have hs:=(hg.2 _ (List.getElem_mem hk)).2.2 _ (List.getElem_mem hj')
 have e:bytE ((fs[k]).2.drop j)=sm ((fs[k]).2[j]).1.toNat++(sm ((fs[k]).2[j]).2.toNat++bytE ((fs[k]).2.drop (j+1))):=by
  unfold bytE;rw [ql9 (fs[k]).2 j hj',List.flatMap_cons];unfold bytX
  simp
 unfold smX at hs;rw [a4,e,List.append_assoc] at hx;obtain ⟨b1,b2,b3⟩:=hx.exact (by omega) (by omega);rw [b2,b3,List.append_assoc] at hy;obtain ⟨c1,c2,c3⟩:=hy.exact (by omega) (by omega);refine ⟨hk,a1,a2, ?_,c2,c3⟩;rw [qay (fs[k]).2 j hj',a3,b1,c1]
 congr 2
 exact Prod.ext (by simp only;omega) (by simp only;omega)
theorem qti {b l l2:List UInt8} {nn k:Nat} {ds:List Fl} {s:List UInt8} {m j:Nat} {es:List Ex} {bad:Bool} (h:OutQ b nn k ds l false) (h2:InQ b k s m j es l2 bad) (hj:j≤m) (hend:¬(j<m∧bad=false)):OutQ b nn (k+1) (ds++[(s,es)]) l2 bad:=by
 rintro fs hb hg;obtain ⟨a1,a2,a3,_⟩:=h fs hb hg;obtain ⟨hk,b1,b2,b3,b4,b5⟩:=h2 fs hb hg
 have e:j=(fs[k]).2.length:=by
  by_cases hjm:j<m
  ·exact absurd ⟨hjm,b5⟩ hend
  ·omega
 subst e;refine ⟨a1, ?_, ?_,b5⟩
 ·rw [qay fs k hk,a2,b1,b3,List.take_length]
 ·rw [b4,List.drop_length]
  simp [bytE]
theorem qalx {b:List UInt8} {B:Int} (hB:blkP B) (hl:¬2048<b.length) (e:qcv b B≠0):qcv b B=8:=by
 cases h:qc0 b with
 | none=>exact qni hB hl h
 | some p=>
  obtain ⟨fs,r⟩:=p
  cases r with
  | cons x r=>exact qnj hB hl h (by simp)
  | nil=>
   have h1:=(qnk hB hl h).1
   by_cases hm:mayF fs B
   ·rw [if_pos hm] at h1;exact absurd h1 e
   ·rw [if_neg hm] at h1;exact h1
theorem qahy {b l:List UInt8} {nn k:Nat} {ds:List Fl} {bad:Bool} {B:Int} (hB:blkP B) (hl:¬2048<b.length) (h:OutQ b nn k ds l bad) (hk:k≤nn) (hend:¬(k<nn∧bad=false)):
  (bad=false→chkF ds B=0→bytF ds=b→qcv b B=0∧qfv b B=ds)∧(¬(bad=false∧chkF ds B=0∧bytF ds=b)→qcv b B=8):=by
 refine ⟨?_, ?_⟩
 ·rintro _ h2 rfl
  exact qaat h2
 ·intro hn
  by_cases e:qcv b B=0
  ·exfalso
   obtain ⟨c1,c2⟩:=qla e;obtain ⟨a1,a2,a3,a4⟩:=h _ c2 (qahw (qeq c1).2 hB.2)
   have hkn:k=(qfv b B).length:=by
    by_cases hlt:k<nn
    ·exact absurd ⟨hlt,a4⟩ hend
    ·omega
   rw [hkn,List.take_length] at a2;exact hn ⟨a4,by rw [a2];exact c1,by rw [a2];exact c2⟩
  ·exact qalx hB hl e
theorem qzs (w:World) (r:Option Nat):w.grownBy w r:=⟨rfl,rfl,rfl,Nat.le_refl _,fun _ _ _=>rfl⟩
theorem qtj {w:World} {base q i:Nat} (hb:base≤q) (hbs:base≤w.heap.size) (u:Value):Below base w (w.setCell ⟨q,i,none⟩ u):=(Below.refl _ _).grown (qai w ⟨q,i,none⟩ u) hbs (by intro k hk;cases hk;exact hb)
theorem own_lt {w:World} {base:Nat} {v:Value} {l:List Ex} (h:OwE w base v l):∀g,v.ownBlock=some g→g<w.heap.size:=by
 intro g e
 rcases h.2 with ⟨rfl,_⟩ | ⟨g',cap,cur,rfl,_,hgc,_⟩
 ·cases e
 ·cases e
  exact (Array.getElem?_eq_some_iff.1 hgc).1
def Mem (y1:World) (Rb F Bf:Nat) (s:ByteArray) (ve:Value) (es:List Ex) (w:World):Prop:=
 FileAt w F s ve∧OwE w Bf ve es∧y1.grownBy w (some Rb)∧Bf≤w.heap.size∧(Rb<y1.heap.size∧F=y1.heap.size∧Bf=F+1)
theorem Mem.rdr {y1 w w':World} {Rb F Bf:Nat} {s:ByteArray} {ve:Value} {es:List Ex} {v:Value} {bad:Bool} (h:Mem y1 Rb F Bf s ve es w) (hr:RdrAt w Rb v bad) (hg:w.grownBy w' (some Rb)) (hk:KeepT 200 w w'):Mem y1 Rb F Bf s ve es w':=
 ⟨h.1.keepT (by decide) hk,qb8 h.2.1 hg hr (by decide),qc7 h.2.2.1 hg,Nat.le_trans h.2.2.2.1 hg.size,h.2.2.2.2⟩
theorem Mem.carry {y1 w w':World} {Rb F Bf:Nat} {s:ByteArray} {ve:Value} {es:List Ex} (h:Mem y1 Rb F Bf s ve es w) (hb:Below w.heap.size w w'):Mem y1 Rb F Bf s ve es w':=
 ⟨h.1.carry hb,h.2.1.carry hb,qdt h.2.2.1 (hb.mono h.2.2.1.size),Nat.le_trans h.2.2.2.1 hb.size,h.2.2.2.2⟩
theorem Mem.setX {y1 w:World} {Rb F Bf X:Nat} {s:ByteArray} {ve:Value} {es:List Ex} {p q:Value} (h:Mem y1 Rb F Bf s ve es w) (hx:ExtAt w X p q) (hlt:∀g,ve.ownBlock=some g→g<X) (hB:Bf≤X) (u:Value):Mem y1 Rb F Bf s ve es (w.setCell ⟨X,1,none⟩ u):=by
 have hg:=qai w ⟨X,1,none⟩ u;obtain ⟨h1,h2,h3,h4,h5,h6,h7⟩:=h;refine ⟨h1.keepT (by decide) (KeepT.set hx),World.ownsRow.kept h2 hg (.inr ?_),qdt h3 (qtj (by omega) h3.size u),Nat.le_trans h4 hg.size,h5,h6,h7⟩;intro e
 have:=hlt X e
 omega
theorem ExtAt.put1 {w:World} {q:Nat} {x y:Value} (h:ExtAt w q x y) (v:Value):ExtAt (w.setCell ⟨q,1,none⟩ v) q x v:=by
 have a1:=heap_setCell_same w q 1 _ 237 v h;unfold ExtAt
 rw [a1];rfl
theorem Mem.app {y1 w:World} {Rb F Bf:Nat} {s:ByteArray} {ve:Value} {es:List Ex} {v:Value} {bad:Bool} (h:Mem y1 Rb F Bf s ve es w) (hr:RdrAt w Rb v bad) (hl:es.length≤1000000) (x y:Int):
  ∃g c w9,(Builtin.append_ #[96,96] 96 #[ve,.slice (some ⟨w.heap.size,0,none⟩) 1 1]).run Tryz.prog (w.alloc (.cells #[.int .i64 x,.int .i64 y] 237))=.ok (.slice (some ⟨g,0,none⟩) (es.length+1) c) w9∧
   FileAt w9 F s ve∧Mem y1 Rb F Bf s (.slice (some ⟨g,0,none⟩) (es.length+1) c) (es++[(x,y)]) (w9.setCell ⟨F,1,none⟩ (.slice (some ⟨g,0,none⟩) (es.length+1) c))∧RdrAt (w9.setCell ⟨F,1,none⟩ (.slice (some ⟨g,0,none⟩) (es.length+1) c)) Rb v bad:=by
 obtain ⟨h1,h2,h3,h4,h5,h6,h7⟩:=h;obtain ⟨g,c,w9,hrun,ho9,hb9,hk9⟩:=qw8 h2 h4 hl x y;have hF9:=h1.keepT (by decide) hk9;have hR9:=hr.keepT (by decide) hk9;have hg:=qai w9 ⟨F,1,none⟩ (.slice (some ⟨g,0,none⟩) (es.length+1) c);have h39:=qdt h3 (hb9.mono (by omega));refine ⟨g,c,w9,hrun,hF9,⟨hF9.put1 _,qb8 ho9 hg hF9 (by decide),qdt h39 (qtj (by omega) h39.size _),Nat.le_trans (Nat.le_trans h4 hb9.size) hg.size,h5,h6,h7⟩, ?_⟩;exact hR9.keepT (by decide) (KeepT.set hF9)
def MemD (w0:World) (R0 Rb Db Bs:Nat) (vd:Value) (ds:List Fl) (w:World):Prop:=
 DirAt w Db vd∧OwF w Bs vd ds∧BlkD w R0∧Below w0.heap.size w0 w∧Bs≤w.heap.size∧(w0.heap.size≤R0∧w0.heap.size≤Rb∧w0.heap.size≤Db∧R0<Bs∧Rb<Bs∧Db<Bs∧R0≠Db∧Rb≠Db∧R0≠Rb)
theorem MemD.rdr {w0 w w':World} {R0 Rb Db Bs:Nat} {vd:Value} {ds:List Fl} {v:Value} {bad:Bool} (h:MemD w0 R0 Rb Db Bs vd ds w) (hr:RdrAt w Rb v bad) (hg:w.grownBy w' (some Rb)) (hk:KeepT 200 w w'):MemD w0 R0 Rb Db Bs vd ds w':=
 ⟨h.1.keepT (by decide) hk,h.2.1.keptS hg hr (by decide) (by decide),h.2.2.1.keepT (by decide) hk,h.2.2.2.1.grown hg h.2.2.2.1.size (by intro k e;cases e;exact h.2.2.2.2.2.2.1),Nat.le_trans h.2.2.2.2.1 hg.size,h.2.2.2.2.2⟩
theorem MemD.carry {w0 w w':World} {R0 Rb Db Bs:Nat} {vd:Value} {ds:List Fl} (h:MemD w0 R0 Rb Db Bs vd ds w) (hb:Below w.heap.size w w'):MemD w0 R0 Rb Db Bs vd ds w':=
 ⟨h.1.carry hb,h.2.1.carry hb,h.2.2.1.carry hb,h.2.2.2.1.trans (hb.mono h.2.2.2.1.size),Nat.le_trans h.2.2.2.2.1 hb.size,h.2.2.2.2.2⟩
theorem MemD.after {w0 w w':World} {R0 Rb Db Bs:Nat} {vd:Value} {ds:List Fl} {v:Value} {bad:Bool} (h:MemD w0 R0 Rb Db Bs vd ds w) (hr:RdrAt w Rb v bad) (hg:w.grownBy w' (some Rb)):MemD w0 R0 Rb Db Bs vd ds w':=by
 obtain ⟨h1,h2,⟨y,h3⟩,h4,h5,e1,e2,e3,e4,e5,e6,e7,e8,e9⟩:=h;refine ⟨(hg.block Db (by omega) (by intro e;injection e with e;exact e8 e.symm)).trans h1,h2.keptS hg hr (by decide) (by decide),⟨y,(hg.block R0 (by omega) (by intro e;injection e with e;exact e9 e)).trans h3⟩,h4.grown hg h4.size (by intro k e;cases e;exact e2),Nat.le_trans h5 hg.size,e1,e2,e3,e4,e5,e6,e7,e8,e9⟩
theorem MemD.app {w0 w:World} {R0 Rb Db Bs:Nat} {vd:Value} {ds:List Fl} {v:Value} {bad:Bool} (h:MemD w0 R0 Rb Db Bs vd ds w) (hr:RdrAt w Rb v bad) (hl:ds.length≤1000000) (s:List UInt8) (x:Value) (l:List Ex) (hx:OwE w Bs x l):
  ∃g c w9,(Builtin.append_ #[29,29] 29 #[vd,.slice (some ⟨w.heap.size,0,none⟩) 1 1]).run Tryz.prog (w.alloc (.cells #[.string (bs s),x] 98))=.ok (.slice (some ⟨g,0,none⟩) (ds.length+1) c) w9∧
   DirAt w9 Db vd∧MemD w0 R0 Rb Db Bs (.slice (some ⟨g,0,none⟩) (ds.length+1) c) (ds++[(s,l)]) (w9.setCell ⟨Db,0,none⟩ (.slice (some ⟨g,0,none⟩) (ds.length+1) c))∧RdrAt (w9.setCell ⟨Db,0,none⟩ (.slice (some ⟨g,0,none⟩) (ds.length+1) c)) Rb v bad:=by
 obtain ⟨h1,h2,⟨y,h3⟩,h4,h5,e1,e2,e3,e4,e5,e6,e7,e8,e9⟩:=h;obtain ⟨g,c,w9,hrun,ho9,hb9,hk9⟩:=qsi h2 h5 hl s x l hx;have hD9:=h1.keepT (by decide) hk9;have hR9:=hr.keepT (by decide) hk9;have h39:=hk9 R0 _ _ _ (by decide) h3;have hg:=qai w9 ⟨Db,0,none⟩ (.slice (some ⟨g,0,none⟩) (ds.length+1) c);have h49:Below w0.heap.size w0 w9:=h4.trans (hb9.mono (by omega))
 have hDz:DirAt (w9.setCell ⟨Db,0,none⟩ (.slice (some ⟨g,0,none⟩) (ds.length+1) c)) Db (.slice (some ⟨g,0,none⟩) (ds.length+1) c):=by
  have:=heap_setCell_same w9 Db 0 _ 31 (.slice (some ⟨g,0,none⟩) (ds.length+1) c) hD9
  unfold DirAt
  rw [this];rfl
 refine ⟨g,c,w9,hrun,hD9,⟨hDz,ho9.keptS hg hD9 (by decide) (by decide),⟨y,(heap_setCell_other w9 ⟨Db,0,none⟩ R0 _ e7).trans h39⟩,h49.grown hg h49.size (by intro k e;cases e;exact e3),Nat.le_trans (Nat.le_trans h5 hb9.size) hg.size,e1,e2,e3,e4,e5,e6,e7,e8,e9⟩, ?_⟩;exact hR9.keepT (by decide) (KeepT.set hD9)
end Go.Proofs.YtmeaiocohalphaaGreatDoor
