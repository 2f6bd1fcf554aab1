/-
  What room's Check, Many and Blocks do.
-/
import Derived.Test.YtmeaiocohalphaaGreatDoorRmMay
import Derived.Test.YtmeaiocohalphaaGreatDoorDAll3
import Derived.Test.YtmeaiocohalphaaGreatDoorMathSl
import Derived.Test.YtmeaiocohalphaaGreatDoorMathFi3
import Derived.Test.YtmeaiocohalphaaGreatDoorDMay
set_option maxHeartbeats 1000000
namespace Go.Proofs.YtmeaiocohalphaaGreatDoor
open Go.RowKit
set_option linter.unusedVariables false
set_option linter.unusedSimpArgs false
theorem qabr {l:List Ex} {k:Nat} {N:Int} (hkl:k<l.length) (hk:k+1=l.length) (h:l[k].1+l[k].2=N):l.set k (l[k].1,l[k].2+1)=qkk l N:=by
 rcases List.eq_nil_or_concat l with rfl | ⟨l',x,rfl⟩
 ·simp at hk
 ·have e:k=l'.length:=by simp at hk;omega
  subst e
  simp only [List.concat_eq_append,List.getElem_append_right (Nat.le_refl _),Nat.sub_self,List.getElem_cons_zero] at h ⊢
  rw [qek,if_pos h]
  simp
theorem qabs {l:List Ex} {k:Nat} {N:Int} (hkl:k<l.length) (hk:k+1=l.length) (h:¬l[k].1+l[k].2=N):l++[(N,1)]=qkk l N:=by
 rcases List.eq_nil_or_concat l with rfl | ⟨l',x,rfl⟩
 ·simp at hk
 ·have e:k=l'.length:=by simp at hk;omega
  subst e
  simp only [List.concat_eq_append,List.getElem_append_right (Nat.le_refl _),Nat.sub_self,List.getElem_cons_zero] at h ⊢
  rw [qek,if_neg h]
theorem qafu {w:World} {base:Nat} {v:Value} {l:List Ex} (h:OwE w base v l) (hb:base≤w.heap.size) (hl:l.length≤1000000) (x y:Int) (nq:Nat):
  ∃g c w',(Builtin.append_ #[96,96] 96 #[v,.slice (some ⟨w.heap.size,0,none⟩) 1 1]).run Tryz.prog ((w.drewN nq).alloc (.cells #[.int .i64 x,.int .i64 y] 237))=.ok (.slice (some ⟨g,0,none⟩) (l.length+1) c) w'∧
   OwE w' base (.slice (some ⟨g,0,none⟩) (l.length+1) c) (l++[(x,y)])∧Below base w w':=by
 obtain ⟨g,c,w',h1,h2,h3⟩:=qajw (w:=w.drewN nq) h hb hl x y;exact ⟨g,c,w',h1,h2,⟨h3.os,h3.tape,h3.output,h3.size,h3.block⟩⟩
theorem qafv (base:Nat) (a:Option Addr) (n c:Nat) (l:List Ex) (N:Int) (w:World) (h:OwE w base (.slice a n c) l) (hb:base≤w.heap.size) (hn:n=l.length) (hl:l.length≤4096) (hmay:∀x∈l,mayX x=true):
  Calls Tryz.prog 288 #[.slice a n c,.int .i64 N] w fun e w'=>∃v,e=.returned v∧OwE w' base v (qkk l N)∧Below base w w':=by
 have HR:=hide (qafu h hb (by omega) N 1)
 cases hz:l.length with
 | zero=>
  obtain rfl:l=[]:=List.length_eq_zero_iff.1 hz
  have hn0:n=0:=by simpa using hn
  subst hn0;clear h hn hmay
  go_enter Tryz.func288,Tryz.ntmps288
  go_wp2
  go_quiet (fail)
  obtain ⟨g9,c9,w9,hrun,hown9,hbel9⟩:=HR.out nq;have HO:=hide hown9;clear hown9
  go_wp2_with (at_builtin;refine qah rfl (.tmp 35) (.tmp 38) 96 rfl rfl rfl rfl hrun ?_)
  go_ret;exact ⟨_,rfl,HO.out,hbel9⟩
 | succ k=>
  obtain ⟨g,rfl,hbg, -,hnc,hcm⟩:=h.lies (by intro e;rw [e] at hz;simp at hz)
  have hn1:n=k+1:=by omega
  subst hn1
  have hkl:k<l.length:=by omega
  have hx:=(qbs _).1 (hmay _ (List.getElem_mem hkl));obtain ⟨e1,e2⟩:=qgj l k hkl
  have c1:w.cell? ⟨g,k*2,none⟩=some (.int .i64 (l[k]).1):=by have:=h.cells (g:=g) rfl _ _ e1;rw [Addr.add_lit] at this;simpa using this
  have c2:w.cell? ⟨g,k*2+1,none⟩=some (.int .i64 (l[k]).2):=by have:=h.cells (g:=g) rfl _ _ e2;rw [Addr.add_lit] at this;simpa [Nat.add_assoc] using this
  have fr:=fun j=>World.ownsRow.frozenAt (hn ▸ h:w.ownsRow base 237 2 (.slice (some ⟨g,0,none⟩) (k+1) c) (k+1) (cellsE l)) j
  obtain ⟨s1,g1⟩:=h.stored hn k hkl ((l[k]).2+1);have HW:=hide (fun hN=>qabr (N:=N) hkl hz.symm hN);have HW2:=hide (fun hN=>qabs (N:=N) hkl hz.symm hN);have HS:=hide s1;have HG:=hide g1;have HBG:=hide hbg
  have hw1:wrap64 ((k:Int)+1 - 1)=k:=by unfold wrap64;unfold maxLen at hcm;omega
  have hww:=hn;clear hww e1 e2 s1 g1 h hn hmay hz hbg;generalize hp:(l[k]).1=p at *;generalize hq:(l[k]).2=q at *
  have hw2:wrap64 (p+q)=p+q:=by unfold wrap64;omega
  have hw3:wrap64 (q+1)=q+1:=by unfold wrap64;omega
  have hkc:(k:Int)<((k+1:Nat):Int):=by omega
  clear hp hq
  by_cases hN:p+q=N
  ·have HE:=hide (HW.out hN)
   clear HW HW2
   go_enter Tryz.func288,Tryz.ntmps288
   go_wp2
   go_quiet (fail)
   go_wp2;go_ret;refine ⟨_,rfl, ?_, ?_⟩
   ·rw [←HE.out];exact HS.out
   ·exact Below.setCell (below_drewN (Below.refl base w) nq) HBG.out _
  ·have HE:=hide (HW2.out hN)
   have hN':(p+q==N)=false:=by simpa using hN
   clear HW HW2
   go_enter Tryz.func288,Tryz.ntmps288
   go_wp2
   go_quiet (fail)
   obtain ⟨g9,c9,w9,hrun,hown9,hbel9⟩:=HR.out nq;have HO:=hide hown9;clear hown9
   go_wp2_with (at_builtin;refine qah rfl (.tmp 35) (.tmp 38) 96 rfl rfl rfl rfl hrun ?_)
   go_ret;refine ⟨_,rfl, ?_, ?_⟩
   ·rw [←HE.out];exact HO.out
   ·exact hbel9
theorem qabt {u:Int→Bool} {a:Int} {k:Nat} (ha:0≤a) (hk:a+k≤4096):∀x∈qc9 u a k,mayX x=true:=by
 intro x hx
 have:=(qir u a k).1.1 x hx
 rw [qbs];omega
theorem qru (b:Nat) (f:Nat→Bool) (p m:Nat) (T:Int) (w:World) (hm:Mk w b f) (hto:p+m≤4096) (hT:T=p+m):
  Calls Tryz.prog 267 #[.pointer (some ⟨b,0,none⟩),.int .i64 p,.int .i64 T] w fun e w'=>∃v,e=.returned v∧OwE w' w.heap.size v (qc9 (fun n=>f n.toNat) p m)∧Below w.heap.size w w':=by
 have hlt:=hm.lt;have HM:=hide hm;have HT:=hide hT;clear hm hT
 go_enter Tryz.func267,Tryz.ntmps267
 go_wp2
 go_loopw [7,8] (fun v i wr=>∃k:Nat,k≤m∧i=.int .i64 ((p:Int)+(k:Int))∧Hid (OwE wr w.heap.size v (qc9 (fun n=>f n.toNat) p k))∧Below w.heap.size w wr) (fun _ i _=>p+m - (intOf i).toNat)
 case atStart=>exact ⟨0,Nat.zero_le _,by simp,hide (OwE.nil _ _),Below.refl _ _⟩
 case round=>
  obtain ⟨k,hk,rfl,ho,hbel⟩:=hrel
  by_cases hlt2:k<m
  ·have hlt':(p:Int)+(k:Int)<T:=by have:=HT.out;omega
   have hmk:Mk wr b f:=(hbel.block b hlt).trans HM.out;have hcell:=hmk.cell (p+k) (by omega)
   have hin:(p:Int)+(k:Int)<4096:=by omega
   have hin0:0≤(p:Int)+(k:Int):=by omega
   have hin1:((p:Int)+(k:Int)).toNat=p+k:=by omega
   have hwr:wrap64 ((p:Int)+(k:Int)+1)=(p:Int)+(k:Int)+1:=by unfold wrap64;omega
   clear hmk
   cases hf:f (p+k) with
   | true=>
    rw [hf] at hcell
    have HE:=hide (show qc9 (fun n=>f n.toNat) p (k+1)=qc9 (fun n=>f n.toNat) p k by
     rw [qc9,if_pos]
     show f ((p:Int)+k).toNat=true
     rw [hin1];exact hf)
    clear hf;go_wp2;go_roundw
    case rel=>exact ⟨k+1,by omega,congrArg (Value.int .i64) (by omega),hide (by rw [HE.out];exact ho.out),hbel⟩
    case measure=>simp only [intOf];omega
   | false=>
    rw [hf] at hcell
    have HE:=hide (show qc9 (fun n=>f n.toNat) p (k+1)=qkk (qc9 (fun n=>f n.toNat) p k) ((p:Int)+(k:Int)) by
     rw [qc9,if_neg]
     show ¬f ((p:Int)+k).toNat=true
     rw [hin1,hf];simp)
    clear hf;obtain ⟨a7,c7,rfl⟩:=ho.out.form;have hl:=qkn (fun n=>f n.toNat) p k;have HMay:=hide (qabt (u:=fun n=>f n.toNat) (a:=p) (k:=k) (by omega) (by omega))
    go_wp2_with fail
    refine (qafv w.heap.size a7 _ c7 _ ((p:Int)+(k:Int)) wr ho.out hbel.size rfl (by omega) HMay.out).mono ?_
    rintro e wc ⟨v,rfl,hown,hbc⟩;have HO:=hide (show OwE wc w.heap.size v (qc9 (fun n=>f n.toNat) p (k+1)) by rw [HE.out];exact hown);have hbc':=hbel.trans hbc;clear hbc hown HMay hl;go_wp2;go_roundw
    case rel=>exact ⟨k+1,by omega,congrArg (Value.int .i64) (by omega),HO,hbc'⟩
    case measure=>simp only [intOf];omega
  ·have hd:decide ((p:Int)+(k:Int)<T)=false:=by simpa using (by have:=HT.out;omega:¬(p:Int)+(k:Int)<T)
   obtain rfl:k=m:=by omega
   go_wp2;go_ret;exact ⟨_,rfl,ho.out,hbel⟩
theorem qafw {l:List Ex} {k:Nat} (h:k<l.length) (y:Ex):(l.set k y).take (k+1)=l.take k++[y]:=by
 rw [qbr _ _ (by simpa using h)]
 simp [List.take_set_of_le]
theorem qafx {l:List Ex} {k:Nat} {Z W:Int} (hkl:k<l.length) (hz:Z=W - qa9 (l.take k)) (hz1:1≤Z) (h1:∀x∈l,1≤x.2) (hle:Z≤(l[k]).2):cutX l W=some ((l.set k ((l[k]).1,Z)).take (k+1)):=by
 rw [qaae (w:=W) hkl (by omega) h1 (by omega),qafw hkl,hz]
theorem qafy {l:List Ex} {k:Nat} {Z W:Int} (hkl:k<l.length) (hz:Z=W - qa9 (l.take k)):Z - (l[k]).2=W - qa9 (l.take (k+1)):=by
 rw [qbr l k hkl,qip];omega
theorem qaj0 (base:Nat) (a:Option Addr) (n c:Nat) (l:List Ex) (W:Int) (w:World) (h:OwE w base (.slice a n c) l) (hb:base≤w.heap.size) (hn:n=l.length) (hl:l.length≤4096) (hmay:∀x∈l,0≤x.1∧1≤x.2∧x.1+x.2≤4096) (hW:1≤W) (hW':W≤4096):
  Calls Tryz.prog 233 #[.slice a n c,.int .i64 W] w fun e w'=>∃v,e=.returned (.tuple #[v,.int .i64 (cutE l W)])∧OwE w' base v ((cutX l W).getD [])∧Below base w w':=by
 have HM:=hide hmay;have H1:=hide (fun x hx=>(hmay x hx).2.1:∀x∈l,1≤x.2);have HO:=hide h;have HN:=hide hn
 have hn4:n≤4096:=by omega
 clear h hmay hn hl
 go_enter Tryz.func233,Tryz.ntmps233
 go_wp2
 go_loopw [1,10] (fun z i wr=>∃(k:Nat) (Z:Int),k≤n∧z=.int .i64 Z∧i=.int .i64 k∧Hid (Z=W - qa9 (l.take k))∧1≤Z∧Z≤4096∧Below w.heap.size w wr) (fun _ i _=>n - (intOf i).toNat)
 case atStart=>exact ⟨0,W,Nat.zero_le _,rfl,rfl,hide (by simp [qa9]),hW,hW',Below.refl _ _⟩
 case round=>
  obtain ⟨k,Z,hk,rfl,rfl,hz,hz1,hz2,hbel⟩:=hrel
  by_cases hlt:k<n
  ·have hlt':(k:Int)<n:=by omega
   have hkl:k<l.length:=by have:=HN.out;omega
   obtain ⟨g,rfl,hbg, -,hnc, -⟩:=HO.out.lies (by intro e;rw [e] at hkl;simp at hkl);have hor:=HO.out.carry hbel;obtain ⟨b,off,e,q0,q1⟩:=hor.rd.at k hkl;cases e;rw [Nat.zero_add] at q0 q1
   by_cases hle:Z≤(l[k]).2
   ·have HC:=hide (qafx hkl hz.out hz1 H1.out hle)
    have hor2:=hor.carry ((Below.refl _ _).alloc (Nat.le_refl _) (.cells #[.int .i64 (l[k]).1,.int .i64 (l[k]).2] 237));obtain ⟨s1,g1⟩:=hor2.stored HN.out k hkl Z;have HS:=hide (s1.take (by simpa using HN.out) (k+1) (by simp;omega));have hfr:=hor2.frozen HN.out (k*2+1);have hbb:Below base w (wr.alloc (.cells #[.int .i64 (l[k]).1,.int .i64 (l[k]).2] 237)):=(hbel.mono hb).alloc (Nat.le_trans hb hbel.size) _;obtain ⟨b',off',e',q0',q1'⟩:=hor2.rd.at k hkl;cases e';rw [Nat.zero_add] at q1';clear q0';have HBB:=hide hbb;have HBG:=hide hbg;have hw1:wrap64 ((k:Int)+1)=(k:Int)+1:=wrapS (by omega)
    have hkc:(k:Int)+1≤c:=by have h1:k+1≤c:=Nat.le_trans hlt hnc;exact Int.ofNat_le.2 h1
    clear s1 g1 hor hor2 hbb HM H1 HO HN hz hbel hb hbg;generalize (l[k]).1=P at *;generalize (l[k]).2=R at *;go_wp2;go_ret2;exact ⟨_,by unfold cutE;rw [HC.out];rfl,by rw [HC.out];exact HS.out,HBB.out.setCell HBG.out _⟩
   ·have hle':decide (Z≤(l[k]).2)=false:=by simpa using hle
    have hx:=HM.out _ (List.getElem_mem hkl);have HZ:=hide (qafy hkl hz.out)
    have hw1:wrap64 (Z - (l[k]).2)=Z - (l[k]).2:=by unfold wrap64;omega
    have hbb:=hbel.alloc hbel.size (.cells #[.int .i64 (l[k]).1,.int .i64 (l[k]).2] 237);clear hor;go_wp2;go_roundw
    case rel=>exact ⟨k+1,_,by omega,rfl,rfl,HZ,by omega,by omega,hbb⟩
    case measure=>simp only [intOf];omega
  ·have hd:decide ((k:Int)<n)=false:=by simpa using (by omega:¬(k:Int)<n)
   have HC:=hide (show cutX l W=none from qae7 (by have h1:=hz.out;have:=HN.out;rw [List.take_of_length_le (by omega)] at h1;omega) H1.out);go_wp2;go_ret2;exact ⟨_,by unfold cutE;rw [HC.out];rfl,by rw [HC.out];exact OwE.nil _ _,hbel.mono hb⟩
theorem qafz {l:List Ex} {k:Nat} (hk:k<l.length) (hm:∀x∈l,mayX x=true) (h:apX (l.take k)=true) (hn:∀n:Nat,inL (l.take k) n=true→inX l[k] n=false):apX (l.take (k+1))=true:=by
 rw [qbr l k hk,qjz,h,Bool.true_and,List.all_eq_true];intro y hy;have hyl:y∈l:=List.mem_of_mem_take hy;have my:=(qbs y).1 (hm y hyl);have mk:=(qbs _).1 (hm _ (List.getElem_mem hk));rw [Bool.not_eq_true',←Bool.not_eq_true,qo7 mk.2.1 my.2.1];rintro ⟨n,h1,h2⟩
 have h0:0≤n:=by simp [inX] at h2;omega
 have:=hn n.toNat (by rw [Int.toNat_of_nonneg h0,qo9];exact ⟨y,hy,by simpa [inX] using h2⟩)
 rw [Int.toNat_of_nonneg h0,h1] at this;cases this
theorem qaj1 {l:List Ex} {k:Nat} (hk:k<l.length) (hm:∀x∈l,mayX x=true) {n:Nat} (h1:inL (l.take k) n=true) (h2:inX l[k] n=true):apX (l.take (k+1))=false:=by
 rw [qbr l k hk,qjz,Bool.and_eq_false_iff]
 right
 rw [List.all_eq_false];obtain ⟨y,hy,h3⟩:=(qo9 _ _).1 h1;have my:=(qbs y).1 (hm y (List.mem_of_mem_take hy));have mk:=(qbs _).1 (hm _ (List.getElem_mem hk));refine ⟨y,hy, ?_⟩
 rw [(qo7 mk.2.1 my.2.1).2 ⟨n,h2,by simpa [inX] using h3⟩];simp
theorem qrv (a:Option Addr) (n c:Nat) (l:List Ex) (w:World) (hrd:RdE w (.slice a n c) l) (hn:n=l.length) (hwf:∀x∈l,wfX x):
  Calls Tryz.prog 181 #[.slice a n c] w fun e w'=>e=.returned (.int .i64 (chkX l))∧Below w.heap.size w w':=by
 have HR:=hide hrd;have HN:=hide hn;have HA:=hide (qjm a n c l w hrd hn hwf);clear hrd hn hwf
 go_enter Tryz.func181,Tryz.ntmps181
 go_wp2_with fail
 refine HA.out.mono ?_
 rintro e wa ⟨rfl,hba⟩
 by_cases hz:allX l=0
 ·have HZ:=hide hz
  rw [hz];have hzero:=Tryz.zeroMk;have hne:=qaii (fun _=>false)
  have hn4:n≤4096:=by have:=(qd0 HZ.out).1;have:=HN.out;omega
  have HMay:=hide (fun x hx=>(qbs x).2 ((qd0 HZ.out).2 x hx):∀x∈l,mayX x=true);have hws:=hba.size;clear hz;go_wp2
  go_loopw [14] (fun i wr=>∃k:Nat,k≤n∧i=.int .i64 k∧Hid (Mk wr wa.heap.size (fun j=>inL (l.take k) j))∧Hid (apX (l.take k)=true)∧Below w.heap.size w wr) (fun i _=>n - (intOf i).toNat)
  case atStart=>exact ⟨0,Nat.zero_le _,rfl,hide ((Mk.new wa _).same fun j=>by simp [inL]),hide (by simp [apX]),hba.alloc hws _⟩
  case round=>
   obtain ⟨k,hk,rfl,hmk,hap,hbel⟩:=hrel;have hml:=hmk.out.lt
   by_cases hlt:k<n
   ·have hlt':(k:Int)<n:=by omega
    have hkl:k<l.length:=by have:=HN.out;omega
    obtain ⟨b,off,rfl,q0,q1⟩:=(HR.out.carry hbel).at k hkl
    go_wp2_with fail
    refine (qtr wa.heap.size _ (l[k]) (HMay.out _ (List.getElem_mem hkl)) _ (hmk.out.carry ((Below.refl _ _).alloc (Nat.le_refl _) _))).mono ?_
    rintro e wc ⟨hg,⟨rfl,hm1,hno⟩ | ⟨rfl,j, -,hj1,hj2⟩⟩
    ·have HM1:=hide (hm1.same (g:=fun j=>inL (l.take (k+1)) j) fun j=>by rw [qbr l k hkl,qf8])
     have HAP:=hide (qafz hkl HMay.out hap.out hno);have hbc:Below w.heap.size w wc:=(hbel.alloc hbel.size _).grown hg (Nat.le_trans hbel.size (by simp)) (fun j hj=>by cases hj;exact hws);clear hm1 hg hno;go_wp2;go_roundw
     case rel=>exact ⟨k+1,by omega,rfl,HM1,HAP,hbc⟩
     case measure=>simp only [intOf];omega
    ·have HC:=hide (qyg (k:=k+1) hkl HZ.out (qaj1 hkl HMay.out hj1 hj2))
     have hbc:Below w.heap.size w wc:=(hbel.alloc hbel.size _).grown hg (Nat.le_trans hbel.size (by simp)) (fun j hj=>by cases hj;exact hws);clear hg hj1 hj2;go_wp2;go_ret;exact ⟨by rw [HC.out];rfl,hbc⟩
   ·have hd:decide ((k:Int)<n)=false:=by simpa using (by omega:¬(k:Int)<n)
    have HC:=hide (qkm HZ.out (by have:=hap.out;rwa [List.take_of_length_le (by have:=HN.out;omega)] at this));go_wp2;go_ret;exact ⟨by rw [HC.out];rfl,hbel⟩
 ·have HC:=hide (qae5 hz)
  generalize hE:allX l=E at *
  have hz':(E==0)=false:=by simpa using hz
  go_wp2;go_ret;exact ⟨by rw [HC.out];rfl,hba⟩
def manyR (l:List Ex):Int:=if chkX l=0 then qa9 l else 0
def qe3 (l:List Ex):List Int:=if chkX l=0 then qal l else []
theorem qaf0 {l:List Ex} {k:Nat} (ha:allX l=0):0≤qa9 (l.take k)∧qa9 (l.take k)≤16777216:=by
 have h0:=qd0 ha
 have:=qtc (l:=l.take k) fun x hx=>h0.2 x (List.mem_of_mem_take hx)
 rw [List.length_take] at this;omega
theorem qy3 {l:List Ex} {k m:Nat} (ha:allX l=0) (hk:k<l.length) (hm:m≤(l[k]).2.toNat):(qal (l.take k)++blkX l[k] m).length≤16777216:=by
 have h0:=qd0 ha
 have h1:=qtd (l:=l.take k) fun x hx=>(h0.2 x (List.mem_of_mem_take hx)).2.1
 have h2:=qaf0 (k:=k+1) ha;rw [qbr l k hk,qip] at h2
 have:=h0.2 _ (List.getElem_mem hk)
 rw [List.length_append,qwd];omega
theorem qy4 (a:Option Addr) (n c:Nat) (l:List Ex) (w:World) (hrd:RdE w (.slice a n c) l) (hn:n=l.length) (hwf:∀x∈l,wfX x):
  Calls Tryz.prog 102 #[.slice a n c] w fun e w'=>∃v,e=.returned (.tuple #[v,.int .i64 (chkX l)])∧OwI w' w.heap.size v (qe3 l)∧Below w.heap.size w w':=by
 have HR:=hide hrd;have HN:=hide hn;have HA:=hide (qrv a n c l w hrd hn hwf);clear hrd hn hwf
 go_enter Tryz.func102,Tryz.ntmps102
 go_wp2_with fail
 refine HA.out.mono ?_
 rintro e wa ⟨rfl,hba⟩
 by_cases hz:chkX l=0
 ·have HZ:=hide (qo8 hz).1
  have HM:=hide (show qe3 l=qal l by unfold qe3;rw [if_pos hz]);rw [hz];have HC:=hide hz
  have hn4:n≤4096:=by have:=(qd0 HZ.out).1;have:=HN.out;omega
  clear hz;go_wp2
  go_loopw [5,16] (fun s i wr=>∃k:Nat,k≤n∧i=.int .i64 k∧Hid (OwI wr w.heap.size s (qal (l.take k)))∧Below w.heap.size w wr) (fun _ i _=>n - (intOf i).toNat)
  case atStart=>exact ⟨0,Nat.zero_le _,rfl,hide (OwI.nil _ _),hba⟩
  case round=>
   obtain ⟨k,hk,rfl,ho,hbel⟩:=hrel
   by_cases hlt:k<n
   ·have hlt':(k:Int)<n:=by omega
    have hkl:k<l.length:=by have:=HN.out;omega
    obtain ⟨b,off,rfl,q0,q1⟩:=(HR.out.carry hbel).at k hkl;have HE:=hide (show qal (l.take (k+1))=qal (l.take k)++blkX l[k] (l[k]).2.toNat by rw [qbr l k hkl,qq7]);have hx:=(qd0 HZ.out).2 _ (List.getElem_mem hkl);have hbb:=hbel.alloc hbel.size (.cells #[.int .i64 (l[k]).1,.int .i64 (l[k]).2] 237);have hoo:=hide (ho.out.carry ((Below.refl _ _).alloc (Nat.le_refl _) (.cells #[.int .i64 (l[k]).1,.int .i64 (l[k]).2] 237)));have HL:=hide (fun m hm=>qy3 (m:=m) HZ.out hkl hm)
    have c0:(wr.alloc (.cells #[.int .i64 (l[k]).1,.int .i64 (l[k]).2] 237)).heap[wr.heap.size]? =some (.cells #[.int .i64 (l[k]).1,.int .i64 (l[k]).2] 237 (0,0)):=heap_alloc_new _ _
    generalize hX:l[k]=X at *;obtain ⟨P,R⟩:=X
    simp only at hx hbb c0 HE q0 q1 hoo HL
    obtain ⟨r,rfl⟩:∃r:Nat,R=r:=⟨R.toNat,by omega⟩;clear hX;have C0:=hide c0;clear c0;go_wp2;generalize wr.heap.size=XB at *
    go_loopw [5,22] (fun s i wr=>∃j:Nat,j≤r∧i=.int .i64 j∧Hid (OwI wr w.heap.size s (qal (l.take k)++blkX (P,(r:Int)) j))∧Below w.heap.size w wr∧Hid (wr.heap[XB]? =some (.cells #[.int .i64 P,.int .i64 r] 237 (0,0)))) (fun _ i _=>r - (intOf i).toNat)
    case atStart=>exact ⟨0,Nat.zero_le _,rfl,hide (by simpa [blkX] using hoo.out),hbb,C0⟩
    case round=>
     obtain ⟨j,hj,rfl,ho2,hbel2,hxb⟩:=hrel
     by_cases hjt:j<r
     ·have hjt':(j:Int)<r:=by omega
      have hlen:=HL.out j (by omega);obtain ⟨g9,c9,w9,hrun,hown9,hbel9,hgr9⟩:=qajx ho2.out hbel2.size (by omega) (P+j);have HX:=hide ((hgr9.block _ (Array.getElem?_eq_some_iff.1 hxb.out).1 (ho2.out.apart hxb.out)).trans hxb.out)
      have hcell:wr.cell? ⟨XB,0,none⟩=some (.int .i64 P):=by rw [cell_of_row wr _ 0 _ _ (0,0) hxb.out];rfl
      have HO:=hide (show OwI w9 w.heap.size (.slice (some ⟨g9,0,none⟩) ((qal (l.take k)++blkX (P,(r:Int)) j).length+1) c9) (qal (l.take k)++blkX (P,(r:Int)) (j+1)) by
       rw [qaab,←List.append_assoc];exact hown9)
      have hb9:=hbel2.trans hbel9
      have hw1:wrap64 (P+(j:Int))=P+(j:Int):=by unfold wrap64;omega
      clear hown9 hbel9 hgr9
      go_wp2_with (at_builtin;refine qah rfl (.tmp 25) (.tmp 30) 93 rfl rfl rfl rfl hrun ?_)
      go_roundw
      case rel=>exact ⟨j+1,by omega,rfl,by rw [←List.length_append];exact HO,hb9,HX⟩
      case measure=>simp only [intOf];omega
     ·have hd:decide ((j:Int)<r)=false:=by simpa using (by omega:¬(j:Int)<r)
      have HO:=hide (show OwI wr w.heap.size _ (qal (l.take (k+1))) by
       rw [HE.out,Int.toNat_natCast]
       have e:j=r:=by omega
       rw [←e];rw [←e] at ho2;exact ho2.out)
      go_wp2;go_roundw
      case rel=>exact ⟨k+1,by omega,rfl,HO,hbel2⟩
      case measure=>simp only [intOf];omega
   ·have hd:decide ((k:Int)<n)=false:=by simpa using (by omega:¬(k:Int)<n)
    have HE:=hide (show qal (l.take k)=qe3 l by rw [HM.out,List.take_of_length_le (by have:=HN.out;omega)]);go_wp2;go_ret2;exact ⟨_,by rw [HC.out];rfl,by rw [←HE.out];exact ho.out,hbel⟩
 ·have HM:=hide (show qe3 l=[] by unfold qe3;rw [if_neg hz])
  generalize hE:chkX l=E at *
  have hz':(E==0)=false:=by simpa using hz
  go_wp2;go_ret2;exact ⟨_,by rw [hE];rfl,by rw [HM.out];exact OwI.nil _ _,hba⟩
end Go.Proofs.YtmeaiocohalphaaGreatDoor
set_option maxHeartbeats 1000000
set_option maxRecDepth 100000
namespace Go.Proofs.YtmeaiocohalphaaGreatDoor
open Go.RowKit
set_option linter.unusedVariables false
set_option linter.unusedSimpArgs false
abbrev Fsd:=Dk × Nat × List Fl × List Fl
def fz:Fsd:=(dz,0,[],[])
def genB (d:Dk) (gen size:Nat):List UInt8:=(d.1.drop (128*(2+gen % 2*16))).take size
def okFs (f:Fsd):Prop:=(qat f.1).2.2=0∧(qat f.1).1=f.2.1∧(∀p∈f.1.2.1,34≤p.1)∧qdh (genB f.1 f.2.1 (qat f.1).2.1) (mny f.1)=0∧qg3 (genB f.1 f.2.1 (qat f.1).2.1) (mny f.1)=f.2.2.2∧chkF f.2.2.1 (mny f.1)=0
instance (f:Fsd):Decidable (okFs f):=inferInstanceAs (Decidable (_∧_∧_∧_∧_∧_))
def fsE (f:Fsd):Int:=if okFs f then 0 else 8
def qau (f:Fsd):List Ex:=qew f.2.2.1++qew f.2.2.2
def qa3 (f:Fsd):Int:=(qjw f.1).1
def mkE (f:Fsd) (s:List UInt8) (n:Int):Int:=
 if qa0 f.2.2.1 s=0 then 51 else if qa0 f.2.2.1 s≠6 then qa0 f.2.2.1 s
 else if qdm 34 (qa3 f) (qau f) n≠0 then qdm 34 (qa3 f) (qau f) n
 else qaz f.2.2.1 s (qb1 34 (qa3 f) (qau f) n) (qa3 f)
def mkL (f:Fsd) (s:List UInt8) (n:Int):List Fl:=if mkE f s n=0 then qcv f.2.2.1 s (qb1 34 (qa3 f) (qau f) n) (qa3 f) else []
def qdk (f:Fsd) (l:List Fl) (e:Int):Fsd × Int:=if fsE f≠0 then (fz,fsE f) else if e≠0 then (fz,e) else ((f.1,f.2.1,l,f.2.2.2),0)
def qav (f:Fsd) (s:List UInt8) (n:Int):Fsd × Int:=qdk f (mkL f s n) (mkE f s n)
def qck (f:Fsd) (s t:List UInt8):Fsd × Int:=qdk f (qcd f.2.2.1 s t) (qbe f.2.2.1 s t)
def bloE (f:Fsd) (s:List UInt8):Int:=if qa0 f.2.2.1 s≠0 then qa0 f.2.2.1 s else chkX (getF f.2.2.1 s)
def bloL (f:Fsd) (s:List UInt8):List Int:=if qa0 f.2.2.1 s≠0 then [] else qe3 (getF f.2.2.1 s)
def atE (f:Fsd) (s:List UInt8) (i:Int):Int:=if bloE f s≠0 then bloE f s else if i<0∨((bloL f s).length:Int)≤i then 2 else 0
def atN (f:Fsd) (s:List UInt8) (i:Int):Int:=if atE f s i≠0 then 0 else (bloL f s).getD i.toNat 0
def qar (f:Fsd) (s:List UInt8):Int:=if fsE f≠0 then fsE f else bloE f s
def qh0 (f:Fsd) (s:List UInt8):Int:=if fsE f≠0 then 0 else (bloL f s).length
def getE (f:Fsd) (s:List UInt8) (i:Int):Int:=if fsE f≠0 then fsE f else if atE f s i≠0 then atE f s i else (qfe f.1 (atN f s i)).2
def getL (f:Fsd) (s:List UInt8) (i:Int):List UInt8:=if fsE f≠0 then [] else if atE f s i≠0 then [] else (qfe f.1 (atN f s i)).1
def qaj2 (f:Fsd):Int:=if fsE f≠0 then fsE f else if qcc 34 (qa3 f) (qau f)≠0 then qcc 34 (qa3 f) (qau f) else chkX (qcu 34 (qa3 f) (qau f))
def qts (f:Fsd):Int:=if fsE f≠0 then 0 else if qcc 34 (qa3 f) (qau f)≠0 then 0 else manyR (qcu 34 (qa3 f) (qau f))
/-! ### on the way -/
abbrev Wy:=Fsd × Int × List UInt8
abbrev Stp:=Wy→Wy × Int
def qag (s:Stp) (x:Wy):Wy:=if x.2.1=0 then ((s x).1.1,(s x).2,(s x).1.2.2) else x
def qax (f:Fsd):Wy:=(f,fsE f,[])
def endW (x:Wy):Fsd × Int:=if x.2.1≠0 then (fz,x.2.1) else (x.1,0)
def qnf (x:Wy) (d:Dk):Wy:=((d,x.1.2),x.2)
def qbl:Stp:=fun x=>if x.1.2.1=4294967295 then (x,9) else (((x.1.1,x.1.2.1+1,x.1.2.2),x.2.1,qd1 x.1.2.2.1 (qa3 x.1)),chkF x.1.2.2.1 (qa3 x.1))
def qb5:Stp:=fun x=>(qnf x (doD x.1.1 [(true,0,[])] 1).1,(doD x.1.1 [(true,0,[])] 1).2)
def qh1:Stp:=fun x=>(qnf x (qfm x.1.1).1,(qfm x.1.1).2)
def qtt:Stp:=fun x=>(qnf x (doD x.1.1 [] 0).1,(doD x.1.1 [] 0).2)
def qc0 (n:Int) (b:List UInt8):Stp:=fun x=>(qnf x (doD x.1.1 [(false,n,b)] 1).1,(doD x.1.1 [(false,n,b)] 1).2)
def putW (s:List UInt8) (i:Int) (b:List UInt8):Stp:=fun x=>if atE x.1 s i≠0 then (x,atE x.1 s i) else qc0 (atN x.1 s i) b x
def dirW (l:List Fl) (e:Int):Stp:=fun x=>(((x.1.1,x.1.2.1,l,x.1.2.2.2),x.2),e)
def keepW:Stp:=fun x=>(((x.1.1,x.1.2.1,x.1.2.2.1,x.1.2.2.1),x.2),0)
def padB (l:List UInt8):List UInt8:=l.take 128++List.replicate (128 - l.length) 0
def qa5 (l:List UInt8):List (List UInt8):=(List.range ((l.length+127) / 128)).map fun k=>padB (l.drop (128*k))
def qce:Int→List (List UInt8)→Stp
 | _,[],x=>(x,0)
 | n,b::l,x=>if (qc0 n b x).2≠0 then qc0 n b x else qce (n+1) l (qc0 n b x).1
def qfo:Stp:=fun x=>qce ((2+x.1.2.1 % 2*16:Nat):Int) (qa5 x.2.2) x
def qh2:Stp:=fun x=>if (qam x.1.2.1 (x.2.2.length:Nat)).2≠0 then (x,(qam x.1.2.1 (x.2.2.length:Nat)).2) else qc0 ((x.1.2.1 % 2:Nat):Int) (qam x.1.2.1 (x.2.2.length:Nat)).1 x
def qbm (x:Wy):Wy:=qag keepW (qag qb5 (qag qh2 (qag qb5 (qag qfo (qag qb5 (qag qbl x))))))
def qcz (f:Fsd) (s:List UInt8) (i:Int) (b:List UInt8):Fsd × Int:=endW (qag (putW s i b) (qax f))
def qa7 (f:Fsd):Fsd × Int:=endW (qbm (qax f))
def qb9 (n:Int):Fsd × Int:=if (newD n).2≠0 then (fz,(newD n).2) else if n≤34 then (fz,2) else endW (qag qh1 (qbm (((newD n).1,0,[],[]),0,[])))
def qob (f:Fsd) (l:List Fl) (e:Int):Fsd × Int:=endW (qag qtt (qag (dirW l e) (qax f)))
theorem qer (f:Fsd):(okFs f∧fsE f=0)∨(¬okFs f∧fsE f=8):=by
 unfold fsE;by_cases h:okFs f
 ·exact .inl ⟨h,if_pos h⟩
 ·exact .inr ⟨h,if_neg h⟩
theorem qlc {f:Fsd} (h:fsE f=0):okFs f:=by rcases qer f with h1 | h1;exact h1.1;rw [h1.2] at h;cases h
theorem qdn {f:Fsd} (h:okFs f):fsE f=0:=by unfold fsE;exact if_pos h
theorem qay {f:Fsd} (h:okFs f):okD f.1=true∧34<mny f.1∧f.2.1≠0∧qat f.1=(f.2.1,(qat f.1).2.1,0):=by
 obtain ⟨h1,h2,_⟩:=h
 have e:qat f.1=(f.2.1,(qat f.1).2.1,0):=by rw [←h2,←h1]
 obtain ⟨a,b,c,_⟩:=qgi e;exact ⟨a,b,c,e⟩
theorem qtu {d:Dk} (h:okD d=true):chk d=0:=by unfold chk;rw [if_pos h]
theorem qgk {f:Fsd} (h:okD f.1=true):qa3 f=mny f.1:=by unfold qa3 qjw;rw [qtu h];rfl
theorem qld {f:Fsd} (h:okFs f):(qat f.1).2.1≤2048∧f.2.1<4294967296:=by
 obtain ⟨h1,h2,h3,h4⟩:=qay h;obtain ⟨_,_,hg,hb⟩:=qgi h4
 have:=qit hb hg
 unfold qbv at this
 split at this
 ·have e1:=congrArg Prod.fst this
  have e2:=congrArg Prod.snd this
  simp only at e1 e2
  have:=qabp (blk f.1.1 (f.2.1 % 2))
  omega
 ·have e1:=congrArg Prod.fst this
  simp only at e1
  omega
theorem qabu (f:Fsd) (l:List Fl) (e:Int):qob f l e=qdk f l e:=by
 unfold qob qdk qax
 rcases qer f with ⟨h,h0⟩ | ⟨h,h0⟩
 ·have hd:=qtu (qay h).1
  rw [h0];unfold qag dirW qtt endW qnf doD
  by_cases he:e=0
  ·subst he
   simp [hd,qd8,qa8]
  ·simp [he]
 ·rw [h0]
  simp [qag,endW]
theorem OwB.at {w:World} {base g n c:Nat} {l:List UInt8} (h:OwB w base (.slice (some ⟨g,0,none⟩) n c) l) (j:Nat) (hj:j<l.length):w.cell? ⟨g,j,none⟩=some (.int .u8 (l[j]).toNat):=by
 have hx:(u8v l)[j]? =some (.int .u8 (l[j]).toNat):=by simp [u8v,List.getElem?_eq_getElem hj]
 have:=World.ownsRow.cells h (g:=g) rfl _ _ hx
 rw [Addr.add_lit] at this
 simpa using this
theorem OwB.len {w:World} {base g n c:Nat} {l:List UInt8} (h:OwB w base (.slice (some ⟨g,0,none⟩) n c) l):n=l.length:=by
 obtain ⟨a,c',e⟩:=h.form
 cases e;rfl
theorem OwB.fz {w:World} {base g n c:Nat} {l:List UInt8} (h:OwB w base (.slice (some ⟨g,0,none⟩) n c) l) (j:Nat):w.frozen? ⟨g,j,none⟩=false:=by
 obtain rfl:=h.len;exact World.ownsRow.frozenAt h j
theorem OwB.stored {w:World} {base g n c:Nat} {l:List UInt8} (h:OwB w base (.slice (some ⟨g,0,none⟩) n c) l) (j:Nat) (b:UInt8):
  OwB (w.setCell ⟨g,j,none⟩ (.int .u8 b.toNat)) base (.slice (some ⟨g,0,none⟩) n c) (l.set j b)∧w.grownBy (w.setCell ⟨g,j,none⟩ (.int .u8 b.toNat)) (some g):=by
 obtain rfl:=h.len;obtain ⟨h1,h2⟩:=World.ownsRow.stored h j (.int .u8 b.toNat);refine ⟨?_,h2⟩;unfold OwB;rw [List.length_set]
 have:u8v (l.set j b)=(u8v l).set j (.int .u8 b.toNat):=by simp [u8v,List.map_set]
 rw [this];exact h1
theorem qtv (data l:List UInt8) (o k:Nat) (hk:k<l.length) (hf:o+l.length≤data.length):(splice data o (l.take k)).set (o+k) l[k]=splice data o (l.take (k+1)):=by
 unfold splice
 have e1:(data.take o).length=o:=by simp;omega
 have e2:(l.take k).length=k:=by simp;omega
 have e3:(l.take (k+1)).length=k+1:=by simp;omega
 rw [List.set_append_right _ _ (by omega),e1,show o+k - o=k by omega,List.set_append_right _ _ (by omega),e2,Nat.sub_self,e3]
 have hd:o+k<data.length:=by omega
 rw [List.drop_eq_getElem_cons hd,List.set_cons_zero,List.take_succ_eq_append_getElem hk,List.append_assoc];rfl
theorem qgl (g off n c k:Nat) (w:World) (hk:k+4≤n) (hc:n≤c) (hm:c≤maxLen):
  Calls Tryz.prog 229 #[.slice (some ⟨g,off,none⟩) n c,.int .i64 k] w fun e w'=>e=.returned (.func (.func 264) #[] #[.pointer (some ⟨w.heap.size,0,none⟩)])∧Below w.heap.size w w'∧w'.cell? ⟨w.heap.size,0,none⟩=some (.slice (some ⟨g,off+k,none⟩) 4 (c - k))∧w'.heap.size=w.heap.size+1:=by
 have hw:wrap64 ((k:Int)+4)=((k+4:Nat):Int):=by unfold wrap64;unfold maxLen at hm;omega
 have h1:((k+4:Nat):Int)≤c:=by omega
 have h2:¬k=c:=by omega
 have h3:k+4≤c:=by omega
 have h4:k+4 - k=4:=by omega
 go_enter Tryz.func229,Tryz.ntmps229
 go_wp2;go_ret;rw [h4];exact ⟨rfl,(Below.refl _ _).alloc (Nat.le_refl _) _,by simp,by simp⟩
theorem qrw {j:Nat} (h:j<4):∃m:Nat,m=8*j∧wrap64 (8*(j:Int))=(m:Int)∧IntKind.i64.wrap (8*(j:Int))=(m:Int)∧(m:Int)≤32:=by
 refine ⟨8*j,rfl, ?_, ?_,by omega⟩
 ·unfold wrap64;omega
 ·rw [IntKind.wrap_i64];omega
theorem qaf1 (x j m:Nat) (hm:m=8*j) (h:j<4):IntKind.u8.wrap ((x:Int) / 2 ^ m)=(((le4 x)[j]'(by rw [qb4];exact h)).toNat:Int):=by
 rw [qaju x j h,hm,IntKind.wrap_u8',UInt8.toNat_ofNat']
 have e:((2:Int) ^ (8*j))=((2 ^ (8*j):Nat):Int):=by rw [Int.natCast_pow];rfl
 rw [e,←Int.natCast_ediv];generalize x / 2 ^ (8*j)=y;omega
theorem qoc {w w':World} {k g:Nat} {v:Value} {o:Nat} (hg:w.grownBy w' (some g)) (hc:w.cell? ⟨k,o,none⟩=some v) (hne:k≠g):w'.cell? ⟨k,o,none⟩=some v:=by
 rw [←hc];unfold World.cell?;rw [show w'.heap[k]? =w.heap[k]? from hg.block _ (World.block_lt_of_cell? w _ hc) (by simpa using hne)]
theorem qabv (base g n c k kp cp:Nat) (l:List UInt8) (x:Nat) (w:World) (hown:OwB w base (.slice (some ⟨g,0,none⟩) n c) l) (hcell:w.cell? ⟨kp,0,none⟩=some (.slice (some ⟨g,k,none⟩) 4 cp)) (hne:kp≠g) (hk:k+4≤l.length) (hx:x<4294967296):
  Calls Tryz.prog 264 #[.bool true,.int .u32 x,.pointer (some ⟨kp,0,none⟩)] w fun e w'=>(∃v,e=.returned v)∧w.grownBy w' (some g)∧OwB w' base (.slice (some ⟨g,0,none⟩) n c) (splice l k (le4 x)):=by
 have HOWN:=hide hown;have HKL:=hide hk;have HX:=hide hx;have hkb:kp<w.heap.size:=World.block_lt_of_cell? w _ hcell;clear hown hk hx
 go_enter Tryz.func264,Tryz.ntmps264
 go_wp2
 go_loopw [6,10] (fun t i wr=>∃(j:Nat) (z:Int),j≤4∧i=.int .i64 j∧t=.int .u32 z∧Hid (OwB wr base (.slice (some ⟨g,0,none⟩) n c) (splice l k ((le4 x).take j)))∧w.grownBy wr (some g)) (fun _ i _=>4 - (intOf i).toNat)
 case atStart=>
  refine ⟨0,0,Nat.zero_le _,rfl,rfl, ?_,World.grownBy.refl _ _⟩
  show OwB _ _ _ _
  have e:splice l k ((le4 x).take 0)=l:=by simp [splice]
  rw [e];exact HOWN.out
 case round=>
  obtain ⟨j,z,hj,rfl,rfl,ho,hgr⟩:=hrel
  by_cases hlt:j<4
  ·have hlt':(j:Int)<4:=by omega
   obtain ⟨m,em,a1,a2,a3⟩:=qrw hlt;have EM:=hide em;clear em;have hc:wr.cell? ⟨kp,0,none⟩=some (.slice (some ⟨g,k,none⟩) 4 cp):=qoc hgr hcell hne;have hfz:=ho.out.fz (k+j);have hcl:=ho.out.at (k+j) (by rw [length_splice];have:=HKL.out;omega;have:=HKL.out;simp [qb4];omega);obtain ⟨bk,hbk,ebk⟩:∃bk:UInt8,IntKind.u8.wrap ((x:Int) / 2 ^ m)=(bk.toNat:Int)∧bk=(le4 x)[j]'(by rw [qb4];exact hlt):=⟨_,qaf1 x j m EM.out hlt,rfl⟩;have EB:=hide ebk;clear ebk;have hK:Keeps (fun wx=>wx.cell? ⟨kp,0,none⟩=some (.slice (some ⟨g,k,none⟩) 4 cp)):=qaa _ _;go_wp2
   refine qdb hK 8 (by kernel_rfl) hc ?_
   intro hS
   refine qhu [0,1,2,3,4,5,6,7] (fuel:=1) (a':=?zp1a) (by kernel_rfl) (by kernel_rfl) (by kernel_rfl) ?zp1p hS ?zp1n
   case zp1p=>
    iterate 8 (apply Yl.cons rfl (by kernel_rfl);focus (rintro wx x1;go_simp;all_goals (with_reducible rfl));try simp only [Act.put,List.setIfInBounds_toArray,List.set_cons_zero,List.set_cons_succ])
    exact Yl.nil
   refine qd2 (i:=8) (w':=wr.drew.setCell ⟨g,k+j,none⟩ (.int .u8 bk.toNat)) rfl (by kernel_rfl) (by kernel_rfl) (by rfl) (by go_simp) ?_
   try simp only [Act.put,List.setIfInBounds_toArray,List.set_cons_zero,List.set_cons_succ]
   refine qcm (by kernel_rfl) ?_ _
   refine NoPanic.normal ?_
   clear hS hK hbk hcl;obtain ⟨o1,o2⟩:=ho.out.stored (k+j) bk;rw [EB.out,qtv _ _ _ _ (by rw [qb4];exact hlt) (by rw [qb4];exact HKL.out),←EB.out] at o1;have o1':OwB (wr.drew.setCell ⟨g,k+j,none⟩ (.int .u8 bk.toNat)) base (.slice (some ⟨g,0,none⟩) n c) (splice l k ((le4 x).take (j+1))):=o1.carry (Below.refl _ _).drew;have hG:w.grownBy (wr.drew.setCell ⟨g,k+j,none⟩ (.int .u8 bk.toNat)) (some g):=qbu (qbu hgr o2) (qn4 (qby (Below.refl _ _).drew) _);have hcs:=qoc hG hcell hne;have hcb:=o1'.at (k+j) (by rw [length_splice];have:=HKL.out;omega;have:=HKL.out;simp [qb4];omega);obtain ⟨bz,hbz⟩:∃bz:Int,bz=(((splice l k ((le4 x).take (j+1)))[k+j]'(by rw [length_splice];have:=HKL.out;omega;have:=HKL.out;simp [qb4];omega)).toNat:Int):=⟨_,rfl⟩;rw [←hbz] at hcb;clear hbz;have HO1:=hide o1';clear o1 o1' o2 hfz hc ho;generalize wr.drew.setCell ⟨g,k+j,none⟩ (.int .u8 bk.toNat)=ws at *;go_wp2;go_roundw
   case rel=>exact ⟨j+1,_,by omega,by go_num,rfl,HO1,hG⟩
   case measure=>simp [intOf]<;>omega
  ·have hlt':decide ((j:Int)<4)=false:=by simpa using (by omega:¬(j:Int)<4)
   obtain rfl:j=4:=by omega
   go_wp2;go_ret;refine ⟨⟨_,rfl⟩,hgr, ?_⟩
   have:=ho.out
   rwa [List.take_of_length_le (by rw [qb4];omega)] at this
theorem get_or (j m u:Nat) (b:UInt8) (hm:m=8*j) (hj:j<4) (hu:u<256 ^ j):bits .or .u32 (u:Int) ((b.toNat:Int) % 4294967296*2 ^ m % 4294967296)=((u+b.toNat*256 ^ j:Nat):Int):=by
 have hb:=b.toNat_lt
 have hp:(256:Nat) ^ j=2 ^ m:=by rw [hm,Nat.pow_mul]
 rw [hp] at hu ⊢;have hle:(2:Nat) ^ m≤2 ^ 24:=Nat.pow_le_pow_right (by decide) (by omega)
 have hlt:b.toNat*2 ^ m<4294967296:=by
  have:b.toNat*2 ^ m≤255*2 ^ m:=Nat.mul_le_mul_right _ (by omega)
  omega
 have e:((b.toNat:Int)*2 ^ m)=((b.toNat*2 ^ m:Nat):Int):=by rw [Int.natCast_mul,Int.natCast_pow];rfl
 rw [show (b.toNat:Int) % 4294967296=b.toNat by omega,e]
 have e2:((b.toNat*2 ^ m:Nat):Int) % 4294967296=((b.toNat*2 ^ m:Nat):Int):=by omega
 rw [e2,u32_or_nat _ _ (by omega) hlt,Nat.or_comm,nat_join m _ _ (by simp) hu,Nat.add_comm]
theorem qabw (g off kp cp:Nat) (b:List UInt8) (w:World) (hb:b.length=4) (hrd:Rd w (.slice (some ⟨g,off,none⟩) 4 cp) b) (hcell:w.cell? ⟨kp,0,none⟩=some (.slice (some ⟨g,off,none⟩) 4 cp)):
  Calls Tryz.prog 264 #[.bool false,.int .u32 0,.pointer (some ⟨kp,0,none⟩)] w fun e w'=>e=.returned (.int .u32 (un4 b))∧w'=w:=by
 have HB:=hide hb
 have hcs:∀j,(h:j<b.length)→w.cell? ⟨g,off+j,none⟩=some (.int .u8 (b[j]).toNat):=by
  rcases hrd with ⟨rfl,_⟩ | ⟨b',off',c',e,_,_,hc⟩
  ·exact absurd hb (by decide)
  ·simp only [Value.slice.injEq,Option.some.injEq,Addr.mk.injEq] at e
   obtain ⟨⟨rfl,rfl,_⟩,_,rfl⟩:=e;exact hc
 have HC:=hide hcs;clear hb hrd hcs
 go_enter Tryz.func264,Tryz.ntmps264
 go_wp2
 go_loop [6,10] (fun t i=>∃j:Nat,j≤4∧i=.int .i64 j∧t=.int .u32 (un4 (b.take j))) (fun _ i=>4 - (intOf i).toNat)
 case atStart=>exact ⟨0,Nat.zero_le _,rfl,rfl⟩
 case round=>
  obtain ⟨j,hj,rfl,rfl⟩:=hrel
  by_cases hlt:j<4
  ·have hlt':(j:Int)<4:=by omega
   obtain ⟨m,em,a1,a2,a3⟩:=qrw hlt;have EM:=hide em;clear em
   have hjb:j<b.length:=by rw [HB.out];exact hlt
   have hc:=HC.out j hjb;obtain ⟨u,hu⟩:∃u:Nat,u=un4 (b.take j):=⟨_,rfl⟩;have HU:=hide (show un4 (b.take (j+1))=u+(b[j]).toNat*256 ^ j by rw [hu];exact qafr b j hjb)
   have HL:=hide (show u<256 ^ j by
    rw [hu];have:=qrq (b.take j);rwa [List.length_take,Nat.min_eq_left (by omega)] at this)
   rw [←hu];obtain ⟨y,hy⟩:∃y:UInt8,y=b[j]:=⟨_,rfl⟩;rw [←hy] at hc;have HY:=hide hy;clear hu hy;go_wp2
   go_round
   case rel=>exact ⟨j+1,by omega,by go_num,by rw [HU.out,←get_or j m u _ EM.out hlt HL.out,←HY.out]⟩
   case measure=>simp [intOf]<;>omega
  ·obtain rfl:j=4:=by omega
   go_wp2;go_ret;refine ⟨?_,rfl⟩;rw [List.take_of_length_le (by rw [HB.out];omega)];rfl
end Go.Proofs.YtmeaiocohalphaaGreatDoor
