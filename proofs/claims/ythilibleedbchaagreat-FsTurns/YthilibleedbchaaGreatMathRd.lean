/-
  Plain mathematics: the number that a list of small bytes tells, reckoned from its end, is the one reckoned from its beginning.
-/
import Derived.Test.YthilibleedbchaaGreatRmMay
import Derived.Test.YthilibleedbchaaGreatRows
import Derived.Test.YthilibleedbchaaGreatRegD
import Derived.Test.YthilibleedbchaaGreatMathRm
import Derived.WalkKit
import Derived.WalkSpells
import Derived.WalkLawsBesides
set_option maxHeartbeats 1000000
set_option maxRecDepth 100000
namespace Go.Proofs.YthilibleedbchaaGreat
open Go.RowKit
set_option linter.all false
theorem qo2 {l:List Ex} {k:Nat} {N:Int} (hkl:k<l.length) (hk:k+1=l.length) (h:l[k].1+l[k].2=N):l.set k (l[k].1,l[k].2+1)=qit l N:=by
 rcases List.eq_nil_or_concat l with rfl | ⟨l',x,rfl⟩
 ·simp at hk
 ·have e:k=l'.length:=by simp at hk;omega
  subst e
  simp only [List.concat_eq_append,List.getElem_append_right (Nat.le_refl _),Nat.sub_self,List.getElem_cons_zero] at h ⊢
  rw [qfb,if_pos h]
  simp
theorem qo3 {l:List Ex} {k:Nat} {N:Int} (hkl:k<l.length) (hk:k+1=l.length) (h:¬l[k].1+l[k].2=N):l++[(N,1)]=qit l N:=by
 rcases List.eq_nil_or_concat l with rfl | ⟨l',x,rfl⟩
 ·simp at hk
 ·have e:k=l'.length:=by simp at hk;omega
  subst e
  simp only [List.concat_eq_append,List.getElem_append_right (Nat.le_refl _),Nat.sub_self,List.getElem_cons_zero] at h ⊢
  rw [qfb,if_neg h]
theorem qs3 {w:World} {base:Nat} {v:Value} {l:List Ex} (h:OwE w base v l) (hb:base≤w.heap.size) (hl:l.length≤1000000) (x y:Int) (nq:Nat):
  ∃g c w',(Builtin.append_ #[73,73] 73 #[v,.slice (some ⟨w.heap.size,0,none⟩) 1 1]).run Tryz.prog ((w.drewN nq).alloc (.cells #[.int .i64 x,.int .i64 y] 116))=.ok (.slice (some ⟨g,0,none⟩) (l.length+1) c) w'∧
   OwE w' base (.slice (some ⟨g,0,none⟩) (l.length+1) c) (l++[(x,y)])∧Below base w w':=by
 obtain ⟨g,c,w',h1,h2,h3⟩:=qrk (w:=w.drewN nq) h hb hl x y;exact ⟨g,c,w',h1,h2,⟨h3.os,h3.tape,h3.output,h3.size,h3.block⟩⟩
theorem qz7 (base:Nat) (a:Option Addr) (n c:Nat) (l:List Ex) (N:Int) (w:World) (h:OwE w base (.slice a n c) l) (hb:base≤w.heap.size) (hn:n=l.length) (hl:l.length≤4096) (hmay:∀x∈l,mayX x=true):
  Calls Tryz.prog 211 #[.slice a n c,.int .i64 N] w fun e w'=>∃v,e=.returned v∧OwE w' base v (qit l N)∧Below base w w':=by
 have HR:=hide (qs3 h hb (by omega) N 1)
 cases hz:l.length with
 | zero=>
  obtain rfl:l=[]:=List.length_eq_zero_iff.1 hz
  have hn0:n=0:=by simpa using hn
  subst hn0;clear h hn hmay
  go_enter Tryz.func211,Tryz.ntmps211
  go_wp2
  go_quiet (fail)
  obtain ⟨g9,c9,w9,hrun,hown9,hbel9⟩:=HR.out nq;have HO:=hide hown9;clear hown9
  go_wp2_with (at_builtin;refine qaf rfl (.tmp 35) (.tmp 38) 73 rfl rfl rfl rfl hrun ?_)
  go_ret;exact ⟨_,rfl,HO.out,hbel9⟩
 | succ k=>
  obtain ⟨g,rfl,hbg, -,hnc,hcm⟩:=h.lies (by intro e;rw [e] at hz;simp at hz)
  have hn1:n=k+1:=by omega
  subst hn1
  have hkl:k<l.length:=by omega
  have hx:=(qb0 _).1 (hmay _ (List.getElem_mem hkl));obtain ⟨e1,e2⟩:=qgu l k hkl
  have c1:w.cell? ⟨g,k*2,none⟩=some (.int .i64 (l[k]).1):=by have:=h.cells (g:=g) rfl _ _ e1;rw [Addr.add_lit] at this;simpa using this
  have c2:w.cell? ⟨g,k*2+1,none⟩=some (.int .i64 (l[k]).2):=by have:=h.cells (g:=g) rfl _ _ e2;rw [Addr.add_lit] at this;simpa [Nat.add_assoc] using this
  have fr:=fun j=>World.ownsRow.frozenAt (hn ▸ h:w.ownsRow base 116 2 (.slice (some ⟨g,0,none⟩) (k+1) c) (k+1) (cellsE l)) j
  obtain ⟨s1,g1⟩:=h.stored hn k hkl ((l[k]).2+1);have HW:=hide (fun hN=>qo2 (N:=N) hkl hz.symm hN);have HW2:=hide (fun hN=>qo3 (N:=N) hkl hz.symm hN);have HS:=hide s1;have HG:=hide g1;have HBG:=hide hbg
  have hw1:wrap64 ((k:Int)+1 - 1)=k:=by unfold wrap64;unfold maxLen at hcm;omega
  have hww:=hn;clear hww e1 e2 s1 g1 h hn hmay hz hbg;generalize hp:(l[k]).1=p at *;generalize hq:(l[k]).2=q at *
  have hw2:wrap64 (p+q)=p+q:=by unfold wrap64;omega
  have hw3:wrap64 (q+1)=q+1:=by unfold wrap64;omega
  have hkc:(k:Int)<((k+1:Nat):Int):=by omega
  clear hp hq
  by_cases hN:p+q=N
  ·have HE:=hide (HW.out hN)
   clear HW HW2
   go_enter Tryz.func211,Tryz.ntmps211
   go_wp2
   go_quiet (fail)
   go_wp2;go_ret;refine ⟨_,rfl, ?_, ?_⟩
   ·rw [←HE.out];exact HS.out
   ·exact Below.setCell (below_drewN (Below.refl base w) nq) HBG.out _
  ·have HE:=hide (HW2.out hN)
   have hN':(p+q==N)=false:=by simpa using hN
   clear HW HW2
   go_enter Tryz.func211,Tryz.ntmps211
   go_wp2
   go_quiet (fail)
   obtain ⟨g9,c9,w9,hrun,hown9,hbel9⟩:=HR.out nq;have HO:=hide hown9;clear hown9
   go_wp2_with (at_builtin;refine qaf rfl (.tmp 35) (.tmp 38) 73 rfl rfl rfl rfl hrun ?_)
   go_ret;refine ⟨_,rfl, ?_, ?_⟩
   ·rw [←HE.out];exact HO.out
   ·exact hbel9
theorem qo4 {u:Int→Bool} {a:Int} {k:Nat} (ha:0≤a) (hk:a+k≤4096):∀x∈qcr u a k,mayX x=true:=by
 intro x hx
 have:=(qiv u a k).1.1 x hx
 rw [qb0];omega
theorem qo5 (b:Nat) (f:Nat→Bool) (p m:Nat) (T:Int) (w:World) (hm:Mk w b f) (hto:p+m≤4096) (hT:T=p+m):
  Calls Tryz.prog 195 #[.pointer (some ⟨b,0,none⟩),.int .i64 p,.int .i64 T] w fun e w'=>∃v,e=.returned v∧OwE w' w.heap.size v (qcr (fun n=>f n.toNat) p m)∧Below w.heap.size w w':=by
 have hlt:=hm.lt;have HM:=hide hm;have HT:=hide hT;clear hm hT
 go_enter Tryz.func195,Tryz.ntmps195
 go_wp2
 go_loopw [7,8] (fun v i wr=>∃k:Nat,k≤m∧i=.int .i64 ((p:Int)+(k:Int))∧Hid (OwE wr w.heap.size v (qcr (fun n=>f n.toNat) p k))∧Below w.heap.size w wr) (fun _ i _=>p+m - (intOf i).toNat)
 case atStart=>exact ⟨0,Nat.zero_le _,by simp,hide (OwE.nil _ _),Below.refl _ _⟩
 case round=>
  obtain ⟨k,hk,rfl,ho,hbel⟩:=hrel
  by_cases hlt2:k<m
  ·have hlt':(p:Int)+(k:Int)<T:=by have:=HT.out;omega
   have hmk:Mk wr b f:=(hbel.block b hlt).trans HM.out;have hcell:=hmk.cell (p+k) (by omega)
   have hin:(p:Int)+(k:Int)<4096:=by omega
   have hin0:0≤(p:Int)+(k:Int):=by omega
   have hin1:((p:Int)+(k:Int)).toNat=p+k:=by omega
   have hwr:wrap64 ((p:Int)+(k:Int)+1)=(p:Int)+(k:Int)+1:=by unfold wrap64;omega
   clear hmk
   cases hf:f (p+k) with
   | true=>
    rw [hf] at hcell
    have HE:=hide (show qcr (fun n=>f n.toNat) p (k+1)=qcr (fun n=>f n.toNat) p k by
     rw [qcr,if_pos]
     show f ((p:Int)+k).toNat=true
     rw [hin1];exact hf)
    clear hf;go_wp2;go_roundw
    case rel=>exact ⟨k+1,by omega,congrArg (Value.int .i64) (by omega),hide (by rw [HE.out];exact ho.out),hbel⟩
    case measure=>simp only [intOf];omega
   | false=>
    rw [hf] at hcell
    have HE:=hide (show qcr (fun n=>f n.toNat) p (k+1)=qit (qcr (fun n=>f n.toNat) p k) ((p:Int)+(k:Int)) by
     rw [qcr,if_neg]
     show ¬f ((p:Int)+k).toNat=true
     rw [hin1,hf];simp)
    clear hf;obtain ⟨a7,c7,rfl⟩:=ho.out.form;have hl:=qhv (fun n=>f n.toNat) p k;have HMay:=hide (qo4 (u:=fun n=>f n.toNat) (a:=p) (k:=k) (by omega) (by omega))
    go_wp2_with fail
    refine (qz7 w.heap.size a7 _ c7 _ ((p:Int)+(k:Int)) wr ho.out hbel.size rfl (by omega) HMay.out).mono ?_
    rintro e wc ⟨v,rfl,hown,hbc⟩;have HO:=hide (show OwE wc w.heap.size v (qcr (fun n=>f n.toNat) p (k+1)) by rw [HE.out];exact hown);have hbc':=hbel.trans hbc;clear hbc hown HMay hl;go_wp2;go_roundw
    case rel=>exact ⟨k+1,by omega,congrArg (Value.int .i64) (by omega),HO,hbc'⟩
    case measure=>simp only [intOf];omega
  ·have hd:decide ((p:Int)+(k:Int)<T)=false:=by simpa using (by have:=HT.out;omega:¬(p:Int)+(k:Int)<T)
   obtain rfl:k=m:=by omega
   go_wp2;go_ret;exact ⟨_,rfl,ho.out,hbel⟩
theorem qz8 {l:List Ex} {k:Nat} (h:k<l.length) (y:Ex):(l.set k y).take (k+1)=l.take k++[y]:=by
 rw [qbr _ _ (by simpa using h)]
 simp [List.take_set_of_le]
theorem qz9 {l:List Ex} {k:Nat} {Z W:Int} (hkl:k<l.length) (hz:Z=W - qcy (l.take k)) (hz1:1≤Z) (h1:∀x∈l,1≤x.2) (hle:Z≤(l[k]).2):cutX l W=some ((l.set k ((l[k]).1,Z)).take (k+1)):=by
 rw [qo1 (w:=W) hkl (by omega) h1 (by omega),qz8 hkl,hz]
theorem qaaa {l:List Ex} {k:Nat} {Z W:Int} (hkl:k<l.length) (hz:Z=W - qcy (l.take k)):Z - (l[k]).2=W - qcy (l.take (k+1)):=by
 rw [qbr l k hkl,ql9];omega
theorem qadr (base:Nat) (a:Option Addr) (n c:Nat) (l:List Ex) (W:Int) (w:World) (h:OwE w base (.slice a n c) l) (hb:base≤w.heap.size) (hn:n=l.length) (hl:l.length≤4096) (hmay:∀x∈l,0≤x.1∧1≤x.2∧x.1+x.2≤4096) (hW:1≤W) (hW':W≤4096):
  Calls Tryz.prog 153 #[.slice a n c,.int .i64 W] w fun e w'=>∃v,e=.returned (.tuple #[v,.int .i64 (cutE l W)])∧OwE w' base v ((cutX l W).getD [])∧Below base w w':=by
 have HM:=hide hmay;have H1:=hide (fun x hx=>(hmay x hx).2.1:∀x∈l,1≤x.2);have HO:=hide h;have HN:=hide hn
 have hn4:n≤4096:=by omega
 clear h hmay hn hl
 go_enter Tryz.func153,Tryz.ntmps153
 go_wp2
 go_loopw [1,10] (fun z i wr=>∃(k:Nat) (Z:Int),k≤n∧z=.int .i64 Z∧i=.int .i64 k∧Hid (Z=W - qcy (l.take k))∧1≤Z∧Z≤4096∧Below w.heap.size w wr) (fun _ i _=>n - (intOf i).toNat)
 case atStart=>exact ⟨0,W,Nat.zero_le _,rfl,rfl,hide (by simp [qcy]),hW,hW',Below.refl _ _⟩
 case round=>
  obtain ⟨k,Z,hk,rfl,rfl,hz,hz1,hz2,hbel⟩:=hrel
  by_cases hlt:k<n
  ·have hlt':(k:Int)<n:=by omega
   have hkl:k<l.length:=by have:=HN.out;omega
   obtain ⟨g,rfl,hbg, -,hnc, -⟩:=HO.out.lies (by intro e;rw [e] at hkl;simp at hkl);have hor:=HO.out.carry hbel;obtain ⟨b,off,e,q0,q1⟩:=hor.rd.at k hkl;cases e;rw [Nat.zero_add] at q0 q1
   by_cases hle:Z≤(l[k]).2
   ·have HC:=hide (qz9 hkl hz.out hz1 H1.out hle)
    have hor2:=hor.carry ((Below.refl _ _).alloc (Nat.le_refl _) (.cells #[.int .i64 (l[k]).1,.int .i64 (l[k]).2] 116));obtain ⟨s1,g1⟩:=hor2.stored HN.out k hkl Z;have HS:=hide (s1.take (by simpa using HN.out) (k+1) (by simp;omega));have hfr:=hor2.frozen HN.out (k*2+1);have hbb:Below base w (wr.alloc (.cells #[.int .i64 (l[k]).1,.int .i64 (l[k]).2] 116)):=(hbel.mono hb).alloc (Nat.le_trans hb hbel.size) _;obtain ⟨b',off',e',q0',q1'⟩:=hor2.rd.at k hkl;cases e';rw [Nat.zero_add] at q1';clear q0';have HBB:=hide hbb;have HBG:=hide hbg;have hw1:wrap64 ((k:Int)+1)=(k:Int)+1:=qhg (by omega)
    have hkc:(k:Int)+1≤c:=by have h1:k+1≤c:=Nat.le_trans hlt hnc;exact Int.ofNat_le.2 h1
    clear s1 g1 hor hor2 hbb HM H1 HO HN hz hbel hb hbg;generalize (l[k]).1=P at *;generalize (l[k]).2=R at *;go_wp2;go_ret2;exact ⟨_,by unfold cutE;rw [HC.out];rfl,by rw [HC.out];exact HS.out,HBB.out.setCell HBG.out _⟩
   ·have hle':decide (Z≤(l[k]).2)=false:=by simpa using hle
    have hx:=HM.out _ (List.getElem_mem hkl);have HZ:=hide (qaaa hkl hz.out)
    have hw1:wrap64 (Z - (l[k]).2)=Z - (l[k]).2:=by unfold wrap64;omega
    have hbb:=hbel.alloc hbel.size (.cells #[.int .i64 (l[k]).1,.int .i64 (l[k]).2] 116);clear hor;go_wp2;go_roundw
    case rel=>exact ⟨k+1,_,by omega,rfl,rfl,HZ,by omega,by omega,hbb⟩
    case measure=>simp only [intOf];omega
  ·have hd:decide ((k:Int)<n)=false:=by simpa using (by omega:¬(k:Int)<n)
   have HC:=hide (show cutX l W=none from qs1 (by have h1:=hz.out;have:=HN.out;rw [List.take_of_length_le (by omega)] at h1;omega) H1.out);go_wp2;go_ret2;exact ⟨_,by unfold cutE;rw [HC.out];rfl,by rw [HC.out];exact OwE.nil _ _,hbel.mono hb⟩
theorem qfe {A B:Int} {l:List Ex} (h:A<0∨B<A∨4096<B):qdb A B l=2∧qcz A B l=[]:=by
 have:qdb A B l=2:=by unfold qdb;rw [if_pos h]
 exact ⟨this,by unfold qcz;rw [if_neg (by rw [this];decide)]⟩
theorem qo6 {A B:Int} {l:List Ex} (h:¬(A<0∨B<A∨4096<B)):qdb A B l=allX l:=by unfold qdb;rw [if_neg h]
theorem qhy {A B:Int} {l:List Ex} (h:qdb A B l≠0):qcz A B l=[]:=by unfold qcz;rw [if_neg h]
theorem qkh {u v:Int→Bool} {a:Int}:∀k:Nat,(∀n,a≤n→n<a+k→u n=v n)→qcr u a k=qcr v a k
 | 0,_=>rfl
 | k+1,h=>by
  unfold qcr;rw [qkh k (fun n h1 h2=>h n h1 (by omega)),h (a+k) (by omega) (by omega)]
theorem qaab (A B:Int) (a:Option Addr) (n c:Nat) (l:List Ex) (w:World) (hrd:RdE w (.slice a n c) l) (hn:n=l.length) (hwf:∀x∈l,wfX x):
  Calls Tryz.prog 152 #[.int .i64 A,.int .i64 B,.slice a n c] w fun e w'=>∃v,e=.returned (.tuple #[v,.int .i64 (qdb A B l)])∧OwE w' w.heap.size v (qcz A B l)∧Below w.heap.size w w':=by
 have HR:=hide hrd;have HN:=hide hn;have HW:=hide hwf;have HA:=hide (qi7 a n c l w hrd hn hwf);clear hrd hn hwf
 by_cases h1:A<0
 ·have HB:=hide (qfe (B:=B) (l:=l) (.inl h1:A<0∨B<A∨4096<B))
  go_enter Tryz.func152,Tryz.ntmps152
  go_wp2;go_ret2;exact ⟨_,by rw [HB.out.1];rfl,by rw [HB.out.2];exact OwE.nil _ _,Below.refl _ _⟩
 have h1':decide (A<0)=false:=by simpa using h1
 by_cases h2:B<A
 ·have HB:=hide (qfe (B:=B) (l:=l) (.inr (.inl h2):A<0∨B<A∨4096<B))
  go_enter Tryz.func152,Tryz.ntmps152
  go_wp2;go_ret2;exact ⟨_,by rw [HB.out.1];rfl,by rw [HB.out.2];exact OwE.nil _ _,Below.refl _ _⟩
 have h2':decide (B<A)=false:=by simpa using h2
 by_cases h3:4096<B
 ·have HB:=hide (qfe (A:=A) (l:=l) (.inr (.inr h3):A<0∨B<A∨4096<B))
  go_enter Tryz.func152,Tryz.ntmps152
  go_wp2;go_ret2;exact ⟨_,by rw [HB.out.1];rfl,by rw [HB.out.2];exact OwE.nil _ _,Below.refl _ _⟩
 have h3':decide (4096<B)=false:=by simpa using h3
 obtain ⟨p,rfl⟩:∃p:Nat,A=p:=⟨A.toNat,by omega⟩;obtain ⟨m,hm⟩:∃m:Nat,B=p+m:=⟨(B - p).toNat,by omega⟩;have HE:=hide (qo6 (A:=(p:Int)) (B:=B) (l:=l) (by omega));have HB:=hide hm
 have hpm:p+m≤4096:=by omega
 clear hm
 go_enter Tryz.func152,Tryz.ntmps152
 go_wp2_with fail
 refine HA.out.mono ?_
 rintro e wa ⟨rfl,hba⟩
 by_cases hz:allX l=0
 ·have HZ:=hide hz
  rw [hz];have hzero:=Tryz.zeroMk;have hne:=qacg (fun _=>false)
  have hn4:n≤4096:=by have:=(qe6 HZ.out).1;have:=HN.out;omega
  have HMay:=hide (fun x hx=>(qb0 x).2 ((qe6 HZ.out).2 x hx):∀x∈l,mayX x=true);have hws:=hba.size;clear hz;go_wp2
  go_loopw [30] (fun i wr=>∃k:Nat,k≤n∧i=.int .i64 k∧Hid (Mk wr wa.heap.size (fun j=>inL (l.take k) j))∧Below w.heap.size w wr) (fun i _=>n - (intOf i).toNat)
  case atStart=>exact ⟨0,Nat.zero_le _,rfl,hide ((Mk.new wa _).same fun j=>by simp [inL]),hba.alloc hws _⟩
  case round=>
   obtain ⟨k,hk,rfl,hmk,hbel⟩:=hrel;have hml:=hmk.out.lt
   by_cases hlt:k<n
   ·have hlt':(k:Int)<n:=by omega
    have hkl:k<l.length:=by have:=HN.out;omega
    obtain ⟨b,off,rfl,q0,q1⟩:=(HR.out.carry hbel).at k hkl
    go_wp2_with fail
    refine (qz5 wa.heap.size _ (l[k]) (HMay.out _ (List.getElem_mem hkl)) _ (hmk.out.carry ((Below.refl _ _).alloc (Nat.le_refl _) _))).mono ?_
    rintro e wc ⟨rfl,hm1,hg⟩;have HM1:=hide (hm1.same (g:=fun j=>inL (l.take (k+1)) j) fun j=>by rw [qbr l k hkl,qgs]);have hbc:Below w.heap.size w wc:=(hbel.alloc hbel.size _).grown hg (Nat.le_trans hbel.size (by simp)) (fun j hj=>by cases hj;exact hws);clear hm1 hg;go_wp2;go_roundw
    case rel=>exact ⟨k+1,by omega,rfl,HM1,hbc⟩
    case measure=>simp only [intOf];omega
   ·have hd:decide ((k:Int)<n)=false:=by simpa using (by omega:¬(k:Int)<n)
    have hf:∀j,inL (l.take k) j=inL l j:=fun j=>by rw [List.take_of_length_le (by have:=HN.out;omega)]
    have HM1:=hide (hmk.out.same (g:=fun j=>inL l j) fun j=>hf j);clear hf
    go_wp2_with fail
    refine (qo5 wa.heap.size _ p m B wr HM1.out hpm HB.out).mono ?_
    rintro e wc ⟨v,rfl,hown,hbc⟩
    have HO:=hide (show OwE wc w.heap.size v (qcz p B l) by
     have e:qcz p B l=qcr (fun n:Int=>inL l ((n.toNat:Nat):Int)) p m:=by
      unfold qcz;rw [if_pos (by rw [HE.out,HZ.out]),show (B - (p:Int)).toNat=m by have:=HB.out;omega]
      exact qkh m fun n h1 _=>by rw [show ((n.toNat:Nat):Int)=n by omega]
     rw [e]
     exact hown.mono hbel.size)
    have hbc':=hbel.trans (hbc.mono hbel.size);clear hown hbc;go_wp2;go_ret2;exact ⟨_,by rw [HE.out,HZ.out];rfl,HO.out,hbc'⟩
 ·have HL:=hide (qhy (A:=(p:Int)) (B:=B) (l:=l) (by rw [HE.out];exact hz))
  generalize hE:allX l=E at *
  have hz':(E==0)=false:=by simpa using hz
  go_wp2;go_ret2;exact ⟨_,by rw [HE.out];rfl,by rw [HL.out];exact OwE.nil _ _,hba⟩
theorem qaac (A B W:Int) (a:Option Addr) (n c:Nat) (l:List Ex) (w:World) (hrd:RdE w (.slice a n c) l) (hn:n=l.length) (hwf:∀x∈l,wfX x):
  Calls Tryz.prog 88 #[.int .i64 A,.int .i64 B,.slice a n c,.int .i64 W] w fun e w'=>∃v,e=.returned (.tuple #[v,.int .i64 (qdd A B l W)])∧OwE w' w.heap.size v (qde A B l W)∧Below w.heap.size w w':=by
 have HF:=hide (qaab A B a n c l w hrd hn hwf);clear hrd hn hwf
 go_enter Tryz.func88,Tryz.ntmps88
 go_wp2_with fail
 refine HF.out.mono ?_
 rintro e wa ⟨v,rfl,hown,hba⟩;have HO:=hide hown;obtain ⟨av,cv,rfl⟩:=hown.form;clear hown HF
 by_cases hz:qdb A B l=0
 ·by_cases hw1:W<1
  ·have HT:=hide (qfc hz (.inl hw1:W<1∨4096<W))
   rw [hz];clear hz;go_wp2;go_ret2;exact ⟨_,by rw [HT.out.1];rfl,by rw [HT.out.2];exact OwE.nil _ _,hba⟩
  ·have hw1':decide (W<1)=false:=by simpa using hw1
   by_cases hw2:4096<W
   ·have HT:=hide (qfc hz (.inr hw2:W<1∨4096<W))
    rw [hz];clear hz;go_wp2;go_ret2;exact ⟨_,by rw [HT.out.1];rfl,by rw [HT.out.2];exact OwE.nil _ _,hba⟩
   ·have hw2':decide (4096<W)=false:=by simpa using hw2
    obtain ⟨r1,r2,r3⟩:=qgt hz;obtain ⟨f1,f2,f3,f4⟩:=qjq hz;have HR:=hide (fun x hx=>by have:=r1.1 x hx;omega:∀x∈qcz A B l,0≤x.1∧1≤x.2∧x.1+x.2≤4096);have HZ:=hide hz;rw [hz];clear hz r1 r2 f1 f2 f3 f4
    go_wp2_with fail
    refine (qadr w.heap.size av _ cv _ W wa HO.out hba.size rfl r3 HR.out (by omega) (by omega)).mono ?_
    rintro e wb ⟨v,rfl,hown,hbb⟩
    have HT:=hide (show qdd A B l W=cutE (qcz A B l) W∧qde A B l W=(cutX (qcz A B l) W).getD [] by
     unfold qdd qde
     have h1:¬qdb A B l≠0:=by rw [HZ.out];decide
     have h2:¬(W<1∨4096<W):=by omega
     rw [if_neg h1,if_neg h1,if_neg h2,if_neg h2];exact ⟨rfl,rfl⟩)
    have HO2:=hide hown;have hbb':=hba.trans hbb;clear hown hbb;go_wp2;go_ret2;exact ⟨_,by rw [HT.out.1];rfl,by rw [HT.out.2];exact HO2.out,hbb'⟩
 ·have HT:=hide (qiw (w:=W) hz)
  generalize hE:qdb A B l=E at *
  have hz':(E==0)=false:=by simpa using hz
  go_wp2;go_ret2;exact ⟨_,by rw [HT.out.1];rfl,by rw [HT.out.2];exact OwE.nil _ _,hba⟩
theorem qaad {l:List Ex} {k:Nat} (hk:k<l.length) (hm:∀x∈l,mayX x=true) (h:apX (l.take k)=true) (hn:∀n:Nat,inL (l.take k) n=true→inX l[k] n=false):apX (l.take (k+1))=true:=by
 rw [qbr l k hk,qhu,h,Bool.true_and,List.all_eq_true];intro y hy;have hyl:y∈l:=List.mem_of_mem_take hy;have my:=(qb0 y).1 (hm y hyl);have mk:=(qb0 _).1 (hm _ (List.getElem_mem hk));rw [Bool.not_eq_true',←Bool.not_eq_true,qs0 mk.2.1 my.2.1];rintro ⟨n,h1,h2⟩
 have h0:0≤n:=by simp [inX] at h2;omega
 have:=hn n.toNat (by rw [Int.toNat_of_nonneg h0,qwh];exact ⟨y,hy,by simpa [inX] using h2⟩)
 rw [Int.toNat_of_nonneg h0,h1] at this;cases this
theorem qads {l:List Ex} {k:Nat} (hk:k<l.length) (hm:∀x∈l,mayX x=true) {n:Nat} (h1:inL (l.take k) n=true) (h2:inX l[k] n=true):apX (l.take (k+1))=false:=by
 rw [qbr l k hk,qhu,Bool.and_eq_false_iff]
 right
 rw [List.all_eq_false];obtain ⟨y,hy,h3⟩:=(qwh _ _).1 h1;have my:=(qb0 y).1 (hm y (List.mem_of_mem_take hy));have mk:=(qb0 _).1 (hm _ (List.getElem_mem hk));refine ⟨y,hy, ?_⟩
 rw [(qs0 mk.2.1 my.2.1).2 ⟨n,h2,by simpa [inX] using h3⟩];simp
theorem qwl (a:Option Addr) (n c:Nat) (l:List Ex) (w:World) (hrd:RdE w (.slice a n c) l) (hn:n=l.length) (hwf:∀x∈l,wfX x):
  Calls Tryz.prog 197 #[.slice a n c] w fun e w'=>e=.returned (.int .i64 (chkX l))∧Below w.heap.size w w':=by
 have HR:=hide hrd;have HN:=hide hn;have HA:=hide (qi7 a n c l w hrd hn hwf);clear hrd hn hwf
 go_enter Tryz.func197,Tryz.ntmps197
 go_wp2_with fail
 refine HA.out.mono ?_
 rintro e wa ⟨rfl,hba⟩
 by_cases hz:allX l=0
 ·have HZ:=hide hz
  rw [hz];have hzero:=Tryz.zeroMk;have hne:=qacg (fun _=>false)
  have hn4:n≤4096:=by have:=(qe6 HZ.out).1;have:=HN.out;omega
  have HMay:=hide (fun x hx=>(qb0 x).2 ((qe6 HZ.out).2 x hx):∀x∈l,mayX x=true);have hws:=hba.size;clear hz;go_wp2
  go_loopw [14] (fun i wr=>∃k:Nat,k≤n∧i=.int .i64 k∧Hid (Mk wr wa.heap.size (fun j=>inL (l.take k) j))∧Hid (apX (l.take k)=true)∧Below w.heap.size w wr) (fun i _=>n - (intOf i).toNat)
  case atStart=>exact ⟨0,Nat.zero_le _,rfl,hide ((Mk.new wa _).same fun j=>by simp [inL]),hide (by simp [apX]),hba.alloc hws _⟩
  case round=>
   obtain ⟨k,hk,rfl,hmk,hap,hbel⟩:=hrel;have hml:=hmk.out.lt
   by_cases hlt:k<n
   ·have hlt':(k:Int)<n:=by omega
    have hkl:k<l.length:=by have:=HN.out;omega
    obtain ⟨b,off,rfl,q0,q1⟩:=(HR.out.carry hbel).at k hkl
    go_wp2_with fail
    refine (qrm wa.heap.size _ (l[k]) (HMay.out _ (List.getElem_mem hkl)) _ (hmk.out.carry ((Below.refl _ _).alloc (Nat.le_refl _) _))).mono ?_
    rintro e wc ⟨hg,⟨rfl,hm1,hno⟩ | ⟨rfl,j, -,hj1,hj2⟩⟩
    ·have HM1:=hide (hm1.same (g:=fun j=>inL (l.take (k+1)) j) fun j=>by rw [qbr l k hkl,qgs])
     have HAP:=hide (qaad hkl HMay.out hap.out hno);have hbc:Below w.heap.size w wc:=(hbel.alloc hbel.size _).grown hg (Nat.le_trans hbel.size (by simp)) (fun j hj=>by cases hj;exact hws);clear hm1 hg hno;go_wp2;go_roundw
     case rel=>exact ⟨k+1,by omega,rfl,HM1,HAP,hbc⟩
     case measure=>simp only [intOf];omega
    ·have HC:=hide (ql8 (k:=k+1) hkl HZ.out (qads hkl HMay.out hj1 hj2))
     have hbc:Below w.heap.size w wc:=(hbel.alloc hbel.size _).grown hg (Nat.le_trans hbel.size (by simp)) (fun j hj=>by cases hj;exact hws);clear hg hj1 hj2;go_wp2;go_ret;exact ⟨by rw [HC.out];rfl,hbc⟩
   ·have hd:decide ((k:Int)<n)=false:=by simpa using (by omega:¬(k:Int)<n)
    have HC:=hide (qkf HZ.out (by have:=hap.out;rwa [List.take_of_length_le (by have:=HN.out;omega)] at this));go_wp2;go_ret;exact ⟨by rw [HC.out];rfl,hbel⟩
 ·have HC:=hide (qjp hz)
  generalize hE:allX l=E at *
  have hz':(E==0)=false:=by simpa using hz
  go_wp2;go_ret;exact ⟨by rw [HC.out];rfl,hba⟩
theorem qeh {P:Program} {o:Oper} {a:Act} {s x:Operand} {t:TypeId} {v y v':Value} {w w':World} (ho:o.op=.call {callee:=.builtin .append,args:=#[s,x],argTypes:=#[t,t]}) (hs:a.eval s=v) (hx:a.eval x=y) (hrun:(Builtin.append_ #[t,t] o.type #[v,y]).run P w=.ok v' w'):
  (execOp a.eval o).run P w=.ok (.value v') w':=by
 simp [execOp,ho,resolve,invoke,builtin,hs,hx,hrun,Result.andThen]
theorem qaae (a b:Option Addr) (n c m d:Nat) (l k:List Ex) (w:World) (h1:RdE w (.slice a n c) l) (h2:RdE w (.slice b m d) k) (hn:n=l.length) (hm:m=k.length):
  Calls Tryz.prog 178 #[.slice a n c,.slice b m d] w fun e w'=>e=.returned (.bool (decide (l=k)))∧Below w.heap.size w w':=by
 have hnm:n≤maxLen:=hn ▸ h1.len_le;unfold maxLen at hnm;have H1:=hide h1;have H2:=hide h2;have HN:=hide hn;have HM:=hide hm;clear h1 h2 hn hm
 by_cases g1:n=m
 ·subst g1
  go_enter Tryz.func178,Tryz.ntmps178
  go_wp2
  go_loopw [5] (fun i wr=>∃j:Nat,j≤n∧i=.int .i64 j∧Hid (l.take j=k.take j)∧Below w.heap.size w wr) (fun i _=>n - (intOf i).toNat)
  case atStart=>exact ⟨0,Nat.zero_le _,rfl,hide (by simp),Below.refl _ _⟩
  case round=>
   obtain ⟨j,hj,rfl,he,hbel⟩:=hrel
   by_cases hlt:j<n
   ·have hlt':(j:Int)<n:=by omega
    have hjl:j<l.length:=by have:=HN.out;omega
    have hjk:j<k.length:=by have:=HM.out;omega
    obtain ⟨b1,off1,rfl,q0,q1⟩:=(H1.out.carry hbel).at j hjl;obtain ⟨b2,off2,rfl,p0,p1⟩:=(H2.out.carry hbel).at j hjk
    have hw1:wrap64 ((j:Int)+1)=(j:Int)+1:=by unfold wrap64;omega
    by_cases hx:l[j]=k[j]
    ·have HE:=hide (show l.take (j+1)=k.take (j+1) by rw [qbr l j hjl,qbr k j hjk,he.out,hx])
     rw [hx] at q0 q1;clear hx;go_wp2
     go_quiet (fail)
     go_wp2;go_roundw
     case rel=>exact ⟨j+1,by omega,rfl,HE,below_drewN hbel _⟩
     case measure=>simp only [intOf];omega
    ·have HE:=hide (show decide (l=k)=false by
      rw [decide_eq_false_iff_not];rintro rfl
      exact hx rfl)
     have hne:¬((l[j]).1=(k[j]).1∧(l[j]).2=(k[j]).2):=fun h=>hx (Prod.ext h.1 h.2)
     clear hx;generalize (l[j]).1=z1 at *;generalize (l[j]).2=z2 at *;generalize (k[j]).1=z3 at *;generalize (k[j]).2=z4 at *
     by_cases hz:z1=z3
     ·subst hz
      have hne1:¬z2=z4:=fun h=>hne ⟨rfl,h⟩
      have hne':(z2==z4)=false:=by simpa using hne1
      clear hne;go_wp2
      go_quiet (fail)
      go_wp2;go_ret;exact ⟨by rw [HE.out];rfl,below_drewN hbel _⟩
     ·have hne':(z1==z3)=false:=by simpa using hz
      clear hne;go_wp2
      go_quiet (fail)
      go_wp2;go_ret;exact ⟨by rw [HE.out];rfl,below_drewN hbel _⟩
   ·have hd:decide ((j:Int)<n)=false:=by simpa using (by omega:¬(j:Int)<n)
    have HE:=hide (show decide (l=k)=true by
     rw [decide_eq_true_iff]
     have:=he.out
     rwa [List.take_of_length_le (by have:=HN.out;omega),List.take_of_length_le (by have:=HM.out;omega)] at this)
    go_wp2;go_ret;exact ⟨by rw [HE.out];rfl,hbel⟩
 ·have HE:=hide (show decide (l=k)=false by
   rw [decide_eq_false_iff_not];rintro rfl
   have:=HN.out
   have:=HM.out
   omega)
  have g1':((n:Int)==(m:Int))=false:=by simpa using (by omega:¬(n:Int)=m)
  go_enter Tryz.func178,Tryz.ntmps178
  go_wp2;go_ret;exact ⟨by rw [HE.out];rfl,Below.refl _ _⟩
end Go.Proofs.YthilibleedbchaaGreat
namespace Go.Proofs.YthilibleedbchaaGreat
open Go.RowKit
theorem qo7 (n:Nat) (w:World) (hn:n<18446744073709551616):
  Calls Tryz.prog 214 #[.int .u64 n] w fun e w'=>∃v,e=.returned v∧w'.ownsRow w.heap.size 5 1 v (sm n).length (u8v (sm n))∧Below w.heap.size w w':=by
 have hl10:=qbc hn
 go_enter Tryz.func214,Tryz.ntmps214
 go_wp2
 go_loopw [0,3] (fun x v wr=>∃(m:Nat) (pre:List UInt8),m≤n∧x=.int .u64 m∧sm n=pre++sm m∧wr.ownsRow w.heap.size 5 1 v pre.length (u8v pre)∧Below w.heap.size w wr)
  (fun x _ _=>(intOf x).toNat)
 case atStart=>exact ⟨n,[],Nat.le_refl _,rfl,rfl,World.ownsRow_nil _ _ _ _,Below.refl _ _⟩
 case round=>
  obtain ⟨m,pre,hm,rfl,hpre,hown,hbel⟩:=hrel;have HP:Hid (sm n=pre++sm m):=hpre
  have hlp:pre.length≤10:=by have:=congrArg List.length hpre;simp at this;omega
  clear hpre
  by_cases hlt:128≤m
  ·go_wp2_with (at_builtin;go_must (refine qeo w wr rfl (.tmp 8) (.tmp 12) 22 rfl w.heap.size 5 Tryz.underlying22 Tryz.infoB _ pre hown rfl hbel (Nat.le_refl _) _ _ (or128 m) rfl (by omega) ?_);intro v' w1 hown1 hbel1)
   go_roundw
   case rel=>exact ⟨m / 128,pre++[UInt8.ofNat (m % 128+128)],by omega,by go_num,by rw [HP.out,qou hlt];simp,hown1,hbel1⟩
   case measure=>simp [intOf]<;>omega
  ·go_wp2_with (at_builtin;go_must (refine qeo w wr rfl (.tmp 14) (.tmp 17) 22 rfl w.heap.size 5 Tryz.underlying22 Tryz.infoB _ pre hown rfl hbel (Nat.le_refl _) _ (UInt8.ofNat m) (by first | exact qacf m | exact u8_id m (by omega)) rfl (by omega) ?_);intro v' w1 hown1 hbel1)
   go_ret
   have e:sm n=pre++[UInt8.ofNat m]:=by rw [HP.out,qot (by omega)]
   rw [e];exact ⟨_,rfl,hown1,hbel1⟩
theorem qmd (n:Nat) (w:World) (hn:n<18446744073709551616):
  Calls Tryz.prog 117 #[.int .u64 n] w fun e w'=>∃v,e=.returned v∧w'.ownsRow w.heap.size 5 1 v (sm n).length (u8v (sm n))∧Below w.heap.size w w':=by
 have hl10:=qbc hn
 go_enter Tryz.func117,Tryz.ntmps117
 go_wp2
 go_loopw [0,3] (fun x v wr=>∃(m:Nat) (pre:List UInt8),m≤n∧x=.int .u64 m∧sm n=pre++sm m∧wr.ownsRow w.heap.size 5 1 v pre.length (u8v pre)∧Below w.heap.size w wr)
  (fun x _ _=>(intOf x).toNat)
 case atStart=>exact ⟨n,[],Nat.le_refl _,rfl,rfl,World.ownsRow_nil _ _ _ _,Below.refl _ _⟩
 case round=>
  obtain ⟨m,pre,hm,rfl,hpre,hown,hbel⟩:=hrel;have HP:Hid (sm n=pre++sm m):=hpre
  have hlp:pre.length≤10:=by have:=congrArg List.length hpre;simp at this;omega
  clear hpre
  by_cases hlt:128≤m
  ·go_wp2_with (at_builtin;go_must (refine qeo w wr rfl (.tmp 6) (.tmp 11) 22 rfl w.heap.size 5 Tryz.underlying22 Tryz.infoB _ pre hown rfl hbel (Nat.le_refl _) _ (UInt8.ofNat (m % 128+128)) (by rw [UInt8.toNat_ofNat'];omega) rfl (by omega) ?_);intro v' w1 hown1 hbel1)
   go_roundw
   case rel=>exact ⟨m / 128,pre++[UInt8.ofNat (m % 128+128)],by omega,by go_num,by rw [HP.out,qou hlt];simp,hown1,hbel1⟩
   case measure=>simp [intOf]<;>omega
  ·go_wp2_with (at_builtin;go_must (refine qeo w wr rfl (.tmp 15) (.tmp 18) 22 rfl w.heap.size 5 Tryz.underlying22 Tryz.infoB _ pre hown rfl hbel (Nat.le_refl _) _ (UInt8.ofNat m) (by first | exact qacf m | exact u8_id m (by omega)) rfl (by omega) ?_);intro v' w1 hown1 hbel1)
   go_ret
   have e:sm n=pre++[UInt8.ofNat m]:=by rw [HP.out,qot (by omega)]
   rw [e];exact ⟨_,rfl,hown1,hbel1⟩
end Go.Proofs.YthilibleedbchaaGreat
namespace Go.Proofs.YthilibleedbchaaGreat
def hv:List UInt8→Nat
 | []=>0
 | c::r=>c.toNat % 128+128*hv r
theorem qwm:∀(p:List UInt8) (c:UInt8),hv (p++[c])=hv p+c.toNat % 128*128 ^ p.length
 | [],c=>by simp [hv]
 | x::p,c=>by
  simp only [List.cons_append,hv,qwm p c,List.length_cons,Nat.pow_succ,Nat.mul_add]
  rw [show c.toNat % 128*(128 ^ p.length*128)=128*(c.toNat % 128*128 ^ p.length) by rw [←Nat.mul_assoc,Nat.mul_comm]];omega
theorem hv_lt:∀p:List UInt8,hv p<128 ^ p.length
 | []=>by simp [hv]
 | x::p=>by
  have:=hv_lt p
  simp only [hv,List.length_cons,Nat.pow_succ];omega
theorem qs4:∀(p r:List UInt8) (i acc:Nat),(∀x∈p,128≤x.toNat)→i+p.length≤9→rdGo (p++r) i acc=rdGo r (i+p.length) (acc+hv p*128 ^ i)
 | [],r,i,acc,_,_=>by simp [hv]
 | x::p,r,i,acc,h,hl=>by
  simp only [List.length_cons] at hl
  rw [List.cons_append,qj8 (by omega) (h x (by simp)),qs4 p r (i+1) _ (fun y hy=>h y (by simp [hy])) (by omega)]
  congr 1
  ·simp only [List.length_cons];omega
  ·simp only [hv,Nat.pow_succ,Nat.add_mul]
   rw [show 128*hv p*128 ^ i=hv p*(128 ^ i*128) by rw [Nat.mul_comm 128 (hv p),Nat.mul_assoc,Nat.mul_comm 128]];omega
theorem qgv (l:List UInt8) (k:Nat) (h9:k≤9) (hk:k≤l.length) (hp:∀j,(h:j<l.length)→j<k→128≤(l[j]).toNat):rd l=rdGo (l.drop k) k (hv (l.take k)):=by
 have e:l=l.take k++l.drop k:=(List.take_append_drop k l).symm
 have hlen:(l.take k).length=k:=by simp;omega
 unfold rd
 rw [e,qs4 _ _ _ _ (by
  intro x hx;obtain ⟨j,hj,rfl⟩:=List.mem_iff_getElem.1 hx;rw [hlen] at hj
  simp only [List.getElem_take]
  exact hp j (by omega) hj) (by omega)]
 rw [hlen]
 simp
theorem rd_end (l:List UInt8) (h10:l.length≤10) (hp:∀j,(h:j<l.length)→128≤(l[j]).toNat):rd l=none:=by
 by_cases h9:l.length≤9
 ·rw [qgv l l.length h9 (Nat.le_refl _) (fun j h _=>hp j h)];simp [rdGo]
 ·rw [qgv l 9 (by omega) (by omega) (fun j h _=>hp j h),List.drop_eq_getElem_cons (by omega),qjo (by have:=hp 9 (by omega);omega)]
theorem rd_ten (l:List UInt8) (h10:10≤l.length) (hp:∀j,(h:j<l.length)→j<10→128≤(l[j]).toNat):rd l=none:=by
 rw [qgv l 9 (by omega) (by omega) (fun j h _=>hp j h (by omega)),List.drop_eq_getElem_cons (by omega),qjo (by have:=hp 9 (by omega) (by omega);omega)]
theorem rd_big (l:List UInt8) (h10:9<l.length) (hp:∀j,(h:j<l.length)→j<9→128≤(l[j]).toNat) (hb:1<(l[9]).toNat):rd l=none:=by
 rw [qgv l 9 (by omega) (by omega) (fun j h _=>hp j h (by omega)),List.drop_eq_getElem_cons (by omega),qjo hb]
theorem qwn (l:List UInt8) (k:Nat) (hk:k<l.length) (h9:k≤9) (h0:0<k) (hp:∀j,(h:j<l.length)→j<k→128≤(l[j]).toNat) (hb:(l[k]).toNat=0):rd l=none:=by
 rw [qgv l k h9 (by omega) hp,List.drop_eq_getElem_cons hk,qj9 hb h0]
def hvd (l:List UInt8) (k j:Nat):Nat:=hv ((l.take (k+1)).drop j)
theorem qrn (l:List UInt8) (k:Nat):hvd l k (k+1)=0:=by
 unfold hvd;rw [List.drop_eq_nil_of_le (by simp;omega)];rfl
theorem qjr (l:List UInt8) (k j:Nat) (hj:j≤k) (hk:k<l.length):hvd l k j=(l[j]).toNat % 128+128*hvd l k (j+1):=by
 unfold hvd;rw [List.drop_eq_getElem_cons (by simp;omega)];simp [hv]
theorem qs5 (l:List UInt8) (k:Nat) (hk:k<l.length):∀j,j≤k+1→hvd l k j≤hvd l k 0
 | 0,_=>Nat.le_refl _
 | j+1,h=>by
  have:=qs5 l k hk j (by omega)
  have:=qjr l k j (by omega) hk
  omega
theorem qs6 (l:List UInt8) (k:Nat) (hk:k<l.length):hvd l k 0=hv (l.take k)+(l[k]).toNat % 128*128 ^ k:=by
 unfold hvd;rw [List.drop_zero,List.take_succ_eq_append_getElem hk,qwm]
 simp [Nat.min_eq_left (show k≤l.length by omega)]
theorem qki (l:List UInt8) (k:Nat) (hk:k<l.length) (h9:k≤9) (hb:k=9→(l[k]).toNat≤1):hvd l k 0<18446744073709551616:=by
 rw [qs6 l k hk];have h1:=hv_lt (l.take k)
 have e:(l.take k).length=k:=by simp;omega
 rw [e] at h1
 by_cases h:k=9
 ·have:=hb h
  subst h;have h2:(l[9]).toNat % 128*128 ^ 9≤1*128 ^ 9:=Nat.mul_le_mul_right _ (by omega);omega
 ·have h3:128 ^ k≤128 ^ 8:=Nat.pow_le_pow_right (by decide) (by omega)
  have h2:(l[k]).toNat % 128*128 ^ k≤127*128 ^ 8:=Nat.mul_le_mul (by omega) h3;omega
theorem rd_some (l:List UInt8) (k:Nat) (hk:k<l.length) (h9:k≤9) (hp:∀j,(h:j<l.length)→j<k→128≤(l[j]).toNat) (hlt:(l[k]).toNat<128)
  (hb:k=9→(l[k]).toNat≤1) (hz:¬(0<k∧(l[k]).toNat=0)):rd l=some (hvd l k 0,k+1):=by
 rw [qgv l k h9 (by omega) hp,List.drop_eq_getElem_cons hk,qf6 (by intro h;have:=hb h.1;omega) hlt (by omega),qs6 l k hk,Nat.mod_eq_of_lt hlt]
theorem qo8:∀(l:List UInt8) (i acc n k:Nat),i≤9→acc<128 ^ i→rdGo l i acc=some (n,k)→i<k∧k≤i+l.length∧k≤10∧n<18446744073709551616
 | [],i,acc,n,k,_,_,h=>by simp [rdGo] at h
 | c::r,i,acc,n,k,hi,ha,h=>by
  rw [rdGo] at h
  split at h
  ·simp at h
  ·rename_i h9
   split at h
   ·rename_i hge
    have hi9:i≠9:=by intro e;exact h9 ⟨e,by omega⟩
    have:=qo8 r (i+1) _ n k (by omega) (qsx ha) h
    simp only [List.length_cons];omega
   ·rename_i hlt
    split at h
    ·simp at h
    ·simp only [Option.some.injEq,Prod.mk.injEq] at h
     obtain ⟨rfl,rfl⟩:=h;refine ⟨by omega,by simp only [List.length_cons];omega,by omega, ?_⟩
     by_cases e:i=9
     ·subst e
      have h2:c.toNat*128 ^ 9≤1*128 ^ 9:=Nat.mul_le_mul_right _ (by omega);omega
     ·have h3:128 ^ i≤128 ^ 8:=Nat.pow_le_pow_right (by decide) (by omega)
      have h2:c.toNat*128 ^ i≤127*128 ^ 8:=Nat.mul_le_mul (by omega) h3;omega
theorem qkj {l:List UInt8} {n k:Nat} (h:rd l=some (n,k)):0<k∧k≤l.length∧k≤10∧n<18446744073709551616:=by
 have:=qo8 l 0 0 n k (by omega) (by decide) h
 omega
theorem qadt:∀(m:Nat) (r:List UInt8) (i acc:Nat),i≤9→m*128 ^ i<18446744073709551616→(0<i→0<m)→rdGo (sm m++r) i acc=some (acc+m*128 ^ i,i+(sm m).length):=by
 intro m
 induction m using Nat.strongRecOn with
 | ind m ih=>
  intro r i acc hi hm h0
  by_cases hlt:m<128
  ·have e:(UInt8.ofNat m).toNat=m:=by rw [UInt8.toNat_ofNat'];omega
   rw [qot hlt]
   simp only [List.cons_append,List.nil_append,List.length_cons,List.length_nil]
   rw [qf6 (by
    rw [e];rintro ⟨rfl,h1⟩
    have:2*128 ^ 9≤m*128 ^ 9:=Nat.mul_le_mul_right _ (by omega)
    omega) (by omega) (by rw [e];intro h;have:=h0 h.2;omega),e]
  ·have e:(UInt8.ofNat (m % 128+128)).toNat=m % 128+128:=by rw [UInt8.toNat_ofNat'];omega
   have hi9:i≠9:=by
    rintro rfl
    have:128*128 ^ 9≤m*128 ^ 9:=Nat.mul_le_mul_right _ (by omega)
    omega
   have hp:m / 128*128 ^ (i+1)+m % 128*128 ^ i=m*128 ^ i:=by
    rw [Nat.pow_succ,Nat.mul_comm (128 ^ i) 128,←Nat.mul_assoc,←Nat.add_mul]
    congr 1;omega
   rw [qou (by omega),List.cons_append,qj8 hi9 (by omega),e,ih (m / 128) (by omega) r (i+1) _ (by omega) (by omega) (by omega)];rw [show (m % 128+128) % 128=m % 128 by omega]
   simp only [List.length_cons,Option.some.injEq,Prod.mk.injEq]
   omega
theorem qadu (n:Nat) (hn:n<18446744073709551616) (r:List UInt8):rd (sm n++r)=some (n,(sm n).length):=by
 unfold rd;rw [qadt n r 0 0 (by omega) (by omega) (by omega)];simp
def ct (l:List UInt8):Option (List UInt8 × List UInt8):=
 match rd l with
 | none=>none
 | some (n,k)=>if n≤l.length - k then some ((l.drop k).take n,l.drop (k+n)) else none
theorem qro {l:List UInt8} (h:rd l=none):ct l=none:=by simp [ct,h]
theorem qrp {l:List UInt8} {n k:Nat} (h:rd l=some (n,k)) (hn:¬n≤l.length - k):ct l=none:=by simp [ct,h,hn]
theorem qkk {l:List UInt8} {n k:Nat} (h:rd l=some (n,k)) (hn:n≤l.length - k):ct l=some ((l.drop k).take n,l.drop (k+n)):=by simp [ct,h,hn]
def tx (s:List UInt8):List UInt8:=sm s.length++s
theorem ct_tx (s r:List UInt8) (hs:s.length<18446744073709551616):ct (tx s++r)=some (s,r):=by
 have h:=qadu s.length hs (s++r);unfold tx;rw [List.append_assoc];rw [qkk h (by simp)]
 simp [List.drop_append]
end Go.Proofs.YthilibleedbchaaGreat
