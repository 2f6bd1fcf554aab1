/-
  What code.Read and the document's Read do: each answers the number whose small bytes a slice begins with, and changes nothing.
-/
import Derived.Test.YtmeaiocohalphaaGreatDoorRmFree
import Derived.Test.YtmeaiocohalphaaGreatDoorL2d
import Derived.Test.YtmeaiocohalphaaGreatDoorRows
import Derived.Test.YtmeaiocohalphaaGreatDoorMathFi
import Derived.Test.YtmeaiocohalphaaGreatDoorDMay
import Derived.WalkKit
import Derived.WalkSpells
import Derived.WalkLawsBesides
import Derived.Deep.QuietTactic
import Derived.BigQuiet
set_option maxHeartbeats 1000000
set_option maxRecDepth 100000
namespace Go.Proofs.YtmeaiocohalphaaGreatDoor
open Go.RowKit
set_option linter.all false
theorem qe5 {A B:Int} {l:List Ex} (h:A<0∨B<A∨4096<B):qcd A B l=2∧qb2 A B l=[]:=by
 have:qcd A B l=2:=by unfold qcd;rw [if_pos h]
 exact ⟨this,by unfold qb2;rw [if_neg (by rw [this];decide)]⟩
theorem qsa {A B:Int} {l:List Ex} (h:¬(A<0∨B<A∨4096<B)):qcd A B l=allX l:=by unfold qcd;rw [if_neg h]
theorem qie {A B:Int} {l:List Ex} (h:qcd A B l≠0):qb2 A B l=[]:=by unfold qb2;rw [if_neg h]
theorem qlv {u v:Int→Bool} {a:Int}:∀k:Nat,(∀n,a≤n→n<a+k→u n=v n)→qcc u a k=qcc v a k
 | 0,_=>rfl
 | k+1,h=>by
  unfold qcc;rw [qlv k (fun n h1 h2=>h n h1 (by omega)),h (a+k) (by omega) (by omega)]
theorem qafz (A B:Int) (a:Option Addr) (n c:Nat) (l:List Ex) (w:World) (hrd:RdE w (.slice a n c) l) (hn:n=l.length) (hwf:∀x∈l,wfX x):
  Calls Tryz.prog 232 #[.int .i64 A,.int .i64 B,.slice a n c] w fun e w'=>∃v,e=.returned (.tuple #[v,.int .i64 (qcd A B l)])∧OwE w' w.heap.size v (qb2 A B l)∧Below w.heap.size w w':=by
 have HR:=hide hrd;have HN:=hide hn;have HW:=hide hwf;have HA:=hide (qjz a n c l w hrd hn hwf);clear hrd hn hwf
 by_cases h1:A<0
 ·have HB:=hide (qe5 (B:=B) (l:=l) (.inl h1:A<0∨B<A∨4096<B))
  go_enter Tryz.func232,Tryz.ntmps232
  go_wp2;go_ret2;exact ⟨_,by rw [HB.out.1];rfl,by rw [HB.out.2];exact OwE.nil _ _,Below.refl _ _⟩
 have h1':decide (A<0)=false:=by simpa using h1
 by_cases h2:B<A
 ·have HB:=hide (qe5 (B:=B) (l:=l) (.inr (.inl h2):A<0∨B<A∨4096<B))
  go_enter Tryz.func232,Tryz.ntmps232
  go_wp2;go_ret2;exact ⟨_,by rw [HB.out.1];rfl,by rw [HB.out.2];exact OwE.nil _ _,Below.refl _ _⟩
 have h2':decide (B<A)=false:=by simpa using h2
 by_cases h3:4096<B
 ·have HB:=hide (qe5 (A:=A) (l:=l) (.inr (.inr h3):A<0∨B<A∨4096<B))
  go_enter Tryz.func232,Tryz.ntmps232
  go_wp2;go_ret2;exact ⟨_,by rw [HB.out.1];rfl,by rw [HB.out.2];exact OwE.nil _ _,Below.refl _ _⟩
 have h3':decide (4096<B)=false:=by simpa using h3
 obtain ⟨p,rfl⟩:∃p:Nat,A=p:=⟨A.toNat,by omega⟩;obtain ⟨m,hm⟩:∃m:Nat,B=p+m:=⟨(B - p).toNat,by omega⟩;have HE:=hide (qsa (A:=(p:Int)) (B:=B) (l:=l) (by omega));have HB:=hide hm
 have hpm:p+m≤4096:=by omega
 clear hm
 go_enter Tryz.func232,Tryz.ntmps232
 go_wp2_with fail
 refine HA.out.mono ?_
 rintro e wa ⟨rfl,hba⟩
 by_cases hz:allX l=0
 ·have HZ:=hide hz
  rw [hz];have hzero:=Tryz.zeroMk;have hne:=qaiv (fun _=>false)
  have hn4:n≤4096:=by have:=(qcp HZ.out).1;have:=HN.out;omega
  have HMay:=hide (fun x hx=>(qbp x).2 ((qcp HZ.out).2 x hx):∀x∈l,mayX x=true);have hws:=hba.size;clear hz;go_wp2
  go_loopw [30] (fun i wr=>∃k:Nat,k≤n∧i=.int .i64 k∧Hid (Mk wr wa.heap.size (fun j=>inL (l.take k) j))∧Below w.heap.size w wr) (fun i _=>n - (intOf i).toNat)
  case atStart=>exact ⟨0,Nat.zero_le _,rfl,hide ((Mk.new wa _).same fun j=>by simp [inL]),hba.alloc hws _⟩
  case round=>
   obtain ⟨k,hk,rfl,hmk,hbel⟩:=hrel;have hml:=hmk.out.lt
   by_cases hlt:k<n
   ·have hlt':(k:Int)<n:=by omega
    have hkl:k<l.length:=by have:=HN.out;omega
    obtain ⟨b,off,rfl,q0,q1⟩:=(HR.out.carry hbel).at k hkl
    go_wp2_with fail
    refine (qafo wa.heap.size _ (l[k]) (HMay.out _ (List.getElem_mem hkl)) _ (hmk.out.carry ((Below.refl _ _).alloc (Nat.le_refl _) _))).mono ?_
    rintro e wc ⟨rfl,hm1,hg⟩;have HM1:=hide (hm1.same (g:=fun j=>inL (l.take (k+1)) j) fun j=>by rw [qbc l k hkl,qfd]);have hbc:Below w.heap.size w wc:=(hbel.alloc hbel.size _).grown hg (Nat.le_trans hbel.size (by simp)) (fun j hj=>by cases hj;exact hws);clear hm1 hg;go_wp2;go_roundw
    case rel=>exact ⟨k+1,by omega,rfl,HM1,hbc⟩
    case measure=>simp only [intOf];omega
   ·have hd:decide ((k:Int)<n)=false:=by simpa using (by omega:¬(k:Int)<n)
    have hf:∀j,inL (l.take k) j=inL l j:=fun j=>by rw [List.take_of_length_le (by have:=HN.out;omega)]
    have HM1:=hide (hmk.out.same (g:=fun j=>inL l j) fun j=>hf j);clear hf
    go_wp2_with fail
    refine (qr3 wa.heap.size _ p m B wr HM1.out hpm HB.out).mono ?_
    rintro e wc ⟨v,rfl,hown,hbc⟩
    have HO:=hide (show OwE wc w.heap.size v (qb2 p B l) by
     have e:qb2 p B l=qcc (fun n:Int=>inL l ((n.toNat:Nat):Int)) p m:=by
      unfold qb2;rw [if_pos (by rw [HE.out,HZ.out]),show (B - (p:Int)).toNat=m by have:=HB.out;omega]
      exact qlv m fun n h1 _=>by rw [show ((n.toNat:Nat):Int)=n by omega]
     rw [e]
     exact hown.mono hbel.size)
    have hbc':=hbel.trans (hbc.mono hbel.size);clear hown hbc;go_wp2;go_ret2;exact ⟨_,by rw [HE.out,HZ.out];rfl,HO.out,hbc'⟩
 ·have HL:=hide (qie (A:=(p:Int)) (B:=B) (l:=l) (by rw [HE.out];exact hz))
  generalize hE:allX l=E at *
  have hz':(E==0)=false:=by simpa using hz
  go_wp2;go_ret2;exact ⟨_,by rw [HE.out];rfl,by rw [HL.out];exact OwE.nil _ _,hba⟩
theorem qaf0 (A B W:Int) (a:Option Addr) (n c:Nat) (l:List Ex) (w:World) (hrd:RdE w (.slice a n c) l) (hn:n=l.length) (hwf:∀x∈l,wfX x):
  Calls Tryz.prog 176 #[.int .i64 A,.int .i64 B,.slice a n c,.int .i64 W] w fun e w'=>∃v,e=.returned (.tuple #[v,.int .i64 (qco A B l W)])∧OwE w' w.heap.size v (qcb A B l W)∧Below w.heap.size w w':=by
 have HF:=hide (qafz A B a n c l w hrd hn hwf);clear hrd hn hwf
 go_enter Tryz.func176,Tryz.ntmps176
 go_wp2_with fail
 refine HF.out.mono ?_
 rintro e wa ⟨v,rfl,hown,hba⟩;have HO:=hide hown;obtain ⟨av,cv,rfl⟩:=hown.form;clear hown HF
 by_cases hz:qcd A B l=0
 ·by_cases hw1:W<1
  ·have HT:=hide (qeb hz (.inl hw1:W<1∨4096<W))
   rw [hz];clear hz;go_wp2;go_ret2;exact ⟨_,by rw [HT.out.1];rfl,by rw [HT.out.2];exact OwE.nil _ _,hba⟩
  ·have hw1':decide (W<1)=false:=by simpa using hw1
   by_cases hw2:4096<W
   ·have HT:=hide (qeb hz (.inr hw2:W<1∨4096<W))
    rw [hz];clear hz;go_wp2;go_ret2;exact ⟨_,by rw [HT.out.1];rfl,by rw [HT.out.2];exact OwE.nil _ _,hba⟩
   ·have hw2':decide (4096<W)=false:=by simpa using hw2
    obtain ⟨r1,r2,r3⟩:=qd7 hz;obtain ⟨f1,f2,f3,f4⟩:=qke hz;have HR:=hide (fun x hx=>by have:=r1.1 x hx;omega:∀x∈qb2 A B l,0≤x.1∧1≤x.2∧x.1+x.2≤4096);have HZ:=hide hz;rw [hz];clear hz r1 r2 f1 f2 f3 f4
    go_wp2_with fail
    refine (qakd w.heap.size av _ cv _ W wa HO.out hba.size rfl r3 HR.out (by omega) (by omega)).mono ?_
    rintro e wb ⟨v,rfl,hown,hbb⟩
    have HT:=hide (show qco A B l W=cutE (qb2 A B l) W∧qcb A B l W=(cutX (qb2 A B l) W).getD [] by
     unfold qco qcb
     have h1:¬qcd A B l≠0:=by rw [HZ.out];decide
     have h2:¬(W<1∨4096<W):=by omega
     rw [if_neg h1,if_neg h1,if_neg h2,if_neg h2];exact ⟨rfl,rfl⟩)
    have HO2:=hide hown;have hbb':=hba.trans hbb;clear hown hbb;go_wp2;go_ret2;exact ⟨_,by rw [HT.out.1];rfl,by rw [HT.out.2];exact HO2.out,hbb'⟩
 ·have HT:=hide (qi7 (w:=W) hz)
  generalize hE:qcd A B l=E at *
  have hz':(E==0)=false:=by simpa using hz
  go_wp2;go_ret2;exact ⟨_,by rw [HT.out.1];rfl,by rw [HT.out.2];exact OwE.nil _ _,hba⟩
theorem qd2 {P:Program} {o:Oper} {a:Act} {s x:Operand} {t:TypeId} {v y v':Value} {w w':World} (ho:o.op=.call {callee:=.builtin .append,args:=#[s,x],argTypes:=#[t,t]}) (hs:a.eval s=v) (hx:a.eval x=y) (hrun:(Builtin.append_ #[t,t] o.type #[v,y]).run P w=.ok v' w'):
  (execOp a.eval o).run P w=.ok (.value v') w':=by
 simp [execOp,ho,resolve,invoke,builtin,hs,hx,hrun,Result.andThen]
theorem qaf1 (a b:Option Addr) (n c m d:Nat) (l k:List Ex) (w:World) (h1:RdE w (.slice a n c) l) (h2:RdE w (.slice b m d) k) (hn:n=l.length) (hm:m=k.length):
  Calls Tryz.prog 140 #[.slice a n c,.slice b m d] w fun e w'=>e=.returned (.bool (decide (l=k)))∧Below w.heap.size w w':=by
 have hnm:n≤maxLen:=hn ▸ h1.len_le;unfold maxLen at hnm;have H1:=hide h1;have H2:=hide h2;have HN:=hide hn;have HM:=hide hm;clear h1 h2 hn hm
 by_cases g1:n=m
 ·subst g1
  go_enter Tryz.func140,Tryz.ntmps140
  go_wp2
  go_loopw [5] (fun i wr=>∃j:Nat,j≤n∧i=.int .i64 j∧Hid (l.take j=k.take j)∧Below w.heap.size w wr) (fun i _=>n - (intOf i).toNat)
  case atStart=>exact ⟨0,Nat.zero_le _,rfl,hide (by simp),Below.refl _ _⟩
  case round=>
   obtain ⟨j,hj,rfl,he,hbel⟩:=hrel
   by_cases hlt:j<n
   ·have hlt':(j:Int)<n:=by omega
    have hjl:j<l.length:=by have:=HN.out;omega
    have hjk:j<k.length:=by have:=HM.out;omega
    obtain ⟨b1,off1,rfl,q0,q1⟩:=(H1.out.carry hbel).at j hjl;obtain ⟨b2,off2,rfl,p0,p1⟩:=(H2.out.carry hbel).at j hjk
    have hw1:wrap64 ((j:Int)+1)=(j:Int)+1:=by unfold wrap64;omega
    by_cases hx:l[j]=k[j]
    ·have HE:=hide (show l.take (j+1)=k.take (j+1) by rw [qbc l j hjl,qbc k j hjk,he.out,hx])
     rw [hx] at q0 q1;clear hx;go_wp2
     go_quiet (fail)
     go_wp2;go_roundw
     case rel=>exact ⟨j+1,by omega,rfl,HE,below_drewN hbel _⟩
     case measure=>simp only [intOf];omega
    ·have HE:=hide (show decide (l=k)=false by
      rw [decide_eq_false_iff_not];rintro rfl
      exact hx rfl)
     have hne:¬((l[j]).1=(k[j]).1∧(l[j]).2=(k[j]).2):=fun h=>hx (Prod.ext h.1 h.2)
     clear hx;generalize (l[j]).1=z1 at *;generalize (l[j]).2=z2 at *;generalize (k[j]).1=z3 at *;generalize (k[j]).2=z4 at *
     by_cases hz:z1=z3
     ·subst hz
      have hne1:¬z2=z4:=fun h=>hne ⟨rfl,h⟩
      have hne':(z2==z4)=false:=by simpa using hne1
      clear hne;go_wp2
      go_quiet (fail)
      go_wp2;go_ret;exact ⟨by rw [HE.out];rfl,below_drewN hbel _⟩
     ·have hne':(z1==z3)=false:=by simpa using hz
      clear hne;go_wp2
      go_quiet (fail)
      go_wp2;go_ret;exact ⟨by rw [HE.out];rfl,below_drewN hbel _⟩
   ·have hd:decide ((j:Int)<n)=false:=by simpa using (by omega:¬(j:Int)<n)
    have HE:=hide (show decide (l=k)=true by
     rw [decide_eq_true_iff]
     have:=he.out
     rwa [List.take_of_length_le (by have:=HN.out;omega),List.take_of_length_le (by have:=HM.out;omega)] at this)
    go_wp2;go_ret;exact ⟨by rw [HE.out];rfl,hbel⟩
 ·have HE:=hide (show decide (l=k)=false by
   rw [decide_eq_false_iff_not];rintro rfl
   have:=HN.out
   have:=HM.out
   omega)
  have g1':((n:Int)==(m:Int))=false:=by simpa using (by omega:¬(n:Int)=m)
  go_enter Tryz.func140,Tryz.ntmps140
  go_wp2;go_ret;exact ⟨by rw [HE.out];rfl,Below.refl _ _⟩
end Go.Proofs.YtmeaiocohalphaaGreatDoor
namespace Go.Proofs.YtmeaiocohalphaaGreatDoor
open Go.RowKit
theorem qlw (n:Nat) (w:World) (hn:n<18446744073709551616):
  Calls Tryz.prog 86 #[.int .u64 n] w fun e w'=>∃v,e=.returned v∧w'.ownsRow w.heap.size 5 1 v (sm n).length (u8v (sm n))∧Below w.heap.size w w':=by
 have hl10:=qag hn
 go_enter Tryz.func86,Tryz.ntmps86
 go_wp2
 go_loopw [0,3] (fun x v wr=>∃(m:Nat) (pre:List UInt8),m≤n∧x=.int .u64 m∧sm n=pre++sm m∧wr.ownsRow w.heap.size 5 1 v pre.length (u8v pre)∧Below w.heap.size w wr)
  (fun x _ _=>(intOf x).toNat)
 case atStart=>exact ⟨n,[],Nat.le_refl _,rfl,rfl,World.ownsRow_nil _ _ _ _,Below.refl _ _⟩
 case round=>
  obtain ⟨m,pre,hm,rfl,hpre,hown,hbel⟩:=hrel;have HP:Hid (sm n=pre++sm m):=hpre
  have hlp:pre.length≤10:=by have:=congrArg List.length hpre;simp at this;omega
  clear hpre
  by_cases hlt:128≤m
  ·go_wp2_with (at_builtin;go_must (refine qd9 w wr rfl (.tmp 8) (.tmp 12) 23 rfl w.heap.size 5 Tryz.underlying23 Tryz.infoB _ pre hown rfl hbel (Nat.le_refl _) _ _ (or128 m) rfl (by omega) ?_);intro v' w1 hown1 hbel1)
   go_roundw
   case rel=>exact ⟨m / 128,pre++[UInt8.ofNat (m % 128+128)],by omega,by go_num,by rw [HP.out,qyi hlt];simp,hown1,hbel1⟩
   case measure=>simp [intOf]<;>omega
  ·go_wp2_with (at_builtin;go_must (refine qd9 w wr rfl (.tmp 14) (.tmp 17) 23 rfl w.heap.size 5 Tryz.underlying23 Tryz.infoB _ pre hown rfl hbel (Nat.le_refl _) _ (UInt8.ofNat m) (by first | exact qain m | exact u8_id m (by omega)) rfl (by omega) ?_);intro v' w1 hown1 hbel1)
   go_ret
   have e:sm n=pre++[UInt8.ofNat m]:=by rw [HP.out,qmz (by omega)]
   rw [e];exact ⟨_,rfl,hown1,hbel1⟩
theorem qjh (n:Nat) (w:World) (hn:n<18446744073709551616):
  Calls Tryz.prog 133 #[.int .u64 n] w fun e w'=>∃v,e=.returned v∧w'.ownsRow w.heap.size 5 1 v (sm n).length (u8v (sm n))∧Below w.heap.size w w':=by
 have hl10:=qag hn
 go_enter Tryz.func133,Tryz.ntmps133
 go_wp2
 go_loopw [0,3] (fun x v wr=>∃(m:Nat) (pre:List UInt8),m≤n∧x=.int .u64 m∧sm n=pre++sm m∧wr.ownsRow w.heap.size 5 1 v pre.length (u8v pre)∧Below w.heap.size w wr)
  (fun x _ _=>(intOf x).toNat)
 case atStart=>exact ⟨n,[],Nat.le_refl _,rfl,rfl,World.ownsRow_nil _ _ _ _,Below.refl _ _⟩
 case round=>
  obtain ⟨m,pre,hm,rfl,hpre,hown,hbel⟩:=hrel;have HP:Hid (sm n=pre++sm m):=hpre
  have hlp:pre.length≤10:=by have:=congrArg List.length hpre;simp at this;omega
  clear hpre
  by_cases hlt:128≤m
  ·go_wp2_with (at_builtin;go_must (refine qd9 w wr rfl (.tmp 6) (.tmp 11) 23 rfl w.heap.size 5 Tryz.underlying23 Tryz.infoB _ pre hown rfl hbel (Nat.le_refl _) _ (UInt8.ofNat (m % 128+128)) (by rw [UInt8.toNat_ofNat'];omega) rfl (by omega) ?_);intro v' w1 hown1 hbel1)
   go_roundw
   case rel=>exact ⟨m / 128,pre++[UInt8.ofNat (m % 128+128)],by omega,by go_num,by rw [HP.out,qyi hlt];simp,hown1,hbel1⟩
   case measure=>simp [intOf]<;>omega
  ·go_wp2_with (at_builtin;go_must (refine qd9 w wr rfl (.tmp 15) (.tmp 18) 23 rfl w.heap.size 5 Tryz.underlying23 Tryz.infoB _ pre hown rfl hbel (Nat.le_refl _) _ (UInt8.ofNat m) (by first | exact qain m | exact u8_id m (by omega)) rfl (by omega) ?_);intro v' w1 hown1 hbel1)
   go_ret
   have e:sm n=pre++[UInt8.ofNat m]:=by rw [HP.out,qmz (by omega)]
   rw [e];exact ⟨_,rfl,hown1,hbel1⟩
end Go.Proofs.YtmeaiocohalphaaGreatDoor
namespace Go.Proofs.YtmeaiocohalphaaGreatDoor
open Go.RowKit
theorem qpw (a:Option Addr) (c:Nat) (w:World):
  Calls Tryz.prog 183 #[.slice a 0 c] w fun e w'=>e=.returned (rdV none)∧w'=w:=by
 go_enter Tryz.func183,Tryz.ntmps183
 go_wp2
 go_loop [5,10] (fun n i=>n=.int .u64 0∧i=.int .i64 0) (fun _ _=>0)
 case atStart=>exact ⟨rfl,rfl⟩
 case round=>
  obtain ⟨rfl,rfl⟩:=hrel;go_wp2;go_ret3;exact ⟨rfl,rfl⟩
theorem qwr (b off c:Nat) (l:List UInt8) (w:World) (hcell:∀j,(h:j<l.length)→w.cell? ⟨b,off+j,none⟩=some (.int .u8 (l[j]).toNat)):
  Calls Tryz.prog 183 #[.slice (some ⟨b,off,none⟩) l.length c] w fun e w'=>e=.returned (rdV (rd l))∧w'=w:=by
 go_enter Tryz.func183,Tryz.ntmps183
 go_wp2
 go_loop [5,10] (fun n i=>∃(k acc:Nat),k≤l.length∧k≤9∧n=.int .u64 acc∧i=.int .i64 k∧acc<128 ^ k∧rd l=rdGo (l.drop k) k acc) (fun _ i=>l.length - (intOf i).toNat)
 case atStart=>exact ⟨0,0,Nat.zero_le _,Nat.zero_le _,rfl,rfl,by decide,by simp [rd]⟩
 case round=>
  obtain ⟨k,acc,hk,hk9,rfl,rfl,hacc,hrd⟩:=hrel;have HR:Hid (rd l=rdGo (l.drop k) k acc):=hrd;have HA:Hid (acc<128 ^ k):=hacc;clear hrd hacc
  by_cases hlt:k<l.length
  ·have hc:=hcell k hlt
   have HD:Hid (l.drop k=l[k]::l.drop (k+1)):=List.drop_eq_getElem_cons hlt;obtain ⟨x,hx⟩:∃x,x=l[k]:=⟨_,rfl⟩;rw [←hx] at hc HD;clear hcell hx;have hb:=x.toNat_lt;go_wp2
   ·obtain rfl:k=9:=by omega
    go_ret3;rw [HR.out,HD.out,qkc (by omega)];exact ⟨rfl,rfl⟩
   ·obtain rfl:k=9:=by omega
    go_ret3;rw [HR.out,HD.out,qk0 (by omega) (by omega)];exact ⟨rfl,rfl⟩
   ·obtain rfl:k=9:=by omega
    go_ret3;rw [HR.out,HD.out,qfx (by omega) (by omega) (by omega)];exact ⟨by rw [qajv acc x.toNat HA.out (by omega)];rfl,rfl⟩
   ·go_round
    case rel=>exact ⟨k+1,acc+x.toNat % 128*128 ^ k,by omega,by omega,by rw [qaab acc k x.toNat HA.out (by omega)],by go_num,qvy HA.out,by rw [HR.out,HD.out,qkz (by omega) (by omega)]⟩
    case measure=>simp [intOf]<;>omega
   ·go_ret3
    rw [HR.out,HD.out,qk0 (by omega) (by omega)];exact ⟨rfl,rfl⟩
   ·obtain rfl:k=0:=by omega
    go_ret3;rw [HR.out,HD.out,qfx (by omega) (by omega) (by omega)]
    obtain rfl:acc=0:=by have:=HA.out;omega
    exact ⟨by simp [rdV, *];rfl,rfl⟩
   ·go_ret3
    rw [HR.out,HD.out,qfx (by omega) (by omega) (by omega)];exact ⟨by rw [qaab acc k x.toNat HA.out (by omega),Nat.mod_eq_of_lt (by omega)];rfl,rfl⟩
  ·go_wp2
   go_ret3;have e:l.drop k=[]:=List.drop_eq_nil_of_le (by omega);rw [HR.out,e];exact ⟨rfl,rfl⟩
theorem qlx (a:Option Addr) (c:Nat) (w:World):
  Calls Tryz.prog 135 #[.slice a 0 c] w fun e w'=>e=.returned (rdV none)∧w'=w:=by
 go_enter Tryz.func135,Tryz.ntmps135
 go_wp2
 go_loop [5] (fun i=>i=.int .i64 0) (fun _=>0)
 case atStart=>rfl
 case round=>
  obtain rfl:=hrel;go_wp2;go_ret3;exact ⟨rfl,rfl⟩
theorem qsb (b off c:Nat) (l:List UInt8) (w:World) (hl:l.length≤1000000000000) (hcell:∀j,(h:j<l.length)→w.cell? ⟨b,off+j,none⟩=some (.int .u8 (l[j]).toNat)):
  Calls Tryz.prog 135 #[.slice (some ⟨b,off,none⟩) l.length c] w fun e w'=>e=.returned (rdV (rd l))∧w'=w:=by
 go_enter Tryz.func135,Tryz.ntmps135
 go_wp2
 go_loop [5] (fun i=>∃k:Nat,k≤l.length∧k≤10∧i=.int .i64 k∧∀j,(h:j<l.length)→j<k→128≤(l[j]).toNat) (fun i=>l.length - (intOf i).toNat)
 case atStart=>exact ⟨0,Nat.zero_le _,Nat.zero_le _,rfl,fun j _ h=>by omega⟩
 case round=>
  obtain ⟨k,hk,hk10,rfl,hp0⟩:=hrel;have HP:Hid (∀j,(h:j<l.length)→j<k→128≤(l[j]).toNat):=hp0;clear hp0;have HC:Hid (∀j,(h:j<l.length)→w.cell? ⟨b,off+j,none⟩=some (.int .u8 (l[j]).toNat)):=hcell;clear hcell
  by_cases hlt:k<l.length
  ·have hc:=HC.out k hlt
   obtain ⟨x,hx⟩:∃x,x=l[k]:=⟨_,rfl⟩;rw [←hx] at hc;have HX:Hid (x=l[k]):=hx;clear hx;have hb:=x.toNat_lt
   have hlt':(k:Int)<l.length:=by omega
   by_cases h10:k<10
   ·have h10':(k:Int)<10:=by omega
    by_cases hge:128≤x.toNat
    ·have hge':(128:Int)≤x.toNat:=by omega
     go_wp2
     go_round
     case rel=>exact ⟨k+1,by omega,by omega,by go_num,fun j h hj=>by
      by_cases e:j=k
      ·subst e;rw [←HX.out];exact hge
      ·exact HP.out j h (by omega)⟩
     case measure=>simp [intOf]<;>omega
    ·have hge':(x.toNat:Int)<128:=by omega
     by_cases h9:k=9
     ·subst h9
      by_cases h1:1<x.toNat
      ·have h1':(1:Int)<x.toNat:=by omega
       go_wp2;go_ret3;rw [rd_big l hlt HP.out (by rw [←HX.out];exact h1)];exact ⟨rfl,rfl⟩
      ·have h1':(x.toNat:Int)≤1:=by omega
       by_cases h0:x.toNat=0
       ·go_wp2
        go_ret3;rw [qaaf l 9 hlt (by omega) (by omega) HP.out (by rw [←HX.out];exact h0)];exact ⟨rfl,rfl⟩
       ·have BD:Hid (hvd l 9 0<18446744073709551616):=qk4 l 9 hlt (by omega) (fun _=>by rw [←HX.out];omega)
        have RS:Hid (rd l=some (hvd l 9 0,9+1)):=rd_some l 9 hlt (by omega) HP.out (by rw [←HX.out];omega) (fun _=>by rw [←HX.out];omega) (by rw [←HX.out];omega)
        have h0':((x.toNat:Int)==0)=false:=by simpa using h0
        go_wp2
        go_loop [6,7] (fun n i=>∃j:Nat,j≤9+1∧i=.int .i64 ((j:Int) - 1)∧n=.int .u64 (hvd l 9 j:Nat)) (fun _ i=>(intOf i+1).toNat)
        case atStart=>exact ⟨9+1,Nat.le_refl _,by go_num,by rw [qt6];rfl⟩
        case round=>
         obtain ⟨j,hj,rfl,rfl⟩:=hrel
         by_cases hj0:j=0
         ·subst hj0
          go_wp2;go_ret3;rw [RS.out];exact ⟨rfl,rfl⟩
         ·obtain ⟨i,rfl⟩:∃i,j=i+1:=⟨j - 1,by omega⟩
          have hc2:=HC.out i (by omega);have hst:=qkf l 9 i (by omega) hlt;have hle:=qv2 l 9 hlt i (by omega);have hbd:=BD.out;obtain ⟨y,hy⟩:∃y,y=l[i]:=⟨_,rfl⟩;rw [←hy] at hc2 hst;have hyb:=y.toNat_lt;obtain ⟨d,hd⟩:∃d,d=hvd l 9 (i+1):=⟨_,rfl⟩;rw [←hd] at hst ⊢;have HS:Hid (hvd l 9 i=y.toNat % 128+128*d):=hst
          have hdb:128*d+y.toNat % 128<18446744073709551616:=by omega
          clear hst hd hle hbd hy
          have hij:(i:Int)<l.length:=by omega
          have ei:((i+1:Nat):Int) - 1=(i:Int):=by omega
          rw [ei];clear ei;go_wp2
          go_round
          case rel=>exact ⟨i,by omega,by go_num,by rw [HS.out];go_num⟩
          case measure=>simp [intOf]<;>omega
     ·have h9':¬(k:Int)=9:=by omega
      by_cases hk0:0<k
      ·have hk0':(0:Int)<k:=by omega
       by_cases h0:x.toNat=0
       ·go_wp2
        go_ret3;rw [qaaf l k hlt (by omega) (by omega) HP.out (by rw [←HX.out];exact h0)];exact ⟨rfl,rfl⟩
       ·have BD:Hid (hvd l k 0<18446744073709551616):=qk4 l k hlt (by omega) (fun h=>by omega)
        have RS:Hid (rd l=some (hvd l k 0,k+1)):=rd_some l k hlt (by omega) HP.out (by rw [←HX.out];omega) (fun h=>by omega) (by rw [←HX.out];omega)
        have h0':((x.toNat:Int)==0)=false:=by simpa using h0
        go_wp2
        go_loop [6,7] (fun n i=>∃j:Nat,j≤k+1∧i=.int .i64 ((j:Int) - 1)∧n=.int .u64 (hvd l k j:Nat)) (fun _ i=>(intOf i+1).toNat)
        case atStart=>exact ⟨k+1,Nat.le_refl _,by go_num,by rw [qt6];rfl⟩
        case round=>
         obtain ⟨j,hj,rfl,rfl⟩:=hrel
         by_cases hj0:j=0
         ·subst hj0
          go_wp2;go_ret3;rw [RS.out];exact ⟨rfl,rfl⟩
         ·obtain ⟨i,rfl⟩:∃i,j=i+1:=⟨j - 1,by omega⟩
          have hc2:=HC.out i (by omega);have hst:=qkf l k i (by omega) hlt;have hle:=qv2 l k hlt i (by omega);have hbd:=BD.out;obtain ⟨y,hy⟩:∃y,y=l[i]:=⟨_,rfl⟩;rw [←hy] at hc2 hst;have hyb:=y.toNat_lt;obtain ⟨d,hd⟩:∃d,d=hvd l k (i+1):=⟨_,rfl⟩;rw [←hd] at hst ⊢;have HS:Hid (hvd l k i=y.toNat % 128+128*d):=hst
          have hdb:128*d+y.toNat % 128<18446744073709551616:=by omega
          clear hst hd hle hbd hy
          have hij:(i:Int)<l.length:=by omega
          have ei:((i+1:Nat):Int) - 1=(i:Int):=by omega
          rw [ei];clear ei;go_wp2
          go_round
          case rel=>exact ⟨i,by omega,by go_num,by rw [HS.out];go_num⟩
          case measure=>simp [intOf]<;>omega
      ·obtain rfl:k=0:=by omega
       rw [Nat.add_zero] at hc
       have hne:¬l=[]:=by intro e;rw [e] at hlt;simp at hlt
       have BD:Hid (hvd l 0 0<18446744073709551616):=qk4 l 0 hlt (by omega) (fun h=>by omega);have RS:Hid (rd l=some (hvd l 0 0,0+1)):=rd_some l 0 hlt (by omega) HP.out (by rw [←HX.out];omega) (fun h=>by omega) (by omega);go_wp2
       go_loop [6,7] (fun n i=>∃j:Nat,j≤0+1∧i=.int .i64 ((j:Int) - 1)∧n=.int .u64 (hvd l 0 j:Nat)) (fun _ i=>(intOf i+1).toNat)
       case atStart=>exact ⟨0+1,Nat.le_refl _,by go_num,by rw [qt6];rfl⟩
       case round=>
        obtain ⟨j,hj,rfl,rfl⟩:=hrel
        by_cases hj0:j=0
        ·subst hj0
         go_wp2;go_ret3;rw [RS.out];exact ⟨rfl,rfl⟩
        ·obtain ⟨i,rfl⟩:∃i,j=i+1:=⟨j - 1,by omega⟩
         have hc2:=HC.out i (by omega);have hst:=qkf l 0 i (by omega) hlt;have hle:=qv2 l 0 hlt i (by omega);have hbd:=BD.out;obtain ⟨y,hy⟩:∃y,y=l[i]:=⟨_,rfl⟩;rw [←hy] at hc2 hst;have hyb:=y.toNat_lt;obtain ⟨d,hd⟩:∃d,d=hvd l 0 (i+1):=⟨_,rfl⟩;rw [←hd] at hst ⊢;have HS:Hid (hvd l 0 i=y.toNat % 128+128*d):=hst
         have hdb:128*d+y.toNat % 128<18446744073709551616:=by omega
         clear hst hd hle hbd hy
         have hij:(i:Int)<l.length:=by omega
         have ei:((i+1:Nat):Int) - 1=(i:Int):=by omega
         rw [ei];clear ei;go_wp2
         go_round
         case rel=>exact ⟨i,by omega,by go_num,by rw [HS.out];go_num⟩
         case measure=>simp [intOf]<;>omega
   ·obtain rfl:k=10:=by omega
    go_wp2;go_ret3;rw [rd_ten l (by omega) HP.out];exact ⟨rfl,rfl⟩
  ·go_wp2
   go_ret3;rw [rd_end l (by omega) (fun j h=>HP.out j h (by omega))];exact ⟨rfl,rfl⟩
end Go.Proofs.YtmeaiocohalphaaGreatDoor
