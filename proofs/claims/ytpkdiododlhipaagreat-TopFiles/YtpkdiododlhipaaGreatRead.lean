/-
  What code.Read and the document's Read do: each answers the number whose small bytes a slice begins with, and changes nothing.
-/
import Derived.Test.YtpkdiododlhipaaGreatRmFree
import Derived.Test.YtpkdiododlhipaaGreatMathFi
import Derived.Test.YtpkdiododlhipaaGreatRows
import Derived.Test.YtpkdiododlhipaaGreatKit
import Derived.Test.YtpkdiododlhipaaGreatBase
import Derived.WalkKit
import Derived.WalkSpells
import Derived.WalkLawsBesides
import Derived.Deep.QuietTactic
import Derived.BigQuiet
set_option maxHeartbeats 1000000
set_option maxRecDepth 100000
namespace Go.Proofs.YtpkdiododlhipaaGreat
open Go.RowKit
set_option linter.all false
theorem qkh {A B:Int} {l:List Ex} (h:A<0∨B<A∨4096<B):qcc A B l=2∧qcn A B l=[]:=by
 have:qcc A B l=2:=by unfold qcc;rw [if_pos h]
 exact ⟨this,by unfold qcn;rw [if_neg (by rw [this];decide)]⟩
theorem qwr {A B:Int} {l:List Ex} (h:¬(A<0∨B<A∨4096<B)):qcc A B l=allX l:=by unfold qcc;rw [if_neg h]
theorem qpa {A B:Int} {l:List Ex} (h:qcc A B l≠0):qcn A B l=[]:=by unfold qcn;rw [if_neg h]
theorem qki {u v:Int→Bool} {a:Int}:∀k:Nat,(∀n,a≤n→n<a+k→u n=v n)→qc9 u a k=qc9 v a k
 | 0,_=>rfl
 | k+1,h=>by
  unfold qc9;rw [qki k (fun n h1 h2=>h n h1 (by omega)),h (a+k) (by omega) (by omega)]
theorem qzr (A B:Int) (a:Option Addr) (n c:Nat) (l:List Ex) (w:World) (hrd:RdE w (.slice a n c) l) (hn:n=l.length) (hwf:∀x∈l,wfX x):
  Calls Tryz.prog 107 #[.int .i64 A,.int .i64 B,.slice a n c] w fun e w'=>∃v,e=.returned (.tuple #[v,.int .i64 (qcc A B l)])∧OwE w' w.heap.size v (qcn A B l)∧Below w.heap.size w w':=by
 have HR:=hide hrd;have HN:=hide hn;have HW:=hide hwf;have HA:=hide (qi2 a n c l w hrd hn hwf);clear hrd hn hwf
 by_cases h1:A<0
 ·have HB:=hide (qkh (B:=B) (l:=l) (.inl h1:A<0∨B<A∨4096<B))
  go_enter Tryz.func107,Tryz.ntmps107
  go_wp2;go_ret2;exact ⟨_,by rw [HB.out.1];rfl,by rw [HB.out.2];exact OwE.nil _ _,Below.refl _ _⟩
 have h1':decide (A<0)=false:=by simpa using h1
 by_cases h2:B<A
 ·have HB:=hide (qkh (B:=B) (l:=l) (.inr (.inl h2):A<0∨B<A∨4096<B))
  go_enter Tryz.func107,Tryz.ntmps107
  go_wp2;go_ret2;exact ⟨_,by rw [HB.out.1];rfl,by rw [HB.out.2];exact OwE.nil _ _,Below.refl _ _⟩
 have h2':decide (B<A)=false:=by simpa using h2
 by_cases h3:4096<B
 ·have HB:=hide (qkh (A:=A) (l:=l) (.inr (.inr h3):A<0∨B<A∨4096<B))
  go_enter Tryz.func107,Tryz.ntmps107
  go_wp2;go_ret2;exact ⟨_,by rw [HB.out.1];rfl,by rw [HB.out.2];exact OwE.nil _ _,Below.refl _ _⟩
 have h3':decide (4096<B)=false:=by simpa using h3
 obtain ⟨p,rfl⟩:∃p:Nat,A=p:=⟨A.toNat,by omega⟩;obtain ⟨m,hm⟩:∃m:Nat,B=p+m:=⟨(B - p).toNat,by omega⟩;have HE:=hide (qwr (A:=(p:Int)) (B:=B) (l:=l) (by omega));have HB:=hide hm
 have hpm:p+m≤4096:=by omega
 clear hm
 go_enter Tryz.func107,Tryz.ntmps107
 go_wp2_with fail
 refine HA.out.mono ?_
 rintro e wa ⟨rfl,hba⟩
 by_cases hz:allX l=0
 ·have HZ:=hide hz
  rw [hz];have hzero:=Tryz.zeroMk;have hne:=qaa9 (fun _=>false)
  have hn4:n≤4096:=by have:=(qdy HZ.out).1;have:=HN.out;omega
  have HMay:=hide (fun x hx=>(qbt x).2 ((qdy HZ.out).2 x hx):∀x∈l,mayX x=true);have hws:=hba.size;clear hz;go_wp2
  go_loopw [30] (fun i wr=>∃k:Nat,k≤n∧i=.int .i64 k∧Hid (Mk wr wa.heap.size (fun j=>inL (l.take k) j))∧Below w.heap.size w wr) (fun i _=>n - (intOf i).toNat)
  case atStart=>exact ⟨0,Nat.zero_le _,rfl,hide ((Mk.new wa _).same fun j=>by simp [inL]),hba.alloc hws _⟩
  case round=>
   obtain ⟨k,hk,rfl,hmk,hbel⟩:=hrel;have hml:=hmk.out.lt
   by_cases hlt:k<n
   ·have hlt':(k:Int)<n:=by omega
    have hkl:k<l.length:=by have:=HN.out;omega
    obtain ⟨b,off,rfl,q0,q1⟩:=(HR.out.carry hbel).at k hkl
    go_wp2_with fail
    refine (qzb wa.heap.size _ (l[k]) (HMay.out _ (List.getElem_mem hkl)) _ (hmk.out.carry ((Below.refl _ _).alloc (Nat.le_refl _) _))).mono ?_
    rintro e wc ⟨rfl,hm1,hg⟩;have HM1:=hide (hm1.same (g:=fun j=>inL (l.take (k+1)) j) fun j=>by rw [qb7 l k hkl,qf5]);have hbc:Below w.heap.size w wc:=(hbel.alloc hbel.size _).grown hg (Nat.le_trans hbel.size (by simp)) (fun j hj=>by cases hj;exact hws);clear hm1 hg;go_wp2;go_roundw
    case rel=>exact ⟨k+1,by omega,rfl,HM1,hbc⟩
    case measure=>simp only [intOf];omega
   ·have hd:decide ((k:Int)<n)=false:=by simpa using (by omega:¬(k:Int)<n)
    have hf:∀j,inL (l.take k) j=inL l j:=fun j=>by rw [List.take_of_length_le (by have:=HN.out;omega)]
    have HM1:=hide (hmk.out.same (g:=fun j=>inL l j) fun j=>hf j);clear hf
    go_wp2_with fail
    refine (qo1 wa.heap.size _ p m B wr HM1.out hpm HB.out).mono ?_
    rintro e wc ⟨v,rfl,hown,hbc⟩
    have HO:=hide (show OwE wc w.heap.size v (qcn p B l) by
     have e:qcn p B l=qc9 (fun n:Int=>inL l ((n.toNat:Nat):Int)) p m:=by
      unfold qcn;rw [if_pos (by rw [HE.out,HZ.out]),show (B - (p:Int)).toNat=m by have:=HB.out;omega]
      exact qki m fun n h1 _=>by rw [show ((n.toNat:Nat):Int)=n by omega]
     rw [e]
     exact hown.mono hbel.size)
    have hbc':=hbel.trans (hbc.mono hbel.size);clear hown hbc;go_wp2;go_ret2;exact ⟨_,by rw [HE.out,HZ.out];rfl,HO.out,hbc'⟩
 ·have HL:=hide (qpa (A:=(p:Int)) (B:=B) (l:=l) (by rw [HE.out];exact hz))
  generalize hE:allX l=E at *
  have hz':(E==0)=false:=by simpa using hz
  go_wp2;go_ret2;exact ⟨_,by rw [HE.out];rfl,by rw [HL.out];exact OwE.nil _ _,hba⟩
theorem qzs (A B W:Int) (a:Option Addr) (n c:Nat) (l:List Ex) (w:World) (hrd:RdE w (.slice a n c) l) (hn:n=l.length) (hwf:∀x∈l,wfX x):
  Calls Tryz.prog 79 #[.int .i64 A,.int .i64 B,.slice a n c,.int .i64 W] w fun e w'=>∃v,e=.returned (.tuple #[v,.int .i64 (qdj A B l W)])∧OwE w' w.heap.size v (qce A B l W)∧Below w.heap.size w w':=by
 have HF:=hide (qzr A B a n c l w hrd hn hwf);clear hrd hn hwf
 go_enter Tryz.func79,Tryz.ntmps79
 go_wp2_with fail
 refine HF.out.mono ?_
 rintro e wa ⟨v,rfl,hown,hba⟩;have HO:=hide hown;obtain ⟨av,cv,rfl⟩:=hown.form;clear hown HF
 by_cases hz:qcc A B l=0
 ·by_cases hw1:W<1
  ·have HT:=hide (qhc hz (.inl hw1:W<1∨4096<W))
   rw [hz];clear hz;go_wp2;go_ret2;exact ⟨_,by rw [HT.out.1];rfl,by rw [HT.out.2];exact OwE.nil _ _,hba⟩
  ·have hw1':decide (W<1)=false:=by simpa using hw1
   by_cases hw2:4096<W
   ·have HT:=hide (qhc hz (.inr hw2:W<1∨4096<W))
    rw [hz];clear hz;go_wp2;go_ret2;exact ⟨_,by rw [HT.out.1];rfl,by rw [HT.out.2];exact OwE.nil _ _,hba⟩
   ·have hw2':decide (4096<W)=false:=by simpa using hw2
    obtain ⟨r1,r2,r3⟩:=qen hz;obtain ⟨f1,f2,f3,f4⟩:=qm3 hz;have HR:=hide (fun x hx=>by have:=r1.1 x hx;omega:∀x∈qcn A B l,0≤x.1∧1≤x.2∧x.1+x.2≤4096);have HZ:=hide hz;rw [hz];clear hz r1 r2 f1 f2 f3 f4
    go_wp2_with fail
    refine (qacd w.heap.size av _ cv _ W wa HO.out hba.size rfl r3 HR.out (by omega) (by omega)).mono ?_
    rintro e wb ⟨v,rfl,hown,hbb⟩
    have HT:=hide (show qdj A B l W=cutE (qcn A B l) W∧qce A B l W=(cutX (qcn A B l) W).getD [] by
     unfold qdj qce
     have h1:¬qcc A B l≠0:=by rw [HZ.out];decide
     have h2:¬(W<1∨4096<W):=by omega
     rw [if_neg h1,if_neg h1,if_neg h2,if_neg h2];exact ⟨rfl,rfl⟩)
    have HO2:=hide hown;have hbb':=hba.trans hbb;clear hown hbb;go_wp2;go_ret2;exact ⟨_,by rw [HT.out.1];rfl,by rw [HT.out.2];exact HO2.out,hbb'⟩
 ·have HT:=hide (qly (w:=W) hz)
  generalize hE:qcc A B l=E at *
  have hz':(E==0)=false:=by simpa using hz
  go_wp2;go_ret2;exact ⟨_,by rw [HT.out.1];rfl,by rw [HT.out.2];exact OwE.nil _ _,hba⟩
theorem qzt {P:Program} {o:Oper} {a:Act} {s x:Operand} {t:TypeId} {v y v':Value} {w w':World} (ho:o.op=.call {callee:=.builtin .append,args:=#[s,x],argTypes:=#[t,t]}) (hs:a.eval s=v) (hx:a.eval x=y) (hrun:(Builtin.append_ #[t,t] o.type #[v,y]).run P w=.ok v' w'):
  (execOp a.eval o).run P w=.ok (.value v') w':=by
 simp [execOp,ho,resolve,invoke,builtin,hs,hx,hrun,Result.andThen]
end Go.Proofs.YtpkdiododlhipaaGreat
namespace Go.Proofs.YtpkdiododlhipaaGreat
open Go.RowKit
theorem qpb (n:Nat) (w:World) (hn:n<18446744073709551616):
  Calls Tryz.prog 127 #[.int .u64 n] w fun e w'=>∃v,e=.returned v∧w'.ownsRow w.heap.size 5 1 v (sm n).length (u8v (sm n))∧Below w.heap.size w w':=by
 have hl10:=qa9 hn
 go_enter Tryz.func127,Tryz.ntmps127
 go_wp2
 go_loopw [0,3] (fun x v wr=>∃(m:Nat) (pre:List UInt8),m≤n∧x=.int .u64 m∧sm n=pre++sm m∧wr.ownsRow w.heap.size 5 1 v pre.length (u8v pre)∧Below w.heap.size w wr)
  (fun x _ _=>(intOf x).toNat)
 case atStart=>exact ⟨n,[],Nat.le_refl _,rfl,rfl,World.ownsRow_nil _ _ _ _,Below.refl _ _⟩
 case round=>
  obtain ⟨m,pre,hm,rfl,hpre,hown,hbel⟩:=hrel;have HP:Hid (sm n=pre++sm m):=hpre
  have hlp:pre.length≤10:=by have:=congrArg List.length hpre;simp at this;omega
  clear hpre
  by_cases hlt:128≤m
  ·go_wp2_with (at_builtin;go_must (refine qjw w wr rfl (.tmp 8) (.tmp 12) 23 rfl w.heap.size 5 Tryz.underlying23 Tryz.infoB _ pre hown rfl hbel (Nat.le_refl _) _ _ (or128 m) rfl (by omega) ?_);intro v' w1 hown1 hbel1)
   go_roundw
   case rel=>exact ⟨m / 128,pre++[UInt8.ofNat (m % 128+128)],by omega,by go_num,by rw [HP.out,qql hlt];simp,hown1,hbel1⟩
   case measure=>simp [intOf]<;>omega
  ·go_wp2_with (at_builtin;go_must (refine qjw w wr rfl (.tmp 14) (.tmp 17) 23 rfl w.heap.size 5 Tryz.underlying23 Tryz.infoB _ pre hown rfl hbel (Nat.le_refl _) _ (UInt8.ofNat m) (by first | exact u8_mod m | exact u8_id m (by omega)) rfl (by omega) ?_);intro v' w1 hown1 hbel1)
   go_ret
   have e:sm n=pre++[UInt8.ofNat m]:=by rw [HP.out,qqk (by omega)]
   rw [e];exact ⟨_,rfl,hown1,hbel1⟩
end Go.Proofs.YtpkdiododlhipaaGreat
namespace Go.Proofs.YtpkdiododlhipaaGreat
open Go.RowKit
theorem qnd (a:Option Addr) (c:Nat) (w:World):
  Calls Tryz.prog 140 #[.slice a 0 c] w fun e w'=>e=.returned (rdV none)∧w'=w:=by
 go_enter Tryz.func140,Tryz.ntmps140
 go_wp2
 go_loop [5,10] (fun n i=>n=.int .u64 0∧i=.int .i64 0) (fun _ _=>0)
 case atStart=>exact ⟨rfl,rfl⟩
 case round=>
  obtain ⟨rfl,rfl⟩:=hrel;go_wp2;go_ret3;exact ⟨rfl,rfl⟩
theorem qsi (b off c:Nat) (l:List UInt8) (w:World) (hcell:∀j,(h:j<l.length)→w.cell? ⟨b,off+j,none⟩=some (.int .u8 (l[j]).toNat)):
  Calls Tryz.prog 140 #[.slice (some ⟨b,off,none⟩) l.length c] w fun e w'=>e=.returned (rdV (rd l))∧w'=w:=by
 go_enter Tryz.func140,Tryz.ntmps140
 go_wp2
 go_loop [5,10] (fun n i=>∃(k acc:Nat),k≤l.length∧k≤9∧n=.int .u64 acc∧i=.int .i64 k∧acc<128 ^ k∧rd l=rdGo (l.drop k) k acc) (fun _ i=>l.length - (intOf i).toNat)
 case atStart=>exact ⟨0,0,Nat.zero_le _,Nat.zero_le _,rfl,rfl,by decide,by simp [rd]⟩
 case round=>
  obtain ⟨k,acc,hk,hk9,rfl,rfl,hacc,hrd⟩:=hrel;have HR:Hid (rd l=rdGo (l.drop k) k acc):=hrd;have HA:Hid (acc<128 ^ k):=hacc;clear hrd hacc
  by_cases hlt:k<l.length
  ·have hc:=hcell k hlt
   have HD:Hid (l.drop k=l[k]::l.drop (k+1)):=List.drop_eq_getElem_cons hlt;obtain ⟨x,hx⟩:∃x,x=l[k]:=⟨_,rfl⟩;rw [←hx] at hc HD;clear hcell hx;have hb:=x.toNat_lt;go_wp2
   ·obtain rfl:k=9:=by omega
    go_ret3;rw [HR.out,HD.out,qyw (by omega)];exact ⟨rfl,rfl⟩
   ·obtain rfl:k=9:=by omega
    go_ret3;rw [HR.out,HD.out,qoh (by omega) (by omega)];exact ⟨rfl,rfl⟩
   ·obtain rfl:k=9:=by omega
    go_ret3;rw [HR.out,HD.out,qg6 (by omega) (by omega) (by omega)];exact ⟨by rw [qab0 acc x.toNat HA.out (by omega)];rfl,rfl⟩
   ·go_round
    case rel=>exact ⟨k+1,acc+x.toNat % 128*128 ^ k,by omega,by omega,by rw [qu9 acc k x.toNat HA.out (by omega)],by go_num,qr5 HA.out,by rw [HR.out,HD.out,qog (by omega) (by omega)]⟩
    case measure=>simp [intOf]<;>omega
   ·go_ret3
    rw [HR.out,HD.out,qoh (by omega) (by omega)];exact ⟨rfl,rfl⟩
   ·obtain rfl:k=0:=by omega
    go_ret3;rw [HR.out,HD.out,qg6 (by omega) (by omega) (by omega)]
    obtain rfl:acc=0:=by have:=HA.out;omega
    exact ⟨by simp [rdV, *];rfl,rfl⟩
   ·go_ret3
    rw [HR.out,HD.out,qg6 (by omega) (by omega) (by omega)];exact ⟨by rw [qu9 acc k x.toNat HA.out (by omega),Nat.mod_eq_of_lt (by omega)];rfl,rfl⟩
  ·go_wp2
   go_ret3;have e:l.drop k=[]:=List.drop_eq_nil_of_le (by omega);rw [HR.out,e];exact ⟨rfl,rfl⟩
end Go.Proofs.YtpkdiododlhipaaGreat
