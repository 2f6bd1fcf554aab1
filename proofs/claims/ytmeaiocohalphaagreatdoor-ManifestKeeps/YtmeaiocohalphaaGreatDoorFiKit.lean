/-
  Rows of files, read and owned.
-/
import Derived.Test.YtmeaiocohalphaaGreatDoorRmTop
import Derived.Test.YtmeaiocohalphaaGreatDoorSNum
import Derived.Test.YtmeaiocohalphaaGreatDoorRows
import Derived.Test.YtmeaiocohalphaaGreatDoorMathRm
import Derived.Test.YtmeaiocohalphaaGreatDoorDMay
import Derived.WalkKit
import Derived.WalkSpells
import Derived.WalkLawsBesides
import Derived.Test.YtmeaiocohalphaaGreatDoorMathFi
import Derived.Deep.QuietTactic
import Derived.BigQuiet
import Derived.Deep.RegionHeld3
import Derived.Lib.SliceRun
set_option maxHeartbeats 1000000
set_option maxRecDepth 100000
namespace Go.Proofs.YtmeaiocohalphaaGreatDoor
open Go.RowKit
set_option linter.unusedVariables false
set_option linter.unusedSimpArgs false
theorem qaf4 {P:Program} {o:Oper} {a:Act} {s x:Operand} {t:TypeId} {v y v':Value} {w w':World} (ho:o.op=.call {callee:=.builtin .append,args:=#[s,x],argTypes:=#[t,t]}) (hs:a.eval s=v) (hx:a.eval x=y) (hrun:(Builtin.append_ #[t,t] o.type #[v,y]).run P w=.ok v' w'):
  (execOp a.eval o).run P w=.ok (.value v') w':=by
 simp [execOp,ho,resolve,invoke,builtin,hs,hx,hrun,Result.andThen]
theorem qaf5 (a b:Option Addr) (n c m d:Nat) (l k:List Ex) (w:World) (h1:RdE w (.slice a n c) l) (h2:RdE w (.slice b m d) k) (hn:n=l.length) (hm:m=k.length):
  Calls Tryz.prog 140 #[.slice a n c,.slice b m d] w fun e w'=>e=.returned (.bool (decide (l=k)))∧Below w.heap.size w w':=by
 have hnm:n≤maxLen:=hn ▸ h1.len_le;unfold maxLen at hnm;have H1:=hide h1;have H2:=hide h2;have HN:=hide hn;have HM:=hide hm;clear h1 h2 hn hm
 by_cases g1:n=m
 ·subst g1
  go_enter Tryz.func140,Tryz.ntmps140
  go_wp2
  go_loopw [5] (fun i wr=>∃j:Nat,j≤n∧i=.int .i64 j∧Hid (l.take j=k.take j)∧Below w.heap.size w wr) (fun i _=>n - (intOf i).toNat)
  case atStart=>exact ⟨0,Nat.zero_le _,rfl,hide (by simp),Below.refl _ _⟩
  case round=>
   obtain ⟨j,hj,rfl,he,hbel⟩:=hrel
   by_cases hlt:j<n
   ·have hlt':(j:Int)<n:=by omega
    have hjl:j<l.length:=by have:=HN.out;omega
    have hjk:j<k.length:=by have:=HM.out;omega
    obtain ⟨b1,off1,rfl,q0,q1⟩:=(H1.out.carry hbel).at j hjl;obtain ⟨b2,off2,rfl,p0,p1⟩:=(H2.out.carry hbel).at j hjk
    have hw1:wrap64 ((j:Int)+1)=(j:Int)+1:=by unfold wrap64;omega
    by_cases hx:l[j]=k[j]
    ·have HE:=hide (show l.take (j+1)=k.take (j+1) by rw [qbr l j hjl,qbr k j hjk,he.out,hx])
     rw [hx] at q0 q1;clear hx;go_wp2
     go_quiet (fail)
     go_wp2;go_roundw
     case rel=>exact ⟨j+1,by omega,rfl,HE,below_drewN hbel _⟩
     case measure=>simp only [intOf];omega
    ·have HE:=hide (show decide (l=k)=false by
      rw [decide_eq_false_iff_not];rintro rfl
      exact hx rfl)
     have hne:¬((l[j]).1=(k[j]).1∧(l[j]).2=(k[j]).2):=fun h=>hx (Prod.ext h.1 h.2)
     clear hx;generalize (l[j]).1=z1 at *;generalize (l[j]).2=z2 at *;generalize (k[j]).1=z3 at *;generalize (k[j]).2=z4 at *
     by_cases hz:z1=z3
     ·subst hz
      have hne1:¬z2=z4:=fun h=>hne ⟨rfl,h⟩
      have hne':(z2==z4)=false:=by simpa using hne1
      clear hne;go_wp2
      go_quiet (fail)
      go_wp2;go_ret;exact ⟨by rw [HE.out];rfl,below_drewN hbel _⟩
     ·have hne':(z1==z3)=false:=by simpa using hz
      clear hne;go_wp2
      go_quiet (fail)
      go_wp2;go_ret;exact ⟨by rw [HE.out];rfl,below_drewN hbel _⟩
   ·have hd:decide ((j:Int)<n)=false:=by simpa using (by omega:¬(j:Int)<n)
    have HE:=hide (show decide (l=k)=true by
     rw [decide_eq_true_iff]
     have:=he.out
     rwa [List.take_of_length_le (by have:=HN.out;omega),List.take_of_length_le (by have:=HM.out;omega)] at this)
    go_wp2;go_ret;exact ⟨by rw [HE.out];rfl,hbel⟩
 ·have HE:=hide (show decide (l=k)=false by
   rw [decide_eq_false_iff_not];rintro rfl
   have:=HN.out
   have:=HM.out
   omega)
  have g1':((n:Int)==(m:Int))=false:=by simpa using (by omega:¬(n:Int)=m)
  go_enter Tryz.func140,Tryz.ntmps140
  go_wp2;go_ret;exact ⟨by rw [HE.out];rfl,Below.refl _ _⟩
end Go.Proofs.YtmeaiocohalphaaGreatDoor
namespace Go.Proofs.YtmeaiocohalphaaGreatDoor
open Go.RowKit
theorem qlg (n:Nat) (w:World) (hn:n<18446744073709551616):
  Calls Tryz.prog 86 #[.int .u64 n] w fun e w'=>∃v,e=.returned v∧w'.ownsRow w.heap.size 5 1 v (sm n).length (u8v (sm n))∧Below w.heap.size w w':=by
 have hl10:=qaf hn
 go_enter Tryz.func86,Tryz.ntmps86
 go_wp2
 go_loopw [0,3] (fun x v wr=>∃(m:Nat) (pre:List UInt8),m≤n∧x=.int .u64 m∧sm n=pre++sm m∧wr.ownsRow w.heap.size 5 1 v pre.length (u8v pre)∧Below w.heap.size w wr)
  (fun x _ _=>(intOf x).toNat)
 case atStart=>exact ⟨n,[],Nat.le_refl _,rfl,rfl,World.ownsRow_nil _ _ _ _,Below.refl _ _⟩
 case round=>
  obtain ⟨m,pre,hm,rfl,hpre,hown,hbel⟩:=hrel;have HP:Hid (sm n=pre++sm m):=hpre
  have hlp:pre.length≤10:=by have:=congrArg List.length hpre;simp at this;omega
  clear hpre
  by_cases hlt:128≤m
  ·go_wp2_with (at_builtin;go_must (refine qki w wr rfl (.tmp 8) (.tmp 12) 23 rfl w.heap.size 5 Tryz.underlying23 Tryz.infoB _ pre hown rfl hbel (Nat.le_refl _) _ _ (or128 m) rfl (by omega) ?_);intro v' w1 hown1 hbel1)
   go_roundw
   case rel=>exact ⟨m / 128,pre++[UInt8.ofNat (m % 128+128)],by omega,by go_num,by rw [HP.out,qz6 hlt];simp,hown1,hbel1⟩
   case measure=>simp [intOf]<;>omega
  ·go_wp2_with (at_builtin;go_must (refine qki w wr rfl (.tmp 14) (.tmp 17) 23 rfl w.heap.size 5 Tryz.underlying23 Tryz.infoB _ pre hown rfl hbel (Nat.le_refl _) _ (UInt8.ofNat m) (by first | exact u8_mod m | exact u8_id m (by omega)) rfl (by omega) ?_);intro v' w1 hown1 hbel1)
   go_ret
   have e:sm n=pre++[UInt8.ofNat m]:=by rw [HP.out,qo5 (by omega)]
   rw [e];exact ⟨_,rfl,hown1,hbel1⟩
end Go.Proofs.YtmeaiocohalphaaGreatDoor
namespace Go.Proofs.YtmeaiocohalphaaGreatDoor
open Go.RowKit
theorem qpv (a:Option Addr) (c:Nat) (w:World):
  Calls Tryz.prog 183 #[.slice a 0 c] w fun e w'=>e=.returned (rdV none)∧w'=w:=by
 go_enter Tryz.func183,Tryz.ntmps183
 go_wp2
 go_loop [5,10] (fun n i=>n=.int .u64 0∧i=.int .i64 0) (fun _ _=>0)
 case atStart=>exact ⟨rfl,rfl⟩
 case round=>
  obtain ⟨rfl,rfl⟩:=hrel;go_wp2;go_ret3;exact ⟨rfl,rfl⟩
theorem qw3 (b off c:Nat) (l:List UInt8) (w:World) (hcell:∀j,(h:j<l.length)→w.cell? ⟨b,off+j,none⟩=some (.int .u8 (l[j]).toNat)):
  Calls Tryz.prog 183 #[.slice (some ⟨b,off,none⟩) l.length c] w fun e w'=>e=.returned (rdV (rd l))∧w'=w:=by
 go_enter Tryz.func183,Tryz.ntmps183
 go_wp2
 go_loop [5,10] (fun n i=>∃(k acc:Nat),k≤l.length∧k≤9∧n=.int .u64 acc∧i=.int .i64 k∧acc<128 ^ k∧rd l=rdGo (l.drop k) k acc) (fun _ i=>l.length - (intOf i).toNat)
 case atStart=>exact ⟨0,0,Nat.zero_le _,Nat.zero_le _,rfl,rfl,by decide,by simp [rd]⟩
 case round=>
  obtain ⟨k,acc,hk,hk9,rfl,rfl,hacc,hrd⟩:=hrel;have HR:Hid (rd l=rdGo (l.drop k) k acc):=hrd;have HA:Hid (acc<128 ^ k):=hacc;clear hrd hacc
  by_cases hlt:k<l.length
  ·have hc:=hcell k hlt
   have HD:Hid (l.drop k=l[k]::l.drop (k+1)):=List.drop_eq_getElem_cons hlt;obtain ⟨x,hx⟩:∃x,x=l[k]:=⟨_,rfl⟩;rw [←hx] at hc HD;clear hcell hx;have hb:=x.toNat_lt;go_wp2
   ·obtain rfl:k=9:=by omega
    go_ret3;rw [HR.out,HD.out,qae3 (by omega)];exact ⟨rfl,rfl⟩
   ·obtain rfl:k=9:=by omega
    go_ret3;rw [HR.out,HD.out,qq5 (by omega) (by omega)];exact ⟨rfl,rfl⟩
   ·obtain rfl:k=9:=by omega
    go_ret3;rw [HR.out,HD.out,qhl (by omega) (by omega) (by omega)];exact ⟨by rw [qai9 acc x.toNat HA.out (by omega)];rfl,rfl⟩
   ·go_round
    case rel=>exact ⟨k+1,acc+x.toNat % 128*128 ^ k,by omega,by omega,by rw [qz9 acc k x.toNat HA.out (by omega)],by go_num,qwc HA.out,by rw [HR.out,HD.out,qq4 (by omega) (by omega)]⟩
    case measure=>simp [intOf]<;>omega
   ·go_ret3
    rw [HR.out,HD.out,qq5 (by omega) (by omega)];exact ⟨rfl,rfl⟩
   ·obtain rfl:k=0:=by omega
    go_ret3;rw [HR.out,HD.out,qhl (by omega) (by omega) (by omega)]
    obtain rfl:acc=0:=by have:=HA.out;omega
    exact ⟨by simp [rdV, *];rfl,rfl⟩
   ·go_ret3
    rw [HR.out,HD.out,qhl (by omega) (by omega) (by omega)];exact ⟨by rw [qz9 acc k x.toNat HA.out (by omega),Nat.mod_eq_of_lt (by omega)];rfl,rfl⟩
  ·go_wp2
   go_ret3;have e:l.drop k=[]:=List.drop_eq_nil_of_le (by omega);rw [HR.out,e];exact ⟨rfl,rfl⟩
end Go.Proofs.YtmeaiocohalphaaGreatDoor
namespace Go.Proofs.YtmeaiocohalphaaGreatDoor
open Go.RowKit
theorem qw4 (s:ByteArray) (w:World) (hs:s.size≤1000000000):
  Calls Tryz.prog 60 #[.string s] w fun e w'=>∃v,e=.returned v∧w'.ownsRow w.heap.size 5 1 v (tx s.data.toList).length (u8v (tx s.data.toList))∧Below w.heap.size w w':=by
 have hl:s.data.toList.length=s.size:=by rw [Array.length_toList];rfl
 have hl10:=qaf (n:=s.size) (by omega)
 go_enter Tryz.func60,Tryz.ntmps60
 go_wp2_with fail
 refine (qlg s.size _ (by omega)).mono ?_
 rintro e w1 ⟨v,rfl,hown,hbel⟩
 go_wp2_with (at_builtin;go_must (refine qo6 w w1 rfl (.tmp 6) (.tmp 7) 23 9 rfl w.heap.size 5 Tryz.underlying23 Tryz.underlying9 Tryz.infoB _ _ hown rfl hbel (Nat.le_refl _) s rfl (by omega) ?_);intro v' w2 hown1 hbel1)
 go_ret;unfold tx;rw [hl];exact ⟨_,rfl,hown1,hbel1⟩
theorem qy5 (b off c:Nat) (l:List UInt8) (w:World) (hl:l.length≤1000000000) (hcell:∀j,(h:j<l.length)→w.cell? ⟨b,off+j,none⟩=some (.int .u8 (l[j]).toNat)):
  Calls Tryz.prog 147 #[.slice (some ⟨b,off,none⟩) l.length c] w fun e w'=>∃v,e=.returned v∧w'.ownsRow w.heap.size 5 1 v l.length (u8v l)∧Below w.heap.size w w':=by
 have HC:Hid (∀j,(h:j<l.length)→w.cell? ⟨b,off+j,none⟩=some (.int .u8 (l[j]).toNat)):=hcell;clear hcell
 have hq:=fun wx=>Lib.run_eql_slice_nil (P:=Tryz.prog) wx 23 5 (some ⟨b,off,none⟩) l.length c 0 0 Tryz.underlying23
 go_enter Tryz.func147,Tryz.ntmps147
 go_wp2_with (at_builtin;go_must (refine qkj w (w.alloc (.cells #[] 5)) rfl (.tmp 5) (.tmp 6) 23 rfl w.heap.size 5 Tryz.underlying23 Tryz.infoB _ [] (World.ownsRow_made w #[] 0 (Nat.le_refl _) (by decide) rfl) rfl ((Below.refl _ _).alloc (Nat.le_refl _) _) (Nat.le_refl _) b off c l.length l rfl rfl (fun j h=>(World.cell?_alloc_lt _ _ _ (World.block_lt_of_cell? w _ (HC.out j h))).trans (HC.out j h)) (by simp;omega) ?_);intro v' w1 hown1 hbel1 _)
 go_ret;exact ⟨_,rfl,hown1,hbel1⟩
theorem qpw (b off c m:Nat) (l:List UInt8) (w:World) (hm:l.length=m) (hl:m≤1000000000) (hcell:∀j,(h:j<l.length)→w.cell? ⟨b,off+j,none⟩=some (.int .u8 (l[j]).toNat)):
  Calls Tryz.prog 147 #[.slice (some ⟨b,off,none⟩) m c] w fun e w'=>∃v,e=.returned v∧w'.ownsRow w.heap.size 5 1 v l.length (u8v l)∧Below w.heap.size w w':=by
 subst hm;exact qy5 b off c l w hl hcell
def CutV (w w':World) (v:Value) (l:List UInt8):Prop:=
 (ct l=none∧v=.tuple #[.string ByteArray.empty,.slice none 0 0,.int .i64 8])∨
 ∃t r x,ct l=some (t,r)∧v=.tuple #[.string (bs t),x,.int .i64 0]∧w'.ownsRow w.heap.size 5 1 x r.length (u8v r)
theorem qaby (a:Option Addr) (c:Nat) (w:World):
  Calls Tryz.prog 105 #[.slice a 0 c] w fun e w'=>∃v,e=.returned v∧CutV w w' v []∧Below w.heap.size w w':=by
 go_enter Tryz.func105,Tryz.ntmps105
 go_wp2_with fail
 refine (qpv a c _).mono ?_
 rintro e w1 ⟨rfl,rfl⟩;unfold rdV;go_wp2;go_ret3;exact ⟨_,rfl,.inl ⟨rfl,rfl⟩,Below.refl _ _⟩
theorem qaj4 (b off c:Nat) (l:List UInt8) (w:World) (hl:l.length≤1000000000) (hlc:l.length≤c) (hcm:c≤maxLen) (hcell:∀j,(h:j<l.length)→w.cell? ⟨b,off+j,none⟩=some (.int .u8 (l[j]).toNat)):
  Calls Tryz.prog 105 #[.slice (some ⟨b,off,none⟩) l.length c] w fun e w'=>∃v,e=.returned v∧CutV w w' v l∧Below w.heap.size w w':=by
 have HC:Hid (∀j,(h:j<l.length)→w.cell? ⟨b,off+j,none⟩=some (.int .u8 (l[j]).toNat)):=hcell;clear hcell
 go_enter Tryz.func105,Tryz.ntmps105
 go_wp2_with fail
 refine (qw3 b off c l _ HC.out).mono ?_
 rintro e w1 ⟨rfl,rfl⟩
 cases hr:rd l with
 | none=>
  have HR:Hid (rd l=none):=hr;clear hr;unfold rdV;go_wp2;go_ret3;exact ⟨_,rfl,.inl ⟨qaaf HR.out,rfl⟩,Below.refl _ _⟩
 | some p=>
  obtain ⟨n,k⟩:=p;obtain ⟨hk0,hkl,hk10,hn64⟩:=qtf hr;have HR:Hid (rd l=some (n,k)):=hr;clear hr;unfold rdV
  by_cases hn:n≤l.length - k
  ·have HCT:Hid (ct l=some ((l.drop k).take n,l.drop (k+n))):=qtg HR.out hn
   have hlt:((l.drop k).take n).length=n:=by simp;omega
   have hld:(l.drop (k+n)).length=l.length - k - n:=by simp;omega
   by_cases hck:k=c
   ·subst hck
    obtain rfl:n=0:=by omega
    have hR:Rd w1 (.slice (some ⟨b,off,none⟩) 0 0) []:=.inl ⟨rfl,.inr ⟨_,_,rfl⟩⟩
    have hconv:∀wx,Rd wx (.slice (some ⟨b,off,none⟩) 0 0) []→(convert 23 9 (.slice (some ⟨b,off,none⟩) 0 0)).run Tryz.prog wx=.ok (.string (bs [])) wx:=fun wx h=>qio _ _ _ Tryz.underlying23 Tryz.underlying5 Tryz.underlying9 h
    have hL2:(l.drop k).length=0:=by simp;omega
    have HL2:Hid ((l.drop k).length=0):=hL2
    have HC2:Hid (∀j,(h:j<(l.drop k).length)→w1.cell? ⟨b,off+j,none⟩=some (.int .u8 ((l.drop k)[j]).toNat)):=fun j h=>by
     exfalso;omega
    have HCU:Hid (ct l=some ([],l.drop k)):=by
     have:=HCT.out
     rw [List.take_zero,Nat.add_zero] at this;exact this
    clear hlt hld hL2 HCT;go_wp2
    go_region_held3 (fun wx=>Rd wx (.slice (some ⟨b,off,none⟩) 0 0) []) (first | assumption | exact Rd.carry (by assumption) (by assumption)) ((go_at_call 147;refine (qpw b off 0 0 (l.drop k) _ HL2.out (by omega) (by exact HC2.out)).mono ?_;rintro e w2 ⟨v2,rfl,hown2,hbel2⟩))
    go_wp2;go_ret3;exact ⟨_,rfl,.inr ⟨_,_,_,HCU.out,rfl,hown2⟩,(Below.refl _ _).drew.trans hbel2⟩
   ·by_cases hcn:c - k=n
    ·have hR:Rd w1 (.slice (some ⟨b,off+k,none⟩) n n) ((l.drop k).take n):=.inr ⟨b,off+k,n,by rw [hlt],by omega,by omega,fun j hj=>by
      rw [show off+k+j=off+(k+j) by omega,HC.out (k+j) (by omega)];simp⟩
     have hconv:∀wx,Rd wx (.slice (some ⟨b,off+k,none⟩) n n) ((l.drop k).take n)→(convert 23 9 (.slice (some ⟨b,off+k,none⟩) n n)).run Tryz.prog wx=.ok (.string (bs ((l.drop k).take n))) wx:=fun wx h=>qio _ _ _ Tryz.underlying23 Tryz.underlying5 Tryz.underlying9 h
     have hL2:(l.drop (k+n)).length=l.length - k - n:=by omega
     have HL2:Hid ((l.drop (k+n)).length=l.length - k - n):=hL2
     have HC2:Hid (∀j,(h:j<(l.drop (k+n)).length)→w1.cell? ⟨b,off+k+j,none⟩=some (.int .u8 ((l.drop (k+n))[j]).toNat)):=fun j h=>by
      first | (rw [show off+k+j=off+(k+n+j) by omega,HC.out (k+n+j) (by omega)];simp;done) | (exfalso;omega)
     have hb1:(n:Int)≤((c - k:Nat):Int):=by omega
     clear hlt hld hL2;go_wp2
     go_region_held3 (fun wx=>Rd wx (.slice (some ⟨b,off+k,none⟩) n n) ((l.drop k).take n)) (first | assumption | exact Rd.carry (by assumption) (by assumption)) ((go_at_call 147;refine (qpw b (off+k) (0) (l.length - k - n) (l.drop (k+n)) _ HL2.out (by omega) (by exact HC2.out)).mono ?_;rintro e w2 ⟨v2,rfl,hown2,hbel2⟩))
     go_wp2;go_ret3;exact ⟨_,rfl,.inr ⟨_,_,_,HCT.out,rfl,hown2⟩,(Below.refl _ _).drew.trans hbel2⟩
    ·have hR:Rd w1 (.slice (some ⟨b,off+k,none⟩) n (c - k)) ((l.drop k).take n):=.inr ⟨b,off+k,(c - k),by rw [hlt],by omega,by omega,fun j hj=>by
      rw [show off+k+j=off+(k+j) by omega,HC.out (k+j) (by omega)];simp⟩
     have hconv:∀wx,Rd wx (.slice (some ⟨b,off+k,none⟩) n (c - k)) ((l.drop k).take n)→(convert 23 9 (.slice (some ⟨b,off+k,none⟩) n (c - k))).run Tryz.prog wx=.ok (.string (bs ((l.drop k).take n))) wx:=fun wx h=>qio _ _ _ Tryz.underlying23 Tryz.underlying5 Tryz.underlying9 h
     have hL2:(l.drop (k+n)).length=l.length - k - n:=by omega
     have HL2:Hid ((l.drop (k+n)).length=l.length - k - n):=hL2
     have HC2:Hid (∀j,(h:j<(l.drop (k+n)).length)→w1.cell? ⟨b,off+k+n+j,none⟩=some (.int .u8 ((l.drop (k+n))[j]).toNat)):=fun j h=>by
      first | (rw [show off+k+n+j=off+(k+n+j) by omega,HC.out (k+n+j) (by omega)];simp;done) | (exfalso;omega)
     have hb1:(n:Int)≤((c - k:Nat):Int):=by omega
     clear hlt hld hL2;go_wp2
     go_region_held3 (fun wx=>Rd wx (.slice (some ⟨b,off+k,none⟩) n (c - k)) ((l.drop k).take n)) (first | assumption | exact Rd.carry (by assumption) (by assumption)) ((go_at_call 147;refine (qpw b (off+k+n) (c - k - n) (l.length - k - n) (l.drop (k+n)) _ HL2.out (by omega) (by exact HC2.out)).mono ?_;rintro e w2 ⟨v2,rfl,hown2,hbel2⟩))
     go_wp2;go_ret3;exact ⟨_,rfl,.inr ⟨_,_,_,HCT.out,rfl,hown2⟩,(Below.refl _ _).drew.trans hbel2⟩
  ·go_wp2
   all_goals (go_ret3;exact ⟨_,rfl,.inl ⟨qaag HR.out hn,rfl⟩,Below.refl _ _⟩)
theorem qlh {v:Value} {l:List UInt8} (w:World) (h:Rd w v l):
  Calls Tryz.prog 183 #[v] w fun e w'=>e=.returned (rdV (rd l))∧w'=w:=by
 rcases h with ⟨rfl,rfl | ⟨ad,c,rfl⟩⟩ | ⟨b,off,c,rfl,hc,hm,hcell⟩
 ·exact qpv _ _ w
 ·exact qpv _ _ w
 ·exact qw3 b off c l w hcell
theorem qj8 {v:Value} {l:List UInt8} (w:World) (hl:l.length≤1000000000) (h:Rd w v l):
  Calls Tryz.prog 105 #[v] w fun e w'=>∃v,e=.returned v∧CutV w w' v l∧Below w.heap.size w w':=by
 rcases h with ⟨rfl,rfl | ⟨ad,c,rfl⟩⟩ | ⟨b,off,c,rfl,hc,hm,hcell⟩
 ·exact qaby _ _ w
 ·exact qaby _ _ w
 ·exact qaj4 b off c l w hl hc hm hcell
def cutT (l:List UInt8):ByteArray:=match ct l with | none=>ByteArray.empty | some (t,_)=>bs t
def qli (l:List UInt8):Int:=match ct l with | none=>8 | some _=>0
def cutR (l:List UInt8):List UInt8:=match ct l with | none=>[] | some (_,r)=>r
theorem qh3 {w w':World} {v:Value} {l:List UInt8} (h:CutV w w' v l):∃x,v=.tuple #[.string (cutT l),x,.int .i64 (qli l)]∧w'.ownsRow w.heap.size 5 1 x (cutR l).length (u8v (cutR l)):=by
 rcases h with ⟨h,rfl⟩ | ⟨t,r,x,h,rfl,hx⟩
 ·exact ⟨.slice none 0 0,by simp [cutT,qli,h],by simp only [cutR,h];exact World.ownsRow_nil _ _ _ _⟩
 ·exact ⟨x,by simp [cutT,qli,h],by simp only [cutR,h];exact hx⟩
end Go.Proofs.YtmeaiocohalphaaGreatDoor
namespace Go.Proofs.YtmeaiocohalphaaGreatDoor
open Go.RowKit
set_option linter.unusedVariables false
set_option linter.unusedSimpArgs false
theorem Tryz.infoFl:(Tryz.prog.info? 98).map (fun i=>(i.zero,i.size,i.bytes))=some (some (.agg #[.string ByteArray.empty,.slice none 0 0]),2,40):=by kernel_rfl
def wfFs (fs:List Fl):Prop:=∀f∈fs,∀x∈f.2,wfX x
theorem qlj {fs:List Fl} (h:wfFs fs):∀x∈qao fs,wfX x:=by
 intro x hx;obtain ⟨f,hf,hx⟩:=List.mem_flatMap.1 hx;exact h f hf x hx
/-! ### what is read -/
def LieF (w:World) (b off:Nat) (fs:List Fl):Prop:=
 ∀j,(h:j<fs.length)→w.cell? ⟨b,off+j*2,none⟩=some (.string (bs (fs[j]).1))∧
  ∃a c,w.cell? ⟨b,off+j*2+1,none⟩=some (.slice a (fs[j]).2.length c)∧RdE w (.slice a (fs[j]).2.length c) (fs[j]).2
def RdF (w:World) (v:Value) (fs:List Fl):Prop:=
 (fs=[]∧(v=.slice none 0 0∨∃a c,v=.slice (some a) 0 c))∨
 ∃b off c,v=.slice (some ⟨b,off,none⟩) fs.length c∧fs.length≤c∧c≤maxLen∧LieF w b off fs
theorem LieF.carry {w w':World} {b off:Nat} {fs:List Fl} (h:LieF w b off fs) (hb:Below w.heap.size w w'):LieF w' b off fs:=by
 intro j hj;obtain ⟨h0,a,c,h1,h2⟩:=h j hj;refine ⟨?_,a,c, ?_,h2.carry hb⟩
 ·rw [hb.cell (World.block_lt_of_cell? w _ h0)];exact h0
 ·rw [hb.cell (World.block_lt_of_cell? w _ h1)];exact h1
theorem RdF.carry {w w':World} {v:Value} {fs:List Fl} (h:RdF w v fs) (hb:Below w.heap.size w w'):RdF w' v fs:=by
 rcases h with h | ⟨b,off,c,rfl,hc,hm,hl⟩
 ·exact .inl h
 ·exact .inr ⟨b,off,c,rfl,hc,hm,hl.carry hb⟩
theorem RdF.form {w:World} {v:Value} {fs:List Fl} (h:RdF w v fs):∃a c,v=.slice a fs.length c:=by
 rcases h with ⟨rfl,rfl | ⟨a,c,rfl⟩⟩ | ⟨b,off,c,rfl,_⟩<;>exact ⟨_,_,rfl⟩
theorem RdF.len_le {w:World} {v:Value} {fs:List Fl} (h:RdF w v fs):fs.length≤maxLen:=by
 rcases h with ⟨rfl,_⟩ | ⟨b,off,c,rfl,h1,h2,_⟩
 ·simp [maxLen]
 ·omega
theorem RdF.at {w:World} {a:Option Addr} {n c:Nat} {fs:List Fl} (h:RdF w (.slice a n c) fs) (j:Nat) (hj:j<fs.length):
  ∃b off a2 c2,a=some ⟨b,off,none⟩∧w.cell? ⟨b,off+j*2,none⟩=some (.string (bs (fs[j]).1))∧w.cell? ⟨b,off+j*2+1,none⟩=some (.slice a2 (fs[j]).2.length c2)∧RdE w (.slice a2 (fs[j]).2.length c2) (fs[j]).2:=by
 rcases h with ⟨rfl,_⟩ | ⟨b,off,c',e,_,_,hc⟩
 ·exact absurd hj (by simp)
 ·cases e
  obtain ⟨h0,a2,c2,h1,h2⟩:=hc j hj;exact ⟨b,off,a2,c2,rfl,h0,h1,h2⟩
theorem RdF.atB {w w':World} {a:Option Addr} {n c:Nat} {fs:List Fl} (h:RdF w (.slice a n c) fs) (hb:Below w.heap.size w w') (j:Nat) (hj:j<fs.length):
  ∃b off a2 c2,a=some ⟨b,off,none⟩∧w'.cell? ⟨b,off+j*2,none⟩=some (.string (bs (fs[j]).1))∧w'.cell? ⟨b,off+j*2+1,none⟩=some (.slice a2 (fs[j]).2.length c2)∧RdE w (.slice a2 (fs[j]).2.length c2) (fs[j]).2:=by
 obtain ⟨b,off,a2,c2,e,h0,h1,h2⟩:=h.at j hj;refine ⟨b,off,a2,c2,e, ?_, ?_,h2⟩
 ·rw [hb.cell (World.block_lt_of_cell? w _ h0)];exact h0
 ·rw [hb.cell (World.block_lt_of_cell? w _ h1)];exact h1
theorem RdF.nil (w:World):RdF w (.slice none 0 0) []:=.inl ⟨rfl,.inl rfl⟩
/-! ### what is owned -/
def qai (ps:List (Fl × Value)):List Value:=ps.flatMap fun p=>[.string (bs p.1.1),p.2]
theorem qe4 (p:Fl × Value) (ps:List (Fl × Value)):qai (p::ps)=.string (bs p.1.1)::p.2::qai ps:=rfl
theorem qcx (ps qs:List (Fl × Value)):qai (ps++qs)=qai ps++qai qs:=by simp [qai]
theorem qbn:∀ps:List (Fl × Value),(qai ps).length=ps.length*2
 | []=>rfl
 | p::ps=>by rw [qe4,List.length_cons,List.length_cons,List.length_cons,qbn ps];omega
theorem qgn:∀(ps:List (Fl × Value)) (j:Nat) (h:j<ps.length),(qai ps)[j*2]? =some (.string (bs (ps[j]).1.1))∧(qai ps)[j*2+1]? =some (ps[j]).2
 | p::ps,0,h=>by simp [qai]
 | p::ps,j+1,h=>by
  have:=qgn ps j (by simpa using h)
  rw [qe4,show (j+1)*2=j*2+1+1 by omega]
  simpa using this
theorem qg8 (ps:List (Fl × Value)) (k:Nat) (h:k≤ps.length):(qai ps).take (k*2)=qai (ps.take k):=by
 have e:qai ps=qai (ps.take k)++qai (ps.drop k):=by rw [←qcx,List.take_append_drop]
 have e2:(qai (ps.take k)).length=k*2:=by rw [qbn,List.length_take,Nat.min_eq_left h]
 rw [e,←e2,List.take_left]
theorem qlk (ps:List (Fl × Value)) (k:Nat) (h:k≤ps.length):(qai ps).drop (k*2)=qai (ps.drop k):=by
 have e:qai ps=qai (ps.take k)++qai (ps.drop k):=by rw [←qcx,List.take_append_drop]
 have e2:(qai (ps.take k)).length=k*2:=by rw [qbn,List.length_take,Nat.min_eq_left h]
 rw [e,←e2,List.drop_left]
theorem OwE.ownForm {w:World} {base:Nat} {v:Value} {l:List Ex} (h:OwE w base v l):v.oneCell'=true:=by
 rcases h.2 with ⟨rfl,_⟩ | ⟨g,cap,cur,rfl,_⟩<;>rfl
theorem qoe {w:World} {base:Nat} {ps:List (Fl × Value)} (h:∀p∈ps,OwE w base p.2 p.1.2):∀u∈qai ps,u.oneCell'=true:=by
 intro u hu;obtain ⟨p,hp,hu⟩:=List.mem_flatMap.1 hu
 simp at hu
 rcases hu with rfl | rfl
 ·rfl
 ·exact (h p hp).ownForm
def OwP (w:World) (base:Nat) (v:Value) (ps:List (Fl × Value)):Prop:=w.ownsRow base 98 2 v ps.length (qai ps)∧∀p∈ps,OwE w base p.2 p.1.2
def OwF (w:World) (base:Nat) (v:Value) (fs:List Fl):Prop:=∃ps,ps.map Prod.fst=fs∧OwP w base v ps
theorem OwP.rd {w:World} {base:Nat} {v:Value} {ps:List (Fl × Value)} (h:OwP w base v ps):RdF w v (ps.map Prod.fst):=by
 obtain ⟨h,hi⟩:=h
 rcases h.2 with ⟨rfl,hn⟩ | ⟨g,cap,cur,rfl,_,hg,hn,hm,hsz,htake⟩
 ·obtain rfl:=List.length_eq_zero_iff.1 hn
  exact .inl ⟨rfl,.inl rfl⟩
 ·refine .inr ⟨g,0,cap,by simp,by simpa using hn,hm,fun j hj=>?_⟩
  have hj':j<ps.length:=by simpa using hj
  obtain ⟨e1,e2⟩:=qgn ps j hj';have c1:=h.cells (g:=g) rfl _ _ e1;have c2:=h.cells (g:=g) rfl _ _ e2;rw [Addr.add_lit] at c1 c2;have hI:=(hi ps[j] (List.getElem_mem hj')).rd;obtain ⟨a,c,hv⟩:=hI.form
  simp only [List.getElem_map]
  refine ⟨by simpa using c1,a,c, ?_, ?_⟩
  ·rw [hv] at c2;simpa [Nat.add_assoc] using c2
  ·rw [←hv];exact hI
theorem OwF.rd {w:World} {base:Nat} {v:Value} {fs:List Fl} (h:OwF w base v fs):RdF w v fs:=by obtain ⟨ps,rfl,h⟩:=h;exact h.rd
theorem OwF.form {w:World} {base:Nat} {v:Value} {fs:List Fl} (h:OwF w base v fs):∃a c,v=.slice a fs.length c:=h.rd.form
theorem OwP.carry {w w':World} {base:Nat} {v:Value} {ps:List (Fl × Value)} (h:OwP w base v ps) (hb:Below w.heap.size w w'):OwP w' base v ps:=⟨qa4 h.1 hb,fun p hp=>(h.2 p hp).carry hb⟩
theorem OwF.carry {w w':World} {base:Nat} {v:Value} {fs:List Fl} (h:OwF w base v fs) (hb:Below w.heap.size w w'):OwF w' base v fs:=by obtain ⟨ps,e,h⟩:=h;exact ⟨ps,e,h.carry hb⟩
theorem OwP.mono {w:World} {base base':Nat} {v:Value} {ps:List (Fl × Value)} (h:OwP w base v ps) (hb:base'≤base):OwP w base' v ps:=⟨qhy h.1 hb,fun p hp=>(h.2 p hp).mono hb⟩
theorem OwF.mono {w:World} {base base':Nat} {v:Value} {fs:List Fl} (h:OwF w base v fs) (hb:base'≤base):OwF w base' v fs:=by obtain ⟨ps,e,h⟩:=h;exact ⟨ps,e,h.mono hb⟩
theorem OwP.nil (w:World) (base:Nat):OwP w base (.slice none 0 0) []:=⟨World.ownsRow_nil w base _ _,by simp⟩
theorem OwF.nil (w:World) (base:Nat):OwF w base (.slice none 0 0) []:=⟨[],rfl,OwP.nil w base⟩
theorem OwE.apartF {w:World} {base:Nat} {v:Value} {l:List Ex} (h:OwE w base v l) {k:Nat} {cs:Array Value} {fr:Nat × Nat} (hk:w.heap[k]? =some (.cells cs 98 fr)):v.ownBlock≠some k:=by
 intro e
 rcases h.2 with ⟨rfl,hn⟩ | ⟨g,cap,cur,rfl,_,hg,_⟩
 ·cases e
 ·cases e
  rw [hk] at hg;cases hg
theorem OwE.keptF {w w':World} {base:Nat} {v:Value} {l:List Ex} (h:OwE w base v l) {vr:Value} {b2 n:Nat} {xs:List Value} (hr:w.ownsRow b2 98 2 vr n xs) (hg:w.grownBy w' vr.ownBlock):OwE w' base v l:=by
 refine World.ownsRow.kept h hg ?_
 rcases hr.2 with ⟨rfl,hn⟩ | ⟨g,cap,cur,rfl,_,hg,_⟩
 ·cases hv:v.ownBlock with
  | none=>exact .inl rfl
  | some k=>exact .inr (by simp [Value.ownBlock])
 ·exact .inr (h.apartF hg)
theorem qes (w:World) (cs:Array Value) (t:TypeId):∀j u,cs.toList[j]? =some u→(w.alloc (.cells cs t)).cell? ((⟨w.heap.size,0,none⟩:Addr).add j)=some u:=by
 intro j u hj
 have:=World.news_of_block (w:=w.alloc (.cells cs t)) (heap_alloc_new w _) j u (by simpa using hj)
 simpa using this
theorem qw5 {w:World} {base:Nat} {v:Value} {ps:List (Fl × Value)} (h:OwP w base v ps) (hb:base≤w.heap.size) (hl:ps.length≤1000000) (s:List UInt8) (x:Value) (l:List Ex) (hx:OwE w base x l):
  ∃g c w',(Builtin.append_ #[29,29] 29 #[v,.slice (some ⟨w.heap.size,0,none⟩) 1 1]).run Tryz.prog (w.alloc (.cells #[.string (bs s),x] 98))=.ok (.slice (some ⟨g,0,none⟩) (ps.length+1) c) w'∧
   OwP w' base (.slice (some ⟨g,0,none⟩) (ps.length+1) c) (ps++[((s,l),x)])∧Below base w w':=by
 obtain ⟨w8,ew8⟩:∃w8,w8=w.alloc (.cells #[.string (bs s),x] 98):=⟨_,rfl⟩;have hn8:=qes w #[.string (bs s),x] 98;rw [←ew8] at hn8 ⊢
 have hb8:Below w.heap.size w w8:=by rw [ew8];exact (Below.refl _ _).alloc (Nat.le_refl _) _
 obtain ⟨i0,hi,hz0,hz1,hz2⟩:=info_parts Tryz.infoFl;have q2:w8.ownsRow base 98 2 v ps.length (qai ps):=qa4 h.1 hb8
 obtain ⟨v9,w9,hrun9,hown9,hg9,_⟩:=run_append_own (P:=Tryz.prog) w8 base 29 29 98 i0 _ 2 40 Tryz.underlying29 hi hz0 hz1 hz2 rfl (by decide) _ _ _ q2 ⟨w.heap.size,0,none⟩ 1 1 [.string (bs s),x] rfl hn8 (by
  intro u hu
  simp at hu
  rcases hu with rfl | rfl
  ·rfl
  ·exact hx.ownForm) (by unfold maxLen;omega) (by omega) (Nat.le_trans hb hb8.size)
 have hb9:Below base w w9:=(hb8.mono hb).grown hg9 (Nat.le_trans hb hb8.size) fun k hk=>(q2.lt k hk).1
 have e:qai (ps++[((s,l),x)])=qai ps++[.string (bs s),x]:=by rw [qcx];rfl
 have hle:(ps++[((s,l),x)]).length=ps.length+1:=by simp
 have hin:∀p∈ps++[((s,l),x)],OwE w9 base p.2 p.1.2:=by
  intro p hp
  have h0:OwE w8 base p.2 p.1.2:=by
   rcases List.mem_append.1 hp with hp | hp
   ·exact (h.2 p hp).carry hb8
   ·obtain rfl:p=((s,l),x):=by simpa using hp
    exact hx.carry hb8
  exact h0.keptF q2 hg9
 rcases hown9.2 with ⟨_,h0⟩ | ⟨g,cap,cur,h0,_⟩
 ·exact absurd h0 (by omega)
 ·subst h0
  exact ⟨g,cap,w9,hrun9,⟨by rw [hle,e];exact hown9,hin⟩,hb9⟩
theorem qpx {w:World} {base:Nat} {v:Value} {l0:List Ex} (h0:OwE w base v l0) (hb:base≤w.heap.size) {a:Option Addr} {n c:Nat} {l:List Ex} (h:RdE w (.slice a n c) l) (hn:n=l.length) (hl:l0.length+l.length≤1000000):
  ∃b c' w',(Builtin.append_ #[96,96] 96 #[v,.slice a n c]).run Tryz.prog w=.ok (.slice b (l0++l).length c') w'∧OwE w' base (.slice b (l0++l).length c') (l0++l)∧Below base w w':=by
 subst hn;obtain ⟨i0,hi,hz0,hz1,hz2⟩:=info_parts Tryz.infoEx;have q2:w.ownsRow base 237 2 v l0.length (cellsE l0):=h0
 have key:∀ad:Addr,a=some ad→(∀j u,(cellsE l)[j]? =some u→w.cell? (ad.add j)=some u)→∃b c' w',(Builtin.append_ #[96,96] 96 #[v,.slice a l.length c]).run Tryz.prog w=.ok (.slice b (l0++l).length c') w'∧OwE w' base (.slice b (l0++l).length c') (l0++l)∧Below base w w':=by
  rintro ad rfl hn8;obtain ⟨v9,w9,hrun9,hown9,hg9,_⟩:=run_append_own (P:=Tryz.prog) w base 96 96 237 i0 _ 2 16 Tryz.underlying96 hi hz0 hz1 hz2 rfl (by decide) _ _ _ q2 ad l.length c (cellsE l) (qeq l) hn8 (qy1 l) (by unfold maxLen;omega) (by omega) hb
  have hb9:Below base w w9:=(Below.refl _ _).grown hg9 hb fun k hk=>(q2.lt k hk).1
  rw [←List.length_append,←qds] at hown9;obtain ⟨b,c',rfl⟩:=OwE.form (l:=l0++l) hown9;exact ⟨b,c',w9,hrun9,hown9,hb9⟩
 rcases h with ⟨rfl,e | ⟨x,d,e⟩⟩ | ⟨b,off,c',e,hc,hm,hcell⟩
 ·cases e
  obtain ⟨b,c',rfl⟩:=h0.form;refine ⟨b,c',w, ?_,by simpa using h0,Below.refl _ _⟩;rw [List.append_nil];exact run_append_owned_none (P:=Tryz.prog) (w:=w) base 96 96 237 i0 2 Tryz.underlying96 hi _ _ _ q2
 ·cases e
  exact key _ rfl (fun j u hj=>by simp [cellsE] at hj)
 ·cases e
  refine key _ rfl fun j u hj=>?_
  have hjl:j<l.length*2:=by rw [←qeq];exact (List.getElem?_eq_some_iff.1 hj).1
  rw [Addr.add_lit];obtain ⟨q,hq⟩:∃q,q=j / 2:=⟨_,rfl⟩
  have hql:q<l.length:=by omega
  obtain ⟨c1,c2⟩:=hcell q hql;obtain ⟨e1,e2⟩:=qgj l q hql
  rcases Nat.mod_two_eq_zero_or_one j with h0 | h0
  ·obtain rfl:j=q*2:=by omega
   rw [e1] at hj;cases hj;exact c1
  ·obtain rfl:j=q*2+1:=by omega
   rw [e2] at hj;cases hj;exact c2
end Go.Proofs.YtmeaiocohalphaaGreatDoor
