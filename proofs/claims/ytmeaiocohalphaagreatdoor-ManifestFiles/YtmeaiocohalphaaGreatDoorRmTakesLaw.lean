/-
  What the statement RoomTakes answers.
-/
import Derived.Test.YtmeaiocohalphaaGreatDoorRmRef
import Derived.Test.YtmeaiocohalphaaGreatDoorRmFree
import Derived.ProofKit
import Derived.Deep.Slices
import Derived.Deep.Strs
import Derived.OpenShut
import Derived.Lib.SmallJoins
import Derived.Test.YtmeaiocohalphaaGreatDoorRead
set_option maxHeartbeats 4000000
set_option maxRecDepth 100000
namespace Go.Proofs.YtmeaiocohalphaaGreatDoor
open Go.RowKit
set_option linter.all false
theorem wrapP {k:Nat} (h:k<1000000000):wrap64 ((k:Int)+1 - 1)=(k:Int):=by unfold wrap64;omega
theorem qacf (A B:Int) (a:Option Addr) (n c:Nat) (l:List Ex) (w:World) (hrd:RdE w (.slice a n c) l) (hn:n=l.length) (hwf:∀x∈l,wfX x):
  Calls Tryz.prog 195 #[.int .i64 A,.int .i64 B,.slice a n c] w fun e w'=>∃v,e=.returned (.tuple #[v,.int .i64 (qcd A B l)])∧OwE w' w.heap.size v (qb2 A B l)∧Below w.heap.size w w':=by
 have hnm:n≤maxLen:=hn ▸ hrd.len_le;have HR:=hide hrd;have HN:=hide hn;have HW:=hide hwf;clear hrd hn hwf
 by_cases h1:A<0
 ·have HB:=hide (qe5 (B:=B) (l:=l) (.inl h1:A<0∨B<A∨4096<B))
  go_enter Tryz.func195,Tryz.ntmps195
  go_wp2;go_ret2;exact ⟨_,by rw [HB.out.1];rfl,by rw [HB.out.2];exact OwE.nil _ _,Below.refl _ _⟩
 have h1':decide (A<0)=false:=by simpa using h1
 by_cases h2:B<A
 ·have HB:=hide (qe5 (B:=B) (l:=l) (.inr (.inl h2):A<0∨B<A∨4096<B))
  go_enter Tryz.func195,Tryz.ntmps195
  go_wp2;go_ret2;exact ⟨_,by rw [HB.out.1];rfl,by rw [HB.out.2];exact OwE.nil _ _,Below.refl _ _⟩
 have h2':decide (B<A)=false:=by simpa using h2
 by_cases h3:4096<B
 ·have HB:=hide (qe5 (A:=A) (l:=l) (.inr (.inr h3):A<0∨B<A∨4096<B))
  go_enter Tryz.func195,Tryz.ntmps195
  go_wp2;go_ret2;exact ⟨_,by rw [HB.out.1];rfl,by rw [HB.out.2];exact OwE.nil _ _,Below.refl _ _⟩
 have h3':decide (4096<B)=false:=by simpa using h3
 obtain ⟨p,rfl⟩:∃p:Nat,A=p:=⟨A.toNat,by omega⟩;obtain ⟨m,hm⟩:∃m:Nat,B=p+m:=⟨(B - p).toNat,by omega⟩;have HE:=hide (qsa (A:=(p:Int)) (B:=B) (l:=l) (by omega));have HB:=hide hm
 have hpm:p+m≤4096:=by omega
 clear hm
 by_cases g1:n > 4096
 ·have HX:=hide (show allX l=4 by have:=HN.out;unfold allX;rw [if_pos (by omega)])
  have HL:=hide (qie (A:=(p:Int)) (B:=B) (l:=l) (by rw [HE.out,HX.out];decide))
  have g1':(4096:Int)<n:=by omega
  unfold maxLen at hnm
  go_enter Tryz.func195,Tryz.ntmps195
  go_wp2;go_ret2;exact ⟨_,by rw [HE.out,HX.out];rfl,by rw [HL.out];exact OwE.nil _ _,Below.refl _ _⟩
 have g1':decide ((4096:Int)<n)=false:=by simpa using (by omega:¬(4096:Int)<n)
 clear hnm
 go_enter Tryz.func195,Tryz.ntmps195
 go_wp2
 go_loopw [8] (fun i wr=>∃k:Nat,k≤n∧i=.int .i64 k∧Hid (∀x∈l.take k,mayX x=true)∧Below w.heap.size w wr) (fun i _=>n - (intOf i).toNat)
 case atStart=>exact ⟨0,Nat.zero_le _,rfl,hide (by simp),Below.refl _ _⟩
 case round=>
  obtain ⟨k,hk,rfl,hall,hbel⟩:=hrel
  by_cases hlt:k<n
  ·have hlt':(k:Int)<n:=by omega
   have hkl:k<l.length:=by have:=HN.out;omega
   have hw1:wrap64 ((k:Int)+1)=(k:Int)+1:=qha (by omega);obtain ⟨b,off,e,q0,q1⟩:=(HR.out.carry hbel).at k hkl;subst e
   go_wp2_with fail
   refine (qwn (l[k]) (HW.out _ (List.getElem_mem hkl)) _).mono ?_
   rintro e wc ⟨rfl,hbc⟩;have hbc':Below w.heap.size w wc:=hbel.trans (hbc.mono hbel.size);clear hbc
   cases hp:mayX l[k] with
   | false=>
    have HX:=hide (qoz hkl (by have:=HN.out;omega) hp);have HL:=hide (qie (A:=(p:Int)) (B:=B) (l:=l) (by rw [HE.out,HX.out];decide));clear hp;go_wp2;go_ret2;exact ⟨_,by rw [HE.out,HX.out];rfl,by rw [HL.out];exact OwE.nil _ _,hbc'⟩
   | true=>
    have HA:=hide (show ∀x∈l.take (k+1),mayX x=true by
     intro x hx;rw [qbc l k hkl] at hx
     rcases List.mem_append.1 hx with hx | hx
     ·exact hall.out x hx
     ·rw [List.mem_singleton.1 hx];exact hp)
    clear hp;go_wp2;go_roundw
    case rel=>exact ⟨k+1,by omega,rfl,HA,hbc'⟩
    case measure=>simp only [intOf];omega
  ·have hd:decide ((k:Int)<n)=false:=by simpa using (by omega:¬(k:Int)<n)
   have e:k=l.length:=by have:=HN.out;omega
   have HX:=hide (show allX l=0 from qk2 (by have:=HN.out;omega) (by rw [←e];exact hall.out));have HMay:=hide (fun x hx=>(qbp x).2 ((qcp HX.out).2 x hx):∀x∈l,mayX x=true);clear e hall HW;go_wp2
   go_loopw [9,10] (fun v i wr=>∃k:Nat,k≤m∧i=.int .i64 ((p:Int)+(k:Int))∧Hid (OwE wr w.heap.size v (qcc (inL l) p k))∧Below w.heap.size w wr) (fun _ i _=>(B - intOf i).toNat)
   case atStart=>exact ⟨0,Nat.zero_le _,by simp,hide (OwE.nil _ _),hbel⟩
   case round=>
    obtain ⟨k,hk,rfl,ho,hbel⟩:=hrel
    by_cases hkm:k<m
    ·have hkm':(p:Int)+(k:Int)<B:=by have:=HB.out;omega
     have hwN:wrap64 ((p:Int)+(k:Int)+1)=(p:Int)+(k:Int)+1:=by unfold wrap64;omega
     have hlen:=qh0 (inL l) p k;have HFM:=hide (qr2 (u:=inL l) (a:=p) (k:=k) (by omega) (by omega));have HNext:=hide (show qcc (inL l) p (k+1)=if inL l ((p:Int)+(k:Int)) then qcc (inL l) p k else qi3 (qcc (inL l) p k) ((p:Int)+(k:Int)) from rfl)
     have hN0:0≤(p:Int)+(k:Int):=by omega
     have hN1:(p:Int)+(k:Int)<4096:=by omega
     have HK1:=hide (show k+1≤m from hkm);obtain ⟨N,hNe⟩:∃N:Int,N=(p:Int)+(k:Int):=⟨_,rfl⟩;rw [←hNe] at hkm' hwN HNext hN0 hN1;have HNe:=hide hNe;rw [←hNe];clear hNe;obtain ⟨L,hL⟩:∃L,L=qcc (inL l) p k:=⟨_,rfl⟩;rw [←hL] at ho hlen HFM HNext;clear hL;obtain ⟨a7,c7,rfl⟩:=ho.out.form;generalize hq:L.length=q at *;have HQ:=hide hq;clear hq;go_wp2
     go_loopw [11,12] (fun s i wr=>∃j:Nat,j≤n∧i=.int .i64 j∧s=.bool (inL (l.take j) N)∧Hid (OwE wr w.heap.size (.slice a7 q c7) L)∧Below w.heap.size w wr) (fun _ i _=>n - (intOf i).toNat)
     case atStart=>exact ⟨0,Nat.zero_le _,rfl,by simp [inL],ho,hbel⟩
     case round=>
      obtain ⟨j,hj,rfl,rfl,ho2,hbel2⟩:=hrel
      by_cases hjn:j<n
      ·have hjn':(j:Int)<n:=by omega
       have hjl:j<l.length:=by have:=HN.out;omega
       have hw1:wrap64 ((j:Int)+1)=(j:Int)+1:=qha (by omega);obtain ⟨b,off,e,q0,q1⟩:=(HR.out.carry hbel2).at j hjl;subst e;have HS:=hide (show inL (l.take (j+1)) N=(inL (l.take j) N || inX l[j] N) by rw [qbc l j hjl,qfd])
       have hn4:n≤4096:=by omega
       clear hwN hN0 hN1 hlen hkm' h1 h1' h2 h2' h3 h3' g1 g1' hk hkm hpm
       cases hi:inL (l.take j) N with
       | true=>
        have HS1:=hide (show inL (l.take (j+1)) N=true by rw [HS.out,hi];rfl);clear hi;go_wp2;go_roundw
        case rel=>exact ⟨j+1,by omega,rfl,by rw [HS1.out],ho2,hbel2⟩
        case measure=>simp only [intOf];omega
       | false=>
        have HS1:=hide (show inL (l.take (j+1)) N=inX l[j] N by rw [HS.out,hi];simp);clear hi
        go_wp2_with fail
        refine (qakc (l[j]) (HMay.out _ (List.getElem_mem hjl)) N _).mono ?_
        rintro e wd ⟨rfl,hbd⟩;have ho3:=hide (ho2.out.carry hbd);have hbd':=hbel2.trans (hbd.mono hbel2.size);clear hbd;go_wp2;go_roundw
        case rel=>exact ⟨j+1,by omega,rfl,by rw [HS1.out],ho3,hbd'⟩
        case measure=>simp only [intOf];omega
      ·have hd:decide ((j:Int)<n)=false:=by simpa using (by omega:¬(j:Int)<n)
       have HI:=hide (show inL (l.take j) N=inL l N by rw [List.take_of_length_le (by have:=HN.out;omega)])
       have hq4:q≤4096:=by omega
       clear h1 h1' h2 h2' h3 h3' g1 g1' hk hkm hpm hlen;rw [HI.out]
       cases hi:inL l N with
       | true=>
        have HO:=hide (show OwE wr w.heap.size (.slice a7 q c7) (qcc (inL l) p (k+1)) by rw [HNext.out,hi,if_pos rfl];exact ho2.out);clear hi;go_wp2;go_roundw
        case rel=>exact ⟨k+1,HK1.out,congrArg (Value.int .i64) (by have:=HNe.out;omega),HO,hbel2⟩
        case measure=>simp only [intOf];omega
       | false=>
        have HG:=hide (show qcc (inL l) p (k+1)=qi3 L N by rw [HNext.out,hi];rfl);have HRUN:=hide (qwo ho2.out hbel2.size (by have:=HQ.out;omega) N 1);clear hi HNext
        cases q with
        | zero=>
         have hL0:L=[]:=List.length_eq_zero_iff.1 HQ.out;have HG2:=hide (show qcc (inL l) p (k+1)=L++[(N,1)] by rw [HG.out,hL0];rfl);clear hL0 HG;go_wp2
         go_quiet (fail)
         obtain ⟨g9,c9,w9,hrun,hown9,hbel9⟩:=HRUN.out nq;rw [←HG2.out] at hown9;rw [HQ.out] at hown9 hrun;have HO:=hide hown9;have hb9:=hbel2.trans hbel9;clear hown9 hbel9
         go_wp2_with (at_builtin;refine qaf rfl (.tmp 90) (.tmp 93) 96 rfl rfl rfl rfl hrun ?_)
         go_roundw
         case rel=>exact ⟨k+1,HK1.out,congrArg (Value.int .i64) (by have:=HNe.out;omega),HO,hb9⟩
         case measure=>simp only [intOf];omega
        | succ t=>
         have hz:=HQ.out;obtain ⟨g,e,hbg, -,hnc, -⟩:=ho2.out.lies (by intro e;rw [e] at hz;simp at hz);subst e
         have htl:t<L.length:=by omega
         have hx:=(qbp _).1 (HFM.out _ (List.getElem_mem htl));obtain ⟨b',off',e,c1,c2⟩:=ho2.out.rd.at t htl;cases e;rw [Nat.zero_add] at c1 c2
         have fr:=fun j=>ho2.out.frozen HQ.out.symm j
         obtain ⟨s1,g1⟩:=ho2.out.stored HQ.out.symm t htl ((L[t]).2+1);have HW1:=hide (fun hN=>(qr0 (N:=N) htl hz.symm hN).trans HG.out.symm);have HW2:=hide (fun hN=>(qr1 (N:=N) htl hz.symm hN).trans HG.out.symm);have HS:=hide s1;have HGr:=hide g1;have HBG:=hide hbg;have hw1:wrap64 ((t:Int)+1 - 1)=t:=wrapP (by omega);clear s1 g1 hz hbg HG;generalize hp:(L[t]).1=P at *;generalize hq:(L[t]).2=R at *
         have hw2:wrap64 (P+R)=P+R:=by unfold wrap64;omega
         have hwi2:IntKind.i64.wrap (P+R)=P+R:=by rw [IntKind.wrap_i64];omega
         have hw3:wrap64 (R+1)=R+1:=by unfold wrap64;omega
         have htc:(t:Int)<((t+1:Nat):Int):=by omega
         clear hp hq
         by_cases hNN:P+R=N
         ·have HE2:=hide (HW1.out hNN)
          clear HW1 HW2 HRUN;go_wp2
          go_quiet (fail)
          go_wp2;go_roundw
          case rel=>exact ⟨k+1,HK1.out,congrArg (Value.int .i64) (by have:=HNe.out;omega),hide (by rw [←HE2.out];exact HS.out),(below_drewN hbel2 _).setCell HBG.out _⟩
          case measure=>simp only [intOf];omega
         ·have HE2:=hide (HW2.out hNN)
          have hNN':(P+R==N)=false:=by simpa using hNN
          clear HW1 HW2 HS HGr;go_wp2
          go_quiet (fail)
          obtain ⟨g9,c9,w9,hrun,hown9,hbel9⟩:=HRUN.out nq;rw [HE2.out] at hown9;rw [HQ.out] at hown9 hrun;have HO:=hide hown9;have hb9:=hbel2.trans hbel9;clear hown9 hbel9
          go_wp2_with (at_builtin;refine qaf rfl (.tmp 90) (.tmp 93) 96 rfl rfl rfl rfl hrun ?_)
          go_roundw
          case rel=>exact ⟨k+1,HK1.out,congrArg (Value.int .i64) (by have:=HNe.out;omega),HO,hb9⟩
          case measure=>simp only [intOf];omega
    ·have hkm':decide ((p:Int)+(k:Int)<B)=false:=by have:=HB.out;simpa using (by omega:¬(p:Int)+(k:Int)<B)
     have HO:=hide (show OwE wr w.heap.size _ (qb2 p B l) by
      have e:qb2 p B l=qcc (inL l) p k:=by
       unfold qb2;rw [if_pos (by rw [HE.out,HX.out]),show (B - (p:Int)).toNat=k by have:=HB.out;omega]
      rw [e]
      exact ho.out)
     go_wp2;go_ret2;exact ⟨_,by rw [HE.out,HX.out];rfl,HO.out,hbel⟩
def TkSt (L:List Ex) (W:Int) (i:Nat) (Z:Int) (O:List Ex):Prop:=(Z=W - qbj (L.take i)∧1≤Z∧O=L.take i)∨(Z=0∧cutX L W=some O)
theorem TkSt.last {L:List Ex} {W Z:Int} {i:Nat} {O:List Ex} (h:TkSt L W i Z O) (hi:i<L.length) (hz:0<Z) (hp:∀x∈L,1≤x.2) (hle:Z≤(L[i]).2):TkSt L W (i+1) 0 (O++[((L[i]).1,Z)]):=by
 rcases h with ⟨h1,h2,rfl⟩ | ⟨h1,_⟩
 ·refine .inr ⟨rfl, ?_⟩
  rw [qq6 (w:=W) hi (by omega) hp (by omega),h1]
 ·omega
theorem TkSt.more {L:List Ex} {W Z:Int} {i:Nat} {O:List Ex} (h:TkSt L W i Z O) (hi:i<L.length) (hz:0<Z) (hlt:(L[i]).2<Z):TkSt L W (i+1) (Z - (L[i]).2) (O++[((L[i]).1,(L[i]).2)]):=by
 rcases h with ⟨h1,h2,rfl⟩ | ⟨h1,_⟩
 ·refine .inl ⟨?_,by omega, ?_⟩
  ·rw [qbc L i hi,qgp];omega
  ·rw [qbc L i hi]
 ·omega
theorem qacg (A B W:Int) (a:Option Addr) (n c:Nat) (l:List Ex) (w:World) (hrd:RdE w (.slice a n c) l) (hn:n=l.length) (hwf:∀x∈l,wfX x):
  Calls Tryz.prog 122 #[.int .i64 A,.int .i64 B,.slice a n c,.int .i64 W] w fun e w'=>∃v,e=.returned (.tuple #[v,.int .i64 (qco A B l W)])∧OwE w' w.heap.size v (qcb A B l W)∧Below w.heap.size w w':=by
 have HF:=hide (qacf A B a n c l w hrd hn hwf);clear hrd hn hwf
 go_enter Tryz.func122,Tryz.ntmps122
 go_wp2_with fail
 refine HF.out.mono ?_
 rintro e wa ⟨v,rfl,hown,hba⟩;have HO:=hide hown;obtain ⟨av,cv,rfl⟩:=hown.form;clear hown HF
 by_cases hz:qcd A B l=0
 ·by_cases hw1:W<1
  ·have HT:=hide (qeb hz (.inl hw1:W<1∨4096<W))
   rw [hz];clear hz;go_wp2;go_ret2;exact ⟨_,by rw [HT.out.1];rfl,by rw [HT.out.2];exact OwE.nil _ _,hba⟩
  ·have hw1':decide (W<1)=false:=by simpa using hw1
   by_cases hw2:4096<W
   ·have HT:=hide (qeb hz (.inr hw2:W<1∨4096<W))
    rw [hz];clear hz;go_wp2;go_ret2;exact ⟨_,by rw [HT.out.1];rfl,by rw [HT.out.2];exact OwE.nil _ _,hba⟩
   ·have hw2':decide (4096<W)=false:=by simpa using hw2
    obtain ⟨r1,r2,r3⟩:=qd7 hz;obtain ⟨f1,f2,f3,f4⟩:=qke hz;have HR:=hide (fun x hx=>by have:=r1.1 x hx;omega:∀x∈qb2 A B l,0≤x.1∧1≤x.2∧x.1+x.2≤4096);have HP:=hide (fun x hx=>(HR.out x hx).2.1:∀x∈qb2 A B l,1≤x.2);have HTS:=hide (fun r hc=>qm7 hz (by omega) (by omega) hc:∀r,cutX (qb2 A B l) W=some r→qco A B l W=0∧qcb A B l W=r);have HTN:=hide (fun hc=>qm8 hz (by omega) (by omega) hc:cutX (qb2 A B l) W=none→qco A B l W=40∧qcb A B l W=[]);rw [hz];clear hz r1 r2 f1 f2 f3 f4;generalize qb2 A B l=L at *;generalize hm:L.length=m at *;have HM:=hide hm;have hws:=hba.size;have HRd:=hide HO.out.rd;have HW1:=hide (show (1:Int)≤W by omega);have HW2:=hide (show W≤4096 by omega);clear hm;go_wp2
    go_loopw [3,12,13] (fun z v i wr=>∃(j:Nat) (Z:Int) (O:List Ex),j≤m∧i=.int .i64 j∧z=.int .i64 Z∧Hid (OwE wr wa.heap.size v O)∧Hid (TkSt L W j Z O)∧0≤Z∧Z≤4096∧O.length≤j∧Below wa.heap.size wa wr) (fun _ _ i _=>m - (intOf i).toNat)
    case atStart=>exact ⟨0,W,[],Nat.zero_le _,rfl,rfl,hide (OwE.nil _ _),hide (.inl ⟨by simp [qbj],HW1.out,by simp⟩),by have:=HW1.out;omega,HW2.out,by simp,Below.refl _ _⟩
    case round=>
     obtain ⟨j,Z,O,hj,rfl,rfl,ho,hst,hz0,hz4,hol,hbel⟩:=hrel
     by_cases hjm:j<m
     ·have hjm':(j:Int)<m:=by omega
      have hjl:j<L.length:=by have:=HM.out;omega
      by_cases hzp:0<Z
      ·obtain ⟨b,off,e,q0,q1⟩:=(HRd.out.carry hbel).at j hjl
       subst e;have hx:=HR.out _ (List.getElem_mem hjl);have hw3:wrap64 ((j:Int)+1)=(j:Int)+1:=qha (by omega);obtain ⟨av2,cv2,rfl⟩:=ho.out.form;generalize hq:O.length=q at *;have HQ:=hide hq
       by_cases hle:Z≤(L[j]).2
       ·have HS:=hide (hst.out.last hjl hzp HP.out hle)
        obtain ⟨g9,c9,w9,hrun,hown9,hbel9⟩:=qug ho.out hbel.size (by omega) (L[j]).1 Z;rw [hq] at hrun hown9;have HO9:=hide hown9;have hb9:=hbel.trans hbel9
        have hmin:(if Z<(L[j]).2 then Z else (L[j]).2)=Z:=by split<;>omega
        have hmin2:(if (L[j]).2<Z then (L[j]).2 else Z)=Z:=by split<;>omega
        have hmin3:min Z (L[j]).2=Z:=by omega
        have hlen:(O++[((L[j]).1,Z)]).length≤j+1:=by simp;omega
        clear hown9 hbel9 hq
        go_wp2_with (at_builtin;refine qaf rfl (.tmp 48) (.tmp 56) 96 rfl rfl rfl rfl hrun ?_)
        go_roundw
        case rel=>exact ⟨j+1,0,_,by omega,rfl,by simp,HO9,HS,by omega,by omega,hlen,hb9⟩
        case measure=>simp only [intOf];omega
       ·have HS:=hide (hst.out.more hjl hzp (by omega))
        obtain ⟨g9,c9,w9,hrun,hown9,hbel9⟩:=qug ho.out hbel.size (by omega) (L[j]).1 (L[j]).2;rw [hq] at hrun hown9;have HO9:=hide hown9;have hb9:=hbel.trans hbel9
        have hmin3:min Z (L[j]).2=(L[j]).2:=by omega
        have hlen:(O++[((L[j]).1,(L[j]).2)]).length≤j+1:=by simp;omega
        clear hown9 hbel9 hq
        go_wp2_with (at_builtin;refine qaf rfl (.tmp 48) (.tmp 56) 96 rfl rfl rfl rfl hrun ?_)
        go_roundw
        case rel=>exact ⟨j+1,_,_,by omega,rfl,rfl,HO9,HS,by omega,by omega,hlen,hb9⟩
        case measure=>simp only [intOf];omega
      ·have hzp':decide (0<Z)=false:=by simpa using hzp
       have HC:=hide (show cutX L W=some O by
        rcases hst.out with ⟨_,h,_⟩ | ⟨_,h⟩
        ·omega
        ·exact h)
       have HT:=hide (HTS.out _ HC.out);go_wp2;go_ret2;exact ⟨_,by rw [HT.out.1];rfl,by rw [HT.out.2];exact ho.out.mono hws,hba.trans (hbel.mono hws)⟩
     ·have hd:decide ((j:Int)<m)=false:=by simpa using (by omega:¬(j:Int)<m)
      by_cases hzp:0<Z
      ·have HC:=hide (show cutX L W=none by
        rcases hst.out with ⟨h1,h,_⟩ | ⟨h,_⟩
        ·rw [List.take_of_length_le (by have:=HM.out;omega)] at h1
         exact qv0 (by omega) HP.out
        ·omega)
       have HT:=hide (HTN.out HC.out);go_wp2;go_ret2;exact ⟨_,by rw [HT.out.1];rfl,by rw [HT.out.2];exact OwE.nil _ _,hba.trans (hbel.mono hws)⟩
      ·have hzp':decide (0<Z)=false:=by simpa using hzp
       have HC:=hide (show cutX L W=some O by
        rcases hst.out with ⟨_,h,_⟩ | ⟨_,h⟩
        ·omega
        ·exact h)
       have HT:=hide (HTS.out _ HC.out);go_wp2;go_ret2;exact ⟨_,by rw [HT.out.1];rfl,by rw [HT.out.2];exact ho.out.mono hws,hba.trans (hbel.mono hws)⟩
 ·have HT:=hide (qi7 (w:=W) hz)
  generalize hE:qcd A B l=E at *
  have hz':(E==0)=false:=by simpa using hz
  go_wp2;go_ret2;exact ⟨_,by rw [HT.out.1];rfl,by rw [HT.out.2];exact OwE.nil _ _,hba⟩
end Go.Proofs.YtmeaiocohalphaaGreatDoor
namespace Go.Proofs.YtmeaiocohalphaaGreatDoor
open Go.RowKit Go.Deep
set_option linter.all false
theorem Tryz.cellsInE:Tryz.prog.cellsOf 3=1:=by kernel_rfl
theorem Tryz.cellsExE:Tryz.prog.cellsOf 237=2:=by kernel_rfl
theorem qach {H:Type} {enc:TypeId × Value→H} {W:World} {base:Nat} {spare:Nat→Bool} {held:Bool} {fuel:Nat} {u:Value} {x:DataW H × List MemPlace}
  (h:DataW.trod enc Tryz.prog W base spare held fuel 96 [u]=some x):∃l:List Ex,RdE W u l∧∀x∈l,wfX x:=by
 rcases open_slice Tryz.underlying96 h with ⟨hcs,_⟩ | ⟨ad,len,cap,m,n,D,Pl,hcs,_,hl,hm,hmm,_,hx⟩
 ·simp at hcs
  subst hcs;exact ⟨[],.inl ⟨rfl,.inl rfl⟩,by simp⟩
 ·simp at hcs
  subst hcs
  by_cases h0:len=0
  ·subst h0
   exact ⟨[],.inl ⟨rfl,.inr ⟨_,_,rfl⟩⟩,by simp⟩
  have hlm:len≤m:=by rw [hmm];split<;>omega
  rw [Tryz.cellsExE] at hx
  have each:∀i,i<len→∃p:Ex,W.cell? (ad.add (i*2))=some (.int .i64 p.1)∧W.cell? ((ad.add (i*2)).add 1)=some (.int .i64 p.2)∧wfX p:=by
   intro i hi;obtain ⟨cs',h1,h2⟩:=hx i (by omega);obtain ⟨_,hlen,hcell⟩:=World.cells?_some h1;obtain ⟨y0,y1,k,_,_,g0,g1⟩:=Go.ChangeShapes.trod_struct2 Tryz.underlying237 h2
   match cs',hlen with
   | [c0,c1],_=>
    simp only [Tryz.cellsInE,List.drop_zero,List.drop_succ_cons,List.take_succ_cons,List.take_zero] at g0 g1
    obtain ⟨n0,e0,_,hw0⟩:=DataW.trod_int Tryz.underlying3 g0;obtain ⟨n1,e1,_,hw1⟩:=DataW.trod_int Tryz.underlying3 g1
    simp at e0 e1
    subst e0 e1;obtain ⟨b0,b1⟩:=bounds_i64 hw0;obtain ⟨b2,b3⟩:=bounds_i64 hw1;have k0:=hcell 0 (by omega);have k1:=hcell 1 (by omega);refine ⟨(n0,n1), ?_, ?_,by dsimp only [wfX];omega⟩
    ·rw [show ad.add (i*2)=(ad.add (i*2)).add 0 by simp [Addr.add]];simpa using k0
    ·rw [k1];simp
  obtain ⟨f,hf⟩:=choose_lt each
  have hspot:∃b off,ad=⟨b,off,none⟩:=by
   obtain ⟨b,off,spot⟩:=ad
   have:=World.cell?_spot (hf 0 (by omega)).1
   have hs:spot=none:=by simpa [Addr.add] using this
   subst hs;exact ⟨b,off,rfl⟩
  obtain ⟨b,off,rfl⟩:=hspot;refine ⟨(List.range len).map f,.inr ⟨b,off,cap,by simp,by simpa using hl,hm,fun j hj=>?_⟩,fun x hx=>?_⟩
  ·have hj':j<len:=by simpa using hj
   have:=hf j hj'
   rw [Addr.add_lit,Addr.add_lit] at this
   simpa using ⟨this.1,this.2.1⟩
  ·simp only [List.mem_map,List.mem_range] at hx
   obtain ⟨j,hj,rfl⟩:=hx;exact (hf j hj).2.2
end Go.Proofs.YtmeaiocohalphaaGreatDoor
namespace Go.Proofs.YtmeaiocohalphaaGreatDoor
open Go.RowKit
set_option linter.all false
theorem qaci (A B:Int) (l:List Ex):(qb2 A B l).length≤4096:=by
 by_cases h:qcd A B l=0
 ·exact (qd7 h).2.2
 ·rw [qie h];simp
theorem qxe:∀(l:List Ex) (w:Int) (r:List Ex),cutX l w=some r→r.length≤l.length
 | [],w,r,h=>by cases h
 | x::l,w,r,h=>by
  rw [qq5] at h
  split at h
  ·cases h;simp
  ·rw [Option.map_eq_some_iff] at h
   obtain ⟨r',h1,rfl⟩:=h
   have:=qxe l _ r' h1
   simp;omega
theorem qsv (A B:Int) (l:List Ex) (w:Int):(qcb A B l w).length≤4096:=by
 unfold qcb
 split
 ·simp
 ·split
  ·simp
  ·cases h:cutX (qb2 A B l) w with
   | none=>simp
   | some r=>
    have:=qxe _ _ _ h
    have:=qaci A B l
    simp only [Option.getD_some];omega
end Go.Proofs.YtmeaiocohalphaaGreatDoor
