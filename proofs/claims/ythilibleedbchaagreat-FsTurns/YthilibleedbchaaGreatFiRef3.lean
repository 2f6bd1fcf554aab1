/-
  Of the document's side of layer 5: Bytes, Check.
-/
import Derived.Test.YthilibleedbchaaGreatMathRd
import Derived.Test.YthilibleedbchaaGreatMathFi2
set_option maxHeartbeats 4000000
set_option maxRecDepth 100000
namespace Go.Proofs.YthilibleedbchaaGreat
open Go.RowKit
set_option linter.all false
theorem qaas {l:List Ex} {k j:Nat} (hk:k<l.length) (hj:j<k) (hl:l.length≤4096) (h:qe0 l[k] (l[j]'(by omega))=true):chkX l=8:=by
 by_cases ha:allX l=0
 ·refine ql8 (k:=k+1) hk ha ?_
  rw [qbr l k hk,qhu,Bool.and_eq_false_iff]
  right
  rw [List.all_eq_false];refine ⟨l[j]'(by omega), ?_,by rw [h];simp⟩;rw [List.mem_take_iff_getElem];exact ⟨j,by omega,rfl⟩
 ·rw [qjp ha]
  rcases ql5 l with ⟨_,h1⟩ | ⟨h1,_⟩ | ⟨h1,_⟩
  ·omega
  ·exact h1
  ·exact absurd h1 ha
theorem qad5 {l:List Ex} {k:Nat} (hk:k<l.length) (hl:l.length≤4096) (h:mayX l[k]=false):chkX l=8:=by
 have:=qni hk hl h
 rw [qjp (by rw [this];decide),this]
theorem qaat {l:List Ex} (h:4096<l.length):chkX l=4:=by
 have:allX l=4:=by unfold allX;rw [if_pos h]
 rw [qjp (by rw [this];decide),this]
theorem qva (a:Option Addr) (n c:Nat) (l:List Ex) (w:World) (hrd:RdE w (.slice a n c) l) (hn:n=l.length) (hwf:∀x∈l,wfX x):
  Calls Tryz.prog 160 #[.slice a n c] w fun e w'=>e=.returned (.int .i64 (chkX l))∧Below w.heap.size w w':=by
 have hm:n≤maxLen:=hn ▸ hrd.len_le;unfold maxLen at hm;have HR:=hide hrd;have HN:=hide hn;have HW:=hide hwf;clear hrd hn hwf
 by_cases g1:n > 4096
 ·have HM:=hide (qaat (l:=l) (by have:=HN.out;omega))
  have g1':(4096:Int)<n:=by omega
  go_enter Tryz.func160,Tryz.ntmps160
  go_wp2;go_ret;exact ⟨by rw [HM.out];rfl,Below.refl _ _⟩
 have g1':decide ((4096:Int)<n)=false:=by simpa using (by omega:¬(4096:Int)<n)
 clear hm
 go_enter Tryz.func160,Tryz.ntmps160
 go_wp2
 go_loopw [3] (fun i wr=>∃k:Nat,k≤n∧i=.int .i64 k∧Hid (∀x∈l.take k,mayX x=true)∧Hid (apX (l.take k)=true)∧Below w.heap.size w wr) (fun i _=>n - (intOf i).toNat)
 case atStart=>exact ⟨0,Nat.zero_le _,rfl,hide (by simp),hide (by simp [apX]),Below.refl _ _⟩
 case round=>
  obtain ⟨k,hk,rfl,hall,hap,hbel⟩:=hrel
  by_cases hlt:k<n
  ·have hlt':(k:Int)<n:=by omega
   have hkl:k<l.length:=by have:=HN.out;omega
   have hw1:wrap64 ((k:Int)+1)=(k:Int)+1:=qhg (by omega);obtain ⟨b,off,e,q0,q1⟩:=(HR.out.carry hbel).at k hkl;subst e
   go_wp2_with fail
   refine (qs2 (l[k]) (HW.out _ (List.getElem_mem hkl)) _).mono ?_
   rintro e wc ⟨rfl,hbc⟩;have hbc':Below w.heap.size w wc:=hbel.trans (hbc.mono hbel.size);clear hbc
   cases hp:mayX l[k] with
   | false=>
    have HM:=hide (qad5 hkl (by have:=HN.out;omega) hp);clear hp;go_wp2;go_ret;exact ⟨by rw [HM.out];rfl,hbc'⟩
   | true=>
    have HP:=hide hp
    have HA:=hide (show ∀x∈l.take (k+1),mayX x=true by
     intro x hx;rw [qbr l k hkl] at hx
     rcases List.mem_append.1 hx with hx | hx
     ·exact hall.out x hx
     ·rw [List.mem_singleton.1 hx];exact hp)
    clear hp q0 q1 hbel;go_wp2
    go_loopw [4] (fun i wr=>∃j:Nat,j≤k∧i=.int .i64 j∧Hid (∀y∈l.take j,qe0 l[k] y=false)∧Below w.heap.size w wr) (fun i _=>k - (intOf i).toNat)
    case atStart=>exact ⟨0,Nat.zero_le _,rfl,hide (by simp),hbc'⟩
    case round=>
     obtain ⟨j,hj,rfl,hno,hbel⟩:=hrel
     by_cases hjk:j<k
     ·have hjk':(j:Int)<k:=by omega
      have hjl:j<l.length:=by omega
      have hjn:j<n:=by omega
      have hw2:wrap64 ((j:Int)+1)=(j:Int)+1:=qhg (by omega);obtain ⟨b,off,e,q0,q1⟩:=(HR.out.carry hbel).at k hkl;cases e;obtain ⟨b,off,e,q2,q3⟩:=(HR.out.carry hbel).at j hjl;cases e;have HPj:=hide (HA.out (l[j]) (by rw [List.mem_take_iff_getElem];exact ⟨j,by omega,rfl⟩))
      obtain ⟨S,eS⟩:∃S:World→Prop,S=fun wx=>(wx.cell? ⟨b,off+k*2,none⟩=some (.int .i64 (l[k]).1)∧wx.cell? ⟨b,off+k*2+1,none⟩=some (.int .i64 (l[k]).2))∧(wx.cell? ⟨b,off+j*2,none⟩=some (.int .i64 (l[j]).1)∧wx.cell? ⟨b,off+j*2+1,none⟩=some (.int .i64 (l[j]).2))∧Below wr.heap.size wr wx:=⟨_,rfl⟩
      have hK:Keeps S:=by rw [eS];exact ((qaa _ _).and (qaa _ _)).and (((qaa _ _).and (qaa _ _)).and (qal wr))
      have hS0:S wr:=by rw [eS];exact ⟨⟨q0,q1⟩,⟨q2,q3⟩,Below.refl _ _⟩
      go_wp2;rw [eS] at hK hS0
      refine qaj hK (by kernel_rfl) hS0 ?_
      intro hS
      refine qah [0,1,2,3,4,5,6,7] (fuel:=1) (a':=?qa1) (by kernel_rfl) (by kernel_rfl) (by kernel_rfl) ?qp1 hS ?qn1
      case qp1=>
       iterate 8 (apply Yl.cons rfl rfl;focus (rintro wx ⟨⟨x1,x2⟩,⟨x3,x4⟩,x5⟩;go_simp;all_goals (with_reducible rfl));try simp only [Act.put,sA,sB,sC])
       exact Yl.nil
      refine qar hK (i:=8) (v:=.bool (qe0 l[k] l[j])) rfl (by kernel_rfl) (by rfl) (by go_simp) hS (qwj (l[k]) (l[j]) HP.out HPj.out _) ?_
      clear hS;intro w33 hS
      try simp only [Act.put,sA,sB,sC]
      refine wpAnyH_done (by kernel_rfl) ?_ _
      refine NoPanic.normal ?_
      cases hmt:qe0 l[k] l[j] with
      | true=>
       have HM:=hide (qaas hkl hjk (by have:=HN.out;omega) hmt);have hbz:=hbel.trans (hS.2.2.mono hbel.size);clear hmt;go_wp2;go_ret;exact ⟨by rw [HM.out];rfl,hbz⟩
      | false=>
       have HNO:=hide (show ∀y∈l.take (j+1),qe0 l[k] y=false by
        intro y hy;rw [qbr l j hjl] at hy
        rcases List.mem_append.1 hy with hy | hy
        ·exact hno.out y hy
        ·rw [List.mem_singleton.1 hy];exact hmt)
       have hbz:=hbel.trans (hS.2.2.mono hbel.size);clear hmt;go_wp2;go_roundw
       case rel=>exact ⟨j+1,by omega,rfl,HNO,hbz⟩
       case measure=>simp only [intOf];omega
     ·have hd:decide ((j:Int)<k)=false:=by simpa using (by omega:¬(j:Int)<k)
      have HAP:=hide (show apX (l.take (k+1))=true by
       rw [qbr l k hkl,qhu,hap.out,Bool.true_and,List.all_eq_true];intro y hy;rw [show k=j by omega] at hy
       rw [hno.out y hy];rfl)
      go_wp2;go_roundw
      case rel=>exact ⟨k+1,by omega,rfl,HA,HAP,hbel⟩
      case measure=>simp only [intOf];omega
  ·have hd:decide ((k:Int)<n)=false:=by simpa using (by omega:¬(k:Int)<n)
   have e:k=l.length:=by have:=HN.out;omega
   have HM:=hide (show chkX l=0 from qkf (qke (by omega) (by rw [←e];exact hall.out)) (by have:=hap.out;rwa [e,List.take_length] at this));clear e;go_wp2;go_ret;exact ⟨by rw [HM.out];rfl,hbel⟩
theorem qpn (s:List UInt8) (w:World):Calls Tryz.prog 107 #[.string (bs s)] w fun e w'=>e=.returned (.bool (qbv s))∧Below w.heap.size w w':=by
 have hbs:=qis s
 have HE:=hide (show qbv s=(decide ((1:Int)≤s.length) && decide ((s.length:Int)≤16)) by
  unfold qbv
  congr 1<;>exact decide_eq_decide.2 (by omega))
 generalize s.length=n at *
 by_cases h1:1≤n
 ·have h1':(1:Int)≤n:=by omega
  by_cases h2:n≤16
  ·have h2':(n:Int)≤16:=by omega
   go_enter Tryz.func107,Tryz.ntmps107
   go_wp2;go_ret;exact ⟨by rw [HE.out];simp [h1',h2'],Below.refl _ _⟩
  ·have h2':decide ((n:Int)≤16)=false:=by simpa using (by omega:¬(n:Int)≤16)
   go_enter Tryz.func107,Tryz.ntmps107
   go_wp2;go_ret;exact ⟨by rw [HE.out,h2'];simp,Below.refl _ _⟩
 ·have h1':decide ((1:Int)≤n)=false:=by simpa using (by omega:¬(1:Int)≤n)
  go_enter Tryz.func107,Tryz.ntmps107
  go_wp2;go_ret;exact ⟨by rw [HE.out,h1'];simp,Below.refl _ _⟩
theorem qjb (B:Int) (w:World):Calls Tryz.prog 128 #[.int .i64 B] w fun e w'=>e=.returned (.bool (decide (blkP B)))∧Below w.heap.size w w':=by
 have HE:=hide (show decide (blkP B)=(decide (34<B) && decide (B≤4096)) by unfold blkP;exact Bool.decide_and ..)
 by_cases h1:34<B
 ·by_cases h2:B≤4096
  ·go_enter Tryz.func128,Tryz.ntmps128
   go_wp2;go_ret;exact ⟨by rw [HE.out];simp [h1,h2],Below.refl _ _⟩
  ·have h2':decide (B≤4096)=false:=by simpa using h2
   go_enter Tryz.func128,Tryz.ntmps128
   go_wp2;go_ret;exact ⟨by rw [HE.out,h2'];simp,Below.refl _ _⟩
 ·have h1':decide (34<B)=false:=by simpa using h1
  go_enter Tryz.func128,Tryz.ntmps128
  go_wp2;go_ret;exact ⟨by rw [HE.out,h1'];simp,Below.refl _ _⟩
theorem qh3 (a:Option Addr) (n c:Nat) (fs:List Fl) (s:List UInt8) (w:World) (hrd:RdF w (.slice a n c) fs) (hn:n=fs.length) (hnl:n≤1000):
  Calls Tryz.prog 93 #[.agg #[.slice a n c],.string (bs s)] w fun e w'=>((e=.returned (.int .i64 (-1))∧isF fs s=false)∨∃t,∃h:t<fs.length,e=.returned (.int .i64 t)∧(fs[t]).1=s∧isF fs s=true)∧Below w.heap.size w w':=by
 have HR:=hide hrd;have HN:=hide hn;obtain ⟨W0,hW0⟩:∃W0,W0=w.alloc (.cells #[.slice a n c] 30):=⟨_,rfl⟩
 have hb0:Below w.heap.size w W0:=by rw [hW0];exact (Below.refl _ _).alloc (Nat.le_refl _) _
 have HD0:=hide (show DirAt W0 w.heap.size (.slice a n c) by rw [hW0];exact DirAt.new w _);have HB0:=hide hb0;clear hrd hn hb0
 go_enter Tryz.func93,Tryz.ntmps93
 go_wp2;rw [←hW0];clear hW0
 go_loopw [5] (fun i wr=>∃k:Nat,k≤n∧i=.int .i64 k∧Hid (∀f∈fs.take k,f.1≠s)∧Below W0.heap.size W0 wr) (fun i _=>n - (intOf i).toNat)
 case atStart=>exact ⟨0,Nat.zero_le _,rfl,hide (by simp),Below.refl _ _⟩
 case round=>
  obtain ⟨k,hk,rfl,hno,hbel⟩:=hrel;have hda:=(HD0.out.carry hbel).cell;have hbw:Below w.heap.size w wr:=HB0.out.trans (hbel.mono HB0.out.size)
  by_cases hlt:k<n
  ·have hlt':(k:Int)<n:=by omega
   have hkl:k<fs.length:=by have:=HN.out;omega
   have HT:=hide (qa0 fs k hkl);have hw1:wrap64 ((k:Int)+1)=(k:Int)+1:=qhg (by omega);obtain ⟨b,off,a2,c2,rfl,q0,q1,q2⟩:=HR.out.atB hbw k hkl;clear q1 q2;obtain ⟨f,hf⟩:∃f,f=fs[k]:=⟨_,rfl⟩;rw [←hf] at q0 HT;have HF:=hide hf;clear hf;obtain ⟨x,l⟩:=f
   simp only at q0
   by_cases g1:x=s
   ·have g1':((bs x).toList==(bs s).toList)=true:=by rw [qe2,g1];simp
    have HG:=hide g1;clear g1;go_wp2;go_ret;refine ⟨.inr ⟨k,hkl,rfl,by rw [←HF.out];exact HG.out, ?_⟩,hbw⟩;exact (qi1 fs s).2 ⟨l,by rw [←HG.out,HF.out];exact List.getElem_mem hkl⟩
   have g1':((bs x).toList==(bs s).toList)=false:=by rw [qe2];simpa using g1
   have HE:=hide (show ∀f∈fs.take (k+1),f.1≠s by
    rw [HT.out];intro f hf
    rcases List.mem_append.1 hf with hf | hf
    ·exact hno.out f hf
    ·obtain rfl:f=(x,l):=by simpa using hf
     exact g1)
   clear g1;go_wp2;go_roundw
   case rel=>exact ⟨k+1,by omega,rfl,HE,hbel⟩
   case measure=>simp only [intOf];omega
  ·have hd:decide ((k:Int)<n)=false:=by simpa using (by omega:¬(k:Int)<n)
   have e:k=fs.length:=by have:=HN.out;omega
   rw [e,List.take_length] at hno;clear e;go_wp2;go_ret;refine ⟨.inl ⟨rfl, ?_⟩,hbw⟩
   cases hq:isF fs s with
   | false=>rfl
   | true=>
    obtain ⟨l,hl⟩:=(qi1 fs s).1 hq;exact absurd rfl (hno.out _ hl)
theorem qks (a:Option Addr) (n c:Nat) (fs:List Fl) (w:World) (hrd:RdF w (.slice a n c) fs) (hn:n=fs.length) (hnl:n≤1000) (hu:(qas fs).length≤1000000):
  Calls Tryz.prog 96 #[.agg #[.slice a n c]] w fun e w'=>∃v,e=.returned v∧OwE w' w.heap.size v (qas fs)∧Below w.heap.size w w':=by
 have HR:=hide hrd;have HN:=hide hn;have HU:=hide hu;obtain ⟨W0,hW0⟩:∃W0,W0=w.alloc (.cells #[.slice a n c] 30):=⟨_,rfl⟩
 have hb0:Below w.heap.size w W0:=by rw [hW0];exact (Below.refl _ _).alloc (Nat.le_refl _) _
 have HD0:=hide (show DirAt W0 w.heap.size (.slice a n c) by rw [hW0];exact DirAt.new w _);have HB0:=hide hb0;clear hrd hn hb0 hu
 go_enter Tryz.func96,Tryz.ntmps96
 go_wp2;rw [←hW0];clear hW0
 go_loopw [3,4] (fun v i wr=>∃k:Nat,k≤n∧i=.int .i64 k∧Hid (OwE wr W0.heap.size v (qas (fs.take k)))∧Below W0.heap.size W0 wr) (fun _ i _=>n - (intOf i).toNat)
 case atStart=>exact ⟨0,Nat.zero_le _,rfl,hide (by simpa [qas] using OwE.nil _ _),Below.refl _ _⟩
 case round=>
  obtain ⟨k,hk,rfl,hown,hbel⟩:=hrel;have hda:=(HD0.out.carry hbel).cell;have hbw:Below w.heap.size w wr:=HB0.out.trans (hbel.mono HB0.out.size)
  by_cases hlt:k<n
  ·have hlt':(k:Int)<n:=by omega
   have hkl:k<fs.length:=by have:=HN.out;omega
   have HT:=hide (qix fs k hkl)
   have HUL:=hide (show (qas (fs.take k)).length+(fs[k]).2.length≤1000000 by
    have h1:=HU.out;have h2:=(qnz (List.take_sublist (k+1) fs)).length_le;rw [qix fs k hkl,List.length_append] at h2
    omega)
   have hw1:wrap64 ((k:Int)+1)=(k:Int)+1:=qhg (by omega);obtain ⟨b,off,a2,c2,rfl,q0,q1,q2⟩:=HR.out.atB hbw k hkl;clear q0;obtain ⟨f,hf⟩:∃f,f=fs[k]:=⟨_,rfl⟩;rw [←hf] at q1 q2 HT HUL;clear hf;obtain ⟨x,l⟩:=f
   simp only at q1 q2 HT HUL
   obtain ⟨p,hp⟩:∃p,p=l.length:=⟨_,rfl⟩;rw [←hp] at q1 q2;obtain ⟨g,cc,w9,hrun,ho9,hb9⟩:=qga hown.out hbel.size (q2.carry hbw) hp (by have:=HUL.out;omega);have HO9:=hide ho9;have HB9:=hide (hbel.trans hb9);obtain ⟨av,cv,rfl⟩:=hown.out.form;clear ho9 hb9 hown HUL hp q2;rw [←HT.out] at hrun HO9;clear HT;generalize (qas (fs.take k)).length=fl at *;generalize (qas (fs.take (k+1))).length=gl at *
   go_wp2_with (at_builtin;refine qaf rfl (.tmp 12) (.tmp 18) 73 rfl rfl rfl rfl hrun ?_)
   go_roundw
   case rel=>exact ⟨k+1,by omega,rfl,HO9,HB9.out⟩
   case measure=>simp only [intOf];omega
  ·have hd:decide ((k:Int)<n)=false:=by simpa using (by omega:¬(k:Int)<n)
   have e:k=fs.length:=by have:=HN.out;omega
   rw [e,List.take_length] at hown;clear e;go_wp2;go_ret;exact ⟨_,rfl,hown.out.mono HB0.out.size,hbw⟩
theorem qkt (a:Option Addr) (n c:Nat) (l:List Ex) (B:Int) (w:World) (hrd:RdE w (.slice a n c) l) (hn:n=l.length) (hwf:∀x∈l,wfX x):
  Calls Tryz.prog 97 #[.slice a n c,.int .i64 B] w fun e w'=>e=.returned (.bool (decide (extP l B)))∧Below w.heap.size w w':=by
 have hck:=qva a n c l w hrd hn hwf
 by_cases g1:chkX l=0
 case neg=>
  have HE:=hide (show decide (extP l B)=false by simpa using fun h:extP l B=>absurd h.1 g1);obtain ⟨z,hz⟩:∃z,z=chkX l:=⟨_,rfl⟩;rw [←hz] at hck g1
  have g1':(z==0)=false:=by simpa using g1
  clear hz hrd hn hwf
  go_enter Tryz.func97,Tryz.ntmps97
  go_wp2_with fail
  refine hck.mono ?_
  rintro e w1 ⟨rfl,hb1⟩;go_wp2;go_ret;exact ⟨by rw [HE.out];rfl,hb1⟩
 have HA:=hide (qwg g1).1;have HC:=hide g1;rw [g1] at hck;have hnl:n≤4096:=hn ▸ (qe6 HA.out).1;have HR:=hide hrd;have HN:=hide hn;clear hrd hn hwf g1
 go_enter Tryz.func97,Tryz.ntmps97
 go_wp2_with fail
 refine hck.mono ?_
 rintro e w1 ⟨rfl,hb1⟩;clear hck;go_wp2
 go_loopw [5] (fun i wr=>∃k:Nat,k≤n∧i=.int .i64 k∧Hid (∀x∈l.take k,34≤x.1∧x.1+x.2≤B)∧Below w.heap.size w wr) (fun i _=>n - (intOf i).toNat)
 case atStart=>exact ⟨0,Nat.zero_le _,rfl,hide (by simp),hb1⟩
 case round=>
  obtain ⟨k,hk,rfl,hyes,hbel⟩:=hrel;clear hb1
  by_cases hlt:k<n
  ·have hlt':(k:Int)<n:=by omega
   have hkl:k<l.length:=by have:=HN.out;omega
   have HT:=hide (qa0 l k hkl);have hw1:wrap64 ((k:Int)+1)=(k:Int)+1:=qhg (by omega);obtain ⟨b,off,rfl,q0,q1⟩:=(HR.out.carry hbel).at k hkl;obtain ⟨z1,z2,z3⟩:=(qe6 HA.out).2 _ (List.getElem_mem hkl);have HIN:=hide (List.getElem_mem hkl);obtain ⟨x,hx⟩:∃x,x=l[k]:=⟨_,rfl⟩;rw [←hx] at q0 q1 HT z1 z2 z3 HIN;clear hx;obtain ⟨x,y⟩:=x
   simp only at q0 q1 z1 z2 z3
   have hwi:IntKind.i64.wrap (x+y)=x+y:=by rw [IntKind.wrap_i64];omega
   by_cases g1:x<34
   ·have HE:=hide (show decide (extP l B)=false by
     simp only [decide_eq_false_iff_not]
     intro h
     have:=(h.2 _ HIN.out).1
     simp only at this;omega)
    go_wp2
    go_quiet (fail)
    go_wp2;go_ret;exact ⟨by rw [HE.out];rfl,below_drewN hbel _⟩
   have g1':decide (x<34)=false:=by simpa using g1
   by_cases g2:B<x+y
   ·have HE:=hide (show decide (extP l B)=false by
     simp only [decide_eq_false_iff_not]
     intro h
     have:=(h.2 _ HIN.out).2
     simp only at this;omega)
    go_wp2
    go_quiet (fail)
    go_wp2;go_ret;exact ⟨by rw [HE.out];rfl,below_drewN hbel _⟩
   have g2':decide (B<x+y)=false:=by simpa using g2
   have HE:=hide (show ∀x∈l.take (k+1),34≤x.1∧x.1+x.2≤B by
    rw [HT.out];intro f hf
    rcases List.mem_append.1 hf with hf | hf
    ·exact hyes.out f hf
    ·obtain rfl:f=(x,y):=by simpa using hf
     simp only
     omega)
   go_wp2
   go_quiet (fail)
   go_wp2;go_roundw
   case rel=>exact ⟨k+1,by omega,rfl,HE,below_drewN hbel _⟩
   case measure=>simp only [intOf];omega
  ·have hd:decide ((k:Int)<n)=false:=by simpa using (by omega:¬(k:Int)<n)
   have e:k=l.length:=by have:=HN.out;omega
   rw [e,List.take_length] at hyes;clear e;have HE:=hide (show decide (extP l B)=true from decide_eq_true (⟨HC.out,hyes.out⟩:extP l B));go_wp2;go_ret;exact ⟨by rw [HE.out];rfl,hbel⟩
def FileAt (w:World) (q:Nat) (s:ByteArray) (y:Value):Prop:=w.heap[q]? =some (.cells #[.string s,y] 75 (0,0))
theorem FileAt.carry {w w':World} {q:Nat} {s:ByteArray} {y:Value} (h:FileAt w q s y) (hb:Below w.heap.size w w'):FileAt w' q s y:=(hb.block q (Array.getElem?_eq_some_iff.1 h).1).trans h
theorem FileAt.cell1 {w:World} {q:Nat} {s:ByteArray} {y:Value} (h:FileAt w q s y):w.cell? ⟨q,1,none⟩=some y:=by rw [cell_of_row w q 1 _ _ (0,0) h];rfl
theorem FileAt.cell0 {w:World} {q:Nat} {s:ByteArray} {y:Value} (h:FileAt w q s y):w.cell? ⟨q,0,none⟩=some (.string s):=by rw [cell_of_row w q 0 _ _ (0,0) h];rfl
theorem FileAt.new (w:World) (s:ByteArray) (y:Value):FileAt (w.alloc (.cells #[.string s,y] 75)) w.heap.size s y:=heap_alloc_new w _
theorem qh4 (n:Nat) (w:World) (hn:n<18446744073709551616):Calls Tryz.prog 117 #[.int .u64 n] w fun e w'=>∃v,e=.returned v∧OwBy w' w.heap.size v (sm n)∧Below w.heap.size w w':=qmd n w hn
theorem qaau (s:List UInt8) (w:World) (hs:s.length≤1000000):Calls Tryz.prog 118 #[.string (bs s)] w fun e w'=>∃v,e=.returned v∧OwBy w' w.heap.size v (tx s)∧Below w.heap.size w w':=by
 have:=qwp (bs s) w (by rw [qis];omega)
 rwa [qht] at this
theorem qmn (s:List UInt8) (w:World):Calls Tryz.prog 107 #[.string (bs s)] w fun e w'=>e=.returned (.bool (qbv s))∧w'=w:=by
 have hbs:=qis s
 have HE:=hide (show qbv s=(decide ((1:Int)≤s.length) && decide ((s.length:Int)≤16)) by
  unfold qbv
  congr 1<;>exact decide_eq_decide.2 (by omega))
 generalize s.length=n at *
 by_cases h1:1≤n
 ·have h1':(1:Int)≤n:=by omega
  by_cases h2:n≤16
  ·have h2':(n:Int)≤16:=by omega
   go_enter Tryz.func107,Tryz.ntmps107
   go_wp2;go_ret;exact ⟨by rw [HE.out];simp [h1',h2'],rfl⟩
  ·have h2':decide ((n:Int)≤16)=false:=by simpa using (by omega:¬(n:Int)≤16)
   go_enter Tryz.func107,Tryz.ntmps107
   go_wp2;go_ret;exact ⟨by rw [HE.out,h2'];simp,rfl⟩
 ·have h1':decide ((1:Int)≤n)=false:=by simpa using (by omega:¬(1:Int)≤n)
  go_enter Tryz.func107,Tryz.ntmps107
  go_wp2;go_ret;exact ⟨by rw [HE.out,h1'];simp,rfl⟩
theorem qel (a:Option Addr) (n c:Nat) (fs:List Fl) (w:World) (hrd:RdF w (.slice a n c) fs) (hn:n=fs.length) (hok:okB fs):
  Calls Tryz.prog 58 #[.agg #[.slice a n c]] w fun e w'=>∃v,e=.returned v∧OwBy w' w.heap.size v (bytF fs)∧Below w.heap.size w w':=by
 have hm:n≤1000:=hn ▸ hok.1;obtain ⟨W0,hW0⟩:∃W0,W0=w.alloc (.cells #[.slice a n c] 30):=⟨_,rfl⟩
 have hb0:Below w.heap.size w W0:=by rw [hW0];exact (Below.refl _ _).alloc (Nat.le_refl _) _
 have HD0:=hide (show DirAt W0 w.heap.size (.slice a n c) by rw [hW0];exact DirAt.new w _);have hd0:=HD0.out.cell;rw [hW0] at hd0;have HB0:=hide hb0;have HR:=hide (hrd.carry hb0);have HN:=hide hn;have HK:=hide hok;clear hrd hn hok hb0
 go_enter Tryz.func58,Tryz.ntmps58
 go_wp2_with fail
 rw [←hW0];clear hW0 hd0
 refine (qh4 n W0 (by omega)).mono ?_
 rintro e w1 ⟨v1,rfl,ho1,hb1⟩;have hd1:=(HD0.out.carry hb1).cell;go_wp2;clear hd1
 go_loopw [4,3] (fun i v wr=>∃k:Nat,k≤n∧i=.int .i64 k∧Hid (OwBy wr W0.heap.size v (sm n++(fs.take k).flatMap qcm))∧Below W0.heap.size W0 wr) (fun i _ _=>n - (intOf i).toNat)
 case atStart=>exact ⟨0,Nat.zero_le _,rfl,hide (by simpa using ho1),hb1⟩
 case round=>
  obtain ⟨k,hk,rfl,hown,hbel⟩:=hrel;have hda:=(HD0.out.carry hbel).cell;clear ho1 hb1
  by_cases hlt:k<n
  ·have hlt':(k:Int)<n:=by omega
   have hkl:k<fs.length:=by have:=HN.out;omega
   have HU:=hide (qpc fs k hkl);have HLL:=hide (qtc HK.out k);have hw1:wrap64 ((k:Int)+1)=(k:Int)+1:=qhg (by omega);obtain ⟨b,off,a2,c2,rfl,q0,q1,q2⟩:=HR.out.atB hbel k hkl;have HQ:=hide q2;clear q2;have HFK:=hide (HK.out.2 _ (List.getElem_mem hkl));obtain ⟨f,hf⟩:∃f,f=fs[k]:=⟨_,rfl⟩;rw [←hf] at q0 q1 HQ HU HFK;clear hf;obtain ⟨L,hL⟩:∃L,L=(fs.take k).flatMap qcm:=⟨_,rfl⟩;rw [←hL] at hown HU HLL;clear hL;obtain ⟨m,hm2⟩:∃m,m=f.2.length:=⟨_,rfl⟩;rw [←hm2] at q1 HQ
   have hmm:m≤1000:=by rw [hm2];exact HFK.out.2.1
   have HM2:=hide hm2;clear hm2;have HSM:=hide (qbc (n:=n) (by omega));have HSM2:=hide (qbc (n:=m) (by omega))
   have HTX:=hide (show (tx f.1).length≤1010 by
    have h1:=HFK.out.1
    have:=qbc (n:=f.1.length) (by omega)
    simp only [tx,List.length_append];omega)
   -- the file's copy,its name
   obtain ⟨w2,hw2⟩:∃w2,w2=wr.alloc (.cells #[.string (bs f.1),.slice a2 m c2] 75):=⟨_,rfl⟩;obtain ⟨F,hF⟩:∃F,F=wr.heap.size:=⟨_,rfl⟩
   have hblk:FileAt w2 F (bs f.1) (.slice a2 m c2):=by rw [hw2,hF];exact FileAt.new wr _ _
   have hb2:Below wr.heap.size wr w2:=by rw [hw2];exact (Below.refl _ _).alloc (Nat.le_refl _) _
   have hbel2:Below W0.heap.size W0 w2:=hbel.trans (hb2.mono hbel.size);have HO2:=hide (hown.out.carry hb2);have s0:=hblk.cell0;rw [hw2] at s0
   go_wp2_with fail
   rw [←hw2];rw [←hF];clear hown s0
   refine (qaau f.1 _ (by have:=HFK.out.1;omega)).mono ?_
   rintro e w3 ⟨v3,rfl,ho3,hb3⟩;have hbel3:Below W0.heap.size W0 w3:=hbel2.trans (hb3.mono hbel2.size)
   obtain ⟨v4,w4,hrun4,ho4,hb4,hk4⟩:=qi8 (HO2.out.carry hb3) hbel3.size (qfy ho3) (by
    have h1:=HSM.out;have h2:=HLL.out;have h3:=HTX.out
    rw [List.length_append];omega)
   have hbel4:Below W0.heap.size W0 w4:=hbel3.trans hb4;have hblk4:FileAt w4 F (bs f.1) (.slice a2 m c2):=hk4 _ _ _ _ (by decide) (KeepB.of_below hb3 _ _ _ _ (by decide) hblk);have r4:=hblk4.cell1;have HO4:=hide ho4;have HB4:=hide hbel4;have HK4:=hide hblk4;clear ho4 hbel4 hb4 hk4 ho3 hb3 hbel3 hblk hb2 hw2 hbel2 HO2 hblk4 hbel q0 q1 hda hF
   go_wp2_with (first | (at_builtin;refine qaf rfl (.tmp 24) (.tmp 27) 22 rfl rfl rfl rfl hrun4 ?_) | fail)
   refine (qh4 m _ (by omega)).mono ?_
   rintro e w5 ⟨v5,rfl,ho5,hb5⟩;have hbel5:Below W0.heap.size W0 w5:=HB4.out.trans (hb5.mono HB4.out.size)
   obtain ⟨v6,w6,hrun6,ho6,hb6,hk6⟩:=qi8 (HO4.out.carry hb5) hbel5.size (qfy ho5) (by
    have h1:=HSM.out;have h2:=HLL.out;have h3:=HTX.out;have h4:=HSM2.out
    simp only [List.length_append];omega)
   have hbel6:Below W0.heap.size W0 w6:=hbel5.trans hb6;have hblk6:FileAt w6 F (bs f.1) (.slice a2 m c2):=hk6 _ _ _ _ (by decide) (KeepB.of_below hb5 _ _ _ _ (by decide) HK4.out);have r6:=hblk6.cell1;have HO6:=hide ho6;have HB6:=hide hbel6;have HK6:=hide hblk6;clear ho6 hbel6 hb6 hk6 ho5 hb5 hbel5 hblk6 HO4 HB4 HK4 r4 hrun4
   go_wp2_with (at_builtin;refine qaf rfl (.tmp 29) (.tmp 34) 22 rfl rfl rfl rfl hrun6 ?_)
   go_loopw [6,3] (fun i v wx=>∃j:Nat,j≤m∧i=.int .i64 j∧Hid (OwBy wx W0.heap.size v (sm n++L++tx f.1++sm m++bytE (f.2.take j)))∧Hid (FileAt wx F (bs f.1) (.slice a2 m c2))∧Below W0.heap.size W0 wx) (fun i _ _=>m - (intOf i).toNat)
   case atStart=>exact ⟨0,Nat.zero_le _,rfl,hide (by simpa [bytE] using HO6.out),HK6,HB6.out⟩
   case round=>
    obtain ⟨j,hj,rfl,hown,hfat,hbel⟩:=hrel;have HLT:=hide hlt;clear HO6 HB6 r6 hrun6 hlt' hlt HK6;have s1:=hfat.out.cell1
    by_cases hjm:j<m
    ·have hjm':(j:Int)<m:=by omega
     have hwj:wrap64 ((j:Int)+1)=(j:Int)+1:=qhg (by omega)
     have hjl:j<f.2.length:=by have:=HM2.out;omega
     have HE:=hide (qpd f.2 j hjl);obtain ⟨bx,ox,rfl,p0,p1⟩:=(HQ.out.carry hbel).at j hjl;have HX:=hide (HFK.out.2.2 _ (List.getElem_mem hjl))
     have HBE:=hide (show (bytE (f.2.take j)).length≤20000 by
      have:=qjt (f.2.take j) (fun x hx=>HFK.out.2.2 x (List.mem_of_mem_take hx))
      have h2:=HFK.out.2.1
      rw [List.length_take] at this;omega)
     have HP:=hide (fun (wz:World) (hz:Below W0.heap.size W0 wz)=>(HQ.out.carry hz).at j hjl);obtain ⟨x,hx⟩:∃x,x=f.2[j]:=⟨_,rfl⟩;rw [←hx] at p0 p1 HE HX HP;clear hx;obtain ⟨x,y⟩:=x;obtain ⟨x,rfl⟩:∃p:Nat,x=p:=⟨x.toNat,by have:=HX.out.1;simp only at this;omega⟩;obtain ⟨y,rfl⟩:∃p:Nat,y=p:=⟨y.toNat,by have:=HX.out.2.2.1;simp only at this;omega⟩
     have hx1:x≤4096:=by have:=HX.out.2.1;simp only at this;omega
     have hy1:y≤4096:=by have:=HX.out.2.2.2;simp only at this;omega
     simp only at p0 p1
     have HE2:=hide (show bytE (f.2.take (j+1))=bytE (f.2.take j)++(sm x++sm y) by have:=HE.out;simpa [bytX] using this);clear HE HX;obtain ⟨M,hM⟩:∃M,M=sm n++L++tx f.1++sm m++bytE (f.2.take j):=⟨_,rfl⟩
     have HML:=hide (show M.length≤100000000 by
      have h1:=HSM.out;have h2:=HLL.out;have h3:=HTX.out;have h4:=HSM2.out;have h5:=HBE.out;rw [hM]
      simp only [List.length_append];omega)
     rw [←hM] at hown;have HM:=hide hM;clear hM;have HSX:=hide (qbc (n:=x) (by omega));have HSY:=hide (qbc (n:=y) (by omega))
     go_wp2_with fail
     refine (qh4 x _ (by omega)).mono ?_
     rintro e w3 ⟨v3,rfl,ho3,hb3⟩;have hbel3:Below W0.heap.size W0 w3:=hbel.trans (hb3.mono hbel.size)
     obtain ⟨v4,w4,hrun4,ho4,hb4,hk4⟩:=qi8 (hown.out.carry hb3) hbel3.size (qfy ho3) (by
      have h1:=HML.out;have h2:=HSX.out
      omega)
     have hbel4:Below W0.heap.size W0 w4:=hbel3.trans hb4;have hblk4:FileAt w4 F (bs f.1) (.slice (some ⟨bx,ox,none⟩) m c2):=hk4 _ _ _ _ (by decide) (KeepB.of_below hb3 _ _ _ _ (by decide) hfat.out);have r4:=hblk4.cell1;obtain ⟨bx',ox',e4,p2,p3⟩:=HP.out w4 hbel4;cases e4;have HO4:=hide ho4;have HB4:=hide hbel4;have HK4:=hide hblk4;clear ho4 hbel4 hb4 hk4 ho3 hb3 hbel3 hblk4 hbel p0 p1 hown hfat s1 p2
     go_wp2_with (first | (at_builtin;refine qaf rfl (.tmp 43) (.tmp 51) 22 rfl rfl rfl rfl hrun4 ?_) | fail)
     refine (qh4 y _ (by omega)).mono ?_
     rintro e w5 ⟨v5,rfl,ho5,hb5⟩;have hbel5:Below W0.heap.size W0 w5:=HB4.out.trans (hb5.mono HB4.out.size)
     obtain ⟨v6,w6,hrun6,ho6,hb6,hk6⟩:=qi8 (HO4.out.carry hb5) hbel5.size (qfy ho5) (by
      have h1:=HML.out;have h2:=HSX.out;have h3:=HSY.out
      simp only [List.length_append];omega)
     have HO6:=hide ho6;have HB6:=hide (hbel5.trans hb6);have HK6:=hide (show FileAt w6 F (bs f.1) (.slice (some ⟨bx,ox,none⟩) m c2) from hk6 _ _ _ _ (by decide) (KeepB.of_below hb5 _ _ _ _ (by decide) HK4.out));clear ho6 hb6 hk6 ho5 hb5 hbel5 HO4 HB4 r4 hrun4 HK4 p3 HP
     go_wp2_with (at_builtin;refine qaf rfl (.tmp 53) (.tmp 61) 22 rfl rfl rfl rfl hrun6 ?_)
     go_roundw
     case rel=>exact ⟨j+1,by omega,rfl,hide (by
      rw [HE2.out]
      have:=HO6.out
      rw [HM.out] at this
      simpa using this),HK6,HB6.out⟩
     case measure=>simp only [intOf];omega
    ·have hd2:decide ((j:Int)<m)=false:=by simpa using (by omega:¬(j:Int)<m)
     have e:j=f.2.length:=by have:=HM2.out;omega
     rw [e,List.take_length] at hown;have HO:=hide (hown.out);clear e hown;go_wp2;go_roundw
     case rel=>exact ⟨k+1,HLT.out,rfl,hide (by
      rw [HU.out]
      have:=HO.out
      rw [HM2.out] at this
      simpa [qcm] using this),hbel⟩
     case measure=>have:=HLT.out;simp only [intOf];omega
  ·have hd:decide ((k:Int)<n)=false:=by simpa using (by omega:¬(k:Int)<n)
   have e:k=fs.length:=by have:=HN.out;omega
   rw [e,List.take_length] at hown;clear e;go_wp2;go_ret;refine ⟨_,rfl, ?_,HB0.out.trans (hbel.mono HB0.out.size)⟩
   have:=qhw hown.out HB0.out.size
   unfold bytF;rw [←HN.out];exact this
end Go.Proofs.YthilibleedbchaaGreat
