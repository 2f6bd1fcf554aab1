/-
  Of the document's side of layer 5: TwinFile, Twin, without, with.
-/
import Derived.Test.YtmeaiocohalphaaGreatDoorFiRef1
import Derived.Test.YtmeaiocohalphaaGreatDoorMathFi3
import Derived.Test.YtmeaiocohalphaaGreatDoorRmRef
import Derived.Test.YtmeaiocohalphaaGreatDoorFiCut5
import Derived.Test.YtmeaiocohalphaaGreatDoorDMay
set_option maxHeartbeats 4000000
set_option maxRecDepth 100000
namespace Go.Proofs.YtmeaiocohalphaaGreatDoor
open Go.RowKit
set_option linter.all false
theorem qsm (s:List UInt8) (w:World):Calls Tryz.prog 188 #[.string (bs s)] w fun e w'=>e=.returned (.bool (qbm s))∧Below w.heap.size w w':=by
 have hbs:=qbz s
 have HE:=hide (show qbm s=(decide ((1:Int)≤s.length) && decide ((s.length:Int)≤16)) by
  unfold qbm
  congr 1<;>exact decide_eq_decide.2 (by omega))
 generalize s.length=n at *
 by_cases h1:1≤n
 ·have h1':(1:Int)≤n:=by omega
  by_cases h2:n≤16
  ·have h2':(n:Int)≤16:=by omega
   go_enter Tryz.func188,Tryz.ntmps188
   go_wp2;go_ret;exact ⟨by rw [HE.out];simp [h1',h2'],Below.refl _ _⟩
  ·have h2':decide ((n:Int)≤16)=false:=by simpa using (by omega:¬(n:Int)≤16)
   go_enter Tryz.func188,Tryz.ntmps188
   go_wp2;go_ret;exact ⟨by rw [HE.out,h2'];simp,Below.refl _ _⟩
 ·have h1':decide ((1:Int)≤n)=false:=by simpa using (by omega:¬(1:Int)≤n)
  go_enter Tryz.func188,Tryz.ntmps188
  go_wp2;go_ret;exact ⟨by rw [HE.out,h1'];simp,Below.refl _ _⟩
theorem qj3 (B:Int) (w:World):Calls Tryz.prog 187 #[.int .i64 B] w fun e w'=>e=.returned (.bool (decide (blkP B)))∧Below w.heap.size w w':=by
 have HE:=hide (show decide (blkP B)=(decide (34<B) && decide (B≤4096)) by unfold blkP;exact Bool.decide_and ..)
 by_cases h1:34<B
 ·by_cases h2:B≤4096
  ·go_enter Tryz.func187,Tryz.ntmps187
   go_wp2;go_ret;exact ⟨by rw [HE.out];simp [h1,h2],Below.refl _ _⟩
  ·have h2':decide (B≤4096)=false:=by simpa using h2
   go_enter Tryz.func187,Tryz.ntmps187
   go_wp2;go_ret;exact ⟨by rw [HE.out,h2'];simp,Below.refl _ _⟩
 ·have h1':decide (34<B)=false:=by simpa using h1
  go_enter Tryz.func187,Tryz.ntmps187
  go_wp2;go_ret;exact ⟨by rw [HE.out,h1'];simp,Below.refl _ _⟩
theorem ql6 (a:Option Addr) (n c:Nat) (fs:List Fl) (s:List UInt8) (w:World) (hrd:RdF w (.slice a n c) fs) (hn:n=fs.length) (hnl:n≤1000):
  Calls Tryz.prog 194 #[.agg #[.slice a n c],.string (bs s)] w fun e w'=>((e=.returned (.int .i64 (-1))∧isF fs s=false)∨∃t,∃h:t<fs.length,e=.returned (.int .i64 t)∧(fs[t]).1=s∧isF fs s=true)∧Below w.heap.size w w':=by
 have HR:=hide hrd;have HN:=hide hn;obtain ⟨W0,hW0⟩:∃W0,W0=w.alloc (.cells #[.slice a n c] 31):=⟨_,rfl⟩
 have hb0:Below w.heap.size w W0:=by rw [hW0];exact (Below.refl _ _).alloc (Nat.le_refl _) _
 have HD0:=hide (show DirAt W0 w.heap.size (.slice a n c) by rw [hW0];exact DirAt.new w _);have HB0:=hide hb0;clear hrd hn hb0
 go_enter Tryz.func194,Tryz.ntmps194
 go_wp2;rw [←hW0];clear hW0
 go_loopw [5] (fun i wr=>∃k:Nat,k≤n∧i=.int .i64 k∧Hid (∀f∈fs.take k,f.1≠s)∧Below W0.heap.size W0 wr) (fun i _=>n - (intOf i).toNat)
 case atStart=>exact ⟨0,Nat.zero_le _,rfl,hide (by simp),Below.refl _ _⟩
 case round=>
  obtain ⟨k,hk,rfl,hno,hbel⟩:=hrel;have hda:=(HD0.out.carry hbel).cell;have hbw:Below w.heap.size w wr:=HB0.out.trans (hbel.mono HB0.out.size)
  by_cases hlt:k<n
  ·have hlt':(k:Int)<n:=by omega
   have hkl:k<fs.length:=by have:=HN.out;omega
   have HT:=hide (qay fs k hkl);have hw1:wrap64 ((k:Int)+1)=(k:Int)+1:=qha (by omega);obtain ⟨b,off,a2,c2,rfl,q0,q1,q2⟩:=HR.out.atB hbw k hkl;clear q1 q2;obtain ⟨f,hf⟩:∃f,f=fs[k]:=⟨_,rfl⟩;rw [←hf] at q0 HT;have HF:=hide hf;clear hf;obtain ⟨x,l⟩:=f
   simp only at q0
   by_cases g1:x=s
   ·have g1':((bs x).toList==(bs s).toList)=true:=by rw [qep,g1];simp
    have HG:=hide g1;clear g1;go_wp2;go_ret;refine ⟨.inr ⟨k,hkl,rfl,by rw [←HF.out];exact HG.out, ?_⟩,hbw⟩;exact (qer fs s).2 ⟨l,by rw [←HG.out,HF.out];exact List.getElem_mem hkl⟩
   have g1':((bs x).toList==(bs s).toList)=false:=by rw [qep];simpa using g1
   have HE:=hide (show ∀f∈fs.take (k+1),f.1≠s by
    rw [HT.out];intro f hf
    rcases List.mem_append.1 hf with hf | hf
    ·exact hno.out f hf
    ·obtain rfl:f=(x,l):=by simpa using hf
     exact g1)
   clear g1;go_wp2;go_roundw
   case rel=>exact ⟨k+1,by omega,rfl,HE,hbel⟩
   case measure=>simp only [intOf];omega
  ·have hd:decide ((k:Int)<n)=false:=by simpa using (by omega:¬(k:Int)<n)
   have e:k=fs.length:=by have:=HN.out;omega
   rw [e,List.take_length] at hno;clear e;go_wp2;go_ret;refine ⟨.inl ⟨rfl, ?_⟩,hbw⟩
   cases hq:isF fs s with
   | false=>rfl
   | true=>
    obtain ⟨l,hl⟩:=(qer fs s).1 hq;exact absurd rfl (hno.out _ hl)
theorem ql7 (a:Option Addr) (n c:Nat) (fs:List Fl) (w:World) (hrd:RdF w (.slice a n c) fs) (hn:n=fs.length) (hnl:n≤1000) (hu:(qan fs).length≤1000000):
  Calls Tryz.prog 190 #[.agg #[.slice a n c]] w fun e w'=>∃v,e=.returned v∧OwE w' w.heap.size v (qan fs)∧Below w.heap.size w w':=by
 have HR:=hide hrd;have HN:=hide hn;have HU:=hide hu;obtain ⟨W0,hW0⟩:∃W0,W0=w.alloc (.cells #[.slice a n c] 31):=⟨_,rfl⟩
 have hb0:Below w.heap.size w W0:=by rw [hW0];exact (Below.refl _ _).alloc (Nat.le_refl _) _
 have HD0:=hide (show DirAt W0 w.heap.size (.slice a n c) by rw [hW0];exact DirAt.new w _);have HB0:=hide hb0;clear hrd hn hb0 hu
 go_enter Tryz.func190,Tryz.ntmps190
 go_wp2;rw [←hW0];clear hW0
 go_loopw [3,4] (fun v i wr=>∃k:Nat,k≤n∧i=.int .i64 k∧Hid (OwE wr W0.heap.size v (qan (fs.take k)))∧Below W0.heap.size W0 wr) (fun _ i _=>n - (intOf i).toNat)
 case atStart=>exact ⟨0,Nat.zero_le _,rfl,hide (by simpa [qan] using OwE.nil _ _),Below.refl _ _⟩
 case round=>
  obtain ⟨k,hk,rfl,hown,hbel⟩:=hrel;have hda:=(HD0.out.carry hbel).cell;have hbw:Below w.heap.size w wr:=HB0.out.trans (hbel.mono HB0.out.size)
  by_cases hlt:k<n
  ·have hlt':(k:Int)<n:=by omega
   have hkl:k<fs.length:=by have:=HN.out;omega
   have HT:=hide (qi9 fs k hkl)
   have HUL:=hide (show (qan (fs.take k)).length+(fs[k]).2.length≤1000000 by
    have h1:=HU.out;have h2:=(qpc (List.take_sublist (k+1) fs)).length_le;rw [qi9 fs k hkl,List.length_append] at h2
    omega)
   have hw1:wrap64 ((k:Int)+1)=(k:Int)+1:=qha (by omega);obtain ⟨b,off,a2,c2,rfl,q0,q1,q2⟩:=HR.out.atB hbw k hkl;clear q0;obtain ⟨f,hf⟩:∃f,f=fs[k]:=⟨_,rfl⟩;rw [←hf] at q1 q2 HT HUL;clear hf;obtain ⟨x,l⟩:=f
   simp only at q1 q2 HT HUL
   obtain ⟨p,hp⟩:∃p,p=l.length:=⟨_,rfl⟩;rw [←hp] at q1 q2;obtain ⟨g,cc,w9,hrun,ho9,hb9⟩:=qf8 hown.out hbel.size (q2.carry hbw) hp (by have:=HUL.out;omega);have HO9:=hide ho9;have HB9:=hide (hbel.trans hb9);obtain ⟨av,cv,rfl⟩:=hown.out.form;clear ho9 hb9 hown HUL hp q2;rw [←HT.out] at hrun HO9;clear HT;generalize (qan (fs.take k)).length=fl at *;generalize (qan (fs.take (k+1))).length=gl at *
   go_wp2_with (at_builtin;refine qaf rfl (.tmp 12) (.tmp 18) 96 rfl rfl rfl rfl hrun ?_)
   go_roundw
   case rel=>exact ⟨k+1,by omega,rfl,HO9,HB9.out⟩
   case measure=>simp only [intOf];omega
  ·have hd:decide ((k:Int)<n)=false:=by simpa using (by omega:¬(k:Int)<n)
   have e:k=fs.length:=by have:=HN.out;omega
   rw [e,List.take_length] at hown;clear e;go_wp2;go_ret;exact ⟨_,rfl,hown.out.mono HB0.out.size,hbw⟩
theorem ql8 (a:Option Addr) (n c:Nat) (l:List Ex) (B:Int) (w:World) (hrd:RdE w (.slice a n c) l) (hn:n=l.length) (hwf:∀x∈l,wfX x):
  Calls Tryz.prog 189 #[.slice a n c,.int .i64 B] w fun e w'=>e=.returned (.bool (decide (extP l B)))∧Below w.heap.size w w':=by
 have hck:=qog a n c l w hrd hn hwf
 by_cases g1:chkX l=0
 case neg=>
  have HE:=hide (show decide (extP l B)=false by simpa using fun h:extP l B=>absurd h.1 g1);obtain ⟨z,hz⟩:∃z,z=chkX l:=⟨_,rfl⟩;rw [←hz] at hck g1
  have g1':(z==0)=false:=by simpa using g1
  clear hz hrd hn hwf
  go_enter Tryz.func189,Tryz.ntmps189
  go_wp2_with fail
  refine hck.mono ?_
  rintro e w1 ⟨rfl,hb1⟩;go_wp2;go_ret;exact ⟨by rw [HE.out];rfl,hb1⟩
 have HA:=hide (qi4 g1).1;have HC:=hide g1;rw [g1] at hck;have hnl:n≤4096:=hn ▸ (qcp HA.out).1;have HR:=hide hrd;have HN:=hide hn;clear hrd hn hwf g1
 go_enter Tryz.func189,Tryz.ntmps189
 go_wp2_with fail
 refine hck.mono ?_
 rintro e w1 ⟨rfl,hb1⟩;clear hck;go_wp2
 go_loopw [5] (fun i wr=>∃k:Nat,k≤n∧i=.int .i64 k∧Hid (∀x∈l.take k,34≤x.1∧x.1+x.2≤B)∧Below w.heap.size w wr) (fun i _=>n - (intOf i).toNat)
 case atStart=>exact ⟨0,Nat.zero_le _,rfl,hide (by simp),hb1⟩
 case round=>
  obtain ⟨k,hk,rfl,hyes,hbel⟩:=hrel;clear hb1
  by_cases hlt:k<n
  ·have hlt':(k:Int)<n:=by omega
   have hkl:k<l.length:=by have:=HN.out;omega
   have HT:=hide (qay l k hkl);have hw1:wrap64 ((k:Int)+1)=(k:Int)+1:=qha (by omega);obtain ⟨b,off,rfl,q0,q1⟩:=(HR.out.carry hbel).at k hkl;obtain ⟨z1,z2,z3⟩:=(qcp HA.out).2 _ (List.getElem_mem hkl);have HIN:=hide (List.getElem_mem hkl);obtain ⟨x,hx⟩:∃x,x=l[k]:=⟨_,rfl⟩;rw [←hx] at q0 q1 HT z1 z2 z3 HIN;clear hx;obtain ⟨x,y⟩:=x
   simp only at q0 q1 z1 z2 z3
   have hwi:IntKind.i64.wrap (x+y)=x+y:=by rw [IntKind.wrap_i64];omega
   by_cases g1:x<34
   ·have HE:=hide (show decide (extP l B)=false by
     simp only [decide_eq_false_iff_not]
     intro h
     have:=(h.2 _ HIN.out).1
     simp only at this;omega)
    go_wp2
    go_quiet (fail)
    go_wp2;go_ret;exact ⟨by rw [HE.out];rfl,below_drewN hbel _⟩
   have g1':decide (x<34)=false:=by simpa using g1
   by_cases g2:B<x+y
   ·have HE:=hide (show decide (extP l B)=false by
     simp only [decide_eq_false_iff_not]
     intro h
     have:=(h.2 _ HIN.out).2
     simp only at this;omega)
    go_wp2
    go_quiet (fail)
    go_wp2;go_ret;exact ⟨by rw [HE.out];rfl,below_drewN hbel _⟩
   have g2':decide (B<x+y)=false:=by simpa using g2
   have HE:=hide (show ∀x∈l.take (k+1),34≤x.1∧x.1+x.2≤B by
    rw [HT.out];intro f hf
    rcases List.mem_append.1 hf with hf | hf
    ·exact hyes.out f hf
    ·obtain rfl:f=(x,y):=by simpa using hf
     simp only
     omega)
   go_wp2
   go_quiet (fail)
   go_wp2;go_roundw
   case rel=>exact ⟨k+1,by omega,rfl,HE,below_drewN hbel _⟩
   case measure=>simp only [intOf];omega
  ·have hd:decide ((k:Int)<n)=false:=by simpa using (by omega:¬(k:Int)<n)
   have e:k=l.length:=by have:=HN.out;omega
   rw [e,List.take_length] at hyes;clear e;have HE:=hide (show decide (extP l B)=true from decide_eq_true (⟨HC.out,hyes.out⟩:extP l B));go_wp2;go_ret;exact ⟨by rw [HE.out];rfl,hbel⟩
theorem qij (n:Nat) (w:World) (hn:n<18446744073709551616):Calls Tryz.prog 133 #[.int .u64 n] w fun e w'=>∃v,e=.returned v∧OwBy w' w.heap.size v (sm n)∧Below w.heap.size w w':=qjh n w hn
theorem qagg (s:List UInt8) (w:World) (hs:s.length≤1000000):Calls Tryz.prog 63 #[.string (bs s)] w fun e w'=>∃v,e=.returned v∧OwBy w' w.heap.size v (tx s)∧Below w.heap.size w w':=by
 have:=qsc (bs s) w (by rw [qbz];omega)
 rwa [qbu] at this
theorem qoh (s:List UInt8) (w:World):Calls Tryz.prog 188 #[.string (bs s)] w fun e w'=>e=.returned (.bool (qbm s))∧w'=w:=by
 have hbs:=qbz s
 have HE:=hide (show qbm s=(decide ((1:Int)≤s.length) && decide ((s.length:Int)≤16)) by
  unfold qbm
  congr 1<;>exact decide_eq_decide.2 (by omega))
 generalize s.length=n at *
 by_cases h1:1≤n
 ·have h1':(1:Int)≤n:=by omega
  by_cases h2:n≤16
  ·have h2':(n:Int)≤16:=by omega
   go_enter Tryz.func188,Tryz.ntmps188
   go_wp2;go_ret;exact ⟨by rw [HE.out];simp [h1',h2'],rfl⟩
  ·have h2':decide ((n:Int)≤16)=false:=by simpa using (by omega:¬(n:Int)≤16)
   go_enter Tryz.func188,Tryz.ntmps188
   go_wp2;go_ret;exact ⟨by rw [HE.out,h2'];simp,rfl⟩
 ·have h1':decide ((1:Int)≤n)=false:=by simpa using (by omega:¬(1:Int)≤n)
  go_enter Tryz.func188,Tryz.ntmps188
  go_wp2;go_ret;exact ⟨by rw [HE.out,h1'];simp,rfl⟩
theorem qg3 (a:Option Addr) (n c:Nat) (fs:List Fl) (w:World) (hrd:RdF w (.slice a n c) fs) (hn:n=fs.length) (hok:okB fs):
  Calls Tryz.prog 191 #[.agg #[.slice a n c]] w fun e w'=>∃v,e=.returned v∧OwBy w' w.heap.size v (bytF fs)∧Below w.heap.size w w':=by
 have hm:n≤1000:=hn ▸ hok.1;obtain ⟨W0,hW0⟩:∃W0,W0=w.alloc (.cells #[.slice a n c] 31):=⟨_,rfl⟩
 have hb0:Below w.heap.size w W0:=by rw [hW0];exact (Below.refl _ _).alloc (Nat.le_refl _) _
 have HD0:=hide (show DirAt W0 w.heap.size (.slice a n c) by rw [hW0];exact DirAt.new w _);have hd0:=HD0.out.cell;rw [hW0] at hd0;have HB0:=hide hb0;have HR:=hide (hrd.carry hb0);have HN:=hide hn;have HK:=hide hok;clear hrd hn hok hb0
 go_enter Tryz.func191,Tryz.ntmps191
 go_wp2_with fail
 rw [←hW0];clear hW0 hd0
 refine (qij n W0 (by omega)).mono ?_
 rintro e w1 ⟨v1,rfl,ho1,hb1⟩;have hd1:=(HD0.out.carry hb1).cell;go_wp2;clear hd1
 go_loopw [4,3] (fun i v wr=>∃k:Nat,k≤n∧i=.int .i64 k∧Hid (OwBy wr W0.heap.size v (sm n++(fs.take k).flatMap qcf))∧Below W0.heap.size W0 wr) (fun i _ _=>n - (intOf i).toNat)
 case atStart=>exact ⟨0,Nat.zero_le _,rfl,hide (by simpa using ho1),hb1⟩
 case round=>
  obtain ⟨k,hk,rfl,hown,hbel⟩:=hrel;have hda:=(HD0.out.carry hbel).cell;clear ho1 hb1
  by_cases hlt:k<n
  ·have hlt':(k:Int)<n:=by omega
   have hkl:k<fs.length:=by have:=HN.out;omega
   have HU:=hide (qq8 fs k hkl);have HLL:=hide (qww HK.out k);have hw1:wrap64 ((k:Int)+1)=(k:Int)+1:=qha (by omega);obtain ⟨b,off,a2,c2,rfl,q0,q1,q2⟩:=HR.out.atB hbel k hkl;have HQ:=hide q2;clear q2;have HFK:=hide (HK.out.2 _ (List.getElem_mem hkl));obtain ⟨f,hf⟩:∃f,f=fs[k]:=⟨_,rfl⟩;rw [←hf] at q0 q1 HQ HU HFK;clear hf;obtain ⟨L,hL⟩:∃L,L=(fs.take k).flatMap qcf:=⟨_,rfl⟩;rw [←hL] at hown HU HLL;clear hL;obtain ⟨m,hm2⟩:∃m,m=f.2.length:=⟨_,rfl⟩;rw [←hm2] at q1 HQ
   have hmm:m≤1000:=by rw [hm2];exact HFK.out.2.1
   have HM2:=hide hm2;clear hm2;have HSM:=hide (qag (n:=n) (by omega));have HSM2:=hide (qag (n:=m) (by omega))
   have HTX:=hide (show (tx f.1).length≤1010 by
    have h1:=HFK.out.1
    have:=qag (n:=f.1.length) (by omega)
    simp only [tx,List.length_append];omega)
   -- the file's copy,its name
   obtain ⟨w2,hw2⟩:∃w2,w2=wr.alloc (.cells #[.string (bs f.1),.slice a2 m c2] 98):=⟨_,rfl⟩;obtain ⟨F,hF⟩:∃F,F=wr.heap.size:=⟨_,rfl⟩
   have hblk:FileAt w2 F (bs f.1) (.slice a2 m c2):=by rw [hw2,hF];exact FileAt.new wr _ _
   have hb2:Below wr.heap.size wr w2:=by rw [hw2];exact (Below.refl _ _).alloc (Nat.le_refl _) _
   have hbel2:Below W0.heap.size W0 w2:=hbel.trans (hb2.mono hbel.size);have HO2:=hide (hown.out.carry hb2);have s0:=hblk.cell0;rw [hw2] at s0
   go_wp2_with fail
   rw [←hw2];rw [←hF];clear hown s0
   refine (qagg f.1 _ (by have:=HFK.out.1;omega)).mono ?_
   rintro e w3 ⟨v3,rfl,ho3,hb3⟩;have hbel3:Below W0.heap.size W0 w3:=hbel2.trans (hb3.mono hbel2.size)
   obtain ⟨v4,w4,hrun4,ho4,hb4,hk4⟩:=qj1 (HO2.out.carry hb3) hbel3.size (qfy ho3) (by
    have h1:=HSM.out;have h2:=HLL.out;have h3:=HTX.out
    rw [List.length_append];omega)
   have hbel4:Below W0.heap.size W0 w4:=hbel3.trans hb4;have hblk4:FileAt w4 F (bs f.1) (.slice a2 m c2):=hk4 _ _ _ _ (by decide) (KeepB.of_below hb3 _ _ _ _ (by decide) hblk);have r4:=hblk4.cell1;have HO4:=hide ho4;have HB4:=hide hbel4;have HK4:=hide hblk4;clear ho4 hbel4 hb4 hk4 ho3 hb3 hbel3 hblk hb2 hw2 hbel2 HO2 hblk4 hbel q0 q1 hda hF
   go_wp2_with (first | (at_builtin;refine qaf rfl (.tmp 24) (.tmp 27) 23 rfl rfl rfl rfl hrun4 ?_) | fail)
   refine (qij m _ (by omega)).mono ?_
   rintro e w5 ⟨v5,rfl,ho5,hb5⟩;have hbel5:Below W0.heap.size W0 w5:=HB4.out.trans (hb5.mono HB4.out.size)
   obtain ⟨v6,w6,hrun6,ho6,hb6,hk6⟩:=qj1 (HO4.out.carry hb5) hbel5.size (qfy ho5) (by
    have h1:=HSM.out;have h2:=HLL.out;have h3:=HTX.out;have h4:=HSM2.out
    simp only [List.length_append];omega)
   have hbel6:Below W0.heap.size W0 w6:=hbel5.trans hb6;have hblk6:FileAt w6 F (bs f.1) (.slice a2 m c2):=hk6 _ _ _ _ (by decide) (KeepB.of_below hb5 _ _ _ _ (by decide) HK4.out);have r6:=hblk6.cell1;have HO6:=hide ho6;have HB6:=hide hbel6;have HK6:=hide hblk6;clear ho6 hbel6 hb6 hk6 ho5 hb5 hbel5 hblk6 HO4 HB4 HK4 r4 hrun4
   go_wp2_with (at_builtin;refine qaf rfl (.tmp 29) (.tmp 34) 23 rfl rfl rfl rfl hrun6 ?_)
   go_loopw [6,3] (fun i v wx=>∃j:Nat,j≤m∧i=.int .i64 j∧Hid (OwBy wx W0.heap.size v (sm n++L++tx f.1++sm m++bytE (f.2.take j)))∧Hid (FileAt wx F (bs f.1) (.slice a2 m c2))∧Below W0.heap.size W0 wx) (fun i _ _=>m - (intOf i).toNat)
   case atStart=>exact ⟨0,Nat.zero_le _,rfl,hide (by simpa [bytE] using HO6.out),HK6,HB6.out⟩
   case round=>
    obtain ⟨j,hj,rfl,hown,hfat,hbel⟩:=hrel;have HLT:=hide hlt;clear HO6 HB6 r6 hrun6 hlt' hlt HK6;have s1:=hfat.out.cell1
    by_cases hjm:j<m
    ·have hjm':(j:Int)<m:=by omega
     have hwj:wrap64 ((j:Int)+1)=(j:Int)+1:=qha (by omega)
     have hjl:j<f.2.length:=by have:=HM2.out;omega
     have HE:=hide (qq9 f.2 j hjl);obtain ⟨bx,ox,rfl,p0,p1⟩:=(HQ.out.carry hbel).at j hjl;have HX:=hide (HFK.out.2.2 _ (List.getElem_mem hjl))
     have HBE:=hide (show (bytE (f.2.take j)).length≤20000 by
      have:=qkq (f.2.take j) (fun x hx=>HFK.out.2.2 x (List.mem_of_mem_take hx))
      have h2:=HFK.out.2.1
      rw [List.length_take] at this;omega)
     have HP:=hide (fun (wz:World) (hz:Below W0.heap.size W0 wz)=>(HQ.out.carry hz).at j hjl);obtain ⟨x,hx⟩:∃x,x=f.2[j]:=⟨_,rfl⟩;rw [←hx] at p0 p1 HE HX HP;clear hx;obtain ⟨x,y⟩:=x;obtain ⟨x,rfl⟩:∃p:Nat,x=p:=⟨x.toNat,by have:=HX.out.1;simp only at this;omega⟩;obtain ⟨y,rfl⟩:∃p:Nat,y=p:=⟨y.toNat,by have:=HX.out.2.2.1;simp only at this;omega⟩
     have hx1:x≤4096:=by have:=HX.out.2.1;simp only at this;omega
     have hy1:y≤4096:=by have:=HX.out.2.2.2;simp only at this;omega
     simp only at p0 p1
     have HE2:=hide (show bytE (f.2.take (j+1))=bytE (f.2.take j)++(sm x++sm y) by have:=HE.out;simpa [bytX] using this);clear HE HX;obtain ⟨M,hM⟩:∃M,M=sm n++L++tx f.1++sm m++bytE (f.2.take j):=⟨_,rfl⟩
     have HML:=hide (show M.length≤100000000 by
      have h1:=HSM.out;have h2:=HLL.out;have h3:=HTX.out;have h4:=HSM2.out;have h5:=HBE.out;rw [hM]
      simp only [List.length_append];omega)
     rw [←hM] at hown;have HM:=hide hM;clear hM;have HSX:=hide (qag (n:=x) (by omega));have HSY:=hide (qag (n:=y) (by omega))
     go_wp2_with fail
     refine (qij x _ (by omega)).mono ?_
     rintro e w3 ⟨v3,rfl,ho3,hb3⟩;have hbel3:Below W0.heap.size W0 w3:=hbel.trans (hb3.mono hbel.size)
     obtain ⟨v4,w4,hrun4,ho4,hb4,hk4⟩:=qj1 (hown.out.carry hb3) hbel3.size (qfy ho3) (by
      have h1:=HML.out;have h2:=HSX.out
      omega)
     have hbel4:Below W0.heap.size W0 w4:=hbel3.trans hb4;have hblk4:FileAt w4 F (bs f.1) (.slice (some ⟨bx,ox,none⟩) m c2):=hk4 _ _ _ _ (by decide) (KeepB.of_below hb3 _ _ _ _ (by decide) hfat.out);have r4:=hblk4.cell1;obtain ⟨bx',ox',e4,p2,p3⟩:=HP.out w4 hbel4;cases e4;have HO4:=hide ho4;have HB4:=hide hbel4;have HK4:=hide hblk4;clear ho4 hbel4 hb4 hk4 ho3 hb3 hbel3 hblk4 hbel p0 p1 hown hfat s1 p2
     go_wp2_with (first | (at_builtin;refine qaf rfl (.tmp 43) (.tmp 51) 23 rfl rfl rfl rfl hrun4 ?_) | fail)
     refine (qij y _ (by omega)).mono ?_
     rintro e w5 ⟨v5,rfl,ho5,hb5⟩;have hbel5:Below W0.heap.size W0 w5:=HB4.out.trans (hb5.mono HB4.out.size)
     obtain ⟨v6,w6,hrun6,ho6,hb6,hk6⟩:=qj1 (HO4.out.carry hb5) hbel5.size (qfy ho5) (by
      have h1:=HML.out;have h2:=HSX.out;have h3:=HSY.out
      simp only [List.length_append];omega)
     have HO6:=hide ho6;have HB6:=hide (hbel5.trans hb6);have HK6:=hide (show FileAt w6 F (bs f.1) (.slice (some ⟨bx,ox,none⟩) m c2) from hk6 _ _ _ _ (by decide) (KeepB.of_below hb5 _ _ _ _ (by decide) HK4.out));clear ho6 hb6 hk6 ho5 hb5 hbel5 HO4 HB4 r4 hrun4 HK4 p3 HP
     go_wp2_with (at_builtin;refine qaf rfl (.tmp 53) (.tmp 61) 23 rfl rfl rfl rfl hrun6 ?_)
     go_roundw
     case rel=>exact ⟨j+1,by omega,rfl,hide (by
      rw [HE2.out]
      have:=HO6.out
      rw [HM.out] at this
      simpa using this),HK6,HB6.out⟩
     case measure=>simp only [intOf];omega
    ·have hd2:decide ((j:Int)<m)=false:=by simpa using (by omega:¬(j:Int)<m)
     have e:j=f.2.length:=by have:=HM2.out;omega
     rw [e,List.take_length] at hown;have HO:=hide (hown.out);clear e hown;go_wp2;go_roundw
     case rel=>exact ⟨k+1,HLT.out,rfl,hide (by
      rw [HU.out]
      have:=HO.out
      rw [HM2.out] at this
      simpa [qcf] using this),hbel⟩
     case measure=>have:=HLT.out;simp only [intOf];omega
  ·have hd:decide ((k:Int)<n)=false:=by simpa using (by omega:¬(k:Int)<n)
   have e:k=fs.length:=by have:=HN.out;omega
   rw [e,List.take_length] at hown;clear e;go_wp2;go_ret;refine ⟨_,rfl, ?_,HB0.out.trans (hbel.mono HB0.out.size)⟩
   have:=qib hown.out HB0.out.size
   unfold bytF;rw [←HN.out];exact this
theorem qab5 (p q:Nat) (s:ByteArray) (x:Value):Keeps (Two p q s x):=fun _ _ h hb=>h.carry hb
theorem qgb (s:List UInt8) (a:Option Addr) (n c:Nat) (l:List Ex) (w:World) (hrd:RdE w (.slice a n c) l) (hn:n=l.length) (hl:l.length≤1000000):
  Calls Tryz.prog 114 #[.agg #[.string (bs s),.slice a n c]] w fun e w'=>∃a7 c7,e=.returned (.agg #[.string (bs s),.slice a7 n c7])∧OwE w' w.heap.size (.slice a7 n c7) l∧Below w.heap.size w w':=by
 obtain ⟨W0,hW⟩:∃W0,W0=(w.alloc (.cells #[.string (bs s),.slice a n c] 98)).alloc (.cells #[.string {data:=#[]},.slice none 0 0] 98):=⟨_,rfl⟩
 have hb0:Below w.heap.size w W0:=by rw [hW];exact ((Below.refl _ _).alloc (Nat.le_refl _) _).alloc (by simp) _
 have h2:Two w.heap.size (w.heap.size+1) (bs s) (.slice a n c) W0:=by
  rw [hW];refine ⟨by omega, ?_,.string {data:=#[]},.slice none 0 0, ?_⟩
  ·have:=heap_alloc_new w (.cells #[.string (bs s),.slice a n c] 98)
   rw [←this];exact ((Below.refl (w.alloc (.cells #[.string (bs s),.slice a n c] 98)).heap.size _).alloc (Nat.le_refl _) _).block _ (by simp)
  ·have:=heap_alloc_new (w.alloc (.cells #[.string (bs s),.slice a n c] 98)) (.cells #[.string {data:=#[]},.slice none 0 0] 98)
   simpa using this
 obtain ⟨g9,c9,w9,hrun,ho9,hb9⟩:=qf8 (w:=W0.drew) (base:=W0.heap.size) (OwE.nil _ _) (Nat.le_refl _) ((hrd.carry hb0).carry ((Below.refl W0.heap.size W0).drew)) hn (by simpa using hl);rw [List.nil_append,←hn] at hrun ho9;have hb9':Below W0.heap.size W0 w9:=((Below.refl W0.heap.size W0).drew).trans hb9;have h9:=h2.carry hb9';have x0:=Two.e0 w9 h9;have x1:=Two.e1 w9 h9;have z0:=Two.fz w9 h9 0;have z1:=Two.fz w9 h9 1;obtain ⟨h10,h11⟩:=h9.put (.string (bs s)) (.slice g9 n c9);obtain ⟨y,z,hq⟩:=h9.2.2;have hg:=qbw (w:=w9) (q:=w.heap.size+1) (.string (bs s)) (.slice g9 n c9);have hbw:Below w.heap.size w w9:=hb0.trans (hb9'.mono hb0.size);have HO:=hide (show OwE ((w9.setCell ⟨w.heap.size+1,0,none⟩ (.string (bs s))).setCell ⟨w.heap.size+1,1,none⟩ (.slice g9 n c9)) w.heap.size (.slice g9 n c9) l from OwE.mono (World.ownsRow.kept ho9 hg (.inr (ho9.apartF hq))) hb0.size);have HB:=hide (hbw.grown hg hbw.size (by intro k hk;cases hk;omega));have HS0:=hide h2;have HS9:=hide h9;have HS10:=hide h10;have HX:=hide h11;clear hrd hn hl hb9 hb9' h9 h10 h11 hq hg hbw ho9 h2 hb0
 go_enter Tryz.func114,Tryz.ntmps114
 go_wp2;rw [←hW];clear hW
 refine qaj (qab5 w.heap.size (w.heap.size+1) (bs s) (.slice a n c)) (by kernel_rfl) HS0.out ?_
 intro hS
 refine rP [0,1,2,3] 3 ?qa1 ?qp1 hS ?qn1
 case qp1=>
  iterate 4 (apply Yl.cons rfl (by kernel_rfl);focus (intro wx hx;have x1:=Two.c0 wx hx;have x2:=Two.c1 wx hx;clear hx;go_simp;all_goals (with_reducible rfl));try simp only [Act.put,sA,sB,sC])
  exact Yl.nil
 refine rR 4 (.slice g9 n c9) w9 rfl (qd2 (v:=.slice none 0 0) (y:=.slice a n c) rfl rfl rfl hrun) HS9.out ?_
 try simp only [Act.put,sA,sB,sC]
 refine rP [5] 1 ?qa2 ?qp2 HS9.out ?qn2
 case qp2=>
  iterate 1 (apply Yl.cons rfl (by kernel_rfl);focus (intro wx hx;go_simp;all_goals (with_reducible rfl));try simp only [Act.put,sA,sB,sC])
  exact Yl.nil
 refine rN 6 ((w9.setCell ⟨w.heap.size+1,0,none⟩ (.string (bs s))).setCell ⟨w.heap.size+1,1,none⟩ (.slice g9 n c9)) rfl (by go_simp) HS10.out ?_
 try simp only [Act.put,sA,sB,sC]
 refine rD ?_
 obtain ⟨w10,hw10⟩:∃w10,w10=(w9.setCell ⟨w.heap.size+1,0,none⟩ (.string (bs s))).setCell ⟨w.heap.size+1,1,none⟩ (.slice g9 n c9):=⟨_,rfl⟩;rw [←hw10] at HO HB HX ⊢
 have r0:w10.cell? ⟨w.heap.size+1,0,none⟩=some (.string (bs s)):=by rw [cell_of_row w10 _ 0 _ _ (0,0) HX.out];rfl
 have r1:w10.cell? ⟨w.heap.size+1,1,none⟩=some (.slice g9 n c9):=by rw [cell_of_row w10 _ 1 _ _ (0,0) HX.out];rfl
 clear hw10 x0 x1 z0 z1 hrun hS HS10 HS9 HS0;go_wp2
 try simp only [Exit.inBlock,Exit.then]
 refine bodyPost_ret (v:=.agg #[.string (bs s),.slice g9 n c9]) ?_ rfl ⟨_,_,rfl,HO.out,HB.out⟩
 simp [results,Tryz.results114,go_sem, *]
def TwR (w:World) (s:List UInt8) (p:Nat) (l:List Ex) (v:Value) (wx:World):Prop:=∃a7 c7,v=.agg #[.string (bs s),.slice a7 p c7]∧OwE wx w.heap.size (.slice a7 p c7) l∧Below w.heap.size w wx
theorem qdj (s:List UInt8) (a:Option Addr) (n c:Nat) (l:List Ex) (w:World) (hrd:RdE w (.slice a n c) l) (hn:n=l.length) (hl:l.length≤1000000):
  Calls Tryz.prog 114 #[.agg #[.string (bs s),.slice a n c]] w.drew fun e w'=>∃v,e=.returned v∧TwR w s n l v w':=
 (qgb s a n c l w.drew (hrd.carry ((Below.refl w.heap.size w).drew)) hn hl).mono fun e w' ⟨a7,c7,h1,h2,h3⟩=>⟨_,h1,a7,c7,rfl,h2,((Below.refl w.heap.size w).drew).trans h3⟩
def Twn (B q r x:Nat) (dv v:Value) (w:World):Prop:=(q<B∧r<B∧x<B∧q≠x∧r≠x)∧DirAt w q dv∧BlkD w r∧DirAt w x v
theorem Twn.low {B q r x:Nat} {dv v:Value} {w w':World} (h:Twn B q r x dv v w) (hb:Below B w w'):Twn B q r x dv v w':=by
 obtain ⟨⟨h1,h2,h3,h4,h5⟩,k1,⟨y,k2⟩,k3⟩:=h;exact ⟨⟨h1,h2,h3,h4,h5⟩,(hb.block q h1).trans k1,⟨y,(hb.block r h2).trans k2⟩,(hb.block x h3).trans k3⟩
theorem Twn.keeps (B q r x:Nat) (dv v:Value):Keeps (Twn B q r x dv v):=fun w w' h hb=>by
 obtain ⟨h1,k1,k2,k3⟩:=h;exact ⟨h1,k1.carry hb,k2.carry hb,k3.carry hb⟩
theorem Twn.put {B q r x:Nat} {dv v:Value} {w:World} (h:Twn B q r x dv v w) (u:Value):Twn B q r x dv u (w.setCell ⟨x,0,none⟩ u):=by
 obtain ⟨⟨h1,h2,h3,h4,h5⟩,k1,⟨y,k2⟩,k3⟩:=h;refine ⟨⟨h1,h2,h3,h4,h5⟩,(heap_setCell_other w ⟨x,0,none⟩ q u h4).trans k1,⟨y,(heap_setCell_other w ⟨x,0,none⟩ r u h5).trans k2⟩, ?_⟩
 have:=heap_setCell_same w x 0 #[v] 31 u k3
 unfold DirAt
 rw [this];rfl
theorem Twn.fz {B q r x:Nat} {dv v:Value} {w:World} (h:Twn B q r x dv v w):w.frozen? ⟨x,0,none⟩=false:=frozen_of_row w x 0 _ _ h.2.2.2
theorem qqc {B q r x:Nat} {dv v u:Value} {w0 w:World} {fs:List Fl} (hB:w0.heap.size≤B) (hw:Below w0.heap.size w0 w) (hx:w0.heap.size≤x) (h:Twn B q r x dv v w) (ho:OwF w B u fs):
  Twn B q r x dv u (w.setCell ⟨x,0,none⟩ u)∧OwF (w.setCell ⟨x,0,none⟩ u) B u fs∧Below w0.heap.size w0 (w.setCell ⟨x,0,none⟩ u):=by
 have hg:=qai w ⟨x,0,none⟩ u;exact ⟨h.put u,ho.keptS hg h.2.2.2 (by decide) (by decide),hw.grown hg hw.size (by intro k hk;cases hk;omega)⟩
theorem qoi (a:Option Addr) (n c:Nat) (fs:List Fl) (w:World) (hrd:RdF w (.slice a n c) fs) (hn:n=fs.length) (hnl:n≤1000) (hle:∀f∈fs,f.2.length≤1000000):
  Calls Tryz.prog 54 #[.agg #[.slice a n c]] w fun e w'=>∃v,e=.returned (.agg #[v])∧OwF w' w.heap.size v (fs)∧Below w.heap.size w w':=by
 obtain ⟨W0,hW0⟩:∃W0,W0=((w.alloc (.cells #[.slice a n c] 31)).alloc (.cells #[.slice none 0 0] 31)).alloc (.cells #[.slice none 0 0] 31):=⟨_,rfl⟩
 have hb0:Below w.heap.size w W0:=by rw [hW0];exact (((Below.refl _ _).alloc (Nat.le_refl _) _).alloc (by simp) _).alloc (by simp;omega) _
 have HR:=hide hrd;have HN:=hide hn;have HLE:=hide hle;obtain ⟨Q,hQ⟩:∃Q,Q=w.heap.size:=⟨_,rfl⟩;obtain ⟨Rr,hRr⟩:∃R,R=w.heap.size+1:=⟨_,rfl⟩;obtain ⟨X,hX⟩:∃X,X=w.heap.size+1+1:=⟨_,rfl⟩;obtain ⟨B,hB⟩:∃B,B=w.heap.size+3:=⟨_,rfl⟩
 have HT0:=hide (show Twn B Q Rr X (.slice a n c) (.slice none 0 0) W0 by
  rw [hW0,hB,hQ,hRr,hX];refine ⟨⟨by omega,by omega,by omega,by omega,by omega⟩, ?_, ?_, ?_⟩
  ·exact ((DirAt.new w (.slice a n c)).carry ((Below.refl _ _).alloc (Nat.le_refl _) _)).carry ((Below.refl _ _).alloc (Nat.le_refl _) _)
  ·have:=(BlkD.new (w.alloc (.cells #[.slice a n c] 31)) (.slice none 0 0)).carry ((Below.refl _ _).alloc (Nat.le_refl _) (.cells #[.slice none 0 0] 31))
   simpa using this
  ·have:=DirAt.new ((w.alloc (.cells #[.slice a n c] 31)).alloc (.cells #[.slice none 0 0] 31)) (.slice none 0 0)
   simpa using this)
 have HBB:=hide (show w.heap.size≤B by omega);have HXB:=hide (show w.heap.size≤X by omega);have HRB:=hide (show w.heap.size≤Rr by omega);have HSZ:=hide (show B≤W0.heap.size by rw [hW0,hB];simp);have HB0:=hide hb0;clear hrd hn hle hb0 hB
 go_enter Tryz.func54,Tryz.ntmps54
 go_wp2;rw [←hW0];clear hW0
 first | rw [←hX] | rw [show w.heap.size+2=X from hX.symm]
 rw [←hRr];rw [←hQ];clear hQ hX hRr
 go_loopw [4] (fun i wr=>∃k:Nat,k≤n∧i=.int .i64 k∧∃v,Hid (Twn B Q Rr X (.slice a n c) v wr)∧Hid (OwF wr B v (fs.take k))∧Below w.heap.size w wr∧B≤wr.heap.size) (fun i _=>n - (intOf i).toNat)
 case atStart=>exact ⟨0,Nat.zero_le _,rfl,.slice none 0 0,HT0,hide (by simpa [delF] using OwF.nil _ _),HB0.out,HSZ.out⟩
 case round=>
  obtain ⟨k,hk,rfl,v,htw,hown,hbel,hBs⟩:=hrel;have hda:=htw.out.2.1.cell
  by_cases hlt:k<n
  ·have hlt':(k:Int)<n:=by omega
   have hkl:k<fs.length:=by have:=HN.out;omega
   have HT:=hide (qay fs k hkl);have hw1:wrap64 ((k:Int)+1)=(k:Int)+1:=qha (by omega);obtain ⟨b,off,a2,c2,rfl,k0,k1,q2⟩:=HR.out.at k hkl;have HAT:=hide (show ∀wz:World,Below w.heap.size w wz→wz.cell? ⟨b,off+k*2,none⟩=some (.string (bs (fs[k]).1))∧wz.cell? ⟨b,off+k*2+1,none⟩=some (.slice a2 (fs[k]).2.length c2) from fun wz hz=>⟨(hz.cell (World.block_lt_of_cell? w _ k0)).trans k0,(hz.cell (World.block_lt_of_cell? w _ k1)).trans k1⟩);obtain ⟨q0,q1⟩:=HAT.out wr hbel;clear k0 k1;have HLk:=hide (HLE.out _ (List.getElem_mem hkl));have HQ2:=hide q2;clear q2;obtain ⟨f,hf⟩:∃f,f=fs[k]:=⟨_,rfl⟩;rw [←hf] at q0 q1 HQ2 HT HLk HAT;clear hf;obtain ⟨s,l⟩:=f
   simp only at q0 q1 HQ2 HLk HAT
   obtain ⟨p,hp⟩:∃p,p=l.length:=⟨_,rfl⟩;rw [←hp] at q1 HQ2 HAT;have HP:=hide hp;clear hp;have HTL:=hide (show (fs.take k).length≤1000 by rw [List.length_take];omega);obtain ⟨fl,hfl⟩:∃fl,fl=(fs.take k).length:=⟨_,rfl⟩
   obtain ⟨av,cv,hav⟩:∃av cv,v=.slice av fl cv:=by rw [hfl];exact hown.out.form
   subst hav;have HFL:=hide hfl;clear hfl;have HTW:=hide (qdj s a2 p c2 l wr (HQ2.out.carry hbel) HP.out HLk.out)
   obtain ⟨S,eS⟩:∃S:World→Prop,S=fun wx=>Twn B Q Rr X (.slice (some ⟨b,off,none⟩) n c) (.slice av fl cv) wx∧wx.cell? ⟨b,off+k*2,none⟩=some (.string (bs s))∧wx.cell? ⟨b,off+k*2+1,none⟩=some (.slice a2 p c2):=⟨_,rfl⟩
   have hK:Keeps S:=by rw [eS];exact (Twn.keeps _ _ _ _ _ _).and ((qaa _ _).and (qaa _ _))
   have hS0:S wr:=by rw [eS];exact ⟨htw.out,q0,q1⟩
   have HSB:=hide (show ∀wz,Below B wr wz→S wz from fun wz hz=>by
    rw [eS];obtain ⟨z0,z1⟩:=HAT.out wz (hbel.trans (hz.mono HBB.out))
    exact ⟨htw.out.low hz,z0,z1⟩)
   rw [eS] at hK hS0 HSB;clear eS q0 q1;have hd1:=htw.out.2.1.cell;go_wp2
   refine qbb hK 11 (by kernel_rfl) hS0 ?_
   intro hS
   refine lP [0,1,2,3,4,5,6] 5 ?zp1a ?zp1p hS ?zp1n
   case zp1p=>
    iterate 7 (apply Yl.cons rfl (by kernel_rfl);focus (rintro wx ⟨y1,y4⟩;(have x1:=y1.2.1.cell);(have x3:=y1.2.2.2.cell);(have x4:=y4);clear y1 y4;try (obtain ⟨x4,x5⟩:=x4);go_simp;all_goals (with_reducible rfl));try simp only [Act.put,sA,sB,sC])
    exact Yl.nil
   refine lC 7 (TwR wr s p l) rfl HTW.out ?_
   rintro v7 w7 ⟨a7,c7,rfl,ho7,hb7⟩;have hS7:=hK _ _ hS0 hb7;refine ⟨hS7, ?_⟩;obtain ⟨g9,c9,w9,hrun,ho9,hb9⟩:=qdc (hown.out.carry hb7) (Nat.le_trans hBs hb7.size) (by have:=HTL.out;omega) s (.slice a7 p c7) l (ho7.mono hBs);rw [←HFL.out] at hrun ho9;have hb9':Below B wr w9:=(hb7.mono hBs).trans hb9;have hS9:=HSB.out w9 hb9';have hSa:=hK _ (w7.alloc (.cells #[.string (bs s),.slice a7 p c7] 98)) hS7 ((Below.refl _ _).alloc (Nat.le_refl _) _);have x9:=hS9.1.2.2.2.cell;have z9:=hS9.1.fz;clear hS;have hS:=hS7
   try simp only [Act.put,sA,sB,sC]
   refine lR 8 (.slice (some ⟨w7.heap.size,0,none⟩) 1 1) (w7.alloc (.cells #[.string (bs s),.slice a7 p c7] 98)) rfl (by go_simp) (fun _=>hSa) ?_
   try simp only [Act.put,sA,sB,sC]
   refine lR 9 (.slice (some ⟨g9,0,none⟩) (fl+1) c9) w9 rfl (qd2 (v:=.slice av fl cv) (y:=.slice (some ⟨w7.heap.size,0,none⟩) 1 1) rfl rfl rfl hrun) (fun _=>hS9) ?_
   clear hS;have hS:=hS9
   try simp only [Act.put,sA,sB,sC]
   refine lT 10 ?qav10 rfl ?qay10 hS ?qar10
   case qay10=>(rintro wx ⟨y1,y4⟩;(have x1:=y1.2.1.cell);(have x3:=y1.2.2.2.cell);(have x4:=y4);clear y1 y4;try (obtain ⟨x4,x5⟩:=x4);go_simp;all_goals (with_reducible rfl))
   try simp only [Act.put,sA,sB,sC]
   refine lL 11 (w9.setCell ⟨X,0,none⟩ (.slice (some ⟨g9,0,none⟩) (fl+1) c9)) rfl (by go_simp) ?_
   try simp only [Act.put,sA,sB,sC]
   refine lD ?_
   obtain ⟨t1,t2,t3⟩:=qqc HBB.out (hbel.trans (hb9'.mono HBB.out)) HXB.out hS9.1 ho9;have HT1:=hide t1;have HT2:=hide (show OwF _ B _ (fs.take (k+1)) by rw [HT.out];exact t2);have HT3:=hide t3;have HT4:=hide (show B≤(w9.setCell ⟨X,0,none⟩ (.slice (some ⟨g9,0,none⟩) (fl+1) c9)).heap.size from Nat.le_trans (Nat.le_trans hBs hb9'.size) (qai _ _ _).size);clear t1 t2 t3 ho9 hb9 hb9' hrun x9 z9 hS hS7 hS9 hSa ho7 hb7 hK hS0 HSB;generalize w9.setCell ⟨X,0,none⟩ (.slice (some ⟨g9,0,none⟩) (fl+1) c9)=wz at *;go_wp2;go_roundw
   case rel=>exact ⟨k+1,by omega,rfl,_,HT1,HT2,HT3.out,HT4.out⟩
   case measure=>simp only [intOf];omega
  ·have hd:decide ((k:Int)<n)=false:=by simpa using (by omega:¬(k:Int)<n)
   have e:k=fs.length:=by have:=HN.out;omega
   rw [e,List.take_length] at hown;clear e;have hd1:=htw.out.2.1.cell;have hdx:=htw.out.2.2.2.cell;have hc:=htw.out.2.2.1.cell;have hf:=htw.out.2.2.1.fz;obtain ⟨fl,hfl⟩:∃fl,fl=(fs).length:=⟨_,rfl⟩
   obtain ⟨av,cv,hav⟩:∃av cv,v=.slice av fl cv:=by rw [hfl];exact hown.out.form
   subst hav;clear hfl;obtain ⟨z0,hg, -⟩:=htw.out.2.2.1.put (.slice av fl cv);obtain ⟨y,hy⟩:=htw.out.2.2.1;have HO:=hide (hown.out.keptS hg hy (by decide) (by decide));have HBE:=hide (hbel.grown hg hbel.size (by intro k hk;cases hk;have:=HRB.out;omega));clear hy hg;go_wp2;obtain ⟨w9,hw9⟩:∃w9,w9=wr.setCell ⟨Rr,0,none⟩ (.slice av fl cv):=⟨_,rfl⟩;rw [←hw9] at z0 HO HBE ⊢
   try simp only [Exit.inBlock,Exit.then]
   refine bodyPost_ret (v:=.agg #[.slice av fl cv]) ?_ rfl ⟨_,rfl,HO.out.mono HBB.out,HBE.out⟩
   clear hw9 hc hd1 hdx hf
   simp [results,Tryz.results54,go_sem, *]
theorem qab6 (fs:List Fl) (f:Fl) (t:List UInt8):delF (fs++[f]) t=if f.1=t then delF fs t else delF fs t++[f]:=by
 unfold delF;rw [List.filter_append]
 by_cases h:f.1=t
 ·rw [if_pos h,List.filter_cons_of_neg (by simp [h])];simp
 ·rw [if_neg h,List.filter_cons_of_pos (by simp [h])];simp
theorem qj4 (a:Option Addr) (n c:Nat) (fs:List Fl) (t:List UInt8) (w:World) (hrd:RdF w (.slice a n c) fs) (hn:n=fs.length) (hnl:n≤1000) (hle:∀f∈fs,f.2.length≤1000000):
  Calls Tryz.prog 208 #[.agg #[.slice a n c],.string (bs t)] w fun e w'=>∃v,e=.returned (.agg #[v])∧OwF w' w.heap.size v (delF fs t)∧Below w.heap.size w w':=by
 obtain ⟨W0,hW0⟩:∃W0,W0=((w.alloc (.cells #[.slice a n c] 31)).alloc (.cells #[.slice none 0 0] 31)).alloc (.cells #[.slice none 0 0] 31):=⟨_,rfl⟩
 have hb0:Below w.heap.size w W0:=by rw [hW0];exact (((Below.refl _ _).alloc (Nat.le_refl _) _).alloc (by simp) _).alloc (by simp;omega) _
 have HR:=hide hrd;have HN:=hide hn;have HLE:=hide hle;obtain ⟨Q,hQ⟩:∃Q,Q=w.heap.size:=⟨_,rfl⟩;obtain ⟨Rr,hRr⟩:∃R,R=w.heap.size+1:=⟨_,rfl⟩;obtain ⟨X,hX⟩:∃X,X=w.heap.size+1+1:=⟨_,rfl⟩;obtain ⟨B,hB⟩:∃B,B=w.heap.size+3:=⟨_,rfl⟩
 have HT0:=hide (show Twn B Q Rr X (.slice a n c) (.slice none 0 0) W0 by
  rw [hW0,hB,hQ,hRr,hX];refine ⟨⟨by omega,by omega,by omega,by omega,by omega⟩, ?_, ?_, ?_⟩
  ·exact ((DirAt.new w (.slice a n c)).carry ((Below.refl _ _).alloc (Nat.le_refl _) _)).carry ((Below.refl _ _).alloc (Nat.le_refl _) _)
  ·have:=(BlkD.new (w.alloc (.cells #[.slice a n c] 31)) (.slice none 0 0)).carry ((Below.refl _ _).alloc (Nat.le_refl _) (.cells #[.slice none 0 0] 31))
   simpa using this
  ·have:=DirAt.new ((w.alloc (.cells #[.slice a n c] 31)).alloc (.cells #[.slice none 0 0] 31)) (.slice none 0 0)
   simpa using this)
 have HBB:=hide (show w.heap.size≤B by omega);have HXB:=hide (show w.heap.size≤X by omega);have HRB:=hide (show w.heap.size≤Rr by omega);have HSZ:=hide (show B≤W0.heap.size by rw [hW0,hB];simp);have HB0:=hide hb0;clear hrd hn hle hb0 hB
 go_enter Tryz.func208,Tryz.ntmps208
 go_wp2;rw [←hW0];clear hW0
 first | rw [←hX] | rw [show w.heap.size+2=X from hX.symm]
 rw [←hRr];rw [←hQ];clear hQ hX hRr
 go_loopw [6] (fun i wr=>∃k:Nat,k≤n∧i=.int .i64 k∧∃v,Hid (Twn B Q Rr X (.slice a n c) v wr)∧Hid (OwF wr B v (delF (fs.take k) t))∧Below w.heap.size w wr∧B≤wr.heap.size) (fun i _=>n - (intOf i).toNat)
 case atStart=>exact ⟨0,Nat.zero_le _,rfl,.slice none 0 0,HT0,hide (by simpa [delF] using OwF.nil _ _),HB0.out,HSZ.out⟩
 case round=>
  obtain ⟨k,hk,rfl,v,htw,hown,hbel,hBs⟩:=hrel;have hda:=htw.out.2.1.cell
  by_cases hlt:k<n
  ·have hlt':(k:Int)<n:=by omega
   have hkl:k<fs.length:=by have:=HN.out;omega
   have HT:=hide (qay fs k hkl);have hw1:wrap64 ((k:Int)+1)=(k:Int)+1:=qha (by omega);obtain ⟨b,off,a2,c2,rfl,k0,k1,q2⟩:=HR.out.at k hkl;have HAT:=hide (show ∀wz:World,Below w.heap.size w wz→wz.cell? ⟨b,off+k*2,none⟩=some (.string (bs (fs[k]).1))∧wz.cell? ⟨b,off+k*2+1,none⟩=some (.slice a2 (fs[k]).2.length c2) from fun wz hz=>⟨(hz.cell (World.block_lt_of_cell? w _ k0)).trans k0,(hz.cell (World.block_lt_of_cell? w _ k1)).trans k1⟩);obtain ⟨q0,q1⟩:=HAT.out wr hbel;clear k0 k1;have HLk:=hide (HLE.out _ (List.getElem_mem hkl));have HQ2:=hide q2;clear q2;obtain ⟨f,hf⟩:∃f,f=fs[k]:=⟨_,rfl⟩;rw [←hf] at q0 q1 HQ2 HT HLk HAT;clear hf;obtain ⟨s,l⟩:=f
   simp only at q0 q1 HQ2 HLk HAT
   obtain ⟨p,hp⟩:∃p,p=l.length:=⟨_,rfl⟩;rw [←hp] at q1 HQ2 HAT;have HP:=hide hp;clear hp;have HDF:=hide (qab6 (fs.take k) (s,l) t);have HTL:=hide (show (delF (fs.take k) t).length≤1000 by have:=(qdm (fs.take k) t).length_le;rw [List.length_take] at this;omega)
   by_cases g1:s=t
   ·have g1':((bs s).toList==(bs t).toList)=true:=by rw [qep,g1];simp
    have HE:=hide (show delF (fs.take (k+1)) t=delF (fs.take k) t by rw [HT.out,HDF.out,if_pos g1]);clear g1;go_wp2;go_roundw
    case rel=>exact ⟨k+1,by omega,rfl,v,htw,hide (by rw [HE.out];exact hown.out),hbel,hBs⟩
    case measure=>simp only [intOf];omega
   have g1':((bs s).toList==(bs t).toList)=false:=by rw [qep];simpa using g1
   have HE:=hide (show delF (fs.take (k+1)) t=delF (fs.take k) t++[(s,l)] by rw [HT.out,HDF.out,if_neg g1]);clear g1;obtain ⟨fl,hfl⟩:∃fl,fl=(delF (fs.take k) t).length:=⟨_,rfl⟩
   obtain ⟨av,cv,hav⟩:∃av cv,v=.slice av fl cv:=by rw [hfl];exact hown.out.form
   subst hav;have HFL:=hide hfl;clear hfl;have HTW:=hide (qdj s a2 p c2 l wr (HQ2.out.carry hbel) HP.out HLk.out)
   obtain ⟨S,eS⟩:∃S:World→Prop,S=fun wx=>Twn B Q Rr X (.slice (some ⟨b,off,none⟩) n c) (.slice av fl cv) wx∧wx.cell? ⟨b,off+k*2,none⟩=some (.string (bs s))∧wx.cell? ⟨b,off+k*2+1,none⟩=some (.slice a2 p c2):=⟨_,rfl⟩
   have hK:Keeps S:=by rw [eS];exact (Twn.keeps _ _ _ _ _ _).and ((qaa _ _).and (qaa _ _))
   have hS0:S wr:=by rw [eS];exact ⟨htw.out,q0,q1⟩
   have HSB:=hide (show ∀wz,Below B wr wz→S wz from fun wz hz=>by
    rw [eS];obtain ⟨z0,z1⟩:=HAT.out wz (hbel.trans (hz.mono HBB.out))
    exact ⟨htw.out.low hz,z0,z1⟩)
   rw [eS] at hK hS0 HSB;clear eS;have hd1:=htw.out.2.1.cell;go_wp2;clear q0 q1
   refine qbb hK 11 (by kernel_rfl) hS0 ?_
   intro hS
   refine lP [0,1,2,3,4,5,6] 5 ?zp2a ?zp2p hS ?zp2n
   case zp2p=>
    iterate 7 (apply Yl.cons rfl (by kernel_rfl);focus (rintro wx ⟨y1,y4⟩;(have x1:=y1.2.1.cell);(have x3:=y1.2.2.2.cell);(have x4:=y4);clear y1 y4;try (obtain ⟨x4,x5⟩:=x4);go_simp;all_goals (with_reducible rfl));try simp only [Act.put,sA,sB,sC])
    exact Yl.nil
   refine lC 7 (TwR wr s p l) rfl HTW.out ?_
   rintro v7 w7 ⟨a7,c7,rfl,ho7,hb7⟩;have hS7:=hK _ _ hS0 hb7;refine ⟨hS7, ?_⟩;obtain ⟨g9,c9,w9,hrun,ho9,hb9⟩:=qdc (hown.out.carry hb7) (Nat.le_trans hBs hb7.size) (by have:=HTL.out;omega) s (.slice a7 p c7) l (ho7.mono hBs);rw [←HFL.out] at hrun ho9;have hb9':Below B wr w9:=(hb7.mono hBs).trans hb9;have hS9:=HSB.out w9 hb9';have hSa:=hK _ (w7.alloc (.cells #[.string (bs s),.slice a7 p c7] 98)) hS7 ((Below.refl _ _).alloc (Nat.le_refl _) _);have x9:=hS9.1.2.2.2.cell;have z9:=hS9.1.fz;clear hS;have hS:=hS7
   try simp only [Act.put,sA,sB,sC]
   refine lR 8 (.slice (some ⟨w7.heap.size,0,none⟩) 1 1) (w7.alloc (.cells #[.string (bs s),.slice a7 p c7] 98)) rfl (by go_simp) (fun _=>hSa) ?_
   try simp only [Act.put,sA,sB,sC]
   refine lR 9 (.slice (some ⟨g9,0,none⟩) (fl+1) c9) w9 rfl (qd2 (v:=.slice av fl cv) (y:=.slice (some ⟨w7.heap.size,0,none⟩) 1 1) rfl rfl rfl hrun) (fun _=>hS9) ?_
   clear hS;have hS:=hS9
   try simp only [Act.put,sA,sB,sC]
   refine lT 10 ?qav10 rfl ?qay10 hS ?qar10
   case qay10=>(rintro wx ⟨y1,y4⟩;(have x1:=y1.2.1.cell);(have x3:=y1.2.2.2.cell);(have x4:=y4);clear y1 y4;try (obtain ⟨x4,x5⟩:=x4);go_simp;all_goals (with_reducible rfl))
   try simp only [Act.put,sA,sB,sC]
   refine lL 11 (w9.setCell ⟨X,0,none⟩ (.slice (some ⟨g9,0,none⟩) (fl+1) c9)) rfl (by go_simp) ?_
   try simp only [Act.put,sA,sB,sC]
   refine lD ?_
   obtain ⟨t1,t2,t3⟩:=qqc HBB.out (hbel.trans (hb9'.mono HBB.out)) HXB.out hS9.1 ho9;have HT1:=hide t1;have HT2:=hide (show OwF _ B _ (delF (fs.take (k+1)) t) by rw [HE.out];exact t2);have HT3:=hide t3;have HT4:=hide (show B≤(w9.setCell ⟨X,0,none⟩ (.slice (some ⟨g9,0,none⟩) (fl+1) c9)).heap.size from Nat.le_trans (Nat.le_trans hBs hb9'.size) (qai _ _ _).size);clear t1 t2 t3 ho9 hb9 hb9' hrun x9 z9 hS hS7 hS9 hSa ho7 hb7 hK hS0 HSB;generalize w9.setCell ⟨X,0,none⟩ (.slice (some ⟨g9,0,none⟩) (fl+1) c9)=wz at *;go_wp2;go_roundw
   case rel=>exact ⟨k+1,by omega,rfl,_,HT1,HT2,HT3.out,HT4.out⟩
   case measure=>simp only [intOf];omega
  ·have hd:decide ((k:Int)<n)=false:=by simpa using (by omega:¬(k:Int)<n)
   have e:k=fs.length:=by have:=HN.out;omega
   rw [e,List.take_length] at hown;clear e;have hd1:=htw.out.2.1.cell;have hdx:=htw.out.2.2.2.cell;have hc:=htw.out.2.2.1.cell;have hf:=htw.out.2.2.1.fz;obtain ⟨fl,hfl⟩:∃fl,fl=(delF fs t).length:=⟨_,rfl⟩
   obtain ⟨av,cv,hav⟩:∃av cv,v=.slice av fl cv:=by rw [hfl];exact hown.out.form
   subst hav;clear hfl;obtain ⟨z0,hg, -⟩:=htw.out.2.2.1.put (.slice av fl cv);obtain ⟨y,hy⟩:=htw.out.2.2.1;have HO:=hide (hown.out.keptS hg hy (by decide) (by decide));have HBE:=hide (hbel.grown hg hbel.size (by intro k hk;cases hk;have:=HRB.out;omega));clear hy hg;go_wp2;obtain ⟨w9,hw9⟩:∃w9,w9=wr.setCell ⟨Rr,0,none⟩ (.slice av fl cv):=⟨_,rfl⟩;rw [←hw9] at z0 HO HBE ⊢
   try simp only [Exit.inBlock,Exit.then]
   refine bodyPost_ret (v:=.agg #[.slice av fl cv]) ?_ rfl ⟨_,rfl,HO.out.mono HBB.out,HBE.out⟩
   clear hw9 hc hd1 hdx hf
   simp [results,Tryz.results208,go_sem, *]
end Go.Proofs.YtmeaiocohalphaaGreatDoor
