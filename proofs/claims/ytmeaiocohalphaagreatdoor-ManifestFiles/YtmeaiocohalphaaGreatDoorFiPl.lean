/-
  Where a name has its place: place, and the library's binary search.
-/
import Derived.Test.YtmeaiocohalphaaGreatDoorFiKit
import Derived.Test.YtmeaiocohalphaaGreatDoorL2d
set_option maxHeartbeats 2000000
set_option maxRecDepth 100000
namespace Go.Proofs.YtmeaiocohalphaaGreatDoor
open Go.RowKit
set_option linter.all false
theorem qpy (s:List UInt8):(bs s).toList=s:=by rw [ByteArray.toList_eq,qbu]
theorem qe8 (s:List UInt8) (w:World):Calls Tryz.prog 201 #[.string (bs s)] w fun e w'=>e=.returned (.bool (qbm s))∧w'=w:=by
 have hz:=qbz s
 by_cases h1:1≤s.length
 ·have h1':(1:Int)≤s.length:=by omega
  by_cases h2:s.length≤16
  ·have HN:=hide (show qbm s=true by simp [qbm,h1,h2])
   have h2':(s.length:Int)≤16:=by omega
   go_enter Tryz.func201,Tryz.ntmps201
   go_wp2;go_ret;exact ⟨by rw [HN.out];rfl,rfl⟩
  ·have HN:=hide (show qbm s=false by simp [qbm,h1,h2])
   have h2':(16:Int)<s.length:=by omega
   go_enter Tryz.func201,Tryz.ntmps201
   go_wp2;go_ret;exact ⟨by rw [HN.out];first | rfl | (simp;done) | (simp;omega),rfl⟩
 ·have HN:=hide (show qbm s=false by simp [qbm,h1])
  have h1':(s.length:Int)<1:=by omega
  go_enter Tryz.func201,Tryz.ntmps201
  go_wp2;go_ret;exact ⟨by rw [HN.out];first | rfl | (simp;omega),rfl⟩
theorem qf9 (b:Int) (w:World):Calls Tryz.prog 217 #[.int .i64 b] w fun e w'=>e=.returned (.bool (decide (blkP b)))∧w'=w:=by
 by_cases h1:34<b
 ·by_cases h2:b≤4096
  ·have HN:=hide (show decide (blkP b)=true by simp [blkP,h1,h2])
   go_enter Tryz.func217,Tryz.ntmps217
   go_wp2;go_ret;exact ⟨by rw [HN.out];rfl,rfl⟩
  ·have HN:=hide (show decide (blkP b)=false by simp [blkP,h2])
   have h2':4096<b:=by omega
   go_enter Tryz.func217,Tryz.ntmps217
   go_wp2;go_ret;exact ⟨by rw [HN.out];first | rfl | (simp;done) | (simp;omega),rfl⟩
 ·have HN:=hide (show decide (blkP b)=false by simp [blkP,h1])
  have h1':b≤34:=by omega
  go_enter Tryz.func217,Tryz.ntmps217
  go_wp2;go_ret;exact ⟨by rw [HN.out];first | rfl | (simp;omega),rfl⟩
theorem qyz (s t:List UInt8):Op.bytesLess (bs s).toList (bs t).toList=ltN s t:=by rw [qpy,qpy,qaio]
theorem qep (s t:List UInt8):((bs s).toList==(bs t).toList)=(s==t):=by rw [qpy,qpy]
theorem qpz (a:Option Addr) (n c:Nat) (fs:List Fl) (w:World) (hrd:RdF w (.slice a n c) fs) (hn:n=fs.length):
  Calls Tryz.prog 258 #[.slice a n c] w fun e w'=>e=.returned (.bool (decide (qen fs)))∧Below w.heap.size w w':=by
 have hm:n≤maxLen:=hn ▸ hrd.len_le;unfold maxLen at hm;have HR:=hide hrd;have HN:=hide hn;clear hrd hn
 go_enter Tryz.func258,Tryz.ntmps258
 go_wp2
 go_loopw [7] (fun i wr=>∃k:Nat,k≤n∧i=.int .i64 k∧Hid (qen (fs.take k))∧Below w.heap.size w wr) (fun i _=>n - (intOf i).toNat)
 case atStart=>exact ⟨0,Nat.zero_le _,rfl,hide (by simpa using qra),Below.refl _ _⟩
 case round=>
  obtain ⟨k,hk,rfl,hall,hbel⟩:=hrel
  by_cases hlt:k<n
  ·have hlt':(k:Int)<n:=by omega
   have hkl:k<fs.length:=by have:=HN.out;omega
   have HB:=hide (HR.out.carry hbel);obtain ⟨b,off,a2,c2,rfl,q0,q1,q2⟩:=HB.out.at k hkl;have HQ:=hide q2;clear q2;obtain ⟨f,hf⟩:∃f,f=fs[k]:=⟨_,rfl⟩;rw [←hf] at q0 q1 HQ;have HF:=hide hf;clear hf
   have hbel1:∀o,Below w.heap.size w (wr.alloc o):=fun o=>hbel.alloc hbel.size o
   have hname:=qe8 f.1
   cases hnm:qbm f.1 with
   | false=>
    have HM:=hide (show decide (qen fs)=false by
     have:oneF fs[k]=false:=by rw [←HF.out];simp [oneF,hnm]
     simpa using qgr hkl this)
    rw [hnm] at hname;clear hnm
    go_wp2_with (go_at_call 201;refine (hname _).mono ?_;rintro e wc ⟨rfl,rfl⟩)
    go_ret;exact ⟨by rw [HM.out];rfl,hbel1 _⟩
   | true=>
    rw [hnm] at hname;obtain ⟨m,hm2⟩:∃m,m=f.2.length:=⟨_,rfl⟩;rw [←hm2] at q1 HQ;have HM2:=hide hm2;clear hm2
    by_cases g1:m=0
    ·have HM:=hide (show decide (qen fs)=false by
      have:oneF fs[k]=false:=by rw [←HF.out];have:=HM2.out;simp [oneF,hnm];omega
      simpa using qgr hkl this)
     clear hnm HM2 HQ;subst g1
     go_wp2_with (go_at_call 201;refine (hname _).mono ?_;rintro e wc ⟨rfl,rfl⟩)
     go_ret;exact ⟨by rw [HM.out];rfl,hbel1 _⟩
    have g1':((m:Int)==0)=false:=by simpa using g1
    by_cases g2:64<m
    ·have HM:=hide (show decide (qen fs)=false by
      have:oneF fs[k]=false:=by rw [←HF.out];have:=HM2.out;simp [oneF,hnm];omega
      simpa using qgr hkl this)
     have g2':(64:Int)<m:=by omega
     clear hnm HM2 HQ
     go_wp2_with (go_at_call 201;refine (hname _).mono ?_;rintro e wc ⟨rfl,rfl⟩)
     go_ret;exact ⟨by rw [HM.out];rfl,hbel1 _⟩
    have g2':decide ((64:Int)<m)=false:=by simpa using (by omega:¬(64:Int)<m)
    have HO:=hide (show oneF fs[k]=true by rw [←HF.out];have:=HM2.out;simp [oneF,hnm];omega);clear hnm HM2 HQ;have HBB:Hid (∀o,Below w.heap.size w (wr.alloc o)):=hbel1;clear hbel1
    by_cases hk0:k=0
    ·subst hk0
     rw [Nat.zero_mul,Nat.add_zero] at q0 q1;have HA:=hide (show qen (fs.take (0+1)) from qja hkl hall.out HO.out (fun j hj=>by omega))
     go_wp2_with (go_at_call 201;refine (hname _).mono ?_;rintro e wc ⟨rfl,rfl⟩)
     go_quiet (fail)
     go_wp2;go_roundw
     case rel=>exact ⟨1,by omega,rfl,HA,by have:=HBB.out;first | exact below_drewN (this _) _ | exact (this _).drew | exact this _⟩
     case measure=>simp only [intOf];omega
    ·obtain ⟨j,rfl⟩:∃j,k=j+1:=⟨k - 1,by omega⟩
     obtain ⟨b',off',a3,c3,e3,q3,q4,q5⟩:=HB.out.at j (by omega);cases e3
     have hj':(j:Int)<n:=by omega
     have hw:IntKind.i64.wrap (j:Int)=j:=by rw [IntKind.wrap_i64];omega
     obtain ⟨s,hs⟩:∃s,s=(fs[j]).1:=⟨_,rfl⟩;rw [←hs] at q3;have HS:=hide hs
     have q6:∀o,(wr.alloc o).cell? ⟨b,off+j*2,none⟩=some (.string (bs s)):=fun o=>Lib.cell?_alloc_some _ q3
     clear q4 q5 hs
     cases hl:ltN s f.1 with
     | true=>
      have HA:=hide (show qen (fs.take (j+1+1)) from qja hkl hall.out HO.out (fun i hi=>by
       obtain rfl:i=j:=by omega
       rw [←HS.out,←HF.out];exact hl))
      have x1:Op.bytesLess (bs f.1).toList (bs s).toList=false:=by rw [qyz];exact qh1 hl
      have x2:((bs f.1).toList==(bs s).toList)=false:=by rw [qep];simpa using (qv4 hl).symm
      clear hl
      go_wp2_with (go_at_call 201;refine (hname _).mono ?_;rintro e wc ⟨rfl,rfl⟩)
      go_quiet (fail)
      go_wp2;go_roundw
      case rel=>exact ⟨j+2,by omega,by go_num,HA,by have:=HBB.out;first | exact below_drewN (this _) _ | exact (this _).drew | exact this _⟩
      case measure=>simp only [intOf];omega
     | false=>
      have HM:=hide (show decide (qen fs)=false by
       have:ltN (fs[j]).1 (fs[j+1]).1=false:=by rw [←HS.out,←HF.out];exact hl
       simpa using qna hkl this)
      by_cases e0:f.1=s
      ·have x1:Op.bytesLess (bs f.1).toList (bs s).toList=false:=by rw [qyz,e0];exact qd8 s
       have x2:((bs f.1).toList==(bs s).toList)=true:=by rw [qep,e0];simp
       clear hl e0
       go_wp2_with (go_at_call 201;refine (hname _).mono ?_;rintro e wc ⟨rfl,rfl⟩)
       go_quiet (fail)
       go_wp2;go_ret;exact ⟨by rw [HM.out];rfl,by have:=HBB.out;first | exact below_drewN (this _) _ | exact (this _).drew | exact this _⟩
      ·have x1:Op.bytesLess (bs f.1).toList (bs s).toList=true:=by rw [qyz];exact qf0 _ _ hl (fun e=>e0 e.symm)
       have x2:((bs f.1).toList==(bs s).toList)=false:=by rw [qep];simpa using e0
       clear hl e0
       go_wp2_with (go_at_call 201;refine (hname _).mono ?_;rintro e wc ⟨rfl,rfl⟩)
       go_quiet (fail)
       go_wp2;go_ret;exact ⟨by rw [HM.out];rfl,by have:=HBB.out;first | exact below_drewN (this _) _ | exact (this _).drew | exact this _⟩
  ·have hd:decide ((k:Int)<n)=false:=by simpa using (by omega:¬(k:Int)<n)
   have e:k=fs.length:=by have:=HN.out;omega
   have HM:=hide (show decide (qen fs)=true by have:=hall.out;rw [e,List.take_length] at this;simpa using this);clear e;go_wp2;go_ret;exact ⟨by rw [HM.out];rfl,hbel⟩
theorem qif {l:List Ex} (h:chkX l=0):l.length≤4096∧∀x∈l,0≤x.1∧1≤x.2∧x.1+x.2≤4096:=by
 have h1:allX l=0:=by
  unfold chkX at h
  by_cases e:allX l=0
  ·exact e
  ·rw [if_pos e] at h;exact absurd h e
 unfold allX at h1
 split at h1
 ·cases h1
 ·split at h1
  ·rename_i h2 h3
   refine ⟨by omega,fun x hx=>?_⟩
   have:=List.all_eq_true.1 h3 x hx
   simp only [mayX,Bool.and_eq_true,decide_eq_true_eq] at this
   omega
  ·cases h1
theorem qji (a:Option Addr) (n c:Nat) (l:List Ex) (B:Int) (w:World) (hrd:RdE w (.slice a n c) l) (hn:n=l.length) (hwf:∀x∈l,wfX x):
  Calls Tryz.prog 236 #[.slice a n c,.int .i64 B] w fun e w'=>e=.returned (.bool (decide (extP l B)))∧Below w.heap.size w w':=by
 have hm:n≤maxLen:=hn ▸ hrd.len_le;unfold maxLen at hm;have hchk:=qr4 a n c l w hrd hn hwf;have HR:=hide hrd;have HN:=hide hn;clear hrd hn hwf
 by_cases hc:chkX l=0
 ·have HA:=hide (qif hc)
  have HC:=hide hc;rw [hc] at hchk;clear hc
  go_enter Tryz.func236,Tryz.ntmps236
  go_wp2_with (go_at_call 181;refine hchk.mono ?_;rintro e w1 ⟨rfl,hb1⟩)
  clear hchk
  go_loopw [12] (fun i wr=>∃k:Nat,k≤n∧i=.int .i64 k∧Hid (∀x∈l.take k,34≤x.1∧x.1+x.2≤B)∧Below w.heap.size w wr) (fun i _=>n - (intOf i).toNat)
  case atStart=>exact ⟨0,Nat.zero_le _,rfl,hide (by simp),hb1⟩
  case round=>
   obtain ⟨k,hk,rfl,hall,hbel⟩:=hrel;clear hb1
   by_cases hlt:k<n
   ·have hlt':(k:Int)<n:=by omega
    have hkl:k<l.length:=by have:=HN.out;omega
    obtain ⟨b,off,rfl,q0,q1⟩:=(HR.out.carry hbel).at k hkl;have hx:=HA.out.2 _ (List.getElem_mem hkl)
    have HK:=hide (show ∀P:Prop,P=(34≤(l[k]).1∧(l[k]).1+(l[k]).2≤B)→(P→∀x∈l.take (k+1),34≤x.1∧x.1+x.2≤B)∧(¬P→decide (extP l B)=false) by
     rintro P rfl;refine ⟨fun h x hx=>?_,fun h=>?_⟩
     ·rw [qay l k hkl] at hx
      rcases List.mem_append.1 hx with hx | hx
      ·exact hall.out x hx
      ·rw [List.mem_singleton.1 hx];exact h
     ·simp only [decide_eq_false_iff_not]
      exact fun hP=>h (hP.2 _ (List.getElem_mem hkl)))
    obtain ⟨p,hp⟩:∃p,p=l[k]:=⟨_,rfl⟩;rw [←hp] at q0 q1 hx HK;clear hp;obtain ⟨x,y⟩:=p
    simp only at q0 q1 hx
    have HB:=hide (show ∀o,Below w.heap.size w (wr.alloc o) from fun o=>hbel.alloc hbel.size o)
    have hw:wrap64 (x+y)=x+y:=by unfold wrap64;omega
    by_cases g1:x<34
    ·have HM:=hide ((HK.out _ rfl).2 (fun h=>by simp only at h;omega))
     go_wp2
     all_goals first | (go_ret;exact ⟨by rw [HM.out];rfl,HB.out _⟩) | (exfalso;omega)
    ·by_cases g2:B<x+y
     ·have HM:=hide ((HK.out _ rfl).2 (fun h=>by simp only at h;omega))
      have g1':decide (x<34)=false:=by simpa using g1
      go_wp2
      all_goals first | (go_ret;exact ⟨by rw [HM.out];rfl,HB.out _⟩) | (exfalso;omega)
     ·have HA':=hide ((HK.out _ rfl).1 ⟨by simp only;omega,by simp only;omega⟩)
      have g1':decide (x<34)=false:=by simpa using g1
      have g2':decide (B<x+y)=false:=by simpa using g2
      go_wp2;go_roundw
      case rel=>exact ⟨k+1,by omega,rfl,HA',HB.out _⟩
      case measure=>simp only [intOf];omega
   ·have hd:decide ((k:Int)<n)=false:=by simpa using (by omega:¬(k:Int)<n)
    have e:k=l.length:=by have:=HN.out;omega
    have HM:=hide (show decide (extP l B)=true by
     have:=hall.out
     rw [e,List.take_length] at this
     exact decide_eq_true (⟨HC.out,this⟩:extP l B))
    clear e;go_wp2;go_ret;exact ⟨by rw [HM.out];rfl,hbel⟩
 ·have HM:=hide (show decide (extP l B)=false by simp [extP,hc])
  have hc':(chkX l==0)=false:=by simpa using hc
  go_enter Tryz.func236,Tryz.ntmps236
  go_wp2_with (go_at_call 181;refine hchk.mono ?_;rintro e w1 ⟨rfl,hb1⟩)
  all_goals first | (go_ret;exact ⟨by rw [HM.out];rfl,hb1⟩) | (exfalso;simp_all;done)
theorem qhs (a:Option Addr) (n c:Nat) (fs:List Fl) (w:World) (hrd:RdF w (.slice a n c) fs) (hn:n=fs.length) (hl:(qan fs).length≤1000000):
  Calls Tryz.prog 237 #[.slice a n c] w fun e w'=>∃v,e=.returned v∧OwE w' w.heap.size v (qan fs)∧Below w.heap.size w w':=by
 have hm:n≤maxLen:=hn ▸ hrd.len_le;unfold maxLen at hm;have HR:=hide hrd;have HN:=hide hn;have HL:=hide hl;clear hrd hn hl
 go_enter Tryz.func237,Tryz.ntmps237
 go_wp2
 go_loopw [8,3] (fun i v wr=>∃k:Nat,k≤n∧i=.int .i64 k∧Hid (OwE wr w.heap.size v (qan (fs.take k)))∧Below w.heap.size w wr) (fun i _ _=>n - (intOf i).toNat)
 case atStart=>exact ⟨0,Nat.zero_le _,rfl,hide (by simpa [qan] using OwE.nil _ _),Below.refl _ _⟩
 case round=>
  obtain ⟨k,hk,rfl,hown,hbel⟩:=hrel
  by_cases hlt:k<n
  ·have hlt':(k:Int)<n:=by omega
   have hkl:k<fs.length:=by have:=HN.out;omega
   have HU:=hide (qi9 fs k hkl)
   have HLL:=hide (show (qan (fs.take k)).length+(fs[k]).2.length≤1000000 by
    have h1:(qan (fs.take (k+1))).length≤(qan fs).length:=by
     have:qan fs=qan (fs.take (k+1))++qan (fs.drop (k+1)):=by unfold qan;rw [←List.flatMap_append,List.take_append_drop]
     rw [this,List.length_append];omega
    have h2:=HL.out;rw [HU.out,List.length_append] at h1
    omega)
   obtain ⟨b,off,a2,c2,rfl,q0,q1,q2⟩:=(HR.out.carry hbel).at k hkl;have HQ:=hide q2;clear q2;obtain ⟨f,hf⟩:∃f,f=fs[k]:=⟨_,rfl⟩;rw [←hf] at q0 q1 HQ HU HLL;clear hf
   have hbel1:∀o,Below w.heap.size w (wr.alloc o):=fun o=>hbel.alloc hbel.size o
   have hb0:∀o,Below wr.heap.size wr (wr.alloc o):=fun o=>(Below.refl _ _).alloc (Nat.le_refl _) _
   obtain ⟨L,hL⟩:∃L,L=qan (fs.take k):=⟨_,rfl⟩;rw [←hL] at hown HU HLL;clear hL;have HRUN:=hide (fun o=>qf8 (hown.out.carry (hb0 o)) (hbel1 o).size (HQ.out.carry (hb0 o)) rfl HLL.out);have HB:=hide hbel1;clear hbel1 hb0;obtain ⟨m,hm2⟩:∃m,m=f.2.length:=⟨_,rfl⟩;rw [←hm2] at q1 HRUN;clear hm2 HQ;obtain ⟨w9,hw9⟩:∃w9,w9=wr.alloc (.cells #[.string (bs f.1),.slice a2 m c2] 98):=⟨_,rfl⟩;obtain ⟨b9,c9,w8,hrun,how9,hb9⟩:=HRUN.out (.cells #[.string (bs f.1),.slice a2 m c2] 98);have HO:=hide how9;have HB9:=hide (HB.out (.cells #[.string (bs f.1),.slice a2 m c2] 98) |>.trans hb9);clear how9 hb9 HRUN hw9
   go_wp2_with (at_builtin;refine qaf rfl (.tmp 12) (.tmp 14) 96 rfl rfl rfl rfl hrun ?_)
   go_roundw
   case rel=>exact ⟨k+1,by omega,rfl,hide (by rw [HU.out,←List.length_append];exact HO.out),HB9.out⟩
   case measure=>simp only [intOf];omega
  ·have hd:decide ((k:Int)<n)=false:=by simpa using (by omega:¬(k:Int)<n)
   have e:k=fs.length:=by have:=HN.out;omega
   rw [e,List.take_length] at hown;clear e;go_wp2;go_ret;exact ⟨_,rfl,hown.out,hbel⟩
/-! ### bytes -/
def okB (fs:List Fl):Prop:=fs.length≤1000∧∀f∈fs,f.1.length≤1000∧f.2.length≤1000∧∀x∈f.2,0≤x.1∧x.1≤4096∧0≤x.2∧x.2≤4096
theorem qkq:∀(l:List Ex),(∀x∈l,0≤x.1∧x.1≤4096∧0≤x.2∧x.2≤4096)→(bytE l).length≤20*l.length
 | [],_=>by simp [bytE]
 | x::l,h=>by
  have ih:=qkq l (fun y hy=>h y (by simp [hy]));have h0:=h x (by simp);have h1:=qag (n:=x.1.toNat) (by omega);have h2:=qag (n:=x.2.toNat) (by omega);unfold bytE at ih ⊢
  simp only [List.flatMap_cons,List.length_append,List.length_cons,bytX]
  omega
theorem qabt (f:Fl) (h:f.1.length≤1000∧f.2.length≤1000∧∀x∈f.2,0≤x.1∧x.1≤4096∧0≤x.2∧x.2≤4096):(qcf f).length≤30000:=by
 have h1:=qag (n:=f.1.length) (by omega);have h2:=qag (n:=f.2.length) (by omega);have h3:=qkq f.2 h.2.2
 simp only [qcf,tx,List.length_append]
 omega
theorem qsd:∀(fs:List Fl),(∀f∈fs,f.1.length≤1000∧f.2.length≤1000∧∀x∈f.2,0≤x.1∧x.1≤4096∧0≤x.2∧x.2≤4096)→(fs.flatMap qcf).length≤30000*fs.length
 | [],_=>by simp
 | f::fs,h=>by
  have ih:=qsd fs (fun y hy=>h y (by simp [hy]));have h1:=qabt f (h f (by simp))
  simp only [List.flatMap_cons,List.length_append,List.length_cons]
  omega
theorem qww {fs:List Fl} (h:okB fs) (k:Nat):((fs.take k).flatMap qcf).length≤30000000:=by
 have:=qsd (fs.take k) (fun f hf=>h.2 f (List.mem_of_mem_take hf))
 have h2:(fs.take k).length≤1000:=by rw [List.length_take];have:=h.1;omega
 omega
abbrev OwBy (w:World) (base:Nat) (v:Value) (l:List UInt8):Prop:=w.ownsRow base 5 1 v l.length (u8v l)
theorem OwBy.carry {w w':World} {base:Nat} {v:Value} {l:List UInt8} (h:OwBy w base v l) (hb:Below w.heap.size w w'):OwBy w' base v l:=qa7 h hb
def KeepB (w w':World):Prop:=∀(k:Nat) (cs:Array Value) (t:TypeId) (fr:Nat × Nat),t≠5→w.heap[k]? =some (Obj.cells cs t fr)→w'.heap[k]? =some (Obj.cells cs t fr)
theorem KeepB.of_below {w w':World} (h:Below w.heap.size w w'):KeepB w w':=fun k cs t fr _ hk=>by rw [h.block k (Array.getElem?_eq_some_iff.1 hk).1];exact hk
theorem KeepB.refl (w:World):KeepB w w:=fun _ _ _ _ _ h=>h
theorem qj1 {w:World} {base:Nat} {v:Value} {l:List UInt8} (h:OwBy w base v l) (hb:base≤w.heap.size) {vx:Value} {l2:List UInt8} (h2:Rd w vx l2) (hl:l.length+l2.length≤1000000000):
  ∃v' w',(Builtin.append_ #[23,23] 23 #[v,vx]).run Tryz.prog w=.ok v' w'∧OwBy w' base v' (l++l2)∧Below base w w'∧KeepB w w':=by
 obtain ⟨i0,hi,hz0,hz1,hz2⟩:=info_parts Tryz.infoB
 have key:∀ad m c,vx=.slice (some ad) m c→m=l2.length→(∀j u,(u8v l2)[j]? =some u→w.cell? (ad.add j)=some u)→∃v' w',(Builtin.append_ #[23,23] 23 #[v,vx]).run Tryz.prog w=.ok v' w'∧OwBy w' base v' (l++l2)∧Below base w w'∧KeepB w w':=by
  rintro ad m c rfl rfl hn8;obtain ⟨v9,w9,hrun9,hown9,hg9,_⟩:=run_append_own (P:=Tryz.prog) w base 23 23 5 i0 _ 1 1 Tryz.underlying23 hi hz0 hz1 hz2 rfl (by decide) _ _ _ h ad l2.length c (u8v l2) (by simp [u8v]) hn8 (qcx l2) (by unfold maxLen;omega) (by omega) hb
  have hb9:Below base w w9:=(Below.refl _ _).grown hg9 hb fun k hk=>(h.lt k hk).1
  rw [←List.length_append,←qd6] at hown9;refine ⟨v9,w9,hrun9,hown9,hb9,fun k cs t fr ht hk=>?_⟩;rw [hg9.block k (Array.getElem?_eq_some_iff.1 hk).1 ?_]
  ·exact hk
  ·intro e
   rcases h.2 with ⟨rfl,_⟩ | ⟨g,cap,cur,rfl,_,hgc,_⟩
   ·cases e
   ·cases e;rw [hk] at hgc;cases hgc;exact ht rfl
 rcases h2 with ⟨rfl,rfl | ⟨x,d,rfl⟩⟩ | ⟨b,off,c',rfl,hc,hm,hcell⟩
 ·refine ⟨v,w, ?_,by simpa using h,Below.refl _ _,KeepB.refl _⟩
  exact run_append_owned_none (P:=Tryz.prog) (w:=w) base 23 23 5 i0 1 Tryz.underlying23 hi _ _ _ h
 ·exact key _ _ _ rfl rfl (fun j u hj=>by simp [u8v] at hj)
 ·refine key _ _ _ rfl rfl fun j u hj=>?_
  obtain ⟨hj',rfl⟩:=qce l2 j u hj;rw [Addr.add_lit];exact hcell j hj'
theorem qkr (n:Nat) (w:World) (hn:n<18446744073709551616):Calls Tryz.prog 86 #[.int .u64 n] w fun e w'=>∃v,e=.returned v∧OwBy w' w.heap.size v (sm n)∧Below w.heap.size w w':=qlw n w hn
theorem qakj (s:List UInt8) (w:World) (hs:s.length≤1000000):Calls Tryz.prog 60 #[.string (bs s)] w fun e w'=>∃v,e=.returned v∧OwBy w' w.heap.size v (tx s)∧Below w.heap.size w w':=by
 have:=qws (bs s) w (by rw [qbz];omega)
 rwa [qbu] at this
theorem qun (a:Option Addr) (n c:Nat) (fs:List Fl) (w:World) (hrd:RdF w (.slice a n c) fs) (hn:n=fs.length) (hok:okB fs):
  Calls Tryz.prog 227 #[.slice a n c] w fun e w'=>∃v,e=.returned v∧OwBy w' w.heap.size v (bytF fs)∧Below w.heap.size w w':=by
 have hm:n≤1000:=hn ▸ hok.1;have HR:=hide hrd;have HN:=hide hn;have HK:=hide hok;clear hrd hn hok
 go_enter Tryz.func227,Tryz.ntmps227
 go_wp2_with fail
 refine (qkr n _ (by omega)).mono ?_
 rintro e w1 ⟨v1,rfl,ho1,hb1⟩;go_wp2
 go_loopw [14,3] (fun i v wr=>∃k:Nat,k≤n∧i=.int .i64 k∧Hid (OwBy wr w.heap.size v (sm n++(fs.take k).flatMap qcf))∧Below w.heap.size w wr) (fun i _ _=>n - (intOf i).toNat)
 case atStart=>exact ⟨0,Nat.zero_le _,rfl,hide (by simpa using ho1),hb1⟩
 case round=>
  obtain ⟨k,hk,rfl,hown,hbel⟩:=hrel;clear ho1 hb1
  by_cases hlt:k<n
  ·have hlt':(k:Int)<n:=by omega
   have hkl:k<fs.length:=by have:=HN.out;omega
   have HU:=hide (qq8 fs k hkl);have HLL:=hide (qww HK.out k);obtain ⟨b,off,a2,c2,rfl,q0,q1,q2⟩:=HR.out.atB hbel k hkl;have HQ:=hide q2;clear q2;have HFK:=hide (HK.out.2 _ (List.getElem_mem hkl));obtain ⟨f,hf⟩:∃f,f=fs[k]:=⟨_,rfl⟩;rw [←hf] at q0 q1 HQ HU HFK;clear hf;obtain ⟨L,hL⟩:∃L,L=(fs.take k).flatMap qcf:=⟨_,rfl⟩;rw [←hL] at hown HU HLL;clear hL;obtain ⟨m,hm2⟩:∃m,m=f.2.length:=⟨_,rfl⟩;rw [←hm2] at q1 HQ
   have hmm:m≤1000:=by rw [hm2];exact HFK.out.2.1
   have HM2:=hide hm2;clear hm2;have HSM:=hide (qag (n:=n) (by omega));have HSM2:=hide (qag (n:=m) (by omega))
   have HTX:=hide (show (tx f.1).length≤1010 by
    have h1:=HFK.out.1
    have:=qag (n:=f.1.length) (by omega)
    simp only [tx,List.length_append];omega)
   -- the file's copy,its name
   obtain ⟨w2,hw2⟩:∃w2,w2=wr.alloc (.cells #[.string (bs f.1),.slice a2 m c2] 98):=⟨_,rfl⟩
   have hblk:w2.heap[wr.heap.size]? =some (.cells #[.string (bs f.1),.slice a2 m c2] 98 (0,0)):=by rw [hw2];exact heap_alloc_new wr _
   have hb2:Below wr.heap.size wr w2:=by rw [hw2];exact (Below.refl _ _).alloc (Nat.le_refl _) _
   have hlt2:wr.heap.size<w2.heap.size:=by rw [hw2];simp
   have hbel2:Below w.heap.size w w2:=hbel.trans (hb2.mono hbel.size);have HO2:=hide (hown.out.carry hb2)
   go_wp2_with fail
   rw [←hw2];clear hown
   refine (qakj f.1 _ (by have:=HFK.out.1;omega)).mono ?_
   rintro e w3 ⟨v3,rfl,ho3,hb3⟩;have hbel3:Below w.heap.size w w3:=hbel2.trans (hb3.mono hbel2.size)
   obtain ⟨v4,w4,hrun4,ho4,hb4,hk4⟩:=qj1 (HO2.out.carry hb3) hbel3.size (qfy ho3) (by
    have h1:=HSM.out;have h2:=HLL.out;have h3:=HTX.out
    rw [List.length_append];omega)
   have hbel4:Below w.heap.size w w4:=hbel3.trans hb4;have hblk4:=hk4 _ _ _ _ (by decide) (KeepB.of_below hb3 _ _ _ _ (by decide) hblk)
   have r4:w4.cell? ⟨wr.heap.size,1,none⟩=some (.slice a2 m c2):=by rw [cell_of_row w4 wr.heap.size 1 _ _ (0,0) hblk4];rfl
   have HO4:=hide ho4;have HB4:=hide hbel4;have HK4:=hide hblk4;clear ho4 hbel4 hb4 hk4 ho3 hb3 hbel3 hblk hb2 hw2 hlt2 hbel2 HO2 hblk4 hbel q0 q1
   go_wp2_with (first | (at_builtin;refine qaf rfl (.tmp 18) (.tmp 21) 23 rfl rfl rfl rfl hrun4 ?_) | fail)
   refine (qkr m _ (by omega)).mono ?_
   rintro e w5 ⟨v5,rfl,ho5,hb5⟩;have hbel5:Below w.heap.size w w5:=HB4.out.trans (hb5.mono HB4.out.size)
   obtain ⟨v6,w6,hrun6,ho6,hb6,hk6⟩:=qj1 (HO4.out.carry hb5) hbel5.size (qfy ho5) (by
    have h1:=HSM.out;have h2:=HLL.out;have h3:=HTX.out;have h4:=HSM2.out
    simp only [List.length_append];omega)
   have hbel6:Below w.heap.size w w6:=hbel5.trans hb6;have hblk6:=hk6 _ _ _ _ (by decide) (KeepB.of_below hb5 _ _ _ _ (by decide) HK4.out)
   have r6:w6.cell? ⟨wr.heap.size,1,none⟩=some (.slice a2 m c2):=by rw [cell_of_row w6 wr.heap.size 1 _ _ (0,0) hblk6];rfl
   have HO6:=hide ho6;have HB6:=hide hbel6;clear ho6 hbel6 hb6 hk6 ho5 hb5 hbel5 hblk6 HO4 HB4 HK4 r4 hrun4
   go_wp2_with (at_builtin;refine qaf rfl (.tmp 23) (.tmp 28) 23 rfl rfl rfl rfl hrun6 ?_)
   go_loopw [33,3] (fun i v wx=>∃j:Nat,j≤m∧i=.int .i64 j∧Hid (OwBy wx w.heap.size v (sm n++L++tx f.1++sm m++bytE (f.2.take j)))∧Below w.heap.size w wx) (fun i _ _=>m - (intOf i).toNat)
   case atStart=>exact ⟨0,Nat.zero_le _,rfl,hide (by simpa [bytE] using HO6.out),HB6.out⟩
   case round=>
    obtain ⟨j,hj,rfl,hown,hbel⟩:=hrel;have HLT:=hide hlt;clear HO6 HB6 r6 hrun6 hlt' hlt
    by_cases hjm:j<m
    ·have hjm':(j:Int)<m:=by omega
     have hjl:j<f.2.length:=by have:=HM2.out;omega
     have HE:=hide (qq9 f.2 j hjl);obtain ⟨bx,ox,rfl,p0,p1⟩:=(HQ.out.carry hbel).at j hjl;have HX:=hide (HFK.out.2.2 _ (List.getElem_mem hjl))
     have HBE:=hide (show (bytE (f.2.take j)).length≤20000 by
      have:=qkq (f.2.take j) (fun x hx=>HFK.out.2.2 x (List.mem_of_mem_take hx))
      have h2:=HFK.out.2.1
      rw [List.length_take] at this;omega)
     obtain ⟨x,hx⟩:∃x,x=f.2[j]:=⟨_,rfl⟩;rw [←hx] at p0 p1 HE HX;clear hx;obtain ⟨x,y⟩:=x;obtain ⟨x,rfl⟩:∃p:Nat,x=p:=⟨x.toNat,by have:=HX.out.1;simp only at this;omega⟩;obtain ⟨y,rfl⟩:∃p:Nat,y=p:=⟨y.toNat,by have:=HX.out.2.2.1;simp only at this;omega⟩
     have hx1:x≤4096:=by have:=HX.out.2.1;simp only at this;omega
     have hy1:y≤4096:=by have:=HX.out.2.2.2;simp only at this;omega
     simp only at p0 p1
     have HE2:=hide (show bytE (f.2.take (j+1))=bytE (f.2.take j)++(sm x++sm y) by have:=HE.out;simpa [bytX] using this);clear HE HX;obtain ⟨M,hM⟩:∃M,M=sm n++L++tx f.1++sm m++bytE (f.2.take j):=⟨_,rfl⟩
     have HML:=hide (show M.length≤100000000 by
      have h1:=HSM.out;have h2:=HLL.out;have h3:=HTX.out;have h4:=HSM2.out;have h5:=HBE.out;rw [hM]
      simp only [List.length_append];omega)
     rw [←hM] at hown;have HM:=hide hM;clear hM;have HSX:=hide (qag (n:=x) (by omega));have HSY:=hide (qag (n:=y) (by omega));obtain ⟨w2,hw2⟩:∃w2,w2=wr.alloc (.cells #[.int .i64 (x:Int),.int .i64 (y:Int)] 237):=⟨_,rfl⟩
     have hblk:w2.heap[wr.heap.size]? =some (.cells #[.int .i64 (x:Int),.int .i64 (y:Int)] 237 (0,0)):=by rw [hw2];exact heap_alloc_new wr _
     have hb2:Below wr.heap.size wr w2:=by rw [hw2];exact (Below.refl _ _).alloc (Nat.le_refl _) _
     have hbel2:Below w.heap.size w w2:=hbel.trans (hb2.mono hbel.size);have HO2:=hide (hown.out.carry hb2);clear hown
     go_wp2_with fail
     rw [←hw2]
     refine (qkr x _ (by omega)).mono ?_
     rintro e w3 ⟨v3,rfl,ho3,hb3⟩;have hbel3:Below w.heap.size w w3:=hbel2.trans (hb3.mono hbel2.size)
     obtain ⟨v4,w4,hrun4,ho4,hb4,hk4⟩:=qj1 (HO2.out.carry hb3) hbel3.size (qfy ho3) (by
      have h1:=HML.out;have h2:=HSX.out
      omega)
     have hbel4:Below w.heap.size w w4:=hbel3.trans hb4;have hblk4:=hk4 _ _ _ _ (by decide) (KeepB.of_below hb3 _ _ _ _ (by decide) hblk)
     have r4:w4.cell? ⟨wr.heap.size,1,none⟩=some (.int .i64 (y:Int)):=by rw [cell_of_row w4 wr.heap.size 1 _ _ (0,0) hblk4];rfl
     have HO4:=hide ho4;have HB4:=hide hbel4;clear ho4 hbel4 hb4 hk4 ho3 hb3 hbel3 hblk hb2 hw2 hbel2 HO2 hblk4 hbel p0 p1
     go_wp2_with (first | (at_builtin;refine qaf rfl (.tmp 37) (.tmp 41) 23 rfl rfl rfl rfl hrun4 ?_) | fail)
     refine (qkr y _ (by omega)).mono ?_
     rintro e w5 ⟨v5,rfl,ho5,hb5⟩;have hbel5:Below w.heap.size w w5:=HB4.out.trans (hb5.mono HB4.out.size)
     obtain ⟨v6,w6,hrun6,ho6,hb6,hk6⟩:=qj1 (HO4.out.carry hb5) hbel5.size (qfy ho5) (by
      have h1:=HML.out;have h2:=HSX.out;have h3:=HSY.out
      simp only [List.length_append];omega)
     have HO6:=hide ho6;have HB6:=hide (hbel5.trans hb6);clear ho6 hb6 hk6 ho5 hb5 hbel5 HO4 HB4 r4 hrun4
     go_wp2_with (at_builtin;refine qaf rfl (.tmp 43) (.tmp 47) 23 rfl rfl rfl rfl hrun6 ?_)
     go_roundw
     case rel=>exact ⟨j+1,by omega,rfl,hide (by
      rw [HE2.out]
      have:=HO6.out
      rw [HM.out] at this
      simpa using this),HB6.out⟩
     case measure=>simp only [intOf];omega
    ·have hd2:decide ((j:Int)<m)=false:=by simpa using (by omega:¬(j:Int)<m)
     have e:j=f.2.length:=by have:=HM2.out;omega
     rw [e,List.take_length] at hown;have HO:=hide (hown.out);clear e hown;go_wp2;go_roundw
     case rel=>exact ⟨k+1,HLT.out,rfl,hide (by
      rw [HU.out]
      have:=HO.out
      rw [HM2.out] at this
      simpa [qcf] using this),hbel⟩
     case measure=>have:=HLT.out;simp only [intOf];omega
  ·have hd:decide ((k:Int)<n)=false:=by simpa using (by omega:¬(k:Int)<n)
   have e:k=fs.length:=by have:=HN.out;omega
   rw [e,List.take_length] at hown;clear e;go_wp2;go_ret;exact ⟨_,rfl,by have:=hown.out;rw [HN.out] at this;exact this,hbel⟩
theorem ql0:∀(fs:List Fl) (m:Nat),(∀f∈fs,f.2.length≤m)→(qan fs).length≤m*fs.length
 | [],m,_=>by simp [qan]
 | f::fs,m,h=>by
  have ih:=ql0 fs m (fun g hg=>h g (by simp [hg]));have h0:=h f (by simp);unfold qan at ih ⊢
  simp only [List.flatMap_cons,List.length_append,List.length_cons,Nat.mul_add]
  omega
theorem qei {fs:List Fl} (h:qen fs) (hl:fs.length≤40):(qan fs).length≤2560:=by
 have:=ql0 fs 64 (fun f hf=>(qdg (h.1 f hf)).2.2.2)
 omega
theorem okB_of {fs:List Fl} {B:Int} (hl:fs.length≤1000) (he:∀f∈fs,f.1.length≤1000∧f.2.length≤1000) (hx:chkX (qan fs)=0):okB fs:=by
 refine ⟨hl,fun f hf=>⟨(he f hf).1,(he f hf).2,fun x hx2=>?_⟩⟩
 have:=(qif hx).2 x (List.mem_flatMap.2 ⟨f,hf,hx2⟩)
 omega
theorem qga {fs:List Fl} {B:Int} (hl:fs.length≤40) (he:qen fs) (hx:extP (qan fs) B):okB fs:=
 okB_of (B:=B) (by omega) (fun f hf=>by have:=qdg (he.1 f hf);omega) hx.1
theorem qwx (a:Option Addr) (n c:Nat) (fs:List Fl) (w:World) (hrd:RdF w (.slice a n c) fs) (hn:n=fs.length) (hok:okB fs):
  Calls Tryz.prog 252 #[.slice a n c] w fun e w'=>e=.returned (.bool (decide ((bytF fs).length≤2048)))∧Below w.heap.size w w':=by
 have hby:=qun a n c fs w hrd hn hok;clear hrd hn hok;obtain ⟨L,hL⟩:∃L,L=bytF fs:=⟨_,rfl⟩;rw [←hL] at hby ⊢;clear hL
 go_enter Tryz.func252,Tryz.ntmps252
 go_wp2_with fail
 refine hby.mono ?_
 rintro e w1 ⟨v1,rfl,ho1,hb1⟩
 obtain ⟨a1,c1,rfl⟩:∃a1 c1,v1=.slice a1 L.length c1:=by
   rcases ho1.2 with ⟨rfl,h0⟩ | ⟨g,cap,cur,rfl,_⟩
   ·exact ⟨_,_,by rw [h0]⟩
   ·exact ⟨_,_,rfl⟩
 clear ho1 hby;obtain ⟨m,hm⟩:∃m,m=L.length:=⟨_,rfl⟩;rw [←hm];have HM:=hide hm;clear hm;go_wp2;go_ret;exact ⟨by have:=HM.out;simp;omega,hb1⟩
theorem qwy (a:Option Addr) (n c:Nat) (fs:List Fl) (B:Int) (w:World) (hrd:RdF w (.slice a n c) fs) (hn:n=fs.length) (hwf:wfFs fs):
  Calls Tryz.prog 219 #[.slice a n c,.int .i64 B] w fun e w'=>e=.returned (.bool (decide (mayF fs B)))∧Below w.heap.size w w':=by
 have hm:n≤maxLen:=hn ▸ hrd.len_le;unfold maxLen at hm
 by_cases g1:40<n
 ·have HM:=hide (show decide (mayF fs B)=false by simp only [decide_eq_false_iff_not];intro h;have:=h.1;omega)
  have g1':decide ((n:Int)≤40)=false:=by simpa using (by omega:¬(n:Int)≤40)
  clear hrd hn
  go_enter Tryz.func219,Tryz.ntmps219
  go_wp2
  all_goals first | (go_ret;exact ⟨by rw [HM.out];first | rfl | simp [g1'],Below.refl _ _⟩) | (exfalso;omega)
 have g1':(n:Int)≤40:=by omega
 have hl:fs.length≤40:=by omega
 have heach:=qpz a n c fs w hrd hn
 by_cases g2:qen fs
 ·have g2':decide (qen fs)=true:=by simpa using g2
  rw [g2'] at heach;clear g2';have hu:=qei g2 hl;have HEX:=hide (fun w1 (hb1:Below w.heap.size w w1)=>qhs a n c fs w1 (hrd.carry hb1) hn (by omega))
  by_cases g3:extP (qan fs) B
  ·have hok:=qga hl g2 g3
   have HFI:=hide (fun w1 (hb1:Below w.heap.size w w1)=>qwx a n c fs w1 (hrd.carry hb1) hn hok)
   have HM:=hide (show decide (mayF fs B)=decide ((bytF fs).length≤2048) by
    rw [decide_eq_decide]
    exact ⟨fun h=>h.2.2.2,fun h=>⟨hl,g2,g3,h⟩⟩)
   have HG3:=hide g3;have HU:=hide (qf7 hwf);clear hrd hn hwf g2 hu hok g3 hl
   go_enter Tryz.func219,Tryz.ntmps219
   go_wp2_with fail
   refine heach.mono ?_
   rintro e w1 ⟨rfl,hb1⟩;clear heach
   go_wp2_with fail
   refine (HEX.out _ hb1).mono ?_
   rintro e w2 ⟨v2,rfl,ho2,hb2⟩;have hb2':Below w.heap.size w w2:=hb1.trans (hb2.mono hb1.size);obtain ⟨a2,c2,rfl⟩:=ho2.form;obtain ⟨m2,hm2⟩:∃m2,m2=(qan fs).length:=⟨_,rfl⟩;rw [←hm2] at ho2 ⊢;have hext:=qji a2 m2 c2 (qan fs) B w2 ho2.rd hm2 HU.out;rw [show decide (extP (qan fs) B)=true by simpa using HG3.out] at hext;clear hm2 ho2 hb1 hb2
   go_wp2_with fail
   refine hext.mono ?_
   rintro e w3 ⟨rfl,hb3⟩;have hb3':Below w.heap.size w w3:=hb2'.trans (hb3.mono hb2'.size);clear hext hb3 hb2'
   go_wp2_with fail
   refine (HFI.out _ hb3').mono ?_
   rintro e w4 ⟨rfl,hb4⟩;have hb4':Below w.heap.size w w4:=hb3'.trans (hb4.mono hb3'.size);clear hb4 hb3';obtain ⟨r,hr⟩:∃r,r=decide ((bytF fs).length≤2048):=⟨_,rfl⟩;rw [←hr] at HM ⊢;clear hr;go_wp2;go_ret;exact ⟨by rw [HM.out];rfl,hb4'⟩
  ·have HM:=hide (show decide (mayF fs B)=false by simp only [decide_eq_false_iff_not];exact fun h=>g3 h.2.2.1)
   have HG3:=hide g3;have HU:=hide (qf7 hwf);clear hrd hn hwf g2 hu g3 hl
   go_enter Tryz.func219,Tryz.ntmps219
   go_wp2_with fail
   refine heach.mono ?_
   rintro e w1 ⟨rfl,hb1⟩;clear heach
   go_wp2_with fail
   refine (HEX.out _ hb1).mono ?_
   rintro e w2 ⟨v2,rfl,ho2,hb2⟩;have hb2':Below w.heap.size w w2:=hb1.trans (hb2.mono hb1.size);obtain ⟨a2,c2,rfl⟩:=ho2.form;obtain ⟨m2,hm2⟩:∃m2,m2=(qan fs).length:=⟨_,rfl⟩;rw [←hm2] at ho2 ⊢;have hext:=qji a2 m2 c2 (qan fs) B w2 ho2.rd hm2 HU.out;rw [show decide (extP (qan fs) B)=false by simpa using HG3.out] at hext;clear hm2 ho2 hb1 hb2
   go_wp2_with fail
   refine hext.mono ?_
   rintro e w3 ⟨rfl,hb3⟩;have hb3':Below w.heap.size w w3:=hb2'.trans (hb3.mono hb2'.size);clear hext hb3 hb2';go_wp2;go_ret;exact ⟨by rw [HM.out];rfl,hb3'⟩
 ·have g2':decide (qen fs)=false:=by simpa using g2
  rw [g2'] at heach;have HM:=hide (show decide (mayF fs B)=false by simp only [decide_eq_false_iff_not];exact fun h=>g2 h.2.1);clear hrd hn g2 g2' hl
  go_enter Tryz.func219,Tryz.ntmps219
  go_wp2_with fail
  refine heach.mono ?_
  rintro e w1 ⟨rfl,hb1⟩;go_wp2;go_ret;exact ⟨by rw [HM.out];rfl,hb1⟩
theorem qe9 (a:Option Addr) (n c:Nat) (fs:List Fl) (B:Int) (w:World) (hrd:RdF w (.slice a n c) fs) (hn:n=fs.length) (hwf:wfFs fs):
  Calls Tryz.prog 173 #[.agg #[.slice a n c],.int .i64 B] w fun e w'=>e=.returned (.int .i64 (chkF fs B))∧Below w.heap.size w w':=by
 have hb0:∀o,Below w.heap.size w (w.alloc o):=fun o=>(Below.refl _ _).alloc (Nat.le_refl _) _
 have HMY:=hide (fun w1 (hb1:Below w.heap.size w w1)=>qwy a n c fs B w1 (hrd.carry hb1) hn hwf);have HB0:=hide hb0;clear hrd hn hwf;have hblk:=qf9 B
 by_cases g1:blkP B
 ·rw [show decide (blkP B)=true by simpa using g1] at hblk
  have HM:=hide (show chkF fs B=if decide (mayF fs B)=true then 0 else 8 by unfold chkF;rw [if_neg (by simpa using g1)];simp);clear g1
  go_enter Tryz.func173,Tryz.ntmps173
  go_wp2_with (first | (go_at_call 217;refine (hblk _).mono ?_;rintro e w1 ⟨rfl,rfl⟩) | fail)
  refine (HMY.out _ (hb0 _)).mono ?_
  rintro e w2 ⟨rfl,hb2⟩;have hb2':Below w.heap.size w w2:=(HB0.out _).trans (hb2.mono (HB0.out _).size);obtain ⟨r,hr⟩:∃r,r=decide (mayF fs B):=⟨_,rfl⟩;rw [←hr] at HM ⊢;clear hr hb2 hb0 hblk
  cases r with
  | true=>
   go_wp2;go_ret;exact ⟨by rw [HM.out];rfl,hb2'⟩
  | false=>
   go_wp2;go_ret;exact ⟨by rw [HM.out];rfl,hb2'⟩
 ·rw [show decide (blkP B)=false by simpa using g1] at hblk
  have HM:=hide (show chkF fs B=2 by unfold chkF;rw [if_pos g1]);clear g1
  go_enter Tryz.func173,Tryz.ntmps173
  go_wp2_with (go_at_call 217;refine (hblk _).mono ?_;rintro e w1 ⟨rfl,rfl⟩)
  go_ret;exact ⟨by rw [HM.out];rfl,HB0.out _⟩
theorem qp0 (s t:List UInt8) (w:World):
  Calls Tryz.prog 272 #[.string (bs s),.string (bs t)] w fun e w'=>e=.returned (.int .i64 (Lib.compareBytes s t))∧w'=w:=by
 go_enter Tryz.func272,Tryz.ntmps272
 go_wp2;rw [run_callFunc_extern Tryz.func289 (by kernel_rfl) (by kernel_rfl) (by kernel_rfl) (e:=Extern.BytealgCompare.compare) (by kernel_rfl),Lib.run_compareString]
 simp only [Result.andThen,qbu]
 rw [Oper.upon_value];go_wp2;go_ret;exact ⟨rfl,rfl⟩
theorem qup (s t:List UInt8) (w:World):
  Calls Tryz.prog 248 #[.string (bs s),.string (bs t)] w fun e w'=>e=.returned (.int .i64 (Lib.compareBytes s t))∧w'=w:=by
 go_enter Tryz.func248,Tryz.ntmps248
 go_wp2_with (go_at_call 272;refine (qp0 s t _).mono ?_;rintro e wc ⟨rfl,rfl⟩)
 go_ret;exact ⟨rfl,rfl⟩
theorem qn9 (s t:List UInt8) (x:Value) (w:World):
  Calls Tryz.prog 247 #[.agg #[.string (bs s),x],.string (bs t)] w fun e w'=>e=.returned (.int .i64 (Lib.compareBytes s t))∧Below w.heap.size w w':=by
 have hb0:∀o,Below w.heap.size w (w.alloc o):=fun o=>(Below.refl _ _).alloc (Nat.le_refl _) _
 go_enter Tryz.func247,Tryz.ntmps247
 go_wp2_with (go_at_call 248;refine (qup s t _).mono ?_;rintro e wc ⟨rfl,rfl⟩)
 go_ret;exact ⟨rfl,hb0 _⟩
theorem quq (a:Option Addr) (n c:Nat) (fs:List Fl) (t:List UInt8) (w:World) (hrd:RdF w (.slice a n c) fs) (hn:n=fs.length) (hr:qcg fs) (hl:n≤1000000):
  Calls Tryz.prog 246 #[.slice a n c,.string (bs t),.func (.func 247) #[] #[]] w fun e w'=>e=.returned (.tuple #[.int .i64 (posF fs t),.bool (isF fs t)])∧Below w.heap.size w w':=by
 have HR:=hide hrd;have HN:=hide hn;have HS:=hide hr;clear hrd hn hr
 go_enter Tryz.func246,Tryz.ntmps246
 go_wp2
 go_loopw [9,10] (fun x y wr=>∃i j:Nat,i≤j∧j≤n∧x=.int .i64 i∧y=.int .i64 j∧Hid (∀k,(h:k<fs.length)→(k<i→ltN (fs[k]).1 t=true)∧(j≤k→ltN (fs[k]).1 t=false))∧Below w.heap.size w wr) (fun x y _=>(intOf y).toNat - (intOf x).toNat)
 case atStart=>exact ⟨0,n,Nat.zero_le _,Nat.le_refl _,rfl,rfl,hide (fun k h=>⟨fun h=>by omega,fun h2=>by have:=HN.out;omega⟩),Below.refl _ _⟩
 case round=>
  obtain ⟨i,j,hij,hjn,rfl,rfl,hin,hbel⟩:=hrel
  by_cases hlt:i<j
  ·have hlt':(i:Int)<j:=by omega
   obtain ⟨h,hh⟩:∃h,h=(i+j) / 2:=⟨_,rfl⟩
   have hih:i≤h:=by omega
   have hhj:h<j:=by omega
   have hhn:h<n:=by omega
   have hsh:((i:Int)+(j:Int)) / 2=(h:Int):=by omega
   have HH:=hide hh
   have hhn':(h:Int)<n:=by omega
   have hkl:h<fs.length:=by have:=HN.out;omega
   obtain ⟨b,off,a2,c2,rfl,q0,q1,q2⟩:=HR.out.atB hbel h hkl;clear hh;obtain ⟨f,hf⟩:∃f,f=fs[h]:=⟨_,rfl⟩;have HF:=hide hf;rw [←hf] at q0 q1;clear hf q2;obtain ⟨m,hm⟩:∃m,m=f.2.length:=⟨_,rfl⟩;rw [←hm] at q1;clear hm
   go_wp2_with fail
   refine (qn9 f.1 t _ _).mono ?_
   rintro e w1 ⟨rfl,hb1⟩;have hb1':Below w.heap.size w w1:=hbel.trans (hb1.mono hbel.size);have HC:=hide (qt7 f.1 t).1;obtain ⟨z,hz⟩:∃z,z=Lib.compareBytes f.1 t:=⟨_,rfl⟩;rw [←hz] at HC ⊢;clear hz hb1 q0 q1
   by_cases hz0:z<0
   ·have HLt:=hide (HC.out.1 hz0)
    go_wp2;go_roundw
    case rel=>exact ⟨h+1,j,by omega,hjn,rfl,rfl,hide (fun k hk=>⟨fun hkh=>by
      rcases Nat.lt_or_eq_of_le (Nat.le_of_lt_succ hkh) with h1 | h1
      ·exact qec _ _ _ (qkg HS.out h1 hkl) (by rw [←HF.out];exact HLt.out)
      ·subst h1;rw [←HF.out];exact HLt.out,fun hjk=>(hin.out k hk).2 hjk⟩),hb1'⟩
    case measure=>simp only [intOf];omega
   ·have HLt:=hide (show ltN f.1 t=false by
     cases hq:ltN f.1 t with
     | false=>rfl
     | true=>exact absurd (HC.out.2 hq) hz0)
    have hz0':decide (z<0)=false:=by simpa using hz0
    go_wp2;go_roundw
    case rel=>exact ⟨i,h,hih,by omega,rfl,rfl,hide (fun k hk=>⟨fun hki=>(hin.out k hk).1 hki,fun hhk=>by
      rcases Nat.lt_or_eq_of_le hhk with h1 | h1
      ·cases hq:ltN (fs[k]).1 t with
       | false=>rfl
       | true=>
        have:=qec _ _ _ (qkg HS.out h1 hk) hq
        rw [←HF.out,HLt.out] at this;cases this
      ·subst h1;rw [←HF.out];exact HLt.out⟩),hb1'⟩
    case measure=>simp only [intOf];omega
  ·have hd:decide ((i:Int)<j)=false:=by simpa using (by omega:¬(i:Int)<j)
   obtain rfl:i=j:=by omega
   have HP:=hide (qajy (fs:=fs) (s:=t) (i:=i) (by have:=HN.out;omega) (fun k h h2=>(hin.out k h).1 h2) (fun k h h2=>(hin.out k h).2 h2));have HI:=hide (qaip HS.out t)
   by_cases hin2:i<n
   ·have hin':(i:Int)<n:=by omega
    have hkl:i<fs.length:=by have:=HN.out;omega
    obtain ⟨b,off,a2,c2,rfl,q0,q1,q2⟩:=HR.out.atB hbel i hkl
    have HII:=hide (show isF fs t=((fs[i]).1==t) by
     have h1:=HP.out;rw [HI.out,dif_pos (by omega)]
     simp only [h1])
    obtain ⟨f,hf⟩:∃f,f=fs[i]:=⟨_,rfl⟩;rw [←hf] at q0 q1 HII;clear hf q2;obtain ⟨m,hm⟩:∃m,m=f.2.length:=⟨_,rfl⟩;rw [←hm] at q1;clear hm
    go_wp2_with fail
    refine (qn9 f.1 t _ _).mono ?_
    rintro e w1 ⟨rfl,hb1⟩;have hb1':Below w.heap.size w w1:=hbel.trans (hb1.mono hbel.size);have HC:=hide (qt7 f.1 t).2;obtain ⟨z,hz⟩:∃z,z=Lib.compareBytes f.1 t:=⟨_,rfl⟩;rw [←hz] at HC ⊢;clear hz hb1 q0 q1;go_wp2
    all_goals (
     go_ret2;refine ⟨?_,hb1'⟩
     have hc:(z==0)=(f.1==t):=by rw [Bool.eq_iff_iff];simpa using HC.out
     rw [HP.out,HII.out,←hc];simp)
   ·have hin':decide ((i:Int)<n)=false:=by simpa using (by omega:¬(i:Int)<n)
    have HII:=hide (show isF fs t=false by
     have h1:=HP.out;have h2:=HN.out
     rw [HI.out,dif_neg (by omega)])
    go_wp2;go_ret2;exact ⟨by rw [HP.out,HII.out];rfl,hbel⟩
theorem qig (a:Option Addr) (n c:Nat) (fs:List Fl) (t:List UInt8) (w:World) (hrd:RdF w (.slice a n c) fs) (hn:n=fs.length) (hr:qcg fs) (hl:n≤1000000):
  Calls Tryz.prog 202 #[.slice a n c,.string (bs t)] w fun e w'=>e=.returned (.tuple #[.int .i64 (posF fs t),.bool (isF fs t)])∧Below w.heap.size w w':=by
 have hbs:=quq a n c fs t w hrd hn hr hl;clear hrd hn hr
 go_enter Tryz.func202,Tryz.ntmps202
 go_wp2_with fail
 refine hbs.mono ?_
 rintro e w1 ⟨rfl,hb1⟩;go_wp2;go_ret2;exact ⟨rfl,hb1⟩
end Go.Proofs.YtmeaiocohalphaaGreatDoor
