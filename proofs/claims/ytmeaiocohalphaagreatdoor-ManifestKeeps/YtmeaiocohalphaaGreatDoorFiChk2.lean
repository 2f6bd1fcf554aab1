/-
  Extents that may be; those of all files; a directory's bytes; Check.
-/
import Derived.Test.YtmeaiocohalphaaGreatDoorFiKit
import Derived.Test.YtmeaiocohalphaaGreatDoorSNum
set_option maxHeartbeats 1000000
namespace Go.Proofs.YtmeaiocohalphaaGreatDoor
open Go.RowKit
set_option linter.unusedVariables false
set_option linter.unusedSimpArgs false
theorem qiu (s:List UInt8):(bs s).toList=s:=by rw [ByteArray.toList_eq,qbw]
theorem qet (s:List UInt8) (w:World):Calls Tryz.prog 201 #[.string (bs s)] w fun e w'=>e=.returned (.bool (qb2 s))∧w'=w:=by
 have hz:=qcl s
 by_cases h1:1≤s.length
 ·have h1':(1:Int)≤s.length:=by omega
  by_cases h2:s.length≤16
  ·have HN:=hide (show qb2 s=true by simp [qb2,h1,h2])
   have h2':(s.length:Int)≤16:=by omega
   go_enter Tryz.func201,Tryz.ntmps201
   go_wp2;go_ret;exact ⟨by rw [HN.out];rfl,rfl⟩
  ·have HN:=hide (show qb2 s=false by simp [qb2,h1,h2])
   have h2':(16:Int)<s.length:=by omega
   go_enter Tryz.func201,Tryz.ntmps201
   go_wp2;go_ret;exact ⟨by rw [HN.out];first | rfl | (simp;done) | (simp;omega),rfl⟩
 ·have HN:=hide (show qb2 s=false by simp [qb2,h1])
  have h1':(s.length:Int)<1:=by omega
  go_enter Tryz.func201,Tryz.ntmps201
  go_wp2;go_ret;exact ⟨by rw [HN.out];first | rfl | (simp;omega),rfl⟩
theorem qfp (b:Int) (w:World):Calls Tryz.prog 217 #[.int .i64 b] w fun e w'=>e=.returned (.bool (decide (blkP b)))∧w'=w:=by
 by_cases h1:34<b
 ·by_cases h2:b≤4096
  ·have HN:=hide (show decide (blkP b)=true by simp [blkP,h1,h2])
   go_enter Tryz.func217,Tryz.ntmps217
   go_wp2;go_ret;exact ⟨by rw [HN.out];rfl,rfl⟩
  ·have HN:=hide (show decide (blkP b)=false by simp [blkP,h2])
   have h2':4096<b:=by omega
   go_enter Tryz.func217,Tryz.ntmps217
   go_wp2;go_ret;exact ⟨by rw [HN.out];first | rfl | (simp;done) | (simp;omega),rfl⟩
 ·have HN:=hide (show decide (blkP b)=false by simp [blkP,h1])
  have h1':b≤34:=by omega
  go_enter Tryz.func217,Tryz.ntmps217
  go_wp2;go_ret;exact ⟨by rw [HN.out];first | rfl | (simp;omega),rfl⟩
theorem qaj5 (s t:List UInt8):Op.bytesLess (bs s).toList (bs t).toList=ltN s t:=by rw [qiu,qiu,qaid]
theorem qjn (s t:List UInt8):((bs s).toList==(bs t).toList)=(s==t):=by rw [qiu,qiu]
theorem qpy (a:Option Addr) (n c:Nat) (fs:List Fl) (w:World) (hrd:RdF w (.slice a n c) fs) (hn:n=fs.length):
  Calls Tryz.prog 258 #[.slice a n c] w fun e w'=>e=.returned (.bool (decide (qef fs)))∧Below w.heap.size w w':=by
 have hm:n≤maxLen:=hn ▸ hrd.len_le;unfold maxLen at hm;have HR:=hide hrd;have HN:=hide hn;clear hrd hn
 go_enter Tryz.func258,Tryz.ntmps258
 go_wp2
 go_loopw [7] (fun i wr=>∃k:Nat,k≤n∧i=.int .i64 k∧Hid (qef (fs.take k))∧Below w.heap.size w wr) (fun i _=>n - (intOf i).toNat)
 case atStart=>exact ⟨0,Nat.zero_le _,rfl,hide (by simpa using qaam),Below.refl _ _⟩
 case round=>
  obtain ⟨k,hk,rfl,hall,hbel⟩:=hrel
  by_cases hlt:k<n
  ·have hlt':(k:Int)<n:=by omega
   have hkl:k<fs.length:=by have:=HN.out;omega
   have HB:=hide (HR.out.carry hbel);obtain ⟨b,off,a2,c2,rfl,q0,q1,q2⟩:=HB.out.at k hkl;have HQ:=hide q2;clear q2;obtain ⟨f,hf⟩:∃f,f=fs[k]:=⟨_,rfl⟩;rw [←hf] at q0 q1 HQ;have HF:=hide hf;clear hf
   have hbel1:∀o,Below w.heap.size w (wr.alloc o):=fun o=>hbel.alloc hbel.size o
   have hname:=qet f.1
   cases hnm:qb2 f.1 with
   | false=>
    have HM:=hide (show decide (qef fs)=false by
     have:oneF fs[k]=false:=by rw [←HF.out];simp [oneF,hnm]
     simpa using qis hkl this)
    rw [hnm] at hname;clear hnm
    go_wp2_with (go_at_call 201;refine (hname _).mono ?_;rintro e wc ⟨rfl,rfl⟩)
    go_ret;exact ⟨by rw [HM.out];rfl,hbel1 _⟩
   | true=>
    rw [hnm] at hname;obtain ⟨m,hm2⟩:∃m,m=f.2.length:=⟨_,rfl⟩;rw [←hm2] at q1 HQ;have HM2:=hide hm2;clear hm2
    by_cases g1:m=0
    ·have HM:=hide (show decide (qef fs)=false by
      have:oneF fs[k]=false:=by rw [←HF.out];have:=HM2.out;simp [oneF,hnm];omega
      simpa using qis hkl this)
     clear hnm HM2 HQ;subst g1
     go_wp2_with (go_at_call 201;refine (hname _).mono ?_;rintro e wc ⟨rfl,rfl⟩)
     go_ret;exact ⟨by rw [HM.out];rfl,hbel1 _⟩
    have g1':((m:Int)==0)=false:=by simpa using g1
    by_cases g2:64<m
    ·have HM:=hide (show decide (qef fs)=false by
      have:oneF fs[k]=false:=by rw [←HF.out];have:=HM2.out;simp [oneF,hnm];omega
      simpa using qis hkl this)
     have g2':(64:Int)<m:=by omega
     clear hnm HM2 HQ
     go_wp2_with (go_at_call 201;refine (hname _).mono ?_;rintro e wc ⟨rfl,rfl⟩)
     go_ret;exact ⟨by rw [HM.out];rfl,hbel1 _⟩
    have g2':decide ((64:Int)<m)=false:=by simpa using (by omega:¬(64:Int)<m)
    have HO:=hide (show oneF fs[k]=true by rw [←HF.out];have:=HM2.out;simp [oneF,hnm];omega);clear hnm HM2 HQ;have HBB:Hid (∀o,Below w.heap.size w (wr.alloc o)):=hbel1;clear hbel1
    by_cases hk0:k=0
    ·subst hk0
     rw [Nat.zero_mul,Nat.add_zero] at q0 q1;have HA:=hide (show qef (fs.take (0+1)) from qno hkl hall.out HO.out (fun j hj=>by omega))
     go_wp2_with (go_at_call 201;refine (hname _).mono ?_;rintro e wc ⟨rfl,rfl⟩)
     go_quiet (fail)
     go_wp2;go_roundw
     case rel=>exact ⟨1,by omega,rfl,HA,by have:=HBB.out;first | exact below_drewN (this _) _ | exact (this _).drew | exact this _⟩
     case measure=>simp only [intOf];omega
    ·obtain ⟨j,rfl⟩:∃j,k=j+1:=⟨k - 1,by omega⟩
     obtain ⟨b',off',a3,c3,e3,q3,q4,q5⟩:=HB.out.at j (by omega);cases e3
     have hj':(j:Int)<n:=by omega
     have hw:IntKind.i64.wrap (j:Int)=j:=by rw [IntKind.wrap_i64];omega
     obtain ⟨s,hs⟩:∃s,s=(fs[j]).1:=⟨_,rfl⟩;rw [←hs] at q3;have HS:=hide hs
     have q6:∀o,(wr.alloc o).cell? ⟨b,off+j*2,none⟩=some (.string (bs s)):=fun o=>Lib.cell?_alloc_some _ q3
     clear q4 q5 hs
     cases hl:ltN s f.1 with
     | true=>
      have HA:=hide (show qef (fs.take (j+1+1)) from qno hkl hall.out HO.out (fun i hi=>by
       obtain rfl:i=j:=by omega
       rw [←HS.out,←HF.out];exact hl))
      have x1:Op.bytesLess (bs f.1).toList (bs s).toList=false:=by rw [qaj5];exact qaah hl
      have x2:((bs f.1).toList==(bs s).toList)=false:=by rw [qjn];simpa using (qaai hl).symm
      clear hl
      go_wp2_with (go_at_call 201;refine (hname _).mono ?_;rintro e wc ⟨rfl,rfl⟩)
      go_quiet (fail)
      go_wp2;go_roundw
      case rel=>exact ⟨j+2,by omega,by go_num,HA,by have:=HBB.out;first | exact below_drewN (this _) _ | exact (this _).drew | exact this _⟩
      case measure=>simp only [intOf];omega
     | false=>
      have HM:=hide (show decide (qef fs)=false by
       have:ltN (fs[j]).1 (fs[j+1]).1=false:=by rw [←HS.out,←HF.out];exact hl
       simpa using qyn hkl this)
      by_cases e0:f.1=s
      ·have x1:Op.bytesLess (bs f.1).toList (bs s).toList=false:=by rw [qaj5,e0];exact qdw s
       have x2:((bs f.1).toList==(bs s).toList)=true:=by rw [qjn,e0];simp
       clear hl e0
       go_wp2_with (go_at_call 201;refine (hname _).mono ?_;rintro e wc ⟨rfl,rfl⟩)
       go_quiet (fail)
       go_wp2;go_ret;exact ⟨by rw [HM.out];rfl,by have:=HBB.out;first | exact below_drewN (this _) _ | exact (this _).drew | exact this _⟩
      ·have x1:Op.bytesLess (bs f.1).toList (bs s).toList=true:=by rw [qaj5];exact qkp _ _ hl (fun e=>e0 e.symm)
       have x2:((bs f.1).toList==(bs s).toList)=false:=by rw [qjn];simpa using e0
       clear hl e0
       go_wp2_with (go_at_call 201;refine (hname _).mono ?_;rintro e wc ⟨rfl,rfl⟩)
       go_quiet (fail)
       go_wp2;go_ret;exact ⟨by rw [HM.out];rfl,by have:=HBB.out;first | exact below_drewN (this _) _ | exact (this _).drew | exact this _⟩
  ·have hd:decide ((k:Int)<n)=false:=by simpa using (by omega:¬(k:Int)<n)
   have e:k=fs.length:=by have:=HN.out;omega
   have HM:=hide (show decide (qef fs)=true by have:=hall.out;rw [e,List.take_length] at this;simpa using this);clear e;go_wp2;go_ret;exact ⟨by rw [HM.out];rfl,hbel⟩
theorem qh4 {l:List Ex} (h:chkX l=0):l.length≤4096∧∀x∈l,0≤x.1∧1≤x.2∧x.1+x.2≤4096:=by
 have h1:allX l=0:=by
  unfold chkX at h
  by_cases e:allX l=0
  ·exact e
  ·rw [if_pos e] at h;exact absurd h e
 unfold allX at h1
 split at h1
 ·cases h1
 ·split at h1
  ·rename_i h2 h3
   refine ⟨by omega,fun x hx=>?_⟩
   have:=List.all_eq_true.1 h3 x hx
   simp only [mayX,Bool.and_eq_true,decide_eq_true_eq] at this
   omega
  ·cases h1
theorem qiv (a:Option Addr) (n c:Nat) (l:List Ex) (B:Int) (w:World) (hrd:RdE w (.slice a n c) l) (hn:n=l.length) (hwf:∀x∈l,wfX x):
  Calls Tryz.prog 236 #[.slice a n c,.int .i64 B] w fun e w'=>e=.returned (.bool (decide (extP l B)))∧Below w.heap.size w w':=by
 have hm:n≤maxLen:=hn ▸ hrd.len_le;unfold maxLen at hm;have hchk:=qrv a n c l w hrd hn hwf;have HR:=hide hrd;have HN:=hide hn;clear hrd hn hwf
 by_cases hc:chkX l=0
 ·have HA:=hide (qh4 hc)
  have HC:=hide hc;rw [hc] at hchk;clear hc
  go_enter Tryz.func236,Tryz.ntmps236
  go_wp2_with (go_at_call 181;refine hchk.mono ?_;rintro e w1 ⟨rfl,hb1⟩)
  clear hchk
  go_loopw [12] (fun i wr=>∃k:Nat,k≤n∧i=.int .i64 k∧Hid (∀x∈l.take k,34≤x.1∧x.1+x.2≤B)∧Below w.heap.size w wr) (fun i _=>n - (intOf i).toNat)
  case atStart=>exact ⟨0,Nat.zero_le _,rfl,hide (by simp),hb1⟩
  case round=>
   obtain ⟨k,hk,rfl,hall,hbel⟩:=hrel;clear hb1
   by_cases hlt:k<n
   ·have hlt':(k:Int)<n:=by omega
    have hkl:k<l.length:=by have:=HN.out;omega
    obtain ⟨b,off,rfl,q0,q1⟩:=(HR.out.carry hbel).at k hkl;have hx:=HA.out.2 _ (List.getElem_mem hkl)
    have HK:=hide (show ∀P:Prop,P=(34≤(l[k]).1∧(l[k]).1+(l[k]).2≤B)→(P→∀x∈l.take (k+1),34≤x.1∧x.1+x.2≤B)∧(¬P→decide (extP l B)=false) by
     rintro P rfl;refine ⟨fun h x hx=>?_,fun h=>?_⟩
     ·rw [qbd l k hkl] at hx
      rcases List.mem_append.1 hx with hx | hx
      ·exact hall.out x hx
      ·rw [List.mem_singleton.1 hx];exact h
     ·simp only [decide_eq_false_iff_not]
      exact fun hP=>h (hP.2 _ (List.getElem_mem hkl)))
    obtain ⟨p,hp⟩:∃p,p=l[k]:=⟨_,rfl⟩;rw [←hp] at q0 q1 hx HK;clear hp;obtain ⟨x,y⟩:=p
    simp only at q0 q1 hx
    have HB:=hide (show ∀o,Below w.heap.size w (wr.alloc o) from fun o=>hbel.alloc hbel.size o)
    have hw:wrap64 (x+y)=x+y:=by unfold wrap64;omega
    by_cases g1:x<34
    ·have HM:=hide ((HK.out _ rfl).2 (fun h=>by simp only at h;omega))
     go_wp2
     all_goals first | (go_ret;exact ⟨by rw [HM.out];rfl,HB.out _⟩) | (exfalso;omega)
    ·by_cases g2:B<x+y
     ·have HM:=hide ((HK.out _ rfl).2 (fun h=>by simp only at h;omega))
      have g1':decide (x<34)=false:=by simpa using g1
      go_wp2
      all_goals first | (go_ret;exact ⟨by rw [HM.out];rfl,HB.out _⟩) | (exfalso;omega)
     ·have HA':=hide ((HK.out _ rfl).1 ⟨by simp only;omega,by simp only;omega⟩)
      have g1':decide (x<34)=false:=by simpa using g1
      have g2':decide (B<x+y)=false:=by simpa using g2
      go_wp2;go_roundw
      case rel=>exact ⟨k+1,by omega,rfl,HA',HB.out _⟩
      case measure=>simp only [intOf];omega
   ·have hd:decide ((k:Int)<n)=false:=by simpa using (by omega:¬(k:Int)<n)
    have e:k=l.length:=by have:=HN.out;omega
    have HM:=hide (show decide (extP l B)=true by
     have:=hall.out
     rw [e,List.take_length] at this
     exact decide_eq_true (⟨HC.out,this⟩:extP l B))
    clear e;go_wp2;go_ret;exact ⟨by rw [HM.out];rfl,hbel⟩
 ·have HM:=hide (show decide (extP l B)=false by simp [extP,hc])
  have hc':(chkX l==0)=false:=by simpa using hc
  go_enter Tryz.func236,Tryz.ntmps236
  go_wp2_with (go_at_call 181;refine hchk.mono ?_;rintro e w1 ⟨rfl,hb1⟩)
  all_goals first | (go_ret;exact ⟨by rw [HM.out];rfl,hb1⟩) | (exfalso;simp_all;done)
theorem qg9 (a:Option Addr) (n c:Nat) (fs:List Fl) (w:World) (hrd:RdF w (.slice a n c) fs) (hn:n=fs.length) (hl:(qao fs).length≤1000000):
  Calls Tryz.prog 237 #[.slice a n c] w fun e w'=>∃v,e=.returned v∧OwE w' w.heap.size v (qao fs)∧Below w.heap.size w w':=by
 have hm:n≤maxLen:=hn ▸ hrd.len_le;unfold maxLen at hm;have HR:=hide hrd;have HN:=hide hn;have HL:=hide hl;clear hrd hn hl
 go_enter Tryz.func237,Tryz.ntmps237
 go_wp2
 go_loopw [8,3] (fun i v wr=>∃k:Nat,k≤n∧i=.int .i64 k∧Hid (OwE wr w.heap.size v (qao (fs.take k)))∧Below w.heap.size w wr) (fun i _ _=>n - (intOf i).toNat)
 case atStart=>exact ⟨0,Nat.zero_le _,rfl,hide (by simpa [qao] using OwE.nil _ _),Below.refl _ _⟩
 case round=>
  obtain ⟨k,hk,rfl,hown,hbel⟩:=hrel
  by_cases hlt:k<n
  ·have hlt':(k:Int)<n:=by omega
   have hkl:k<fs.length:=by have:=HN.out;omega
   have HU:=hide (qyl fs k hkl)
   have HLL:=hide (show (qao (fs.take k)).length+(fs[k]).2.length≤1000000 by
    have h1:(qao (fs.take (k+1))).length≤(qao fs).length:=by
     have:qao fs=qao (fs.take (k+1))++qao (fs.drop (k+1)):=by unfold qao;rw [←List.flatMap_append,List.take_append_drop]
     rw [this,List.length_append];omega
    have h2:=HL.out;rw [HU.out,List.length_append] at h1
    omega)
   obtain ⟨b,off,a2,c2,rfl,q0,q1,q2⟩:=(HR.out.carry hbel).at k hkl;have HQ:=hide q2;clear q2;obtain ⟨f,hf⟩:∃f,f=fs[k]:=⟨_,rfl⟩;rw [←hf] at q0 q1 HQ HU HLL;clear hf
   have hbel1:∀o,Below w.heap.size w (wr.alloc o):=fun o=>hbel.alloc hbel.size o
   have hb0:∀o,Below wr.heap.size wr (wr.alloc o):=fun o=>(Below.refl _ _).alloc (Nat.le_refl _) _
   obtain ⟨L,hL⟩:∃L,L=qao (fs.take k):=⟨_,rfl⟩;rw [←hL] at hown HU HLL;clear hL;have HRUN:=hide (fun o=>qpx (hown.out.carry (hb0 o)) (hbel1 o).size (HQ.out.carry (hb0 o)) rfl HLL.out);have HB:=hide hbel1;clear hbel1 hb0;obtain ⟨m,hm2⟩:∃m,m=f.2.length:=⟨_,rfl⟩;rw [←hm2] at q1 HRUN;clear hm2 HQ;obtain ⟨w9,hw9⟩:∃w9,w9=wr.alloc (.cells #[.string (bs f.1),.slice a2 m c2] 98):=⟨_,rfl⟩;obtain ⟨b9,c9,w8,hrun,how9,hb9⟩:=HRUN.out (.cells #[.string (bs f.1),.slice a2 m c2] 98);have HO:=hide how9;have HB9:=hide (HB.out (.cells #[.string (bs f.1),.slice a2 m c2] 98) |>.trans hb9);clear how9 hb9 HRUN hw9
   go_wp2_with (at_builtin;refine qah rfl (.tmp 12) (.tmp 14) 96 rfl rfl rfl rfl hrun ?_)
   go_roundw
   case rel=>exact ⟨k+1,by omega,rfl,hide (by rw [HU.out,←List.length_append];exact HO.out),HB9.out⟩
   case measure=>simp only [intOf];omega
  ·have hd:decide ((k:Int)<n)=false:=by simpa using (by omega:¬(k:Int)<n)
   have e:k=fs.length:=by have:=HN.out;omega
   rw [e,List.take_length] at hown;clear e;go_wp2;go_ret;exact ⟨_,rfl,hown.out,hbel⟩
/-! ### bytes -/
def okB (fs:List Fl):Prop:=fs.length≤1000∧∀f∈fs,f.1.length≤1000∧f.2.length≤1000∧∀x∈f.2,0≤x.1∧x.1≤4096∧0≤x.2∧x.2≤4096
theorem qpz:∀(l:List Ex),(∀x∈l,0≤x.1∧x.1≤4096∧0≤x.2∧x.2≤4096)→(bytE l).length≤20*l.length
 | [],_=>by simp [bytE]
 | x::l,h=>by
  have ih:=qpz l (fun y hy=>h y (by simp [hy]));have h0:=h x (by simp);have h1:=qaf (n:=x.1.toNat) (by omega);have h2:=qaf (n:=x.2.toNat) (by omega);unfold bytE at ih ⊢
  simp only [List.flatMap_cons,List.length_append,List.length_cons,bytX]
  omega
theorem qabz (f:Fl) (h:f.1.length≤1000∧f.2.length≤1000∧∀x∈f.2,0≤x.1∧x.1≤4096∧0≤x.2∧x.2≤4096):(qdg f).length≤30000:=by
 have h1:=qaf (n:=f.1.length) (by omega);have h2:=qaf (n:=f.2.length) (by omega);have h3:=qpz f.2 h.2.2
 simp only [qdg,tx,List.length_append]
 omega
theorem qry:∀(fs:List Fl),(∀f∈fs,f.1.length≤1000∧f.2.length≤1000∧∀x∈f.2,0≤x.1∧x.1≤4096∧0≤x.2∧x.2≤4096)→(fs.flatMap qdg).length≤30000*fs.length
 | [],_=>by simp
 | f::fs,h=>by
  have ih:=qry fs (fun y hy=>h y (by simp [hy]));have h1:=qabz f (h f (by simp))
  simp only [List.flatMap_cons,List.length_append,List.length_cons]
  omega
theorem qaf6 {fs:List Fl} (h:okB fs) (k:Nat):((fs.take k).flatMap qdg).length≤30000000:=by
 have:=qry (fs.take k) (fun f hf=>h.2 f (List.mem_of_mem_take hf))
 have h2:(fs.take k).length≤1000:=by rw [List.length_take];have:=h.1;omega
 omega
abbrev OwBy (w:World) (base:Nat) (v:Value) (l:List UInt8):Prop:=w.ownsRow base 5 1 v l.length (u8v l)
theorem OwBy.carry {w w':World} {base:Nat} {v:Value} {l:List UInt8} (h:OwBy w base v l) (hb:Below w.heap.size w w'):OwBy w' base v l:=qa4 h hb
def KeepB (w w':World):Prop:=∀(k:Nat) (cs:Array Value) (t:TypeId) (fr:Nat × Nat),t≠5→w.heap[k]? =some (Obj.cells cs t fr)→w'.heap[k]? =some (Obj.cells cs t fr)
theorem KeepB.of_below {w w':World} (h:Below w.heap.size w w'):KeepB w w':=fun k cs t fr _ hk=>by rw [h.block k (Array.getElem?_eq_some_iff.1 hk).1];exact hk
theorem KeepB.refl (w:World):KeepB w w:=fun _ _ _ _ _ h=>h
theorem qw6 {w:World} {base:Nat} {v:Value} {l:List UInt8} (h:OwBy w base v l) (hb:base≤w.heap.size) {vx:Value} {l2:List UInt8} (h2:Rd w vx l2) (hl:l.length+l2.length≤1000000000):
  ∃v' w',(Builtin.append_ #[23,23] 23 #[v,vx]).run Tryz.prog w=.ok v' w'∧OwBy w' base v' (l++l2)∧Below base w w'∧KeepB w w':=by
 obtain ⟨i0,hi,hz0,hz1,hz2⟩:=info_parts Tryz.infoB
 have key:∀ad m c,vx=.slice (some ad) m c→m=l2.length→(∀j u,(u8v l2)[j]? =some u→w.cell? (ad.add j)=some u)→∃v' w',(Builtin.append_ #[23,23] 23 #[v,vx]).run Tryz.prog w=.ok v' w'∧OwBy w' base v' (l++l2)∧Below base w w'∧KeepB w w':=by
  rintro ad m c rfl rfl hn8;obtain ⟨v9,w9,hrun9,hown9,hg9,_⟩:=run_append_own (P:=Tryz.prog) w base 23 23 5 i0 _ 1 1 Tryz.underlying23 hi hz0 hz1 hz2 rfl (by decide) _ _ _ h ad l2.length c (u8v l2) (by simp [u8v]) hn8 (qc8 l2) (by unfold maxLen;omega) (by omega) hb
  have hb9:Below base w w9:=(Below.refl _ _).grown hg9 hb fun k hk=>(h.lt k hk).1
  rw [←List.length_append,←qf7] at hown9;refine ⟨v9,w9,hrun9,hown9,hb9,fun k cs t fr ht hk=>?_⟩;rw [hg9.block k (Array.getElem?_eq_some_iff.1 hk).1 ?_]
  ·exact hk
  ·intro e
   rcases h.2 with ⟨rfl,_⟩ | ⟨g,cap,cur,rfl,_,hgc,_⟩
   ·cases e
   ·cases e;rw [hk] at hgc;cases hgc;exact ht rfl
 rcases h2 with ⟨rfl,rfl | ⟨x,d,rfl⟩⟩ | ⟨b,off,c',rfl,hc,hm,hcell⟩
 ·refine ⟨v,w, ?_,by simpa using h,Below.refl _ _,KeepB.refl _⟩
  exact run_append_owned_none (P:=Tryz.prog) (w:=w) base 23 23 5 i0 1 Tryz.underlying23 hi _ _ _ h
 ·exact key _ _ _ rfl rfl (fun j u hj=>by simp [u8v] at hj)
 ·refine key _ _ _ rfl rfl fun j u hj=>?_
  obtain ⟨hj',rfl⟩:=qcs l2 j u hj;rw [Addr.add_lit];exact hcell j hj'
end Go.Proofs.YtmeaiocohalphaaGreatDoor
