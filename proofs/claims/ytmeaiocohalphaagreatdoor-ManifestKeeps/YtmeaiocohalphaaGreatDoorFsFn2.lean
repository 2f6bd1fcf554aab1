/-
  May files on a disk be?
-/
import Derived.Test.YtmeaiocohalphaaGreatDoorDMay
import Derived.Test.YtmeaiocohalphaaGreatDoorFiRef1
import Derived.Test.YtmeaiocohalphaaGreatDoorMathFi3
import Derived.Test.YtmeaiocohalphaaGreatDoorRmTop
import Derived.Test.YtmeaiocohalphaaGreatDoorSNum
import Derived.Test.YtmeaiocohalphaaGreatDoorFiCut3
import Derived.Test.YtmeaiocohalphaaGreatDoorRegL
import Derived.Test.YtmeaiocohalphaaGreatDoorFsFn1
set_option maxHeartbeats 4000000
set_option maxRecDepth 100000
namespace Go.Proofs.YtmeaiocohalphaaGreatDoor
open Go.RowKit
set_option linter.unusedVariables false
set_option linter.unusedSimpArgs false
theorem qace (a b:Option Addr) (n c m d:Nat) (l k:List Ex) (w:World) (h1:RdE w (.slice a n c) l) (h2:RdE w (.slice b m d) k) (hn:n=l.length) (hm:m=k.length):
  Calls Tryz.prog 265 #[.slice a n c,.slice b m d] w fun e w'=>e=.returned (.bool (decide (l=k)))∧Below w.heap.size w w':=by
 have hnm:n≤maxLen:=hn ▸ h1.len_le;unfold maxLen at hnm;have H1:=hide h1;have H2:=hide h2;have HN:=hide hn;have HM:=hide hm;clear h1 h2 hn hm
 by_cases g1:n=m
 ·subst g1
  go_enter Tryz.func265,Tryz.ntmps265
  go_wp2
  go_loopw [13] (fun i wr=>∃j:Nat,j≤n∧i=.int .i64 j∧Hid (l.take j=k.take j)∧Below w.heap.size w wr) (fun i _=>n - (intOf i).toNat)
  case atStart=>exact ⟨0,Nat.zero_le _,rfl,hide (by simp),Below.refl _ _⟩
  case round=>
   obtain ⟨j,hj,rfl,he,hbel⟩:=hrel
   by_cases hlt:j<n
   ·have hlt':(j:Int)<n:=by omega
    have hjl:j<l.length:=by have:=HN.out;omega
    have hjk:j<k.length:=by have:=HM.out;omega
    obtain ⟨b1,off1,rfl,q0,q1⟩:=(H1.out.carry hbel).at j hjl;obtain ⟨b2,off2,rfl,p0,p1⟩:=(H2.out.carry hbel).at j hjk
    have hw1:wrap64 ((j:Int)+1)=(j:Int)+1:=by unfold wrap64;omega
    by_cases hx:l[j]=k[j]
    ·have HE:=hide (show l.take (j+1)=k.take (j+1) by rw [qbr l j hjl,qbr k j hjk,he.out,hx])
     rw [hx] at q0 q1;clear hx;go_wp2
     go_quiet (fail)
     go_wp2;go_roundw
     case rel=>exact ⟨j+1,by omega,rfl,HE,below_drewN hbel _⟩
     case measure=>simp only [intOf];omega
    ·have HE:=hide (show decide (l=k)=false by
      rw [decide_eq_false_iff_not];rintro rfl
      exact hx rfl)
     have hne:¬((l[j]).1=(k[j]).1∧(l[j]).2=(k[j]).2):=fun h=>hx (Prod.ext h.1 h.2)
     clear hx;generalize (l[j]).1=z1 at *;generalize (l[j]).2=z2 at *;generalize (k[j]).1=z3 at *;generalize (k[j]).2=z4 at *
     by_cases hz:z1=z3
     ·subst hz
      have hne1:¬z2=z4:=fun h=>hne ⟨rfl,h⟩
      have hne':(z2==z4)=false:=by simpa using hne1
      clear hne;go_wp2
      go_quiet (fail)
      go_wp2;go_ret;exact ⟨by rw [HE.out];rfl,below_drewN hbel _⟩
     ·have hne':(z1==z3)=false:=by simpa using hz
      clear hne;go_wp2
      go_quiet (fail)
      go_wp2;go_ret;exact ⟨by rw [HE.out];rfl,below_drewN hbel _⟩
   ·have hd:decide ((j:Int)<n)=false:=by simpa using (by omega:¬(j:Int)<n)
    have HE:=hide (show decide (l=k)=true by
     rw [decide_eq_true_iff]
     have:=he.out
     rwa [List.take_of_length_le (by have:=HN.out;omega),List.take_of_length_le (by have:=HM.out;omega)] at this)
    go_wp2;go_ret;exact ⟨by rw [HE.out];rfl,hbel⟩
 ·have HE:=hide (show decide (l=k)=false by
   rw [decide_eq_false_iff_not];rintro rfl
   have:=HN.out
   have:=HM.out
   omega)
  have g1':((n:Int)==(m:Int))=false:=by simpa using (by omega:¬(n:Int)=m)
  go_enter Tryz.func265,Tryz.ntmps265
  go_wp2;go_ret;exact ⟨by rw [HE.out];rfl,Below.refl _ _⟩
theorem qr8 (s t:List UInt8) (a1:Option Addr) (n1 c1:Nat) (a2:Option Addr) (n2 c2:Nat) (l k:List Ex) (w:World) (h1:RdE w (.slice a1 n1 c1) l) (hn1:n1=l.length) (h2:RdE w (.slice a2 n2 c2) k) (hn2:n2=k.length):
  Calls Tryz.prog 231 #[.agg #[.string (bs s),.slice a1 n1 c1],.agg #[.string (bs t),.slice a2 n2 c2]] w fun e w'=>e=.returned (.bool (decide ((s,l)=(t,k))))∧Below w.heap.size w w':=by
 obtain ⟨W0,hW0⟩:∃W0,W0=(w.alloc (.cells #[.string (bs s),.slice a1 n1 c1] 98)).alloc (.cells #[.string (bs t),.slice a2 n2 c2] 98):=⟨_,rfl⟩
 have hb0:Below w.heap.size w W0:=by rw [hW0];exact ((Below.refl _ _).alloc (Nat.le_refl _) _).alloc (by simp) _
 have hsm:=qace a1 a2 n1 c1 n2 c2 l k W0 (h1.carry hb0) (h2.carry hb0) hn1 hn2;have HB0:=hide hb0;clear h1 hn1 h2 hn2 hb0
 by_cases e:s=t
 ·have x1:((bs s).toList==(bs t).toList)=true:=by rw [qjn,e];simp
  have HE:=hide (show decide ((s,l)=(t,k))=decide (l=k) by simp [e]);clear e
  go_enter Tryz.func231,Tryz.ntmps231
  go_wp2_with fail
  rw [←hW0]
  refine hsm.mono ?_
  rintro e w1 ⟨rfl,hb1⟩;have HB1:=hide (show Below w.heap.size w w1 from HB0.out.trans (hb1.mono HB0.out.size));clear hsm hb1 hW0;obtain ⟨r,hr⟩:∃r,r=decide (l=k):=⟨_,rfl⟩;rw [←hr] at HE ⊢;clear hr;go_wp2;go_ret;exact ⟨by rw [HE.out];rfl,HB1.out⟩
 ·have x1:((bs s).toList==(bs t).toList)=false:=by rw [qjn];simpa using e
  have HE:=hide (show decide ((s,l)=(t,k))=false by simp [e]);clear e hsm
  go_enter Tryz.func231,Tryz.ntmps231
  go_wp2;go_ret;exact ⟨by rw [HE.out];rfl,by rw [←hW0];exact HB0.out⟩
theorem qp6 (a:Option Addr) (n c:Nat) (fs:List Fl) (a':Option Addr) (m c':Nat) (gs:List Fl) (w:World) (h1:RdF w (.slice a n c) fs) (hn:n=fs.length) (h2:RdF w (.slice a' m c') gs) (hm:m=gs.length):
  Calls Tryz.prog 230 #[.slice a n c,.slice a' m c',.func (.func 231) #[] #[]] w fun e w'=>e=.returned (.bool (decide (fs=gs)))∧Below w.heap.size w w':=by
 have hnb:n≤maxLen:=hn ▸ h1.len_le;unfold maxLen at hnb;have H1:=hide h1;have H2:=hide h2;have HN:=hide hn;have HM:=hide hm;clear h1 h2 hn hm
 by_cases g1:n=m
 ·subst g1
  go_enter Tryz.func230,Tryz.ntmps230
  go_wp2
  go_loopw [17] (fun i wr=>∃k:Nat,k≤n∧i=.int .i64 k∧Hid (fs.take k=gs.take k)∧Below w.heap.size w wr) (fun i _=>n - (intOf i).toNat)
  case atStart=>exact ⟨0,Nat.zero_le _,rfl,hide rfl,Below.refl _ _⟩
  case round=>
   obtain ⟨k,hk,rfl,hall,hbel⟩:=hrel
   by_cases hlt:k<n
   ·have hlt':(k:Int)<n:=by omega
    have hkl:k<fs.length:=by have:=HN.out;omega
    have hkg:k<gs.length:=by have:=HM.out;omega
    have hw1:wrap64 ((k:Int)+1)=(k:Int)+1:=by unfold wrap64;omega
    have HT:=hide (qbd fs k hkl);have HU:=hide (qbd gs k hkg);obtain ⟨b,off,a2,c2,rfl,q0,q1,q2⟩:=H1.out.atB hbel k hkl;obtain ⟨b',off',a3,c3,rfl,p0,p1,p2⟩:=H2.out.atB hbel k hkg
    have HX:=hide (show fs[k]≠gs[k]→decide (fs=gs)=false by
     intro h
     simp only [decide_eq_false_iff_not]
     rintro rfl
     exact h rfl)
    obtain ⟨f,hf⟩:∃f,f=fs[k]:=⟨_,rfl⟩;obtain ⟨g,hg⟩:∃g,g=gs[k]:=⟨_,rfl⟩;rw [←hf] at q0 q1 q2 HT HX;rw [←hg] at p0 p1 p2 HU HX;clear hf hg;obtain ⟨s,l⟩:=f;obtain ⟨t,l'⟩:=g
    simp only at q0 q1 q2 p0 p1 p2
    obtain ⟨m1,hm1⟩:∃m1,m1=l.length:=⟨_,rfl⟩;obtain ⟨m2,hm2⟩:∃m2,m2=l'.length:=⟨_,rfl⟩;rw [←hm1] at q1 q2;rw [←hm2] at p1 p2;obtain ⟨w2,hw2⟩:∃w2,w2=(wr.alloc (.cells #[.string (bs s),.slice a2 m1 c2] 98)).alloc (.cells #[.string (bs t),.slice a3 m2 c3] 98):=⟨_,rfl⟩
    have hb2:Below wr.heap.size wr w2:=by rw [hw2];exact ((Below.refl _ _).alloc (Nat.le_refl _) _).alloc (by simp) _
    have hbel2:Below w.heap.size w w2:=hbel.trans (hb2.mono hbel.size);have hsf:=qr8 s t a2 m1 c2 a3 m2 c3 l l' w2 (q2.carry hbel2) hm1 (p2.carry hbel2) hm2;obtain ⟨r,hr⟩:∃r,r=decide ((s,l)=(t,l')):=⟨_,rfl⟩;rw [←hr] at hsf;have HR:=hide hr
    have p0a:∀o,(wr.alloc o).cell? ⟨b',off'+k*2,none⟩=some (.string (bs t)):=fun o=>Lib.cell?_alloc_some _ p0
    have p1a:∀o,(wr.alloc o).cell? ⟨b',off'+k*2+1,none⟩=some (.slice a3 m2 c3):=fun o=>Lib.cell?_alloc_some _ p1
    have x0:w2.cell? ⟨wr.heap.size,0,none⟩=some (.string (bs s)):=by
     rw [hw2];exact Lib.cell?_alloc_some _ (FileAt.new wr (bs s) (.slice a2 m1 c2)).cell0
    have x1:w2.cell? ⟨wr.heap.size,1,none⟩=some (.slice a2 m1 c2):=by
     rw [hw2];exact Lib.cell?_alloc_some _ (FileAt.new wr (bs s) (.slice a2 m1 c2)).cell1
    rw [hw2] at x0 x1;clear hr hm1 hm2 q2 p2 hb2
    go_wp2_with fail
    rw [←hw2]
    refine hsf.mono ?_
    rintro e w3 ⟨rfl,b3⟩;have hbel3:Below w.heap.size w w3:=hbel2.trans (b3.mono hbel2.size);clear hsf hw2 x0 x1 p0a p1a b3 hbel2 hbel
    cases r with
    | true=>
     have e:(s,l)=(t,l'):=by have:=HR.out;simpa using this.symm
     have HA:=hide (show fs.take (k+1)=gs.take (k+1) by rw [HT.out,HU.out,hall.out,e]);clear e;go_wp2;go_roundw
     case rel=>exact ⟨k+1,by omega,rfl,HA,hbel3⟩
     case measure=>simp only [intOf];omega
    | false=>
     have HA:=hide (HX.out (by have:=HR.out;exact of_decide_eq_false this.symm));go_wp2;go_ret;exact ⟨by rw [HA.out];rfl,hbel3⟩
   ·have hd:decide ((k:Int)<n)=false:=by simpa using (by omega:¬(k:Int)<n)
    have HA:=hide (show decide (fs=gs)=true by
     have h:=hall.out;rw [List.take_of_length_le (by have:=HN.out;omega),List.take_of_length_le (by have:=HM.out;omega)] at h
     simpa using h)
    go_wp2;go_ret;exact ⟨by rw [HA.out];rfl,hbel⟩
 ·have HA:=hide (show decide (fs=gs)=false by
   simp only [decide_eq_false_iff_not]
   rintro rfl
   exact g1 (HN.out.trans HM.out.symm))
  have g1':((n:Int)==(m:Int))=false:=by simp;omega
  go_enter Tryz.func230,Tryz.ntmps230
  go_wp2
  all_goals (go_ret;exact ⟨by rw [HA.out];rfl,Below.refl _ _⟩)
theorem qacf (a:Option Addr) (n c:Nat) (fs:List Fl) (a':Option Addr) (m c':Nat) (gs:List Fl) (w:World) (h1:RdF w (.slice a n c) fs) (hn:n=fs.length) (h2:RdF w (.slice a' m c') gs) (hm:m=gs.length):
  Calls Tryz.prog 172 #[.agg #[.slice a n c],.agg #[.slice a' m c']] w fun e w'=>e=.returned (.bool (decide (fs=gs)))∧Below w.heap.size w w':=by
 obtain ⟨W0,hW0⟩:∃W0,W0=(w.alloc (.cells #[.slice a n c] 31)).alloc (.cells #[.slice a' m c'] 31):=⟨_,rfl⟩;have hb1:Below w.heap.size w (w.alloc (.cells #[.slice a n c] 31)):=(Below.refl _ _).alloc (Nat.le_refl _) _
 have hb0:Below w.heap.size w W0:=by rw [hW0];exact hb1.alloc (by simp) _
 have d0:=(show DirAt W0 w.heap.size (.slice a n c) by
  rw [hW0]
  exact (DirAt.new w (.slice a n c)).carry ((Below.refl _ _).alloc (Nat.le_refl _) _)).cell
 have d1:=(show DirAt W0 (w.heap.size+1) (.slice a' m c') by
  have:=DirAt.new (w.alloc (.cells #[.slice a n c] 31)) (.slice a' m c')
  rw [hW0];simpa using this).cell
 rw [hW0] at d0 d1;have heq:=qp6 a n c fs a' m c' gs W0 (h1.carry hb0) hn (h2.carry hb0) hm;have HB0:=hide hb0;obtain ⟨r,hr⟩:∃r,r=decide (fs=gs):=⟨_,rfl⟩;rw [←hr] at heq;have HR:=hide hr;clear h1 h2 hn hm hb0 hb1 hr
 go_enter Tryz.func172,Tryz.ntmps172
 go_wp2_with fail
 rw [←hW0]
 refine heq.mono ?_
 rintro e w1 ⟨rfl,b1⟩;clear heq hW0 d0 d1;go_wp2;go_ret;exact ⟨by rw [←HR.out];rfl,HB0.out.trans (b1.mono HB0.out.size)⟩
/-! ### what is turned -/
theorem lo_ok {n1 c1 m sz lo ge ar:Nat} (h1:n1=128*m) (hm:34<m) (hs:sz≤2048) (hc:n1≤c1) (har:ar=2+ge % 2*16) (hlo:lo=ar*128):lo≤n1∧¬lo=c1∧lo≤c1∧sz≤n1 - lo∧sz≤c1 - lo∧lo+sz≤n1∧lo≤4096:=by omega
theorem qake {lo ge ar:Nat} (har:ar=2+ge % 2*16) (hlo:lo=ar*128):wrap64 ((ar:Int)*128)=(lo:Int):=by
 unfold wrap64;omega
theorem rd_at {w:World} {b off n c:Nat} {l:List UInt8} (h:Rd w (.slice (some ⟨b,off,none⟩) n c) l) (lo sz:Nat) (h2:lo+sz≤l.length) (hl:l≠[]):Rd w (.slice (some ⟨b,off+lo,none⟩) sz (c - lo)) ((l.drop lo).take sz):=by
 by_cases h0:sz=0
 ·subst h0;exact .inl ⟨by simp,.inr ⟨_,_,rfl⟩⟩
 ·obtain ⟨b',off',e,_,_,h3⟩:=qro h lo (lo+sz) (by omega) h2
  cases e;rw [show lo+sz - lo=sz by omega] at h3;exact h3
theorem qxl {w:World} {a:Option Addr} {n c:Nat} {l:List UInt8} (h:Rd w (.slice a n c) l) (hl:l≠[]):∃b off,a=some ⟨b,off,none⟩∧n≤c:=by
 rcases h with ⟨rfl,_⟩ | ⟨b,off,c',e,e1,e2,hc⟩
 ·exact absurd rfl hl
 ·cases e;exact ⟨b,off,rfl,e1⟩
theorem RdD.d1 {w:World} {x1:Option Addr} {m1 d1:Nat} {v2 v3:Value} {d:Dk} (h:RdD w (.agg #[.slice x1 m1 d1,v2,v3]) d):Rd w (.slice x1 m1 d1) d.1:=by
 obtain ⟨x,y,z,e,h1,h2,h3⟩:=h;have e1:_=x:=congrArg (fun v:Value=>match v with | .agg z=>z[0]! | _=>undef) e
 simp at e1
 rw [e1];exact h1
theorem RdD.d2 {w:World} {v1 v2 v3:Value} {d:Dk} (h:RdD w (.agg #[v1,v2,v3]) d):RdW w v2 d.2.1:=by
 obtain ⟨x,y,z,e,h1,h2,h3⟩:=h;have e1:_=y:=congrArg (fun v:Value=>match v with | .agg z=>z[1]! | _=>undef) e
 simp at e1
 rw [e1];exact h2
theorem qakf {f:Fsd} {ge sz:Nat} (hL:qat f.1=(ge,sz,0)) (hg:ge=f.2.1) (ha:f.1.2.1.any (fun p=>decide (p.1<34))=false):
  decide (okFs f)=(decide (qdh (genB f.1 ge sz) (mny f.1)=0) && decide (qg3 (genB f.1 ge sz) (mny f.1)=f.2.2.2) && decide (chkF f.2.2.1 (mny f.1)=0)):=by
 subst hg
 have h1:∀p∈f.1.2.1,34≤p.1:=by
  intro p hp
  have:=List.any_eq_false.1 ha p hp
  simp at this;omega
 rw [Bool.eq_iff_iff]
 simp only [decide_eq_true_eq,Bool.and_eq_true]
 unfold okFs;rw [hL]
 constructor
 ·rintro ⟨_,_,_,h2,h3,h4⟩;exact ⟨⟨h2,h3⟩,h4⟩
 ·rintro ⟨⟨h2,h3⟩,h4⟩;exact ⟨rfl,rfl,h1,h2,h3,h4⟩
theorem qxm {f:Fsd} {ge sz:Nat} {er:Int} (hL:qat f.1=(ge,sz,er)) (h:er≠0∨ge≠f.2.1):decide (okFs f)=false:=by
 rw [decide_eq_false_iff_not];rintro ⟨h1,h2,_⟩;rw [hL] at h1 h2
 rcases h with h | h
 ·exact h h1
 ·exact h h2
theorem qagk {f:Fsd} (h:f.1.2.1.any (fun p=>decide (p.1<34))=true):decide (okFs f)=false:=by
 rw [decide_eq_false_iff_not];rintro ⟨_,_,h3,_⟩;obtain ⟨p,hp,h4⟩:=List.any_eq_true.1 h
 have:=h3 p hp
 simp at h4
 omega
theorem qr9 {d:Dk} {ge sz:Nat} (h:qat d=(ge,sz,0)):sz≤2048∧ge<4294967296∧d.1.length=128*mny d∧34<mny d∧mny d≤4096∧okD d=true:=by
 obtain ⟨h1,h2,hg,hb⟩:=qgi h
 have:=qit hb hg
 have h3:=(qb3 d).1 h1
 refine ⟨?_, ?_,by have:=h3.1;unfold mny;omega,h2,h3.2.2.1,h1⟩<;>
 ·unfold qbv at this
  split at this
  ·have e1:=congrArg Prod.fst this
   have e2:=congrArg Prod.snd this
   simp only at e1 e2
   have:=qabp (blk d.1 (ge % 2))
   omega
  ·have e1:=congrArg Prod.fst this
   simp only at e1
   omega
theorem qagl {d:Dk} {ge sz:Nat} (h:qat d=(ge,sz,0)):(genB d ge sz).length=sz:=by
 obtain ⟨h1,h2,h3,h4,_⟩:=qr9 h;unfold genB;rw [List.length_take,List.length_drop];omega
theorem qagm (x:FsV) (f:Fsd) (w:World) (h:RdX w x f) (hw:WfX f):
  Calls Tryz.prog 95 #[x.val] w fun e w'=>e=.returned (.bool (decide (okFs f)))∧Below w.heap.size w w':=by
 have HW:=hide hw;clear hw;obtain ⟨w1,ew⟩:∃w1,w.alloc (.cells x.cs 33)=w1:=⟨_,rfl⟩
 have hb1:Below w.heap.size w w1:=by rw [←ew];exact (Below.refl _ _).alloc (Nat.le_refl _) _
 have qbc:=hide (show FsAt w1 w.heap.size x by rw [←ew];exact Bq.new _ _ _);obtain ⟨k0,k1,k2,k3,k4,k5⟩:=qab qbc.out;have HX:=hide h;have qad:=hide hb1;clear h hb1;unfold FsV.val;unfold FsV.cs at ew
 go_enter Tryz.func95,Tryz.ntmps95
 go_wp2_with fail
 refine (qtx (d:=f.1) w1 (HX.out.d.carry qad.out)).mono ?_
 rintro e w2 ⟨rfl,hb2⟩;have qdt:=hide (qbc.out.carry hb2);have qaj:=hide (show Below w.heap.size w w2 from qad.out.trans (hb2.mono qad.out.size));clear k0 k1 k2 k3 k4 k5 ew hb2;obtain ⟨ge,sz,er,hL⟩:∃ge sz er,qat f.1=(ge,sz,er):=⟨_,_,_,rfl⟩;rw [hL];have HL:=hide hL;clear hL;obtain ⟨k0,k1,k2,k3,k4,k5⟩:=qab qdt.out
 by_cases g1:¬er=0
 ·have HN:=hide (qxm HL.out (.inl g1))
  go_wp2;go_ret;rw [HN.out];exact ⟨rfl,qaj.out⟩
 rw [Decidable.not_not] at g1;subst g1
 by_cases g2:¬ge=x.g
 ·have HN:=hide (qxm HL.out (.inr (by rw [←HX.out.g];exact g2)))
  have g2':¬(ge:Int)=x.g:=by omega
  clear g2;go_wp2;go_ret;rw [HN.out];exact ⟨rfl,qaj.out⟩
 rw [Decidable.not_not] at g2;subst g2
 go_wp2_with fail
 refine (qlr _ _ _ f.1.2.1 w2 (HX.out.d.d2.carry qaj.out) HX.out.n2).mono ?_
 rintro e w3 ⟨rfl,hb3⟩;have qgu:=hide (qdt.out.carry hb3);have qaw:=hide (show Below w.heap.size w w3 from qaj.out.trans (hb3.mono qaj.out.size));clear k0 k1 k2 k3 k4 k5 hb3;obtain ⟨an,han⟩:∃an,f.1.2.1.any (fun p=>decide (p.1<34))=an:=⟨_,rfl⟩;rw [han];have HA:=hide han;clear han
 cases an with
 | true=>
  have HN:=hide (qagk HA.out);go_wp2;go_ret;rw [HN.out];exact ⟨rfl,qaw.out⟩
 | false=>
 have HE:=hide (qakf HL.out HX.out.g HA.out);have HLT:=hide (qr9 HL.out);have HGL:=hide (qagl HL.out);have HM:=hide (qgk HLT.out.2.2.2.2.2);obtain ⟨B,hB⟩:∃B:Int,B=mny f.1:=⟨_,rfl⟩;rw [←hB] at HE HM;have HB0:=hide hB;clear HA hB
 go_wp2_with fail
 obtain ⟨ar,har⟩:∃ar,ar=2+x.g % 2*16:=⟨_,rfl⟩;have hsw:=qgm x.g w3 HLT.out.2.1;rw [←har] at hsw;have HAR:=hide har;clear har
 refine hsw.mono ?_
 clear hsw;rintro e w3' ⟨rfl,ew3⟩;subst w3';obtain ⟨k0,k1,k2,k3,k4,k5⟩:=qab qgu.out
 go_wp2_with fail
 refine (qp5 x f w3 (HX.out.carry qaw.out)).mono ?_
 rintro e w4 ⟨rfl,hb4⟩;have qp7:=hide (qgu.out.carry hb4);have qbp:=hide (show Below w.heap.size w w4 from qaw.out.trans (hb4.mono qaw.out.size));clear k0 k1 k2 k3 k4 k5 hb4;obtain ⟨hsz,hge,hlen,hm,hm2,hok⟩:=HLT.out;obtain ⟨b9,o9,ea,hnc⟩:=qxl (HX.out.d.d1) (by intro e;rw [e] at hlen;simp at hlen;omega);obtain ⟨lo,hlo⟩:∃lo,lo=ar*128:=⟨_,rfl⟩;have hwr:=qake HAR.out hlo;obtain ⟨y1,y2,y3,y4,y5,y6,y7⟩:=lo_ok (HX.out.n1.trans hlen) hm hsz hnc HAR.out hlo;have hrd:=rd_at (by have:=HX.out.d.d1.carry qbp.out;rw [ea] at this;exact this) lo sz (by rw [←HX.out.n1];exact y6) (by intro e;rw [e] at hlen;simp at hlen;omega)
 have hgb:(f.1.1.drop lo).take sz=genB f.1 x.g sz:=by unfold genB;rw [hlo,HAR.out,Nat.mul_comm]
 rw [hgb] at hrd;have hR:=qacb _ _ _ (genB f.1 x.g sz) (qa3 f) w4 hrd HGL.out.symm (by rw [HGL.out];omega);rw [HM.out] at hR ⊢;have HSZ:=hide (show sz≤2048 from hsz);clear hrd hgb hsz hge hlen hm hm2 hlo hok y6 y7 hnc;obtain ⟨k0,k1,k2,k3,k4,k5⟩:=qab qp7.out;rw [ea] at k0
 go_wp2_with fail
 refine hR.mono ?_
 rintro e w5 ⟨v5,rfl,ho5,hb5⟩;have HF_w5:=hide (qp7.out.carry hb5);have qgv:=hide (show Below w.heap.size w w5 from qbp.out.trans (hb5.mono qbp.out.size));clear k0 k1 k2 k3 k4 k5 hb5 hR hwr y1 y2 y3 y4 y5;obtain ⟨L,hL⟩:∃L,L=qg3 (genB f.1 x.g sz) B:=⟨_,rfl⟩;rw [←hL] at ho5 HE;obtain ⟨m5,hm5⟩:∃m5,m5=L.length:=⟨_,rfl⟩
 obtain ⟨u5,z5,e5⟩:∃a c,v5=.slice a m5 c:=by rw [hm5];exact ho5.form
 subst e5;have HO5:=hide ho5.rd;have HM5:=hide hm5;obtain ⟨w6,ew6⟩:∃w6,w5.alloc (.cells #[.slice u5 m5 z5] 31)=w6:=⟨_,rfl⟩
 have hb6:Below w5.heap.size w5 w6:=by rw [←ew6];exact (Below.refl _ _).alloc (Nat.le_refl _) _
 have HF_w6:=hide (HF_w5.out.carry hb6);have qfq:=hide (show Below w.heap.size w w6 from qgv.out.trans (hb6.mono qgv.out.size));have HO6:=hide (HO5.out.carry hb6);clear ho5 hm5 hL HO5;obtain ⟨k0,k1,k2,k3,k4,k5⟩:=qab HF_w6.out
 have k9:w6.cell? ⟨w5.heap.size,0,none⟩=some (.slice u5 m5 z5):=by rw [←ew6];simp
 clear hb6
 by_cases g3:¬qdh (genB f.1 x.g sz) B=0
 ·rw [decide_eq_false g3] at HE
  go_wp2;go_ret;rw [HE.out];exact ⟨rfl,by assumption⟩
 rw [Decidable.not_not] at g3;rw [g3];rw [decide_eq_true g3] at HE;clear g3
 go_wp2_with fail
 refine (qacf u5 m5 z5 L x.a5 x.n5 x.c5 f.2.2.2 w6 HO6.out HM5.out (HX.out.kl.carry qfq.out) HX.out.n5).mono ?_
 rintro e w7 ⟨rfl,hb7⟩;have HF_w7:=hide (HF_w6.out.carry hb7);have qfr:=hide (show Below w.heap.size w w7 from qfq.out.trans (hb7.mono qfq.out.size));clear k0 k1 k2 k3 k4 k5 k9 hb7 ew6
 by_cases g4:¬L=f.2.2.2
 ·rw [decide_eq_false g4] at HE ⊢
  go_wp2;go_ret;rw [HE.out];exact ⟨rfl,qfr.out⟩
 rw [Decidable.not_not] at g4;rw [decide_eq_true g4] at HE ⊢;clear g4;obtain ⟨k0,k1,k2,k3,k4,k5⟩:=qab HF_w7.out
 go_wp2_with fail
 refine (qdx _ _ _ f.2.2.1 B w7 (HX.out.fl.carry qfr.out) HX.out.n4 HW.out.fl).mono ?_
 rintro e w8 ⟨rfl,hb8⟩;have qls:=hide (show Below w.heap.size w w8 from qfr.out.trans (hb8.mono qfr.out.size));clear k0 k1 k2 k3 k4 k5 hb8
 by_cases g5:chkF f.2.2.1 B=0
 ·rw [g5]
  rw [decide_eq_true g5] at HE;clear g5;go_wp2;go_ret;rw [HE.out];exact ⟨rfl,qls.out⟩
 ·rw [decide_eq_false g5] at HE
  have HQ:=hide (show (chkF f.2.2.1 B==0)=false by simpa using g5);clear g5;go_wp2;go_ret;rw [HE.out];exact ⟨congrArg (fun z=>Ending.returned (Value.bool z)) HQ.out,qls.out⟩
theorem qh9 (x:FsV) (f:Fsd) (w:World) (h:RdX w x f) (hw:WfX f):
  Calls Tryz.prog 42 #[x.val] w fun e w'=>e=.returned (.int .i64 (fsE f))∧Below w.heap.size w w':=by
 have HW:=hide hw;clear hw;obtain ⟨w1,ew⟩:∃w1,w.alloc (.cells x.cs 33)=w1:=⟨_,rfl⟩
 have hb1:Below w.heap.size w w1:=by rw [←ew];exact (Below.refl _ _).alloc (Nat.le_refl _) _
 have qbc:=hide (show FsAt w1 w.heap.size x by rw [←ew];exact Bq.new _ _ _);obtain ⟨k0,k1,k2,k3,k4,k5⟩:=qab qbc.out;have HX:=hide h;have qad:=hide hb1;clear h hb1;unfold FsV.val;unfold FsV.cs at ew
 go_enter Tryz.func42,Tryz.ntmps42
 go_wp2_with fail
 refine (qagm x f w1 (HX.out.carry qad.out) HW.out).mono ?_
 rintro e w2 ⟨rfl,hb2⟩;have qaj:=hide (show Below w.heap.size w w2 from qad.out.trans (hb2.mono qad.out.size));clear k0 k1 k2 k3 k4 k5 ew hb2
 rcases qer f with ⟨g1,g2⟩ | ⟨g1,g2⟩
 ·have HE:=hide g2
  rw [decide_eq_true g1];clear g1 g2;go_wp2;go_ret;rw [HE.out];exact ⟨rfl,qaj.out⟩
 ·have HE:=hide g2
  rw [decide_eq_false g1];clear g1 g2;go_wp2;go_ret;rw [HE.out];exact ⟨rfl,qaj.out⟩
end Go.Proofs.YtmeaiocohalphaaGreatDoor
