/-
  Layer 5 in plain words: bytes that are read as a directory.
-/
import Derived.Test.YthilibleedbchaaGreatFiRef8
import Derived.Test.YthilibleedbchaaGreatMathFi2
set_option maxHeartbeats 2000000
set_option maxRecDepth 100000
namespace Go.Proofs.YthilibleedbchaaGreat
open Go.RowKit
set_option linter.all false
theorem qw6 (a b:Option Addr) (n c m d:Nat) (l k:List Ex) (w:World) (h1:RdE w (.slice a n c) l) (h2:RdE w (.slice b m d) k) (hn:n=l.length) (hm:m=k.length):
  Calls Tryz.prog 209 #[.slice a n c,.slice b m d] w fun e w'=>e=.returned (.bool (decide (l=k)))∧Below w.heap.size w w':=by
 have hnm:n≤maxLen:=hn ▸ h1.len_le;unfold maxLen at hnm;have H1:=hide h1;have H2:=hide h2;have HN:=hide hn;have HM:=hide hm;clear h1 h2 hn hm
 by_cases g1:n=m
 ·subst g1
  go_enter Tryz.func209,Tryz.ntmps209
  go_wp2
  go_loopw [13] (fun i wr=>∃j:Nat,j≤n∧i=.int .i64 j∧Hid (l.take j=k.take j)∧Below w.heap.size w wr) (fun i _=>n - (intOf i).toNat)
  case atStart=>exact ⟨0,Nat.zero_le _,rfl,hide (by simp),Below.refl _ _⟩
  case round=>
   obtain ⟨j,hj,rfl,he,hbel⟩:=hrel
   by_cases hlt:j<n
   ·have hlt':(j:Int)<n:=by omega
    have hjl:j<l.length:=by have:=HN.out;omega
    have hjk:j<k.length:=by have:=HM.out;omega
    obtain ⟨b1,off1,rfl,q0,q1⟩:=(H1.out.carry hbel).at j hjl;obtain ⟨b2,off2,rfl,p0,p1⟩:=(H2.out.carry hbel).at j hjk
    have hw1:wrap64 ((j:Int)+1)=(j:Int)+1:=by unfold wrap64;omega
    by_cases hx:l[j]=k[j]
    ·have HE:=hide (show l.take (j+1)=k.take (j+1) by rw [qbr l j hjl,qbr k j hjk,he.out,hx])
     rw [hx] at q0 q1;clear hx;go_wp2
     go_quiet (fail)
     go_wp2;go_roundw
     case rel=>exact ⟨j+1,by omega,rfl,HE,below_drewN hbel _⟩
     case measure=>simp only [intOf];omega
    ·have HE:=hide (show decide (l=k)=false by
      rw [decide_eq_false_iff_not];rintro rfl
      exact hx rfl)
     have hne:¬((l[j]).1=(k[j]).1∧(l[j]).2=(k[j]).2):=fun h=>hx (Prod.ext h.1 h.2)
     clear hx;generalize (l[j]).1=z1 at *;generalize (l[j]).2=z2 at *;generalize (k[j]).1=z3 at *;generalize (k[j]).2=z4 at *
     by_cases hz:z1=z3
     ·subst hz
      have hne1:¬z2=z4:=fun h=>hne ⟨rfl,h⟩
      have hne':(z2==z4)=false:=by simpa using hne1
      clear hne;go_wp2
      go_quiet (fail)
      go_wp2;go_ret;exact ⟨by rw [HE.out];rfl,below_drewN hbel _⟩
     ·have hne':(z1==z3)=false:=by simpa using hz
      clear hne;go_wp2
      go_quiet (fail)
      go_wp2;go_ret;exact ⟨by rw [HE.out];rfl,below_drewN hbel _⟩
   ·have hd:decide ((j:Int)<n)=false:=by simpa using (by omega:¬(j:Int)<n)
    have HE:=hide (show decide (l=k)=true by
     rw [decide_eq_true_iff]
     have:=he.out
     rwa [List.take_of_length_le (by have:=HN.out;omega),List.take_of_length_le (by have:=HM.out;omega)] at this)
    go_wp2;go_ret;exact ⟨by rw [HE.out];rfl,hbel⟩
 ·have HE:=hide (show decide (l=k)=false by
   rw [decide_eq_false_iff_not];rintro rfl
   have:=HN.out
   have:=HM.out
   omega)
  have g1':((n:Int)==(m:Int))=false:=by simpa using (by omega:¬(n:Int)=m)
  go_enter Tryz.func209,Tryz.ntmps209
  go_wp2;go_ret;exact ⟨by rw [HE.out];rfl,Below.refl _ _⟩
theorem qpt (s t:List UInt8) (a1:Option Addr) (n1 c1:Nat) (a2:Option Addr) (n2 c2:Nat) (l k:List Ex) (w:World) (h1:RdE w (.slice a1 n1 c1) l) (hn1:n1=l.length) (h2:RdE w (.slice a2 n2 c2) k) (hn2:n2=k.length):
  Calls Tryz.prog 181 #[.agg #[.string (bs s),.slice a1 n1 c1],.agg #[.string (bs t),.slice a2 n2 c2]] w fun e w'=>e=.returned (.bool (decide ((s,l)=(t,k))))∧Below w.heap.size w w':=by
 obtain ⟨W0,hW0⟩:∃W0,W0=(w.alloc (.cells #[.string (bs s),.slice a1 n1 c1] 75)).alloc (.cells #[.string (bs t),.slice a2 n2 c2] 75):=⟨_,rfl⟩
 have hb0:Below w.heap.size w W0:=by rw [hW0];exact ((Below.refl _ _).alloc (Nat.le_refl _) _).alloc (by simp) _
 have hsm:=qw6 a1 a2 n1 c1 n2 c2 l k W0 (h1.carry hb0) (h2.carry hb0) hn1 hn2;have HB0:=hide hb0;clear h1 hn1 h2 hn2 hb0
 by_cases e:s=t
 ·have x1:((bs s).toList==(bs t).toList)=true:=by rw [qe2,e];simp
  have HE:=hide (show decide ((s,l)=(t,k))=decide (l=k) by simp [e]);clear e
  go_enter Tryz.func181,Tryz.ntmps181
  go_wp2_with fail
  rw [←hW0]
  refine hsm.mono ?_
  rintro e w1 ⟨rfl,hb1⟩;have HB1:=bT HB0 hb1;clear hsm hb1 hW0;obtain ⟨r,hr⟩:∃r,r=decide (l=k):=⟨_,rfl⟩;rw [←hr] at HE ⊢;clear hr;go_wp2;go_ret;exact ⟨by rw [HE.out];rfl,HB1.out⟩
 ·have x1:((bs s).toList==(bs t).toList)=false:=by rw [qe2];simpa using e
  have HE:=hide (show decide ((s,l)=(t,k))=false by simp [e]);clear e hsm
  go_enter Tryz.func181,Tryz.ntmps181
  go_wp2;go_ret;exact ⟨by rw [HE.out];rfl,by rw [←hW0];exact HB0.out⟩
theorem qof (a:Option Addr) (n c:Nat) (fs:List Fl) (a':Option Addr) (m c':Nat) (gs:List Fl) (w:World) (h1:RdF w (.slice a n c) fs) (hn:n=fs.length) (h2:RdF w (.slice a' m c') gs) (hm:m=gs.length):
  Calls Tryz.prog 180 #[.slice a n c,.slice a' m c',.func (.func 181) #[] #[]] w fun e w'=>e=.returned (.bool (decide (fs=gs)))∧Below w.heap.size w w':=by
 have hnb:n≤maxLen:=hn ▸ h1.len_le;unfold maxLen at hnb;have H1:=hide h1;have H2:=hide h2;have HN:=hide hn;have HM:=hide hm;clear h1 h2 hn hm
 by_cases g1:n=m
 ·subst g1
  go_enter Tryz.func180,Tryz.ntmps180
  go_wp2
  go_loopw [17] (fun i wr=>∃k:Nat,k≤n∧i=.int .i64 k∧Hid (fs.take k=gs.take k)∧Below w.heap.size w wr) (fun i _=>n - (intOf i).toNat)
  case atStart=>exact ⟨0,Nat.zero_le _,rfl,hide rfl,Below.refl _ _⟩
  case round=>
   obtain ⟨k,hk,rfl,hall,hbel⟩:=hrel
   by_cases hlt:k<n
   ·have hlt':(k:Int)<n:=by omega
    have hkl:k<fs.length:=by have:=HN.out;omega
    have hkg:k<gs.length:=by have:=HM.out;omega
    have hw1:wrap64 ((k:Int)+1)=(k:Int)+1:=by unfold wrap64;omega
    have HT:=hide (qa0 fs k hkl);have HU:=hide (qa0 gs k hkg);obtain ⟨b,off,a2,c2,rfl,q0,q1,q2⟩:=H1.out.atB hbel k hkl;obtain ⟨b',off',a3,c3,rfl,p0,p1,p2⟩:=H2.out.atB hbel k hkg
    have HX:=hide (show fs[k]≠gs[k]→decide (fs=gs)=false by
     intro h
     simp only [decide_eq_false_iff_not]
     rintro rfl
     exact h rfl)
    obtain ⟨f,hf⟩:∃f,f=fs[k]:=⟨_,rfl⟩;obtain ⟨g,hg⟩:∃g,g=gs[k]:=⟨_,rfl⟩;rw [←hf] at q0 q1 q2 HT HX;rw [←hg] at p0 p1 p2 HU HX;clear hf hg;obtain ⟨s,l⟩:=f;obtain ⟨t,l'⟩:=g
    simp only at q0 q1 q2 p0 p1 p2
    obtain ⟨m1,hm1⟩:∃m1,m1=l.length:=⟨_,rfl⟩;obtain ⟨m2,hm2⟩:∃m2,m2=l'.length:=⟨_,rfl⟩;rw [←hm1] at q1 q2;rw [←hm2] at p1 p2;obtain ⟨w2,hw2⟩:∃w2,w2=(wr.alloc (.cells #[.string (bs s),.slice a2 m1 c2] 75)).alloc (.cells #[.string (bs t),.slice a3 m2 c3] 75):=⟨_,rfl⟩
    have hb2:Below wr.heap.size wr w2:=by rw [hw2];exact ((Below.refl _ _).alloc (Nat.le_refl _) _).alloc (by simp) _
    have hbel2:Below w.heap.size w w2:=hbel.trans (hb2.mono hbel.size);have hsf:=qpt s t a2 m1 c2 a3 m2 c3 l l' w2 (q2.carry hbel2) hm1 (p2.carry hbel2) hm2;obtain ⟨r,hr⟩:∃r,r=decide ((s,l)=(t,l')):=⟨_,rfl⟩;rw [←hr] at hsf;have HR:=hide hr
    have p0a:∀o,(wr.alloc o).cell? ⟨b',off'+k*2,none⟩=some (.string (bs t)):=fun o=>Lib.cell?_alloc_some _ p0
    have p1a:∀o,(wr.alloc o).cell? ⟨b',off'+k*2+1,none⟩=some (.slice a3 m2 c3):=fun o=>Lib.cell?_alloc_some _ p1
    have x0:w2.cell? ⟨wr.heap.size,0,none⟩=some (.string (bs s)):=by
     rw [hw2];exact Lib.cell?_alloc_some _ (FileAt.new wr (bs s) (.slice a2 m1 c2)).cell0
    have x1:w2.cell? ⟨wr.heap.size,1,none⟩=some (.slice a2 m1 c2):=by
     rw [hw2];exact Lib.cell?_alloc_some _ (FileAt.new wr (bs s) (.slice a2 m1 c2)).cell1
    rw [hw2] at x0 x1;clear hr hm1 hm2 q2 p2 hb2
    go_wp2_with fail
    rw [←hw2]
    refine hsf.mono ?_
    rintro e w3 ⟨rfl,b3⟩;have hbel3:Below w.heap.size w w3:=hbel2.trans (b3.mono hbel2.size);clear hsf hw2 x0 x1 p0a p1a b3 hbel2 hbel
    cases r with
    | true=>
     have e:(s,l)=(t,l'):=by have:=HR.out;simpa using this.symm
     have HA:=hide (show fs.take (k+1)=gs.take (k+1) by rw [HT.out,HU.out,hall.out,e]);clear e;go_wp2;go_roundw
     case rel=>exact ⟨k+1,by omega,rfl,HA,hbel3⟩
     case measure=>simp only [intOf];omega
    | false=>
     have HA:=hide (HX.out (by have:=HR.out;exact of_decide_eq_false this.symm));go_wp2;go_ret;exact ⟨by rw [HA.out];rfl,hbel3⟩
   ·have hd:decide ((k:Int)<n)=false:=by simpa using (by omega:¬(k:Int)<n)
    have HA:=hide (show decide (fs=gs)=true by
     have h:=hall.out;rw [List.take_of_length_le (by have:=HN.out;omega),List.take_of_length_le (by have:=HM.out;omega)] at h
     simpa using h)
    go_wp2;go_ret;exact ⟨by rw [HA.out];rfl,hbel⟩
 ·have HA:=hide (show decide (fs=gs)=false by
   simp only [decide_eq_false_iff_not]
   rintro rfl
   exact g1 (HN.out.trans HM.out.symm))
  have g1':((n:Int)==(m:Int))=false:=by simp;omega
  go_enter Tryz.func180,Tryz.ntmps180
  go_wp2
  all_goals (go_ret;exact ⟨by rw [HA.out];rfl,Below.refl _ _⟩)
theorem qw7 (a:Option Addr) (n c:Nat) (fs:List Fl) (a':Option Addr) (m c':Nat) (gs:List Fl) (w:World) (h1:RdF w (.slice a n c) fs) (hn:n=fs.length) (h2:RdF w (.slice a' m c') gs) (hm:m=gs.length):
  Calls Tryz.prog 126 #[.agg #[.slice a n c],.agg #[.slice a' m c']] w fun e w'=>e=.returned (.bool (decide (fs=gs)))∧Below w.heap.size w w':=by
 obtain ⟨W0,hW0⟩:∃W0,W0=(w.alloc (.cells #[.slice a n c] 30)).alloc (.cells #[.slice a' m c'] 30):=⟨_,rfl⟩;have hb1:Below w.heap.size w (w.alloc (.cells #[.slice a n c] 30)):=(Below.refl _ _).alloc (Nat.le_refl _) _
 have hb0:Below w.heap.size w W0:=by rw [hW0];exact hb1.alloc (by simp) _
 have d0:=(show DirAt W0 w.heap.size (.slice a n c) by
  rw [hW0]
  exact (DirAt.new w (.slice a n c)).carry ((Below.refl _ _).alloc (Nat.le_refl _) _)).cell
 have d1:=(show DirAt W0 (w.heap.size+1) (.slice a' m c') by
  have:=DirAt.new (w.alloc (.cells #[.slice a n c] 30)) (.slice a' m c')
  rw [hW0];simpa using this).cell
 rw [hW0] at d0 d1;have heq:=qof a n c fs a' m c' gs W0 (h1.carry hb0) hn (h2.carry hb0) hm;have HB0:=hide hb0;obtain ⟨r,hr⟩:∃r,r=decide (fs=gs):=⟨_,rfl⟩;rw [←hr] at heq;have HR:=hide hr;clear h1 h2 hn hm hb0 hb1 hr
 go_enter Tryz.func126,Tryz.ntmps126
 go_wp2_with fail
 rw [←hW0]
 refine heq.mono ?_
 rintro e w1 ⟨rfl,b1⟩;clear heq hW0 d0 d1;go_wp2;go_ret;exact ⟨by rw [←HR.out];rfl,HB0.out.trans (b1.mono HB0.out.size)⟩
/-! ### what is turned -/
def Shp (base:Nat) (w w':World):Prop:=Below base w w'∧w.heap.size≤w'.heap.size∧∀(k:Nat) (cs:Array Value) (t:TypeId),w.heap[k]? =some (.cells cs t (0,0))→∃cs':Array Value,w'.heap[k]? =some (.cells cs' t (0,0))∧cs'.size=cs.size∧(t≠116→cs'=cs)
theorem Shp.trans {base:Nat} {w w1 w2:World} (h:Shp base w w1) (k:Shp base w1 w2):Shp base w w2:=by
 refine ⟨h.1.trans k.1,Nat.le_trans h.2.1 k.2.1,fun i cs t hi=>?_⟩;obtain ⟨c1,h1,h2,h3⟩:=h.2.2 i cs t hi;obtain ⟨c2,k1,k2,k3⟩:=k.2.2 i c1 t h1;exact ⟨c2,k1,k2.trans h2,fun e=>(k3 e).trans (h3 e)⟩
theorem qts:∀(l:List UInt8) (i acc n k:Nat),i≤9→rdGo l i acc=some (n,k)→∃m,n=acc+m*128 ^ i∧i<k∧k - i≤l.length∧l.take (k - i)=sm m∧(0<i→0<m)
 | [],i,acc,n,k,_,h=>by simp [rdGo] at h
 | c::r,i,acc,n,k,hi,h=>by
  have hc:c.toNat<256:=c.toNat_lt;unfold rdGo at h
  by_cases h1:i=9∧1<c.toNat
  ·rw [if_pos h1] at h;cases h
  ·rw [if_neg h1] at h
   by_cases h2:128≤c.toNat
   ·rw [if_pos h2] at h
    obtain ⟨m,e1,e2,e3,e4,e5⟩:=qts r (i+1) _ n k (by omega) h;have hm:0<m:=e5 (by omega);refine ⟨c.toNat % 128+128*m, ?_,by omega,by rw [List.length_cons];omega, ?_,fun _=>by omega⟩
    ·rw [e1,Nat.pow_succ,Nat.add_mul,Nat.mul_comm 128 m,Nat.mul_assoc m 128,Nat.mul_comm 128 (128 ^ i)]
     omega
    ·rw [show k - i=(k - (i+1))+1 by omega,List.take_succ_cons,e4,qou (by omega:128≤c.toNat % 128+128*m)]
     have a1:(c.toNat % 128+128*m) % 128+128=c.toNat:=by omega
     have a2:(c.toNat % 128+128*m) / 128=m:=by omega
     rw [a1,a2]
     congr 1
     exact (UInt8.ofNat_toNat).symm
   ·rw [if_neg h2] at h
    by_cases h3:c.toNat=0∧0<i
    ·rw [if_pos h3] at h;cases h
    ·rw [if_neg h3] at h
     injection h with h
     injection h with e1 e2
     refine ⟨c.toNat,e1.symm,by omega,by rw [List.length_cons];omega, ?_,fun hi=>by omega⟩;rw [show k - i=1 by omega,qot (by omega:c.toNat<128)]
     simp
theorem qacq {l:List UInt8} {n k:Nat} (h:rd l=some (n,k)):l=sm n++l.drop k∧k=(sm n).length:=by
 obtain ⟨m,e1,e2,e3,e4,_⟩:=qts l 0 0 n k (by omega) h
 have hm:n=m:=by simpa using e1
 subst hm;rw [Nat.sub_zero] at e3 e4
 have hk:k=(sm n).length:=by rw [←e4,List.length_take];omega
 exact ⟨by rw [←e4,List.take_append_drop],hk⟩
def cnum (l:List UInt8):Option (Nat × List UInt8):=match rd l with
 | none=>none
 | some (n,k)=>if n≤4096 then some (n,l.drop k) else none
theorem qog (n:Nat) (h:n≤4096) (r:List UInt8):cnum (sm n++r)=some (n,r):=by
 unfold cnum;rw [qadu n (by omega)]
 simp [h]
theorem qft {l r:List UInt8} {n:Nat} (h:cnum l=some (n,r)):n≤4096∧l=sm n++r:=by
 unfold cnum at h
 cases e:rd l with
 | none=>rw [e] at h;cases h
 | some p=>
  obtain ⟨m,k⟩:=p;rw [e] at h
  simp only at h
  by_cases hm:m≤4096
  ·rw [if_pos hm] at h
   injection h with h
   injection h with e1 e2
   subst e1 e2;exact ⟨hm,(qacq e).1⟩
  ·rw [if_neg hm] at h;cases h
theorem qaay {l r:List UInt8} {n:Nat} (h:cnum l=some (n,r)):r.length<l.length:=by
 have:=(qft h).2
 have h1:=qwa n
 rw [this,List.length_append];omega
def cext (l:List UInt8):Option (Ex × List UInt8):=match cnum l with
 | none=>none
 | some (x,r)=>match cnum r with
  | none=>none
  | some (y,q)=>some (((x:Int),(y:Int)),q)
def smX (x:Ex):Prop:=0≤x.1∧x.1≤4096∧0≤x.2∧x.2≤4096
theorem qaaz {x:Ex} (h:smX x) (r:List UInt8):cext (bytX x++r)=some (x,r):=by
 obtain ⟨a,b⟩:=x;obtain ⟨h1,h2,h3,h4⟩:=h
 simp only at h1 h2 h3 h4
 unfold cext bytX;rw [List.append_assoc,qog _ (by simp only;omega)]
 simp only
 rw [qog _ (by omega)]
 simp only [Option.some.injEq,Prod.mk.injEq,and_true]
 omega
theorem qaa0 {l r:List UInt8} {x:Ex} (h:cext l=some (x,r)):smX x∧l=bytX x++r:=by
 unfold cext at h
 cases e:cnum l with
 | none=>rw [e] at h;cases h
 | some p=>
  obtain ⟨m,q⟩:=p;rw [e] at h
  simp only at h
  cases e2:cnum q with
  | none=>rw [e2] at h;cases h
  | some p=>
   obtain ⟨m2,q2⟩:=p;rw [e2] at h
   simp only at h
   injection h with h
   injection h with h1 h2
   subst h1 h2;obtain ⟨a1,a2⟩:=qft e;obtain ⟨b1,b2⟩:=qft e2;refine ⟨⟨by simp,by simp only;omega,by simp,by simp only;omega⟩, ?_⟩;unfold bytX
   simp only [Int.toNat_natCast]
   rw [a2,List.append_assoc,←b2]
def qfu:Nat→List UInt8→Option (List Ex × List UInt8)
 | 0,l=>some ([],l)
 | n+1,l=>match qfu n l with
  | none=>none
  | some (es,r)=>match cext r with
   | none=>none
   | some (x,q)=>some (es++[x],q)
theorem qpu:∀(es:List Ex) (r:List UInt8),(∀x∈es,smX x)→qfu es.length (bytE es++r)=some (es,r)
 | es,r,h=>by
  rcases List.eq_nil_or_concat es with rfl | ⟨q,x,rfl⟩
  ·rfl
  ·rw [List.concat_eq_append] at h ⊢
   have ih:=qpu q (bytX x++r) (fun y hy=>h y (by simp [hy]))
   have e:bytE (q++[x])++r=bytE q++(bytX x++r):=by unfold bytE;rw [List.flatMap_append];simp
   rw [List.length_append,e]
   show (match qfu q.length (bytE q++(bytX x++r)) with
    | none=>none
    | some (es,r)=>match cext r with
     | none=>none
     | some (x,q)=>some (es++[x],q))=_
   rw [ih]
   simp only
   rw [qaaz (h x (by simp))]
termination_by es=>es.length
decreasing_by subst_vars;simp [List.concat_eq_append]
theorem qkx:∀(n:Nat) (l r:List UInt8) (es:List Ex),qfu n l=some (es,r)→es.length=n∧(∀x∈es,smX x)∧l=bytE es++r
 | 0,l,r,es,h=>by
  injection h with h
  injection h with h1 h2
  subst h1 h2;exact ⟨rfl,by simp,by simp [bytE]⟩
 | n+1,l,r,es,h=>by
  unfold qfu at h
  cases e:qfu n l with
  | none=>rw [e] at h;cases h
  | some p=>
   obtain ⟨es',q⟩:=p;rw [e] at h
   simp only at h
   cases e2:cext q with
   | none=>rw [e2] at h;cases h
   | some p=>
    obtain ⟨x,z⟩:=p;rw [e2] at h
    simp only at h
    injection h with h
    injection h with h1 h2
    subst h1 h2;obtain ⟨a1,a2,a3⟩:=qkx n l q es' e;obtain ⟨b1,b2⟩:=qaa0 e2;refine ⟨by simp [a1], ?_, ?_⟩
    ·intro y hy
     rcases List.mem_append.1 hy with hy | hy
     ·exact a2 y hy
     ·obtain rfl:y=x:=by simpa using hy
      exact b1
    ·unfold bytE at a3 ⊢
     rw [List.flatMap_append,a3,b2]
     simp
theorem qmo {k:Nat} {l:List UInt8} (h:qfu k l=none):∀n,k≤n→qfu n l=none
 | 0,hn=>by
  obtain rfl:k=0:=by omega
  exact h
 | n+1,hn=>by
  by_cases e:k=n+1
  ·subst e;exact h
  ·unfold qfu;rw [qmo h n (by omega)]
theorem qw8 {k:Nat} {l r:List UInt8} {es:List Ex} (h:qfu k l=some (es,r)) (h2:cext r=none) {n:Nat} (hn:k<n):qfu n l=none:=by
 refine qmo (k:=k+1) ?_ n hn
 unfold qfu;rw [h];simp only;rw [h2]
theorem qvd {k:Nat} {l r q:List UInt8} {es:List Ex} {x:Ex} (h:qfu k l=some (es,r)) (h2:cext r=some (x,q)):qfu (k+1) l=some (es++[x],q):=by
 unfold qfu;rw [h];simp only;rw [h2]
def qfv (l:List UInt8):Option (Fl × List UInt8):=match ct l with
 | none=>none
 | some (s,r)=>match cnum r with
  | none=>none
  | some (n,q)=>match qfu n q with
   | none=>none
   | some (es,z)=>some ((s,es),z)
theorem qacr {l s r:List UInt8} (h:ct l=some (s,r)):l=tx s++r:=by
 cases e:rd l with
 | none=>rw [qro e] at h;cases h
 | some p=>
  obtain ⟨n,k⟩:=p
  by_cases hn:n≤l.length - k
  ·rw [qkk e hn] at h
   injection h with h
   injection h with h1 h2
   subst h1 h2;obtain ⟨a1,a2⟩:=qacq e
   have hl:((l.drop k).take n).length=n:=by rw [List.length_take,List.length_drop];omega
   unfold tx;rw [hl,List.append_assoc,←List.drop_drop,List.take_append_drop];exact a1
  ·rw [qrp e hn] at h;cases h
def smF5 (f:Fl):Prop:=f.1.length≤1000000∧f.2.length≤4096∧∀x∈f.2,smX x
theorem qw9 {f:Fl} (h:smF5 f) (r:List UInt8):qfv (qcm f++r)=some (f,r):=by
 obtain ⟨s,es⟩:=f;obtain ⟨h1,h2,h3⟩:=h
 simp only at h1 h2 h3
 unfold qfv qcm
 simp only
 rw [List.append_assoc,ct_tx s _ (by omega)]
 simp only
 rw [List.append_assoc,qog _ h2]
 simp only
 rw [qpu es r h3]
theorem qxa {l r:List UInt8} {f:Fl} (h:qfv l=some (f,r)):f.2.length≤4096∧(∀x∈f.2,smX x)∧l=qcm f++r:=by
 unfold qfv at h
 cases e:ct l with
 | none=>rw [e] at h;cases h
 | some p=>
  obtain ⟨s,q⟩:=p;rw [e] at h
  simp only at h
  cases e2:cnum q with
  | none=>rw [e2] at h;cases h
  | some p=>
   obtain ⟨n,q2⟩:=p;rw [e2] at h
   simp only at h
   cases e3:qfu n q2 with
   | none=>rw [e3] at h;cases h
   | some p=>
    obtain ⟨es,z⟩:=p;rw [e3] at h
    simp only at h
    injection h with h
    injection h with h1 h2
    subst h1 h2;obtain ⟨a1,a2,a3⟩:=qkx _ _ _ _ e3;obtain ⟨b1,b2⟩:=qft e2;refine ⟨by simp only;omega,a2, ?_⟩;unfold qcm
    simp only
    rw [qacr e,b2,a3,a1]
    simp
def qf5:Nat→List UInt8→Option (List Fl × List UInt8)
 | 0,l=>some ([],l)
 | n+1,l=>match qf5 n l with
  | none=>none
  | some (fs,r)=>match qfv r with
   | none=>none
   | some (f,q)=>some (fs++[f],q)
theorem qpv:∀(fs:List Fl) (r:List UInt8),(∀f∈fs,smF5 f)→qf5 fs.length (fs.flatMap qcm++r)=some (fs,r)
 | fs,r,h=>by
  rcases List.eq_nil_or_concat fs with rfl | ⟨q,x,rfl⟩
  ·rfl
  ·rw [List.concat_eq_append] at h ⊢
   have ih:=qpv q (qcm x++r) (fun y hy=>h y (by simp [hy]))
   have e:(q++[x]).flatMap qcm++r=q.flatMap qcm++(qcm x++r):=by rw [List.flatMap_append];simp
   rw [List.length_append,e]
   show (match qf5 q.length (q.flatMap qcm++(qcm x++r)) with
    | none=>none
    | some (fs,r)=>match qfv r with
     | none=>none
     | some (f,q)=>some (fs++[f],q))=_
   rw [ih]
   simp only
   rw [qw9 (h x (by simp))]
termination_by fs=>fs.length
decreasing_by subst_vars;simp [List.concat_eq_append]
theorem qia:∀(n:Nat) (l r:List UInt8) (fs:List Fl),qf5 n l=some (fs,r)→fs.length=n∧(∀f∈fs,f.2.length≤4096∧∀x∈f.2,smX x)∧l=fs.flatMap qcm++r
 | 0,l,r,fs,h=>by
  injection h with h
  injection h with h1 h2
  subst h1 h2;exact ⟨rfl,by simp,by simp⟩
 | n+1,l,r,fs,h=>by
  unfold qf5 at h
  cases e:qf5 n l with
  | none=>rw [e] at h;cases h
  | some p=>
   obtain ⟨fs',q⟩:=p;rw [e] at h
   simp only at h
   cases e2:qfv q with
   | none=>rw [e2] at h;cases h
   | some p=>
    obtain ⟨x,z⟩:=p;rw [e2] at h
    simp only at h
    injection h with h
    injection h with h1 h2
    subst h1 h2;obtain ⟨a1,a2,a3⟩:=qia n l q fs' e;obtain ⟨b1,b2,b3⟩:=qxa e2;refine ⟨by simp [a1], ?_, ?_⟩
    ·intro y hy
     rcases List.mem_append.1 hy with hy | hy
     ·exact a2 y hy
     ·obtain rfl:y=x:=by simpa using hy
      exact ⟨b1,b2⟩
    ·rw [List.flatMap_append,a3,b3]
     simp
theorem qmp {k:Nat} {l:List UInt8} (h:qf5 k l=none):∀n,k≤n→qf5 n l=none
 | 0,hn=>by
  obtain rfl:k=0:=by omega
  exact h
 | n+1,hn=>by
  by_cases e:k=n+1
  ·subst e;exact h
  ·unfold qf5;rw [qmp h n (by omega)]
theorem qxb {k:Nat} {l r:List UInt8} {fs:List Fl} (h:qf5 k l=some (fs,r)) (h2:qfv r=none) {n:Nat} (hn:k<n):qf5 n l=none:=by
 refine qmp (k:=k+1) ?_ n hn
 unfold qf5;rw [h];simp only;rw [h2]
theorem qve {k:Nat} {l r q:List UInt8} {fs:List Fl} {x:Fl} (h:qf5 k l=some (fs,r)) (h2:qfv r=some (x,q)):qf5 (k+1) l=some (fs++[x],q):=by
 unfold qf5;rw [h];simp only;rw [h2]
def qdm (l:List UInt8):Option (List Fl × List UInt8):=match cnum l with
 | none=>none
 | some (n,r)=>qf5 n r
theorem qvf {fs:List Fl} (hl:fs.length≤4096) (h:∀f∈fs,smF5 f):qdm (bytF fs)=some (fs,[]):=by
 unfold qdm bytF;rw [qog _ hl]
 simp only
 have:=qpv fs [] h
 rwa [List.append_nil] at this
theorem qmq {l r:List UInt8} {fs:List Fl} (h:qdm l=some (fs,r)):fs.length≤4096∧(∀f∈fs,f.2.length≤4096∧∀x∈f.2,smX x)∧l=bytF fs++r:=by
 unfold qdm at h
 cases e:cnum l with
 | none=>rw [e] at h;cases h
 | some p=>
  obtain ⟨n,q⟩:=p;rw [e] at h
  simp only at h
  obtain ⟨a1,a2,a3⟩:=qia _ _ _ _ h;obtain ⟨b1,b2⟩:=qft e;refine ⟨by omega,a2, ?_⟩;unfold bytF;rw [b2,a3,a1,List.append_assoc]
theorem qacs {x:Ex} (h:smX x):wfX x:=by unfold smX at h;unfold wfX;omega
def qdg (b:List UInt8) (B:Int):Int:=
 if ¬blkP B then 2 else if 2048<b.length then 3 else match qdm b with
  | some (fs,[])=>if mayF fs B then 0 else 8
  | _=>8
def qgf (b:List UInt8) (B:Int):List Fl:=if qdg b B=0 then (match qdm b with | some (fs,_)=>fs | none=>[]) else []
theorem qxc {fs:List Fl} {B:Int} (h:mayF fs B) (hB:B≤4096):fs.length≤4096∧∀f∈fs,smF5 f:=by
 refine ⟨by have:=h.1;omega,fun f hf=>?_⟩;have h1:=qd5 (h.2.1.1 f hf);refine ⟨by omega,by omega,fun x hx=>?_⟩
 have:=qnu h.2.2.1 x (List.mem_flatMap.2 ⟨f,hf,hx⟩)
 unfold smX;omega
theorem qxd {fs:List Fl} {B:Int} (h:chkF fs B=0):qdg (bytF fs) B=0∧qgf (bytF fs) B=fs:=by
 obtain ⟨h1,h2⟩:=qet h;obtain ⟨k1,k2⟩:=qxc h2 h1.2;have e:=qvf k1 k2
 have e0:qdg (bytF fs) B=0:=by
  unfold qdg;rw [if_neg (by simpa using h1),if_neg (by have:=h2.2.2.2;omega),e]
  simp only
  rw [if_pos h2]
 exact ⟨e0,by unfold qgf;rw [if_pos e0,e]⟩
theorem qky {b:List UInt8} {B:Int} (h:qdg b B=0):chkF (qgf b B) B=0∧bytF (qgf b B)=b:=by
 have h0:=h;unfold qdg at h
 by_cases h1:blkP B
 ·rw [if_neg (by simpa using h1)] at h
  by_cases h2:2048<b.length
  ·rw [if_pos h2] at h;omega
  ·rw [if_neg h2] at h
   unfold qgf;rw [if_pos h0]
   cases e:qdm b with
   | none=>rw [e] at h;simp at h
   | some p=>
    obtain ⟨fs,r⟩:=p;rw [e] at h
    cases r with
    | cons c r=>simp at h
    | nil=>
     simp only at h ⊢
     by_cases h3:mayF fs B
     ·obtain ⟨_,_,a3⟩:=qmq e
      exact ⟨qnv h1 h3,by rw [a3,List.append_nil]⟩
     ·rw [if_neg h3] at h;omega
 ·rw [if_pos h1] at h;omega
theorem qea {b:List UInt8} {B:Int} (h:qdg b B≠0):qgf b B=[]:=by unfold qgf;rw [if_neg h]
theorem qpw {b:List UInt8} {B:Int} (h:¬blkP B):qdg b B=2:=by unfold qdg;rw [if_pos h]
theorem qmr {b:List UInt8} {B:Int} (h:blkP B) (h2:2048<b.length):qdg b B=3:=by unfold qdg;rw [if_neg (by simpa using h),if_pos h2]
theorem qms {b:List UInt8} {B:Int} (h:blkP B) (h2:¬2048<b.length) (e:qdm b=none):qdg b B=8:=by unfold qdg;rw [if_neg (by simpa using h),if_neg h2,e]
theorem qmt {b r:List UInt8} {fs:List Fl} {B:Int} (h:blkP B) (h2:¬2048<b.length) (e:qdm b=some (fs,r)) (hr:r≠[]):qdg b B=8:=by
 unfold qdg;rw [if_neg (by simpa using h),if_neg h2,e]
 cases r with
 | nil=>exact absurd rfl hr
 | cons _ _=>rfl
theorem qmu {b:List UInt8} {fs:List Fl} {B:Int} (h:blkP B) (h2:¬2048<b.length) (e:qdm b=some (fs,[])):qdg b B=(if mayF fs B then 0 else 8)∧(mayF fs B→qgf b B=fs):=by
 have e1:qdg b B=(if mayF fs B then 0 else 8):=by unfold qdg;rw [if_neg (by simpa using h),if_neg h2,e]
 exact ⟨e1,fun hm=>by unfold qgf;rw [e1,if_pos hm,if_pos rfl,e]⟩
end Go.Proofs.YthilibleedbchaaGreat
