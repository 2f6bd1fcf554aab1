/-
  What super's number and its closure do: four bytes of a row are put, or read.
-/
import Derived.Test.YtnmbbpdhjkaidaaGreatMathFi2
import Derived.Test.YtnmbbpdhjkaidaaGreatDCrash
import Derived.Test.YtnmbbpdhjkaidaaGreatMathRm
import Derived.Test.YtnmbbpdhjkaidaaGreatMathRd
import Derived.Test.YtnmbbpdhjkaidaaGreatBase
set_option maxHeartbeats 1000000
set_option maxRecDepth 100000
namespace Go.Proofs.YtnmbbpdhjkaidaaGreat
open Go.RowKit
set_option linter.all false
theorem qt6:∀(l:List UInt8) (i acc n k:Nat),i≤9→rdGo l i acc=some (n,k)→∃m,n=acc+m*128 ^ i∧i<k∧k - i≤l.length∧l.take (k - i)=sm m∧(0<i→0<m)
 | [],i,acc,n,k,_,h=>by simp [rdGo] at h
 | c::r,i,acc,n,k,hi,h=>by
  have hc:c.toNat<256:=c.toNat_lt;unfold rdGo at h
  by_cases h1:i=9∧1<c.toNat
  ·rw [if_pos h1] at h;cases h
  ·rw [if_neg h1] at h
   by_cases h2:128≤c.toNat
   ·rw [if_pos h2] at h
    obtain ⟨m,e1,e2,e3,e4,e5⟩:=qt6 r (i+1) _ n k (by omega) h;have hm:0<m:=e5 (by omega);refine ⟨c.toNat % 128+128*m, ?_,by omega,by rw [List.length_cons];omega, ?_,fun _=>by omega⟩
    ·rw [e1,Nat.pow_succ,Nat.add_mul,Nat.mul_comm 128 m,Nat.mul_assoc m 128,Nat.mul_comm 128 (128 ^ i)]
     omega
    ·rw [show k - i=(k - (i+1))+1 by omega,List.take_succ_cons,e4,qxk (by omega:128≤c.toNat % 128+128*m)]
     have a1:(c.toNat % 128+128*m) % 128+128=c.toNat:=by omega
     have a2:(c.toNat % 128+128*m) / 128=m:=by omega
     rw [a1,a2]
     congr 1
     exact (UInt8.ofNat_toNat).symm
   ·rw [if_neg h2] at h
    by_cases h3:c.toNat=0∧0<i
    ·rw [if_pos h3] at h;cases h
    ·rw [if_neg h3] at h
     injection h with h
     injection h with e1 e2
     refine ⟨c.toNat,e1.symm,by omega,by rw [List.length_cons];omega, ?_,fun hi=>by omega⟩;rw [show k - i=1 by omega,qvp (by omega:c.toNat<128)]
     simp
theorem qafm {l:List UInt8} {n k:Nat} (h:rd l=some (n,k)):l=sm n++l.drop k∧k=(sm n).length:=by
 obtain ⟨m,e1,e2,e3,e4,_⟩:=qt6 l 0 0 n k (by omega) h
 have hm:n=m:=by simpa using e1
 subst hm;rw [Nat.sub_zero] at e3 e4
 have hk:k=(sm n).length:=by rw [←e4,List.length_take];omega
 exact ⟨by rw [←e4,List.take_append_drop],hk⟩
def cnum (l:List UInt8):Option (Nat × List UInt8):=match rd l with
 | none=>none
 | some (n,k)=>if n≤4096 then some (n,l.drop k) else none
theorem qpc (n:Nat) (h:n≤4096) (r:List UInt8):cnum (sm n++r)=some (n,r):=by
 unfold cnum;rw [rd_sm n (by omega)]
 simp [h]
theorem qgs {l r:List UInt8} {n:Nat} (h:cnum l=some (n,r)):n≤4096∧l=sm n++r:=by
 unfold cnum at h
 cases e:rd l with
 | none=>rw [e] at h;cases h
 | some p=>
  obtain ⟨m,k⟩:=p;rw [e] at h
  simp only at h
  by_cases hm:m≤4096
  ·rw [if_pos hm] at h
   injection h with h
   injection h with e1 e2
   subst e1 e2;exact ⟨hm,(qafm e).1⟩
  ·rw [if_neg hm] at h;cases h
theorem qac8 {l r:List UInt8} {n:Nat} (h:cnum l=some (n,r)):r.length<l.length:=by
 have:=(qgs h).2
 have h1:=qaff n
 rw [this,List.length_append];omega
def cext (l:List UInt8):Option (Ex × List UInt8):=match cnum l with
 | none=>none
 | some (x,r)=>match cnum r with
  | none=>none
  | some (y,q)=>some (((x:Int),(y:Int)),q)
def smX (x:Ex):Prop:=0≤x.1∧x.1≤4096∧0≤x.2∧x.2≤4096
theorem qac9 {x:Ex} (h:smX x) (r:List UInt8):cext (bytX x++r)=some (x,r):=by
 obtain ⟨a,b⟩:=x;obtain ⟨h1,h2,h3,h4⟩:=h
 simp only at h1 h2 h3 h4
 unfold cext bytX;rw [List.append_assoc,qpc _ (by simp only;omega)]
 simp only
 rw [qpc _ (by omega)]
 simp only [Option.some.injEq,Prod.mk.injEq,and_true]
 omega
theorem qada {l r:List UInt8} {x:Ex} (h:cext l=some (x,r)):smX x∧l=bytX x++r:=by
 unfold cext at h
 cases e:cnum l with
 | none=>rw [e] at h;cases h
 | some p=>
  obtain ⟨m,q⟩:=p;rw [e] at h
  simp only at h
  cases e2:cnum q with
  | none=>rw [e2] at h;cases h
  | some p=>
   obtain ⟨m2,q2⟩:=p;rw [e2] at h
   simp only at h
   injection h with h
   injection h with h1 h2
   subst h1 h2;obtain ⟨a1,a2⟩:=qgs e;obtain ⟨b1,b2⟩:=qgs e2;refine ⟨⟨by simp,by simp only;omega,by simp,by simp only;omega⟩, ?_⟩;unfold bytX
   simp only [Int.toNat_natCast]
   rw [a2,List.append_assoc,←b2]
def qgt:Nat→List UInt8→Option (List Ex × List UInt8)
 | 0,l=>some ([],l)
 | n+1,l=>match qgt n l with
  | none=>none
  | some (es,r)=>match cext r with
   | none=>none
   | some (x,q)=>some (es++[x],q)
theorem qqv:∀(es:List Ex) (r:List UInt8),(∀x∈es,smX x)→qgt es.length (bytE es++r)=some (es,r)
 | es,r,h=>by
  rcases List.eq_nil_or_concat es with rfl | ⟨q,x,rfl⟩
  ·rfl
  ·rw [List.concat_eq_append] at h ⊢
   have ih:=qqv q (bytX x++r) (fun y hy=>h y (by simp [hy]))
   have e:bytE (q++[x])++r=bytE q++(bytX x++r):=by unfold bytE;rw [List.flatMap_append];simp
   rw [List.length_append,e]
   show (match qgt q.length (bytE q++(bytX x++r)) with
    | none=>none
    | some (es,r)=>match cext r with
     | none=>none
     | some (x,q)=>some (es++[x],q))=_
   rw [ih]
   simp only
   rw [qac9 (h x (by simp))]
termination_by es=>es.length
decreasing_by subst_vars;simp [List.concat_eq_append]
theorem ql8:∀(n:Nat) (l r:List UInt8) (es:List Ex),qgt n l=some (es,r)→es.length=n∧(∀x∈es,smX x)∧l=bytE es++r
 | 0,l,r,es,h=>by
  injection h with h
  injection h with h1 h2
  subst h1 h2;exact ⟨rfl,by simp,by simp [bytE]⟩
 | n+1,l,r,es,h=>by
  unfold qgt at h
  cases e:qgt n l with
  | none=>rw [e] at h;cases h
  | some p=>
   obtain ⟨es',q⟩:=p;rw [e] at h
   simp only at h
   cases e2:cext q with
   | none=>rw [e2] at h;cases h
   | some p=>
    obtain ⟨x,z⟩:=p;rw [e2] at h
    simp only at h
    injection h with h
    injection h with h1 h2
    subst h1 h2;obtain ⟨a1,a2,a3⟩:=ql8 n l q es' e;obtain ⟨b1,b2⟩:=qada e2;refine ⟨by simp [a1], ?_, ?_⟩
    ·intro y hy
     rcases List.mem_append.1 hy with hy | hy
     ·exact a2 y hy
     ·obtain rfl:y=x:=by simpa using hy
      exact b1
    ·unfold bytE at a3 ⊢
     rw [List.flatMap_append,a3,b2]
     simp
theorem qnz {k:Nat} {l:List UInt8} (h:qgt k l=none):∀n,k≤n→qgt n l=none
 | 0,hn=>by
  obtain rfl:k=0:=by omega
  exact h
 | n+1,hn=>by
  by_cases e:k=n+1
  ·subst e;exact h
  ·unfold qgt;rw [qnz h n (by omega)]
theorem qyx {k:Nat} {l r:List UInt8} {es:List Ex} (h:qgt k l=some (es,r)) (h2:cext r=none) {n:Nat} (hn:k<n):qgt n l=none:=by
 refine qnz (k:=k+1) ?_ n hn
 unfold qgt;rw [h];simp only;rw [h2]
theorem qwa {k:Nat} {l r q:List UInt8} {es:List Ex} {x:Ex} (h:qgt k l=some (es,r)) (h2:cext r=some (x,q)):qgt (k+1) l=some (es++[x],q):=by
 unfold qgt;rw [h];simp only;rw [h2]
def qgu (l:List UInt8):Option (Fl × List UInt8):=match ct l with
 | none=>none
 | some (s,r)=>match cnum r with
  | none=>none
  | some (n,q)=>match qgt n q with
   | none=>none
   | some (es,z)=>some ((s,es),z)
theorem ct_can {l s r:List UInt8} (h:ct l=some (s,r)):l=tx s++r:=by
 cases e:rd l with
 | none=>rw [qyj e] at h;cases h
 | some p=>
  obtain ⟨n,k⟩:=p
  by_cases hn:n≤l.length - k
  ·rw [qsr e hn] at h
   injection h with h
   injection h with h1 h2
   subst h1 h2;obtain ⟨a1,a2⟩:=qafm e
   have hl:((l.drop k).take n).length=n:=by rw [List.length_take,List.length_drop];omega
   unfold tx;rw [hl,List.append_assoc,←List.drop_drop,List.take_append_drop];exact a1
  ·rw [qyk e hn] at h;cases h
def smF5 (f:Fl):Prop:=f.1.length≤1000000∧f.2.length≤4096∧∀x∈f.2,smX x
theorem qyy {f:Fl} (h:smF5 f) (r:List UInt8):qgu (qee f++r)=some (f,r):=by
 obtain ⟨s,es⟩:=f;obtain ⟨h1,h2,h3⟩:=h
 simp only at h1 h2 h3
 unfold qgu qee
 simp only
 rw [List.append_assoc,ct_tx s _ (by omega)]
 simp only
 rw [List.append_assoc,qpc _ h2]
 simp only
 rw [qqv es r h3]
theorem qyz {l r:List UInt8} {f:Fl} (h:qgu l=some (f,r)):f.2.length≤4096∧(∀x∈f.2,smX x)∧l=qee f++r:=by
 unfold qgu at h
 cases e:ct l with
 | none=>rw [e] at h;cases h
 | some p=>
  obtain ⟨s,q⟩:=p;rw [e] at h
  simp only at h
  cases e2:cnum q with
  | none=>rw [e2] at h;cases h
  | some p=>
   obtain ⟨n,q2⟩:=p;rw [e2] at h
   simp only at h
   cases e3:qgt n q2 with
   | none=>rw [e3] at h;cases h
   | some p=>
    obtain ⟨es,z⟩:=p;rw [e3] at h
    simp only at h
    injection h with h
    injection h with h1 h2
    subst h1 h2;obtain ⟨a1,a2,a3⟩:=ql8 _ _ _ _ e3;obtain ⟨b1,b2⟩:=qgs e2;refine ⟨by simp only;omega,a2, ?_⟩;unfold qee
    simp only
    rw [ct_can e,b2,a3,a1]
    simp
def qhd:Nat→List UInt8→Option (List Fl × List UInt8)
 | 0,l=>some ([],l)
 | n+1,l=>match qhd n l with
  | none=>none
  | some (fs,r)=>match qgu r with
   | none=>none
   | some (f,q)=>some (fs++[f],q)
theorem qqw:∀(fs:List Fl) (r:List UInt8),(∀f∈fs,smF5 f)→qhd fs.length (fs.flatMap qee++r)=some (fs,r)
 | fs,r,h=>by
  rcases List.eq_nil_or_concat fs with rfl | ⟨q,x,rfl⟩
  ·rfl
  ·rw [List.concat_eq_append] at h ⊢
   have ih:=qqw q (qee x++r) (fun y hy=>h y (by simp [hy]))
   have e:(q++[x]).flatMap qee++r=q.flatMap qee++(qee x++r):=by rw [List.flatMap_append];simp
   rw [List.length_append,e]
   show (match qhd q.length (q.flatMap qee++(qee x++r)) with
    | none=>none
    | some (fs,r)=>match qgu r with
     | none=>none
     | some (f,q)=>some (fs++[f],q))=_
   rw [ih]
   simp only
   rw [qyy (h x (by simp))]
termination_by fs=>fs.length
decreasing_by subst_vars;simp [List.concat_eq_append]
theorem qjk:∀(n:Nat) (l r:List UInt8) (fs:List Fl),qhd n l=some (fs,r)→fs.length=n∧(∀f∈fs,f.2.length≤4096∧∀x∈f.2,smX x)∧l=fs.flatMap qee++r
 | 0,l,r,fs,h=>by
  injection h with h
  injection h with h1 h2
  subst h1 h2;exact ⟨rfl,by simp,by simp⟩
 | n+1,l,r,fs,h=>by
  unfold qhd at h
  cases e:qhd n l with
  | none=>rw [e] at h;cases h
  | some p=>
   obtain ⟨fs',q⟩:=p;rw [e] at h
   simp only at h
   cases e2:qgu q with
   | none=>rw [e2] at h;cases h
   | some p=>
    obtain ⟨x,z⟩:=p;rw [e2] at h
    simp only at h
    injection h with h
    injection h with h1 h2
    subst h1 h2;obtain ⟨a1,a2,a3⟩:=qjk n l q fs' e;obtain ⟨b1,b2,b3⟩:=qyz e2;refine ⟨by simp [a1], ?_, ?_⟩
    ·intro y hy
     rcases List.mem_append.1 hy with hy | hy
     ·exact a2 y hy
     ·obtain rfl:y=x:=by simpa using hy
      exact ⟨b1,b2⟩
    ·rw [List.flatMap_append,a3,b3]
     simp
theorem qn0 {k:Nat} {l:List UInt8} (h:qhd k l=none):∀n,k≤n→qhd n l=none
 | 0,hn=>by
  obtain rfl:k=0:=by omega
  exact h
 | n+1,hn=>by
  by_cases e:k=n+1
  ·subst e;exact h
  ·unfold qhd;rw [qn0 h n (by omega)]
theorem qy0 {k:Nat} {l r:List UInt8} {fs:List Fl} (h:qhd k l=some (fs,r)) (h2:qgu r=none) {n:Nat} (hn:k<n):qhd n l=none:=by
 refine qn0 (k:=k+1) ?_ n hn
 unfold qhd;rw [h];simp only;rw [h2]
theorem qwb {k:Nat} {l r q:List UInt8} {fs:List Fl} {x:Fl} (h:qhd k l=some (fs,r)) (h2:qgu r=some (x,q)):qhd (k+1) l=some (fs++[x],q):=by
 unfold qhd;rw [h];simp only;rw [h2]
def qdr (l:List UInt8):Option (List Fl × List UInt8):=match cnum l with
 | none=>none
 | some (n,r)=>qhd n r
theorem qwc {fs:List Fl} (hl:fs.length≤4096) (h:∀f∈fs,smF5 f):qdr (bytF fs)=some (fs,[]):=by
 unfold qdr bytF;rw [qpc _ hl]
 simp only
 have:=qqw fs [] h
 rwa [List.append_nil] at this
theorem qn3 {l r:List UInt8} {fs:List Fl} (h:qdr l=some (fs,r)):fs.length≤4096∧(∀f∈fs,f.2.length≤4096∧∀x∈f.2,smX x)∧l=bytF fs++r:=by
 unfold qdr at h
 cases e:cnum l with
 | none=>rw [e] at h;cases h
 | some p=>
  obtain ⟨n,q⟩:=p;rw [e] at h
  simp only at h
  obtain ⟨a1,a2,a3⟩:=qjk _ _ _ _ h;obtain ⟨b1,b2⟩:=qgs e;refine ⟨by omega,a2, ?_⟩;unfold bytF;rw [b2,a3,a1,List.append_assoc]
theorem smX_wf {x:Ex} (h:smX x):wfX x:=by unfold smX at h;unfold wfX;omega
def qdi (b:List UInt8) (B:Int):Int:=
 if ¬blkP B then 2 else if 2048<b.length then 3 else match qdr b with
  | some (fs,[])=>if mayF fs B then 0 else 8
  | _=>8
def qf2 (b:List UInt8) (B:Int):List Fl:=if qdi b B=0 then (match qdr b with | some (fs,_)=>fs | none=>[]) else []
theorem qaha {fs:List Fl} {B:Int} (h:mayF fs B) (hB:B≤4096):fs.length≤4096∧∀f∈fs,smF5 f:=by
 refine ⟨by have:=h.1;omega,fun f hf=>?_⟩;have h1:=qih (h.2.1.1 f hf);refine ⟨by omega,by omega,fun x hx=>?_⟩
 have:=qes h.2.2.1 x (List.mem_flatMap.2 ⟨f,hf,hx⟩)
 unfold smX;omega
theorem qy1 {fs:List Fl} {B:Int} (h:chkF fs B=0):qdi (bytF fs) B=0∧qf2 (bytF fs) B=fs:=by
 obtain ⟨h1,h2⟩:=qo8 h;obtain ⟨k1,k2⟩:=qaha h2 h1.2;have e:=qwc k1 k2
 have e0:qdi (bytF fs) B=0:=by
  unfold qdi;rw [if_neg (by simpa using h1),if_neg (by have:=h2.2.2.2;omega),e]
  simp only
  rw [if_pos h2]
 exact ⟨e0,by unfold qf2;rw [if_pos e0,e]⟩
theorem qqx {b:List UInt8} {B:Int} (h:qdi b B=0):chkF (qf2 b B) B=0∧bytF (qf2 b B)=b:=by
 have h0:=h;unfold qdi at h
 by_cases h1:blkP B
 ·rw [if_neg (by simpa using h1)] at h
  by_cases h2:2048<b.length
  ·rw [if_pos h2] at h;omega
  ·rw [if_neg h2] at h
   unfold qf2;rw [if_pos h0]
   cases e:qdr b with
   | none=>rw [e] at h;simp at h
   | some p=>
    obtain ⟨fs,r⟩:=p;rw [e] at h
    cases r with
    | cons c r=>simp at h
    | nil=>
     simp only at h ⊢
     by_cases h3:mayF fs B
     ·obtain ⟨_,_,a3⟩:=qn3 e
      exact ⟨qo9 h1 h3,by rw [a3,List.append_nil]⟩
     ·rw [if_neg h3] at h;omega
 ·rw [if_pos h1] at h;omega
theorem qjl {b:List UInt8} {B:Int} (h:qdi b B≠0):qf2 b B=[]:=by unfold qf2;rw [if_neg h]
theorem qy2 {b:List UInt8} {B:Int} (h:¬blkP B):qdi b B=2:=by unfold qdi;rw [if_pos h]
theorem qwd {b:List UInt8} {B:Int} (h:blkP B) (h2:2048<b.length):qdi b B=3:=by unfold qdi;rw [if_neg (by simpa using h),if_pos h2]
theorem qwe {b:List UInt8} {B:Int} (h:blkP B) (h2:¬2048<b.length) (e:qdr b=none):qdi b B=8:=by unfold qdi;rw [if_neg (by simpa using h),if_neg h2,e]
theorem qwf {b r:List UInt8} {fs:List Fl} {B:Int} (h:blkP B) (h2:¬2048<b.length) (e:qdr b=some (fs,r)) (hr:r≠[]):qdi b B=8:=by
 unfold qdi;rw [if_neg (by simpa using h),if_neg h2,e]
 cases r with
 | nil=>exact absurd rfl hr
 | cons _ _=>rfl
theorem qwg {b:List UInt8} {fs:List Fl} {B:Int} (h:blkP B) (h2:¬2048<b.length) (e:qdr b=some (fs,[])):qdi b B=(if mayF fs B then 0 else 8)∧(mayF fs B→qf2 b B=fs):=by
 have e1:qdi b B=(if mayF fs B then 0 else 8):=by unfold qdi;rw [if_neg (by simpa using h),if_neg h2,e]
 exact ⟨e1,fun hm=>by unfold qf2;rw [e1,if_pos hm,if_pos rfl,e]⟩
abbrev Fsd:=Dk × Nat × List Fl × List Fl
def fz:Fsd:=(dz,0,[],[])
def genB (d:Dk) (gen size:Nat):List UInt8:=(d.1.drop (128*(2+gen % 2*16))).take size
def okFs (f:Fsd):Prop:=(qaj f.1).2.2=0∧(qaj f.1).1=f.2.1∧(∀p∈f.1.2.1,34≤p.1)∧qdi (genB f.1 f.2.1 (qaj f.1).2.1) (mny f.1)=0∧qf2 (genB f.1 f.2.1 (qaj f.1).2.1) (mny f.1)=f.2.2.2∧chkF f.2.2.1 (mny f.1)=0
instance (f:Fsd):Decidable (okFs f):=inferInstanceAs (Decidable (_∧_∧_∧_∧_∧_))
def fsE (f:Fsd):Int:=if okFs f then 0 else 8
def qa5 (f:Fsd):List Ex:=qgr f.2.2.1++qgr f.2.2.2
def qa9 (f:Fsd):Int:=(qje f.1).1
def mkE (f:Fsd) (s:List UInt8) (n:Int):Int:=
 if qbg f.2.2.1 s=0 then 51 else if qbg f.2.2.1 s≠6 then qbg f.2.2.1 s
 else if qem 34 (qa9 f) (qa5 f) n≠0 then qem 34 (qa9 f) (qa5 f) n
 else qa8 f.2.2.1 s (qcr 34 (qa9 f) (qa5 f) n) (qa9 f)
def mkL (f:Fsd) (s:List UInt8) (n:Int):List Fl:=if mkE f s n=0 then qdq f.2.2.1 s (qcr 34 (qa9 f) (qa5 f) n) (qa9 f) else []
def qhu (f:Fsd) (l:List Fl) (e:Int):Fsd × Int:=if fsE f≠0 then (fz,fsE f) else if e≠0 then (fz,e) else ((f.1,f.2.1,l,f.2.2.2),0)
def qa6 (f:Fsd) (s:List UInt8) (n:Int):Fsd × Int:=qhu f (mkL f s n) (mkE f s n)
def bloE (f:Fsd) (s:List UInt8):Int:=if qbg f.2.2.1 s≠0 then qbg f.2.2.1 s else chkX (getF f.2.2.1 s)
def bloL (f:Fsd) (s:List UInt8):List Int:=if qbg f.2.2.1 s≠0 then [] else qgq (getF f.2.2.1 s)
def atE (f:Fsd) (s:List UInt8) (i:Int):Int:=if bloE f s≠0 then bloE f s else if i<0∨((bloL f s).length:Int)≤i then 2 else 0
def atN (f:Fsd) (s:List UInt8) (i:Int):Int:=if atE f s i≠0 then 0 else (bloL f s).getD i.toNat 0
def qay (f:Fsd) (s:List UInt8):Int:=if fsE f≠0 then fsE f else bloE f s
def qk5 (f:Fsd) (s:List UInt8):Int:=if fsE f≠0 then 0 else (bloL f s).length
def getE (f:Fsd) (s:List UInt8) (i:Int):Int:=if fsE f≠0 then fsE f else if atE f s i≠0 then atE f s i else (qhc f.1 (atN f s i)).2
def getL (f:Fsd) (s:List UInt8) (i:Int):List UInt8:=if fsE f≠0 then [] else if atE f s i≠0 then [] else (qhc f.1 (atN f s i)).1
def qahb (f:Fsd):Int:=if fsE f≠0 then fsE f else if qc9 34 (qa9 f) (qa5 f)≠0 then qc9 34 (qa9 f) (qa5 f) else chkX (qdn 34 (qa9 f) (qa5 f))
def qsu (f:Fsd):Int:=if fsE f≠0 then 0 else if qc9 34 (qa9 f) (qa5 f)≠0 then 0 else manyR (qdn 34 (qa9 f) (qa5 f))
/-! ### on the way -/
abbrev Wy:=Fsd × Int × List UInt8
abbrev Stp:=Wy→Wy × Int
def qai (s:Stp) (x:Wy):Wy:=if x.2.1=0 then ((s x).1.1,(s x).2,(s x).1.2.2) else x
def qas (f:Fsd):Wy:=(f,fsE f,[])
def endW (x:Wy):Fsd × Int:=if x.2.1≠0 then (fz,x.2.1) else (x.1,0)
def ql9 (x:Wy) (d:Dk):Wy:=((d,x.1.2),x.2)
def qbz:Stp:=fun x=>if x.1.2.1=4294967295 then (x,9) else (((x.1.1,x.1.2.1+1,x.1.2.2),x.2.1,qe4 x.1.2.2.1 (qa9 x.1)),chkF x.1.2.2.1 (qa9 x.1))
def qck:Stp:=fun x=>(ql9 x (doD x.1.1 [(true,0,[])] 1).1,(doD x.1.1 [(true,0,[])] 1).2)
def qfu:Stp:=fun x=>(ql9 x (qfp x.1.1).1,(qfp x.1.1).2)
def qsv:Stp:=fun x=>(ql9 x (doD x.1.1 [] 0).1,(doD x.1.1 [] 0).2)
def qdw (n:Int) (b:List UInt8):Stp:=fun x=>(ql9 x (doD x.1.1 [(false,n,b)] 1).1,(doD x.1.1 [(false,n,b)] 1).2)
def putW (s:List UInt8) (i:Int) (b:List UInt8):Stp:=fun x=>if atE x.1 s i≠0 then (x,atE x.1 s i) else qdw (atN x.1 s i) b x
def dirW (l:List Fl) (e:Int):Stp:=fun x=>(((x.1.1,x.1.2.1,l,x.1.2.2.2),x.2),e)
def keepW:Stp:=fun x=>(((x.1.1,x.1.2.1,x.1.2.2.1,x.1.2.2.1),x.2),0)
def padB (l:List UInt8):List UInt8:=l.take 128++List.replicate (128 - l.length) 0
def qbh (l:List UInt8):List (List UInt8):=(List.range ((l.length+127) / 128)).map fun k=>padB (l.drop (128*k))
def qda:Int→List (List UInt8)→Stp
 | _,[],x=>(x,0)
 | n,b::l,x=>if (qdw n b x).2≠0 then qdw n b x else qda (n+1) l (qdw n b x).1
def qhv:Stp:=fun x=>qda ((2+x.1.2.1 % 2*16:Nat):Int) (qbh x.2.2) x
def qjm:Stp:=fun x=>if (qau x.1.2.1 (x.2.2.length:Nat)).2≠0 then (x,(qau x.1.2.1 (x.2.2.length:Nat)).2) else qdw ((x.1.2.1 % 2:Nat):Int) (qau x.1.2.1 (x.2.2.length:Nat)).1 x
def qb1 (x:Wy):Wy:=qai keepW (qai qck (qai qjm (qai qck (qai qhv (qai qck (qai qbz x))))))
def qcs (f:Fsd) (s:List UInt8) (i:Int) (b:List UInt8):Fsd × Int:=endW (qai (putW s i b) (qas f))
def qbl (f:Fsd):Fsd × Int:=endW (qai qck (qas f))
def qf3 (f:Fsd):Fsd × Int:=endW (qai qfu (qas f))
def qct (f:Fsd):Fsd × Int:=endW (qb1 (qas f))
def qcu (n:Int):Fsd × Int:=if (newD n).2≠0 then (fz,(newD n).2) else if n≤34 then (fz,2) else endW (qai qfu (qb1 (((newD n).1,0,[],[]),0,[])))
def qn4 (f:Fsd) (l:List Fl) (e:Int):Fsd × Int:=endW (qai qsv (qai (dirW l e) (qas f)))
theorem qeg (f:Fsd):(okFs f∧fsE f=0)∨(¬okFs f∧fsE f=8):=by
 unfold fsE;by_cases h:okFs f
 ·exact .inl ⟨h,if_pos h⟩
 ·exact .inr ⟨h,if_neg h⟩
theorem qma {f:Fsd} (h:fsE f=0):okFs f:=by rcases qeg f with h1 | h1;exact h1.1;rw [h1.2] at h;cases h
theorem qdx {f:Fsd} (h:okFs f):fsE f=0:=by unfold fsE;exact if_pos h
theorem qap {f:Fsd} (h:okFs f):okD f.1=true∧34<mny f.1∧f.2.1≠0∧qaj f.1=(f.2.1,(qaj f.1).2.1,0):=by
 obtain ⟨h1,h2,_⟩:=h
 have e:qaj f.1=(f.2.1,(qaj f.1).2.1,0):=by rw [←h2,←h1]
 obtain ⟨a,b,c,_⟩:=qie e;exact ⟨a,b,c,e⟩
theorem qsw {d:Dk} (h:okD d=true):chk d=0:=by unfold chk;rw [if_pos h]
theorem qij {f:Fsd} (h:okD f.1=true):qa9 f=mny f.1:=by unfold qa9 qje;rw [qsw h];rfl
theorem qjn {f:Fsd} (h:okFs f):(qaj f.1).2.1≤2048∧f.2.1<4294967296:=by
 obtain ⟨h1,h2,h3,h4⟩:=qap h;obtain ⟨_,_,hg,hb⟩:=qie h4
 have:=qkc hb hg
 unfold qcg at this
 split at this
 ·have e1:=congrArg Prod.fst this
  have e2:=congrArg Prod.snd this
  simp only at e1 e2
  have:=qx8 (blk f.1.1 (f.2.1 % 2))
  omega
 ·have e1:=congrArg Prod.fst this
  simp only at e1
  omega
theorem qy3 (f:Fsd) (l:List Fl) (e:Int):qn4 f l e=qhu f l e:=by
 unfold qn4 qhu qas
 rcases qeg f with ⟨h,h0⟩ | ⟨h,h0⟩
 ·have hd:=qsw (qap h).1
  rw [h0];unfold qai dirW qsv endW ql9 doD
  by_cases he:e=0
  ·subst he
   simp [hd,qfn,qa7]
  ·simp [he]
 ·rw [h0]
  simp [qai,endW]
theorem OwB.at {w:World} {base g n c:Nat} {l:List UInt8} (h:OwB w base (.slice (some ⟨g,0,none⟩) n c) l) (j:Nat) (hj:j<l.length):w.cell? ⟨g,j,none⟩=some (.int .u8 (l[j]).toNat):=by
 have hx:(u8v l)[j]? =some (.int .u8 (l[j]).toNat):=by simp [u8v,List.getElem?_eq_getElem hj]
 have:=World.ownsRow.cells h (g:=g) rfl _ _ hx
 rw [Addr.add_lit] at this
 simpa using this
theorem OwB.len {w:World} {base g n c:Nat} {l:List UInt8} (h:OwB w base (.slice (some ⟨g,0,none⟩) n c) l):n=l.length:=by
 obtain ⟨a,c',e⟩:=h.form
 cases e;rfl
theorem OwB.fz {w:World} {base g n c:Nat} {l:List UInt8} (h:OwB w base (.slice (some ⟨g,0,none⟩) n c) l) (j:Nat):w.frozen? ⟨g,j,none⟩=false:=by
 obtain rfl:=h.len;exact World.ownsRow.frozenAt h j
theorem OwB.stored {w:World} {base g n c:Nat} {l:List UInt8} (h:OwB w base (.slice (some ⟨g,0,none⟩) n c) l) (j:Nat) (b:UInt8):
  OwB (w.setCell ⟨g,j,none⟩ (.int .u8 b.toNat)) base (.slice (some ⟨g,0,none⟩) n c) (l.set j b)∧w.grownBy (w.setCell ⟨g,j,none⟩ (.int .u8 b.toNat)) (some g):=by
 obtain rfl:=h.len;obtain ⟨h1,h2⟩:=World.ownsRow.stored h j (.int .u8 b.toNat);refine ⟨?_,h2⟩;unfold OwB;rw [List.length_set]
 have:u8v (l.set j b)=(u8v l).set j (.int .u8 b.toNat):=by simp [u8v,List.map_set]
 rw [this];exact h1
theorem qmb (data l:List UInt8) (o k:Nat) (hk:k<l.length) (hf:o+l.length≤data.length):(splice data o (l.take k)).set (o+k) l[k]=splice data o (l.take (k+1)):=by
 unfold splice
 have e1:(data.take o).length=o:=by simp;omega
 have e2:(l.take k).length=k:=by simp;omega
 have e3:(l.take (k+1)).length=k+1:=by simp;omega
 rw [List.set_append_right _ _ (by omega),e1,show o+k - o=k by omega,List.set_append_right _ _ (by omega),e2,Nat.sub_self,e3]
 have hd:o+k<data.length:=by omega
 rw [List.drop_eq_getElem_cons hd,List.set_cons_zero,List.take_succ_eq_append_getElem hk,List.append_assoc];rfl
theorem qik (g off n c k:Nat) (w:World) (hk:k+4≤n) (hc:n≤c) (hm:c≤maxLen):
  Calls Tryz.prog 192 #[.slice (some ⟨g,off,none⟩) n c,.int .i64 k] w fun e w'=>e=.returned (.func (.func 223) #[] #[.pointer (some ⟨w.heap.size,0,none⟩)])∧Below w.heap.size w w'∧w'.cell? ⟨w.heap.size,0,none⟩=some (.slice (some ⟨g,off+k,none⟩) 4 (c - k))∧w'.heap.size=w.heap.size+1:=by
 have hw:wrap64 ((k:Int)+4)=((k+4:Nat):Int):=by unfold wrap64;unfold maxLen at hm;omega
 have h1:((k+4:Nat):Int)≤c:=by omega
 have h2:¬k=c:=by omega
 have h3:k+4≤c:=by omega
 have h4:k+4 - k=4:=by omega
 go_enter Tryz.func192,Tryz.ntmps192
 go_wp2;go_ret;rw [h4];exact ⟨rfl,(Below.refl _ _).alloc (Nat.le_refl _) _,by simp,by simp⟩
theorem qhw {j:Nat} (h:j<4):∃m:Nat,m=8*j∧wrap64 (8*(j:Int))=(m:Int)∧IntKind.i64.wrap (8*(j:Int))=(m:Int)∧(m:Int)≤32:=by
 refine ⟨8*j,rfl, ?_, ?_,by omega⟩
 ·unfold wrap64;omega
 ·rw [IntKind.wrap_i64];omega
theorem qt7 (x j m:Nat) (hm:m=8*j) (h:j<4):IntKind.u8.wrap ((x:Int) / 2 ^ m)=(((le4 x)[j]'(by rw [qbd];exact h)).toNat:Int):=by
 rw [qagw x j h,hm,IntKind.wrap_u8',UInt8.toNat_ofNat']
 have e:((2:Int) ^ (8*j))=((2 ^ (8*j):Nat):Int):=by rw [Int.natCast_pow];rfl
 rw [e,←Int.natCast_ediv];generalize x / 2 ^ (8*j)=y;omega
theorem qn5 {w w':World} {k g:Nat} {v:Value} {o:Nat} (hg:w.grownBy w' (some g)) (hc:w.cell? ⟨k,o,none⟩=some v) (hne:k≠g):w'.cell? ⟨k,o,none⟩=some v:=by
 rw [←hc];unfold World.cell?;rw [show w'.heap[k]? =w.heap[k]? from hg.block _ (World.block_lt_of_cell? w _ hc) (by simpa using hne)]
theorem qy4 (base g n c k kp cp:Nat) (l:List UInt8) (x:Nat) (w:World) (hown:OwB w base (.slice (some ⟨g,0,none⟩) n c) l) (hcell:w.cell? ⟨kp,0,none⟩=some (.slice (some ⟨g,k,none⟩) 4 cp)) (hne:kp≠g) (hk:k+4≤l.length) (hx:x<4294967296):
  Calls Tryz.prog 223 #[.bool true,.int .u32 x,.pointer (some ⟨kp,0,none⟩)] w fun e w'=>(∃v,e=.returned v)∧w.grownBy w' (some g)∧OwB w' base (.slice (some ⟨g,0,none⟩) n c) (splice l k (le4 x)):=by
 have HOWN:=hide hown;have HKL:=hide hk;have HX:=hide hx;have hkb:kp<w.heap.size:=World.block_lt_of_cell? w _ hcell;clear hown hk hx
 go_enter Tryz.func223,Tryz.ntmps223
 go_wp2
 go_loopw [6,10] (fun t i wr=>∃(j:Nat) (z:Int),j≤4∧i=.int .i64 j∧t=.int .u32 z∧Hid (OwB wr base (.slice (some ⟨g,0,none⟩) n c) (splice l k ((le4 x).take j)))∧w.grownBy wr (some g)) (fun _ i _=>4 - (intOf i).toNat)
 case atStart=>
  refine ⟨0,0,Nat.zero_le _,rfl,rfl, ?_,World.grownBy.refl _ _⟩
  show OwB _ _ _ _
  have e:splice l k ((le4 x).take 0)=l:=by simp [splice]
  rw [e];exact HOWN.out
 case round=>
  obtain ⟨j,z,hj,rfl,rfl,ho,hgr⟩:=hrel
  by_cases hlt:j<4
  ·have hlt':(j:Int)<4:=by omega
   obtain ⟨m,em,a1,a2,a3⟩:=qhw hlt;have EM:=hide em;clear em;have hc:wr.cell? ⟨kp,0,none⟩=some (.slice (some ⟨g,k,none⟩) 4 cp):=qn5 hgr hcell hne;have hfz:=ho.out.fz (k+j);have hcl:=ho.out.at (k+j) (by rw [length_splice];have:=HKL.out;omega;have:=HKL.out;simp [qbd];omega);obtain ⟨bk,hbk,ebk⟩:∃bk:UInt8,IntKind.u8.wrap ((x:Int) / 2 ^ m)=(bk.toNat:Int)∧bk=(le4 x)[j]'(by rw [qbd];exact hlt):=⟨_,qt7 x j m EM.out hlt,rfl⟩;have EB:=hide ebk;clear ebk;have hK:Keeps (fun wx=>wx.cell? ⟨kp,0,none⟩=some (.slice (some ⟨g,k,none⟩) 4 cp)):=qaa _ _;go_wp2
   refine qev hK 8 (by kernel_rfl) hc ?_
   intro hS
   refine qeb [0,1,2,3,4,5,6,7] (fuel:=1) (a':=?zp1a) (by kernel_rfl) (by kernel_rfl) (by kernel_rfl) ?zp1p hS ?zp1n
   case zp1p=>
    iterate 8 (apply Yl.cons rfl (by kernel_rfl);focus (rintro wx x1;go_simp;all_goals (with_reducible rfl));try simp only [Act.put,sA,sB,sC])
    exact Yl.nil
   refine qf7 (i:=8) (w':=wr.drew.setCell ⟨g,k+j,none⟩ (.int .u8 bk.toNat)) rfl (by kernel_rfl) (by kernel_rfl) (by rfl) (by go_simp) ?_
   try simp only [Act.put,sA,sB,sC]
   refine qd3 (by kernel_rfl) ?_ _
   refine NoPanic.normal ?_
   clear hS hK hbk hcl;obtain ⟨o1,o2⟩:=ho.out.stored (k+j) bk;rw [EB.out,qmb _ _ _ _ (by rw [qbd];exact hlt) (by rw [qbd];exact HKL.out),←EB.out] at o1;have o1':OwB (wr.drew.setCell ⟨g,k+j,none⟩ (.int .u8 bk.toNat)) base (.slice (some ⟨g,0,none⟩) n c) (splice l k ((le4 x).take (j+1))):=o1.carry (Below.refl _ _).drew;have hG:w.grownBy (wr.drew.setCell ⟨g,k+j,none⟩ (.int .u8 bk.toNat)) (some g):=qbb (qbb hgr o2) (qno (qcn (Below.refl _ _).drew) _);have hcs:=qn5 hG hcell hne;have hcb:=o1'.at (k+j) (by rw [length_splice];have:=HKL.out;omega;have:=HKL.out;simp [qbd];omega);obtain ⟨bz,hbz⟩:∃bz:Int,bz=(((splice l k ((le4 x).take (j+1)))[k+j]'(by rw [length_splice];have:=HKL.out;omega;have:=HKL.out;simp [qbd];omega)).toNat:Int):=⟨_,rfl⟩;rw [←hbz] at hcb;clear hbz;have HO1:=hide o1';clear o1 o1' o2 hfz hc ho;generalize wr.drew.setCell ⟨g,k+j,none⟩ (.int .u8 bk.toNat)=ws at *;go_wp2;go_roundw
   case rel=>exact ⟨j+1,_,by omega,by go_num,rfl,HO1,hG⟩
   case measure=>simp [intOf]<;>omega
  ·have hlt':decide ((j:Int)<4)=false:=by simpa using (by omega:¬(j:Int)<4)
   obtain rfl:j=4:=by omega
   go_wp2;go_ret;refine ⟨⟨_,rfl⟩,hgr, ?_⟩
   have:=ho.out
   rwa [List.take_of_length_le (by rw [qbd];omega)] at this
theorem qafn (j m u:Nat) (b:UInt8) (hm:m=8*j) (hj:j<4) (hu:u<256 ^ j):bits .or .u32 (u:Int) ((b.toNat:Int) % 4294967296*2 ^ m % 4294967296)=((u+b.toNat*256 ^ j:Nat):Int):=by
 have hb:=b.toNat_lt
 have hp:(256:Nat) ^ j=2 ^ m:=by rw [hm,Nat.pow_mul]
 rw [hp] at hu ⊢;have hle:(2:Nat) ^ m≤2 ^ 24:=Nat.pow_le_pow_right (by decide) (by omega)
 have hlt:b.toNat*2 ^ m<4294967296:=by
  have:b.toNat*2 ^ m≤255*2 ^ m:=Nat.mul_le_mul_right _ (by omega)
  omega
 have e:((b.toNat:Int)*2 ^ m)=((b.toNat*2 ^ m:Nat):Int):=by rw [Int.natCast_mul,Int.natCast_pow];rfl
 rw [show (b.toNat:Int) % 4294967296=b.toNat by omega,e]
 have e2:((b.toNat*2 ^ m:Nat):Int) % 4294967296=((b.toNat*2 ^ m:Nat):Int):=by omega
 rw [e2,u32_or_nat _ _ (by omega) hlt,Nat.or_comm,nat_join m _ _ (by simp) hu,Nat.add_comm]
theorem qy5 (g off kp cp:Nat) (b:List UInt8) (w:World) (hb:b.length=4) (hrd:Rd w (.slice (some ⟨g,off,none⟩) 4 cp) b) (hcell:w.cell? ⟨kp,0,none⟩=some (.slice (some ⟨g,off,none⟩) 4 cp)):
  Calls Tryz.prog 223 #[.bool false,.int .u32 0,.pointer (some ⟨kp,0,none⟩)] w fun e w'=>e=.returned (.int .u32 (un4 b))∧w'=w:=by
 have HB:=hide hb
 have hcs:∀j,(h:j<b.length)→w.cell? ⟨g,off+j,none⟩=some (.int .u8 (b[j]).toNat):=by
  rcases hrd with ⟨rfl,_⟩ | ⟨b',off',c',e,_,_,hc⟩
  ·exact absurd hb (by decide)
  ·simp only [Value.slice.injEq,Option.some.injEq,Addr.mk.injEq] at e
   obtain ⟨⟨rfl,rfl,_⟩,_,rfl⟩:=e;exact hc
 have HC:=hide hcs;clear hb hrd hcs
 go_enter Tryz.func223,Tryz.ntmps223
 go_wp2
 go_loop [6,10] (fun t i=>∃j:Nat,j≤4∧i=.int .i64 j∧t=.int .u32 (un4 (b.take j))) (fun _ i=>4 - (intOf i).toNat)
 case atStart=>exact ⟨0,Nat.zero_le _,rfl,rfl⟩
 case round=>
  obtain ⟨j,hj,rfl,rfl⟩:=hrel
  by_cases hlt:j<4
  ·have hlt':(j:Int)<4:=by omega
   obtain ⟨m,em,a1,a2,a3⟩:=qhw hlt;have EM:=hide em;clear em
   have hjb:j<b.length:=by rw [HB.out];exact hlt
   have hc:=HC.out j hjb;obtain ⟨u,hu⟩:∃u:Nat,u=un4 (b.take j):=⟨_,rfl⟩;have HU:=hide (show un4 (b.take (j+1))=u+(b[j]).toNat*256 ^ j by rw [hu];exact qt1 b j hjb)
   have HL:=hide (show u<256 ^ j by
    rw [hu];have:=qkw (b.take j);rwa [List.length_take,Nat.min_eq_left (by omega)] at this)
   rw [←hu];obtain ⟨y,hy⟩:∃y:UInt8,y=b[j]:=⟨_,rfl⟩;rw [←hy] at hc;have HY:=hide hy;clear hu hy;go_wp2
   go_round
   case rel=>exact ⟨j+1,by omega,by go_num,by rw [HU.out,←qafn j m u _ EM.out hlt HL.out,←HY.out]⟩
   case measure=>simp [intOf]<;>omega
  ·obtain rfl:j=4:=by omega
   go_wp2;go_ret;refine ⟨?_,rfl⟩;rw [List.take_of_length_le (by rw [HB.out];omega)];rfl
end Go.Proofs.YtnmbbpdhjkaidaaGreat
