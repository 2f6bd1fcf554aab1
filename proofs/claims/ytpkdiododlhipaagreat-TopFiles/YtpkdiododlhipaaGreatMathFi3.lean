/-
  Layer 5 in plain words: bytes that are read as a directory.
-/
import Derived.Test.YtpkdiododlhipaaGreatMathFi2
namespace Go.Proofs.YtpkdiododlhipaaGreat
open Go.RowKit
set_option linter.all false
theorem qsh:∀(l:List UInt8) (i acc n k:Nat),i≤9→rdGo l i acc=some (n,k)→∃m,n=acc+m*128 ^ i∧i<k∧k - i≤l.length∧l.take (k - i)=sm m∧(0<i→0<m)
 | [],i,acc,n,k,_,h=>by simp [rdGo] at h
 | c::r,i,acc,n,k,hi,h=>by
  have hc:c.toNat<256:=c.toNat_lt;unfold rdGo at h
  by_cases h1:i=9∧1<c.toNat
  ·rw [if_pos h1] at h;cases h
  ·rw [if_neg h1] at h
   by_cases h2:128≤c.toNat
   ·rw [if_pos h2] at h
    obtain ⟨m,e1,e2,e3,e4,e5⟩:=qsh r (i+1) _ n k (by omega) h;have hm:0<m:=e5 (by omega);refine ⟨c.toNat % 128+128*m, ?_,by omega,by rw [List.length_cons];omega, ?_,fun _=>by omega⟩
    ·rw [e1,Nat.pow_succ,Nat.add_mul,Nat.mul_comm 128 m,Nat.mul_assoc m 128,Nat.mul_comm 128 (128 ^ i)]
     omega
    ·rw [show k - i=(k - (i+1))+1 by omega,List.take_succ_cons,e4,qql (by omega:128≤c.toNat % 128+128*m)]
     have a1:(c.toNat % 128+128*m) % 128+128=c.toNat:=by omega
     have a2:(c.toNat % 128+128*m) / 128=m:=by omega
     rw [a1,a2]
     congr 1
     exact (UInt8.ofNat_toNat).symm
   ·rw [if_neg h2] at h
    by_cases h3:c.toNat=0∧0<i
    ·rw [if_pos h3] at h;cases h
    ·rw [if_neg h3] at h
     injection h with h
     injection h with e1 e2
     refine ⟨c.toNat,e1.symm,by omega,by rw [List.length_cons];omega, ?_,fun hi=>by omega⟩;rw [show k - i=1 by omega,qqk (by omega:c.toNat<128)]
     simp
theorem qabd {l:List UInt8} {n k:Nat} (h:rd l=some (n,k)):l=sm n++l.drop k∧k=(sm n).length:=by
 obtain ⟨m,e1,e2,e3,e4,_⟩:=qsh l 0 0 n k (by omega) h
 have hm:n=m:=by simpa using e1
 subst hm;rw [Nat.sub_zero] at e3 e4
 have hk:k=(sm n).length:=by rw [←e4,List.length_take];omega
 exact ⟨by rw [←e4,List.take_append_drop],hk⟩
def cnum (l:List UInt8):Option (Nat × List UInt8):=match rd l with
 | none=>none
 | some (n,k)=>if n≤4096 then some (n,l.drop k) else none
theorem qnc (n:Nat) (h:n≤4096) (r:List UInt8):cnum (sm n++r)=some (n,r):=by
 unfold cnum;rw [rd_sm n (by omega)]
 simp [h]
theorem qe1 {l r:List UInt8} {n:Nat} (h:cnum l=some (n,r)):n≤4096∧l=sm n++r:=by
 unfold cnum at h
 cases e:rd l with
 | none=>rw [e] at h;cases h
 | some p=>
  obtain ⟨m,k⟩:=p;rw [e] at h
  simp only at h
  by_cases hm:m≤4096
  ·rw [if_pos hm] at h
   injection h with h
   injection h with e1 e2
   subst e1 e2;exact ⟨hm,(qabd e).1⟩
  ·rw [if_neg hm] at h;cases h
theorem qzn {l r:List UInt8} {n:Nat} (h:cnum l=some (n,r)):r.length<l.length:=by
 have:=(qe1 h).2
 have h1:=qu6 n
 rw [this,List.length_append];omega
def cext (l:List UInt8):Option (Ex × List UInt8):=match cnum l with
 | none=>none
 | some (x,r)=>match cnum r with
  | none=>none
  | some (y,q)=>some (((x:Int),(y:Int)),q)
def smX (x:Ex):Prop:=0≤x.1∧x.1≤4096∧0≤x.2∧x.2≤4096
theorem qzo {x:Ex} (h:smX x) (r:List UInt8):cext (bytX x++r)=some (x,r):=by
 obtain ⟨a,b⟩:=x;obtain ⟨h1,h2,h3,h4⟩:=h
 simp only at h1 h2 h3 h4
 unfold cext bytX;rw [List.append_assoc,qnc _ (by simp only;omega)]
 simp only
 rw [qnc _ (by omega)]
 simp only [Option.some.injEq,Prod.mk.injEq,and_true]
 omega
theorem qzp {l r:List UInt8} {x:Ex} (h:cext l=some (x,r)):smX x∧l=bytX x++r:=by
 unfold cext at h
 cases e:cnum l with
 | none=>rw [e] at h;cases h
 | some p=>
  obtain ⟨m,q⟩:=p;rw [e] at h
  simp only at h
  cases e2:cnum q with
  | none=>rw [e2] at h;cases h
  | some p=>
   obtain ⟨m2,q2⟩:=p;rw [e2] at h
   simp only at h
   injection h with h
   injection h with h1 h2
   subst h1 h2;obtain ⟨a1,a2⟩:=qe1 e;obtain ⟨b1,b2⟩:=qe1 e2;refine ⟨⟨by simp,by simp only;omega,by simp,by simp only;omega⟩, ?_⟩;unfold bytX
   simp only [Int.toNat_natCast]
   rw [a2,List.append_assoc,←b2]
def qe2:Nat→List UInt8→Option (List Ex × List UInt8)
 | 0,l=>some ([],l)
 | n+1,l=>match qe2 n l with
  | none=>none
  | some (es,r)=>match cext r with
   | none=>none
   | some (x,q)=>some (es++[x],q)
theorem qo5:∀(es:List Ex) (r:List UInt8),(∀x∈es,smX x)→qe2 es.length (bytE es++r)=some (es,r)
 | es,r,h=>by
  rcases List.eq_nil_or_concat es with rfl | ⟨q,x,rfl⟩
  ·rfl
  ·rw [List.concat_eq_append] at h ⊢
   have ih:=qo5 q (bytX x++r) (fun y hy=>h y (by simp [hy]))
   have e:bytE (q++[x])++r=bytE q++(bytX x++r):=by unfold bytE;rw [List.flatMap_append];simp
   rw [List.length_append,e]
   show (match qe2 q.length (bytE q++(bytX x++r)) with
    | none=>none
    | some (es,r)=>match cext r with
     | none=>none
     | some (x,q)=>some (es++[x],q))=_
   rw [ih]
   simp only
   rw [qzo (h x (by simp))]
termination_by es=>es.length
decreasing_by subst_vars;simp [List.concat_eq_append]
theorem qke:∀(n:Nat) (l r:List UInt8) (es:List Ex),qe2 n l=some (es,r)→es.length=n∧(∀x∈es,smX x)∧l=bytE es++r
 | 0,l,r,es,h=>by
  injection h with h
  injection h with h1 h2
  subst h1 h2;exact ⟨rfl,by simp,by simp [bytE]⟩
 | n+1,l,r,es,h=>by
  unfold qe2 at h
  cases e:qe2 n l with
  | none=>rw [e] at h;cases h
  | some p=>
   obtain ⟨es',q⟩:=p;rw [e] at h
   simp only at h
   cases e2:cext q with
   | none=>rw [e2] at h;cases h
   | some p=>
    obtain ⟨x,z⟩:=p;rw [e2] at h
    simp only at h
    injection h with h
    injection h with h1 h2
    subst h1 h2;obtain ⟨a1,a2,a3⟩:=qke n l q es' e;obtain ⟨b1,b2⟩:=qzp e2;refine ⟨by simp [a1], ?_, ?_⟩
    ·intro y hy
     rcases List.mem_append.1 hy with hy | hy
     ·exact a2 y hy
     ·obtain rfl:y=x:=by simpa using hy
      exact b1
    ·unfold bytE at a3 ⊢
     rw [List.flatMap_append,a3,b2]
     simp
theorem ql3 {k:Nat} {l:List UInt8} (h:qe2 k l=none):∀n,k≤n→qe2 n l=none
 | 0,hn=>by
  obtain rfl:k=0:=by omega
  exact h
 | n+1,hn=>by
  by_cases e:k=n+1
  ·subst e;exact h
  ·unfold qe2;rw [ql3 h n (by omega)]
theorem qwi {k:Nat} {l r:List UInt8} {es:List Ex} (h:qe2 k l=some (es,r)) (h2:cext r=none) {n:Nat} (hn:k<n):qe2 n l=none:=by
 refine ql3 (k:=k+1) ?_ n hn
 unfold qe2;rw [h];simp only;rw [h2]
theorem qt6 {k:Nat} {l r q:List UInt8} {es:List Ex} {x:Ex} (h:qe2 k l=some (es,r)) (h2:cext r=some (x,q)):qe2 (k+1) l=some (es++[x],q):=by
 unfold qe2;rw [h];simp only;rw [h2]
def qe3 (l:List UInt8):Option (Fl × List UInt8):=match ct l with
 | none=>none
 | some (s,r)=>match cnum r with
  | none=>none
  | some (n,q)=>match qe2 n q with
   | none=>none
   | some (es,z)=>some ((s,es),z)
theorem ct_can {l s r:List UInt8} (h:ct l=some (s,r)):l=tx s++r:=by
 cases e:rd l with
 | none=>rw [qv4 e] at h;cases h
 | some p=>
  obtain ⟨n,k⟩:=p
  by_cases hn:n≤l.length - k
  ·rw [qqv e hn] at h
   injection h with h
   injection h with h1 h2
   subst h1 h2;obtain ⟨a1,a2⟩:=qabd e
   have hl:((l.drop k).take n).length=n:=by rw [List.length_take,List.length_drop];omega
   unfold tx;rw [hl,List.append_assoc,←List.drop_drop,List.take_append_drop];exact a1
  ·rw [qv5 e hn] at h;cases h
def smF5 (f:Fl):Prop:=f.1.length≤1000000∧f.2.length≤4096∧∀x∈f.2,smX x
theorem qwj {f:Fl} (h:smF5 f) (r:List UInt8):qe3 (qcx f++r)=some (f,r):=by
 obtain ⟨s,es⟩:=f;obtain ⟨h1,h2,h3⟩:=h
 simp only at h1 h2 h3
 unfold qe3 qcx
 simp only
 rw [List.append_assoc,ct_tx s _ (by omega)]
 simp only
 rw [List.append_assoc,qnc _ h2]
 simp only
 rw [qo5 es r h3]
theorem qwk {l r:List UInt8} {f:Fl} (h:qe3 l=some (f,r)):f.2.length≤4096∧(∀x∈f.2,smX x)∧l=qcx f++r:=by
 unfold qe3 at h
 cases e:ct l with
 | none=>rw [e] at h;cases h
 | some p=>
  obtain ⟨s,q⟩:=p;rw [e] at h
  simp only at h
  cases e2:cnum q with
  | none=>rw [e2] at h;cases h
  | some p=>
   obtain ⟨n,q2⟩:=p;rw [e2] at h
   simp only at h
   cases e3:qe2 n q2 with
   | none=>rw [e3] at h;cases h
   | some p=>
    obtain ⟨es,z⟩:=p;rw [e3] at h
    simp only at h
    injection h with h
    injection h with h1 h2
    subst h1 h2;obtain ⟨a1,a2,a3⟩:=qke _ _ _ _ e3;obtain ⟨b1,b2⟩:=qe1 e2;refine ⟨by simp only;omega,a2, ?_⟩;unfold qcx
    simp only
    rw [ct_can e,b2,a3,a1]
    simp
def qfe:Nat→List UInt8→Option (List Fl × List UInt8)
 | 0,l=>some ([],l)
 | n+1,l=>match qfe n l with
  | none=>none
  | some (fs,r)=>match qe3 r with
   | none=>none
   | some (f,q)=>some (fs++[f],q)
theorem qo6:∀(fs:List Fl) (r:List UInt8),(∀f∈fs,smF5 f)→qfe fs.length (fs.flatMap qcx++r)=some (fs,r)
 | fs,r,h=>by
  rcases List.eq_nil_or_concat fs with rfl | ⟨q,x,rfl⟩
  ·rfl
  ·rw [List.concat_eq_append] at h ⊢
   have ih:=qo6 q (qcx x++r) (fun y hy=>h y (by simp [hy]))
   have e:(q++[x]).flatMap qcx++r=q.flatMap qcx++(qcx x++r):=by rw [List.flatMap_append];simp
   rw [List.length_append,e]
   show (match qfe q.length (q.flatMap qcx++(qcx x++r)) with
    | none=>none
    | some (fs,r)=>match qe3 r with
     | none=>none
     | some (f,q)=>some (fs++[f],q))=_
   rw [ih]
   simp only
   rw [qwj (h x (by simp))]
termination_by fs=>fs.length
decreasing_by subst_vars;simp [List.concat_eq_append]
theorem qhi:∀(n:Nat) (l r:List UInt8) (fs:List Fl),qfe n l=some (fs,r)→fs.length=n∧(∀f∈fs,f.2.length≤4096∧∀x∈f.2,smX x)∧l=fs.flatMap qcx++r
 | 0,l,r,fs,h=>by
  injection h with h
  injection h with h1 h2
  subst h1 h2;exact ⟨rfl,by simp,by simp⟩
 | n+1,l,r,fs,h=>by
  unfold qfe at h
  cases e:qfe n l with
  | none=>rw [e] at h;cases h
  | some p=>
   obtain ⟨fs',q⟩:=p;rw [e] at h
   simp only at h
   cases e2:qe3 q with
   | none=>rw [e2] at h;cases h
   | some p=>
    obtain ⟨x,z⟩:=p;rw [e2] at h
    simp only at h
    injection h with h
    injection h with h1 h2
    subst h1 h2;obtain ⟨a1,a2,a3⟩:=qhi n l q fs' e;obtain ⟨b1,b2,b3⟩:=qwk e2;refine ⟨by simp [a1], ?_, ?_⟩
    ·intro y hy
     rcases List.mem_append.1 hy with hy | hy
     ·exact a2 y hy
     ·obtain rfl:y=x:=by simpa using hy
      exact ⟨b1,b2⟩
    ·rw [List.flatMap_append,a3,b3]
     simp
theorem ql4 {k:Nat} {l:List UInt8} (h:qfe k l=none):∀n,k≤n→qfe n l=none
 | 0,hn=>by
  obtain rfl:k=0:=by omega
  exact h
 | n+1,hn=>by
  by_cases e:k=n+1
  ·subst e;exact h
  ·unfold qfe;rw [ql4 h n (by omega)]
theorem qwl {k:Nat} {l r:List UInt8} {fs:List Fl} (h:qfe k l=some (fs,r)) (h2:qe3 r=none) {n:Nat} (hn:k<n):qfe n l=none:=by
 refine ql4 (k:=k+1) ?_ n hn
 unfold qfe;rw [h];simp only;rw [h2]
theorem qt7 {k:Nat} {l r q:List UInt8} {fs:List Fl} {x:Fl} (h:qfe k l=some (fs,r)) (h2:qe3 r=some (x,q)):qfe (k+1) l=some (fs++[x],q):=by
 unfold qfe;rw [h];simp only;rw [h2]
def qcq (l:List UInt8):Option (List Fl × List UInt8):=match cnum l with
 | none=>none
 | some (n,r)=>qfe n r
theorem qt8 {fs:List Fl} (hl:fs.length≤4096) (h:∀f∈fs,smF5 f):qcq (bytF fs)=some (fs,[]):=by
 unfold qcq bytF;rw [qnc _ hl]
 simp only
 have:=qo6 fs [] h
 rwa [List.append_nil] at this
theorem ql5 {l r:List UInt8} {fs:List Fl} (h:qcq l=some (fs,r)):fs.length≤4096∧(∀f∈fs,f.2.length≤4096∧∀x∈f.2,smX x)∧l=bytF fs++r:=by
 unfold qcq at h
 cases e:cnum l with
 | none=>rw [e] at h;cases h
 | some p=>
  obtain ⟨n,q⟩:=p;rw [e] at h
  simp only at h
  obtain ⟨a1,a2,a3⟩:=qhi _ _ _ _ h;obtain ⟨b1,b2⟩:=qe1 e;refine ⟨by omega,a2, ?_⟩;unfold bytF;rw [b2,a3,a1,List.append_assoc]
theorem smX_wf {x:Ex} (h:smX x):wfX x:=by unfold smX at h;unfold wfX;omega
def qck (b:List UInt8) (B:Int):Int:=
 if ¬blkP B then 2 else if 2048<b.length then 3 else match qcq b with
  | some (fs,[])=>if mayF fs B then 0 else 8
  | _=>8
def qeg (b:List UInt8) (B:Int):List Fl:=if qck b B=0 then (match qcq b with | some (fs,_)=>fs | none=>[]) else []
theorem qack {fs:List Fl} {B:Int} (h:mayF fs B) (hB:B≤4096):fs.length≤4096∧∀f∈fs,smF5 f:=by
 refine ⟨by have:=h.1;omega,fun f hf=>?_⟩;have h1:=qf7 (h.2.1.1 f hf);refine ⟨by omega,by omega,fun x hx=>?_⟩
 have:=qdo h.2.2.1 x (List.mem_flatMap.2 ⟨f,hf,hx⟩)
 unfold smX;omega
theorem qwm {fs:List Fl} {B:Int} (h:chkF fs B=0):qck (bytF fs) B=0∧qeg (bytF fs) B=fs:=by
 obtain ⟨h1,h2⟩:=qig h;obtain ⟨k1,k2⟩:=qack h2 h1.2;have e:=qt8 k1 k2
 have e0:qck (bytF fs) B=0:=by
  unfold qck;rw [if_neg (by simpa using h1),if_neg (by have:=h2.2.2.2;omega),e]
  simp only
  rw [if_pos h2]
 exact ⟨e0,by unfold qeg;rw [if_pos e0,e]⟩
theorem qo7 {b:List UInt8} {B:Int} (h:qck b B=0):chkF (qeg b B) B=0∧bytF (qeg b B)=b:=by
 have h0:=h;unfold qck at h
 by_cases h1:blkP B
 ·rw [if_neg (by simpa using h1)] at h
  by_cases h2:2048<b.length
  ·rw [if_pos h2] at h;omega
  ·rw [if_neg h2] at h
   unfold qeg;rw [if_pos h0]
   cases e:qcq b with
   | none=>rw [e] at h;simp at h
   | some p=>
    obtain ⟨fs,r⟩:=p;rw [e] at h
    cases r with
    | cons c r=>simp at h
    | nil=>
     simp only at h ⊢
     by_cases h3:mayF fs B
     ·obtain ⟨_,_,a3⟩:=ql5 e
      exact ⟨qih h1 h3,by rw [a3,List.append_nil]⟩
     ·rw [if_neg h3] at h;omega
 ·rw [if_pos h1] at h;omega
theorem qhj {b:List UInt8} {B:Int} (h:qck b B≠0):qeg b B=[]:=by unfold qeg;rw [if_neg h]
theorem qwn {b:List UInt8} {B:Int} (h:¬blkP B):qck b B=2:=by unfold qck;rw [if_pos h]
theorem qt9 {b:List UInt8} {B:Int} (h:blkP B) (h2:2048<b.length):qck b B=3:=by unfold qck;rw [if_neg (by simpa using h),if_pos h2]
theorem qua {b:List UInt8} {B:Int} (h:blkP B) (h2:¬2048<b.length) (e:qcq b=none):qck b B=8:=by unfold qck;rw [if_neg (by simpa using h),if_neg h2,e]
theorem qub {b r:List UInt8} {fs:List Fl} {B:Int} (h:blkP B) (h2:¬2048<b.length) (e:qcq b=some (fs,r)) (hr:r≠[]):qck b B=8:=by
 unfold qck;rw [if_neg (by simpa using h),if_neg h2,e]
 cases r with
 | nil=>exact absurd rfl hr
 | cons _ _=>rfl
theorem quc {b:List UInt8} {fs:List Fl} {B:Int} (h:blkP B) (h2:¬2048<b.length) (e:qcq b=some (fs,[])):qck b B=(if mayF fs B then 0 else 8)∧(mayF fs B→qeg b B=fs):=by
 have e1:qck b B=(if mayF fs B then 0 else 8):=by unfold qck;rw [if_neg (by simpa using h),if_neg h2,e]
 exact ⟨e1,fun hm=>by unfold qeg;rw [e1,if_pos hm,if_pos rfl,e]⟩
end Go.Proofs.YtpkdiododlhipaaGreat
