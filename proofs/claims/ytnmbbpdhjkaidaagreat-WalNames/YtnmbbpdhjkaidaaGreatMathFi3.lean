/-
  Layer 5 in plain words: bytes that are read as a directory.
-/
import Derived.Test.YtnmbbpdhjkaidaaGreatMathFi2
namespace Go.Proofs.YtnmbbpdhjkaidaaGreat
open Go.RowKit
set_option linter.all false
theorem qsq:∀(l:List UInt8) (i acc n k:Nat),i≤9→rdGo l i acc=some (n,k)→∃m,n=acc+m*128 ^ i∧i<k∧k - i≤l.length∧l.take (k - i)=sm m∧(0<i→0<m)
 | [],i,acc,n,k,_,h=>by simp [rdGo] at h
 | c::r,i,acc,n,k,hi,h=>by
  have hc:c.toNat<256:=c.toNat_lt;unfold rdGo at h
  by_cases h1:i=9∧1<c.toNat
  ·rw [if_pos h1] at h;cases h
  ·rw [if_neg h1] at h
   by_cases h2:128≤c.toNat
   ·rw [if_pos h2] at h
    obtain ⟨m,e1,e2,e3,e4,e5⟩:=qsq r (i+1) _ n k (by omega) h;have hm:0<m:=e5 (by omega);refine ⟨c.toNat % 128+128*m, ?_,by omega,by rw [List.length_cons];omega, ?_,fun _=>by omega⟩
    ·rw [e1,Nat.pow_succ,Nat.add_mul,Nat.mul_comm 128 m,Nat.mul_assoc m 128,Nat.mul_comm 128 (128 ^ i)]
     omega
    ·rw [show k - i=(k - (i+1))+1 by omega,List.take_succ_cons,e4,qvy (by omega:128≤c.toNat % 128+128*m)]
     have a1:(c.toNat % 128+128*m) % 128+128=c.toNat:=by omega
     have a2:(c.toNat % 128+128*m) / 128=m:=by omega
     rw [a1,a2]
     congr 1
     exact (UInt8.ofNat_toNat).symm
   ·rw [if_neg h2] at h
    by_cases h3:c.toNat=0∧0<i
    ·rw [if_pos h3] at h;cases h
    ·rw [if_neg h3] at h
     injection h with h
     injection h with e1 e2
     refine ⟨c.toNat,e1.symm,by omega,by rw [List.length_cons];omega, ?_,fun hi=>by omega⟩;rw [show k - i=1 by omega,qt8 (by omega:c.toNat<128)]
     simp
theorem qac6 {l:List UInt8} {n k:Nat} (h:rd l=some (n,k)):l=sm n++l.drop k∧k=(sm n).length:=by
 obtain ⟨m,e1,e2,e3,e4,_⟩:=qsq l 0 0 n k (by omega) h
 have hm:n=m:=by simpa using e1
 subst hm;rw [Nat.sub_zero] at e3 e4
 have hk:k=(sm n).length:=by rw [←e4,List.length_take];omega
 exact ⟨by rw [←e4,List.take_append_drop],hk⟩
def cnum (l:List UInt8):Option (Nat × List UInt8):=match rd l with
 | none=>none
 | some (n,k)=>if n≤4096 then some (n,l.drop k) else none
theorem qnw (n:Nat) (h:n≤4096) (r:List UInt8):cnum (sm n++r)=some (n,r):=by
 unfold cnum;rw [rd_sm n (by omega)]
 simp [h]
theorem qfi {l r:List UInt8} {n:Nat} (h:cnum l=some (n,r)):n≤4096∧l=sm n++r:=by
 unfold cnum at h
 cases e:rd l with
 | none=>rw [e] at h;cases h
 | some p=>
  obtain ⟨m,k⟩:=p;rw [e] at h
  simp only at h
  by_cases hm:m≤4096
  ·rw [if_pos hm] at h
   injection h with h
   injection h with e1 e2
   subst e1 e2;exact ⟨hm,(qac6 e).1⟩
  ·rw [if_neg hm] at h;cases h
theorem qaaz {l r:List UInt8} {n:Nat} (h:cnum l=some (n,r)):r.length<l.length:=by
 have:=(qfi h).2
 have h1:=qacz n
 rw [this,List.length_append];omega
def cext (l:List UInt8):Option (Ex × List UInt8):=match cnum l with
 | none=>none
 | some (x,r)=>match cnum r with
  | none=>none
  | some (y,q)=>some (((x:Int),(y:Int)),q)
def smX (x:Ex):Prop:=0≤x.1∧x.1≤4096∧0≤x.2∧x.2≤4096
theorem qaa0 {x:Ex} (h:smX x) (r:List UInt8):cext (bytX x++r)=some (x,r):=by
 obtain ⟨a,b⟩:=x;obtain ⟨h1,h2,h3,h4⟩:=h
 simp only at h1 h2 h3 h4
 unfold cext bytX;rw [List.append_assoc,qnw _ (by simp only;omega)]
 simp only
 rw [qnw _ (by omega)]
 simp only [Option.some.injEq,Prod.mk.injEq,and_true]
 omega
theorem qaa4 {l r:List UInt8} {x:Ex} (h:cext l=some (x,r)):smX x∧l=bytX x++r:=by
 unfold cext at h
 cases e:cnum l with
 | none=>rw [e] at h;cases h
 | some p=>
  obtain ⟨m,q⟩:=p;rw [e] at h
  simp only at h
  cases e2:cnum q with
  | none=>rw [e2] at h;cases h
  | some p=>
   obtain ⟨m2,q2⟩:=p;rw [e2] at h
   simp only at h
   injection h with h
   injection h with h1 h2
   subst h1 h2;obtain ⟨a1,a2⟩:=qfi e;obtain ⟨b1,b2⟩:=qfi e2;refine ⟨⟨by simp,by simp only;omega,by simp,by simp only;omega⟩, ?_⟩;unfold bytX
   simp only [Int.toNat_natCast]
   rw [a2,List.append_assoc,←b2]
def qfj:Nat→List UInt8→Option (List Ex × List UInt8)
 | 0,l=>some ([],l)
 | n+1,l=>match qfj n l with
  | none=>none
  | some (es,r)=>match cext r with
   | none=>none
   | some (x,q)=>some (es++[x],q)
theorem qo8:∀(es:List Ex) (r:List UInt8),(∀x∈es,smX x)→qfj es.length (bytE es++r)=some (es,r)
 | es,r,h=>by
  rcases List.eq_nil_or_concat es with rfl | ⟨q,x,rfl⟩
  ·rfl
  ·rw [List.concat_eq_append] at h ⊢
   have ih:=qo8 q (bytX x++r) (fun y hy=>h y (by simp [hy]))
   have e:bytE (q++[x])++r=bytE q++(bytX x++r):=by unfold bytE;rw [List.flatMap_append];simp
   rw [List.length_append,e]
   show (match qfj q.length (bytE q++(bytX x++r)) with
    | none=>none
    | some (es,r)=>match cext r with
     | none=>none
     | some (x,q)=>some (es++[x],q))=_
   rw [ih]
   simp only
   rw [qaa0 (h x (by simp))]
termination_by es=>es.length
decreasing_by subst_vars;simp [List.concat_eq_append]
theorem qku:∀(n:Nat) (l r:List UInt8) (es:List Ex),qfj n l=some (es,r)→es.length=n∧(∀x∈es,smX x)∧l=bytE es++r
 | 0,l,r,es,h=>by
  injection h with h
  injection h with h1 h2
  subst h1 h2;exact ⟨rfl,by simp,by simp [bytE]⟩
 | n+1,l,r,es,h=>by
  unfold qfj at h
  cases e:qfj n l with
  | none=>rw [e] at h;cases h
  | some p=>
   obtain ⟨es',q⟩:=p;rw [e] at h
   simp only at h
   cases e2:cext q with
   | none=>rw [e2] at h;cases h
   | some p=>
    obtain ⟨x,z⟩:=p;rw [e2] at h
    simp only at h
    injection h with h
    injection h with h1 h2
    subst h1 h2;obtain ⟨a1,a2,a3⟩:=qku n l q es' e;obtain ⟨b1,b2⟩:=qaa4 e2;refine ⟨by simp [a1], ?_, ?_⟩
    ·intro y hy
     rcases List.mem_append.1 hy with hy | hy
     ·exact a2 y hy
     ·obtain rfl:y=x:=by simpa using hy
      exact b1
    ·unfold bytE at a3 ⊢
     rw [List.flatMap_append,a3,b2]
     simp
theorem qml {k:Nat} {l:List UInt8} (h:qfj k l=none):∀n,k≤n→qfj n l=none
 | 0,hn=>by
  obtain rfl:k=0:=by omega
  exact h
 | n+1,hn=>by
  by_cases e:k=n+1
  ·subst e;exact h
  ·unfold qfj;rw [qml h n (by omega)]
theorem qw7 {k:Nat} {l r:List UInt8} {es:List Ex} (h:qfj k l=some (es,r)) (h2:cext r=none) {n:Nat} (hn:k<n):qfj n l=none:=by
 refine qml (k:=k+1) ?_ n hn
 unfold qfj;rw [h];simp only;rw [h2]
theorem qut {k:Nat} {l r q:List UInt8} {es:List Ex} {x:Ex} (h:qfj k l=some (es,r)) (h2:cext r=some (x,q)):qfj (k+1) l=some (es++[x],q):=by
 unfold qfj;rw [h];simp only;rw [h2]
def qfk (l:List UInt8):Option (Fl × List UInt8):=match ct l with
 | none=>none
 | some (s,r)=>match cnum r with
  | none=>none
  | some (n,q)=>match qfj n q with
   | none=>none
   | some (es,z)=>some ((s,es),z)
theorem ct_can {l s r:List UInt8} (h:ct l=some (s,r)):l=tx s++r:=by
 cases e:rd l with
 | none=>rw [qwt e] at h;cases h
 | some p=>
  obtain ⟨n,k⟩:=p
  by_cases hn:n≤l.length - k
  ·rw [qq8 e hn] at h
   injection h with h
   injection h with h1 h2
   subst h1 h2;obtain ⟨a1,a2⟩:=qac6 e
   have hl:((l.drop k).take n).length=n:=by rw [List.length_take,List.length_drop];omega
   unfold tx;rw [hl,List.append_assoc,←List.drop_drop,List.take_append_drop];exact a1
  ·rw [qwu e hn] at h;cases h
def smF5 (f:Fl):Prop:=f.1.length≤1000000∧f.2.length≤4096∧∀x∈f.2,smX x
theorem qw8 {f:Fl} (h:smF5 f) (r:List UInt8):qfk (qdx f++r)=some (f,r):=by
 obtain ⟨s,es⟩:=f;obtain ⟨h1,h2,h3⟩:=h
 simp only at h1 h2 h3
 unfold qfk qdx
 simp only
 rw [List.append_assoc,ct_tx s _ (by omega)]
 simp only
 rw [List.append_assoc,qnw _ h2]
 simp only
 rw [qo8 es r h3]
theorem qw9 {l r:List UInt8} {f:Fl} (h:qfk l=some (f,r)):f.2.length≤4096∧(∀x∈f.2,smX x)∧l=qdx f++r:=by
 unfold qfk at h
 cases e:ct l with
 | none=>rw [e] at h;cases h
 | some p=>
  obtain ⟨s,q⟩:=p;rw [e] at h
  simp only at h
  cases e2:cnum q with
  | none=>rw [e2] at h;cases h
  | some p=>
   obtain ⟨n,q2⟩:=p;rw [e2] at h
   simp only at h
   cases e3:qfj n q2 with
   | none=>rw [e3] at h;cases h
   | some p=>
    obtain ⟨es,z⟩:=p;rw [e3] at h
    simp only at h
    injection h with h
    injection h with h1 h2
    subst h1 h2;obtain ⟨a1,a2,a3⟩:=qku _ _ _ _ e3;obtain ⟨b1,b2⟩:=qfi e2;refine ⟨by simp only;omega,a2, ?_⟩;unfold qdx
    simp only
    rw [ct_can e,b2,a3,a1]
    simp
def qfz:Nat→List UInt8→Option (List Fl × List UInt8)
 | 0,l=>some ([],l)
 | n+1,l=>match qfz n l with
  | none=>none
  | some (fs,r)=>match qfk r with
   | none=>none
   | some (f,q)=>some (fs++[f],q)
theorem qo9:∀(fs:List Fl) (r:List UInt8),(∀f∈fs,smF5 f)→qfz fs.length (fs.flatMap qdx++r)=some (fs,r)
 | fs,r,h=>by
  rcases List.eq_nil_or_concat fs with rfl | ⟨q,x,rfl⟩
  ·rfl
  ·rw [List.concat_eq_append] at h ⊢
   have ih:=qo9 q (qdx x++r) (fun y hy=>h y (by simp [hy]))
   have e:(q++[x]).flatMap qdx++r=q.flatMap qdx++(qdx x++r):=by rw [List.flatMap_append];simp
   rw [List.length_append,e]
   show (match qfz q.length (q.flatMap qdx++(qdx x++r)) with
    | none=>none
    | some (fs,r)=>match qfk r with
     | none=>none
     | some (f,q)=>some (fs++[f],q))=_
   rw [ih]
   simp only
   rw [qw8 (h x (by simp))]
termination_by fs=>fs.length
decreasing_by subst_vars;simp [List.concat_eq_append]
theorem qhu:∀(n:Nat) (l r:List UInt8) (fs:List Fl),qfz n l=some (fs,r)→fs.length=n∧(∀f∈fs,f.2.length≤4096∧∀x∈f.2,smX x)∧l=fs.flatMap qdx++r
 | 0,l,r,fs,h=>by
  injection h with h
  injection h with h1 h2
  subst h1 h2;exact ⟨rfl,by simp,by simp⟩
 | n+1,l,r,fs,h=>by
  unfold qfz at h
  cases e:qfz n l with
  | none=>rw [e] at h;cases h
  | some p=>
   obtain ⟨fs',q⟩:=p;rw [e] at h
   simp only at h
   cases e2:qfk q with
   | none=>rw [e2] at h;cases h
   | some p=>
    obtain ⟨x,z⟩:=p;rw [e2] at h
    simp only at h
    injection h with h
    injection h with h1 h2
    subst h1 h2;obtain ⟨a1,a2,a3⟩:=qhu n l q fs' e;obtain ⟨b1,b2,b3⟩:=qw9 e2;refine ⟨by simp [a1], ?_, ?_⟩
    ·intro y hy
     rcases List.mem_append.1 hy with hy | hy
     ·exact a2 y hy
     ·obtain rfl:y=x:=by simpa using hy
      exact ⟨b1,b2⟩
    ·rw [List.flatMap_append,a3,b3]
     simp
theorem qmm {k:Nat} {l:List UInt8} (h:qfz k l=none):∀n,k≤n→qfz n l=none
 | 0,hn=>by
  obtain rfl:k=0:=by omega
  exact h
 | n+1,hn=>by
  by_cases e:k=n+1
  ·subst e;exact h
  ·unfold qfz;rw [qmm h n (by omega)]
theorem qxa {k:Nat} {l r:List UInt8} {fs:List Fl} (h:qfz k l=some (fs,r)) (h2:qfk r=none) {n:Nat} (hn:k<n):qfz n l=none:=by
 refine qmm (k:=k+1) ?_ n hn
 unfold qfz;rw [h];simp only;rw [h2]
theorem quu {k:Nat} {l r q:List UInt8} {fs:List Fl} {x:Fl} (h:qfz k l=some (fs,r)) (h2:qfk r=some (x,q)):qfz (k+1) l=some (fs++[x],q):=by
 unfold qfz;rw [h];simp only;rw [h2]
def qdh (l:List UInt8):Option (List Fl × List UInt8):=match cnum l with
 | none=>none
 | some (n,r)=>qfz n r
theorem quv {fs:List Fl} (hl:fs.length≤4096) (h:∀f∈fs,smF5 f):qdh (bytF fs)=some (fs,[]):=by
 unfold qdh bytF;rw [qnw _ hl]
 simp only
 have:=qo9 fs [] h
 rwa [List.append_nil] at this
theorem qmn {l r:List UInt8} {fs:List Fl} (h:qdh l=some (fs,r)):fs.length≤4096∧(∀f∈fs,f.2.length≤4096∧∀x∈f.2,smX x)∧l=bytF fs++r:=by
 unfold qdh at h
 cases e:cnum l with
 | none=>rw [e] at h;cases h
 | some p=>
  obtain ⟨n,q⟩:=p;rw [e] at h
  simp only at h
  obtain ⟨a1,a2,a3⟩:=qhu _ _ _ _ h;obtain ⟨b1,b2⟩:=qfi e;refine ⟨by omega,a2, ?_⟩;unfold bytF;rw [b2,a3,a1,List.append_assoc]
theorem smX_wf {x:Ex} (h:smX x):wfX x:=by unfold smX at h;unfold wfX;omega
def qdz (b:List UInt8) (B:Int):Int:=
 if ¬blkP B then 2 else if 2048<b.length then 3 else match qdh b with
  | some (fs,[])=>if mayF fs B then 0 else 8
  | _=>8
def qhe (b:List UInt8) (B:Int):List Fl:=if qdz b B=0 then (match qdh b with | some (fs,_)=>fs | none=>[]) else []
theorem qaeh {fs:List Fl} {B:Int} (h:mayF fs B) (hB:B≤4096):fs.length≤4096∧∀f∈fs,smF5 f:=by
 refine ⟨by have:=h.1;omega,fun f hf=>?_⟩;have h1:=qgs (h.2.1.1 f hf);refine ⟨by omega,by omega,fun x hx=>?_⟩
 have:=qd8 h.2.2.1 x (List.mem_flatMap.2 ⟨f,hf,hx⟩)
 unfold smX;omega
theorem qxb {fs:List Fl} {B:Int} (h:chkF fs B=0):qdz (bytF fs) B=0∧qhe (bytF fs) B=fs:=by
 obtain ⟨h1,h2⟩:=qns h;obtain ⟨k1,k2⟩:=qaeh h2 h1.2;have e:=quv k1 k2
 have e0:qdz (bytF fs) B=0:=by
  unfold qdz;rw [if_neg (by simpa using h1),if_neg (by have:=h2.2.2.2;omega),e]
  simp only
  rw [if_pos h2]
 exact ⟨e0,by unfold qhe;rw [if_pos e0,e]⟩
theorem qpa {b:List UInt8} {B:Int} (h:qdz b B=0):chkF (qhe b B) B=0∧bytF (qhe b B)=b:=by
 have h0:=h;unfold qdz at h
 by_cases h1:blkP B
 ·rw [if_neg (by simpa using h1)] at h
  by_cases h2:2048<b.length
  ·rw [if_pos h2] at h;omega
  ·rw [if_neg h2] at h
   unfold qhe;rw [if_pos h0]
   cases e:qdh b with
   | none=>rw [e] at h;simp at h
   | some p=>
    obtain ⟨fs,r⟩:=p;rw [e] at h
    cases r with
    | cons c r=>simp at h
    | nil=>
     simp only at h ⊢
     by_cases h3:mayF fs B
     ·obtain ⟨_,_,a3⟩:=qmn e
      exact ⟨qnt h1 h3,by rw [a3,List.append_nil]⟩
     ·rw [if_neg h3] at h;omega
 ·rw [if_pos h1] at h;omega
theorem qhv {b:List UInt8} {B:Int} (h:qdz b B≠0):qhe b B=[]:=by unfold qhe;rw [if_neg h]
theorem qxc {b:List UInt8} {B:Int} (h:¬blkP B):qdz b B=2:=by unfold qdz;rw [if_pos h]
theorem quw {b:List UInt8} {B:Int} (h:blkP B) (h2:2048<b.length):qdz b B=3:=by unfold qdz;rw [if_neg (by simpa using h),if_pos h2]
theorem qux {b:List UInt8} {B:Int} (h:blkP B) (h2:¬2048<b.length) (e:qdh b=none):qdz b B=8:=by unfold qdz;rw [if_neg (by simpa using h),if_neg h2,e]
theorem quy {b r:List UInt8} {fs:List Fl} {B:Int} (h:blkP B) (h2:¬2048<b.length) (e:qdh b=some (fs,r)) (hr:r≠[]):qdz b B=8:=by
 unfold qdz;rw [if_neg (by simpa using h),if_neg h2,e]
 cases r with
 | nil=>exact absurd rfl hr
 | cons _ _=>rfl
theorem quz {b:List UInt8} {fs:List Fl} {B:Int} (h:blkP B) (h2:¬2048<b.length) (e:qdh b=some (fs,[])):qdz b B=(if mayF fs B then 0 else 8)∧(mayF fs B→qhe b B=fs):=by
 have e1:qdz b B=(if mayF fs B then 0 else 8):=by unfold qdz;rw [if_neg (by simpa using h),if_neg h2,e]
 exact ⟨e1,fun hm=>by unfold qhe;rw [e1,if_pos hm,if_pos rfl,e]⟩
end Go.Proofs.YtnmbbpdhjkaidaaGreat
