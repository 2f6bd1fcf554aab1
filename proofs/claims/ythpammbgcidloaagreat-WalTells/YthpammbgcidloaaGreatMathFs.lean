/-
  Plain mathematics of files on a disk: the words.
-/
import Derived.Test.YthpammbgcidloaaGreatMathFi2
namespace Go.Proofs.YthpammbgcidloaaGreat
open Go.RowKit
set_option linter.all false
theorem qv2:∀(l:ak) (i a n k:Nat),i<=9->ig l i a=some (n,k)->∃m,n=a+m*128 ^ i∧i<k∧k - i<=l.length∧l.take (k - i)=sm m∧(0<i->0<m)
 | [],i,a,n,k,_,h=>by simp [ig] at h
 | c::r,i,a,n,k,hi,h=>by
  have p:c.toNat<256:=c.toNat_lt;unfold ig at h;by_cases b:i=9∧1<c.toNat
  ·rw [if_pos b] at h;cases h
  ·rw [if_neg b] at h
   by_cases d:128<=c.toNat
   ·rw [if_pos d] at h
    obtain ⟨m,e1,f,q,g,j⟩:=qv2 r (i+1) _ n k (by omega) h;have s:0<m:=j (by omega);refine ⟨c.toNat % 128+128*m, ?_,by omega,by rw [List.length_cons];omega, ?_,fun _=>by omega⟩
    ·rw [e1,Nat.pow_succ,Nat.add_mul,Nat.mul_comm 128 m,Nat.mul_assoc m 128,Nat.mul_comm 128 (128 ^ i)]
     omega
    ·rw [show k - i=(k - (i+1))+1 by omega,List.take_succ_cons,g,Lu (by omega:128<=c.toNat % 128+128*m)]
     have o:(c.toNat % 128+128*m) % 128+128=c.toNat:=by omega
     have a2:(c.toNat % 128+128*m) / 128=m:=by omega
     rw [o,a2];congr 1
     exact (UInt8.ofNat_toNat).symm
   ·rw [if_neg d] at h
    by_cases e:c.toNat=0∧0<i
    ·rw [if_pos e] at h;cases h
    ·rw [if_neg e] at h
     injection h with h;injection h with e1 f;refine ⟨c.toNat,e1.symm,by omega,by rw [List.length_cons];omega, ?_,fun hi=>by omega⟩;rw [show k - i=1 by omega,Fz (by omega:c.toNat<128)];simp
theorem NU {l:ak} {n k:Nat} (h:rd l=some (n,k)):l=sm n++l.drop k∧k=(sm n).length:=by
 obtain ⟨m,e1,e,b,a,_⟩:=qv2 l 0 0 n k (by omega) h;have c:n=m:=by simpa using e1
 subst c;rw [Nat.sub_zero] at b a;have d:k=(sm n).length:=by rw [<-a,List.length_take];omega
 exact ⟨by rw [<-a,List.take_append_drop],d⟩
def fu (l:ak):Option (Nat × ak):=match rd l with
 | none=>none
 | some (n,k)=>if n<=4096 then some (n,l.drop k) else none
theorem V7 (n:Nat) (h:n<=4096) (r:ak):fu (sm n++r)=some (n,r):=by
 unfold fu;rw [Ga n (by omega)];simp [h]
theorem Gh {l r:ak} {n:Nat} (h:fu l=some (n,r)):n<=4096∧l=sm n++r:=by
 unfold fu at h;cases e:rd l with
 | none=>rw [e] at h;cases h
 | some p=>
  obtain ⟨m,k⟩:=p;rw [e] at h;simp only at h
  by_cases a:m<=4096
  ·rw [if_pos a] at h
   injection h with h;injection h with e1 e2;subst e1 e2;exact ⟨a,(NU e).1⟩
  ·rw [if_neg a] at h;cases h
theorem qafb {l r:ak} {n:Nat} (h:fu l=some (n,r)):r.length<l.length:=by
 have:=(Gh h).2
 have a:=M0 n;rw [this,List.length_append];omega
def kP (l:ak):Option (Ex × ak):=match fu l with
 | none=>none
 | some (x,r)=>match fu r with
  | none=>none
  | some (y,q)=>some (((x:Int),(y:Int)),q)
def qB (x:Ex):Prop:=0<=x.1∧x.1<=4096∧0<=x.2∧x.2<=4096
theorem zD {x:Ex} (h:qB x) (r:ak):kP (kM x++r)=some (x,r):=by
 obtain ⟨a,b⟩:=x;obtain ⟨c,d,e,f⟩:=h;simp only at c d e f
 unfold kP kM;rw [List.append_assoc,V7 _ (by simp only;omega)];simp only
 rw [V7 _ (by omega)];simp only [Option.some.injEq,Prod.mk.injEq,and_true];omega
theorem nN {l r:ak} {x:Ex} (h:kP l=some (x,r)):qB x∧l=kM x++r:=by
 unfold kP at h;cases e:fu l with
 | none=>rw [e] at h;cases h
 | some p=>
  obtain ⟨m,q⟩:=p;rw [e] at h;simp only at h
  cases e2:fu q with
  | none=>rw [e2] at h;cases h
  | some p=>
   obtain ⟨b,c⟩:=p;rw [e2] at h;simp only at h
   injection h with h;injection h with h1 h2;subst h1 h2;obtain ⟨d,a2⟩:=Gh e;obtain ⟨f,a⟩:=Gh e2;refine ⟨⟨by simp,by simp only;omega,by simp,by simp only;omega⟩, ?_⟩;unfold kM;simp only [Int.toNat_natCast];rw [a2,List.append_assoc,<-a]
def qC:Nat->ak->Option (List Ex × ak)
 | 0,l=>some ([],l)
 | n+1,l=>match qC n l with
  | none=>none
  | some (es,r)=>match kP r with
   | none=>none
   | some (x,q)=>some (es++[x],q)
theorem qrt:∀(a:List Ex) (r:ak),(∀x∈a,qB x)->qC a.length (dZ a++r)=some (a,r)
 | a,r,h=>by
  rcases List.eq_nil_or_concat a with rfl | ⟨q,x,rfl⟩
  ·rfl
  ·rw [List.concat_eq_append] at h ⊢
   have b:=qrt q (kM x++r) (fun y c=>h y (by simp [c]));have e:dZ (q++[x])++r=dZ q++(kM x++r):=by unfold dZ;rw [List.flatMap_append];simp
   rw [List.length_append,e]
   show (match qC q.length (dZ q++(kM x++r)) with
    | none=>none
    | some (a,r)=>match kP r with
     | none=>none
     | some (x,q)=>some (a++[x],q))=_
   rw [b];simp only
   rw [zD (h x (by simp))]
termination_by a=>a.length
decreasing_by subst_vars;simp [List.concat_eq_append]
theorem ql5:∀(n:Nat) (l r:ak) (es:List Ex),qC n l=some (es,r)->es.length=n∧(∀x∈es,qB x)∧l=dZ es++r
 | 0,l,r,es,h=>by
  injection h with h;injection h with h1 h2;subst h1 h2;exact ⟨rfl,by simp,by simp [dZ]⟩
 | n+1,l,r,es,h=>by
  unfold qC at h;cases e:qC n l with
  | none=>rw [e] at h;cases h
  | some p=>
   obtain ⟨b,q⟩:=p;rw [e] at h;simp only at h
   cases e2:kP q with
   | none=>rw [e2] at h;cases h
   | some p=>
    obtain ⟨x,z⟩:=p;rw [e2] at h;simp only at h
    injection h with h;injection h with h1 h2;subst h1 h2;obtain ⟨c,a2,a3⟩:=ql5 n l q b e;obtain ⟨d,f⟩:=nN e2;refine ⟨by simp [c], ?_, ?_⟩
    ·intro y a
     rcases List.mem_append.1 a with a | a
     ·exact a2 y a
     ·obtain rfl:y=x:=by simpa using a
      exact d
    ·unfold dZ at a3 ⊢
     rw [List.flatMap_append,a3,f];simp
theorem qn7 {k:Nat} {l:ak} (h:qC k l=none):∀n,k<=n->qC n l=none
 | 0,hn=>by
  obtain rfl:k=0:=by omega
  exact h
 | n+1,hn=>by
  by_cases e:k=n+1
  ·subst e;exact h
  ·unfold qC;rw [qn7 h n (by omega)]
theorem Bz {k:Nat} {l r:ak} {es:List Ex} (h:qC k l=some (es,r)) (a:kP r=none) {n:Nat} (b:k<n):qC n l=none:=by
 refine qn7 (k:=k+1) ?_ n b
 unfold qC;rw [h];simp only;rw [a]
theorem qx4 {k:Nat} {l r q:ak} {es:List Ex} {x:Ex} (h:qC k l=some (es,r)) (a:kP r=some (x,q)):qC (k+1) l=some (es++[x],q):=by
 unfold qC;rw [h];simp only;rw [a]
def qD (l:ak):Option (Fl × ak):=match ct l with
 | none=>none
 | some (s,r)=>match fu r with
  | none=>none
  | some (n,q)=>match qC n q with
   | none=>none
   | some (es,z)=>some ((s,es),z)
theorem NV {l s r:ak} (h:ct l=some (s,r)):l=tx s++r:=by
 cases e:rd l with
 | none=>rw [ZX e] at h;cases h
 | some p=>
  obtain ⟨n,k⟩:=p;by_cases a:n<=l.length - k
  ·rw [NN e a] at h
   injection h with h;injection h with h1 h2;subst h1 h2;obtain ⟨b,a2⟩:=NU e;have c:((l.drop k).take n).length=n:=by rw [List.length_take,List.length_drop];omega
   unfold tx;rw [c,List.append_assoc,<-List.drop_drop,List.take_append_drop];exact b
  ·rw [ZY e a] at h;cases h
def Cw (f:Fl):Prop:=f.1.length<=1000000∧f.2.length<=4096∧∀x∈f.2,qB x
theorem Cf {f:Fl} (h:Cw f) (r:ak):qD (kv f++r)=some (f,r):=by
 obtain ⟨s,c⟩:=f;obtain ⟨d,a,b⟩:=h;simp only at d a b
 unfold qD kv;simp only
 rw [List.append_assoc,Ej s _ (by omega)];simp only
 rw [List.append_assoc,V7 _ a];simp only
 rw [qrt c r b]
theorem qaak {l r:ak} {f:Fl} (h:qD l=some (f,r)):f.2.length<=4096∧(∀x∈f.2,qB x)∧l=kv f++r:=by
 unfold qD at h;cases e:ct l with
 | none=>rw [e] at h;cases h
 | some p=>
  obtain ⟨s,q⟩:=p;rw [e] at h;simp only at h
  cases e2:fu q with
  | none=>rw [e2] at h;cases h
  | some p=>
   obtain ⟨n,a⟩:=p;rw [e2] at h;simp only at h
   cases e3:qC n a with
   | none=>rw [e3] at h;cases h
   | some p=>
    obtain ⟨d,z⟩:=p;rw [e3] at h;simp only at h
    injection h with h;injection h with h1 h2;subst h1 h2;obtain ⟨b,a2,a3⟩:=ql5 _ _ _ _ e3;obtain ⟨g,c⟩:=Gh e2;refine ⟨by simp only;omega,a2, ?_⟩;unfold kv;simp only
    rw [NV e,c,a3,b];simp
def rR:Nat->ak->Option (List Fl × ak)
 | 0,l=>some ([],l)
 | n+1,l=>match rR n l with
  | none=>none
  | some (fs,r)=>match qD r with
   | none=>none
   | some (f,q)=>some (fs++[f],q)
theorem qru:∀(fs:List Fl) (r:ak),(∀f∈fs,Cw f)->rR fs.length (fs.flatMap kv++r)=some (fs,r)
 | fs,r,h=>by
  rcases List.eq_nil_or_concat fs with rfl | ⟨q,x,rfl⟩
  ·rfl
  ·rw [List.concat_eq_append] at h ⊢
   have a:=qru q (kv x++r) (fun y b=>h y (by simp [b]));have e:(q++[x]).flatMap kv++r=q.flatMap kv++(kv x++r):=by rw [List.flatMap_append];simp
   rw [List.length_append,e]
   show (match rR q.length (q.flatMap kv++(kv x++r)) with
    | none=>none
    | some (fs,r)=>match qD r with
     | none=>none
     | some (f,q)=>some (fs++[f],q))=_
   rw [a];simp only
   rw [Cf (h x (by simp))]
termination_by fs=>fs.length
decreasing_by subst_vars;simp [List.concat_eq_append]
theorem V8:∀(n:Nat) (l r:ak) (fs:List Fl),rR n l=some (fs,r)->fs.length=n∧(∀f∈fs,f.2.length<=4096∧∀x∈f.2,qB x)∧l=fs.flatMap kv++r
 | 0,l,r,fs,h=>by
  injection h with h;injection h with h1 h2;subst h1 h2;exact ⟨rfl,by simp,by simp⟩
 | n+1,l,r,fs,h=>by
  unfold rR at h;cases e:rR n l with
  | none=>rw [e] at h;cases h
  | some p=>
   obtain ⟨b,q⟩:=p;rw [e] at h;simp only at h
   cases e2:qD q with
   | none=>rw [e2] at h;cases h
   | some p=>
    obtain ⟨x,z⟩:=p;rw [e2] at h;simp only at h
    injection h with h;injection h with h1 h2;subst h1 h2;obtain ⟨c,a2,a3⟩:=V8 n l q b e;obtain ⟨d,g,i⟩:=qaak e2;refine ⟨by simp [c], ?_, ?_⟩
    ·intro y a
     rcases List.mem_append.1 a with a | a
     ·exact a2 y a
     ·obtain rfl:y=x:=by simpa using a
      exact ⟨d,g⟩
    ·rw [List.flatMap_append,a3,i]
     simp
theorem qn8 {k:Nat} {l:ak} (h:rR k l=none):∀n,k<=n->rR n l=none
 | 0,hn=>by
  obtain rfl:k=0:=by omega
  exact h
 | n+1,hn=>by
  by_cases e:k=n+1
  ·subst e;exact h
  ·unfold rR;rw [qn8 h n (by omega)]
theorem Sj {k:Nat} {l r:ak} {fs:List Fl} (h:rR k l=some (fs,r)) (a:qD r=none) {n:Nat} (b:k<n):rR n l=none:=by
 refine qn8 (k:=k+1) ?_ n b
 unfold rR;rw [h];simp only;rw [a]
theorem qx5 {k:Nat} {l r q:ak} {fs:List Fl} {x:Fl} (h:rR k l=some (fs,r)) (a:qD r=some (x,q)):rR (k+1) l=some (fs++[x],q):=by
 unfold rR;rw [h];simp only;rw [a]
def pY (l:ak):Option (List Fl × ak):=match fu l with
 | none=>none
 | some (n,r)=>rR n r
theorem qx6 {fs:List Fl} (a:fs.length<=4096) (h:∀f∈fs,Cw f):pY (dS fs)=some (fs,[]):=by
 unfold pY dS;rw [V7 _ a];simp only
 have:=qru fs [] h
 rwa [List.append_nil] at this
theorem qn9 {l r:ak} {fs:List Fl} (h:pY l=some (fs,r)):fs.length<=4096∧(∀f∈fs,f.2.length<=4096∧∀x∈f.2,qB x)∧l=dS fs++r:=by
 unfold pY at h;cases e:fu l with
 | none=>rw [e] at h;cases h
 | some p=>
  obtain ⟨n,q⟩:=p;rw [e] at h;simp only at h
  obtain ⟨a,a2,a3⟩:=V8 _ _ _ _ h;obtain ⟨c,b⟩:=Gh e;refine ⟨by omega,a2, ?_⟩;unfold dS;rw [b,a3,a,List.append_assoc]
theorem NW {x:Ex} (h:qB x):wfX x:=by unfold qB at h;unfold wfX;omega
def kZ (b:ak) (B:Int):Int:=
 if ¬fq B then 2 else if 2048<b.length then 3 else match pY b with
  | some (fs,[])=>if eD fs B then 0 else 8
  | _=>8
def rT (b:ak) (B:Int):List Fl:=if kZ b B=0 then (match pY b with | some (fs,_)=>fs | none=>[]) else []
theorem NY {fs:List Fl} {B:Int} (h:eD fs B) (c:B<=4096):fs.length<=4096∧∀f∈fs,Cw f:=by
 refine ⟨by have:=h.1;omega,fun f a=>?_⟩;have d:=LV (h.2.1.1 f a);refine ⟨by omega,by omega,fun x b=>?_⟩;have:=Ct h.2.2.1 x (List.mem_flatMap.2 ⟨f,a,b⟩)
 unfold qB;omega
theorem qaan {fs:List Fl} {B:Int} (h:bA fs B=0):kZ (dS fs) B=0∧rT (dS fs) B=fs:=by
 obtain ⟨b,a⟩:=Cu h;obtain ⟨c,d⟩:=NY a b.2;have e:=qx6 c d;have e0:kZ (dS fs) B=0:=by
  unfold kZ;rw [if_neg (by simpa using b),if_neg (by have:=a.2.2.2;omega),e];simp only
  rw [if_pos a]
 exact ⟨e0,by unfold rT;rw [if_pos e0,e]⟩
theorem Wt {b:ak} {B:Int} (h:kZ b B=0):bA (rT b B) B=0∧dS (rT b B)=b:=by
 have g:=h;unfold kZ at h;by_cases a:fq B
 ·rw [if_neg (by simpa using a)] at h
  by_cases d:2048<b.length
  ·rw [if_pos d] at h;omega
  ·rw [if_neg d] at h
   unfold rT;rw [if_pos g];cases e:pY b with
   | none=>rw [e] at h;simp at h
   | some p=>
    obtain ⟨fs,r⟩:=p;rw [e] at h;cases r with
    | cons c r=>simp at h
    | nil=>
     simp only at h ⊢
     by_cases f:eD fs B
     ·obtain ⟨_,_,a3⟩:=qn9 e
      exact ⟨VX a f,by rw [a3,List.append_nil]⟩
     ·rw [if_neg f] at h;omega
 ·rw [if_pos a] at h;omega
theorem BI {b:ak} {B:Int} (h:kZ b B≠0):rT b B=[]:=by unfold rT;rw [if_neg h]
theorem qrv {b:ak} {B:Int} (h:¬fq B):kZ b B=2:=by unfold kZ;rw [if_pos h]
theorem qoa {b:ak} {B:Int} (h:fq B) (a:2048<b.length):kZ b B=3:=by unfold kZ;rw [if_neg (by simpa using h),if_pos a]
theorem qob {b:ak} {B:Int} (h:fq B) (a:¬2048<b.length) (e:pY b=none):kZ b B=8:=by unfold kZ;rw [if_neg (by simpa using h),if_neg a,e]
theorem qoc {b r:ak} {fs:List Fl} {B:Int} (h:fq B) (a:¬2048<b.length) (e:pY b=some (fs,r)) (c:r≠[]):kZ b B=8:=by
 unfold kZ;rw [if_neg (by simpa using h),if_neg a,e];cases r with
 | nil=>exact absurd rfl c
 | cons _ _=>rfl
theorem qod {b:ak} {fs:List Fl} {B:Int} (h:fq B) (a:¬2048<b.length) (e:pY b=some (fs,[])):kZ b B=(if eD fs B then 0 else 8)∧(eD fs B->rT b B=fs):=by
 have e1:kZ b B=(if eD fs B then 0 else 8):=by unfold kZ;rw [if_neg (by simpa using h),if_neg a,e]
 exact ⟨e1,fun c=>by unfold rT;rw [e1,if_pos c,if_pos rfl,e]⟩
abbrev Fsd:=Dk × Nat × List Fl × List Fl
def fz:Fsd:=(dz,0,[],[])
def iG (d:Dk) (gen size:Nat):ak:=(d.1.drop (128*(2+gen % 2*16))).take size
def bL (f:Fsd):Prop:=(iU f.1).2.2=0∧(iU f.1).1=f.2.1∧(∀p∈f.1.2.1,34<=p.1)∧kZ (iG f.1 f.2.1 (iU f.1).2.1) (bq f.1)=0∧rT (iG f.1 f.2.1 (iU f.1).2.1) (bq f.1)=f.2.2.2∧bA f.2.2.1 (bq f.1)=0
instance (f:Fsd):Decidable (bL f):=inferInstanceAs (Decidable (_∧_∧_∧_∧_∧_))
def fe (f:Fsd):Int:=if bL f then 0 else 8
def fO (f:Fsd):List Ex:=mq f.2.2.1++mq f.2.2.2
def fQ (f:Fsd):Int:=(yJ f.1).1
def oQ (f:Fsd) (s:ak) (n:Int):Int:=
 if gN f.2.2.1 s=0 then 51 else if gN f.2.2.1 s≠6 then gN f.2.2.1 s
 else if kK 34 (fQ f) (fO f) n≠0 then kK 34 (fQ f) (fO f) n
 else gU f.2.2.1 s (jQ 34 (fQ f) (fO f) n) (fQ f)
def mr (f:Fsd) (s:ak) (n:Int):List Fl:=if oQ f s n=0 then kN f.2.2.1 s (jQ 34 (fQ f) (fO f) n) (fQ f) else []
def yM (f:Fsd) (l:List Fl) (e:Int):Fsd × Int:=if fe f≠0 then (fz,fe f) else if e≠0 then (fz,e) else ((f.1,f.2.1,l,f.2.2.2),0)
def lg (f:Fsd) (s:ak) (n:Int):Fsd × Int:=yM f (mr f s n) (oQ f s n)
def il (f:Fsd) (s:ak):Int:=if gN f.2.2.1 s≠0 then gN f.2.2.1 s else dY (jR f.2.2.1 s)
def aU (f:Fsd) (s:ak):List Int:=if gN f.2.2.1 s≠0 then [] else uD (jR f.2.2.1 s)
def jl (f:Fsd) (s:ak) (i:Int):Int:=if il f s≠0 then il f s else if i<0∨((aU f s).length:Int)<=i then 2 else 0
def kH (f:Fsd) (s:ak) (i:Int):Int:=if jl f s i≠0 then 0 else (aU f s).getD i.toNat 0
def dA (f:Fsd) (s:ak):Int:=if fe f≠0 then fe f else il f s
def uF (f:Fsd) (s:ak):Int:=if fe f≠0 then 0 else (aU f s).length
def lX (f:Fsd) (s:ak) (i:Int):Int:=if fe f≠0 then fe f else if jl f s i≠0 then jl f s i else (rQ f.1 (kH f s i)).2
def lq (f:Fsd) (s:ak) (i:Int):ak:=if fe f≠0 then [] else if jl f s i≠0 then [] else (rQ f.1 (kH f s i)).1
def Gi (f:Fsd):Int:=if fe f≠0 then fe f else if jY 34 (fQ f) (fO f)≠0 then jY 34 (fQ f) (fO f) else dY (jF 34 (fQ f) (fO f))
def Gj (f:Fsd):Int:=if fe f≠0 then 0 else if jY 34 (fQ f) (fO f)≠0 then 0 else Eh (jF 34 (fQ f) (fO f))
/-! ### on the way -/
abbrev Wy:=Fsd × Int × ak
abbrev Stp:=Wy->Wy × Int
def jS (s:Stp) (x:Wy):Wy:=if x.2.1=0 then ((s x).1.1,(s x).2,(s x).1.2.2) else x
def kQ (f:Fsd):Wy:=(f,fe f,[])
def kR (x:Wy):Fsd × Int:=if x.2.1≠0 then (fz,x.2.1) else (x.1,0)
def zG (x:Wy) (d:Dk):Wy:=((d,x.1.2),x.2)
def zH:Stp:=fun x=>(zG x (fC x.1.1 [(true,0,[])] 1).1,(fC x.1.1 [(true,0,[])] 1).2)
def Gl:Stp:=fun x=>(zG x (fC x.1.1 [] 0).1,(fC x.1.1 [] 0).2)
def NZ (n:Int) (b:ak):Stp:=fun x=>(zG x (fC x.1.1 [(false,n,b)] 1).1,(fC x.1.1 [(false,n,b)] 1).2)
def iQ (s:ak) (i:Int) (b:ak):Stp:=fun x=>if jl x.1 s i≠0 then (x,jl x.1 s i) else NZ (kH x.1 s i) b x
def pF (l:List Fl) (e:Int):Stp:=fun x=>(((x.1.1,x.1.2.1,l,x.1.2.2.2),x.2),e)
def jM (f:Fsd) (s:ak) (i:Int) (b:ak):Fsd × Int:=kR (jS (iQ s i b) (kQ f))
def jc (f:Fsd):Fsd × Int:=kR (jS zH (kQ f))
def LX (f:Fsd) (l:List Fl) (e:Int):Fsd × Int:=kR (jS Gl (jS (pF l e) (kQ f)))
theorem wP (f:Fsd):(bL f∧fe f=0)∨(¬bL f∧fe f=8):=by
 unfold fe;by_cases h:bL f
 ·exact .inl ⟨h,if_pos h⟩
 ·exact .inr ⟨h,if_neg h⟩
theorem N7 {f:Fsd} (h:fe f=0):bL f:=by rcases wP f with a | a;exact a.1;rw [a.2] at h;cases h
theorem uG {f:Fsd} (h:bL f):fe f=0:=by unfold fe;exact if_pos h
theorem ny {f:Fsd} (h:bL f):okD f.1=true∧34<bq f.1∧f.2.1≠0∧iU f.1=(f.2.1,(iU f.1).2.1,0):=by
 obtain ⟨d,g,_⟩:=h;have e:iU f.1=(f.2.1,(iU f.1).2.1,0):=by rw [<-g,<-d]
 obtain ⟨a,b,c,_⟩:=Zr e;exact ⟨a,b,c,e⟩
theorem N8 {d:Dk} (h:okD d=true):jD d=0:=by unfold jD;rw [if_pos h]
theorem Oa {f:Fsd} (h:okD f.1=true):fQ f=bq f.1:=by unfold fQ yJ;rw [N8 h];rfl
theorem qry {f:Fsd} (h:bL f):(iU f.1).2.1<=2048∧f.2.1<4294967296:=by
 obtain ⟨e,g,i,a⟩:=ny h;obtain ⟨_,_,b,c⟩:=Zr a;have:=qnn c b
 unfold kX at this;split at this
 ·have e1:=congrArg Prod.fst this
  have d:=congrArg Prod.snd this;simp only at e1 d
  have:=VC (blk f.1.1 (f.2.1 % 2))
  omega
 ·have e1:=congrArg Prod.fst this
  simp only at e1
  omega
theorem Ph (f:Fsd) (l:List Fl) (e:Int):LX f l e=yM f l e:=by
 unfold LX yM kQ;rcases wP f with ⟨h,a⟩ | ⟨h,a⟩
 ·have c:=N8 (ny h).1
  rw [a];unfold jS pF Gl kR zG fC;by_cases b:e=0
  ·subst b
   simp [c,uV,oh]
  ·simp [b]
 ·rw [a]
  simp [jS,kR]
end Go.Proofs.YthpammbgcidloaaGreat
