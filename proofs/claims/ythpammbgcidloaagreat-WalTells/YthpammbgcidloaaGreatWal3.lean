/-
  A log that is open, as a value.
-/
import Derived.Test.YthpammbgcidloaaGreatMathFs6
set_option maxHeartbeats 2000000
set_option maxRecDepth 100000
namespace Go.Proofs.YthpammbgcidloaaGreat
open Go.RowKit
set_option linter.all false
theorem Rh {f g:Fsd} {but:ak} (b:bL f) (d:bL g) (hd:g.2.2.1=f.2.2.1) (hb:∀k:Nat,34<=k->k<bq f.1->di g.1 k=di f.1 k):wh f g but:=by
 intro x e _;have a:=(yh b e).2.2.2.2;have c:dA g x.1=0:=by rw [qqr hd b d];exact a
 refine ⟨a,c,Oc a c (Ra hd x.1).1 ?_⟩;intro n h;have:=AB a n h
 exact hb _ (by omega) (by omega)
theorem qxd {f:Fsd} (h:(jc f).2=0):bL f∧bL (jc f).1∧(jc f).1.1.2.1=[]∧(jc f).1.2=f.2∧wh f (jc f).1 []∧wh (jc f).1 f []:=by
 rw [XA] at h ⊢;by_cases i:fe f=0
 ·have a:=N7 i
  rw [if_neg (by rw [i];decide)] at h ⊢;by_cases c:(fC f.1 [(true,0,[])] 1).2=0
  ·rw [if_neg (by rw [c];decide)]
   obtain ⟨d,a2,a3,z,x,s,t⟩:=NC c;rw [t];have o:dX f.1 (true,0,[])=some x:=by
    have:oh f.1 [(true,0,[])]=some x:=s
    rw [qsy] at this;exact this
   obtain ⟨j,q,_⟩:=NB d (qw4 _) o;obtain ⟨_,u,_,_⟩:=ny a;have r:=fun n v=>qxw (n:=n) d (qw4 _) rfl o v
   have l:x.2.1=[]:=(r 0 (by omega)).2;have m:∀k:Nat,k<bq f.1->di x k=di f.1 k:=fun k b=>by
    have:=(r k b).1
    rw [IJ j (by omega),IJ d b] at this;exact this
   have e:∀k,k<34->blk x.1 k=blk f.1.1 k:=fun k b=>by
    have w:di x k=blk x.1 k:=by unfold di;rw [l];rfl
    have c:di f.1 k=blk f.1.1 k:=by rw [<-IJ d (by omega)];exact qaci d u a.2.2.1 b
    rw [<-w,<-c,m k (by omega)]
   have g:bL (x,f.2.1,f.2.2.1,f.2.2.2):=Bt a j (by rw [IK j,IK d,q]) e (by rw [l];intro p y;cases y) a.2.2.2.2.2;have g:bL (x,f.2):=g;exact ⟨a,g,l,rfl,Rh a g rfl (fun k _ b=>m k b),Rh g a rfl (fun k _ b=>(m k (by rw [<-q];exact b)).symm)⟩
  ·rw [if_pos c] at h;exact absurd h c
 ·rw [if_pos i] at h;exact absurd h i
/-! ### how many blocks can be given -/
theorem qm1 {p q:Int->Bool} {a:Int}:∀k:Nat,(∀i:Nat,i<k->p (a+i)=q (a+i))->gI p a k=gI q a k
 | 0,_=>rfl
 | k+1,h=>by
  simp only [gI];rw [qm1 k (fun i b=>h i (by omega)),h k (by omega)]
theorem Ri {p:Int->Bool} {a:Int}:∀k:Nat,(∀i:Nat,i<k->p (a+i)=true)->gI p a k=k
 | 0,_=>rfl
 | k+1,h=>by
  simp only [gI];rw [Ri k (fun i b=>h i (by omega)),h k (by omega),if_pos rfl];omega
theorem xn {f:Fsd} (h:bL f):dI (fO f)=0∧fO f=cZ f.2.2.1++cZ f.2.2.2∧(∀x∈fO f,34<=x.1∧1<=x.2∧x.1+x.2<=bq f.1):=by
 have i:=h.2.2.2.2.2;have j:=qw8 h;have e1:mq f.2.2.1=cZ f.2.2.1:=by unfold mq;rw [if_pos (VY i)]
 have b:mq f.2.2.2=cZ f.2.2.2:=by unfold mq;rw [if_pos (VY j)]
 have k:=(zW i).2;have m:=(zW j).2;have a:∀x∈fO f,34<=x.1∧1<=x.2∧x.1+x.2<=bq f.1:=by
  intro x a;unfold fO at a;rw [e1,b] at a;rcases List.mem_append.1 a with a | a
  ·exact Ct k.2.2.1 x a
  ·exact Ct m.2.2.1 x a
 have o:=((qp f.1).1 (ny h).1).2.2.1;have n:∀{fs:List Fl} {B:Int},eD fs B->(cZ fs).length<=2048:=by
  intro fs B c;have:=xA fs 64 (fun g p=>by have:=quh c g p;omega)
  have:=c.1
  have r:=c.2.2.2
  -- the bytes bound the wO
  have q:(cZ fs).length<=(dS fs).length:=by
   have:∀fs:List Fl,(cZ fs).length<=(fs.flatMap kv).length:=by
    intro fs;induction fs with
    | nil=>simp [cZ]
    | cons g fs ih=>
     have e:cZ (g::fs)=g.2++cZ fs:=rfl;rw [e,List.length_append,List.flatMap_cons,List.length_append];have s:g.2.length<=(kv g).length:=by
      unfold kv;rw [List.length_append,List.length_append];have:∀l:List Ex,l.length<=(dZ l).length:=by
       intro l;induction l with
       | nil=>simp [dZ]
       | cons x l ih=>
        have e:dZ (x::l)=kM x++dZ l:=rfl;rw [e,List.length_append,List.length_cons];have:1<=(kM x).length:=by
         unfold kM;rw [List.length_append];have:=M0 x.1.toNat
         omega
        omega
      have:=this g.2
      omega
     omega
   have:=this fs
   unfold dS;rw [List.length_append];omega
  omega
 refine ⟨?_, ?_,a⟩
 ·refine ND ?_ (fun x d=>by have:=a x d;omega)
  unfold fO;rw [e1,b,List.length_append];have:=n k
  have:=n m
  omega
 ·unfold fO;rw [e1,b]
theorem R3 {f:Fsd} (h:bL f):jY 34 (fQ f) (fO f)=0:=by
 have a:=(ny h).1;rw [Oa a];unfold jY;have b:=((qp f.1).1 a).2.2.1;have:=(ny h).2.1
 rw [if_neg (by omega),(xn h).1]
theorem qxe {f:Fsd} (h:bL f):Gi f=0∧Gj f=gI (fun n=>!ed (fO f) n) 34 (bq f.1 - 34):=by
 have e:=(ny h).1;have q:=(ny h).2.1;have l:=((qp f.1).1 e).2.2.1;have c:=R3 h;obtain ⟨g,m,o⟩:=LK c;have d:=Oa e;have b:dY (jF 34 (fQ f) (fO f))=0:=qz4 g (by decide) (by rw [d];omega) o;have j:=uG h;refine ⟨?_, ?_⟩
 ·unfold Gi;rw [if_neg (by rw [j];decide),if_neg (by rw [c];decide),b]
 ·unfold Gj
  rw [if_neg (by rw [j];decide),if_neg (by rw [c];decide)];unfold Eh;rw [if_pos b];rw [VW (a:=34) (k:=bq f.1 - 34) _ (fun x p=>by have:=g.1 x p;rw [d] at this;omega) (LJ b).2];apply qm1;intro i r;rw [m,d];rw [decide_eq_true (by omega),decide_eq_true (by omega)];simp
theorem Rj {p:Int->Bool} {a:Int} (k:Nat):gI (fun n=>!p n) a k=k - gI p a k:=by
 have c:=VV (p:=p) (q:=fun n=>!p n) a k (fun i _ b=>by simp [b]);have d:=Ri (p:=fun n=>p n || !p n) (a:=a) k (fun i _=>by simp);omega
theorem FF {f:Fsd} (h:bL f):gz (cZ f.2.2.1)=gI (ed (cZ f.2.2.1)) 34 (bq f.1 - 34):=by
 have a:=Du h;have:=(ny h).2.1
 exact VW _ (fun x b=>by have:=Ct a.2.2.1 x b;omega) (fJ.1 a.2.2.1).1
theorem qm2 {l:List Ex} (h:∀x∈l,0<=x.2):((gM l).length:Int)=gz l:=by
 induction l with
 | nil=>rfl
 | cons x l ih=>
  have:=ih (fun y a=>h y (List.mem_cons_of_mem _ a))
  have d:=h x (List.mem_cons_self ..);have e1:gM (x::l)=gL x x.2.toNat++gM l:=rfl;have b:gz (x::l)=x.2+gz l:=rfl;have c:(gL x x.2.toNat).length=x.2.toNat:=by simp [gL]
  rw [e1,b,List.length_append,c];omega
def kE (fs:List Fl):Int:=((fs.map fun g=>(gM g.2).length).sum:Nat)
theorem LY {fs:List Fl} (h:∀g∈fs,∀x∈g.2,0<=x.2):kE fs=gz (cZ fs):=by
 induction fs with
 | nil=>rfl
 | cons g fs ih=>
  have:=ih (fun k a=>h k (List.mem_cons_of_mem _ a))
  have b:=qm2 (h g (List.mem_cons_self ..));have e1:cZ (g::fs)=g.2++cZ fs:=rfl;have c:gz (g.2++cZ fs)=gz g.2+gz (cZ fs):=by unfold gz;rw [List.map_append,List.sum_append]
  rw [e1,c,<-this,<-b];unfold kE;rw [List.map_cons,List.sum_cons];omega
theorem qagb (fs:List Fl) (k:Nat) (h:k<fs.length):kE (fs.take (k+1))=kE (fs.take k)+(gM (fs[k]).2).length:=by
 unfold kE;rw [List.take_succ_eq_append_getElem h,List.map_append,List.sum_append];simp
theorem Rk {f:Fsd} (h:bL f) (k:Nat):0<=kE (f.2.2.1.take k)∧kE (f.2.2.1.take k)<=4096:=by
 have d:=Du h;have c:∀g∈f.2.2.1,∀x∈g.2,0<=x.2:=fun g i x j=>by have:=Ct d.2.2.1 x ((MP i).subset j);omega
 have m:=LY c;have n:=FF h;have o:=VU (ed (cZ f.2.2.1)) 34 (bq f.1 - 34);have l:=((qp f.1).1 (ny h).1).2.2.1;have e:kE f.2.2.1=kE (f.2.2.1.take k)+kE (f.2.2.1.drop k):=by
  unfold kE;rw [<-Int.natCast_add,<-List.sum_append,<-List.map_append,List.take_append_drop]
 have a:0<=kE (f.2.2.1.take k):=by unfold kE;omega
 have b:0<=kE (f.2.2.1.drop k):=by unfold kE;omega
 omega
theorem wm {f g:Fsd} {but:ak} (d:bL f) (e:bL g) (hd:g.1=f.1) (h:∀x∈f.2.2.1,x∈g.2.2.1):wh f g but:=by
 intro x c _;have a:=yh d c;have b:=yh e (h x c);refine ⟨a.2.2.2.2,b.2.2.2.2,Oc a.2.2.2.2 b.2.2.2.2 (by rw [a.2.2.2.1,b.2.2.2.1]) ?_⟩;intro n _;rw [hd]
theorem Al {a b:Int} {l:List Ex} {n:Int} (D:0<=a) (h:kK a b l n=0):yL a b (jQ a b l n)∧gz (jQ a b l n)=n∧jQ a b l n≠[]∧∀k,ed (jQ a b l n) k=true->ed l k=false:=by
 obtain ⟨s,t,r,f,u⟩:=VZ h;obtain ⟨i,v,E⟩:=LK s;rcases ZA (jF a b l) n t (fun x w=>(i.1 x w).2.1) with ⟨g,_⟩ | ⟨p,x,q,c,g,z,A,B,C⟩
 ·rw [g] at f;cases f
 rw [z] at f;cases f;rw [u];refine ⟨qnu (q:=q) (x:=x) (y:=(x.1,c)) (g ▸ i) rfl A B, ?_,by simp, ?_⟩
 ·unfold gz at *
  rw [List.map_append,List.sum_append];simpa using C
 ·intro k j
  have d:ed (jF a b l) k=true:=by
   rw [VF] at j ⊢;obtain ⟨y,e,m,o⟩:=j;rw [g];rcases List.mem_append.1 e with e | e
   ·exact ⟨y,List.mem_append_left _ e,m,o⟩
   ·obtain rfl:y=(x.1,c):=by simpa using e
    exact ⟨x,by simp,m,by simp only at o;omega⟩
  rw [v] at d;simp only [Bool.and_eq_true,Bool.not_eq_true'] at d;exact d.2
theorem qyu {f:Fsd} {s:ak} {n:Int} (h:(lg f s n).2=0):bL f∧lg f s n=((f.1,f.2.1,mr f s n,f.2.2.2),0)∧bL (f.1,f.2.1,mr f s n,f.2.2.2)∧dA (f.1,f.2.1,mr f s n,f.2.2.2) s=0∧uF (f.1,f.2.1,mr f s n,f.2.2.2) s=n∧wh f (f.1,f.2.1,mr f s n,f.2.2.2) []∧Gi (f.1,f.2.1,mr f s n,f.2.2.2)=0∧Gj (f.1,f.2.1,mr f s n,f.2.2.2)=Gj f - n∧1<=n∧n<=4096∧0<=Gj f∧Gj f<=4096:=by
 obtain ⟨F,d,g⟩:=wW h;have c:=N7 F;obtain ⟨N,r,w,y⟩:=EU d;have D:=(ny c).1;have t:=Oa D;have G:=(ny c).2.1;have O:=((qp f.1).1 D).2.2.1;obtain ⟨T,E⟩:=ai (jQ 34 (fQ f) (fO f) n);rw [<-E] at w y;have m:=Al (by decide) r;rw [<-E,t] at m;rw [t] at w;have H:=qt7 w;have u:bL (f.1,f.2.1,cO f.2.2.1 (s,T),f.2.2.2):=qacj c H.2.1;have z:(s,T)∈cO f.2.2.1 (s,T):=lW.2 (.inl rfl);have l:=yh u z;have v:∀x∈T,0<=x.2:=fun x b=>by have:=m.1.1 x b;omega
 have j:=qm2 v;rw [m.2.1] at j;rw [y];refine ⟨c,by unfold lg;rw [g,y],u,l.2.2.2.2, ?_,wm c u rfl (fun x b=>lW.2 (.inr b)), ?_⟩
 ·have I:dA (f.1,f.2.1,cO f.2.2.1 (s,T),f.2.2.2) s=0:=l.2.2.2.2
  rw [(IM I).2.2];have J:aU (f.1,f.2.1,cO f.2.2.1 (s,T),f.2.2.2) s=gM T:=l.2.2.2.1;rw [J];exact j
 ·obtain ⟨c1,c2⟩:=qxe u
  obtain ⟨d1,d2⟩:=qxe c;have u1:=(xn u).2.1;have u2:=(xn c).2.1;have A:kY T=true:=by
   have b:=(V6 w).2.2.2.2.1;exact (LJ (WZ b (List.sublist_append_right _ _))).2
  have B:=VW (a:=34) (k:=bq f.1 - 34) T (fun x b=>by have:=m.1.1 x b;omega) A;rw [m.2.1] at B;have C:∀k,ed (fO (f.1,f.2.1,cO f.2.2.1 (s,T),f.2.2.2)) k=(ed (fO f) k || ed T k):=by
   intro k;rw [u1,u2];show ed (cZ (cO f.2.2.1 (s,T))++cZ f.2.2.2) k=_
   rw [Bool.eq_iff_iff];simp only [Bool.or_eq_true,VF,List.mem_append];have o:=qv1 f.2.2.1 (s,T);constructor
   ·rintro ⟨x,b | b,d,g⟩
    ·rcases List.mem_append.1 (o.mem_iff.1 b) with b | b
     ·exact .inl ⟨x,.inl b,d,g⟩
     ·exact .inr ⟨x,b,d,g⟩
    ·exact .inl ⟨x,.inr b,d,g⟩
   ·rintro (⟨x,b | b,d,g⟩ | ⟨x,b,d,g⟩)
    ·exact ⟨x,.inl (o.mem_iff.2 (List.mem_append_left _ b)),d,g⟩
    ·exact ⟨x,.inr b,d,g⟩
    ·exact ⟨x,.inl (o.mem_iff.2 (List.mem_append_right _ b)),d,g⟩
  have e1:=VV (p:=ed (fO f)) (q:=ed T) 34 (bq f.1 - 34) (fun i _ o=>by
   cases e:ed T (34+(i:Int)) with
   | false=>rfl
   | true=>rw [m.2.2.2 _ e] at o;cases o)
  have P:=Rj (p:=ed (fO f)) (a:=34) (bq f.1 - 34);have Q:=Rj (p:=fun k=>ed (fO f) k || ed T k) (a:=34) (bq f.1 - 34);have K:Gj (f.1,f.2.1,cO f.2.2.1 (s,T),f.2.2.2)=gI (fun k=>!(ed (fO f) k || ed T k)) 34 (bq f.1 - 34):=by
   rw [c2];exact qm1 _ (fun i _=>by rw [C])
  have L:=(VZ r).2.1;have M:n<=4096:=by
   by_cases b:n<1∨4096<n
   ·rw [(F3 (VZ r).1 b).1] at r;cases r
   ·omega
  have R:=VU (fun k=>!ed (fO f) k) 34 (bq f.1 - 34);have S:=VU (ed (fO f)) 34 (bq f.1 - 34);refine ⟨c1, ?_,L,M, ?_, ?_⟩
  ·rw [K,d2];omega
  ·rw [d2];omega
  ·rw [d2];omega
def bE (f:Fsd) (s:ak):List (ak):=if dA f s≠0 then [] else (aU f s).map fun n=>di f.1 n.toNat
def headW (g:Nat):ak:=dB g++List.replicate 124 0
theorem Rl (g:Nat):(headW g).length=128:=by simp [headW,dB]
def uN (b:ak):Prop:=dh b≠0∧b=headW (dh b)
instance (b:ak):Decidable (uN b):=inferInstanceAs (Decidable (_∧_))
abbrev Wl:=ak × Nat × Nat × Nat × Nat × Nat
def wz:Wl:=([],0,0,0,0,0)
def jf (s:ak) (L:List (ak)):Wl:=
 (s,dh (L.headD []),(fD (dh (L.headD [])) L.tail).length,gB 0 (fD (dh (L.headD [])) L.tail),oW (dh (L.headD [])) (L.tail.drop (dF (fD (dh (L.headD [])) L.tail))),dF (fD (dh (L.headD [])) L.tail))
def pQ (L:List (ak)):List (ak):=(fD (dh (L.headD [])) L.tail).map (·.1)
def gZ (f:Fsd) (s:ak):Int:=if dA f s≠0 then dA f s else if (bE f s).length<2∨¬uN ((bE f s).headD []) then 8 else 0
def fP (f:Fsd) (s:ak):Wl:=if gZ f s≠0 then wz else jf s (bE f s)
def rX (f:Fsd) (s:ak):List (ak):=if gZ f s≠0 then [] else pQ (bE f s)
def j6 (f:Fsd) (s:ak) (eU:Int) (l:List (ak)):Nat->Fsd × Int
 | 0=>(f,0)
 | k+1=>if (j6 f s eU l k).2≠0 then j6 f s eU l k else jM (j6 f s eU l k).1 s (eU+k) (l.getD k [])
def uO (f:Fsd) (s:ak) (eU:Int) (l:List (ak)):Fsd × Int:=j6 f s eU l l.length
theorem qs1 {f:Fsd} {s:ak} {eU:Int} {l:List (ak)} {k:Nat} (h:(j6 f s eU l k).2≠0):∀j,j6 f s eU l (k+j)=j6 f s eU l k
 | 0=>rfl
 | j+1=>by
  have e:=qs1 h j;rw [<-Nat.add_assoc,j6,e,if_pos h]
def fM (f:Fsd) (w:Wl):Int:=if gZ f w.1≠0 then gZ f w.1 else if fP f w.1≠w then 8 else 0
def gP (f:Fsd) (w:Wl):Int:=if fM f w≠0 then 0 else ((bE f w.1).length:Int) - 1 - w.2.2.2.2.2
def ww (w:Wl):Hd:=(w.2.1,w.2.2.1+1,max w.2.2.2.1 w.2.2.2.2.1+1,w.2.2.2.1)
def lm (w:Wl) (r:ak):Int:=if 16384<r.length then 3 else if max w.2.2.2.1 w.2.2.2.2.1=4294967295 then 9 else dQ (ww w) r
def lF (w:Wl) (r:ak):List (ak):=if lm w r≠0 then [] else fZ (ww w) r
abbrev Fw:=Fsd × Wl × Int
def kF (f:Fsd) (w:Wl) (r:ak):Fsd × Int:=
 if fM f w≠0 then (fz,fM f w) else if lm w r≠0 then (fz,lm w r)
 else if gP f w<((lF w r).length:Int) then (fz,90)
 else if (uO f w.1 (1+(w.2.2.2.2.2:Int)) (lF w r)).2≠0 then (fz,(uO f w.1 (1+(w.2.2.2.2.2:Int)) (lF w r)).2)
 else if (jc (uO f w.1 (1+(w.2.2.2.2.2:Int)) (lF w r)).1).2≠0 then (fz,(jc (uO f w.1 (1+(w.2.2.2.2.2:Int)) (lF w r)).1).2)
 else jc (uO f w.1 (1+(w.2.2.2.2.2:Int)) (lF w r)).1
def appW (f:Fsd) (w:Wl) (r:ak):Fw:=if (kF f w r).2≠0 then (fz,wz,(kF f w r).2) else ((kF f w r).1,fP (kF f w r).1 w.1,gZ (kF f w r).1 w.1)
def IP (f:Fsd) (w:Wl):Int:=if fM f w≠0 then 0 else if gP f w=0 then -1 else min (gP f w*107) 16384
def gq (f:Fsd) (s:ak) (n:Int):Fw:=
 if fe f≠0 then (fz,wz,fe f) else if n<2∨4096<n then (fz,wz,2)
 else if (lg f s n).2≠0 then (fz,wz,(lg f s n).2)
 else if l9 (bE (lg f s n).1 s)=4294967295 then (fz,wz,9)
 else if (jM (lg f s n).1 s 0 (headW (l9 (bE (lg f s n).1 s)+1))).2≠0 then (fz,wz,(jM (lg f s n).1 s 0 (headW (l9 (bE (lg f s n).1 s)+1))).2)
 else ((jM (lg f s n).1 s 0 (headW (l9 (bE (lg f s n).1 s)+1))).1,(s,l9 (bE (lg f s n).1 s)+1,0,0,0,0),0)
/-! ### blocks -/
theorem XC {f:Fsd} {s:ak} (h:dA f s=0):bE f s=(aU f s).map fun n=>di f.1 n.toNat:=by
 unfold bE;rw [if_neg (fun e=>e h)]
theorem MR {f:Fsd} {s:ak} (h:dA f s=0):(bE f s).length=(aU f s).length:=by rw [XC h,List.length_map]
theorem qqu {f:Fsd} {s:ak} (h:dA f s=0) {i:Nat} (b:i<(bE f s).length) (a:i<(aU f s).length):(bE f s)[i]=di f.1 ((aU f s)[i]).toNat:=by
 simp only [XC h,List.getElem_map]
theorem IQ {f:Fsd} {s:ak}:∀b∈bE f s,b.length=128:=by
 intro b a;by_cases h:dA f s=0
 ·rw [XC h,List.mem_map] at a
  obtain ⟨n,c,rfl⟩:=a;have:=AB h n c
  exact nI (ny (IM h).1).1 (by omega)
 ·unfold bE at a;rw [if_pos h] at a;cases a
theorem uP (f:Fsd) (s:ak):(bE f s).length<=4096:=by
 by_cases h:dA f s=0
 ·rw [MR h]
  obtain ⟨a,l,c⟩:=IL h;obtain ⟨k,d,e⟩:=List.getElem_of_mem c;have b:=qagb f.2.2.1 k d;have i:=Rk a k;have j:=Rk a (k+1);rw [e] at b;have g:aU f s=gM l:=(yh a c).2.2.2.1;rw [g];have b:kE (List.take (k+1) f.2.2.1)=kE (List.take k f.2.2.1)+(gM l).length:=b;omega
 ·unfold bE;rw [if_pos h];exact Nat.zero_le _
theorem qxf (f:Fsd) (s:ak):fw (bE f s)=0:=Xf (uP f s) IQ
theorem qs2 (f:Fsd) (s:ak):fw (bE f s).tail=0:=Xf (by have:=uP f s;rw [List.length_tail];omega) (fun b a=>IQ b (List.mem_of_mem_tail a))
theorem Rm {f:Fsd} {s:ak} (h:dA f s=0):uF f s=(bE f s).length:=by rw [(IM h).2.2,MR h]
theorem qxg {f:Fsd} {s:ak} (h:dA f s=0) {i:Nat} (b:i<(bE f s).length):lX f s i=0∧lq f s i=(bE f s)[i]:=by
 have a:i<(aU f s).length:=by rw [<-MR h];exact b
 obtain ⟨_,_,c,d⟩:=MQ h a;exact ⟨c,by rw [d,qqu h b a]⟩
theorem Rn {f:Fsd} {s:ak} (h:dA f s≠0):bE f s=[]:=by unfold bE;rw [if_pos h]
theorem MS {f:Fsd} {s:ak} (h:gZ f s=0):dA f s=0∧2<=(bE f s).length∧uN ((bE f s).headD [])∧fP f s=jf s (bE f s)∧rX f s=pQ (bE f s):=by
 have e1:fP f s=jf s (bE f s):=by unfold fP;rw [if_neg (fun e=>e h)]
 have c:rX f s=pQ (bE f s):=by unfold rX;rw [if_neg (fun e=>e h)]
 unfold gZ at h;by_cases a:dA f s=0
 ·rw [if_neg (fun e=>e a)] at h
  by_cases b:(bE f s).length<2∨¬uN ((bE f s).headD [])
  ·rw [if_pos b] at h;cases h
  ·have g:¬(bE f s).length<2:=fun e=>b (.inl e)
   have d:uN ((bE f s).headD []):=Classical.byContradiction fun e=>b (.inr e)
   exact ⟨a,by omega,d,e1,c⟩
 ·rw [if_pos a] at h;exact absurd h a
theorem PE {f:Fsd} {s:ak} (a:dA f s=0) (c:2<=(bE f s).length) (b:uN ((bE f s).headD [])):gZ f s=0:=by
 unfold gZ;rw [if_neg (fun e=>e a),if_neg];rintro (h | h)
 ·omega
 ·exact h b
theorem xL (s:ak) (L:List (ak)) (h:L.length<=4096):(jf s L).2.1<4294967296∧(jf s L).2.2.1<=4096∧(jf s L).2.2.2.1<4294967296∧(jf s L).2.2.2.2.1<4294967296∧(jf s L).2.2.2.2.2<=L.length - 1:=by
 have a:=qsp (dh (L.headD [])) (L.tail.length+1) 1 0 L.tail;have b:=qsq (dh (L.headD [])) (L.tail.length+1) 1 0 L.tail (by omega);rw [List.length_tail] at a;refine ⟨Qv _, ?_, ?_,qww _ _ _ (by omega), ?_⟩
 ·show (fD (dh (L.headD [])) L.tail).length<=4096
  unfold fD;rw [List.length_tail] at *;omega
 ·exact b
 ·show dF (fD (dh (L.headD [])) L.tail)<=_
  unfold fD;rw [List.length_tail];exact a.1
theorem qyv (x:Nat):splice (List.replicate 128 0) 0 ((dB x).take 4)=headW x:=by
 simp [splice,headW,dB]
theorem qxh (x:Nat) (w:World) (n:x<4294967296):
  Calls Tryz.prog 25 #[.int .u32 x] w fun e w'=>∃v,e=.returned v∧aX w' w.heap.size v (headW x)∧ah w w':=by
 have H:=ag n;clear n;obtain ⟨u,l,f,g⟩:=qus w;have y:=ag f;have h:=ag g;clear f g;go_enter Tryz.func25,Tryz.ntmps25;go_wp2;clear l;go_loopw [6] (fun i wr=>∃j:Nat,j<=4∧i=.int .i64 j∧af (aX wr w.heap.size (.slice (some ⟨w.heap.size,0,none⟩) 128 128) (splice (List.replicate 128 0) 0 ((dB x).take j)))∧u.grownBy wr (some w.heap.size)) (fun i _=>4 - (intOf i).toNat)
 case atStart=>
  refine ⟨0,Nat.zero_le _,rfl, ?_,World.grownBy.refl _ _⟩;show aX _ _ _ _
  have e:splice (List.replicate 128 0) 0 ((dB x).take 0)=List.replicate 128 0:=by simp [splice]
  rw [e];exact y.o
 case round=>
  obtain ⟨j,I,rfl,d,b⟩:=hrel;by_cases a:j<4
  ·have p:(j:Int)<4:=by omega
   obtain ⟨q,r,J,a2,a3⟩:=O6 a;obtain ⟨z,A,s⟩:=qwx x j q r a;clear r;have B:=d.o.fz j;have C:=d.o.at j (by rw [length_splice _ _ _ (by rw [List.length_take,jP,List.length_replicate];omega),List.length_replicate];omega);obtain ⟨m,t⟩:=d.o.stored j z;have c:=qki (List.replicate 128 0) (dB x) 0 j 4 (by rw [jP];exact a) a (by rw [jP];exact Nat.le_refl _) (by rw [List.length_replicate];omega);rw [Nat.zero_add,<-s] at c;rw [c] at m;clear c;have D:=ag m;have E:=ag (nP b t);clear m t d b s;go_wp2;go_roundw
   case rel=>exact ⟨j+1,by omega,rfl,D,E.o⟩
   case measure=>simp only [intOf];omega
  ·have K:decide ((j:Int)<4)=false:=aA (by omega)
   obtain rfl:j=4:=by omega
   have F:=ag d.o;clear d;go_wp2;go_ret;refine ⟨_,rfl, ?_,h.o.grown b h.o.size (fun k G=>by cases G;exact Nat.le_refl _)⟩;have:=F.o
   rw [qyv] at this;exact this
theorem qkk (x:FsV) (f:Fsd) (s:ak) (w:World) (h:RdX w x f) (R:WfX f):
  Calls Tryz.prog 32 #[x.val,.string (bs s)] w fun e w'=>∃v,e=.returned (.tuple #[v,.int .i64 (dA f s)])∧bu w' w.heap.size v (bE f s)∧ah w w':=by
 have S:=ag R;clear R;obtain ⟨C,t⟩:=aj (w.alloc (.cells x.cs 32));have p:ah w C:=by rw [<-t];exact ae
 have T:=ag (show bf C w.heap.size x by rw [<-t];exact Bq.new _ _ _);obtain ⟨D,E,F,G,H,I⟩:=aV T.o;have U:=ag h;have V:=ag p;clear h p;unfold FsV.val;unfold FsV.cs at t;go_enter Tryz.func32,Tryz.ntmps32;go_wp2_with fail
 refine (tJ x f s C (U.o.a V.o) S.o).mono ?_
 rintro e w2 ⟨rfl,j⟩;have mO:=ag (T.o.a j);have J:=bT V j;clear D E F G H I t j;by_cases d:dA f s=0
 ·have W:=ag d
  obtain ⟨m,u⟩:=ai ((bE f s).length);have Cn:m<=4096:=by rw [u];exact uP f s
  have K:=ag u;rw [d,Rm d,<-u];clear d u;go_wp2;go_loopw [7,4,5] (fun i v e wr=>∃k:Nat,k<=m∧i=.int .i64 k∧e=.int .i64 0∧af (bu wr (w.heap.size+1) v ((bE f s).take k))∧af (bf wr w.heap.size x)∧af (ah w wr)) (fun i _ _ _=>m - (intOf i).toNat)
  case atStart=>exact ⟨0,Nat.zero_le _,rfl,rfl,ag (by simpa using bu.nil _ _),mO,J⟩
  case round=>
   obtain ⟨k,hk,rfl,rfl,a,y,q⟩:=hrel;by_cases L:k<m
   ·have X:(k:Int)<m:=by omega
    have M:=ag (show ((bE f s).take k).length=k by rw [List.length_take,<-K.o];omega);have r:k<(bE f s).length:=by rw [<-K.o];exact L
    have N:=ag (show (bE f s).take (k+1)=(bE f s).take k++[(bE f s)[k]] from List.take_succ_eq_append_getElem r);obtain ⟨av,cv,Y⟩:=a.o.form;rw [M.o] at Y;subst Y;obtain ⟨D,E,F,G,H,I⟩:=aV y.o;have O:=ag (qxg W.o r);go_wp2_with fail
    refine (G7 x f s k wr (U.o.a q.o) S.o).mono ?_
    rintro e w3 ⟨v3,rfl,c,b⟩;obtain ⟨Z,l⟩:=ai ((bE f s)[k]);rw [O.o.2,<-l] at c;rw [O.o.1];rw [<-l] at N;obtain ⟨y3,z3,rfl⟩:=c.form;have n:w.heap.size+1<=wr.heap.size:=by have:=y.o.lt;omega
    obtain ⟨g9,c9,w9,g,A,P⟩:=Qr (a.o.a b) (aC n b.size) (by rw [M.o];omega) y3 Z.length z3 Z (c.mono n);rw [M.o] at g A;rw [<-N.o] at A;have jT:=ag A;have fT:=y.o.a b;have yH:=ag (fT.below (by omega) P);have lh:=ag ((q.o.trans (b.mono q.o.size)).trans (P.mono (by omega)));clear A P c b a y fT q l D E F G H I O N n;go_wp2_with (at_builtin;refine ku rfl (.tmp 31) (.tmp 33) 42 rfl rfl rfl rfl g ?_)
    go_roundw
    case rel=>exact ⟨k+1,by omega,rfl,rfl,jT,yH,lh⟩
    case measure=>simp only [intOf];omega
   ·have hd:decide ((k:Int)<m)=false:=aA (by omega)
    have HO:=ag (show bu wr (w.heap.size+1) _ (bE f s) by
     have:=a.o
     rwa [List.take_of_length_le (by rw [<-K.o];omega)] at this)
    clear a;go_wp2;go_ret2;exact ⟨_,by rw [W.o];rfl,HO.o.mono (by omega),q.o⟩
 ·have HZ:=ag (Rn d)
  obtain ⟨z,B⟩:=ai (uF f s);obtain ⟨e,Q⟩:=ai (dA f s);rw [<-Q] at d ⊢;rw [<-B];have ge:(e==0)=false:=by simpa using d
  have XD:=ag Q;clear B Q d;go_wp2;go_loopw [7,4,5] (fun i v e' wr=>i=.int .i64 0∧v=.slice none 0 0∧e'=.int .i64 e∧wr=w2) (fun i _ _ _=>0)
  case atStart=>exact ⟨rfl,rfl,rfl,rfl⟩
  case round=>
   obtain ⟨rfl,rfl,rfl,rfl⟩:=hrel;by_cases B:0<z
   ·go_wp2
    go_ret2;exact ⟨_,by rw [<-XD.o];rfl,by rw [HZ.o];exact bu.nil _ _,J.o⟩
   ·have hd:decide ((0:Int)<z)=false:=by simpa using B
    go_wp2;go_ret2;exact ⟨_,by rw [<-XD.o];rfl,by rw [HZ.o];exact bu.nil _ _,J.o⟩
theorem Dc {w:World} {a:au} {n c:Nat} {b:ak} (h:Rd w (.slice a n c) b) (e:n=b.length):jC (w.alloc (.cells #[.slice a n c] 22)) (.slice (some ⟨w.heap.size,0,none⟩) 1 1) [b]:=by
 subst e;have f:ah w (w.alloc (.cells #[.slice a b.length c] 22)):=ae;refine .inr ⟨w.heap.size,0,1,rfl,Nat.le_refl _,by unfold maxLen;decide,fun j d=>?_⟩;have d:j=0:=by simpa using d
 subst d;exact ⟨a,c,(Bq.new w 22 #[.slice a b.length c]).cell 0,h.a f⟩
theorem kS (b:ak) (h:b.length=128):tF [b]=dh b∧fw [b]=0:=by
 have a:fw [b]=0:=Xf (by simp) (by simpa using h);refine ⟨?_,a⟩;unfold tF;rw [if_neg (fun e=>e a)];simp [l9]
def AJ (b:ak):Nat:=if uN b then dh b else 0
def MU (b:ak):Int:=if uN b then 0 else 8
def uQ (l:List (ak)):Nat:=if l9 l=4294967295 then 0 else l9 l+1
def rY (l:List (ak)):Int:=if l9 l=4294967295 then 9 else 0
theorem qagf (a:au) (n c:Nat) (b:ak) (w:World) (h:Rd w (.slice a n c) b) (v:n=b.length) (hb:b.length=128):
  Calls Tryz.prog 33 #[.slice a n c] w fun e w'=>e=.returned (.tuple #[.int .u32 (AJ b),.int .i64 (MU b)])∧ah w w':=by
 obtain ⟨g,x⟩:=ai (dh b);have y:g<4294967296:=by rw [x];exact Qv b
 have u:=ag x;have E:=ag h;have I:=ag v;have D:=ag (kS b hb);obtain ⟨z,A⟩:=aj (w.alloc (.cells #[.slice a n c] 22));have B:=ag (show ah w z by rw [<-A];exact ae);have F:=ag (show jC z (.slice (some ⟨w.heap.size,0,none⟩) 1 1) [b] by rw [<-A];exact Dc h v);clear h v hb x;go_enter Tryz.func33,Tryz.ntmps33;go_wp2_with fail
 refine (qw0 _ 1 1 [b] z F.o).mono ?_
 rintro e G ⟨rfl,k⟩;rw [D.o.1,D.o.2,<-u.o];have l:=bT B k;clear A k;by_cases m:g=0
 ·have p:=ag (show ¬uN b by unfold uN;rw [<-u.o];exact fun e=>e.1 m)
  have C:((g:Int)==0)=true:=by simpa using m
  clear m;go_wp2;go_ret2;refine ⟨?_,l.o⟩;have e1:AJ b=0:=if_neg p.o;have q:MU b=8:=if_neg p.o;rw [e1,q];rfl
 ·have C:((g:Int)==0)=false:=by simpa using (by omega:¬(g:Int)=0)
  have p:=ag (show uN b↔b=headW g by unfold uN;rw [<-u.o];exact ⟨fun e=>e.2,fun e=>⟨m,e⟩⟩);clear m;go_wp2_with fail
  refine (qxh g G y).mono ?_
  rintro e H ⟨J,rfl,r,s⟩;have f:=bT l s;have i:=r.rd;clear s r;go_wp2_with fail
  refine (Zl _ _ b (headW g) H (E.o.a f.o) i).mono ?_
  rintro e K ⟨rfl,rfl⟩;by_cases j:b=headW g
  ·have d:decide (b=headW g)=true:=decide_eq_true j
   have t:=ag (p.o.2 j);rw [d];clear j d i;go_wp2;go_ret2;refine ⟨?_,f.o⟩;have e1:AJ b=g:=(if_pos t.o).trans u.o.symm;have q:MU b=0:=if_pos t.o;rw [e1,q];rfl
  ·have d:decide (b=headW g)=false:=decide_eq_false j
   have t:=ag (fun e=>j (p.o.1 e));rw [d];clear j d i;go_wp2;go_ret2;refine ⟨?_,f.o⟩;have e1:AJ b=0:=if_neg t.o;have q:MU b=8:=if_neg t.o;rw [e1,q];rfl
theorem Na (f:Fsd) (s:ak):tF (bE f s)=l9 (bE f s):=by unfold tF;rw [if_neg (fun e=>e (qxf f s))]
theorem qqw (l:List (ak)):l9 l<4294967296:=QA l 0 (by omega)
theorem qyx (x:FsV) (f:Fsd) (s:ak) (w:World) (h:RdX w x f) (u:WfX f) (v:dA f s=0):
  Calls Tryz.prog 23 #[x.val,.string (bs s)] w fun e w'=>e=.returned (.tuple #[.int .u32 (uQ (bE f s)),.int .i64 (rY (bE f s))])∧ah w w':=by
 have A:=ag u;have B:=ag v;clear u v;obtain ⟨p,l⟩:=aj (w.alloc (.cells x.cs 32));have b:ah w p:=by rw [<-l];exact ae
 have C:=ag (show bf p w.heap.size x by rw [<-l];exact Bq.new _ _ _);obtain ⟨D,E,F,G,H,I⟩:=aV C.o;have J:=ag h;have y:=ag b;clear h b;unfold FsV.val;unfold FsV.cs at l;go_enter Tryz.func23,Tryz.ntmps23;go_wp2_with fail
 refine (qkk x f s p (J.o.a y.o) A.o).mono ?_
 rintro e K ⟨O,rfl,a,c⟩;rw [B.o];have L:=bT y c;obtain ⟨a2,c2,rfl⟩:=a.form;obtain ⟨n2,d⟩:=ai ((bE f s).length);rw [<-d] at a ⊢;have q:=ag a.rdL;clear D E F G H I l c a d;go_wp2_with fail
 refine (qw0 a2 n2 c2 (bE f s) K q.o).mono ?_
 rintro e P ⟨rfl,i⟩;have z:=bT L i;rw [Na,qxf];obtain ⟨g,m⟩:=ai (l9 (bE f s));have M:g<4294967296:=by rw [m];exact qqw _
 have j:=ag m;rw [<-m];clear i m;by_cases n:g=4294967295
 ·have r:((g:Int)==4294967295)=true:=by simpa using (by omega:(g:Int)=4294967295)
  have k:=ag n;clear n;go_wp2;go_ret2;refine ⟨?_,z.o⟩;have e1:uQ (bE f s)=0:=if_pos (j.o.symm.trans k.o);have t:rY (bE f s)=9:=if_pos (j.o.symm.trans k.o);rw [e1,t];rfl
 ·have r:((g:Int)==4294967295)=false:=by simpa using (by omega:¬(g:Int)=4294967295)
  have k:=ag n;have N:IntKind.u32.wrap ((g:Int)+1)=((g+1:Nat):Int):=by rw [IntKind.wrap_u32'];omega
  clear n;go_wp2;go_ret2;refine ⟨?_,z.o⟩;have e1:uQ (bE f s)=g+1:=(if_neg (fun e=>k.o (j.o.trans e))).trans (by rw [<-j.o]);have t:rY (bE f s)=0:=if_neg (fun e=>k.o (j.o.trans e));rw [e1,t];rfl
abbrev o7 (W:Wl):Array Value:=#[.string (bs W.1),.int .u32 W.2.1,.int .i64 W.2.2.1,.int .u32 W.2.2.2.1,.int .u32 W.2.2.2.2.1,.int .i64 W.2.2.2.2.2]
abbrev pR (W:Wl):Value:=.agg (o7 W)
theorem IU (a b:ak):((bs a).toList==(bs b).toList)=decide (a=b):=by
 have e:∀x:ak,(bs x).toList=x:=fun x=>by rw [ByteArray.toList_eq];simp [bs]
 rw [e,e];by_cases h:a=b<;>simp [h]
theorem AL (a b:Nat):((a:Int)==(b:Int))=decide (a=b):=by
 by_cases h:a=b
 ·simp [h]
 ·have c:¬(a:Int)=b:=by omega
  simp [h,c]
end Go.Proofs.YthpammbgcidloaaGreat
