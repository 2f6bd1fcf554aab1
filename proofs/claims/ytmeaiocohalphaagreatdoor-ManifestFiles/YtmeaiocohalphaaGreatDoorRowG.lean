/-
  Small laws of our own over the model: rows of records of a fixed number of cells, read and owned, whatever the records are. No program is named here.
-/
import Derived.Test.YtmeaiocohalphaaGreatDoorMathFs6
namespace Go.Proofs.YtmeaiocohalphaaGreatDoor
open Go.RowKit
set_option linter.all false
variable {p:Int->Bool}{f:aR}{l:List (az)}{L b r s:az}{i k n:Nat}{w:World}
/-! ### how many blocks can be given -/
theorem qmj{q:Int->Bool}{a:Int}:∀k:Nat,(∀i:Nat,i<k->p (a+i)=q (a+i))->gN p a k=gN q a k
 |0,_=>rfl
 |k+1,h=>by
  simp only[gN];rw[qmj k (fun i hi=>h i (by omega)),h k (by omega)]
theorem VE{a:Int}:∀k:Nat,(∀i:Nat,i<k->p (a+i)=true)->gN p a k=k
 |0,_=>rfl
 |k+1,h=>by
  simp only[gN];rw[VE k (fun i hi=>h i (by omega)),h k (by omega),if_pos rfl];omega
theorem qqm(h:bP f):dE (fJ f)=0∧fJ f=cz f.2.2.1++cz f.2.2.2∧(∀x∈fJ f,34<=x.1∧1<=x.2∧x.1+x.2<=bD f.1):=by
 have i:=h.2.2.2.2.2;have j:=qxk h;have e1:nE f.2.2.1=cz f.2.2.1:=by unfold nE;rw[if_pos (ZY i)]
 have b:nE f.2.2.2=cz f.2.2.2:=by unfold nE;rw[if_pos (ZY j)]
 have k:=(Ay i).2;have m:=(Ay j).2;have a:∀x∈fJ f,34<=x.1∧1<=x.2∧x.1+x.2<=bD f.1:=by
  intro x a;unfold fJ at a;rw[e1,b]at a;rcases Xa5.1 a with a|a
  ·exact EU k.2.2.1 x a
  exact EU m.2.2.1 x a
 have o:=((sM f.1).1 (oN h).1).2.2.1;have n:∀{fs:List Fl} {B:Int},dR fs B->(cz fs).length<=2048:=by
  intro fs B c;have:=Ha fs 64 (fun g p=>by have:=Lg c g p;omega)
  have:=c.1
  have r:=c.2.2.2
  -- the bytes bound the zm
  have q:(cz fs).length<=(dJ fs).length:=by
   have:∀fs:List Fl,(cz fs).length<=(fs.flatMap kJ).length:=by
    intro fs;induction fs with
    |nil=>simp[cz]
    |cons g fs ih=>
     have e:cz (g::fs)=g.2++cz fs:=rfl;rw[e,Xa0,Xb2,Xa0];have s:g.2.length<=(kJ g).length:=by
      unfold kJ;rw[Xa0,Xa0];have:∀l:List Ex,l.length<=(dZ l).length:=by
       intro l;induction l with
       |nil=>simp[dZ]
       |cons x l ih=>
        have e:dZ (x::l)=lV x++dZ l:=rfl;rw[e,Xa0,Xb0];have:1<=(lV x).length:=by
         unfold lV;rw[Xa0];have:=Zz x.1.toNat
         omega
        omega
      have:=this g.2
      omega
     omega
   have:=this fs
   unfold dJ;rw[Xa0];omega
  omega
 refine⟨?_, ?_,a⟩
 ·refine Q9 ?_ (fun x d=>by have:=a x d;omega)
  unfold fJ;rw[e1,b,Xa0];have:=n k
  have:=n m
  omega
 unfold fJ;rw[e1,b]
theorem qvd(h:bP f):kH 34 (fP f) (fJ f)=0:=by
 have a:=(oN h).1;rw[SE a];unfold kH;have b:=((sM f.1).1 a).2.2.1;have:=(oN h).2.1
 rw[if_neg (by omega),(qqm h).1]
theorem qxp(h:bP f):Kz f=0∧KA f=gN (fun n=>!ek (fJ f) n) 34 (bD f.1-34):=by
 have e:=(oN h).1;have q:=(oN h).2.1;have l:=((sM f.1).1 e).2.2.1;have c:=qvd h;obtain⟨g,m,o⟩:=PU c;have d:=SE e;have b:dY (jN 34 (fP f) (fJ f))=0:=qaad g (by decide) (by rw[d];omega) o;have j:=wU h;refine⟨?_, ?_⟩
 ·unfold Kz;rw[if_neg (by rw[j];decide),if_neg (by rw[c];decide),b]
 unfold KA;rw[if_neg (by rw[j];decide),if_neg (by rw[c];decide)];unfold Hf;rw[if_pos b];rw[ZW (a:=34) (k:=bD f.1-34) _ (fun x p=>by have:=g.1 x p;rw[d]at this;omega) (PT b).2];apply qmj;intro i hi;rw[m,d];rw[Xd8 (by omega),Xd8 (by omega)];simp
theorem VF{a:Int}(k:Nat):gN (fun n=>!p n) a k=k-gN p a k:=by
 have c:=ZV (p:=p) (q:=fun n=>!p n) a k (fun i _ b=>by simp[b]);have d:=VE (p:=fun n=>p n ||!p n) (a:=a) k (fun i _=>by simp);omega
theorem WA(h:bP f):gJ (cz f.2.2.1)=gN (ek (cz f.2.2.1)) 34 (bD f.1-34):=by
 have a:=QJ h;have:=(oN h).2.1
 exact ZW _ (fun x b=>by have:=EU a.2.2.1 x b;omega) (fF.1 a.2.2.1).1
theorem qmk{l:List Ex}(h:∀x∈l,0<=x.2):((iy l).length:Int)=gJ l:=by
 induction l with
 |nil=>rfl
 |cons x l ih=>
  have:=ih (fun y a=>h y (Xb1 _ a))
  have d:=h x (Xb4 ..);have e1:iy (x::l)=gZ x x.2.toNat++iy l:=rfl;have b:gJ (x::l)=x.2+gJ l:=rfl;have c:(gZ x x.2.toNat).length=x.2.toNat:=by simp[gZ]
  rw[e1,b,Xa0,c];omega
def lh (fs:List Fl):Int:=((fs.map fun g=>(iy g.2).length).sum:Nat)
theorem qags{fs:List Fl}(h:∀g∈fs,∀x∈g.2,0<=x.2):lh fs=gJ (cz fs):=by
 induction fs with
 |nil=>rfl
 |cons g fs ih=>
  have:=ih (fun k a=>h k (Xb1 _ a))
  have b:=qmk (h g (Xb4 ..));have e1:cz (g::fs)=g.2++cz fs:=rfl;have c:gJ (g.2++cz fs)=gJ g.2+gJ (cz fs):=by unfold gJ;rw[Xd0,List.sum_append]
  rw[e1,c,<-this,<-b];unfold lh;rw[List.map_cons,List.sum_cons];omega
theorem qagt(fs:List Fl)(k:Nat)(h:k<fs.length):lh (fs.take (k+1))=lh (fs.take k)+(iy (fs[k]).2).length:=by
 unfold lh;rw[Xa2 h,Xd0,List.sum_append];simp
theorem VG(h:bP f)(k:Nat):0<=lh (f.2.2.1.take k)∧lh (f.2.2.1.take k)<=4096:=by
 have d:=QJ h;have c:∀g∈f.2.2.1,∀x∈g.2,0<=x.2:=fun g i x j=>by have:=EU d.2.2.1 x ((Vz i).subset j);omega
 have m:=qags c;have n:=WA h;have o:=ZU (ek (cz f.2.2.1)) 34 (bD f.1-34);have l:=((sM f.1).1 (oN h).1).2.2.1;have e:lh f.2.2.1=lh (f.2.2.1.take k)+lh (f.2.2.1.drop k):=by
  unfold lh;rw[<-Int.natCast_add,<-List.sum_append,<-Xd0,Xc0]
 have a:0<=lh (f.2.2.1.take k):=by unfold lh;omega
 have b:0<=lh (f.2.2.1.drop k):=by unfold lh;omega
 omega
theorem qagu{g:aR}{but:az}(d:bP f)(e:bP g)(hd:g.1=f.1)(h:∀x∈f.2.2.1,x∈g.2.2.1):MJ f g but:=by
 intro x c _;have a:=CU d c;have b:=CU e (h x c);refine⟨a.2.2.2.2,b.2.2.2.2,qs4 a.2.2.2.2 b.2.2.2.2 (by rw[a.2.2.2.1,b.2.2.2.1]) ?_⟩;intro n _;rw[hd]
theorem qagv{l:List Fl}{e:Int}(h:(rH f l e).2≠0):(rH f l e).1=fz:=by
 unfold rH at *;split
 ·rfl
 split
 ·rfl
 rename_i h0 h1
 rw[if_neg h0,if_neg h1]at h;exact absurd rfl h
theorem Gh{a b:Int}{l:List Ex}{n:Int}(D:0<=a)(h:lS a b l n=0):Bj a b (kg a b l n)∧gJ (kg a b l n)=n∧kg a b l n≠[]∧∀k,ek (kg a b l n) k=true->ek l k=false:=by
 obtain⟨s,t,r,f,u⟩:=ZZ h;obtain⟨i,v,E⟩:=PU s;rcases qk3 (jN a b l) n t (fun x w=>(i.1 x w).2.1)with⟨g,_⟩|⟨p,x,q,c,g,z,A,B,C⟩
 ·rw[g]at f;cases f
 rw[z]at f;cases f;rw[u];refine⟨qm9 (q:=q) (x:=x) (y:=(x.1,c)) (g▸i) rfl A B, ?_,by simp, ?_⟩
 ·unfold gJ at *
  rw[Xd0,List.sum_append];simpa using C
 intro k j;have d:ek (jN a b l) k=true:=by
  rw[ZF]at j⊢;obtain⟨y,e,m,o⟩:=j;rw[g];rcases Xa5.1 e with e|e
  ·exact⟨y,List.mem_append_left _ e,m,o⟩
  obtain rfl:y=(x.1,c):=by simpa using e
  exact⟨x,by simp,m,by simp only at o;omega⟩
 rw[v]at d;simp only[Xe0,Bool.not_eq_true']at d;exact d.2
theorem qoo{n:Int}(h:(l6 f s n).2=0):bP f∧l6 f s n=((f.1,f.2.1,kT f s n,f.2.2.2),0)∧bP (f.1,f.2.1,kT f s n,f.2.2.2)∧dB (f.1,f.2.1,kT f s n,f.2.2.2) s=0∧uT (f.1,f.2.1,kT f s n,f.2.2.2) s=n∧MJ f (f.1,f.2.1,kT f s n,f.2.2.2) []∧Kz (f.1,f.2.1,kT f s n,f.2.2.2)=0∧KA (f.1,f.2.1,kT f s n,f.2.2.2)=KA f-n∧1<=n∧n<=4096∧0<=KA f∧KA f<=4096:=by
 obtain⟨F,d,g⟩:=qakz h;have c:=iY F;obtain⟨N,r,w,y⟩:=IL d;have D:=(oN c).1;have t:=SE D;have G:=(oN c).2.1;have O:=((sM f.1).1 D).2.2.1;obtain⟨T,E⟩:=ak (kg 34 (fP f) (fJ f) n);rw[<-E]at w y;have m:=Gh (by decide) r;rw[<-E,t]at m;rw[t]at w;have H:=qt8 w;have u:bP (f.1,f.2.1,bY f.2.2.1 (s,T),f.2.2.2):=qacy c H.2.1;have z:(s,T)∈bY f.2.2.1 (s,T):=lI.2 (.inl rfl);have l:=CU u z;have v:∀x∈T,0<=x.2:=fun x b=>by have:=m.1.1 x b;omega
 have j:=qmk v;rw[m.2.1]at j;rw[y];refine⟨c,by unfold l6;rw[g,y],u,l.2.2.2.2, ?_,qagu c u rfl (fun x b=>lI.2 (.inr b)), ?_⟩
 ·have I:dB (f.1,f.2.1,bY f.2.2.1 (s,T),f.2.2.2) s=0:=l.2.2.2.2
  rw[(MI I).2.2];have J:aZ (f.1,f.2.1,bY f.2.2.1 (s,T),f.2.2.2) s=iy T:=l.2.2.2.1;rw[J];exact j
 obtain⟨c1,c2⟩:=qxp u
 obtain⟨d1,d2⟩:=qxp c;have u1:=(qqm u).2.1;have u2:=(qqm c).2.1;have A:mf T=true:=by
  have b:=(Z6 w).2.2.2.2.1;exact(PT (Vy b (List.sublist_append_right _ _))).2
 have B:=ZW (a:=34) (k:=bD f.1-34) T (fun x b=>by have:=m.1.1 x b;omega) A;rw[m.2.1]at B;have C:∀k,ek (fJ (f.1,f.2.1,bY f.2.2.1 (s,T),f.2.2.2)) k=(ek (fJ f) k ||ek T k):=by
  intro k;rw[u1,u2];show ek (cz (bY f.2.2.1 (s,T))++cz f.2.2.2) k=_
  rw[Bool.eq_iff_iff];simp only[Bool.or_eq_true,ZF,Xa5];have o:=Tg f.2.2.1 (s,T);constructor
  ·rintro⟨x,b|b,d,g⟩
   ·rcases Xa5.1 (o.mem_iff.1 b)with b|b
    ·exact .inl ⟨x,.inl b,d,g⟩
    exact .inr ⟨x,b,d,g⟩
   exact .inl ⟨x,.inr b,d,g⟩
  rintro(⟨x,b|b,d,g⟩|⟨x,b,d,g⟩)
  ·exact⟨x,.inl (o.mem_iff.2 (List.mem_append_left _ b)),d,g⟩
  ·exact⟨x,.inr b,d,g⟩
  exact⟨x,.inl (o.mem_iff.2 (List.mem_append_right _ b)),d,g⟩
 have e1:=ZV (p:=ek (fJ f)) (q:=ek T) 34 (bD f.1-34) (fun i _ o=>by
  cases e:ek T (34+(i:Int))with
  |false=>rfl
  |true=>rw[m.2.2.2 _ e]at o;cases o)
 have P:=VF (p:=ek (fJ f)) (a:=34) (bD f.1-34);have Q:=VF (p:=fun k=>ek (fJ f) k ||ek T k) (a:=34) (bD f.1-34);have K:KA (f.1,f.2.1,bY f.2.2.1 (s,T),f.2.2.2)=gN (fun k=>!(ek (fJ f) k ||ek T k)) 34 (bD f.1-34):=by
  rw[c2];exact qmj _ (fun i _=>by rw[C])
 have L:=(ZZ r).2.1;have M:n<=4096:=by
  by_cases b:n<1∨4096<n
  ·rw[(JQ (ZZ r).1 b).1]at r;cases r
  omega
 have R:=ZU (fun k=>!ek (fJ f) k) 34 (bD f.1-34);have S:=ZU (ek (fJ f)) 34 (bD f.1-34);refine⟨c1, ?_,L,M, ?_, ?_⟩
 ·rw[K,d2];omega
 ·rw[d2];omega
 rw[d2];omega
def VH (b:az):Nat:=jK (b.take 4)
abbrev Op:=az×Nat×Nat
theorem qs6{α:Type}(b x:List α)(a n:Nat)(h:a+x.length<=n)(d:n<=b.length):(b.take a++(x++b.drop (a+x.length))).take n=(b.take n).take a++(x++(b.take n).drop (a+x.length)):=by
 have c:(b.take a).length=a:=by rw[Xa4];omega
 rw[List.take_append,List.take_append,c,Xa1 (l:=b.take a) (by omega),Xa1 (l:=x) (by omega),List.take_take,Xc3 (by omega),List.drop_take,Nat.sub_sub]
theorem qgf{P:Program}(w:World){B:Array Oper}{rest:List Oper}{o:Oper}{a:Act}{Q:Exit->Act->World->Prop}(C:o.guard=none)(d s:Operand)(x:TypeId)
  (J:o.op=.call {callee:=.builtin .copy,args:=#[d,s],argTypes:=#[x,x]}) (K:P.underlying x=some (.slice 5)) (D:(P.info? 5).map (·.size)=some 1)
  (base g n c m f q:Nat) (hd:a.eval d=.slice (some ⟨g,m,none⟩) f q) (v:Value) (l:az) (L:a.eval s=v) (E:Rd w v l)
  (data:az) (r:bG w base (.slice (some ⟨g,0,none⟩) n c) data) (M:m+f=data.length)
  (h:∀w',w.grownBy w' (some g)->bG w' base (.slice (some ⟨g,0,none⟩) n c) (splice data m (l.take f))->wpList P B Q rest (a.put o.dst (goInt (l.take f).length)) w'):
  wpList P B Q (o::rest) a w:=by
 obtain⟨sa,T,rfl⟩:=E.form;by_cases t:l=[]
 ·subst t
  refine wpList_copy_nothing C d s x x J 5 K D _ _ _ _ _ _ hd L (Xc3 (Xd5 _)) ?_
  have N:=h w (Xc6 _ _);have e0:(([]:az).take f).length=0:=by simp
  rw[e0]at N;refine N ?_
  have e:splice data m (([]:az).take f)=data:=by simp[splice]
  rw[e];exact r
 rcases E with⟨e,_⟩|⟨b,of,c',e,hc,hm,y⟩
 ·exact absurd e t
 cases e;have z:(l.take f).length=min f l.length:=Xa4;have i:(bO (l.take f)).length=min f l.length:=by simp[bO]
 obtain⟨hx,U|⟨g',O,p,e,V,R,W,X,S,Y⟩⟩:=r
 ·cases U.1
 cases e;have F:p.toList.take data.length=bO data:=by rw[<-Y,Nat.mul_one]
 have G:data.length<=p.size:=by rw[S];omega
 refine wpList_copy_own C d s x x J 5 K D g m _ q ⟨b,of,none⟩ l.length T hd L p _ R (bO (l.take f)) (by rw[i];exact Nat.min_comm _ _) ?_ (by rw[i];omega) (JM _) ?_
 ·intro j u Z
  obtain⟨H,rfl⟩:=JN (l.take f) j u Z;rw[Addr.add_lit];rw[Xa4]at H;rw[List.getElem_take];exact y j (by omega)
 rw[i,<-z]
 refine h _ ⟨rfl,rfl,rfl,by simp[World.setRow],fun k _ hk=>setRow_other w g k _ (fun e=>hk (by rw[e]))⟩ ?_
 have A:(splice data m (l.take f)).length=data.length:=length_splice _ _ _ (by rw[z];omega);refine⟨by simp[bO],.inr ⟨g,c,_,by rw[A],V,setRow_heap w g _ _ _ _ R,by rw[A];exact W,X, ?_, ?_⟩⟩
 ·have hz:p.toList.length=c*1:=by rw[Xd2,S]
  simp[i];omega
 rw[A,qjd,i,Nat.mul_one]
 show((p.toList.take m++(bO (l.take f)++p.toList.drop (m+(l.take f).length))).take data.length)=_
 have I:m+(bO (l.take f)).length<=data.length:=by rw[i];omega
 have:=qs6 p.toList (bO (l.take f)) m data.length I (by rw[Xd2];exact G)
 rw[F,i]at this;rw[z];exact this
def ML (w:World) (v:Value) (ls:List (az)):Prop:=
 (ls=[]∧(v=.slice none 0 0∨∃a c,v=.slice (some a) 0 c))∨
 ∃b off c,v=.slice (some ⟨b,off,none⟩) ls.length c∧ls.length<=c∧c<=maxLen∧∀j,(h:j<ls.length)->∃y z,w.cell? ⟨b,off+j,none⟩=some (.slice y (ls[j]).length z)∧Rd w (.slice y (ls[j]).length z) ls[j]
theorem ML.at{a:aA}{c:Nat}(h:ML w (.slice a n c) l)(j:Nat)(f:j<l.length):∃b d y z,a=some ⟨b,d,none⟩∧w.cell? ⟨b,d+j,none⟩=some (.slice y (l[j]).length z)∧Rd w (.slice y (l[j]).length z) l[j]:=by
 rcases h with⟨rfl,_⟩|⟨b,d,m,e,_,_,g⟩
 ·simp at f
 cases e;obtain⟨y,z,i,k⟩:=g j f;exact⟨b,d,y,z,rfl,i,k⟩
theorem iN.rdL{base:Nat}{v:Value}{b:List (az)}(h:iN w base v b):ML w v b:=by
 obtain⟨a,c,rfl⟩:=h.form;obtain⟨k,e,i,l⟩:=h;have m:iN w base (.slice a b.length c) b:=⟨k,e,i,l⟩;rcases i.2 with⟨e,d⟩|⟨g,cap,n,e,_,t,d,o,p,f⟩
 ·have:b=[]:=Xb6.1 d
  subst this;cases e;exact .inl ⟨rfl,.inl rfl⟩
 cases e;refine .inr ⟨g,0,c,rfl,d,o,fun j q=>?_⟩;obtain⟨u,y,z,e,r,s⟩:=m.at j q;cases e;exact⟨y,z,by simpa using r,s.rd⟩
def fM (f:aR) (s:az):List (az):=if dB f s≠0 then[]else(aZ f s).map fun n=>dF f.1 n.toNat
def headW (g:Nat):az:=gV g++List.replicate 124 0
def VI (b:az):Prop:=VH b≠0∧b=headW (VH b)
instance (b:az):Decidable (VI b):=inferInstanceAs (Decidable (_∧_))
abbrev Wl:=az×Nat×Nat×Nat×Nat×Nat
def wz:Wl:=([],0,0,0,0,0)
def ny (f:aR) (s:az) (vH:Int) (l:List (az)):Nat->aR×Int
 |0=>(f,0)
 |k+1=>if(ny f s vH l k).2≠0 then ny f s vH l k else l7 (ny f s vH l k).1 s (vH+k) (l.getD k [])
def QL (f:aR) (s:az) (vH:Int) (l:List (az)):aR×Int:=ny f s vH l l.length
theorem qs7{a:Int}(h:(ny f s a l k).2≠0):∀j,ny f s a l (k+j)=ny f s a l k
 |0=>rfl
 |j+1=>by
  have e:=qs7 h j;rw[<-Nat.add_assoc,ny,e,if_pos h]
/-! ### blocks -/
theorem GV(h:dB f s=0):fM f s=(aZ f s).map fun n=>dF f.1 n.toNat:=by
 unfold fM;rw[if_neg (fun e=>e h)]
theorem VJ(h:dB f s=0):(fM f s).length=(aZ f s).length:=by rw[GV h,Xd1]
theorem GR(h:dB f s=0)(hi:i<(fM f s).length)(a:i<(aZ f s).length):(fM f s)[i]=dF f.1 ((aZ f s)[i]).toNat:=by
 simp only[GV h,List.getElem_map]
theorem oL:∀b∈fM f s,b.length=128:=by
 intro b a;by_cases h:dB f s=0
 ·rw[GV h,List.mem_map]at a
  obtain⟨n,c,rfl⟩:=a;have:=EE h n c
  exact qva (oN (MI h).1).1 (by omega)
 unfold fM at a;rw[if_pos h]at a;cases a
theorem VK(f:aR)(s:az):(fM f s).length<=4096:=by
 by_cases h:dB f s=0
 ·rw[VJ h]
  obtain⟨a,l,hl⟩:=VA h;obtain⟨k,c,e⟩:=List.getElem_of_mem hl;have b:=qagt f.2.2.1 k c;have g:=VG a k;have i:=VG a (k+1);rw[e]at b;have d:aZ f s=iy l:=(CU a hl).2.2.2.1;rw[d];have b:lh (List.take (k+1) f.2.2.1)=lh (List.take k f.2.2.1)+(iy l).length:=b;omega
 unfold fM;rw[if_pos h];exact Xd5 _
theorem jA(h:dB f s=0):uT f s=(fM f s).length:=by rw[(MI h).2.2,VJ h]
theorem qxq(h:dB f s=0)(hi:i<(fM f s).length):mW f s i=0∧mq f s i=(fM f s)[i]:=by
 have a:i<(aZ f s).length:=by rw[<-VJ h];exact hi
 obtain⟨_,_,b,c⟩:=QK h a;exact⟨b,by rw[c,GR h hi a]⟩
theorem qak2(h:dB f s≠0):fM f s=[]:=by unfold fM;rw[if_pos h]
theorem qak3{i:Int}(h:(l7 f s i b).2=0):
  ∃j:Nat,i=j∧j<(fM f s).length∧fM (l7 f s i b).1 s=(fM f s).set j b∧bP (l7 f s i b).1∧(l7 f s i b).1.2=f.2∧dB f s=0∧dB (l7 f s i b).1 s=0∧bD (l7 f s i b).1.1=bD f.1:=by
 obtain⟨c,t,e,F,y,d⟩:=VB h;obtain⟨z,_,_,m,u,_⟩:=qxo h;rw[e]at z u⊢;obtain⟨_,j,rfl,G,H⟩:=VC c F;obtain⟨v,A,_,_⟩:=oN c;obtain⟨I,J,_⟩:=que v d y;have a:aZ (t,f.2) s=aZ f s:=(jS (f:=f) (g:=(t,f.2)) rfl s).1;have o:=VJ u;have hl:=VJ m;obtain⟨_,L,B⟩:=VA m;have w:(aZ f s).Nodup:=by rw[(CU c B).2.2.2.1];exact qon c B
 refine⟨j,rfl,by rw[hl];exact G, ?_,z,rfl,m,u,J⟩;apply List.ext_getElem
 ·rw[List.length_set,o,hl,a]
 intro k C N;have p:k<(aZ f s).length:=by rw[<-a,<-o];exact C
 have x:k<(fM f s).length:=by rw[hl];exact p
 rw[GR u C (by rw[a];exact p),List.getElem_set];have K:(aZ (t,f.2) s)[k]'(by rw[a];exact p)=(aZ f s)[k]:=by simp only[a]
 rw[K];have O:=EE m _ (Xa3 p);obtain⟨n,D⟩:∃n:Nat,(aZ f s)[k]=n:=⟨((aZ f s)[k]).toNat,by omega⟩
 have q:((aZ f s)[k]).toNat=n:=by omega
 have r:n<bD f.1:=by omega
 have E:=qls v d y r;rw[EG I (by omega),EG v r,H]at E;rw[q];show dF t n=_
 rw[E];by_cases l:j=k
 ·subst l
  rw[if_pos D.symm,if_pos rfl]
 rw[if_neg l,if_neg,GR m x p,q]
 intro M;exact l ((List.getElem_inj w).1 (M.symm.trans D.symm))
def dX (n:Nat):Nat:=max 1 ((n+127) / 128)
def ll (l:az):az:=l++List.replicate (128-l.length) 0
def di (b:az):List (az):=(List.range (dX b.length)).map fun i=>ll ((b.drop (128*i)).take 128)
def eO:az:=[99,117,114,114,101,110,116]
def jB:az:=[110,101,120,116]
theorem VL(n:Nat):n<=128*dX n:=by unfold dX;omega
theorem qak4(n:Nat):1<=dX n:=by unfold dX;omega
theorem qve(h:n<=16384):dX n<=128:=by unfold dX;omega
theorem Gb(b:az):(di b).length=dX b.length:=by simp[di]
theorem qxr{l:az}(h:l.length<=128):(ll l).length=128:=by simp[ll];omega
theorem qxs(b:az)(i:Nat)(h:i<(di b).length):(di b)[i]=ll ((b.drop (128*i)).take 128):=by simp[di]
def jc (b:az):az:=b++List.replicate (128*dX b.length-b.length) 0
theorem VM(b:az):(jc b).length=128*dX b.length:=by
 have:=VL b.length
 simp[jc];omega
theorem qak5(b:az)(j:Nat)(h:j<(jc b).length):(jc b)[j]=b.getD j 0:=by
 unfold jc at *;by_cases a:j<b.length
 ·rw[List.getElem_append_left a,List.getD_eq_getElem?_getD,List.getElem?_eq_getElem a];rfl
 rw[List.getElem_append_right (by omega),List.getElem_replicate,List.getD_eq_getElem?_getD,List.getElem?_eq_none (by omega)];rfl
theorem qagx(b:az)(i j:Nat)(h:j<(ll ((b.drop (128*i)).take 128)).length)(d:j<128):(ll ((b.drop (128*i)).take 128))[j]=b.getD (128*i+j) 0:=by
 unfold ll at *;by_cases c:128*i+j<b.length
 ·have a:j<((b.drop (128*i)).take 128).length:=by rw[Xa4,Xa9];omega
  rw[List.getElem_append_left a,List.getElem_take,List.getElem_drop,List.getD_eq_getElem?_getD,List.getElem?_eq_getElem c];rfl
 have a:¬j<((b.drop (128*i)).take 128).length:=by rw[Xa4,Xa9];omega
 rw[List.getElem_append_right (by omega),List.getElem_replicate,List.getD_eq_getElem?_getD,List.getElem?_eq_none (by omega)];rfl
theorem qac4(b:az)(h:i<dX b.length):ll ((b.drop (128*i)).take 128)=((jc b).drop (128*i)).take 128:=by
 have hl:=VM b;have a:(ll ((b.drop (128*i)).take 128)).length=128:=qxr (by rw[Xa4];omega);apply List.ext_getElem
 ·rw[a,Xa4,Xa9,hl];omega
 intro j c d;rw[a]at c;rw[qagx b i j _ c,List.getElem_take,List.getElem_drop,qak5]
theorem qs8(b:az):(di b).flatten=jc b:=by
 have a:∀k,k<=dX b.length->((List.range k).map fun i=>ll ((b.drop (128*i)).take 128)).flatten=(jc b).take (128*k):=by
  intro k;induction k with
  |zero=>intro _;simp
  |succ k ih=>
   intro c;rw[List.range_succ,Xd0,List.flatten_append,ih (by omega),List.map_cons,List.map_nil,List.flatten_cons,List.flatten_nil,Xc8,qac4 b (by omega)];have e:128*(k+1)=128*k+128:=by omega
   rw[e,List.take_add]
 unfold di;rw[a _ aL,<-VM,Xb5]
def mE (f:aR) (s b:az):aR×Int:=
 if eF f≠0 then(fz,eF f)else if 16384<b.length then(fz,3)
 else if(l6 f s (dX b.length:Nat)).2≠0 then(fz,(l6 f s (dX b.length:Nat)).2)
 else if(QL (l6 f s (dX b.length:Nat)).1 s 0 (di b)).2≠0 then(fz,(QL (l6 f s (dX b.length:Nat)).1 s 0 (di b)).2)
 else((QL (l6 f s (dX b.length:Nat)).1 s 0 (di b)).1,0)
def nU (f:aR) (s:az) (n:Int):Int:=if dB f s≠0 then dB f s else if n<0∨((fM f s).flatten.length:Int)<n then 2 else 0
def tV (f:aR) (s:az) (n:Int):az:=if nU f s n=0 then(fM f s).flatten.take n.toNat else[]
def nV (f:aR) (V:lJ):aR×Int:=
 if eF f≠0 then(fz,eF f)else if dw V≠0 then(fz,dw V)
 else if(mE f jB (tx (dS V))).2≠0 then(fz,(mE f jB (tx (dS V))).2)
 else wT (mE f jB (tx (dS V))).1 jB eO
def lm (b:az):Int:=match ct b with
 |none=>8
 |some (s,r)=>if b=jc (tx s)∧dx s=0 then 0 else 8
def lq (b:az):lJ:=match ct b with
 |none=>fo
 |some (s,r)=>if b=jc (tx s)∧dx s=0 then eD s else fo
def nz (f:aR):Int:=if dB f eO≠0 then dB f eO else lm (fM f eO).flatten
def kF (f:aR):lJ:=if dB f eO≠0 then fo else lq (fM f eO).flatten
theorem EN(e:ct b=none):lm b=8:=by unfold lm;rw[e]
theorem qml(e:ct b=none):lq b=fo:=by unfold lq;rw[e]
theorem VN(e:ct b=some (s,r)):lm b=if b=jc (tx s)∧dx s=0 then 0 else 8:=by unfold lm;rw[e]
theorem VO(e:ct b=some (s,r)):lq b=if b=jc (tx s)∧dx s=0 then eD s else fo:=by unfold lq;rw[e]
theorem R9{V:lJ}(h:dw V=0):(tx (dS V)).length<=6010:=by
 have a:=RD h;have b:=nM (dS V) (by omega);omega
theorem MM(h:lm b=0):∃V,dw V=0∧b=jc (tx (dS V))∧lq b=V:=by
 cases e:ct b with
 |none=>rw[EN e]at h;cases h
 |some p=>
  obtain⟨s,r⟩:=p;rw[VN e]at h;by_cases a:b=jc (tx s)∧dx s=0
  ·obtain⟨a1,a2,a3⟩:=qaj2 a.2
   refine⟨eD s,a2,by rw[a3];exact a.1, ?_⟩;rw[VO e,if_pos a]
  rw[if_neg a]at h;cases h
theorem Z5(h:lm b≠0):lm b=8∧lq b=fo:=by
 cases e:ct b with
 |none=>exact⟨EN e,qml e⟩
 |some p=>
  obtain⟨s,r⟩:=p;rw[VN e]at h⊢;rw[VO e];by_cases a:b=jc (tx s)∧dx s=0
  ·rw[if_pos a]at h;exact absurd rfl h
  rw[if_neg a,if_neg a];exact⟨rfl,rfl⟩
theorem XF(h:16384<b.length):lm b=8∧lq b=fo:=by
 refine Z5 fun a=>?_
 obtain⟨V,c,d,_⟩:=MM a;have f:=R9 c;have e:=VM (tx (dS V));rw[<-d]at e;have:dX (tx (dS V)).length<=128:=qve (by omega)
 omega
theorem Uh:∀(l:List (az)),(∀b∈l,b.length=128)->l.flatten.length=128*l.length
 |[],_=>rfl
 |b::l,h=>by
  rw[List.flatten_cons,Xa0,Uh l (fun x a=>h x (Xb1 _ a)),h b Xb4,Xb0];omega
theorem QM(f:aR)(s:az):(fM f s).flatten.length=128*(fM f s).length:=Uh _ oL
/-! ### what is stored -/
theorem qs9(a:bP f)(g:dB f s=0):∀k,k<=l.length->(ny f s 0 l k).2=0->
  bP (ny f s 0 l k).1∧dB (ny f s 0 l k).1 s=0∧(ny f s 0 l k).1.2=f.2∧k<=(fM f s).length∧fM (ny f s 0 l k).1 s=l.take k++(fM f s).drop k
 |0,_,_=>⟨a,g,rfl,Xd5 _,by simp[ny]⟩
 |k+1,hk,h=>by
  rw[ny]at h⊢;by_cases c:(ny f s 0 l k).2=0
  ·rw[if_neg (fun e=>e c)]at h⊢
   obtain⟨a1,a2,a3,a4,i⟩:=qs9 a g k (by omega) c;obtain⟨j,e,m,b,n,o,r,p,_⟩:=qak3 h;obtain rfl:j=k:=by omega
   rw[i,Xa0,Xa4,Xa9]at m;refine⟨n,p,o.trans a3,by omega, ?_⟩;rw[b,i];have hl:(l.take j).length=j:=by rw[Xa4];omega
   have d:j<(fM f s).length:=by omega
   rw[List.set_append_right _ _ (by omega),hl,Nat.sub_self,Xc4 d,List.set_cons_zero,Xa2 (by omega)];have q:l.getD j []=l[j]:=by rw[List.getD_eq_getElem?_getD,List.getElem?_eq_getElem (by omega)];rfl
   rw[q,Xa8];rfl
  rw[if_pos c]at h
  exact absurd h c
theorem VP(h:(mE f s b).2=0):∃y:aR,mE f s b=(y,0)∧bP f∧b.length<=16384∧(l6 f s (dX b.length:Nat)).2=0∧QL (f.1,f.2.1,kT f s (dX b.length:Nat),f.2.2.2) s 0 (di b)=(y,0)∧bP y∧dB y s=0∧fM y s=di b∧y.2=(f.2.1,kT f s (dX b.length:Nat),f.2.2.2)∧
  bP (f.1,f.2.1,kT f s (dX b.length:Nat),f.2.2.2)∧dB (f.1,f.2.1,kT f s (dX b.length:Nat),f.2.2.2) s=0∧(fM (f.1,f.2.1,kT f s (dX b.length:Nat),f.2.2.2) s).length=dX b.length:=by
 unfold mE at h⊢;by_cases g:eF f=0
 ·rw[if_neg (fun e=>e g)]at h⊢
  by_cases i:16384<b.length
  ·rw[if_pos i]at h;cases h
  rw[if_neg i]at h⊢
  by_cases d:(l6 f s (dX b.length:Nat)).2=0
  ·rw[if_neg (fun e=>e d)]at h⊢
   obtain⟨c0,c1,c2,c3,c4,_⟩:=qoo d;rw[c1]at h⊢;by_cases a:(QL (f.1,f.2.1,kT f s (dX b.length:Nat),f.2.2.2) s 0 (di b)).2=0
   ·rw[if_neg (fun e=>e a)]
    obtain⟨j,k,l,n,m⟩:=qs9 c2 c3 (di b).length aL a;have c:(fM (f.1,f.2.1,kT f s (dX b.length:Nat),f.2.2.2) s).length=dX b.length:=by
     have:=jA c3
     rw[c4]at this;omega
    refine⟨_,rfl,c0,by omega,rfl,Prod.ext rfl a,j,k, ?_,l,c2,c3,c⟩;refine m.trans ?_
    rw[Xb5,Gb,List.drop_eq_nil_of_le (by omega),Xc8]
   rw[if_pos a]at h;exact absurd h a
  rw[if_pos d]at h;exact absurd h d
 rw[if_pos g]at h;exact absurd h g
theorem qxt(h:(mE f s b).2≠0):(mE f s b).1=fz:=by
 unfold mE at *;split
 ·rfl
 split
 ·rfl
 split
 ·rfl
 split
 ·rfl
 rename_i h0 h1 h2 h3
 rw[if_neg h0,if_neg h1,if_neg h2,if_neg h3]at h;exact absurd rfl h
theorem qxu{vH:Int}:∀k,(ny f s vH l k).2≠0->(ny f s vH l k).1=fz
 |0,h=>absurd rfl h
 |k+1,h=>by
  rw[ny]at h⊢;split at h
  ·rename_i h0;rw[if_pos h0];exact qxu k h0
  rename_i h0;rw[if_neg h0];exact qak1 h
def fe (f:aR) (s b:az) (k:Nat):aR×Int:=
 if(l6 f s (dX b.length:Nat)).2≠0 then l6 f s (dX b.length:Nat)else ny (l6 f s (dX b.length:Nat)).1 s 0 (di b) k
theorem qta(f:aR)(s b:az):fe f s b 0=l6 f s (dX b.length:Nat):=by
 unfold fe;split
 ·rfl
 rename_i h
 rw[ny];exact Prod.ext rfl (Decidable.not_not.1 h).symm
theorem qtb(h:(fe f s b k).2=0)(c:k<(di b).length):fe f s b (k+1)=l7 (fe f s b k).1 s k (di b)[k]:=by
 by_cases a:(l6 f s (dX b.length:Nat)).2≠0
 ·unfold fe at h
  rw[if_pos a]at h;exact absurd h a
 have e:∀j,fe f s b j=ny (l6 f s (dX b.length:Nat)).1 s 0 (di b) j:=fun j=>by unfold fe;rw[if_neg a]
 rw[e]at h;rw[e,e,ny,if_neg (fun d=>d h),List.getD_eq_getElem?_getD,List.getElem?_eq_getElem c,Int.zero_add];rfl
theorem kZ(d:eF f=0)(g:b.length<=16384)(h:k<=dX b.length)(a:k=dX b.length∨(fe f s b k).2≠0):mE f s b=fe f s b k:=by
 have e:fe f s b k=fe f s b (dX b.length):=by
  rcases a with rfl|a
  ·rfl
  unfold fe at a⊢;by_cases c:(l6 f s (dX b.length:Nat)).2≠0
  ·rw[if_pos c,if_pos c]
  rw[if_neg c]at a
  rw[if_neg c,if_neg c];have:=qs7 a (dX b.length-k)
  rw[<-this];congr 1;omega
 rw[e];unfold mE fe;rw[if_neg (by rw[d];simp),if_neg (by omega)];by_cases c:(l6 f s (dX b.length:Nat)).2≠0
 ·rw[if_pos c,if_pos c]
  exact Prod.ext (qagv c).symm rfl
 rw[if_neg c,if_neg c]
 unfold QL;rw[Gb];by_cases p:(ny (l6 f s (dX b.length:Nat)).1 s 0 (di b) (dX b.length)).2≠0
 ·rw[if_pos p]
  exact Prod.ext (qxu _ p).symm rfl
 rw[if_neg p]
 exact Prod.ext rfl (Decidable.not_not.1 p).symm
theorem VQ(h:¬eF f=0):mE f s b=(fz,eF f):=by unfold mE;rw[if_pos h]
theorem VR(a:eF f=0)(h:16384<b.length):mE f s b=(fz,3):=by unfold mE;rw[if_neg (by rw[a];simp),if_pos h]
def nW (L:az) (n k:Nat):az:=(L.take n).take (128*k)++List.replicate (n-128*k) 0
theorem qac8(L:az)(n:Nat):nW L n 0=List.replicate n 0:=by unfold nW;simp
theorem PP(h:n<=L.length)(k:Nat):(nW L n k).length=n:=by
 unfold nW;rw[Xa0,Xa4,Xa4,Xc1];omega
theorem qag0(h:n<=128*k):nW L n k=L.take n:=by
 unfold nW;rw[Xa1 (by rw[Xa4];omega),show n-128*k=0 by omega];simp
theorem qac9(e:n<=L.length)(f:128*k<n)(hb:128*k+128<=L.length):splice (nW L n k) (128*k) (((L.drop (128*k)).take 128).take (n-128*k))=nW L n (k+1):=by
 have a:((L.take n).take (128*k)).length=128*k:=by rw[Xa4,Xa4];omega
 have e1:((L.drop (128*k)).take 128).take (n-128*k)=((L.take n).drop (128*k)).take 128:=by rw[List.drop_take,List.take_take,List.take_take,Nat.min_comm]
 have b:(((L.take n).drop (128*k)).take 128).length=min (n-128*k) 128:=by rw[Xa4,Xa9,Xa4];omega
 rw[e1];unfold splice nW;rw[b,List.take_left' a];have c:((L.take n).take (128*k)++List.replicate (n-128*k) (0:UInt8)).drop (128*k+min (n-128*k) 128)=List.replicate (n-128*(k+1)) 0:=by
  rw[List.drop_append,List.drop_eq_nil_of_le (by rw[a];omega),List.nil_append,a,List.drop_replicate];have d:n-128*k-(128*k+min (n-128*k) 128-128*k)=n-128*(k+1):=by omega
  rw[d]
 rw[c,<-Xa8,show 128*(k+1)=128*k+128 by omega,List.take_add]
theorem qoq:∀{l:List (az)} (h:∀b∈l,b.length=128) {k:Nat} (c:k<l.length),l[k]=(l.flatten.drop (128*k)).take 128
 |x::l,h,0,_=>by
  have a:=h x Xb4;rw[List.getElem_cons_zero,List.flatten_cons,Nat.mul_zero,List.drop_zero,<-a,List.take_left]
 |x::l,h,k+1,c=>by
  have a:=h x Xb4;rw[List.getElem_cons_succ,List.flatten_cons,List.drop_append,List.drop_eq_nil_of_le (by omega),List.nil_append,a,show 128*(k+1)-128=128*k by omega];exact qoq (fun b d=>h b (Xb1 _ d)) (by simpa using c)
theorem qzf(a:k<(fM f s).length):(fM f s)[k]=((fM f s).flatten.drop (128*k)).take 128:=qoq oL a
theorem VS{n:Int}(h:¬dB f s=0):nU f s n=dB f s∧tV f s n=[]:=by
 have e:nU f s n=dB f s:=by unfold nU;rw[if_pos h]
 exact⟨e,by unfold tV;rw[e,if_neg h]⟩
theorem VT{n:Int}(a:dB f s=0)(h:n<0∨(128*(fM f s).length:Int)<n):nU f s n=2∧tV f s n=[]:=by
 have e:nU f s n=2:=by unfold nU;rw[if_neg (by rw[a];simp),if_pos (by rw[QM];push_cast;exact h)]
 exact⟨e,by unfold tV;rw[e,if_neg (by decide)]⟩
theorem MN(a:dB f s=0)(h:n<=128*(fM f s).length):nU f s n=0∧tV f s n=(fM f s).flatten.take n:=by
 have e:nU f s n=0:=by
  unfold nU;rw[if_neg (by rw[a];simp),if_neg];rw[QM];push_cast;omega
 exact⟨e,by unfold tV;rw[e,if_pos rfl,Int.toNat_natCast]⟩
section
variable {α:Type}
def Gc (sz:Nat) (ec:α->List Value) (w:World) (b off:Nat) (l:List α):Prop:=∀j,(h:j<l.length)->∀i u,(ec l[j])[i]? =some u->w.cell? ⟨b,off+j*sz+i,none⟩=some u
def oZ (sz:Nat) (ec:α->List Value) (w:World) (v:Value) (l:List α):Prop:=
 (l=[]∧(v=.slice none 0 0∨∃a c,v=.slice (some a) 0 c))∨
 ∃b off c,v=.slice (some ⟨b,off,none⟩) l.length c∧l.length<=c∧c<=maxLen∧Gc sz ec w b off l
def cO (sz:Nat) (ec:α->List Value) (t:TypeId) (w:World) (base:Nat) (v:Value) (l:List α):Prop:=w.ownsRow base t sz v l.length (l.flatMap ec)
variable {sz:Nat} {ec:α->List Value} {t:TypeId}
theorem Gc.a{w w':World}{b a:Nat}{l:List α}(h:Gc sz ec w b a l)(hb:ah w w'):Gc sz ec w' b a l:=by
 intro j d i u e;have c:=h j d i u e;rw[hb.cell (Xa6 w _ c)];exact c
theorem oZ.a{w w':World}{v:Value}{l:List α}(h:oZ sz ec w v l)(hb:ah w w'):oZ sz ec w' v l:=by
 rcases h with h|⟨b,a,c,rfl,d,e,hl⟩
 ·exact .inl h
 exact .inr ⟨b,a,c,rfl,d,e,hl.a hb⟩
theorem oZ.form{w:World}{v:Value}{l:List α}(h:oZ sz ec w v l):∃a c,v=.slice a l.length c:=by
 rcases h with⟨rfl,rfl|⟨a,c,rfl⟩⟩|⟨b,d,c,rfl,_⟩<;>exact⟨_,_,rfl⟩
theorem oZ.len{w:World}{a:aA}{n c:Nat}{l:List α}(h:oZ sz ec w (.slice a n c) l):n=l.length:=by
 obtain⟨_,_,e⟩:=h.form;cases e;rfl
theorem oZ.atB{w w':World}{a:aA}{n c:Nat}{l:List α}(h:oZ sz ec w (.slice a n c) l)(hb:ah w w')(j:Nat)(f:j<l.length):
  ∃b d,a=some ⟨b,d,none⟩∧∀i u,(ec l[j])[i]? =some u->w'.cell? ⟨b,d+j*sz+i,none⟩=some u:=by
 rcases h.a hb with⟨rfl,_⟩|⟨b,d,k,e,_,_,g⟩
 ·exact absurd f (by simp)
 cases e;exact⟨b,d,rfl,g j f⟩
theorem Ak(hsz:∀x,(ec x).length=sz):∀l:List α,(l.flatMap ec).length=l.length*sz
 |[]=>by simp
 |x::l=>by rw[Xb2,Xa0,hsz,Ak hsz l,Xb0,Nat.add_mul];omega
theorem AL(a:∀x,(ec x).length=sz):∀(l:List α) (j:Nat) (h:j<l.length) (i:Nat),i<sz->(l.flatMap ec)[j*sz+i]? =(ec l[j])[i]?
 |x::l,0,h,i,hi=>by
  rw[Xb2,List.getElem?_append_left (by rw[a];omega)];simp
 |x::l,j+1,h,i,hi=>by
  have b:=a x;rw[Xb2,List.getElem?_append_right (by rw[a,Nat.add_mul];omega),a,show(j+1)*sz+i-sz=j*sz+i by rw[Nat.add_mul];omega];simpa using AL a l j (by simpa using h) i hi
theorem qag1(a:∀x,(ec x).length=sz){l:List α}{j:Nat}(h:j<l.length){i:Nat}{u:Value}(b:(ec l[j])[i]? =some u):(l.flatMap ec)[j*sz+i]? =some u:=by
 have hi:i<sz:=by rw[<-a l[j]];exact(List.getElem?_eq_some_iff.1 b).1
 rw[AL a l j h i hi];exact b
theorem qag2(a:∀x,(ec x).length=sz)(b:0<sz){l:List α}{k:Nat}{u:Value}(c:(l.flatMap ec)[k]? =some u):∃j,∃h:j<l.length,∃i,i<sz∧k=j*sz+i∧(ec l[j])[i]? =some u:=by
 have d:=(List.getElem?_eq_some_iff.1 c).1;rw[Ak a]at d;have f:k / sz<l.length:=(Nat.div_lt_iff_lt_mul b).2 d;have hi:k%sz<sz:=Nat.mod_lt _ b;have e:k=k / sz*sz+k%sz:=(Nat.div_add_mod' k sz).symm;refine⟨k / sz,f,k%sz,hi,e, ?_⟩;rw[<-AL a l (k / sz) f (k%sz) hi,<-e];exact c
theorem cO.rd(a:∀x,(ec x).length=sz){w:World}{base:Nat}{v:Value}{l:List α}(h:cO sz ec t w base v l):oZ sz ec w v l:=by
 rcases h.2 with⟨rfl,b⟩|⟨g,cap,d,rfl,_,m,b,e,n,c⟩
 ·exact .inl ⟨Xb6.1 b,.inl rfl⟩
 refine .inr ⟨g,0,cap,rfl,b,e,fun j f i u k=>?_⟩;have:=World.ownsRow.cells h (g:=g) rfl (j*sz+i) u (qag1 a f k)
 simpa [Addr.add_lit,Nat.add_assoc]using this
theorem cO.form{w:World}{base:Nat}{v:Value}{l:List α}(h:cO sz ec t w base v l):∃a c,v=.slice a l.length c:=by
 rcases h.2 with⟨rfl,b⟩|⟨g,cap,d,rfl,_⟩
 ·rw[b];exact⟨_,_,rfl⟩
 exact⟨_,_,rfl⟩
theorem cO.a{w w':World}{base:Nat}{v:Value}{l:List α}(h:cO sz ec t w base v l)(hb:ah w w'):cO sz ec t w' base v l:=pI h hb
theorem cO.mono{w:World}{base a:Nat}{v:Value}{l:List α}(h:cO sz ec t w base v l)(hb:a<=base):cO sz ec t w a v l:=by
 refine⟨h.1, ?_⟩;rcases h.2 with h|⟨g,cap,b,e,c,d⟩
 ·exact .inl h
 exact .inr ⟨g,cap,b,e,aG hb c,d⟩
theorem cO.nil(w:World)(base:Nat):cO sz ec t w base (.slice none 0 0) ([]:List α):=Xa7 w base _ _
def bF (t0:TypeId) (w w':World):Prop:=∀(k:Nat) (cs:Array Value) (t:TypeId) (fr:Nat×Nat),t≠t0->w.heap[k]? =some (Obj.cells cs t fr)->w'.heap[k]? =some (Obj.cells cs t fr)
theorem bF.trans{a:TypeId}{w b c:World}(h:bF a w b)(k:bF a b c):bF a w c:=fun j cs t d e f=>k j cs t d e (h j cs t d e f)
theorem bF.below{b:TypeId}{w w':World}(h:ah w w'):bF b w w':=fun j cs t c _ a=>(h.block j (Xd6.1 a).1).trans a
theorem VU{w w':World}{base:Nat}{v:Value}{l:List α}(h:cO sz ec t w base v l)(c:w.grownBy w' v.ownBlock):bF t w w':=by
 intro j cs i k d b;rw[c.block j (Xd6.1 b).1 ?_]
 ·exact b
 intro e;rcases h.2 with⟨rfl,m⟩|⟨g,cap,f,rfl,_,a,_⟩
 ·cases e
 cases e;rw[b]at a;cases a;exact d rfl
section
variable {P:Program} {ts:TypeId} {z:Value} {AU:Nat}
theorem qag3(m:∀x,(ec x).length=sz)(G:0<sz)(b:∀x,∀u∈ec x,u.oneCell'=true)(n:P.underlying ts=some (.slice t))(a:(P.info? t).map (fun i=>(i.zero,i.size,i.bytes))=some (some z,sz,AU))(H:z.cells.size=sz)
  {w:World} {base:Nat} {v:Value} {l:List α} (h:cO sz ec t w base v l) (hb:base<=w.heap.size) (hl:(l.length+1)*AU<=140737488355328) (o:l.length+1<=maxLen) (x:α) (cs:Array Value) (p:cs.toList=ec x):
  ∃g c w',(Builtin.append_ #[ts,ts] ts #[v,.slice (some ⟨w.heap.size,0,none⟩) 1 1]).run P (w.alloc (.cells cs t))=.ok (.slice (some ⟨g,0,none⟩) (l.length+1) c) w'∧
   cO sz ec t w' base (.slice (some ⟨g,0,none⟩) (l.length+1) c) (l++[x])∧Below base w w'∧bF t w w':=by
 obtain⟨f,q⟩:=ak (w.alloc (.cells cs t));have I:∀j u,(ec x)[j]? =some u->f.cell? ((⟨w.heap.size,0,none⟩:Addr).add j)=some u:=by
  intro j u C;have:=World.news_of_block (w:=w.alloc (.cells cs t)) (heap_alloc_new w _) j u (by rw[<-p]at C;simpa using C)
  rw[q];simpa using this
 rw[<-q];have d:ah w f:=by rw[q];exact ae
 obtain⟨J,hi,r,s,y⟩:=info_parts a;have A:f.ownsRow base t sz v l.length (l.flatMap ec):=pI h d;obtain⟨O,D,K,E,F,_⟩:=run_append_own (P:=P) f base ts ts t J z sz AU n hi r s y H G _ _ _ A ⟨w.heap.size,0,none⟩ 1 1 (ec x) (by rw[m];omega) I (b x) o hl (aG hb d.size);have L:Below base w D:=(d.mono hb).grown F (aG hb d.size) fun k M=>(A.lt k M).1
 rcases E.2 with⟨_,B⟩|⟨g,cap,N,B,_⟩
 ·exact absurd B (by omega)
 subst B;refine⟨g,cap,D,K, ?_,L,(bF.below d).trans (VU (l:=l) (ec:=ec) A F)⟩;have e:(l++[x]).flatMap ec=l.flatMap ec++ec x:=by simp
 unfold cO;rw[e,Xa0];exact E
theorem qag4(p:∀x,(ec x).length=sz)(J:0<sz)(q:∀x,∀u∈ec x,u.oneCell'=true)(r:P.underlying ts=some (.slice t))(g:(P.info? t).map (fun i=>(i.zero,i.size,i.bytes))=some (some z,sz,AU))(Q:z.cells.size=sz)
  {w:World} {base:Nat} {v:Value} {l:List α} (h:cO sz ec t w base v l) (hb:base<=w.heap.size) {a:aA} {n c:Nat} {m:List α} (K:oZ sz ec w (.slice a n c) m) (hl:(l.length+m.length)*AU<=140737488355328) (A:l.length+m.length<=maxLen):
  ∃b f w',(Builtin.append_ #[ts,ts] ts #[v,.slice a n c]).run P w=.ok (.slice b (l++m).length f) w'∧cO sz ec t w' base (.slice b (l++m).length f) (l++m)∧Below base w w'∧bF t w w':=by
 obtain rfl:=K.len;obtain⟨L,hi,B,C,D⟩:=info_parts g;have E:w.ownsRow base t sz v l.length (l.flatMap ec):=h;have s:∀y:Addr,a=some y->(∀j u,(m.flatMap ec)[j]? =some u->w.cell? (y.add j)=some u)->∃b f w',(Builtin.append_ #[ts,ts] ts #[v,.slice a m.length c]).run P w=.ok (.slice b (l++m).length f) w'∧cO sz ec t w' base (.slice b (l++m).length f) (l++m)∧Below base w w'∧bF t w w':=by
  rintro y rfl R;obtain⟨S,F,T,M,N,_⟩:=run_append_own (P:=P) w base ts ts t L z sz AU r hi B C D Q J _ _ _ E y m.length c (m.flatMap ec) (Ak p m) R (by
   intro u G;obtain⟨x,_,U⟩:=List.mem_flatMap.1 G;exact q x u U) A hl hb
  have V:Below base w F:=aF.grown N hb fun k H=>(E.lt k H).1
  rw[<-Xa0,<-List.flatMap_append]at M;have O:cO sz ec t F base S (l++m):=M;obtain⟨b,f,rfl⟩:=O.form;exact⟨b,f,F,T,O,V,VU h N⟩
 rcases K with⟨rfl,e|⟨x,d,e⟩⟩|⟨b,W,f,e,Z,X,o⟩
 ·cases e
  obtain⟨b,f,rfl⟩:=h.form;refine⟨b,f,w, ?_,by simpa using h,aF,bF.below aF⟩;rw[Xc8];exact run_append_owned_none (P:=P) (w:=w) base ts ts t L sz r hi _ _ _ E
 ·cases e
  exact s _ rfl (fun j u I=>by simp at I)
 cases e;refine s _ rfl fun k u H=>?_
 obtain⟨j,I,i,Y,e,G⟩:=qag2 p J H;have:=o j I i u G
 rw[Addr.add_lit,e,<-Nat.add_assoc];exact this
end
end
end Go.Proofs.YtmeaiocohalphaaGreatDoor
