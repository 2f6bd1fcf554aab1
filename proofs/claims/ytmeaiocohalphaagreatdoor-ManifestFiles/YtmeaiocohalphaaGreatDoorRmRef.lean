/-
  What the document's own Check, Blocks, Free and Take do.
-/
import Derived.Test.YtmeaiocohalphaaGreatDoorSLat
import Derived.Test.YtmeaiocohalphaaGreatDoorFiCut5
set_option maxHeartbeats 1000000
set_option maxRecDepth 100000
namespace Go.Proofs.YtmeaiocohalphaaGreatDoor
open Go.RowKit
set_option linter.all false
variable {w w':World}{f:aR}{base j k p:Nat}{v:Value}{t:TypeId}{l:List Ex}
structure aU where
 a1:aA
 n1:Nat
 c1:Nat
 a2:aA
 n2:Nat
 c2:Nat
 a3:aA
 n3:Nat
 c3:Nat
 g:Nat
 a4:aA
 n4:Nat
 c4:Nat
 a5:aA
 n5:Nat
 c5:Nat
abbrev aU.dv (x:aU):Value:=.agg #[.slice x.a1 x.n1 x.c1,.slice x.a2 x.n2 x.c2,.slice x.a3 x.n3 x.c3]
abbrev aU.val (x:aU):Value:=.agg #[.slice x.a1 x.n1 x.c1,.slice x.a2 x.n2 x.c2,.slice x.a3 x.n3 x.c3,.int .u32 x.g,.slice x.a4 x.n4 x.c4,.slice x.a5 x.n5 x.c5]
abbrev aU.cs (x:aU):Array Value:=#[.slice x.a1 x.n1 x.c1,.slice x.a2 x.n2 x.c2,.slice x.a3 x.n3 x.c3,.int .u32 x.g,.slice x.a4 x.n4 x.c4,.slice x.a5 x.n5 x.c5]
structure iJ (w:World) (x:aU) (f:aR):Prop where
 d:kN w x.dv f.1
 n1:x.n1=f.1.1.length
 n2:x.n2=f.1.2.1.length
 g:x.g=f.2.1
 fl:fQ w (.slice x.a4 x.n4 x.c4) f.2.2.1
 n4:x.n4=f.2.2.1.length
 kl:fQ w (.slice x.a5 x.n5 x.c5) f.2.2.2
 n5:x.n5=f.2.2.2.length
theorem iJ.a{x:aU}(h:iJ w x f)(hb:ah w w'):iJ w' x f:=⟨h.d.a hb,h.n1,h.n2,h.g,h.fl.a hb,h.n4,h.kl.a hb,h.n5⟩
structure jq (f:aR):Prop where
 g:f.2.1<4294967296
 fl:gL f.2.2.1
 kl:gL f.2.2.2
theorem kN.mk3{f:aA}{a d1:Nat}{g:aA}{b d2:Nat}{i:aA}{d:Dk}(h:kN w (.agg #[.slice f a d1,.slice g b d2,.slice i j k]) d):a=d.1.length∧b=d.2.1.length:=by
 obtain⟨a1,c1,a2,c2,a3,c3,e,_⟩:=h.form;injection e with e;have e1:=congrArg (fun (z:Array Value)=>z[0]!) e;have c:=congrArg (fun (z:Array Value)=>z[1]!) e;simp at e1 c
 exact⟨e1.2.1,c.2.1⟩
def FI (w:World) (v:Value) (f:aR):Prop:=∃d1 d2 d3 x y,v=.agg #[d1,d2,d3,.int .u32 f.2.1,x,y]∧kN w (.agg #[d1,d2,d3]) f.1∧fQ w x f.2.2.1∧fQ w y f.2.2.2
theorem FI.form(h:FI w v f):∃x:aU,v=x.val∧iJ w x f:=by
 obtain⟨d1,d2,i,y,z,rfl,a,b,c⟩:=h;obtain⟨a1,c1,a2,c2,a3,c3,e,_⟩:=a.form;have e1:d1=_:=congrArg (fun v:Value=>match v with| .agg z=>z[0]!|_=>undef) e;have d:d2=_:=congrArg (fun v:Value=>match v with| .agg z=>z[1]!|_=>undef) e;have g:i=_:=congrArg (fun v:Value=>match v with| .agg z=>z[2]!|_=>undef) e;simp at e1 d g
 subst e1 d g;obtain⟨a4,c4,rfl⟩:=b.form;obtain⟨j,k,rfl⟩:=c.form;exact⟨⟨a1,_,c1,a2,_,c2,a3,_,c3,f.2.1,a4,_,c4,j,_,k⟩,rfl,a,rfl,rfl,rfl,b,rfl,c,rfl⟩
def bH (w:World) (base:Nat) (v:Value) (f:aR):Prop:=∃d1 d2 d3 x y,v=.agg #[d1,d2,d3,.int .u32 f.2.1,x,y]∧kP w base (.agg #[d1,d2,d3]) f.1∧bi w base x f.2.2.1∧bi w base y f.2.2.2
theorem bH.rd(h:bH w base v f):FI w v f:=by
 obtain⟨d1,d2,a,x,y,rfl,b,c,d⟩:=h;exact⟨d1,d2,a,x,y,rfl,b.rd,c.rd,d.rd⟩
theorem bH.a(h:bH w base v f)(hb:ah w w'):bH w' base v f:=by
 obtain⟨d1,d2,a,x,y,rfl,b,c,d⟩:=h;exact⟨d1,d2,a,x,y,rfl,b.a hb,c.a hb,d.a hb⟩
theorem bH.mono{a:Nat}(h:bH w base v f)(hb:a<=base):bH w a v f:=by
 obtain⟨d1,d2,b,x,y,rfl,c,d,e⟩:=h;exact⟨d1,d2,b,x,y,rfl,c.mono hb,d.mono hb,e.mono hb⟩
/-! ### variables -/
def Bq (w:World) (p:Nat) (t:TypeId) (cs:Array Value):Prop:=w.heap[p]? =some (.cells cs t (0,0))
theorem Bq.lt{cs:Array Value}(h:Bq w p t cs):p<w.heap.size:=(Xd6.1 h).1
theorem Bq.a{cs:Array Value}(h:Bq w p t cs)(hb:ah w w'):Bq w' p t cs:=(hb.block _ h.lt).trans h
theorem Bq.below{B:Nat}{cs:Array Value}(h:Bq w p t cs)(a:p<B)(hb:Below B w w'):Bq w' p t cs:=(hb.block _ a).trans h
theorem Bq.grown{q:Nat}{cs:Array Value}(h:Bq w p t cs)(hb:w.grownBy w' (some q))(a:p≠q):Bq w' p t cs:=(hb.block _ h.lt (by intro e;cases e;exact a rfl)).trans h
theorem Bq.cell{cs:Array Value}(h:Bq w p t cs)(j:Nat):w.cell? ⟨p,j,none⟩=cs[j]?:=cell_of_row w p j cs t (0,0) h
theorem Bq.fz{cs:Array Value}(h:Bq w p t cs)(j:Nat):w.frozen? ⟨p,j,none⟩=false:=frozen_of_row w p j _ _ h
theorem Bq.new(w:World)(t:TypeId)(cs:Array Value):Bq (w.alloc (.cells cs t)) w.heap.size t cs:=heap_alloc_new w _
theorem Bq.put{cs:Array Value}(h:Bq w p t cs)(j:Nat)(v:Value):Bq (w.setCell ⟨p,j,none⟩ v) p t (cs.setIfInBounds j v):=heap_setCell_same w p j cs t v h
abbrev bB (w:World) (p:Nat) (x:aU):Prop:=Bq w p 33 x.cs
theorem bq{x:aU}(h:bB w p x):w.cell? ⟨p,0,none⟩=some (.slice x.a1 x.n1 x.c1)∧w.cell? ⟨p,1,none⟩=some (.slice x.a2 x.n2 x.c2)∧w.cell? ⟨p,2,none⟩=some (.slice x.a3 x.n3 x.c3)∧w.cell? ⟨p,3,none⟩=some (.int .u32 x.g)∧w.cell? ⟨p,4,none⟩=some (.slice x.a4 x.n4 x.c4)∧w.cell? ⟨p,5,none⟩=some (.slice x.a5 x.n5 x.c5):=
 ⟨h.cell 0,h.cell 1,h.cell 2,h.cell 3,h.cell 4,h.cell 5⟩
theorem R8(x:aU)(f:aR)(w:World)(h:iJ w x f):
  Calls Tryz.prog 165 #[x.val] w fun e w'=>e=.returned (.int .i64 (fP f))∧ah w w':=by
 obtain⟨g,c⟩:=au (w.alloc (.cells x.cs 33));have a:ah w g:=by rw[<-c];exact ae
 have j:=ag (show bB g w.heap.size x by rw[<-c];exact Bq.new _ _ _);obtain⟨k,l,m,n,p,q⟩:=bq j.o;have r:=ag h;have i:=ag a;clear h a;unfold aU.val;unfold aU.cs at c;go_enter Tryz.func165,Tryz.ntmps165;go_wp2_with fail
 refine(qwk (d:=f.1) g (r.o.d.a i.o)).mono ?_
 rintro e t⟨rfl,b⟩;have s:=bT i b;clear k l m n p q c b;go_wp2;go_ret;exact⟨rfl,s.o⟩
theorem oK(fs:List Fl):(nE fs).length<=4096:=by
 unfold nE;by_cases h:bf fs 4096=0
 ·rw[if_pos h]
  have a:=(Ay h).2.2.2.1.1;exact(TG a).1
 rw[if_neg h];simp
theorem qxa(fs:List Fl):∀x∈nE fs,jg x:=by
 unfold nE;by_cases h:bf fs 4096=0
 ·rw[if_pos h]
  intro x a;have b:=(Ay h).2.2.2.1.1;have:=(TG b).2 x a
  unfold jg;omega
 rw[if_neg h];simp
theorem qsk(f:aR):∀x∈fJ f,jg x:=by
 intro x a;rcases Xa5.1 a with h|h
 ·exact qxa _ x h
 exact qxa _ x h
theorem qako(x:aU)(f:aR)(w:World)(h:iJ w x f)(z:jq f):
  Calls Tryz.prog 177 #[x.val] w fun e w'=>∃v,e=.returned v∧bA w' w.heap.size v (fJ f)∧ah w w':=by
 obtain⟨A,r⟩:=au (w.alloc (.cells x.cs 33));have l:ah w A:=by rw[<-r];exact ae
 have O:=ag (show bB A w.heap.size x by rw[<-r];exact Bq.new _ _ _);obtain⟨B,C,D,E,F,G⟩:=bq O.o;have s:=ag h;have H:=ag l;clear h l;unfold aU.val;unfold aU.cs at r;go_enter Tryz.func177,Tryz.ntmps177;go_wp2_with fail
 refine(qw4 _ _ _ f.2.2.1 A (s.o.fl.a H.o) s.o.n4 z.fl).mono ?_
 rintro e S⟨T,rfl,d,g⟩;have U:=ag (O.o.a g);have I:=bT H g;obtain⟨t,i⟩:=ak ((nE f.2.2.1).length);obtain⟨J,K,V⟩:∃a c,T=.slice a t c:=by rw[i];exact d.form
 subst V;have P:=ag (d.mono H.o.size);have W:=ag i;clear B C D E F G r g d i;obtain⟨B,C,D,E,F,G⟩:=bq U.o;go_wp2_with fail
 refine(qw4 _ _ _ f.2.2.2 S (s.o.kl.a I.o) s.o.n5 z.kl).mono ?_
 rintro e m⟨X,rfl,j,k⟩;have Q:=bT I k;obtain⟨u,L⟩:=ak ((nE f.2.2.2).length);obtain⟨M,N,Y⟩:∃a c,X=.slice a u c:=by rw[L];exact j.form
 subst Y;have Z:=ag (j.mono I.o.size);have n:=ag (P.o.a k);have Ck:=ag L;clear B C D E F G k j L P z;have b:ah m (m.alloc (.cells #[.slice J t K,.slice M u N] 96)):=ae;have p:=qod m.heap.size J t K M u N (nE f.2.2.1) (nE f.2.2.2) (m.alloc (.cells #[.slice J t K,.slice M u N] 96)) (heap_alloc_new m _) (n.o.rd.a b) W.o (Z.o.rd.a b) Ck.o (by have:=oK f.2.2.1;have:=oK f.2.2.2;omega);have y:=ag b;clear b;go_wp2_with fail
 refine p.mono ?_
 rintro e w4⟨v4,rfl,R,q⟩;have b:=y.o.trans (q.mono (y.o.size));have fG:=bT Q b;have kV:=ag (R.mono (aG Q.o.size y.o.size));clear p b y q R;go_wp2;go_ret;exact⟨_,rfl,kV.o,fG.o⟩
theorem Ur(l:List Pu)(k:Nat)(a:k<l.length):(l.take (k+1)).any (fun p=>decide (p.1<34))=((l.take k).any (fun p=>decide (p.1<34)) ||decide ((l[k]).1<34)):=by
 rw[Xa2 a,List.any_append];simp
theorem qm1(N:Int)(u:Value)(w:World)(b:u.oneCell'=true):
  Calls Tryz.prog 171 #[.agg #[.int .i64 N,u]] w fun e w'=>e=.returned (.bool (decide (N<34)))∧ah w w':=by
 have a:∀o,ah w (w.alloc o):=fun o=>ae
 go_enter Tryz.func171,Tryz.ntmps171;go_wp2;go_ret;exact⟨rfl,a _⟩
theorem qsl(a:aA)(n c:Nat)(l:List Pu)(w:World)(h:ru w (.slice a n c) l)(s:n=l.length):
  Calls Tryz.prog 152 #[.slice a n c,.func (.func 171) #[] #[]] w fun e w'=>∃i:Int,e=.returned (.int .i64 i)∧decide (0<=i)=l.any (fun p=>decide (p.1<34))∧ah w w':=by
 have A:n<=maxLen:=s▸h.len_le;unfold maxLen at A;have B:=ag h;have v:=ag s;clear h s;go_enter Tryz.func152,Tryz.ntmps152;go_wp2;go_loopw [8] (fun i wr=>∃k:Nat,k<=n∧i=.int .i64 k∧af ((l.take k).any (fun p=>decide (p.1<34))=false)∧ah w wr) (fun i _=>n-(intOf i).toNat)
 case atStart=>exact⟨0,Xd5 _,rfl,ag (by simp),aF⟩
 obtain⟨k,I,rfl,f,d⟩:=hrel;by_cases C:k<n
 ·have x:(k:Int)<n:=by omega
  have j:k<l.length:=by have:=v.o;omega
  obtain⟨b,D,rfl,y,J,K,L,E,F,G⟩:=(B.o.a d).at k j;obtain⟨N,t⟩:=ak ((l[k]).1);rw[<-t]at y;have z:=ag t;clear F G t;go_wp2_with fail
  refine(qm1 N _ _ rfl).mono ?_
  rintro e H⟨rfl,q⟩;have g:ah w H:=d.trans (q.mono d.size);clear q y E;by_cases m:N<34
  ·have r:=ag (show l.any (fun p=>decide (p.1<34))=true by
    rw[List.any_eq_true];exact⟨l[k],Xa3 j,by rw[<-z.o];simpa using m⟩)
   have u:decide (N<34)=true:=by simpa using m
   clear m;go_wp2;go_ret;exact⟨_,rfl,by rw[r.o];simp,g⟩
  have r:=ag (show(l.take (k+1)).any (fun p=>decide (p.1<34))=false by
   rw[Ur l k j,f.o,<-z.o];simpa using m)
  have u:decide (N<34)=false:=by simpa using m
  clear m;go_wp2;go_roundw
  case rel=>exact⟨k+1,by omega,rfl,r,g⟩
  simp only[intOf];omega
 have M:decide ((k:Int)<n)=false:=aC (by omega);have r:=ag (show l.any (fun p=>decide (p.1<34))=false by
  have:=f.o
  rwa [Xa1 (by have:=v.o;omega)]at this)
 go_wp2;go_ret;exact⟨_,rfl,by rw[r.o];rfl,d⟩
theorem ql5(a:aA)(n c:Nat)(l:List Pu)(w:World)(b:ru w (.slice a n c) l)(g:n=l.length):
  Calls Tryz.prog 77 #[.slice a n c,.func (.func 171) #[] #[]] w fun e w'=>e=.returned (.bool (l.any (fun p=>decide (p.1<34))))∧ah w w':=by
 have d:=qsl a n c l w b g;clear b g;go_enter Tryz.func77,Tryz.ntmps77;go_wp2_with fail
 refine d.mono ?_
 rintro e j⟨i,rfl,hi,f⟩;have h:=ag hi;clear hi;go_wp2;go_ret;exact⟨by rw[<-h.o];rfl,f⟩
theorem qage(c:k<l.length)(d:j<k)(hl:l.length<=4096)(h:pG l[k] (l[j]'(by omega))=true):dY l=8:=by
 by_cases b:dE l=0
 ·refine qm6 (k:=k+1) c b ?_
  rw[qw l k c,PS,Bool.and_eq_false_iff];right
  rw[List.all_eq_false];refine⟨l[j]'(by omega), ?_,by rw[h];simp⟩;rw[List.mem_take_iff_getElem];exact⟨j,by omega,rfl⟩
 rw[ZC b]
 rcases qm3 l with⟨_,a⟩|⟨a,_⟩|⟨a,_⟩
 ·omega
 ·exact a
 exact absurd a b
theorem qakp(a:k<l.length)(hl:l.length<=4096)(h:eP l[k]=false):dY l=8:=by
 have:=qoz a hl h
 rw[ZC (by rw[this];decide),this]
theorem qagf(h:4096<l.length):dY l=4:=by
 have:dE l=4:=by unfold dE;rw[if_pos h]
 rw[ZC (by rw[this];decide),this]
theorem qog(a:aA)(n c:Nat)(l:List Ex)(w:World)(p:iB w (.slice a n c) l)(F:n=l.length)(v:∀x∈l,jg x):
  Calls Tryz.prog 240 #[.slice a n c] w fun e w'=>e=.returned (.int .i64 (dY l))∧ah w w':=by
 have P:n<=maxLen:=F▸p.len_le;unfold maxLen at P;have G:=ag p;have z:=ag F;have V:=ag v;clear p F v;by_cases g1:n > 4096
 ·have q:=ag (qagf (l:=l) (by have:=z.o;omega))
  have H:(4096:Int)<n:=by omega
  go_enter Tryz.func240,Tryz.ntmps240;go_wp2;go_ret;exact⟨by rw[q.o];rfl,aF⟩
 have H:decide ((4096:Int)<n)=false:=aC (by omega);clear P;go_enter Tryz.func240,Tryz.ntmps240;go_wp2;go_loopw [3] (fun i wr=>∃k:Nat,k<=n∧i=.int .i64 k∧af (∀x∈l.take k,eP x=true)∧af (mf (l.take k)=true)∧ah w wr) (fun i _=>n-(intOf i).toNat)
 case atStart=>exact⟨0,Xd5 _,rfl,ag (by simp),ag (by simp[mf]),aF⟩
 obtain⟨k,hk,rfl,m,A,d⟩:=hrel;by_cases W:k<n
 ·have Q:(k:Int)<n:=by omega
  have f:k<l.length:=by have:=z.o;omega
  have X:wrap64 ((k:Int)+1)=(k:Int)+1:=wQ (by omega);obtain⟨b,g,e,I,J⟩:=(G.o.a d).at k f;subst e;go_wp2_with fail
  refine(qwn (l[k]) (V.o _ (Xa3 f)) _).mono ?_
  rintro e wc⟨rfl,B⟩;have R:ah w wc:=d.trans (B.mono d.size);clear B;cases hp:eP l[k]with
  |false=>
   have q:=ag (qakp f (by have:=z.o;omega) hp);clear hp;go_wp2;go_ret;exact⟨by rw[q.o];rfl,R⟩
  |true=>
   have Y:=ag hp;have T:=ag (show ∀x∈l.take (k+1),eP x=true by
    intro x s;rw[qw l k f]at s;rcases Xa5.1 s with s|s
    ·exact m.o x s
    rw[Xb3.1 s];exact hp)
   clear hp I J d;go_wp2;go_loopw [4] (fun i wr=>∃j:Nat,j<=k∧i=.int .i64 j∧af (∀y∈l.take j,pG l[k] y=false)∧ah w wr) (fun i _=>k-(intOf i).toNat)
   case atStart=>exact⟨0,Xd5 _,rfl,ag (by simp),R⟩
   obtain⟨j,hj,rfl,C,d⟩:=hrel;by_cases K:j<k
   ·have U:(j:Int)<k:=by omega
    have D:j<l.length:=by omega
    have Z:j<n:=by omega
    have aa:wrap64 ((j:Int)+1)=(j:Int)+1:=wQ (by omega);obtain⟨b,g,e,I,J⟩:=(G.o.a d).at k f;cases e;obtain⟨b,g,e,q2,q3⟩:=(G.o.a d).at j D;cases e;have L:=ag (T.o (l[j]) (by rw[List.mem_take_iff_getElem];exact⟨j,by omega,rfl⟩));obtain⟨S,M⟩:∃S:World->Prop,S=fun t=>(t.cell? ⟨b,g+k*2,none⟩=some (.int .i64 (l[k]).1)∧t.cell? ⟨b,g+k*2+1,none⟩=some (.int .i64 (l[k]).2))∧(t.cell? ⟨b,g+j*2,none⟩=some (.int .i64 (l[j]).1)∧t.cell? ⟨b,g+j*2+1,none⟩=some (.int .i64 (l[j]).2))∧ah wr t:=⟨_,rfl⟩
    have N:aN S:=by rw[M];exact((aV _ _).and (aV _ _)).and (((aV _ _).and (aV _ _)).and (pQ wr))
    have E:S wr:=by rw[M];exact⟨⟨I,J⟩,⟨q2,q3⟩,aF⟩
    go_wp2;rw[M]at N E;refine iH N (by kernel_rfl) E ?_
    intro u;refine rP [0,1,2,3,4,5,6,7] 1 ?KT ?xX u ?KU
    case xX=>
     iterate 8 (apply Yl.cons rfl rfl;focus (rintro t⟨⟨x1,x2⟩,⟨x3,x4⟩,x5⟩;go_simp<;>rfl);try simp only[aB])
     exact Yl.nil
    refine rV N 8 (.bool (pG l[k] l[j])) rfl u (qabj (l[k]) (l[j]) Y.o L.o _) ?_
    clear u;intro ab u;try simp only[aB]
    refine rD ?_
    cases hmt:pG l[k] l[j]with
    |true=>
     have q:=ag (qage f K (by have:=z.o;omega) hmt);have r:=d.trans (u.2.2.mono d.size);clear hmt;go_wp2;go_ret;exact⟨by rw[q.o];rfl,r⟩
    |false=>
     have H6:=ag (show ∀y∈l.take (j+1),pG l[k] y=false by
      intro y h;rw[qw l j D]at h;rcases Xa5.1 h with h|h
      ·exact C.o y h
      rw[Xb3.1 h];exact hmt)
     have r:=d.trans (u.2.2.mono d.size);clear hmt;go_wp2;go_roundw
     case rel=>exact⟨j+1,by omega,rfl,H6,r⟩
     simp only[intOf];omega
   have hd:decide ((j:Int)<k)=false:=aC (by omega);have O:=ag (show mf (l.take (k+1))=true by
    rw[qw l k f,PS,A.o,Bool.true_and,Xc5];intro y h;rw[show k=j by omega]at h;rw[C.o y h];rfl)
   go_wp2;go_roundw
   case rel=>exact⟨k+1,by omega,rfl,T,O,d⟩
   simp only[intOf];omega
 have hd:decide ((k:Int)<n)=false:=aC (by omega);have e:k=l.length:=by have:=z.o;omega
 have q:=ag (show dY l=0 from ZE (qk2 (by omega) (by rw[<-e];exact m.o)) (by have:=A.o;rwa [e,Xb5]at this));clear e;go_wp2;go_ret;exact⟨by rw[q.o];rfl,d⟩
theorem quz(a:aA)(n c:Nat)(l:List Ex)(w:World)(g:iB w (.slice a n c) l)(A:n=l.length)(t:∀x∈l,jg x):
  Calls Tryz.prog 198 #[.slice a n c] w fun e w'=>∃v,e=.returned (.tuple #[v,.int .i64 (dY l)])∧lZ w' w.heap.size v (wS l)∧ah w w':=by
 have G:=ag g;have B:=ag A;have T:=ag (qog a n c l w g A t);clear g A t;go_enter Tryz.func198,Tryz.ntmps198;go_wp2_with fail
 refine T.o.mono ?_
 rintro e wa⟨rfl,H⟩;by_cases h:dY l=0
 ·have C:=ag (PT h).1
  have D:=ag (show wS l=iy l by unfold wS;rw[if_pos h]);rw[h];have U:=ag h;have qN:n<=4096:=by have:=(wL C.o).1;have:=B.o;omega
  clear h;go_wp2;go_loopw [5,6] (fun s i wr=>∃k:Nat,k<=n∧i=.int .i64 k∧af (lZ wr w.heap.size s (iy (l.take k)))∧ah w wr) (fun _ i _=>n-(intOf i).toNat)
  case atStart=>exact⟨0,Xd5 _,rfl,ag (lZ.nil _ _),H⟩
  obtain⟨k,hk,rfl,I,d⟩:=hrel;by_cases V:k<n
  ·have J:(k:Int)<n:=by omega
   have f:k<l.length:=by have:=B.o;omega
   have W:wrap64 ((k:Int)+1)=(k:Int)+1:=wQ (by omega);obtain⟨b,Y,e,Z,q1⟩:=(G.o.a d).at k f;subst e;have K:=ag (fun wx (hb:ah w wx)=>(G.o.a hb).at k f);have y:=ag (show iy (l.take (k+1))=iy (l.take k)++gZ l[k] (l[k]).2.toNat by rw[qw l k f,qjt]);have hx:=(wL C.o).2 _ (Xa3 f);have L:=ag (fun m hm=>qnx (m:=m) C.o f hm);generalize hX:l[k]=X at *;obtain⟨P,R⟩:=X;simp only at hx y Z q1 L K
   obtain⟨r,rfl⟩:∃r:Nat,R=r:=⟨R.toNat,by omega⟩
   have aa:wrap64 (P+(r:Int))=P+(r:Int):=by unfold wrap64;omega
   have ab:IntKind.i64.wrap (P+(r:Int))=P+(r:Int):=by rw[IntKind.wrap_i64];omega
   clear hX;go_wp2;go_loopw [5,7] (fun s i wr=>∃j:Nat,j<=r∧i=.int .i64 (P+(j:Int))∧af (lZ wr w.heap.size s (iy (l.take k)++gZ (P,(r:Int)) j))∧ah w wr) (fun _ i _=>(P+r-intOf i).toNat)
   case atStart=>exact⟨0,Xd5 _,by simp,ag (by simpa [gZ]using I.o),d⟩
   obtain⟨j,hj,rfl,p,z⟩:=hrel;obtain⟨b',M,e,p0,p1⟩:=K.o wr z;cases e;by_cases ac:j<r
   ·have N:P+(j:Int)<P+(r:Int):=by omega
    have O:=L.o j (by omega);have tq:=ag (fun nq:Nat=>Su (w:=wr.drewN nq) p.o z.size (by omega) (P+j));have ad:wrap64 (P+(j:Int)+1)=P+(j:Int)+1:=by unfold wrap64;omega
    go_wp2;go_quiet (fail)
    obtain⟨g9,c9,Q,u,S,q, -⟩:=tq.o nq;have F:=ag (show lZ Q w.heap.size (.slice (some ⟨g9,0,none⟩) ((iy (l.take k)++gZ (P,(r:Int)) j).length+1) c9) (iy (l.take k)++gZ (P,(r:Int)) (j+1))by
     rw[qq4,<-Xa8];exact S)
    have bI:ah w Q:=z.trans ⟨q.os,q.tape,q.output,q.size,q.block⟩;clear S q;go_wp2_with (at_builtin;refine kS rfl (.tmp 39) (.tmp 41) 93 rfl rfl rfl rfl u ?_)
    go_roundw
    case rel=>exact⟨j+1,by omega,congrArg (Value.int .i64) (by omega),by rw[<-Xa0];exact F,bI⟩
    simp only[intOf];omega
   have hd:decide (P+(j:Int)<P+(r:Int))=false:=aC (by omega);have ai:decide ((j:Int)<(r:Int))=false:=aC (by omega);have F:=ag (show lZ wr w.heap.size _ (iy (l.take (k+1)))by
    rw[y.o,Int.toNat_natCast];have e:j=r:=by omega
    rw[<-e];rw[<-e]at p;exact p.o)
   go_wp2;go_quiet (fail)
   go_wp2;go_roundw
   case rel=>exact⟨k+1,by omega,rfl,F,below_drewN z _⟩
   simp only[intOf];omega
  have hd:decide ((k:Int)<n)=false:=aC (by omega);have y:=ag (show iy (l.take k)=wS l by rw[D.o,Xa1 (by have:=B.o;omega)]);go_wp2;go_ret2;exact⟨_,by rw[U.o];rfl,by rw[<-y.o];exact I.o,d⟩
 have D:=ag (show wS l=[]by unfold wS;rw[if_neg h]);generalize hE:dY l=E at *;have aj:(E==0)=false:=Xe2 h;go_wp2;go_ret2;exact⟨_,by rw[hE];rfl,by rw[D.o];exact lZ.nil _ _,H⟩
end Go.Proofs.YtmeaiocohalphaaGreatDoor
