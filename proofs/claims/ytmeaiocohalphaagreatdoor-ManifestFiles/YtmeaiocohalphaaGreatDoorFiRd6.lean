/-
  Of the document's side of layer 5: Read: what its steps do to memory.
-/
import Derived.Test.YtmeaiocohalphaaGreatDoorVn9
set_option maxHeartbeats 4000000
set_option maxRecDepth 100000
namespace Go.Proofs.YtmeaiocohalphaaGreatDoor
open Go.RowKit
set_option linter.all false
set_option synthInstance.maxHeartbeats 400000
set_option synthInstance.maxSize 4000
variable {w w' w0:World}{b l:az}{F base c d f j k m n q:Nat}{e g p v x y:Value}{bad:Bool}{s:ByteArray}{t:TypeId}{B:Int}{i:List Fl}{es:List Ex}
theorem qzo(a:aA)(n c:Nat)(l:List dn)(w:World)(d:pg w (.slice a n c) l):
  Calls Tryz.prog 52 #[.slice a n c] w fun e w'=>∃b,e=.returned (.bool b)∧af (b=false->n<=100)∧ah w w':=by
 have r:=ag d.len;have s:=ag d;clear d;by_cases t:100<n
 ·have g:(100:Int)<n:=by omega
  go_enter Tryz.func52,Tryz.ntmps52;go_wp2;go_ret;exact⟨true,rfl,ag (fun q=>by cases q),aF⟩
 have g:decide ((100:Int)<n)=false:=aC (by omega);have u:=ag (show n<=100 by omega);have h:n<=100:=by omega
 go_enter Tryz.func52,Tryz.ntmps52;go_wp2;clear t g;go_loopw [3] (fun i wr=>∃k:Nat,k<=n∧i=.int .i64 k∧af (ah w wr)) (fun i _=>n-(intOf i).toNat)
 case atStart=>exact⟨0,Xd5 _,rfl,ag aF⟩
 obtain⟨k,K,rfl,f⟩:=hrel;by_cases v:k<n
 ·have m:(k:Int)<n:=by omega
  have j:k<l.length:=by have:=r.o;omega
  obtain⟨b,y,rfl,z,A,B,C,D⟩:=pg.cells s.o f.o k j;obtain⟨x,p⟩:=ak (l[k]);rw[<-p]at z A B C D;clear p;have L:=rf x.1;have M:=rf (gG x);have N:=rf (gH x);by_cases E:1000<x.1.length
  ·have F:(1000:Int)<x.1.length:=by omega
   go_wp2;go_ret;exact⟨true,rfl,ag (fun q=>by cases q),f.o⟩
  have F:decide ((1000:Int)<x.1.length)=false:=aC (by omega);clear E;by_cases G:1000<(gG x).length
  ·have H:(1000:Int)<(gG x).length:=by omega
   go_wp2;go_ret;exact⟨true,rfl,ag (fun q=>by cases q),f.o⟩
  have H:decide ((1000:Int)<(gG x).length)=false:=aC (by omega);clear G;by_cases I:1000<(gH x).length
  ·have J:(1000:Int)<(gH x).length:=by omega
   go_wp2;go_ret;exact⟨true,rfl,ag (fun q=>by cases q),f.o⟩
  have J:decide ((1000:Int)<(gH x).length)=false:=aC (by omega);clear I;go_wp2;go_roundw
  case rel=>exact⟨k+1,by omega,by go_num,f⟩
  simp only[intOf];omega
 have O:decide ((k:Int)<n)=false:=aC (by omega);go_wp2;go_ret;exact⟨false,rfl,ag (fun _=>u.o),f.o⟩
theorem qad7(a:aA)(n c:Nat)(R:dL)(nx sq:Int)(lg:az)(w:World)(g:gM w (.slice a n c) R):
  Calls Tryz.prog 19 #[.agg #[.slice a n c,.int .i64 nx,.int .i64 sq,.string (bs lg)]] w fun e w'=>∃b,e=.returned (.bool b)∧af (b=false->n<=20∧(aT R).flatten.length<=2000)∧ah w w':=by
 have E:=ag g.len;have J:=ag g;clear g;obtain⟨F,d⟩:=ak (w.alloc (.cells #[.slice a n c,.int .i64 nx,.int .i64 sq,.string (bs lg)] 36));have f:=ag (show ah w F by rw[d];exact ae);have v:=ag (show aQ F w.heap.size (.slice a n c) nx sq lg by rw[d];exact aQ.new w _ nx sq lg);obtain⟨x,y,z,A⟩:=v.o.cells;have X:=rf lg;by_cases t:20<n
 ·have j:(20:Int)<n:=by omega
  go_enter Tryz.func19,Tryz.ntmps19;go_wp2_with fail
  rw[<-d];clear d;go_wp2;go_ret;exact⟨true,rfl,ag (fun q=>by cases q),f.o⟩
 have j:decide ((20:Int)<n)=false:=aC (by omega);by_cases B:1000<lg.length
 ·have l:(1000:Int)<lg.length:=by omega
  clear t;go_enter Tryz.func19,Tryz.ntmps19;go_wp2_with fail
  rw[<-d];clear d;go_wp2;go_ret;exact⟨true,rfl,ag (fun q=>by cases q),f.o⟩
 have l:decide ((1000:Int)<lg.length)=false:=aC (by omega);have K:=ag (show n<=20 by omega);have Y:n<=20:=by omega
 clear B;go_enter Tryz.func19,Tryz.ntmps19;go_wp2_with fail
 rw[<-d];clear d;go_wp2_with fail
 clear t j l x y z A;go_loopw [3] (fun i wr=>∃k:Nat,k<=n∧i=.int .i64 k∧af (jI R k<=k*100)∧af (aQ wr w.heap.size (.slice a n c) nx sq lg)∧af (ah w wr)) (fun i _=>n-(intOf i).toNat)
 case atStart=>exact⟨0,Xd5 _,rfl,ag (by rw[MU];omega),v,f⟩
 obtain⟨k,Z,rfl,u,C,h⟩:=hrel;clear f v;obtain⟨x,y,z,A⟩:=C.o.cells;by_cases L:k<n
 ·have G:(k:Int)<n:=by omega
  have m:k<R.length:=by have:=E.o;omega
  obtain⟨b,M,N,nx',O,rfl,P,H,p⟩:=J.o.cells h.o k m;have Q:=ag (Ar R k m);have I:=qzo N nx' O _ wr (H.a h.o);have S:=ag p;clear H p;go_wp2_with fail
  refine I.mono ?_
  rintro e w2⟨T,rfl,r,D⟩;have U:=ag (C.o.a D);have s:=ag (h.o.trans (D.mono h.o.size));clear I D x y z A P C h;cases T with
  |true=>
   go_wp2;go_ret;exact⟨true,rfl,ag (fun q=>by cases q),s.o⟩
  |false=>
   have V:=ag (show jI R (k+1)<=(k+1)*100 by have t:=r.o rfl;have B:=S.o;have h3:=Q.o;have h4:=u.o;omega);clear r u;go_wp2;go_roundw
   case rel=>exact⟨k+1,by omega,by go_num,V,U,s⟩
   simp only[intOf];omega
 have hd:decide ((k:Int)<n)=false:=aC (by omega);have W:=ag (show(aT R).flatten.length<=2000 by
  rw[<-qxy R];have t:=u.o;have B:=E.o;have:k=R.length:=by omega
  rw[<-this];omega)
 clear u;go_wp2;go_ret;exact⟨false,rfl,ag (fun _=>⟨K.o,W.o⟩),h.o⟩
theorem vP{a b:World}(h:af (ah w a))(k:ah a b):af (ah w b):=ag (h.o.trans (k.mono h.o.size))
theorem vL.any9{L:List (List dn)}{nx sq:Int}{lg:az}{k:Int}{e:Ending}(h:vL base (L,nx,sq,lg) k e w'):∃a n c S,e=.returned (.tuple #[.agg #[.slice a n c,.int .i64 nx,.int .i64 sq,.string (bs lg)],.int .i64 k])∧dM w' base (.slice a n c) S∧aT S=L∧n=L.length:=by
 obtain⟨v,S,rfl,b,d⟩:=h;obtain⟨a,c,rfl⟩:=cO.form b.1;exact⟨a,_,c,S,rfl,b,d,by rw[<-jM,d]⟩
theorem qzp(x:aU)(f:aR)(w:World)(h:iJ w x f)(B:(∀g∈f.2.2.1,g.2.length<=1000000000000000)∧∀g∈f.2.2.2,g.2.length<=1000000000000000):
  Calls Tryz.prog 18 #[x.val] w fun e w'=>∃r,e=.returned (.bool r)∧(r=false->(f.1.1.length<=100000∧f.1.2.1.length<=2000∧f.1.2.2.length<=2000)∧q8 f.2.2.1∧q8 f.2.2.2)∧ah w w':=by
 have C:=ag B;clear B;obtain⟨y,v⟩:=au (w.alloc (.cells x.cs 33));have c:ah w y:=by rw[<-v];exact ae
 have D:=ag (show bB y w.heap.size x by rw[<-v];exact Bq.new _ _ _);obtain⟨i,j,k,l,m,n⟩:=bq D.o;have p:=ag h;have E:=ag c;clear h c;unfold aU.val;unfold aU.cs at v;go_enter Tryz.func18,Tryz.ntmps18;go_wp2_with fail
 refine(Hl (d:=f.1) y (p.o.d.a E.o)).mono ?_
 rintro e G⟨⟨H,rfl,q⟩,a⟩;have F:=ag (D.o.a a);have z:=bT E a;clear i j k l m n v a;have I:=ag q;clear q;cases H with
 |true=>
  go_wp2;go_ret;exact⟨_,rfl,(fun h=>by cases h),z.o⟩
 |false=>
 obtain⟨i,j,k,l,m,n⟩:=bq F.o;go_wp2_with fail
 refine(qoe _ _ _ f.2.2.1 G (p.o.fl.a z.o) p.o.n4 C.o.1).mono ?_
 rintro e J⟨K,rfl,s,b⟩;have L:=ag (F.o.a b);have A:=bT z b;clear i j k l m n b;have M:=ag s;clear s;cases K with
 |true=>
  go_wp2;go_ret;exact⟨_,rfl,(fun h=>by cases h),A.o⟩
 |false=>
 obtain⟨i,j,k,l,m,n⟩:=bq L.o;go_wp2_with fail
 refine(qoe _ _ _ f.2.2.2 J (p.o.kl.a A.o) p.o.n5 C.o.2).mono ?_
 rintro e Q⟨N,rfl,t,u⟩;have O:=bT A u;clear i j k l m n u;have P:=ag t;clear t;go_wp2;go_ret;exact⟨N,rfl,fun h=>⟨I.o (by trivial),M.o (by trivial),P.o h⟩,O.o⟩
set_option synthInstance.maxHeartbeats 400000
set_option synthInstance.maxSize 4000
theorem qahu(b:az):(eD b).1.length<=4∧(eD b).1.flatten.length<=128:=by
 unfold eD;split
 ·exact⟨by show(dA 4 (some b)).1.length<=4;rw[qwd];exact Nat.le_refl _,qth _⟩
 exact⟨by simp[fo],by simp[fo]⟩
theorem qalr(f:aR):(kF f).1.length<=4∧(kF f).1.flatten.length<=128:=by
 have a:fo.1.length<=4∧fo.1.flatten.length<=128:=⟨by simp[fo],by simp[fo]⟩;unfold kF;split
 ·exact a
 unfold lq;split
 ·exact a
 split
 ·exact qahu _
 exact a
def bL (w:World) (q:Nat) (v:Value) (bad:Bool):Prop:=w.heap[q]? =some (.cells #[v,.bool bad] 200 (0,0))
theorem bL.cell0(h:bL w q v bad):w.cell? ⟨q,0,none⟩=some v:=by rw[cell_of_row w q 0 _ _ (0,0) h];rfl
theorem bL.cell1(h:bL w q v bad):w.cell? ⟨q,1,none⟩=some (.bool bad):=by rw[cell_of_row w q 1 _ _ (0,0) h];rfl
theorem bL.a(h:bL w q v bad)(hb:ah w w'):bL w' q v bad:=(hb.block q (Xd6.1 h).1).trans h
theorem bL.new(w:World)(v:Value)(bad:Bool):bL (w.alloc (.cells #[v,.bool bad] 200)) w.heap.size v bad:=heap_alloc_new w _
theorem bL.put0(h:bL w q v bad)(u:Value):bL (w.setCell ⟨q,0,none⟩ u) q u bad:=by
 have a1:=heap_setCell_same w q 0 _ 200 u h;unfold bL;rw[a1];rfl
theorem bL.put1(h:bL w q v bad)(u:Bool):bL (w.setCell ⟨q,1,none⟩ (.bool u)) q v u:=by
 have a1:=heap_setCell_same w q 1 _ 200 (.bool u) h;unfold bL;rw[a1];rfl
theorem F6(q:Nat)(a:aA)(n c:Nat)(l:az)(bad:Bool)(m k g:Nat)(w:World)(t:bL w q (.slice a n c) bad)(p:Rd w (.slice a n c) l)(hl:l.length<=1000000)(h:rd l=some (m,k))(E:m<=g):
  Calls Tryz.prog 136 #[.pointer (some ⟨q,0,none⟩),.int .u64 g] w fun e w'=>∃a2 c2,e=.returned (.int .u64 m)∧iM (.slice a n c) l (.slice a2 (l.drop k).length c2) (l.drop k)∧w'=w.setCell ⟨q,0,none⟩ (.slice a2 (l.drop k).length c2):=by
 have d:=xf w (by omega) p;rw[h]at d;unfold nZ at d;obtain⟨C,i,y,F⟩:=JV h;have G:=t.cell0;have H:=frozen_of_row w q 0 _ _ t;rcases p with⟨hl,_⟩|⟨b,f,I,e,v,z,A⟩
 ·rw[hl]at i;simp at i;omega
 obtain⟨J,j⟩:=ak l.length;rw[<-j]at e v i;cases e;have K:decide ((g:Int)<m)=false:=aC (by omega);have L:(k:Int)<=n:=by omega
 have M:(0:Int)<=k:=by omega
 have N:(n:Int)<=c:=by omega
 unfold maxLen at z;have u:=ag (show(l.drop k).length=n-k by rw[Xa9,<-j]);by_cases r:k=c
 ·have s:=ag (show iM (.slice (some ⟨b,f,none⟩) n c) l (.slice (some ⟨b,f,none⟩) (l.drop k).length 0) (l.drop k)from uW (List.drop_of_length_le (by omega)) 0)
  have x:n=k:=by omega
  have B:=ag (show(l.drop k).length=0 by have:=u.o;omega);rw[B.o]at s⊢;subst r;subst x;clear A h j i v z hl t u B;go_enter Tryz.func136,Tryz.ntmps136;go_wp2_with fail
  refine d.mono ?_
  rintro e D⟨rfl,rfl⟩;clear d;go_wp2;go_ret;exact⟨some ⟨b,f,none⟩,0,rfl,s.o,rfl⟩
 have s:=ag (show iM (.slice (some ⟨b,f,none⟩) n c) l (.slice (some ⟨b,f+k,none⟩) (l.drop k).length (c-k)) (l.drop k)from qqa j v (by unfold maxLen;omega) i r);rw[u.o]at s⊢;clear A h j hl t u;go_enter Tryz.func136,Tryz.ntmps136;go_wp2_with fail
 refine d.mono ?_
 rintro e D⟨rfl,rfl⟩;clear d;go_wp2;go_ret;exact⟨some ⟨b,f+k,none⟩,c-k,rfl,s.o,rfl⟩
theorem qzq(q:Nat)(a:aA)(n c:Nat)(l:az)(bad:Bool)(d:Nat)(w:World)(g:bL w q (.slice a n c) bad)(f:Rd w (.slice a n c) l)(hl:l.length<=1000000)(h:∀m k,rd l=some (m,k)->d<m):
  Calls Tryz.prog 136 #[.pointer (some ⟨q,0,none⟩),.int .u64 d] w fun e w'=>e=.returned (.int .u64 0)∧w'=w.setCell ⟨q,1,none⟩ (.bool true):=by
 have b:=xf w (by omega) f;have j:=g.cell0;have o:=g.cell1;have r:=frozen_of_row w q 1 _ _ g;cases e:rd l with
 |none=>
  rw[e]at b;unfold nZ at b;clear f h e g;go_enter Tryz.func136,Tryz.ntmps136;go_wp2_with fail
  refine b.mono ?_
  rintro e i⟨rfl,rfl⟩;clear b;go_wp2;go_ret;exact⟨rfl,rfl⟩
 |some p=>
  obtain⟨m,k⟩:=p;have s:=h m k e;rw[e]at b;unfold nZ at b;have t:(d:Int)<m:=by omega
  clear f h e g;go_enter Tryz.func136,Tryz.ntmps136;go_wp2_with fail
  refine b.mono ?_
  rintro e i⟨rfl,rfl⟩;clear b;go_wp2;go_ret;exact⟨rfl,rfl⟩
theorem qms(m:Nat)(h:m<=1000000):wrap64 (m:Int)=(m:Int):=by unfold wrap64;omega
theorem FM(k m s:Nat)(h:k+m<=1000000)(a:s=k+m):wrap64 ((k:Int)+m)=(s:Int):=by unfold wrap64;omega
theorem K3(h:k+m<=n):decide ((n:Int)-k<m)=false:=Xd7 (by omega)
theorem qalt(a:k<=n)(h:¬m<=n-k):(n:Int)-k<m:=by omega
theorem qalu{b a:Nat}(o:n=l.length)(t:k+m<=n)(u:c<=maxLen)(p:n<=c)(h:Rd w (.slice (some ⟨b,a,none⟩) n c) l)(d:0<n)(f:Nat)(q:m<=f)(g:f<=maxLen):Rd w (.slice (some ⟨b,a+k,none⟩) m f) ((l.drop k).take m):=by
 subst o;have hl:((l.drop k).take m).length=m:=by rw[Xa4,Xa9];omega
 rcases h with⟨h,_⟩|⟨v,i,c1,e,x,y,r⟩
 ·rw[h]at d;simp at d
 cases e;refine .inr ⟨b,a+k,f,by rw[hl],by omega,g,fun j s=>?_⟩;rw[hl]at s;rw[show a+k+j=a+(k+j)by omega,r (k+j) (by omega)];simp
theorem qalv(q:Nat)(a:aA)(n c:Nat)(l:az)(bad:Bool)(s r:az)(w:World)(D:bL w q (.slice a n c) bad)(z:Rd w (.slice a n c) l)(hl:l.length<=1000000)(h:ct l=some (s,r)):
  Calls Tryz.prog 137 #[.pointer (some ⟨q,0,none⟩)] w fun e w'=>∃a2 c2,e=.returned (.string (bs s))∧iM (.slice a n c) l (.slice a2 r.length c2) r∧w'=w.setCell ⟨q,0,none⟩ (.slice a2 r.length c2):=by
 cases hr:rd l with
 |none=>rw[ZL hr]at h;cases h
 |some p=>
 obtain⟨m,k⟩:=p;by_cases i:m<=l.length-k
 case neg=>rw[ZM hr i]at h;cases h
 rw[PW hr i]at h;injection h with h;injection h with es er;have f:=xf w (by omega) z;rw[hr]at f;unfold nZ at f;obtain⟨O,t,ai,uV⟩:=JV hr;have x0:=D.cell0;have z0:=frozen_of_row w q 0 _ _ D;have K:=z;rcases z with⟨P,_⟩|⟨b,g,c',e,E,L,Q⟩
 ·rw[P]at t;simp at t;omega
 obtain⟨nn,j⟩:=ak l.length;rw[<-j]at e E t i;have F:nn<=1000000:=by omega
 cases e;have A:=ag L;clear L uV;have G:m<=n-k:=i;obtain⟨d,M⟩:=ak (n-k);rw[<-M]at i G;have u:k+d=n:=by rw[M];exact Nat.add_sub_cancel' t
 have x:k+m<=1000000:=aG (aG (Nat.add_le_add_left i k) (Nat.le_of_eq u)) F;have R:d<=1000000:=aG (aG (Nat.le_add_left d k) (Nat.le_of_eq u)) F;have B:k+m<=n:=aG (Nat.add_le_add_left i k) (Nat.le_of_eq u);have g1:decide ((n:Int)-k<m)=false:=K3 B;have g2:wrap64 (m:Int)=m:=qms m (aG (Nat.le_add_left m k) x);have H:wrap64 ((k:Int)+m)=((k+m:Nat):Int):=FM k m _ x rfl;have Tu:=ag M;have am:=ag u;clear M u G;have g3:(k:Int)<=n:=Int.ofNat_le.2 t;have g4:(0:Int)<=k:=Int.natCast_nonneg k;have g5:(n:Int)<=c:=Int.ofNat_le.2 E;have g6:((k+m:Nat):Int)<=n:=Int.ofNat_le.2 B;have g7:((k+m:Nat):Int)<=c:=Int.ofNat_le.2 (aG B E);have g8:(k:Int)<=((k+m:Nat):Int):=Int.ofNat_le.2 (Nat.le_add_right k m);have C:=ag (show r.length=n-(k+m)by rw[<-er,Xa9,<-j]);have v:∀S T,Rd w (.slice S m T) s->(convert 23 9 (.slice S m T)).run Tryz.prog w=.ok (.string (bs s)) w:=fun S T h=>sD _ _ _ Tryz.underlying23 Tryz.underlying5 Tryz.underlying9 h
 have N:=ag (fun c' L h4=>qalu (m:=m) (k:=k) j B A.o E K (Xb8 O t) c' L h4);have an:=es;subst es;have U:=ag er;by_cases V:k=c
 ·have W:n=k:=by omega
  have X:m=0:=by omega
  subst X;subst V;subst W;have y:=ag (show iM (.slice (some ⟨b,g,none⟩) n n) l (.slice (some ⟨b,g,none⟩) r.length 0) r from uW (by rw[<-er];exact List.drop_of_length_le (by omega)) 0);have I:r.length=0:=by have:=C.o;omega
  rw[I]at y⊢;have J:=v (some ⟨b,g,none⟩) 0 (by rw[Xc2];exact .inl ⟨rfl,.inr ⟨_,_,rfl⟩⟩);rw[Xc2]at J⊢;clear v N C I U er Q hr j hl D K g1 g2 H g6 g7 g8 x R B i;have k1:wrap64 ((n:Int)-n)=0:=by rw[Int.sub_self];exact qms 0 (by omega)
  go_enter Tryz.func137,Tryz.ntmps137;go_wp2_with fail
  refine f.mono ?_
  rintro e w1⟨rfl,rfl⟩;clear f;go_wp2;go_ret;exact⟨some ⟨b,g,none⟩,0,rfl,y.o,rfl⟩
 have Y:=ag (v (some ⟨b,g+k,none⟩) (c-k) (N.o (c-k) (by omega) (aG (Nat.sub_le c k) A.o)));have Nt:=Y.o;obtain⟨s,Z⟩:=ak ((l.drop k).take m);rw[<-Z]at Nt⊢;by_cases uU:k+m=c
 ·have y:=ag (show iM (.slice (some ⟨b,g,none⟩) n c) l (.slice (some ⟨b,g,none⟩) r.length 0) r from uW (by rw[<-er];exact List.drop_of_length_le (by omega)) 0)
  have I:r.length=0:=by have:=C.o;omega
  obtain⟨tt,ab⟩:=ak (k+m);have ac:n=tt:=by omega
  have ad:c=tt:=by omega
  subst ad;subst ac;rw[I]at y⊢;have e1:m=n-k:=by omega
  have aj:(convert 23 9 (.slice (some ⟨b,g+k,none⟩) (n-k) (n-k))).run Tryz.prog w=.ok (.string (bs s)) w:=by
   have:=Nt
   rw[<-e1]at this⊢;exact this
  have al:(k:Int)+(m:Int)=(n:Int):=by omega
  have ao:¬k=n:=by omega
  clear v N C I U er Q hr j hl D K Y Z ab uU H g6 g7 g8 e1 B x;go_enter Tryz.func137,Tryz.ntmps137;go_wp2_with fail
  refine f.mono ?_
  rintro e w1⟨rfl,rfl⟩;clear f;go_wp2;go_ret
  first
   |exact⟨some ⟨b,g,none⟩,0,rfl,y.o,rfl⟩
   |exact⟨rfl,some ⟨b,g,none⟩,0,y.o,rfl⟩
 have y:=ag (show iM (.slice (some ⟨b,g,none⟩) n c) l (.slice (some ⟨b,g+(k+m),none⟩) r.length (c-(k+m))) r by rw[<-er];exact qqa j E A.o B uU);rw[C.o]at y⊢;clear v N C U er Q hr j hl D K Y Z;go_enter Tryz.func137,Tryz.ntmps137;go_wp2_with fail
 refine f.mono ?_
 rintro e w1⟨rfl,rfl⟩;clear f;go_wp2;go_ret;exact⟨some ⟨b,g+(k+m),none⟩,c-(k+m),rfl,y.o,rfl⟩
theorem XC(q:Nat)(a:aA)(n c:Nat)(l:az)(bad:Bool)(w:World)(g:bL w q (.slice a n c) bad)(f:Rd w (.slice a n c) l)(j:n=l.length)(hl:l.length<=1000000)(h:ct l=none):
  Calls Tryz.prog 137 #[.pointer (some ⟨q,0,none⟩)] w fun e w'=>e=.returned (.string {data:=#[]})∧w'=w.setCell ⟨q,1,none⟩ (.bool true):=by
 have b:=xf w (by omega) f;have u:=g.cell0;have v:=g.cell1;have x:=frozen_of_row w q 1 _ _ g;cases e:rd l with
 |none=>
  rw[e]at b;unfold nZ at b;clear f h e g j;go_enter Tryz.func137,Tryz.ntmps137;go_wp2_with fail
  refine b.mono ?_
  rintro e r⟨rfl,rfl⟩;clear b;go_wp2;go_ret;exact⟨rfl,rfl⟩
 |some p=>
  obtain⟨m,k⟩:=p;obtain⟨s,i,o,y⟩:=JV e;have d:¬m<=l.length-k:=fun d=>by rw[PW e d]at h;cases h
  rw[e]at b;unfold nZ at b;rw[<-j]at d i;have z:(n:Int)-k<m:=qalt i d;have t:n<=1000000:=by omega
  clear f h e g j d;go_enter Tryz.func137,Tryz.ntmps137;go_wp2_with fail
  refine b.mono ?_
  rintro e r⟨rfl,rfl⟩;clear b;go_wp2;go_ret;exact⟨rfl,rfl⟩
def lH (most:Nat) (l:az) (bad:Bool) (m:Nat) (l':az) (bad':Bool):Prop:=
 (∃k,rd l=some (m,k)∧m<=most∧l'=l.drop k∧bad'=bad)∨((∀x k,rd l=some (x,k)->most<x)∧m=0∧l'=l∧bad'=true)
def pu (l:az) (bad:Bool) (s:az) (l':az) (bad':Bool):Prop:=
 (ct l=some (s,l')∧bad'=bad)∨(ct l=none∧s=[]∧l'=l∧bad'=true)
theorem lH.le{a:Nat}{c:az}{b:Bool}(h:lH a l bad m c b):m<=a∧c.length<=l.length:=by
 rcases h with⟨k,_,h,rfl,_⟩|⟨_,rfl,rfl,_⟩
 ·exact⟨h,by rw[Xa9];omega⟩
 exact⟨Xd5 _,Nat.le_refl _⟩
theorem lH.exact{a:Nat}{d r:az}{b:Bool}{v:Nat}(h:lH a (sm v++r) bad m d b)(hv:v<=a)(f:v<18446744073709551616):m=v∧d=r∧b=bad:=by
 have e:=JW v f r;rcases h with⟨k,c,j,g,i⟩|⟨c,_⟩
 ·rw[e]at c
  injection c with c;injection c with a1 a2;subst a1 a2;exact⟨rfl,by rw[g];simp,i⟩
 have:=c _ _ e
 omega
theorem pu.le{s:az}{a:Bool}(h:pu l bad s b a):b.length<=l.length:=by
 rcases h with⟨h,_⟩|⟨_,_,rfl,_⟩
 ·have:=congrArg List.length (P6 h)
  rw[Xa0]at this;omega
 exact Nat.le_refl _
theorem pu.exact{c r s t:az}{a:Bool}(h:pu (tx t++r) bad s c a)(d:t.length<18446744073709551616):s=t∧c=r∧a=bad:=by
 have e:=G7 t r d;rcases h with⟨b,f⟩|⟨b,_⟩
 ·rw[e]at b
  injection b with b;injection b with a1 a2;exact⟨a1.symm,a2.symm,f⟩
 rw[e]at b;cases b
def Nu (q:Nat) (v:Value) (l:az) (w:World) (l':az) (bad':Bool) (w':World):Prop:=
 ∃a2 c2,iM v l (.slice a2 l'.length c2) l'∧bL w' q (.slice a2 l'.length c2) bad'∧w.grownBy w' (some q)∧bU 200 w w'
theorem Xm(q:Nat)(a:aA)(n c:Nat)(l:az)(bad:Bool)(b:Nat)(w:World)(f:bL w q (.slice a n c) bad)(g:Rd w (.slice a n c) l)(j:n=l.length)(hl:l.length<=1000000):
  Calls Tryz.prog 136 #[.pointer (some ⟨q,0,none⟩),.int .u64 b] w fun e w'=>∃m o d,e=.returned (.int .u64 (m:Nat))∧lH b l bad m o d∧Nu q (.slice a n c) l w o d w':=by
 by_cases h:∃m k,rd l=some (m,k)∧m<=b
 ·obtain⟨m,k,p,r⟩:=h
  refine(F6 q a n c l bad m k b w f g hl p r).mono ?_
  rintro e w'⟨a2,c2,rfl,s,rfl⟩;exact⟨m,l.drop k,bad,rfl,.inl ⟨k,p,r,rfl,rfl⟩,a2,c2,s,f.put0 _,nO w ⟨q,0,none⟩ _,bU.set f⟩
 refine(qzq q a n c l bad b w f g hl (fun m k e=>?_)).mono ?_
 ·by_cases i:m<=b
  ·exact absurd ⟨m,k,e,i⟩ h
  omega
 rintro e w'⟨rfl,rfl⟩;refine⟨0,l,true,rfl,.inr ⟨fun m k e=>?_,rfl,rfl,rfl⟩,a,c, ?_, ?_,nO w ⟨q,1,none⟩ _,bU.set f⟩
 ·by_cases i:m<=b
  ·exact absurd ⟨m,k,e,i⟩ h
  omega
 ·rw[j];exact iM.refl _ _
 rw[<-j];exact f.put1 true
theorem qx6(q:Nat)(a:aA)(n c:Nat)(l:az)(bad:Bool)(w:World)(d:bL w q (.slice a n c) bad)(f:Rd w (.slice a n c) l)(g:n=l.length)(hl:l.length<=1000000):
  Calls Tryz.prog 137 #[.pointer (some ⟨q,0,none⟩)] w fun e w'=>∃s i b,e=.returned (.string (bs s))∧pu l bad s i b∧Nu q (.slice a n c) l w i b w':=by
 cases h:ct l with
 |some p=>
  obtain⟨s,r⟩:=p;refine(qalv q a n c l bad s r w d f hl h).mono ?_
  rintro e w'⟨a2,c2,rfl,j,rfl⟩;exact⟨s,r,bad,rfl,.inl ⟨h,rfl⟩,a2,c2,j,d.put0 _,nO w ⟨q,0,none⟩ _,bU.set d⟩
 |none=>
  refine(XC q a n c l bad w d f g hl h).mono ?_
  rintro e w'⟨rfl,rfl⟩;refine⟨[],l,true,rfl,.inr ⟨h,rfl,rfl,rfl⟩,a,c, ?_, ?_,nO w ⟨q,1,none⟩ _,bU.set d⟩
  ·rw[g];exact iM.refl _ _
  rw[<-g];exact d.put1 true
theorem Xn{a x b:World}{r:Option Nat}(h:a.grownBy x r)(hb:Below a.heap.size x b):a.grownBy b r:=⟨hb.os.trans h.os,hb.tape.trans h.tape,hb.output.trans h.output,aG h.size hb.size,fun k c d=>(hb.block k c).trans (h.block k c d)⟩
theorem aX.keepT(h:aX w q y)(a:31≠t)(b:bU t w w'):aX w' q y:=b q _ _ _ a h
theorem bZ.keepT(h:bZ w q)(a:31≠t)(b:bU t w w'):bZ w' q:=by obtain⟨y,h⟩:=h;exact⟨y,b q _ _ _ a h⟩
theorem aP.keepT(h:aP w q s y)(a:98≠t)(b:bU t w w'):aP w' q s y:=b q _ _ _ a h
theorem dD.keepT(h:dD w q x y)(a:237≠t)(b:bU t w w'):dD w' q x y:=b q _ _ _ a h
theorem bL.keepT(h:bL w q v bad)(a:200≠t)(b:bU t w w'):bL w' q v bad:=b q _ _ _ a h
def Nv (fs:List Fl):Prop:=fs.length<=40∧∀f∈fs,f.1.length<=16∧f.2.length<=64∧∀x∈f.2,sH x
theorem Ie{fs:List Fl}(h:dR fs B)(b:B<=4096):Nv fs:=by
 refine⟨h.1,fun f a=>?_⟩;have c:=JY (h.2.1.1 f a);exact⟨by omega,by omega,((Rs h b).2 f a).2.2⟩
def A9 (b:az) (nn k:Nat) (ds:List Fl) (l:az) (bad:Bool):Prop:=
 ∀fs,dJ fs=b->Nv fs->nn=fs.length∧ds=fs.take k∧l=(fs.drop k).flatMap kJ∧bad=false
def Xo (b:az) (k:Nat) (s:az) (m j:Nat) (es:List Ex) (l:az) (bad:Bool):Prop:=
 ∀fs,dJ fs=b->Nv fs->∃hk:k<fs.length,s=(fs[k]).1∧m=(fs[k]).2.length∧es=(fs[k]).2.take j∧l=dZ ((fs[k]).2.drop j)++(fs.drop (k+1)).flatMap kJ∧bad=false
theorem qzr(h:lH 40 b false m l bad):A9 b m 0 [] l bad:=by
 rintro fs rfl a;obtain⟨a1,a2,a3⟩:=lH.exact (v:=fs.length) (r:=fs.flatMap kJ) h a.1 (by have:=a.1;omega);exact⟨a1,by simp,by simpa using a2,a3⟩
theorem qaea{c d:az}{p:List Fl}{s:az}{g i:Bool}(h:A9 b f k p l false)(w:k<f)(j:pu l false s c g)(n:lH 64 c g m d i):Xo b k s m 0 [] d i:=by
 rintro fs q o;obtain⟨a1,a2,a3,_⟩:=h fs q o;have a:k<fs.length:=by omega
 have r:=o.2 _ (Xa3 a);have e:(fs.drop k).flatMap kJ=tx (fs[k]).1++(sm (fs[k]).2.length++(dZ (fs[k]).2++(fs.drop (k+1)).flatMap kJ)):=by
  rw[ql9 fs k a,Xb2];unfold kJ;simp
 rw[a3,e]at j;obtain⟨t,u,v⟩:=j.exact (by omega);rw[u,v]at n;obtain⟨c1,c2,c3⟩:=n.exact r.2.1 (by omega);exact⟨a,t,c1,by simp,by rw[c2];simp,c3⟩
theorem qahx{c d:az}{s:az}{x y:Nat}{f g:Bool}(h:Xo b k s m j es l false)(w:j<m)(i:lH 4096 l false x c f)(n:lH 4096 c f y d g):Xo b k s m (j+1) (es++[((x:Int),(y:Int))]) d g:=by
 rintro fs q o;obtain⟨p,a1,a2,a3,a4,_⟩:=h fs q o;have a:j<(fs[k]).2.length:=by omega
 have r:=(o.2 _ (Xa3 p)).2.2 _ (Xa3 a);have e:dZ ((fs[k]).2.drop j)=sm ((fs[k]).2[j]).1.toNat++(sm ((fs[k]).2[j]).2.toNat++dZ ((fs[k]).2.drop (j+1))):=by
  unfold dZ;rw[ql9 (fs[k]).2 j a,Xb2];unfold lV;simp
 unfold sH at r;rw[a4,e,Xa8]at i;obtain⟨t,u,v⟩:=i.exact (by omega) (by omega);rw[u,v,Xa8]at n;obtain⟨c1,c2,c3⟩:=n.exact (by omega) (by omega);refine⟨p,a1,a2, ?_,c2,c3⟩;rw[qF (fs[k]).2 j a,a3,t,c1];congr 2
 exact Prod.ext (by simp only;omega) (by simp only;omega)
theorem qti{d:az}{g:List Fl}{s:az}(h:A9 b f k g l false)(p:Xo b k s m j es d bad)(v:j<=m)(a:¬(j<m∧bad=false)):A9 b f (k+1) (g++[(s,es)]) d bad:=by
 rintro fs i n;obtain⟨a1,a2,a3,_⟩:=h fs i n;obtain⟨q,r,w,t,u,o⟩:=p fs i n;have e:j=(fs[k]).2.length:=by
  by_cases c:j<m
  ·exact absurd ⟨c,o⟩ a
  omega
 subst e;refine⟨a1, ?_, ?_,o⟩
 ·rw[qF fs k q,a2,r,t,Xb5]
 rw[u,List.drop_length]
 simp[dZ]
theorem qalx(c:eX B)(hl:¬2048<b.length)(e:mg b B≠0):mg b B=8:=by
 cases h:rq b with
 |none=>exact qni c hl h
 |some p=>
  obtain⟨fs,r⟩:=p;cases r with
  |cons x r=>exact qnj c hl h (by simp)
  |nil=>
   have a:=(qnk c hl h).1;by_cases d:dR fs B
   ·rw[if_pos d]at a;exact absurd a e
   rw[if_neg d]at a;exact a
theorem qahy{a:List Fl}(i:eX B)(hl:¬2048<b.length)(h:A9 b d k a l bad)(n:k<=d)(c:¬(k<d∧bad=false)):
  (bad=false->bf a B=0->dJ a=b->mg b B=0∧uE b B=a)∧(¬(bad=false∧bf a B=0∧dJ a=b)->mg b B=8):=by
 refine⟨?_, ?_⟩
 ·rintro _ j rfl
  exact qaat j
 intro m;by_cases e:mg b B=0
 ·exfalso
  obtain⟨c1,c2⟩:=qla e;obtain⟨a1,a2,a3,a4⟩:=h _ c2 (Ie (Eh c1).2 i.2);have f:k=(uE b B).length:=by
   by_cases g:k<d
   ·exact absurd ⟨g,a4⟩ c
   omega
  rw[f,Xb5]at a2;exact m ⟨a4,by rw[a2];exact c1,by rw[a2];exact c2⟩
 exact qalx i hl e
theorem qzs(w:World)(r:Option Nat):w.grownBy w r:=⟨rfl,rfl,rfl,Nat.le_refl _,fun _ _ _=>rfl⟩
theorem qtj{i:Nat}(hb:base<=q)(a:base<=w.heap.size)(u:Value):Below base w (w.setCell ⟨q,i,none⟩ u):=aF.grown (nO w ⟨q,i,none⟩ u) a (by intro k b;cases b;exact hb)
theorem own_lt{l:List Ex}(h:bA w base v l):∀g,v.ownBlock=some g->g<w.heap.size:=by
 intro g e;rcases h.2 with⟨rfl,_⟩|⟨c,cap,b,rfl,_,a,_⟩
 ·cases e
 cases e;exact(Xd6.1 a).1
def Mem (y1:World) (Rb F Bf:Nat) (s:ByteArray) (ve:Value) (es:List Ex) (w:World):Prop:=
 aP w F s ve∧bA w Bf ve es∧y1.grownBy w (some Rb)∧Bf<=w.heap.size∧(Rb<y1.heap.size∧F=y1.heap.size∧Bf=F+1)
theorem Mem.rdr{c:World}{a:Nat}(h:Mem c a F d s e es w)(f:bL w a v bad)(b:w.grownBy w' (some a))(g:bU 200 w w'):Mem c a F d s e es w':=
 ⟨h.1.keepT (by decide) g,Bv h.2.1 b f (by decide),Qi h.2.2.1 b,aG h.2.2.2.1 b.size,h.2.2.2.2⟩
theorem Mem.a{a:World}{b:Nat}{d:Value}(h:Mem a b F c s d es w)(hb:ah w w'):Mem a b F c s d es w':=
 ⟨h.1.a hb,h.2.1.a hb,Xn h.2.2.1 (hb.mono h.2.2.1.size),aG h.2.2.2.1 hb.size,h.2.2.2.2⟩
theorem Mem.setX{d:World}{a X:Nat}{b:Value}{q:Value}(h:Mem d f F a s b es w)(k:dD w X p q)(c:∀g,b.ownBlock=some g->g<X)(v:a<=X)(u:Value):Mem d f F a s b es (w.setCell ⟨X,1,none⟩ u):=by
 have i:=nO w ⟨X,1,none⟩ u;obtain⟨l,m,j,n,o,r,t⟩:=h;refine⟨l.keepT (by decide) (bU.set k),World.ownsRow.kept m i (.inr ?_),Xn j (qtj (by omega) j.size u),aG n i.size,o,r,t⟩;intro e;have:=c X e
 omega
theorem dD.put1(h:dD w q x y)(v:Value):dD (w.setCell ⟨q,1,none⟩ v) q x v:=by
 have a1:=heap_setCell_same w q 1 _ 237 v h;unfold dD;rw[a1];rfl
theorem Mem.app{k:World}{e l:Nat}{i:Value}(h:Mem k e F l s i es w)(q:bL w e v bad)(hl:es.length<=1000000)(x y:Int):
  ∃g c a,(Builtin.append_ #[96,96] 96 #[i,.slice (some ⟨w.heap.size,0,none⟩) 1 1]).run Tryz.prog (w.alloc (.cells #[.int .i64 x,.int .i64 y] 237))=.ok (.slice (some ⟨g,0,none⟩) (es.length+1) c) a∧
   aP a F s i∧Mem k e F l s (.slice (some ⟨g,0,none⟩) (es.length+1) c) (es++[(x,y)]) (a.setCell ⟨F,1,none⟩ (.slice (some ⟨g,0,none⟩) (es.length+1) c))∧bL (a.setCell ⟨F,1,none⟩ (.slice (some ⟨g,0,none⟩) (es.length+1) c)) e v bad:=by
 obtain⟨r,t,u,m,z,A,B⟩:=h;obtain⟨g,c,a,b,C,n,o⟩:=qw8 t m hl x y;have f:=r.keepT (by decide) o;have j:=q.keepT (by decide) o;have p:=nO a ⟨F,1,none⟩ (.slice (some ⟨g,0,none⟩) (es.length+1) c);have d:=Xn u (n.mono (by omega));refine⟨g,c,a,b,f,⟨f.put1 _,Bv C p f (by decide),Xn d (qtj (by omega) d.size _),aG (aG m n.size) p.size,z,A,B⟩, ?_⟩;exact j.keepT (by decide) (bU.set f)
def nC (w0:World) (R0 Rb Db Bs:Nat) (vd:Value) (ds:List Fl) (w:World):Prop:=
 aX w Db vd∧bi w Bs vd ds∧bZ w R0∧ah w0 w∧Bs<=w.heap.size∧(w0.heap.size<=R0∧w0.heap.size<=Rb∧w0.heap.size<=Db∧R0<Bs∧Rb<Bs∧Db<Bs∧R0≠Db∧Rb≠Db∧R0≠Rb)
theorem nC.rdr{a:Nat}(h:nC w0 c a d f g i w)(l:bL w a v bad)(b:w.grownBy w' (some a))(j:bU 200 w w'):nC w0 c a d f g i w':=
 ⟨h.1.keepT (by decide) j,h.2.1.keptS b l (by decide) (by decide),h.2.2.1.keepT (by decide) j,h.2.2.2.1.grown b h.2.2.2.1.size (by intro k e;cases e;exact h.2.2.2.2.2.2.1),aG h.2.2.2.2.1 b.size,h.2.2.2.2.2⟩
theorem nC.a{a b:Nat}{f:List Fl}(h:nC w0 a b c d e f w)(hb:ah w w'):nC w0 a b c d e f w':=
 ⟨h.1.a hb,h.2.1.a hb,h.2.2.1.a hb,h.2.2.2.1.trans (hb.mono h.2.2.2.1.size),aG h.2.2.2.2.1 hb.size,h.2.2.2.2.2⟩
theorem nC.after{b:Nat}(h:nC w0 c b d f g i w)(o:bL w b v bad)(a:w.grownBy w' (some b)):nC w0 c b d f g i w':=by
 obtain⟨p,q,⟨y,r⟩,j,s,e1,l,t,u,x,z,A,m,n⟩:=h;refine⟨(a.block d (by omega) (by intro e;injection e with e;exact m e.symm)).trans p,q.keptS a o (by decide) (by decide),⟨y,(a.block c (by omega) (by intro e;injection e with e;exact n e)).trans r⟩,j.grown a j.size (by intro k e;cases e;exact l),aG s a.size,e1,l,t,u,x,z,A,m,n⟩
theorem nC.app{o:Nat}{a:List Fl}(h:nC w0 j m d o p a w)(E:bL w m v bad)(hl:a.length<=1000000)(s:az)(x:Value)(l:List Ex)(F:bA w o x l):
  ∃g c b,(Builtin.append_ #[29,29] 29 #[p,.slice (some ⟨w.heap.size,0,none⟩) 1 1]).run Tryz.prog (w.alloc (.cells #[.string (bs s),x] 98))=.ok (.slice (some ⟨g,0,none⟩) (a.length+1) c) b∧
   aX b d p∧nC w0 j m d o (.slice (some ⟨g,0,none⟩) (a.length+1) c) (a++[(s,l)]) (b.setCell ⟨d,0,none⟩ (.slice (some ⟨g,0,none⟩) (a.length+1) c))∧bL (b.setCell ⟨d,0,none⟩ (.slice (some ⟨g,0,none⟩) (a.length+1) c)) m v bad:=by
 obtain⟨G,H,⟨y,I⟩,J,A,e1,K,B,L,M,N,C,O,P⟩:=h;obtain⟨g,c,b,f,Q,D,q⟩:=qsi H A hl s x l F;have n:=G.keepT (by decide) q;have r:=E.keepT (by decide) q;have t:=q j _ _ _ (by decide) I;have u:=nO b ⟨d,0,none⟩ (.slice (some ⟨g,0,none⟩) (a.length+1) c);have i:ah w0 b:=J.trans (D.mono (by omega));have z:aX (b.setCell ⟨d,0,none⟩ (.slice (some ⟨g,0,none⟩) (a.length+1) c)) d (.slice (some ⟨g,0,none⟩) (a.length+1) c):=by
  have:=heap_setCell_same b d 0 _ 31 (.slice (some ⟨g,0,none⟩) (a.length+1) c) n
  unfold aX;rw[this];rfl
 refine⟨g,c,b,f,n,⟨z,Q.keptS u n (by decide) (by decide),⟨y,(heap_setCell_other b ⟨d,0,none⟩ j _ C).trans t⟩,i.grown u i.size (by intro k e;cases e;exact B),aG (aG A D.size) u.size,e1,K,B,L,M,N,C,O,P⟩, ?_⟩;exact r.keepT (by decide) (bU.set n)
end Go.Proofs.YtmeaiocohalphaaGreatDoor
