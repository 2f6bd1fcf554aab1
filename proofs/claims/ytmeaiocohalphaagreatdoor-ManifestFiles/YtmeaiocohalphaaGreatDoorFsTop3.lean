/-
  Files with another directory.
-/
import Derived.Test.YtmeaiocohalphaaGreatDoorFsStep
set_option maxHeartbeats 4000000
set_option maxRecDepth 100000
namespace Go.Proofs.YtmeaiocohalphaaGreatDoor
open Go.RowKit
set_option linter.all false
variable {w w' w0:World}{base q r:Nat}{v:Value}{cs:Array Value}{t:TypeId}{f:aR}{D:aR×Int}{c:Int}{s:Stp}{y:Wy}
theorem qaku(s:az)(i:Int)(j:aA)(nx k:Nat)(l:az)(p base:Nat)(o:Bool)(y:Wy)(w:World)(h:bX w p base o y)(C:base<=p)(t:Rd w (.slice j nx k) l):
  Calls Tryz.prog 100 #[.pointer (some ⟨p,0,none⟩),.string (bs s),.int .i64 i,.slice j nx k] w fun e w'=>e=.returned (.int .i64 (jk s i l y).2)∧((jk s i l y).2=0->bX w' p base true (jk s i l y).1)∧bX w' p base false (jk s i l y).1∧w.grownBy w' (some p):=by
 have D:=ag h;obtain⟨x,T,U,V,m,E,u,v⟩:=h;obtain⟨F,G,H,I,J,K,L,M⟩:=vE m;have N:=ag (v w (Xc6 _ _)).1;have O:=ag m;have P:=ag u;clear m E u v;have Q:=ag t;clear t;go_enter Tryz.func100,Tryz.ntmps100;go_wp2_with fail
 refine(qok x y.1 s i w N.o P.o).mono ?_
 rintro e R⟨rfl,a⟩;have A:=ag (D.o.a a);have n:=ag (Q.o.a a);have B:=ag (F4 p a);clear a F G H I J K L M;obtain⟨z,b⟩:=ak (jD y.1 s i);rw[<-b];by_cases c:¬z=0
 ·have q:=ag (show jk s i l y=(y,z)by unfold jk;rw[if_pos (by rw[<-b];exact c),<-b])
  have S:=ag c;clear b;go_wp2;go_ret;rw[q.o];exact⟨rfl,fun h=>absurd h S.o,A.o.any,B.o⟩
 rw[Decidable.not_not]at c;have q:=ag (show jk s i l y=SB (kU y.1 s i) l y by unfold jk;rw[if_neg (by rw[<-b];simpa using c)]);subst c;clear b;go_wp2_with fail
 refine(F5 (kU y.1 s i) j nx k l p base o y R A.o C n.o).mono ?_
 rintro e W⟨rfl,d,f⟩;have g:=ag d;have r:=ag (B.o.trans f);clear d f;go_wp2;go_ret;rw[q.o];exact⟨rfl,fun _=>g.o,g.o.any,r.o⟩
theorem Mg(n:Nat)(s:Stp)(p base:Nat)(o d:Bool)(y:Wy)(w:World)(h:bX w p base o y)(f:(s y).1.2.1=y.2.1)(E:∀w,(callFunc n #[.pointer (some ⟨p,0,none⟩)]).run Tryz.prog w=.ok (.enter n #[.pointer (some ⟨p,0,none⟩)]) w)
  (l:y.2.1=0->Calls Tryz.prog n #[.pointer (some ⟨p,0,none⟩)] w fun e w'=>e=.returned (.int .i64 (s y).2)∧((s y).2=0->bX w' p base d (s y).1)∧bX w' p base false (s y).1∧w.grownBy w' (some p)):
  Calls Tryz.prog 39 #[.pointer (some ⟨p,0,none⟩),.func (.func n) #[.pointer (some ⟨p,0,none⟩)] #[]] w fun e w'=>e=.returned (.pointer (some ⟨p,0,none⟩))∧bX w' p base d (lN s y)∧w.grownBy w' (some p):=by
 have F:=ag h;obtain⟨x,S,T,U,c,m,q,t⟩:=h;obtain⟨G,H,I,J,K,L,v,M⟩:=vE c;clear c m q t;by_cases a:¬y.2.1=0
 ·have i:=ag (show lN s y=y by unfold lN;rw[if_neg a])
  have N:=ag (F.o.err d a);have V:=ag a;clear l;go_enter Tryz.func39,Tryz.ntmps39;go_wp2;go_ret;rw[i.o];exact⟨rfl,N.o,Xc6 _ _⟩
 rw[Decidable.not_not]at a;have i:=ag (show lN s y=((s y).1.1,(s y).2,(s y).1.2.2)by unfold lN;rw[if_pos a]);have O:=ag (l a);have u:=ag (f.trans a);rw[a]at v;clear l a f;go_enter Tryz.func39,Tryz.ntmps39;go_wp2_with fail
 refine O.o.mono ?_
 rintro e z⟨rfl,b,hs1,j⟩;obtain⟨r,A⟩:=ak ((s y).2);rw[<-A]at b i⊢;clear A;obtain⟨B,k⟩:=ak ((s y).1);rw[<-k]at b hs1 i u;clear k;have C:=ag (show bX (z.setCell ⟨p,6,none⟩ (.int .i64 r)) p base d (B.1,r,B.2.2)∧w.grownBy (z.setCell ⟨p,6,none⟩ (.int .i64 r)) (some p)from by
  have D:=hs1.setErr r u.o;refine⟨?_,j.trans D.2⟩;by_cases g:r=0
  ·exact((b g).setErr r u.o).1
  exact D.1.err d g)
 obtain⟨W,P,Q,R,c,m,q,t⟩:=hs1;obtain⟨X,Y,Z,q3,q4,q5,q6,q7⟩:=vE c;have f6:=c.fz 6;clear G H I J K L v M c m q t b j;go_wp2;go_ret;rw[i.o];exact⟨rfl,C.o.1,C.o.2⟩
theorem qakv(n:Nat)(c1 c2:Value)(s:Stp)(p base:Nat)(o d:Bool)(y:Wy)(w:World)(h:bX w p base o y)(f:(s y).1.2.1=y.2.1)(E:∀w,(callFunc n #[c1,c2]).run Tryz.prog w=.ok (.enter n #[c1,c2]) w)
  (l:y.2.1=0->Calls Tryz.prog n #[c1,c2] w fun e w'=>e=.returned (.int .i64 (s y).2)∧((s y).2=0->bX w' p base d (s y).1)∧bX w' p base false (s y).1∧w.grownBy w' (some p)):
  Calls Tryz.prog 39 #[.pointer (some ⟨p,0,none⟩),.func (.func n) #[] #[c1,c2]] w fun e w'=>e=.returned (.pointer (some ⟨p,0,none⟩))∧bX w' p base d (lN s y)∧w.grownBy w' (some p):=by
 have F:=ag h;obtain⟨x,S,T,U,c,m,q,t⟩:=h;obtain⟨G,H,I,J,K,L,v,M⟩:=vE c;clear c m q t;by_cases a:¬y.2.1=0
 ·have i:=ag (show lN s y=y by unfold lN;rw[if_neg a])
  have N:=ag (F.o.err d a);have V:=ag a;clear l;go_enter Tryz.func39,Tryz.ntmps39;go_wp2;go_ret;rw[i.o];exact⟨rfl,N.o,Xc6 _ _⟩
 rw[Decidable.not_not]at a;have i:=ag (show lN s y=((s y).1.1,(s y).2,(s y).1.2.2)by unfold lN;rw[if_pos a]);have O:=ag (l a);have u:=ag (f.trans a);rw[a]at v;clear l a f;go_enter Tryz.func39,Tryz.ntmps39;go_wp2_with fail
 refine O.o.mono ?_
 rintro e z⟨rfl,b,hs1,j⟩;obtain⟨r,A⟩:=ak ((s y).2);rw[<-A]at b i⊢;clear A;obtain⟨B,k⟩:=ak ((s y).1);rw[<-k]at b hs1 i u;clear k;have C:=ag (show bX (z.setCell ⟨p,6,none⟩ (.int .i64 r)) p base d (B.1,r,B.2.2)∧w.grownBy (z.setCell ⟨p,6,none⟩ (.int .i64 r)) (some p)from by
  have D:=hs1.setErr r u.o;refine⟨?_,j.trans D.2⟩;by_cases g:r=0
  ·exact((b g).setErr r u.o).1
  exact D.1.err d g)
 obtain⟨W,P,Q,R,c,m,q,t⟩:=hs1;obtain⟨X,Y,Z,q3,q4,q5,q6,q7⟩:=vE c;have f6:=c.fz 6;clear G H I J K L v M c m q t b j;go_wp2;go_ret;rw[i.o];exact⟨rfl,C.o.1,C.o.2⟩
theorem Vl(n:Nat)(c1 c2 c3 c4:Value)(s:Stp)(p base:Nat)(o d:Bool)(y:Wy)(w:World)(h:bX w p base o y)(f:(s y).1.2.1=y.2.1)(E:∀w,(callFunc n #[c1,c2,c3,c4]).run Tryz.prog w=.ok (.enter n #[c1,c2,c3,c4]) w)
  (l:y.2.1=0->Calls Tryz.prog n #[c1,c2,c3,c4] w fun e w'=>e=.returned (.int .i64 (s y).2)∧((s y).2=0->bX w' p base d (s y).1)∧bX w' p base false (s y).1∧w.grownBy w' (some p)):
  Calls Tryz.prog 39 #[.pointer (some ⟨p,0,none⟩),.func (.func n) #[] #[c1,c2,c3,c4]] w fun e w'=>e=.returned (.pointer (some ⟨p,0,none⟩))∧bX w' p base d (lN s y)∧w.grownBy w' (some p):=by
 have F:=ag h;obtain⟨x,S,T,U,c,m,q,t⟩:=h;obtain⟨G,H,I,J,K,L,v,M⟩:=vE c;clear c m q t;by_cases a:¬y.2.1=0
 ·have i:=ag (show lN s y=y by unfold lN;rw[if_neg a])
  have N:=ag (F.o.err d a);have V:=ag a;clear l;go_enter Tryz.func39,Tryz.ntmps39;go_wp2;go_ret;rw[i.o];exact⟨rfl,N.o,Xc6 _ _⟩
 rw[Decidable.not_not]at a;have i:=ag (show lN s y=((s y).1.1,(s y).2,(s y).1.2.2)by unfold lN;rw[if_pos a]);have O:=ag (l a);have u:=ag (f.trans a);rw[a]at v;clear l a f;go_enter Tryz.func39,Tryz.ntmps39;go_wp2_with fail
 refine O.o.mono ?_
 rintro e z⟨rfl,b,hs1,j⟩;obtain⟨r,A⟩:=ak ((s y).2);rw[<-A]at b i⊢;clear A;obtain⟨B,k⟩:=ak ((s y).1);rw[<-k]at b hs1 i u;clear k;have C:=ag (show bX (z.setCell ⟨p,6,none⟩ (.int .i64 r)) p base d (B.1,r,B.2.2)∧w.grownBy (z.setCell ⟨p,6,none⟩ (.int .i64 r)) (some p)from by
  have D:=hs1.setErr r u.o;refine⟨?_,j.trans D.2⟩;by_cases g:r=0
  ·exact((b g).setErr r u.o).1
  exact D.1.err d g)
 obtain⟨W,P,Q,R,c,m,q,t⟩:=hs1;obtain⟨X,Y,Z,q3,q4,q5,q6,q7⟩:=vE c;have f6:=c.fz 6;clear G H I J K L v M c m q t b j;go_wp2;go_ret;rw[i.o];exact⟨rfl,C.o.1,C.o.2⟩
theorem Mh(s:az)(i:Int)(l:az)(y:Wy):(jk s i l y).1.2.1=y.2.1:=by unfold jk;split<;>rfl
theorem qxf(x:aU)(f:aR)(w:World)(h:iJ w x f)(B:jq f):
  Calls Tryz.prog 71 #[x.val] w fun e w'=>∃p,e=.returned (.pointer (some ⟨p,0,none⟩))∧w.heap.size<=p∧bX w' p w.heap.size false (nH f)∧ah w w':=by
 have C:=ag B;clear B;obtain⟨y,c⟩:=au (w.alloc (.cells x.cs 33));have d:ah w y:=by rw[<-c];exact ae
 have D:=ag (show bB y w.heap.size x by rw[<-c];exact Bq.new _ _ _);obtain⟨n,q,r,s,t,u⟩:=bq D.o;have E:=ag h;have J:=ag d;clear h d;unfold aU.val;unfold aU.cs at c;have v:aN (fun i=>bB i w.heap.size x∧ah w i):=fun y N h F=>⟨h.1.a F,h.2.trans (F.mono h.2.size)⟩
 go_enter Tryz.func71,Tryz.ntmps71;go_wp2_with fail
 try rw[c]
 clear n q r s t u c;refine iH v (by kernel_rfl) ⟨D.o,J.o⟩ ?_
 intro a;refine rP [0,1] 4 ?AL ?nS a ?AO
 case nS=>
  iterate 2 (apply Yl.cons rfl rfl;focus (rintro i⟨j,G⟩;obtain⟨n,q,r,s,t,u⟩:=bq j;go_simp<;>rfl);try simp only[aB])
  exact Yl.nil
 refine rV v 2 (.int .i64 (eF f)) rfl a (Va x f _ (E.o.a a.2) C.o) ?_
 clear a;intro b a;try simp only[aB]
 refine rP [3] 2 ?AP ?nT a ?AQ
 case nT=>
  iterate 1 (apply Yl.cons rfl rfl;focus (rintro i⟨j,G⟩;obtain⟨n,q,r,s,t,u⟩:=bq j;go_simp<;>rfl);try simp only[aB])
  exact Yl.nil
 have z:=v _ (b.alloc (.cells #[.slice x.a1 x.n1 x.c1,.slice x.a2 x.n2 x.c2,.slice x.a3 x.n3 x.c3,.int .u32 x.g,.slice x.a4 x.n4 x.c4,.slice x.a5 x.n5 x.c5,.int .i64 (eF f),.slice none 0 0] 83)) a (ae);have l:=ag (show Mf (b.alloc (.cells #[.slice x.a1 x.n1 x.c1,.slice x.a2 x.n2 x.c2,.slice x.a3 x.n3 x.c3,.int .u32 x.g,.slice x.a4 x.n4 x.c4,.slice x.a5 x.n5 x.c5,.int .i64 (eF f),.slice none 0 0] 83)) b.heap.size x (eF f) none 0 0 from Bq.new _ _ _);have H:=ag a.2.size;refine rR 4 (.pointer (some ⟨b.heap.size,0,none⟩)) (b.alloc (.cells #[.slice x.a1 x.n1 x.c1,.slice x.a2 x.n2 x.c2,.slice x.a3 x.n3 x.c3,.int .u32 x.g,.slice x.a4 x.n4 x.c4,.slice x.a5 x.n5 x.c5,.int .i64 (eF f),.slice none 0 0] 83)) rfl (by go_simp) z ?_
 clear a;have a:=z;try simp only[aB]
 refine rP [5] 0 ?Vn ?CP a ?Vo
 case CP=>
  iterate 1 (apply Yl.cons rfl rfl;focus (rintro i⟨j,G⟩;obtain⟨n,q,r,s,t,u⟩:=bq j;go_simp<;>rfl);try simp only[aB])
  exact Yl.nil
 refine rD ?_
 try simp only[aB]
 have m:=ag a.2;clear a z v;obtain⟨K,A⟩:=au (b.alloc (.cells #[.slice x.a1 x.n1 x.c1,.slice x.a2 x.n2 x.c2,.slice x.a3 x.n3 x.c3,.int .u32 x.g,.slice x.a4 x.n4 x.c4,.slice x.a5 x.n5 x.c5,.int .i64 (eF f),.slice none 0 0] 83));rw[A]at m l;have I:=ag (show bX K b.heap.size w.heap.size false (nH f)from⟨x,none,0,0,l.o,rfl,C.o,fun w' L=>⟨E.o.a (m.o.grown L m.o.size (by intro k M;cases M;exact H.o)),.inl ⟨rfl,.inl rfl⟩,fun h=>by cases h⟩⟩);rw[<-A]at I m;clear A;go_wp2;go_ret;exact⟨_,rfl,H.o,I.o,m.o⟩
theorem kP.keptS{d:Dk}{g:Nat×Nat}(h:kP w base v d)(b:w.grownBy w' (some q))(c:w.heap[q]? =some (.cells cs t g))(e:t≠5)(i:t≠133)(j:t≠206):kP w' base v d:=by
 obtain⟨x,y,z,rfl,a,⟨k,l,m,n⟩,⟨o,r,c1,c2⟩⟩:=h;exact⟨x,y,z,rfl,Bv a b c e,⟨k,l,Bv m b c i,fun p f=>Bv (n p f) b c e⟩,⟨o,r,Bv c1 b c j,fun p f=>Bv (c2 p f) b c e⟩⟩
def dW (w:World) (r:Nat):Prop:=∃v0 v1 v2 v3 v4 v5,Bq w r 33 #[v0,v1,v2,v3,v4,v5]
theorem dW.a(h:dW w r)(hb:ah w w'):dW w' r:=by
 obtain⟨a,b,c,d,e,f,h⟩:=h;exact⟨a,b,c,d,e,f,h.a hb⟩
theorem dW.grown{p:Nat}(h:dW w r)(b:w.grownBy w' (some p))(a:r≠p):dW w' r:=by
 obtain⟨c,d,e,f,g,i,h⟩:=h;exact⟨c,d,e,f,g,i,h.grown b a⟩
theorem dW.lt(h:dW w r):r<w.heap.size:=by
 obtain⟨a,b,c,d,e,f,h⟩:=h;exact h.lt
theorem dW.new(w:World):dW (w.alloc (.cells #[.slice none 0 0,.slice none 0 0,.slice none 0 0,.int .u32 0,.slice none 0 0,.slice none 0 0] 33)) w.heap.size:=⟨_,_,_,_,_,_,Bq.new _ _ _⟩
def bQ (w:World) (r:Nat) (x:aU):World:=(((((w.setCell ⟨r,0,none⟩ (.slice x.a1 x.n1 x.c1)).setCell ⟨r,1,none⟩ (.slice x.a2 x.n2 x.c2)).setCell ⟨r,2,none⟩ (.slice x.a3 x.n3 x.c3)).setCell ⟨r,3,none⟩ (.int .u32 x.g)).setCell ⟨r,4,none⟩ (.slice x.a4 x.n4 x.c4)).setCell ⟨r,5,none⟩ (.slice x.a5 x.n5 x.c5)
theorem dW.cells(h:dW w r):(∃v,w.cell? ⟨r,0,none⟩=some v)∧(∃v,w.cell? ⟨r,1,none⟩=some v)∧(∃v,w.cell? ⟨r,2,none⟩=some v)∧(∃v,w.cell? ⟨r,3,none⟩=some v)∧(∃v,w.cell? ⟨r,4,none⟩=some v)∧(∃v,w.cell? ⟨r,5,none⟩=some v)∧∀j,w.frozen? ⟨r,j,none⟩=false:=by
 obtain⟨a,b,c,d,e,f,h⟩:=h;exact⟨⟨_,h.cell 0⟩,⟨_,h.cell 1⟩,⟨_,h.cell 2⟩,⟨_,h.cell 3⟩,⟨_,h.cell 4⟩,⟨_,h.cell 5⟩,h.fz⟩
theorem dW.put(h:dW w r)(x:aU):bB (bQ w r x) r x∧w.grownBy (bQ w r x) (some r):=by
 obtain⟨a,b,c,d,e,f,h⟩:=h;refine⟨(((((h.put 0 _).put 1 _).put 2 _).put 3 _).put 4 _).put 5 _, ?_⟩;exact CQ (CQ (CQ (CQ (CQ (CQ (Xc6 _ _) 0 _) 1 _) 2 _) 3 _) 4 _) 5 _
def xz:aU:=⟨none,0,0,none,0,0,none,0,0,0,none,0,0,none,0,0⟩
theorem qsy(w:World)(base:Nat):bH w base (.agg #[.slice none 0 0,.slice none 0 0,.slice none 0 0,.int .u32 0,.slice none 0 0,.slice none 0 0]) fz:=⟨_,_,_,_,_,rfl,Fh w base,bi.nil _ _,bi.nil _ _⟩
theorem Vq(p base:Nat)(y:Wy)(w:World)(h:bX w p base true y)(hb:base<=w.heap.size)(aa:y.2.1=0->CO y.1.2.2.1∧CO y.1.2.2.2):
  Calls Tryz.prog 41 #[.pointer (some ⟨p,0,none⟩)] w fun e w'=>∃v,e=.returned (.tuple #[v,.int .i64 (mX y).2])∧bH w' base v (mX y).1∧ah w w':=by
 have HS:=ag h;have mD:=ag h.lt;obtain⟨x,ab,nb,cb,s,q,u,h4⟩:=h;have qR:=ag aa;obtain⟨C,Z⟩:=au (w.alloc (.cells #[.slice none 0 0,.slice none 0 0,.slice none 0 0,.int .u32 0,.slice none 0 0,.slice none 0 0] 33));have D:ah w C:=by rw[<-Z];exact ae
 have ac:=ag (s.a D);have am:=ag D;have an:=ag (show dW C w.heap.size by rw[<-Z];exact dW.new w);have HR:=ag h4;obtain⟨E,F,G,H,I,J,K,L⟩:=vE ac.o;have t:aN (fun d=>(Mf d p x y.2.1 ab nb cb∧dW d w.heap.size)∧ah w d):=fun C w3 h hb=>⟨⟨h.1.1.a hb,h.1.2.a hb⟩,h.2.trans (hb.mono h.2.size)⟩
 have A:(fun d=>(Mf d p x y.2.1 ab nb cb∧dW d w.heap.size)∧ah w d) C:=⟨⟨ac.o,an.o⟩,am.o⟩;clear s q u h4 D aa;by_cases M:¬y.2.1=0
 ·have HE:=ag (show mX y=(fz,y.2.1)by unfold mX;rw[if_pos M])
  go_enter Tryz.func41,Tryz.ntmps41;go_wp2_with fail
  try rw[Z]
  clear E F G H I J K L Z M;refine iH t (by kernel_rfl) A ?_
  intro b;generalize C.drew=wd at b⊢;refine rP [0,1,2,3,4] 2 ?AL ?nS b ?AO
  case nS=>
   iterate 5 (apply Yl.cons rfl rfl;focus (rintro d⟨⟨B,x2⟩,x3⟩;obtain⟨E,F,G,H,I,J,K,L⟩:=vE B;go_simp<;>rfl);try simp only[aB])
   exact Yl.nil
  obtain⟨⟨d0,e0⟩,⟨d1,e1⟩,⟨d2,e2⟩,⟨d3,e3⟩,⟨d4,e4⟩,⟨d5,e5⟩,l⟩:=b.1.2.cells;have f0:=l 0;have f1:=l 1;have f2:=l 2;have f3:=l 3;have f4:=l 4;have f5:=l 5;obtain⟨j,m⟩:=b.1.2.put (xz);obtain⟨f,N⟩:=ak (bQ wd w.heap.size (xz));rw[<-N]at j m;have O:ah w f:=b.2.grown m b.2.size (by intro k hk;cases hk;exact Nat.le_refl _);have P:(fun d=>(Mf d p x y.2.1 ab nb cb∧dW d w.heap.size)∧ah w d) f:=⟨⟨b.1.1.grown m (fun e=>by have:=mD.o;omega),⟨_,_,_,_,_,_,j⟩⟩,O⟩;have dG:=ag O;have z0:f.cell? ⟨w.heap.size,0,none⟩=some (.slice none 0 0):=j.cell 0;have z1:f.cell? ⟨w.heap.size,1,none⟩=some (.slice none 0 0):=j.cell 1;have z2:f.cell? ⟨w.heap.size,2,none⟩=some (.slice none 0 0):=j.cell 2;have z3:f.cell? ⟨w.heap.size,3,none⟩=some (.int .u32 0):=j.cell 3;have z4:f.cell? ⟨w.heap.size,4,none⟩=some (.slice none 0 0):=j.cell 4;have z5:f.cell? ⟨w.heap.size,5,none⟩=some (.slice none 0 0):=j.cell 5;refine rN 5 f rfl (by rw[N];unfold bQ xz;go_simp) P ?_
  clear b e0 e1 e2 e3 e4 e5 f0 f1 f2 f3 f4 f5 l j m N O;have b:=P;try simp only[aB]
  refine rP [6] 0 ?AP ?nT b ?AQ
  case nT=>
   iterate 1 (apply Yl.cons rfl rfl;focus (rintro d⟨⟨B,x2⟩,x3⟩;obtain⟨E,F,G,H,I,J,K,L⟩:=vE B;go_simp<;>rfl);try simp only[aB])
   exact Yl.nil
  refine rD ?_
  try simp only[aB]
  clear b P A t;go_wp2;refine bodyPost_ret (v:=.tuple #[.agg #[.slice none 0 0,.slice none 0 0,.slice none 0 0,.int .u32 0,.slice none 0 0,.slice none 0 0],.int .i64 y.2.1]) ?_ rfl ⟨_,by rw[HE.o],by rw[HE.o];exact qsy _ _,dG.o⟩
  simp[results,Tryz.results41,go_sem, *]
 rw[Decidable.not_not]at M;have HE:=ag (show mX y=(y.1,0)by unfold mX;rw[if_neg (by rw[M];decide)]);have uX:=ag (qR.o M);have ol:=ag M;have fu:=ag hb;go_enter Tryz.func41,Tryz.ntmps41;go_wp2_with fail
 try rw[Z]
 clear E F G H I J K L Z M;refine iH t (by kernel_rfl) A ?_
 intro b;generalize C.drew=wd at b⊢;refine rP [0,1,2,3,4,5,6,7,8,9,10,11,12,13,14,16,17,18,19,20] 5 ?L6 ?yu b ?L8
 case yu=>
  iterate 20 (apply Yl.cons rfl rfl;focus (rintro d⟨⟨B,x2⟩,x3⟩;obtain⟨E,F,G,H,I,J,K,L⟩:=vE B;go_simp<;>rfl);try simp only[aB])
  exact Yl.nil
 refine qpn t (i:=15) (R:=fun v d=>∃a n c,v=.agg #[.slice a n c]∧n=(y.1.2.2.1).length∧bi d base (.slice a n c) (y.1.2.2.1)) rfl (by kernel_rfl) (by rfl) (by go_simp) b ((qmd _ _ _ (y.1.2.2.1) _ (HR.o _ (F4 p b.2)).1.fl (HR.o _ (F4 p b.2)).1.n4 uX.o.1).mono fun e wy ⟨v,s,q,u⟩=>by
    obtain⟨a,c,Q⟩:=q.form;subst Q;exact⟨_,s,⟨a,_,c,rfl,rfl,q.mono (aG fu.o b.2.size)⟩,u⟩) (fun v C w2 ⟨a,n,c,s,q,u⟩ hb=>⟨a,n,c,s,q,u.a hb⟩) ?_
 intro aq ar r nG gU;clear t b;have t:=r;have b:=gU;clear r gU;obtain⟨S,T,U,rfl,ad,ao⟩:=nG;try simp only[aB]
 refine qpn t (i:=21) (R:=fun v d=>∃a n c,v=.agg #[.slice a n c]∧n=(y.1.2.2.2).length∧bi d base (.slice a n c) (y.1.2.2.2)) rfl (by kernel_rfl) (by rfl) (by go_simp) b ((qmd _ _ _ (y.1.2.2.2) _ (HR.o _ (F4 p b.1.2)).1.kl (HR.o _ (F4 p b.1.2)).1.n5 uX.o.2).mono fun e wy ⟨v,s,q,u⟩=>by
    obtain⟨a,c,Q⟩:=q.form;subst Q;exact⟨_,s,⟨a,_,c,rfl,rfl,q.mono (aG fu.o b.1.2.size)⟩,u⟩) (fun v C w2 ⟨a,n,c,s,q,u⟩ hb=>⟨a,n,c,s,q,u.a hb⟩) ?_
 intro aw ap r nG gU;clear t b;have t:=r;have b:=gU;clear r gU;obtain⟨V,W,X,rfl,ai,aj⟩:=nG;try simp only[aB]
 refine rP [22] 2 ?Ma ?yw b ?Mc
 case yw=>
  iterate 1 (apply Yl.cons rfl rfl;focus (rintro d⟨⟨⟨⟨B,x2⟩,x3⟩,_⟩,_⟩;obtain⟨E,F,G,H,I,J,K,L⟩:=vE B;go_simp<;>rfl);try simp only[aB])
  exact Yl.nil
 obtain⟨⟨d0,e0⟩,⟨d1,e1⟩,⟨d2,e2⟩,⟨d3,e3⟩,⟨d4,e4⟩,⟨d5,e5⟩,l⟩:=b.1.1.1.2.cells;have f0:=l 0;have f1:=l 1;have f2:=l 2;have f3:=l 3;have f4:=l 4;have f5:=l 5;obtain⟨j,m⟩:=b.1.1.1.2.put (⟨x.a1,x.n1,x.c1,x.a2,x.n2,x.c2,x.a3,x.n3,x.c3,x.g,S,T,U,V,W,X⟩);obtain⟨f,N⟩:=ak (bQ ap w.heap.size (⟨x.a1,x.n1,x.c1,x.a2,x.n2,x.c2,x.a3,x.n3,x.c3,x.g,S,T,U,V,W,X⟩));rw[<-N]at j m;have O:ah w f:=b.1.1.2.grown m b.1.1.2.size (by intro k hk;cases hk;exact Nat.le_refl _);obtain⟨av,nv,cv,Q, -,Vr⟩:=b.1.2;injection Q with Q;have al:=congrArg (fun z:Array Value=>z[0]!) Q;simp at al
 obtain⟨rfl,rfl,rfl⟩:=al;obtain⟨y0,y1,y2,y3,y4,y5,hq⟩:=b.1.1.1.2;have xq:=Vr.keptS m hq (by decide) (by decide);have Y:=aj.keptS m hq (by decide) (by decide);have kE:=ag (show bH f base (.agg #[.slice x.a1 x.n1 x.c1,.slice x.a2 x.n2 x.c2,.slice x.a3 x.n3 x.c3,.int .u32 x.g,.slice S T U,.slice V W X]) y.1 from⟨_,_,_,_,_,by rw[<-(HR.o w (Xc6 _ _)).1.g],((HR.o _ (F4 p b.1.1.2)).2.2 rfl ol.o).keptS m hq (by decide) (by decide) (by decide),xq,Y⟩);have P:(((fun d=>(((Mf d p x y.2.1 ab nb cb∧dW d w.heap.size)∧ah w d)∧∃a n c,(Value.agg #[.slice S T U])=.agg #[.slice a n c]∧n=(y.1.2.2.1).length∧bi d base (.slice a n c) (y.1.2.2.1))∧∃a n c,(Value.agg #[.slice V W X])=.agg #[.slice a n c]∧n=(y.1.2.2.2).length∧bi d base (.slice a n c) (y.1.2.2.2)):World->Prop) f):=⟨⟨⟨⟨b.1.1.1.1.grown m (fun e=>by have:=mD.o;omega),⟨_,_,_,_,_,_,j⟩⟩,O⟩,S,T,U,rfl,ad,xq⟩,V,W,X,rfl,ai,Y⟩;have dG:=ag O;have z0:f.cell? ⟨w.heap.size,0,none⟩=some (.slice x.a1 x.n1 x.c1):=j.cell 0;have z1:f.cell? ⟨w.heap.size,1,none⟩=some (.slice x.a2 x.n2 x.c2):=j.cell 1;have z2:f.cell? ⟨w.heap.size,2,none⟩=some (.slice x.a3 x.n3 x.c3):=j.cell 2;have z3:f.cell? ⟨w.heap.size,3,none⟩=some (.int .u32 x.g):=j.cell 3;have z4:f.cell? ⟨w.heap.size,4,none⟩=some (.slice S T U):=j.cell 4;have z5:f.cell? ⟨w.heap.size,5,none⟩=some (.slice V W X):=j.cell 5;refine rN 23 f rfl (by rw[N];unfold bQ;go_simp) P ?_
 clear b e0 e1 e2 e3 e4 e5 f0 f1 f2 f3 f4 f5 l j m N O hq xq Y Vr;have b:=P;try simp only[aB]
 refine rP [24] 0 ?Vk ?CL b ?Vl
 case CL=>
  iterate 1 (apply Yl.cons rfl rfl;focus (rintro d⟨⟨⟨⟨B,x2⟩,x3⟩,_⟩,_⟩;obtain⟨E,F,G,H,I,J,K,L⟩:=vE B;go_simp<;>rfl);try simp only[aB])
  exact Yl.nil
 refine rD ?_
 try simp only[aB]
 clear b P A t ao aj ad ai;go_wp2;refine bodyPost_ret (v:=.tuple #[.agg #[.slice x.a1 x.n1 x.c1,.slice x.a2 x.n2 x.c2,.slice x.a3 x.n3 x.c3,.int .u32 x.g,.slice S T U,.slice V W X],.int .i64 0]) ?_ rfl ⟨_,by rw[HE.o],by rw[HE.o];exact kE.o,dG.o⟩
 simp[results,Tryz.results41,go_sem, *]
theorem bH.keptS{j:Nat×Nat}(h:bH w base v f)(d:w.grownBy w' (some q))(e:w.heap[q]? =some (.cells cs t j))(k:t≠5)(l:t≠133)(m:t≠206)(g:t≠98)(i:t≠237):bH w' base v f:=by
 obtain⟨d1,d2,n,x,y,rfl,a,b,c⟩:=h;exact⟨d1,d2,n,x,y,rfl,a.keptS d e k l m,b.keptS d e g i,c.keptS d e g i⟩
theorem bH.form(h:bH w base v f):∃x:aU,v=x.val∧iJ w x f:=h.rd.form
theorem bH.stored{x:aU}(h:bH w base x.val f)(b:dW w r)(hb:ah w0 w)(a:w0.heap.size<=r):
  bH (bQ w r x) base x.val f∧ah w0 (bQ w r x)∧bB (bQ w r x) r x:=by
 obtain⟨d,c⟩:=b.put x;obtain⟨i,j,l,m,n,o,e⟩:=b;exact⟨h.keptS c e (by decide) (by decide) (by decide) (by decide) (by decide),hb.grown c hb.size (by intro k g;cases g;exact a),d⟩
theorem oW(h:af (dW w r))(hb:af (ah w0 w))(i:w0.heap.size<=r):
  ∃(a:World) (d d1 d2 e f g:Value),((((((w.setCell ⟨r,0,none⟩ (.slice none 0 0)).setCell ⟨r,1,none⟩ (.slice none 0 0)).setCell ⟨r,2,none⟩ (.slice none 0 0)).setCell ⟨r,3,none⟩ (.int .u32 0)).setCell ⟨r,4,none⟩ (.slice none 0 0)).setCell ⟨r,5,none⟩ (.slice none 0 0))=a∧af (bH a w0.heap.size (.agg #[.slice none 0 0,.slice none 0 0,.slice none 0 0,.int .u32 0,.slice none 0 0,.slice none 0 0]) fz∧ah w0 a)∧
   w.cell? ⟨r,0,none⟩=some d∧w.cell? ⟨r,1,none⟩=some d1∧w.cell? ⟨r,2,none⟩=some d2∧w.cell? ⟨r,3,none⟩=some e∧w.cell? ⟨r,4,none⟩=some f∧w.cell? ⟨r,5,none⟩=some g∧w.frozen? ⟨r,0,none⟩=false∧w.frozen? ⟨r,1,none⟩=false∧w.frozen? ⟨r,2,none⟩=false∧w.frozen? ⟨r,3,none⟩=false∧w.frozen? ⟨r,4,none⟩=false∧w.frozen? ⟨r,5,none⟩=false∧
   a.cell? ⟨r,0,none⟩=some (.slice none 0 0)∧a.cell? ⟨r,1,none⟩=some (.slice none 0 0)∧a.cell? ⟨r,2,none⟩=some (.slice none 0 0)∧a.cell? ⟨r,3,none⟩=some (.int .u32 0)∧a.cell? ⟨r,4,none⟩=some (.slice none 0 0)∧a.cell? ⟨r,5,none⟩=some (.slice none 0 0):=by
 have b:=(show bH w w0.heap.size (⟨none,0,0,none,0,0,none,0,0,0,none,0,0,none,0,0⟩:aU).val fz from qsy w w0.heap.size).stored (r:=r) h.o hb.o i;obtain⟨⟨d,e0⟩,⟨d1,e1⟩,⟨d2,j⟩,⟨e,k⟩,⟨f,l⟩,⟨g,m⟩,c⟩:=h.o.cells;obtain⟨n,p,q,s,t,u⟩:=bq b.2.2;exact⟨_,d,d1,d2,e,f,g,rfl,ag ⟨b.1,b.2.1⟩,e0,e1,j,k,l,m,c 0,c 1,c 2,c 3,c 4,c 5,n,p,q,s,t,u⟩
theorem zR{a:World}(b:af (D=(fz,c)))(d:af (bH a w0.heap.size (.agg #[.slice none 0 0,.slice none 0 0,.slice none 0 0,.int .u32 0,.slice none 0 0,.slice none 0 0]) fz∧ah w0 a)):
  ∃v,Ending.returned (.tuple #[.agg #[.slice none 0 0,.slice none 0 0,.slice none 0 0,.int .u32 0,.slice none 0 0,.slice none 0 0],.int .i64 c])=.returned (.tuple #[v,.int .i64 D.2])∧bH a w0.heap.size v D.1∧ah w0 a:=
 ⟨_,by rw[b.o],by rw[b.o];exact d.o.1,d.o.2⟩
theorem QG{k:Int}{a:World}(b:af (D=(fz,k)))(d:k=c)(e:af (bH a w0.heap.size (.agg #[.slice none 0 0,.slice none 0 0,.slice none 0 0,.int .u32 0,.slice none 0 0,.slice none 0 0]) fz∧ah w0 a)):
  ∃v,Ending.returned (.tuple #[.agg #[.slice none 0 0,.slice none 0 0,.slice none 0 0,.int .u32 0,.slice none 0 0,.slice none 0 0],.int .i64 c])=.returned (.tuple #[v,.int .i64 D.2])∧bH a w0.heap.size v D.1∧ah w0 a:=by
 subst d;exact zR b e
theorem qqi(h:eF f=0):CO f.2.2.1∧CO f.2.2.2:=by
 have a:=iY h;refine⟨qsx a.2.2.2.2.2, ?_⟩;rw[<-a.2.2.2.2.1];exact qsx (qla a.2.2.2.1).1
theorem Yg(h:(lN s y).2.1=0):y.2.1=0∧(s y).2=0:=by
 unfold lN at h;split at h
 ·rename_i h0;exact⟨h0,h⟩
 rename_i h0;exact absurd h h0
theorem EZ(d:Dk)(a:Ac):qJ d [a]=fq d a:=by
 show(match fq d a with|none=>none|some y=>qJ y [])=_
 cases fq d a<;>rfl
theorem qacq(h:y.2.1≠0):lN s y=y:=by unfold lN;rw[if_neg h]
theorem qagp(s:az)(i:Int)(c:aA)(nx d:Nat)(l:az)(p base g j k m:Nat)(o:Bool)(y:Wy)(w:World)(h:bX w p base o y)(q:base<=p)(n:Rd w (.slice c nx d) l)
  (r:w.cell? ⟨g,0,none⟩=some (.pointer (some ⟨p,0,none⟩))) (t:w.cell? ⟨j,0,none⟩=some (.string (bs s))) (u:w.cell? ⟨k,0,none⟩=some (.int .i64 i)) (v:w.cell? ⟨m,0,none⟩=some (.slice c nx d)):
  Calls Tryz.prog 99 #[.pointer (some ⟨g,0,none⟩),.pointer (some ⟨j,0,none⟩),.pointer (some ⟨k,0,none⟩),.pointer (some ⟨m,0,none⟩)] w fun e w'=>e=.returned (.int .i64 (jk s i l y).2)∧((jk s i l y).2=0->bX w' p base true (jk s i l y).1)∧bX w' p base false (jk s i l y).1∧w.grownBy w' (some p):=by
 have f:=qaku s i c nx d l p base o y w h q n;clear h n;go_enter Tryz.func99,Tryz.ntmps99;go_wp2_with fail
 refine f.mono ?_
 rintro e B⟨rfl,a,hs1,b⟩;have x:=ag a;have z:=ag hs1;have A:=ag b;clear a hs1 b r t u v;go_wp2;go_ret;exact⟨rfl,x.o,z.o,A.o⟩
theorem Mj(x:aU)(f:aR)(s:az)(i:Int)(c:aA)(nx d:Nat)(l:az)(w:World)(h:iJ w x f)(T:jq f)(U:Rd w (.slice c nx d) l):
  Calls Tryz.prog 45 #[x.val,.string (bs s),.int .i64 i,.slice c nx d] w fun e w'=>∃v,e=.returned (.tuple #[v,.int .i64 (l7 f s i l).2])∧bH w' w.heap.size v (l7 f s i l).1∧ah w w':=by
 have vF:=ag U;clear U;obtain⟨D,q⟩:=au (((((w.alloc (.cells x.cs 33)).alloc (.cells #[.string (bs s)] 9)).alloc (.cells #[.int .i64 i] 3)).alloc (.cells #[.slice c nx d] 23)).alloc (.cells #[.slice none 0 0,.slice none 0 0,.slice none 0 0,.int .u32 0,.slice none 0 0,.slice none 0 0] 33));have HX:=ag h;have HW:=ag T;clear h T;have V:ah w (w.alloc (.cells x.cs 33)):=ae;have W:bB (w.alloc (.cells x.cs 33)) w.heap.size x:=Bq.new _ _ _;have I:Below ((w.alloc (.cells x.cs 33))).heap.size (w.alloc (.cells x.cs 33)) ((w.alloc (.cells x.cs 33)).alloc (.cells #[.string (bs s)] 9)):=ae;have X:Bq ((w.alloc (.cells x.cs 33)).alloc (.cells #[.string (bs s)] 9)) (w.heap.size+1) 9 #[.string (bs s)]:=by have:=Bq.new (w.alloc (.cells x.cs 33)) 9 #[.string (bs s)];simpa using this
 have E:Below (((w.alloc (.cells x.cs 33)).alloc (.cells #[.string (bs s)] 9))).heap.size ((w.alloc (.cells x.cs 33)).alloc (.cells #[.string (bs s)] 9)) (((w.alloc (.cells x.cs 33)).alloc (.cells #[.string (bs s)] 9)).alloc (.cells #[.int .i64 i] 3)):=ae;have Y:Bq (((w.alloc (.cells x.cs 33)).alloc (.cells #[.string (bs s)] 9)).alloc (.cells #[.int .i64 i] 3)) (w.heap.size+2) 3 #[.int .i64 i]:=by have:=Bq.new ((w.alloc (.cells x.cs 33)).alloc (.cells #[.string (bs s)] 9)) 3 #[.int .i64 i];simpa using this
 have y:Below ((((w.alloc (.cells x.cs 33)).alloc (.cells #[.string (bs s)] 9)).alloc (.cells #[.int .i64 i] 3))).heap.size (((w.alloc (.cells x.cs 33)).alloc (.cells #[.string (bs s)] 9)).alloc (.cells #[.int .i64 i] 3)) ((((w.alloc (.cells x.cs 33)).alloc (.cells #[.string (bs s)] 9)).alloc (.cells #[.int .i64 i] 3)).alloc (.cells #[.slice c nx d] 23)):=ae;have Z:Bq ((((w.alloc (.cells x.cs 33)).alloc (.cells #[.string (bs s)] 9)).alloc (.cells #[.int .i64 i] 3)).alloc (.cells #[.slice c nx d] 23)) (w.heap.size+3) 23 #[.slice c nx d]:=by have:=Bq.new (((w.alloc (.cells x.cs 33)).alloc (.cells #[.string (bs s)] 9)).alloc (.cells #[.int .i64 i] 3)) 23 #[.slice c nx d];simpa using this
 have t:Below (((((w.alloc (.cells x.cs 33)).alloc (.cells #[.string (bs s)] 9)).alloc (.cells #[.int .i64 i] 3)).alloc (.cells #[.slice c nx d] 23))).heap.size ((((w.alloc (.cells x.cs 33)).alloc (.cells #[.string (bs s)] 9)).alloc (.cells #[.int .i64 i] 3)).alloc (.cells #[.slice c nx d] 23)) D:=by rw[<-q];exact ae
 have qE:=ag (show dW D (w.heap.size+4)by have:=dW.new ((((w.alloc (.cells x.cs 33)).alloc (.cells #[.string (bs s)] 9)).alloc (.cells #[.int .i64 i] 3)).alloc (.cells #[.slice c nx d] 23));rw[<-q];simpa using this);have J:=V;have K:=J.trans (I.mono J.size);have L:=K.trans (E.mono K.size);have M:=L.trans (y.mono L.size);have b9:=M.trans (t.mono M.size);have bg:=ag b9;have fD:=ag (((((W).a I).a E).a y).a t);have Ml:=ag ((((X).a E).a y).a t);have Vs:=ag (((Y).a y).a t);have Mm:=ag ((Z).a t);have kv:=ag (show D.heap.size=w.heap.size+5 by rw[<-q];simp);clear W V t b9 J I K X E L Y y M Z;unfold aU.val;unfold aU.cs at q;obtain⟨k0,k1,k2,k3,k4,k5⟩:=bq fD.o;go_enter Tryz.func45,Tryz.ntmps45;go_wp2_with fail
 try rw[q]
 refine(qxf x f D (HX.o.a bg.o) HW.o).mono ?_
 rintro e u⟨p,rfl,hp,z,b⟩;have aa:w.heap.size+5<=p:=by have:=kv.o;omega
 have j6:=ag (qE.o.a b);have N:=ag (Ml.o.a b);have Mo:=ag (Vs.o.a b);have Mq:=ag (Mm.o.a b);have aY:=bT bg b;have O:=ag (show bX u p w.heap.size false (nH f)by obtain⟨y1,y2,y3,y4,y5,y6,y7,y8⟩:=z;exact⟨y1,y2,y3,y4,y5,y6,y7,fun w' hg=>⟨(y8 w' hg).1,(y8 w' hg).2.1,fun h=>by cases h⟩⟩);clear z b hp q k0 k1 k2 k3 k4 k5;obtain⟨A,F⟩:=au (u.alloc (.cells #[.pointer (some ⟨p,0,none⟩)] 81));have a:ah u A:=by rw[<-F];exact ae
 have CR:=ag (show Bq A u.heap.size 81 #[.pointer (some ⟨p,0,none⟩)]by rw[<-F];exact Bq.new _ _ _);have qb:=ag (j6.o.a a);have P:=ag (N.o.a a);have Ms:=ag (Mo.o.a a);have Mt:=ag (Mq.o.a a);have Q:=ag (O.o.a a);have G:=bT aY a;have mD:=ag O.o.lt;clear a;have ht:=Vl 99 (.pointer (some ⟨u.heap.size,0,none⟩)) (.pointer (some ⟨w.heap.size+1,0,none⟩)) (.pointer (some ⟨w.heap.size+2,0,none⟩)) (.pointer (some ⟨w.heap.size+3,0,none⟩)) (jk s i l) p w.heap.size false true (nH f) A Q.o (Mh _ _ _ _) (fun wx=>by go_simp) (fun h0=>qagp s i c nx d l p w.heap.size _ _ _ _ false (nH f) A Q.o (by omega) (vF.o.a G.o) (CR.o.cell 0) (P.o.cell 0) (Ms.o.cell 0) (Mt.o.cell 0));have c9:A.cell? ⟨u.heap.size,0,none⟩=some (.pointer (some ⟨p,0,none⟩)):=CR.o.cell 0;go_wp2_with fail
 try rw[F]
 refine ht.mono ?_
 rintro e w4⟨rfl,B,j⟩;have yx:=ag (qb.o.grown j (by omega));have gY:=ag (show ah w w4 from G.o.grown j G.o.size (by intro k hk;cases hk;omega));have m:=Vq p w.heap.size _ w4 B gY.o.size (fun h0=>by have:=Yg h0;have h1:=qqi this.1;unfold lN;rw[if_pos this.1];unfold jk;split<;>exact h1);rw[show mX (lN (jk s i l) (nH f))=l7 f s i l from rfl]at m;clear ht B j O aY j6 Q G qb c9 F;go_wp2_with fail
 refine m.mono ?_
 rintro e w5⟨v9,rfl,R,S⟩;have C:=ag (yx.o.a S);have BA:=bT gY S;clear m S;obtain⟨x9,e9, -⟩:=R.form;subst e9;have g:=ag (R.stored (r:=w.heap.size+4) C.o BA.o (by omega));obtain⟨⟨d0,e0⟩,⟨d1,e1⟩,⟨d2,e2⟩,⟨d3,e3⟩,⟨d4,e4⟩,⟨d5,e5⟩,n⟩:=C.o.cells;have f0:=n 0;have f1:=n 1;have f2:=n 2;have f3:=n 3;have f4:=n 4;have f5:=n 5;clear n R;unfold aU.val;go_wp2;obtain⟨w9,H⟩:=ak (bQ w5 (w.heap.size+4) x9);rw[<-H]at g;unfold bQ at H;rw[<-H];clear e0 e1 e2 e3 e4 e5 f0 f1 f2 f3 f4 f5 H;obtain⟨z0,z1,z2,z3,z4,z5⟩:=bq g.o.2.2;try simp only[Exit.inBlock,Exit.then]
 refine bodyPost_ret (v:=.tuple #[x9.val,.int .i64 (l7 f s i l).2]) ?_ rfl ⟨_,rfl,g.o.1,g.o.2.1⟩
 simp[results,Tryz.results45,go_sem, *]
theorem qmf(h:y.2.1=0):lN s y=((s y).1.1,(s y).2,(s y).1.2.2):=by unfold lN;rw[if_pos h]
theorem qu4(n:Nat)(g:Array Value)(dl:List Fl)(q:Int)(p base r s:Nat)(y:Wy)(w:World)(h:bX w p base false y)(Z:base<=p)(t:gL dl)
  (S:∀b:World,(callFunc n g).run Tryz.prog b=.ok (.enter n g) b)
  (hd:∀b,ah w b->Calls Tryz.prog n g b fun e w'=>∃v,e=.returned (.tuple #[.agg #[v],.int .i64 q])∧bi w' b.heap.size v dl∧ah b w')
  (z:w.cell? ⟨r,0,none⟩=some (.func (.func n) #[] g)) (u:w.cell? ⟨s,0,none⟩=some (.pointer (some ⟨p,0,none⟩))) (D:r≠p) (E:s≠p):
  Calls Tryz.prog 174 #[.pointer (some ⟨r,0,none⟩),.pointer (some ⟨s,0,none⟩)] w fun e w'=>e=.returned (.int .i64 (qO dl q y).2)∧((qO dl q y).2=0->bX w' p base false (qO dl q y).1)∧bX w' p base false (qO dl q y).1∧w.grownBy w' (some p):=by
 have M:=ag h;have T:=ag hd;have U:=ag t;have F:aN (fun b=>b.cell? ⟨r,0,none⟩=some (.func (.func n) #[] g)∧b.cell? ⟨s,0,none⟩=some (.pointer (some ⟨p,0,none⟩))):=fun w1 w2 h N=>⟨aV _ _ _ _ h.1 N,aV _ _ _ _ h.2 N⟩
 have j:(fun b=>b.cell? ⟨r,0,none⟩=some (.func (.func n) #[] g)∧b.cell? ⟨s,0,none⟩=some (.pointer (some ⟨p,0,none⟩))) w:=⟨z,u⟩;clear h hd t;go_enter Tryz.func174,Tryz.ntmps174;go_wp2_with fail
 clear z u;refine iH F (by kernel_rfl) j ?_
 intro d;refine rP [0,1] 9 ?AL ?nS d ?AO
 case nS=>
  iterate 2 (apply Yl.cons rfl rfl;focus (rintro b⟨O,P⟩;go_simp<;>rfl);try simp only[aB])
  exact Yl.nil
 refine pR (i:=2) (R:=fun v b=>∃A x B,v=.tuple #[.agg #[.slice A x B],.int .i64 q]∧x=dl.length∧bi b w.heap.size (.slice A x B) dl∧ah w b) rfl (by kernel_rfl) (by rfl) (by go_simp) ((T.o w.drew aI).mono fun e wy ⟨v,z,u,h3⟩=>by
   obtain⟨a,c,V⟩:=u.form;subst V;exact⟨_,z,a,_,c,rfl,rfl,u,aF.drew.trans h3⟩) ?_
 rintro v6 G⟨A,x,B,rfl,H,Q,f⟩;have k:=F _ _ j f;refine⟨k, ?_⟩;clear d;have d:=k;try simp only[aB]
 refine rP [3,4,5,6,7,8] 2 ?AP ?nT d ?AQ
 case nT=>
  iterate 6 (apply Yl.cons rfl rfl;focus (rintro b⟨O,P⟩;go_simp<;>rfl);try simp only[aB])
  exact Yl.nil
 have l:=M.o.setDir f H U.o Q;obtain⟨x7,ab7,W,X,I, -⟩:=M.o.a f;have Y:=I.fz 4;have c4:=I.cell 4;simp only[List.getElem?_toArray,List.getElem?_cons_zero,List.getElem?_cons_succ]at c4;obtain⟨J,C⟩:=ak (G.setCell ⟨p,4,none⟩ (.slice A x B));rw[<-C]at l;have m:=ag l;have K:G.grownBy J (some p):=by rw[C];exact nO G ⟨p,4,none⟩ _
 have L:(fun b=>b.cell? ⟨r,0,none⟩=some (.func (.func n) #[] g)∧b.cell? ⟨s,0,none⟩=some (.pointer (some ⟨p,0,none⟩))) J:=⟨K.cell d.1 (by intro e;injection e with e;exact D e),K.cell d.2 (by intro e;injection e with e;exact E e)⟩;refine rN 9 J rfl (by rw[C];go_simp) L ?_
 clear d l I Y c4 C K Q f k;have d:=L;try simp only[aB]
 refine rP [10] 0 ?Vn ?CP d ?Vo
 case CP=>
  iterate 1 (apply Yl.cons rfl rfl;focus (rintro b⟨O,P⟩;go_simp<;>rfl);try simp only[aB])
  exact Yl.nil
 refine rD ?_
 try simp only[aB]
 clear d L j F;go_wp2;go_ret;exact⟨rfl,fun _=>m.o.1,m.o.1,m.o.2⟩
theorem qs0(n:Nat)(d:Array Value)(dl:List Fl)(g:Int)(x:aU)(f:aR)(w:World)(h:iJ w x f)(hw:jq f)(B:gL dl)(C:eF f=0->g=0->CO dl)
  (D:∀a:World,(callFunc n d).run Tryz.prog a=.ok (.enter n d) a)
  (hd:∀a,ah w a->Calls Tryz.prog n d a fun e w'=>∃v,e=.returned (.tuple #[.agg #[v],.int .i64 g])∧bi w' a.heap.size v dl∧ah a w'):
  Calls Tryz.prog 96 #[x.val,.func (.func n) #[] d] w fun e w'=>∃v,e=.returned (.tuple #[v,.int .i64 (rH f dl g).2])∧bH w' w.heap.size v (rH f dl g).1∧ah w w':=by
 have Qu:=ag D;have HD:=ag hd;have yg:=ag B;have Y:=ag C;clear D hd B C;rw[<-qabm];obtain⟨E,z⟩:=au (((w.alloc (.cells x.cs 33)).alloc (.cells #[.func (.func n) #[] d] 154)).alloc (.cells #[.slice none 0 0,.slice none 0 0,.slice none 0 0,.int .u32 0,.slice none 0 0,.slice none 0 0] 33));have HX:=ag h;have HW:=ag hw;clear h hw;have q0:ah w (w.alloc (.cells x.cs 33)):=ae;have F0:bB (w.alloc (.cells x.cs 33)) w.heap.size x:=Bq.new _ _ _;have Z:Below ((w.alloc (.cells x.cs 33))).heap.size (w.alloc (.cells x.cs 33)) ((w.alloc (.cells x.cs 33)).alloc (.cells #[.func (.func n) #[] d] 154)):=ae;have C0:Bq ((w.alloc (.cells x.cs 33)).alloc (.cells #[.func (.func n) #[] d] 154)) (w.heap.size+1) 154 #[.func (.func n) #[] d]:=by have:=Bq.new (w.alloc (.cells x.cs 33)) 154 #[.func (.func n) #[] d];simpa using this
 have O:Below (((w.alloc (.cells x.cs 33)).alloc (.cells #[.func (.func n) #[] d] 154))).heap.size ((w.alloc (.cells x.cs 33)).alloc (.cells #[.func (.func n) #[] d] 154)) E:=by rw[<-z];exact ae
 have qE:=ag (show dW E (w.heap.size+2)by have:=dW.new ((w.alloc (.cells x.cs 33)).alloc (.cells #[.func (.func n) #[] d] 154));rw[<-z];simpa using this);have b0:=q0;have b1:=b0.trans (Z.mono b0.size);have b9:=b1.trans (O.mono b1.size);have bg:=ag b9;have fD:=ag (((F0).a Z).a O);have Ml:=ag ((C0).a O);have kv:=ag (show E.heap.size=w.heap.size+3 by rw[<-z];simp);clear F0 q0 O b9 b0 Z b1 C0;unfold aU.val;unfold aU.cs at z;obtain⟨k0,k1,k2,k3,k4,k5⟩:=bq fD.o;go_enter Tryz.func96,Tryz.ntmps96;go_wp2_with fail
 try rw[z]
 refine(qxf x f E (HX.o.a bg.o) HW.o).mono ?_
 rintro e c⟨p,rfl,hp,F,l⟩;have ab:w.heap.size+3<=p:=by have:=kv.o;omega
 have j6:=ag (qE.o.a l);have G:=ag (Ml.o.a l);have aY:=bT bg l;have Mr:=ag (show bX c p w.heap.size false (nH f)by obtain⟨y1,y2,y3,y4,y5,y6,y7,y8⟩:=F;exact⟨y1,y2,y3,y4,y5,y6,y7,fun w' hg=>⟨(y8 w' hg).1,(y8 w' hg).2.1,fun h=>by cases h⟩⟩);clear F l hp z k0 k1 k2 k3 k4 k5;obtain⟨q,P⟩:=au (c.alloc (.cells #[.pointer (some ⟨p,0,none⟩)] 81));have i:ah c q:=by rw[<-P];exact ae
 have CR:=ag (show Bq q c.heap.size 81 #[.pointer (some ⟨p,0,none⟩)]by rw[<-P];exact Bq.new _ _ _);have qb:=ag (j6.o.a i);have H:=ag (G.o.a i);have QH:=ag (Mr.o.a i);have df:=bT aY i;have Q:=ag Mr.o.lt;clear i;have hK:aN (fun a=>a.cell? ⟨c.heap.size,0,none⟩=some (.pointer (some ⟨p,0,none⟩))):=fun E c h hb=>aV _ _ _ _ h hb
 have I:(fun a=>a.cell? ⟨c.heap.size,0,none⟩=some (.pointer (some ⟨p,0,none⟩))) q:=CR.o.cell 0;go_wp2_with fail
 try rw[P]
 have j:ah q q.drew:=aI;have Mv:=ag (qb.o.a j);have Mw:=ag (H.o.a j);have IK:=ag (QH.o.a j);have R:=ag (show ah w q.drew from df.o.trans (j.mono df.o.size));clear P Mr aY j6 G QH df qb H CR;refine iH hK (by kernel_rfl) I ?_
 intro b;clear I j;generalize q.drew=wd at *;refine rP [0,1,3,4] 7 ?L6 ?yu b ?L8
 case yu=>
  iterate 4 (apply Yl.cons rfl rfl;focus (rintro a x1;go_simp<;>rfl);try simp only[aB])
  exact Yl.nil
 have J:=qakv 174 (.pointer (some ⟨w.heap.size+1,0,none⟩)) (.pointer (some ⟨c.heap.size,0,none⟩)) (qO dl g) p w.heap.size false false (nH f) wd IK.o rfl (fun a=>by go_simp) (fun h0=>qu4 n d dl g p w.heap.size _ _ (nH f) wd IK.o (by omega) yg.o Qu.o (fun a hb=>HD.o a (R.o.trans (hb.mono R.o.size))) (Mw.o.cell 0) b (by omega) (by have:=Q.o;omega));refine rC 2 (fun v a=>v=.pointer (some ⟨p,0,none⟩)∧bX a p w.heap.size false (lN (qO dl g) (nH f))∧wd.grownBy a (some p)) rfl (J.mono fun e wy h=>⟨_,h.1,rfl,h.2.1,h.2.2⟩) ?_
 clear J;rintro ac K⟨rfl,Mx,S⟩;have MB:(fun a=>a.cell? ⟨c.heap.size,0,none⟩=some (.pointer (some ⟨p,0,none⟩))) K:=S.cell b (by intro e;injection e with e;have e:c.heap.size=p:=e;have:=Q.o;omega);refine⟨MB, ?_⟩;have L:=ag (Mv.o.grown S (by omega));have FP:=ag (show ah w K from R.o.grown S R.o.size (by intro k hk;cases hk;omega));clear b;have b:=MB;clear MB S;try simp only[aB]
 have J:=Mg 175 KC p w.heap.size false true _ K Mx rfl (fun a=>by go_simp) (fun h0=>(qago p w.heap.size false _ K Mx (by omega)).mono fun e w' h=>⟨h.1,fun _=>h.2.1,h.2.1.any,h.2.2⟩);refine rC 5 (fun v a=>v=.pointer (some ⟨p,0,none⟩)∧bX a p w.heap.size true (lN KC (lN (qO dl g) (nH f)))∧K.grownBy a (some p)) rfl (J.mono fun e wy h=>⟨_,h.1,rfl,h.2.1,h.2.2⟩) ?_
 clear J;rintro ad T⟨rfl,Vt,U⟩;have MC:(fun a=>a.cell? ⟨c.heap.size,0,none⟩=some (.pointer (some ⟨p,0,none⟩))) T:=U.cell b (by intro e;injection e with e;have e:c.heap.size=p:=e;have:=Q.o;omega);refine⟨MC, ?_⟩;have M:=ag (L.o.grown U (by omega));have N:=ag (show ah w T from FP.o.grown U FP.o.size (by intro k hk;cases hk;omega));clear b;have b:=MC;clear MC U Mx;try simp only[aB]
 have s:=Vq p w.heap.size _ T Vt N.o.size (fun h0=>by
   have V:=Yg h0;have A:=Yg V.1;have h3:=qqi A.1;have h4:=Y.o A.1 A.2;rw[qmf V.1,qmf A.1];exact⟨h4,h3.2⟩)
 rw[show mX (lN KC (lN (qO dl g) (nH f)))=Ql f dl g from rfl]at s;refine rC 6 (fun v a=>∃u,v=.tuple #[u,.int .i64 (Ql f dl g).2]∧bH a w.heap.size u (Ql f dl g).1∧ah T a) rfl (s.mono fun e wy ⟨u,V,A,h3⟩=>⟨_,V,u,rfl,A,h3⟩) ?_
 clear s;rintro ai ME⟨U2,rfl,bK,W⟩;have MF:=hK _ _ b W;refine⟨MF, ?_⟩;have t:=ag (M.o.a W);have aa:=bT N W;obtain⟨x9,e9, -⟩:=bK.form;subst e9;have m:=ag (bK.stored (r:=w.heap.size+2) t.o aa.o (by omega));clear b;have b:=MF;clear MF W Vt bK;try simp only[aB]
 refine rP [7,8] 2 ?Ma ?yw b ?Mc
 case yw=>
  iterate 2 (apply Yl.cons rfl rfl;focus (rintro a x1;go_simp<;>rfl);try simp only[aB])
  exact Yl.nil
 obtain⟨⟨d0,e0⟩,⟨d1,e1⟩,⟨d2,e2⟩,⟨d3,e3⟩,⟨d4,e4⟩,⟨d5,e5⟩,y⟩:=t.o.cells;have f0:=y 0;have f1:=y 1;have f2:=y 2;have f3:=y 3;have f4:=y 4;have f5:=y 5;have bu:=(t.o.put x9).2;obtain⟨w9,X⟩:=ak (bQ ME (w.heap.size+2) x9);rw[<-X]at m bu;have bV:(fun a=>a.cell? ⟨c.heap.size,0,none⟩=some (.pointer (some ⟨p,0,none⟩))) w9:=bu.cell b (by intro e;injection e with e;have e:c.heap.size=w.heap.size+2:=e;have:=Q.o;omega);unfold bQ at X;refine rN 9 w9 rfl (by rw[X];go_simp) bV ?_
 clear b X bu e0 e1 e2 e3 e4 e5 f0 f1 f2 f3 f4 f5 y;have b:=bV;clear bV;obtain⟨z0,z1,z2,z3,z4,z5⟩:=bq m.o.2.2;try simp only[aB]
 refine rP [10] 0 ?Vk ?CL b ?Vl
 case CL=>
  iterate 1 (apply Yl.cons rfl rfl;focus (rintro a x1;go_simp<;>rfl);try simp only[aB])
  exact Yl.nil
 refine rD ?_
 try simp only[aB]
 clear b hK;go_wp2;refine bodyPost_ret (v:=.tuple #[x9.val,.int .i64 (Ql f dl g).2]) ?_ rfl ⟨_,rfl,m.o.1,m.o.2.1⟩
 simp[results,Tryz.results96,go_sem, *]
end Go.Proofs.YtmeaiocohalphaaGreatDoor
