/-
  What files.Read does: files are cut from bytes; Read.
-/
import Derived.Test.YtmeaiocohalphaaGreatDoorFiRef1
set_option maxHeartbeats 4000000
set_option maxRecDepth 100000
namespace Go.Proofs.YtmeaiocohalphaaGreatDoor
open Go.RowKit
set_option linter.all false
variable {w w':World}{base c m n q:Nat}{s:ByteArray}{v x y:Value}{l r:az}{b:TypeId}
def aP (w:World) (q:Nat) (s:ByteArray) (y:Value):Prop:=w.heap[q]? =some (.cells #[.string s,y] 98 (0,0))
theorem aP.a(h:aP w q s y)(hb:ah w w'):aP w' q s y:=(hb.block q (Xd6.1 h).1).trans h
theorem aP.cell1(h:aP w q s y):w.cell? ⟨q,1,none⟩=some y:=by rw[cell_of_row w q 1 _ _ (0,0) h];rfl
theorem aP.cell0(h:aP w q s y):w.cell? ⟨q,0,none⟩=some (.string s):=by rw[cell_of_row w q 0 _ _ (0,0) h];rfl
theorem aP.new(w:World)(s:ByteArray)(y:Value):aP (w.alloc (.cells #[.string s,y] 98)) w.heap.size s y:=heap_alloc_new w _
def zC (w:World) (v:Value) (l:az):Prop:=
 (l=[]∧(v=.slice none 0 0∨∃a c,v=.slice (some a) 0 c))∨
 ∃b off c cs,v=.slice (some ⟨b,off,none⟩) l.length c∧l.length<=c∧c<=maxLen∧w.heap[b]? =some (.cells cs 5 (0,0))∧∀j,(h:j<l.length)->w.cell? ⟨b,off+j,none⟩=some (.int .u8 (l[j]).toNat)
theorem zC.rd(h:zC w v l):Rd w v l:=by
 rcases h with h|⟨b,a,c,cs,e,d,f,_,g⟩
 ·exact .inl h
 exact .inr ⟨b,a,c,e,d,f,g⟩
theorem zC.a(h:zC w v l)(hb:ah w w'):zC w' v l:=by
 rcases h with h|⟨b,a,c,cs,e,i,k,d,f⟩
 ·exact .inl h
 exact .inr ⟨b,a,c,cs,e,i,k,(hb.block b (Xd6.1 d).1).trans d,fun j g=>by rw[hb.cell (Xa6 w _ (f j g))];exact f j g⟩
theorem jF.rdU(h:jF w base v l):zC w v l:=by
 rcases h.2 with⟨rfl,a⟩|⟨g,cap,b,rfl,_,d,a,e,f,c⟩
 ·exact .inl ⟨Xb6.1 a,.inl rfl⟩
 refine .inr ⟨g,0,cap,b,rfl,a,e,d,fun j i=>?_⟩;have:=h.cells (g:=g) rfl j (.int .u8 (l[j]).toNat) (by simp[bO,List.getElem?_eq_getElem i])
 simpa [Addr.add_lit]using this
def bU (t0:TypeId) (w w':World):Prop:=∀(k:Nat) (cs:Array Value) (t:TypeId) (fr:Nat×Nat),t≠t0->w.heap[k]? =some (Obj.cells cs t fr)->w'.heap[k]? =some (Obj.cells cs t fr)
theorem zC.keepT(h:zC w v l){d:TypeId}(i:5≠d)(k:bU d w w'):zC w' v l:=by
 rcases h with h|⟨b,a,c,cs,e,m,n,f,o⟩
 ·exact .inl h
 have g:=k b cs _ _ i f;refine .inr ⟨b,a,c,cs,e,m,n,g,fun j p=>?_⟩;rw[cell_of_row w' b _ _ _ (0,0) g,<-cell_of_row w b _ _ _ (0,0) f];exact o j p
def iM (v:Value) (l:az) (v':Value) (r:az):Prop:=(∀wx,Rd wx v l->Rd wx v' r)∧∀wx,zC wx v l->zC wx v' r
theorem iM.refl(v:Value)(l:az):iM v l v l:=⟨fun _ h=>h,fun _ h=>h⟩
theorem iM.trans{b c:Value}{d e:az}(h:iM v l b d)(k:iM b d c e):iM v l c e:=⟨fun w a=>k.1 w (h.1 w a),fun w a=>k.2 w (h.2 w a)⟩
theorem qqa{b d k:Nat}(p:n=l.length)(v:n<=c)(w:c<=maxLen)(x:k<=n)(q:k≠c):iM (.slice (some ⟨b,d,none⟩) n c) l (.slice (some ⟨b,d+k,none⟩) (l.drop k).length (c-k)) (l.drop k):=by
 subst p;have hl:(l.drop k).length=l.length-k:=Xa9;have i:∀(f:World) (g a m:Nat),Value.slice (some ⟨b,d,none⟩) l.length c=.slice (some ⟨g,a,none⟩) l.length m->(∀j,(h:j<l.length)->f.cell? ⟨g,a+j,none⟩=some (.int .u8 (l[j]).toNat))->∀j,(h:j<(l.drop k).length)->f.cell? ⟨b,d+k+j,none⟩=some (.int .u8 ((l.drop k)[j]).toNat):=by
  intro f g a m e h j y;cases e;rw[List.getElem_drop,Nat.add_assoc];exact h (k+j) (by omega)
 refine⟨fun f h=>?_,fun f h=>?_⟩
 ·rcases h with⟨h,_⟩|⟨g,a,m,e,r,s,o⟩
  ·have:l.drop k=[]:=by rw[h];simp
   rw[this];exact .inl ⟨rfl,.inr ⟨_,_,rfl⟩⟩
  exact .inr ⟨b,d+k,c-k,rfl,by omega,by omega,i f g a m e o⟩
 rcases h with⟨h,_⟩|⟨g,a,m,cs,e,r,s,t,o⟩
 ·have:l.drop k=[]:=by rw[h];simp
  rw[this];exact .inl ⟨rfl,.inr ⟨_,_,rfl⟩⟩
 have u:=e;cases u;exact .inr ⟨b,d+k,c-k,cs,rfl,by omega,by omega,t,i f b d c e o⟩
theorem uW{a:Addr}(b:r=[])(d:Nat):iM (.slice (some a) n c) l (.slice (some a) r.length d) r:=by
 subst b;exact⟨fun _ _=>.inl ⟨rfl,.inr ⟨_,_,rfl⟩⟩,fun _ _=>.inl ⟨rfl,.inr ⟨_,_,rfl⟩⟩⟩
theorem qakn(h:eY l=some (m,r)):∃k,rd l=some (m,k)∧m<=4096∧r=l.drop k:=by
 unfold eY at h;cases e:rd l with
 |none=>rw[e]at h;cases h
 |some p=>
  obtain⟨n,k⟩:=p;rw[e]at h;simp only at h
  by_cases a:n<=4096
  ·rw[if_pos a]at h
   injection h with h;injection h with e1 e2;subst e1 e2;exact⟨k,rfl,a,rfl⟩
  rw[if_neg a]at h;cases h
theorem Ug(a:aA)(n c:Nat)(l r:az)(m:Nat)(w:World)(p:Rd w (.slice a n c) l)(h:eY l=some (m,r)):
  Calls Tryz.prog 256 #[.slice a n c] w fun e w'=>∃a2 c2,e=.returned (.tuple #[.int .i64 m,.slice a2 r.length c2,.int .i64 0])∧iM (.slice a n c) l (.slice a2 r.length c2) r∧ah w w':=by
 obtain⟨k,e1,D,j⟩:=qakn h;have d:=qly w p;rw[e1]at d;unfold nZ at d;obtain⟨A,g,x,E⟩:=JV e1;have F:=ag j;rcases p with⟨hl,_⟩|⟨b,f,G,e,u,y,z⟩
 ·rw[hl]at g;simp at g;omega
 obtain⟨H,i⟩:=ak l.length;rw[<-i]at e u g;cases e;have I:decide ((4096:Int)<m)=false:=aC (by omega);have J:IntKind.i64.wrap (m:Int)=m:=by rw[IntKind.wrap_i64];omega
 have K:(k:Int)<=n:=by omega
 have L:(0:Int)<=k:=by omega
 have M:(n:Int)<=c:=by omega
 unfold maxLen at y;by_cases q:k=c
 ·have t:=ag (show iM (.slice (some ⟨b,f,none⟩) n c) l (.slice (some ⟨b,f,none⟩) r.length 0) r from uW (by rw[j];exact List.drop_of_length_le (by omega)) 0)
  have s:r.length=0:=by rw[j,Xa9];omega
  have v:n=k:=by omega
  subst q;subst v;rw[s]at t⊢;clear z j h e1 i s g u y;go_enter Tryz.func256,Tryz.ntmps256;go_wp2_with fail
  refine d.mono ?_
  rintro e B⟨rfl,rfl⟩;clear d;go_wp2;go_quiet (fail)
  go_wp2;go_ret3;exact⟨some ⟨b,f,none⟩,0,by simp_all,t.o,below_drewN aF _⟩
 have t:=ag (show iM (.slice (some ⟨b,f,none⟩) n c) l (.slice (some ⟨b,f+k,none⟩) r.length (c-k)) r by rw[j];exact qqa i u (by unfold maxLen;omega) g q);have C:=ag (show r.length=n-k by rw[j,Xa9,<-i]);clear z j h e1 i;go_enter Tryz.func256,Tryz.ntmps256;go_wp2_with fail
 refine d.mono ?_
 rintro e B⟨rfl,rfl⟩;clear d;go_wp2;go_quiet (fail)
 go_wp2;go_ret3;exact⟨some ⟨b,f+k,none⟩,c-k,by rw[C.o];simp,t.o,below_drewN aF _⟩
theorem tX(a:aA)(n c:Nat)(l:az)(w:World)(d:Rd w (.slice a n c) l)(h:eY l=none):
  Calls Tryz.prog 256 #[.slice a n c] w fun e w'=>e=.returned (.tuple #[.int .i64 0,.slice none 0 0,.int .i64 8])∧ah w w':=by
 have b:=qly w d;cases e:rd l with
 |none=>
  rw[e]at b;unfold nZ at b;clear d h e;go_enter Tryz.func256,Tryz.ntmps256;go_wp2_with fail
  refine b.mono ?_
  rintro e g⟨rfl,rfl⟩;clear b;go_wp2;go_ret3;exact⟨rfl,aF⟩
 |some p=>
  obtain⟨m,k⟩:=p;rw[e]at b;unfold nZ at b;have f:4096<m:=by
   unfold eY at h;rw[e]at h;simp only at h
   by_cases f:m<=4096
   ·rw[if_pos f]at h;cases h
   omega
  have i:(4096:Int)<m:=by omega
  clear d h e;go_enter Tryz.func256,Tryz.ntmps256;go_wp2_with fail
  refine b.mono ?_
  rintro e g⟨rfl,rfl⟩;clear b;go_wp2;go_ret3;exact⟨rfl,aF⟩
def dD (w:World) (q:Nat) (x y:Value):Prop:=w.heap[q]? =some (.cells #[x,y] 237 (0,0))
theorem dD.a(h:dD w q x y)(hb:ah w w'):dD w' q x y:=(hb.block q (Xd6.1 h).1).trans h
theorem dD.cell0(h:dD w q x y):w.cell? ⟨q,0,none⟩=some x:=by rw[cell_of_row w q 0 _ _ (0,0) h];rfl
theorem dD.cell1(h:dD w q x y):w.cell? ⟨q,1,none⟩=some y:=by rw[cell_of_row w q 1 _ _ (0,0) h];rfl
theorem dD.new(w:World)(x y:Value):dD (w.alloc (.cells #[x,y] 237)) w.heap.size x y:=heap_alloc_new w _
theorem dD.put(h:dD w q x y)(u v:Value):dD ((w.setCell ⟨q,0,none⟩ u).setCell ⟨q,1,none⟩ v) q u v:=by
 have a1:=heap_setCell_same w q 0 _ 237 u h;have a2:=heap_setCell_same (w.setCell ⟨q,0,none⟩ u) q 1 _ 237 v a1;unfold dD;rw[a2];rfl
theorem qy9{x:Ex}(h:lX l=some (x,r)):∃(b a:Nat) (q:az),eY l=some (b,q)∧eY q=some (a,r)∧x=((b:Int),(a:Int)):=by
 unfold lX at h;cases e:eY l with
 |none=>rw[e]at h;cases h
 |some p=>
  obtain⟨m,q⟩:=p;rw[e]at h;simp only at h
  cases e2:eY q with
  |none=>rw[e2]at h;cases h
  |some p=>
   obtain⟨a,c⟩:=p;rw[e2]at h;simp only at h
   injection h with h;injection h with h1 h2;subst h1 h2;exact⟨m,a,q,rfl,e2,rfl⟩
theorem qaf9(h:lX l=none):eY l=none∨∃m q,eY l=some (m,q)∧eY q=none:=by
 unfold lX at h;cases e:eY l with
 |none=>exact .inl rfl
 |some p=>
  obtain⟨m,q⟩:=p;rw[e]at h;simp only at h
  cases e2:eY q with
  |none=>exact .inr ⟨m,q,rfl,e2⟩
  |some p=>
   obtain⟨a,b⟩:=p;rw[e2]at h;cases h
theorem quv(a:aA)(n c:Nat)(l r:az)(x:Ex)(w:World)(d:Rd w (.slice a n c) l)(h:lX l=some (x,r)):
  Calls Tryz.prog 276 #[.slice a n c] w fun e w'=>∃a2 c2,e=.returned (.tuple #[.agg #[.int .i64 x.1,.int .i64 x.2],.slice a2 r.length c2,.int .i64 0])∧iM (.slice a n c) l (.slice a2 r.length c2) r∧ah w w':=by
 obtain⟨j,m,q,e1,I,rfl⟩:=qy9 h;obtain⟨D,b⟩:=ak (w.alloc (.cells #[.int .i64 0,.int .i64 0] 237));have f:ah w D:=by rw[b];exact ae
 have p:=ag (show dD D w.heap.size (.int .i64 0) (.int .i64 0)by rw[b];exact dD.new w _ _);have Q:=ag d;have s:=ag f;have t:=Ug a n c l q j D (d.a f) e1;have E:=ag I;clear d f h e1 I;go_enter Tryz.func276,Tryz.ntmps276;go_wp2_with fail
 rw[<-b];clear b;refine t.mono ?_
 rintro e R⟨a1,c1,rfl,J,F⟩;have g:=bT s F;have K:=ag (p.o.a F);have B:=ag J;clear t F J p s;obtain⟨S,u⟩:=ak q.length;rw[<-u]at B⊢;clear u;go_wp2_with fail
 refine(Ug a1 S c1 q r m R (B.o.1 _ (Q.o.a g.o)) E.o).mono ?_
 rintro e C⟨a2,c2,rfl,L,G⟩;have y:=bT g G;have z:=ag (K.o.a G);have A:=ag (B.o.trans L);clear G L K g B;obtain⟨T,i⟩:=ak r.length;rw[<-i]at A⊢;have M:=ag i;clear i;have U:=z.o.cell0;have V:=z.o.cell1;have W:=frozen_of_row C w.heap.size 0 _ _ z.o;have X:=frozen_of_row C w.heap.size 1 _ _ z.o;have H:=z.o.put (.int .i64 j) (.int .i64 m);have N:=zu (w:=C) (q:=w.heap.size) (.int .i64 j) (.int .i64 m);have O:=ag (y.o.grown N y.o.size (by intro k Y;cases Y;omega));have Z:=H.cell0;have y1:=H.cell1;clear H N;go_wp2;obtain⟨w9,P⟩:=ak ((C.setCell ⟨w.heap.size,0,none⟩ (.int .i64 j)).setCell ⟨w.heap.size,1,none⟩ (.int .i64 m));rw[<-P]at Z y1 O⊢;try simp only[Exit.inBlock,Exit.then]
 refine bodyPost_ret (v:=.tuple #[.agg #[.int .i64 j,.int .i64 m],.slice a2 T c2,.int .i64 0]) ?_ rfl ⟨a2,c2,by rw[<-M.o],by rw[<-M.o];exact A.o,O.o⟩
 clear P U V W X;simp[results,Tryz.results276,go_sem, *]
theorem quw(a:aA)(n c:Nat)(l:az)(w:World)(d:Rd w (.slice a n c) l)(h:lX l=none):
  Calls Tryz.prog 276 #[.slice a n c] w fun e w'=>e=.returned (.tuple #[.agg #[.int .i64 0,.int .i64 0],.slice none 0 0,.int .i64 8])∧ah w w':=by
 obtain⟨D,b⟩:=ak (w.alloc (.cells #[.int .i64 0,.int .i64 0] 237));have f:ah w D:=by rw[b];exact ae
 have p:=ag (show dD D w.heap.size (.int .i64 0) (.int .i64 0)by rw[b];exact dD.new w _ _);have R:=ag d;have r:=ag f;rcases qaf9 h with y|⟨m,q,y,O⟩
 ·have g:=tX a n c l D (d.a f) y
  clear d f h y;go_enter Tryz.func276,Tryz.ntmps276;go_wp2_with fail
  rw[<-b];clear b;refine g.mono ?_
  rintro e s⟨rfl,t⟩;have i:=bT r t;have j:=ag (p.o.a t);clear g t p r;have E:=j.o.cell0;have F:=j.o.cell1;have G:=frozen_of_row s w.heap.size 0 _ _ j.o;have H:=frozen_of_row s w.heap.size 1 _ _ j.o;have u:=j.o.put (.int .i64 0) (.int .i64 0);have z:=zu (w:=s) (q:=w.heap.size) (.int .i64 0) (.int .i64 0);have A:=ag (i.o.grown z i.o.size (by intro k I;cases I;omega));have J:=u.cell0;have K:=u.cell1;clear u z;go_wp2;obtain⟨S,B⟩:=ak ((s.setCell ⟨w.heap.size,0,none⟩ (.int .i64 0)).setCell ⟨w.heap.size,1,none⟩ (.int .i64 0));rw[<-B]at J K A⊢;try simp only[Exit.inBlock,Exit.then]
  refine bodyPost_ret (v:=.tuple #[.agg #[.int .i64 0,.int .i64 0],.slice none 0 0,.int .i64 8]) ?_ rfl ⟨rfl,A.o⟩
  clear B E F G H;simp[results,Tryz.results276,go_sem, *]
 have g:=Ug a n c l q m D (d.a f) y;have L:=ag O;clear d f h y O;go_enter Tryz.func276,Tryz.ntmps276;go_wp2_with fail
 rw[<-b];clear b;refine g.mono ?_
 rintro e T⟨a1,c1,rfl,P,t⟩;have x:=bT r t;have Q:=ag (p.o.a t);have M:=ag P;clear g t P p r;obtain⟨U,C⟩:=ak q.length;rw[<-C]at M⊢;clear C;go_wp2_with fail
 refine(tX a1 U c1 q T (M.o.1 _ (R.o.a x.o)) L.o).mono ?_
 rintro e s⟨rfl,N⟩;have i:=bT x N;have j:=ag (Q.o.a N);clear N Q x M;have E:=j.o.cell0;have F:=j.o.cell1;have G:=frozen_of_row s w.heap.size 0 _ _ j.o;have H:=frozen_of_row s w.heap.size 1 _ _ j.o;have u:=j.o.put (.int .i64 0) (.int .i64 0);have z:=zu (w:=s) (q:=w.heap.size) (.int .i64 0) (.int .i64 0);have A:=ag (i.o.grown z i.o.size (by intro k I;cases I;omega));have J:=u.cell0;have K:=u.cell1;clear u z;go_wp2;obtain⟨S,B⟩:=ak ((s.setCell ⟨w.heap.size,0,none⟩ (.int .i64 0)).setCell ⟨w.heap.size,1,none⟩ (.int .i64 0));rw[<-B]at J K A⊢;try simp only[Exit.inBlock,Exit.then]
 refine bodyPost_ret (v:=.tuple #[.agg #[.int .i64 0,.int .i64 0],.slice none 0 0,.int .i64 8]) ?_ rfl ⟨rfl,A.o⟩
 clear B E F G H;simp[results,Tryz.results276,go_sem, *]
theorem qw7{e:TypeId}{size:Nat}{xs:List Value}(q:w.ownsRow base e size v n xs)(d:w.grownBy w' v.ownBlock):bU e w w':=fun k cs t i f b=>by
 have c:=(Xd6.1 b).1;rw[d.block k c ?_]
 ·exact b
 intro e0;rcases q.2 with⟨rfl,_⟩|⟨g,cap,h,rfl,_,a,_⟩
 ·cases e0
 cases e0;rw[b]at a;cases a;exact f rfl
theorem bU.below(h:ah w w'):bU b w w':=fun k cs t c _ a=>by rw[h.block k (Xd6.1 a).1];exact a
theorem bU.trans{a:TypeId}{b c:World}(h:bU a w b)(k:bU a b c):bU a w c:=fun i cs t d e hi=>k i cs t d e (h i cs t d e hi)
theorem bU.set{i:Nat}{cs:Array Value}{u:Value}(h:w.heap[q]? =some (.cells cs b (0,0))):bU b w (w.setCell ⟨q,i,none⟩ u):=fun k d t e c a=>by
 have:k≠q:=by
  rintro rfl;rw[h]at a;cases a;exact c rfl
 exact(heap_setCell_other w ⟨q,i,none⟩ k u this).trans a
theorem qw8{l:List Ex}(h:bA w base v l)(hb:base<=w.heap.size)(hl:l.length<=1000000)(x y:Int):
  ∃g c w',(Builtin.append_ #[96,96] 96 #[v,.slice (some ⟨w.heap.size,0,none⟩) 1 1]).run Tryz.prog (w.alloc (.cells #[.int .i64 x,.int .i64 y] 237))=.ok (.slice (some ⟨g,0,none⟩) (l.length+1) c) w'∧
   bA w' base (.slice (some ⟨g,0,none⟩) (l.length+1) c) (l++[(x,y)])∧Below base w w'∧bU 237 w w':=by
 obtain⟨b,o⟩:=ak (w.alloc (.cells #[.int .i64 x,.int .i64 y] 237));have p:=TD w #[.int .i64 x,.int .i64 y] 237;rw[<-o]at p⊢;have a:ah w b:=by rw[o];exact ae
 obtain⟨z,hi,d,f,i⟩:=info_parts Tryz.infoEx;have j:b.ownsRow base 237 2 v l.length (cellsE l):=pI h a;obtain⟨E,q,A,r,s,_⟩:=run_append_own (P:=Tryz.prog) b base 96 96 237 z _ 2 16 Tryz.underlying96 hi d f i rfl (by decide) _ _ _ j ⟨w.heap.size,0,none⟩ 1 1 [.int .i64 x,.int .i64 y] rfl p (by
  intro u t;simp at t
  rcases t with rfl|rfl<;>rfl) (by unfold maxLen;omega) (by omega) (aG hb a.size)
 have B:Below base w q:=(a.mono hb).grown s (aG hb a.size) fun k C=>(j.lt k C).1
 have e:cellsE (l++[(x,y)])=cellsE l++[.int .i64 x,.int .i64 y]:=by rw[yJ];rfl
 have m:(l++[(x,y)]).length=l.length+1:=by simp
 rcases r.2 with⟨_,n⟩|⟨g,cap,D,n,_⟩
 ·exact absurd n (by omega)
 subst n;exact⟨g,cap,q,A,by unfold bA;rw[m,e];exact r,B,(bU.below a).trans (qw7 j s)⟩
theorem qsi{fs:List Fl}(h:bi w base v fs)(hb:base<=w.heap.size)(hl:fs.length<=1000000)(s:az)(x:Value)(l:List Ex)(z:bA w base x l):
  ∃g c w',(Builtin.append_ #[29,29] 29 #[v,.slice (some ⟨w.heap.size,0,none⟩) 1 1]).run Tryz.prog (w.alloc (.cells #[.string (bs s),x] 98))=.ok (.slice (some ⟨g,0,none⟩) (fs.length+1) c) w'∧
   bi w' base (.slice (some ⟨g,0,none⟩) (fs.length+1) c) (fs++[(s,l)])∧Below base w w'∧bU 98 w w':=by
 obtain⟨a,rfl,h⟩:=h;rw[Xd1]at hl;obtain⟨i,A⟩:=ak (w.alloc (.cells #[.string (bs s),x] 98));have B:=TD w #[.string (bs s),x] 98;rw[<-A]at B⊢;have b:ah w i:=by rw[A];exact ae
 obtain⟨E,hi,m,n,o⟩:=info_parts Tryz.infoFl;have j:i.ownsRow base 98 2 v a.length (eQ a):=pI h.1 b;obtain⟨J,q,F,C,r,_⟩:=run_append_own (P:=Tryz.prog) i base 29 29 98 E _ 2 40 Tryz.underlying29 hi m n o rfl (by decide) _ _ _ j ⟨w.heap.size,0,none⟩ 1 1 [.string (bs s),x] rfl B (by
  intro u D;simp at D
  rcases D with rfl|rfl
  ·rfl
  exact z.ownForm) (by unfold maxLen;omega) (by omega) (aG hb b.size)
 have G:Below base w q:=(b.mono hb).grown r (aG hb b.size) fun k H=>(j.lt k H).1
 have e:eQ (a++[((s,l),x)])=eQ a++[.string (bs s),x]:=by rw[TC];rfl
 have t:(a++[((s,l),x)]).length=a.length+1:=by simp
 have y:∀p∈a++[((s,l),x)],bA q base p.2 p.1.2:=by
  intro p d;have f:bA i base p.2 p.1.2:=by
   rcases Xa5.1 d with d|d
   ·exact(h.2 p d).a b
   obtain rfl:p=((s,l),x):=by simpa using d
   exact z.a b
  exact f.keptF j r
 rcases C.2 with⟨_,f⟩|⟨g,cap,I,f,_⟩
 ·exact absurd f (by omega)
 subst f;rw[Xd1];exact⟨g,cap,q,F,⟨a++[((s,l),x)],by simp,by rw[t,e];exact C,y⟩,G,(bU.below b).trans (qw7 j r)⟩
theorem qaga(a:aA)(n c:Nat)(l s r:az)(w:World)(hl:l.length<=1000000)(b:Rd w (.slice a n c) l)(h:ct l=some (s,r)):
  Calls Tryz.prog 105 #[.slice a n c] w fun e w'=>∃a2 c2,e=.returned (.tuple #[.string (bs s),.slice a2 r.length c2,.int .i64 0])∧jF w' w.heap.size (.slice a2 r.length c2) r∧ah w w':=by
 refine(yz w (by omega) b).mono ?_
 rintro e w'⟨v,rfl,hv,f⟩;obtain⟨x,rfl,d⟩:=Qq hv;have e1:mr l=bs s:=by unfold mr;rw[h]
 have i:xP l=0:=by unfold xP;rw[h]
 have j:oP l=r:=by unfold oP;rw[h]
 rw[j]at d;rw[e1,i];obtain⟨a2,c2,rfl⟩:∃a2 c2,x=.slice a2 r.length c2:=by
  rcases d.2 with⟨rfl,k⟩|⟨g,cap,m,rfl,_⟩
  ·exact⟨none,0,by rw[k]⟩
  exact⟨_,_,rfl⟩
 exact⟨a2,c2,rfl,d,f⟩
theorem qab0(a:aA)(n c:Nat)(l:az)(w:World)(hl:l.length<=1000000)(b:Rd w (.slice a n c) l)(h:ct l=none):
  Calls Tryz.prog 105 #[.slice a n c] w fun e w'=>∃x,e=.returned (.tuple #[.string {data:=#[]},x,.int .i64 8])∧ah w w':=by
 refine(yz w (by omega) b).mono ?_
 rintro e w'⟨v,rfl,hv,d⟩;obtain⟨x,rfl,g⟩:=Qq hv;have e1:mr l={data:=#[]}:=by unfold mr;rw[h];rfl
 have f:xP l=8:=by unfold xP;rw[h]
 rw[e1,f];exact⟨x,rfl,d⟩
abbrev BX:Value:=.agg #[.string {data:=#[]},.slice none 0 0]
def Ui (l:az) (w w':World) (e:Ending):Prop:=
 (∃s es r a5 c5 a6 c6,sJ l=some ((s,es),r)∧e=.returned (.tuple #[.agg #[.string (bs s),.slice a5 es.length c5],.slice a6 r.length c6,.int .i64 0])∧bA w' w.heap.size (.slice a5 es.length c5) es∧zC w' (.slice a6 r.length c6) r)∨
 (sJ l=none∧e=.returned (.tuple #[BX,.slice none 0 0,.int .i64 8]))
theorem qagb(h:ct l=none):sJ l=none:=by unfold sJ;rw[h]
theorem qagc{s q:az}(h:ct l=some (s,q))(a:eY q=none):sJ l=none:=by unfold sJ;rw[h];simp only;rw[a]
theorem qagd{s q a:az}(h:ct l=some (s,q))(b:eY q=some (m,a)):sJ l=(match sI m a with|none=>none|some (es,z)=>some ((s,es),z)):=by
 unfold sJ;rw[h];simp only
 rw[b];rfl
theorem aP.put(h:aP w q s y)(u:ByteArray)(v:Value):aP ((w.setCell ⟨q,0,none⟩ (.string u)).setCell ⟨q,1,none⟩ v) q u v:=by
 have a1:=heap_setCell_same w q 0 _ 98 (.string u) h;have a2:=heap_setCell_same (w.setCell ⟨q,0,none⟩ (.string u)) q 1 _ 98 v a1;unfold aP;rw[a2];rfl
theorem aP.put1(h:aP w q s y)(v:Value):aP (w.setCell ⟨q,1,none⟩ v) q s v:=by
 have a1:=heap_setCell_same w q 1 _ 98 v h;unfold aP;rw[a1];rfl
theorem bU.two{u:ByteArray}(h:aP w q s y):bU 98 w ((w.setCell ⟨q,0,none⟩ (.string u)).setCell ⟨q,1,none⟩ v):=(bU.set h).trans (bU.set (heap_setCell_same w q 0 _ 98 (.string u) h))
theorem qux(a:aA)(n c:Nat)(l:az)(w:World)(hl:l.length<=1000000)(W:Rd w (.slice a n c) l):
  Calls Tryz.prog 257 #[.slice a n c] w fun e w'=>Ui l w w' e∧ah w w':=by
 obtain⟨W0,z⟩:∃W0,W0=w.alloc (.cells #[.string {data:=#[]},.slice none 0 0] 98):=⟨_,rfl⟩
 have I:ah w W0:=by rw[z];exact ae
 have X:=ag (show aP W0 w.heap.size {data:=#[]} (.slice none 0 0)by rw[z];exact aP.new w _ _);have Y:=ag I;cases hct:ct l with
 |none=>
  have J:=qab0 a n c l W0 hl (W.a I) hct;have HP:=ag (qagb hct);clear W I hct;go_enter Tryz.func257,Tryz.ntmps257;go_wp2_with fail
  rw[<-z];clear z;refine J.mono ?_
  rintro e t⟨x,rfl,b1⟩;have f:=bT Y b1;have j:=ag (X.o.a b1);clear J b1 X Y;have x0:=j.o.cell0;have x1:=j.o.cell1;have z0:=frozen_of_row t w.heap.size 0 _ _ j.o;have z1:=frozen_of_row t w.heap.size 1 _ _ j.o;have r:=j.o.put {data:=#[]} (.slice none 0 0);have h:=zu (w:=t) (q:=w.heap.size) (.string {data:=#[]}) (.slice none 0 0);have K:=ag (f.o.grown h f.o.size (by intro k T;cases T;omega));have y0:=r.cell0;have y1:=r.cell1;clear r h;go_wp2;obtain⟨b,L⟩:∃b,b=(t.setCell ⟨w.heap.size,0,none⟩ (.string {data:=#[]})).setCell ⟨w.heap.size,1,none⟩ (.slice none 0 0):=⟨_,rfl⟩;rw[<-L]at y0 y1 K⊢
  try simp only[Exit.inBlock,Exit.then]
  refine bodyPost_ret (v:=.tuple #[BX,.slice none 0 0,.int .i64 8]) ?_ rfl ⟨.inr ⟨HP.o,rfl⟩,K.o⟩
  clear L x0 x1 z0 z1;simp[results,Tryz.results257,go_sem, *]
 |some p=>
  obtain⟨s,q1⟩:=p;have J:=qaga a n c l s q1 W0 hl (W.a I) hct;have sZ:=ag hct;clear W I hct;go_enter Tryz.func257,Tryz.ntmps257;go_wp2_with fail
  rw[<-z];clear z;refine J.mono ?_
  rintro e w1⟨a1,c1,rfl,o1,b1⟩;have Z:=bT Y b1;have ng:=ag (X.o.a b1);have Uj:=ag o1.rdU;clear J b1 o1 X Y;obtain⟨p1,am⟩:=ak q1.length;rw[<-am]at Uj⊢;clear am;cases hcn:eY q1 with
  |none=>
   have HP:=ag (qagc sZ.o hcn);have ad:=ag hcn;clear hcn;go_wp2_with fail
   refine(tX a1 p1 c1 q1 w1 Uj.o.rd ad.o).mono ?_
   rintro e t⟨rfl,b2⟩;have f:=bT Z b2;have j:=ag (ng.o.a b2);clear b2 ng Z;have x0:=j.o.cell0;have x1:=j.o.cell1;have z0:=frozen_of_row t w.heap.size 0 _ _ j.o;have z1:=frozen_of_row t w.heap.size 1 _ _ j.o;have r:=j.o.put {data:=#[]} (.slice none 0 0);have h:=zu (w:=t) (q:=w.heap.size) (.string {data:=#[]}) (.slice none 0 0);have K:=ag (f.o.grown h f.o.size (by intro k T;cases T;omega));have y0:=r.cell0;have y1:=r.cell1;clear r h;go_wp2;obtain⟨b,L⟩:∃b,b=(t.setCell ⟨w.heap.size,0,none⟩ (.string {data:=#[]})).setCell ⟨w.heap.size,1,none⟩ (.slice none 0 0):=⟨_,rfl⟩;rw[<-L]at y0 y1 K⊢
   try simp only[Exit.inBlock,Exit.then]
   refine bodyPost_ret (v:=.tuple #[BX,.slice none 0 0,.int .i64 8]) ?_ rfl ⟨.inr ⟨HP.o,rfl⟩,K.o⟩
   clear L x0 x1 z0 z1;simp[results,Tryz.results257,go_sem, *]
  |some p=>
   obtain⟨m,q2⟩:=p;have Uk:=ag (qagd sZ.o hcn);have aW:m<=4096:=(J5 hcn).1;have ad:=ag hcn;clear hcn;go_wp2_with fail
   refine(Ug a1 p1 c1 q1 q2 m w1 Uj.o.rd ad.o).mono ?_
   rintro e t⟨a2,c2,rfl,s2,b2⟩;have f:=bT Z b2;have j:=ag (ng.o.a b2);have Qw:=ag (s2.2 _ (Uj.o.a b2));clear b2 s2 ng Z Uj;obtain⟨p2,ai⟩:=ak q2.length;rw[<-ai]at Qw⊢;have Qd:=ag ai;clear ai;obtain⟨W1,aa⟩:=ak (t.alloc (.cells #[.string (bs s),.slice none 0 0] 98));have ac:ah t W1:=by rw[aa];exact ae
   obtain⟨F,hF⟩:=ak t.heap.size;obtain⟨R,hR⟩:=ak w.heap.size;have an:=ag (show aP W1 F (bs s) (.slice none 0 0)by rw[aa,hF];exact aP.new t _ _);have Ce:=ag (show aP W1 R {data:=#[]} (.slice none 0 0)by rw[hR];exact j.o.a ac);have ar:=ag (Qw.o.a ac);have ao:=bT f ac;obtain⟨B,hB⟩:=ak W1.heap.size;have ky:=ag (show w.heap.size<=B by rw[hB];exact ao.o.size);have Qx:=ag (show F<B∧R<B∧F≠R∧w.heap.size<=F∧w.heap.size<=R by
    have h1:=(Xd6.1 an.o).1;have h2:=(Xd6.1 Ce.o).1;have h3:=(Xd6.1 j.o).1;have h4:=f.o.size;omega)
   have aw:True:=trivial;go_wp2;rw[<-aa];rw[<-hF];rw[<-hR];clear aa hF hR ac j Qw f aw;go_loopw [35,0] (fun i bv wr=>∃k:Nat,k<=m∧i=.int .i64 k∧∃ab nb cb,bv=.slice ab nb cb∧∃e1 r1 ve,af (sI k q2=some (e1,r1))∧af (nb=r1.length)∧af (zC wr (.slice ab nb cb) r1)∧af (aP wr F (bs s) ve)∧af (bA wr B ve e1)∧af (aP wr R {data:=#[]} (.slice none 0 0))∧af (ah w wr)∧af (B<=wr.heap.size)) (fun i _ _=>m-(intOf i).toNat)
   case atStart=>exact⟨0,Xd5 _,rfl,a2,p2,c2,rfl,[],q2,.slice none 0 0,ag rfl,Qd,ar,an,ag (bA.nil _ _),Ce,ao,ag (Nat.le_of_eq hB)⟩
   obtain⟨k,T,rfl,ab,nb,cb,rfl,e1,r1,ve,M,aj,hu,N,A,U,C,ap⟩:=hrel;by_cases ax:k<m
   ·have aS:(k:Int)<m:=by omega
    cases hcx:lX r1 with
    |none=>
     have HP:=ag (show sJ l=none by rw[Uk.o,qaao M.o hcx ax]);have O:=quw ab nb cb r1 wr hu.o.rd hcx;clear hcx;go_wp2_with fail
     refine O.mono ?_
     rintro e w3⟨rfl,b3⟩;have fG:=bT C b3;have Ul:=ag (U.o.a b3);obtain⟨V,g⟩:=ak (w3.alloc (.cells #[.int .i64 0,.int .i64 0] 237));have D:ah w3 V:=by rw[g];exact ae
     have fK:=bT fG D;have xZ:=ag (Ul.o.a D);clear O b3 D fG Ul;have x0:=xZ.o.cell0;have x1:=xZ.o.cell1;have z0:=frozen_of_row V R 0 _ _ xZ.o;have z1:=frozen_of_row V R 1 _ _ xZ.o;have r:=xZ.o.put {data:=#[]} (.slice none 0 0);have h:=zu (w:=V) (q:=R) (.string {data:=#[]}) (.slice none 0 0);have K:=ag (fK.o.grown h fK.o.size (by intro k T;cases T;exact Qx.o.2.2.2.2));have y0:=r.cell0;have y1:=r.cell1;clear r h;rw[g]at x0 x1 z0 z1;go_wp2;try rw[<-g]
     obtain⟨b,L⟩:∃b,b=(V.setCell ⟨R,0,none⟩ (.string {data:=#[]})).setCell ⟨R,1,none⟩ (.slice none 0 0):=⟨_,rfl⟩;rw[<-L]at y0 y1 K⊢
     try simp only[Exit.inBlock,Exit.then]
     refine bodyPost_ret (v:=.tuple #[BX,.slice none 0 0,.int .i64 8]) ?_ rfl ⟨.inr ⟨HP.o,rfl⟩,K.o⟩
     clear L x0 x1 z0 z1 g;simp[results,Tryz.results257,go_sem, *]
    |some p=>
     obtain⟨x,r2⟩:=p;have jb:=ag (qym M.o hcx);have ay:=(qk9 _ _ _ _ M.o).1;have O:=quv ab nb cb r1 r2 x wr hu.o.rd hcx;clear hcx;obtain⟨x,y⟩:=x;go_wp2_with fail
     refine O.mono ?_
     rintro e w3⟨a4,c4,rfl,s4,b3⟩;have fG:=bT C b3;obtain⟨V,g⟩:=ak (w3.alloc (.cells #[.int .i64 x,.int .i64 y] 237));have D:ah w3 V:=by rw[g];exact ae
     have pX:ah wr V:=b3.trans (D.mono b3.size);have aq:=ag (s4.2 _ (hu.o.a pX));have xZ:=ag (U.o.a pX);have vg:=ag (N.o.a pX);have fK:=bT C pX;have EA:=ag (show B<=V.heap.size from aG ap.o pX.size);obtain⟨P,Q,b,d,bK,bI,oM⟩:=qw8 (A.o.a pX) EA.o (by omega) x y;have uG:=ag (show aP b F (bs s) ve from(bI.block F Qx.o.1).trans vg.o);have Hw:=ag (show aP b R {data:=#[]} (.slice none 0 0)from(bI.block R Qx.o.2.1).trans xZ.o);have Um:=ag (aq.o.keepT (by decide) oM);have dG:=ag (show ah w b from fK.o.trans (bI.mono ky.o));have al:=vg.o.cell1;have Ci:=uG.o.cell1;have aD:=frozen_of_row b F 1 _ _ uG.o;obtain⟨S,Cj⟩:=ak (e1.length+1);rw[<-Cj]at d bK;clear Cj;have h:=nO b ⟨F,1,none⟩ (.slice (some ⟨P,0,none⟩) S Q);have aE:=ag (uG.o.put1 (.slice (some ⟨P,0,none⟩) S Q));have aH:=ag (show aP (b.setCell ⟨F,1,none⟩ (.slice (some ⟨P,0,none⟩) S Q)) R {data:=#[]} (.slice none 0 0)from(heap_setCell_other b ⟨F,1,none⟩ R (.slice (some ⟨P,0,none⟩) S Q) (fun e:R=F=>Qx.o.2.2.1 e.symm)).trans Hw.o);have Un:=ag (Um.o.keepT (by decide) (bU.set (i:=1) (u:=.slice (some ⟨P,0,none⟩) S Q) uG.o));have Qy:=ag (show bA (b.setCell ⟨F,1,none⟩ (.slice (some ⟨P,0,none⟩) S Q)) B (.slice (some ⟨P,0,none⟩) S Q) (e1++[(x,y)])from Bv bK h uG.o (by decide));have FE:=ag (show ah w (b.setCell ⟨F,1,none⟩ (.slice (some ⟨P,0,none⟩) S Q))from dG.o.grown h dG.o.size (by intro k T;cases T;exact Qx.o.2.2.2.1));have aJ:=ag (show B<=(b.setCell ⟨F,1,none⟩ (.slice (some ⟨P,0,none⟩) S Q)).heap.size from aG (aG EA.o bI.size) h.size);obtain⟨aK,yf⟩:=ak r2.length;rw[<-yf]at Un⊢;have jy:=ag yf;obtain⟨G,H,Az⟩:∃G H,ve=.slice G e1.length H:=A.o.form;subst Az
     clear O b3 s4 D pX bK bI oM fG aq xZ vg fK EA uG Hw Um dG h yf ay A N U hu C ap M aj;obtain⟨fl,E⟩:=ak e1.length;rw[<-E]at d al Ci;clear E;rw[show V.heap.size=w3.heap.size+1 by rw[g];simp]at d;rw[g]at d al;go_wp2_with (at_builtin;refine kS rfl (.tmp 48) (.tmp 50) 96 rfl rfl rfl rfl d ?_)
     try clear d
     try clear al
     try clear g
     try clear Ci
     try clear aD
     generalize b.setCell ⟨F,1,none⟩ (.slice (some ⟨P,0,none⟩) S Q)=wz at *;go_roundw
     case rel=>exact⟨k+1,by omega,rfl,a4,aK,c4,rfl,e1++[(x,y)],r2,(.slice (some ⟨P,0,none⟩) S Q),jb,jy,Un,aE,Qy,aH,FE,aJ⟩
     simp only[intOf];omega
   have hd:decide ((k:Int)<m)=false:=aC (by omega);have e:k=m:=by omega
   have aO:=ag (show sJ l=some ((s,e1),r1)by rw[Uk.o,<-e,M.o]);clear e;have f0:=N.o.cell0;have f1:=N.o.cell1;have x0:=U.o.cell0;have x1:=U.o.cell1;have z0:=frozen_of_row wr R 0 _ _ U.o;have z1:=frozen_of_row wr R 1 _ _ U.o;obtain⟨G,H,Az⟩:∃G H,ve=.slice G e1.length H:=A.o.form;subst Az;obtain⟨fl,E⟩:=ak e1.length;rw[<-E]at N A f1;have kX:=ag E;clear E;have r:=U.o.put (bs s) (.slice G fl H);have h:=zu (w:=wr) (q:=R) (.string (bs s)) (.slice G fl H);have Qy:=ag (show bA _ B (.slice G fl H) e1 from Bv A.o h U.o (by decide));have Un:=ag (hu.o.keepT (by decide) (bU.two (u:=bs s) (v:=.slice G fl H) U.o));have K:=ag (C.o.grown h C.o.size (by intro k T;cases T;exact Qx.o.2.2.2.2));have y0:=r.cell0;have y1:=r.cell1;clear r h;go_wp2;obtain⟨b,L⟩:=ak ((wr.setCell ⟨R,0,none⟩ (.string (bs s))).setCell ⟨R,1,none⟩ (.slice G fl H));rw[<-L]at y0 y1 K Qy Un⊢
   try simp only[Exit.inBlock,Exit.then]
   refine bodyPost_ret (v:=.tuple #[.agg #[.string (bs s),.slice G fl H],.slice ab nb cb,.int .i64 0]) ?_ rfl ⟨.inl ⟨s,e1,r1,G,H,ab,cb,aO.o,by rw[<-kX.o,<-aj.o],by rw[<-kX.o];exact Qy.o.mono ky.o,by rw[<-aj.o];exact Un.o⟩,K.o⟩
   clear L x0 x1 z0 z1 f0 f1;simp[results,Tryz.results257,go_sem, *]
def K8 (l:az) (w w':World) (e:Ending):Prop:=
 (∃fs r a5 c5 a6 c6,rq l=some (fs,r)∧e=.returned (.tuple #[.slice a5 fs.length c5,.slice a6 r.length c6,.int .i64 0])∧bi w' w.heap.size (.slice a5 fs.length c5) fs)∨
 (rq l=none∧e=.returned (.tuple #[.slice none 0 0,.slice none 0 0,.int .i64 8]))
theorem qab1(h:eY l=none):rq l=none:=by unfold rq;rw[h]
theorem qab2{q:az}(h:eY l=some (m,q)):rq l=uD m q:=by unfold rq;rw[h]
theorem qsj(a:aA)(n c:Nat)(l:az)(w:World)(hl:l.length<=1000000)(t:Rd w (.slice a n c) l):
  Calls Tryz.prog 218 #[.slice a n c] w fun e w'=>K8 l w w' e∧ah w w':=by
 cases hcn:eY l with
 |none=>
  have u:=tX a n c l w t hcn;have O:=ag (qab1 hcn);clear t hcn;go_enter Tryz.func218,Tryz.ntmps218;go_wp2_with fail
  refine u.mono ?_
  rintro e w2⟨rfl,b1⟩;clear u;go_wp2;go_ret3;exact⟨.inr ⟨O.o,rfl⟩,b1⟩
 |some p=>
  obtain⟨m,q⟩:=p;have u:=Ug a n c l q m w t hcn;have Y:=ag (qab2 hcn);have ac:m<=4096:=(J5 hcn).1;have P:=ag (show q.length<=1000000 by have:=Md hcn;omega);have HR:=ag t;clear t hcn;go_enter Tryz.func218,Tryz.ntmps218;go_wp2_with fail
  refine u.mono ?_
  rintro e w2⟨a2,c2,rfl,Z,b2⟩;have E:=ag (Z.1 _ HR.o);have Q:=ag b2;clear u Z b2;obtain⟨p2,z⟩:=ak q.length;rw[<-z]at E⊢;have Qd:=ag z;clear z;go_wp2;go_loopw [21,7,0] (fun i lv bv wr=>∃k:Nat,k<=m∧i=.int .i64 k∧∃A B C,bv=.slice A B C∧∃fs r,af (uD k q=some (fs,r))∧af (B=r.length)∧af (Rd w (.slice A B C) r∨zC wr (.slice A B C) r)∧af (bi wr w.heap.size lv fs)∧af (ah w wr)) (fun i _ _ _=>m-(intOf i).toNat)
  case atStart=>exact⟨0,Xd5 _,rfl,a2,p2,c2,rfl,[],q,ag rfl,Qd,ag (.inl E.o),ag (bi.nil _ _),Q⟩
  obtain⟨k,hk,rfl,A,B,C,rfl,fs,r,f,F,hu,g,j⟩:=hrel;by_cases R:k<m
  ·have aa:(k:Int)<m:=by omega
   have G:r.length<=1000000:=by
    have h1:=(Z8 _ _ _ _ f.o).2.2;have h2:=P.o;rw[h1,Xa0]at h2;omega
   have v:=(Z8 _ _ _ _ f.o).1;have H:=ag (show Rd wr (.slice A B C) r from hu.o.elim (fun h=>h.a j.o) (fun h=>h.rd));go_wp2_with fail
   refine(qux A B C r wr G H.o).mono ?_
   rintro e M⟨hP,I⟩;have S:=bT j I;rcases hP with⟨s,N,r2,a5,c5,a6,c6,x,rfl,ku,J⟩|⟨x,rfl⟩
   ·have jb:=ag (qyn f.o x)
    obtain⟨D,d⟩:=ak (M.alloc (.cells #[.string (bs s),.slice a5 N.length c5] 98));have y:ah M D:=by rw[d];exact ae
    have T:ah wr D:=I.trans (y.mono I.size);have K:=bT j T;obtain⟨g9,c9,w9,b,bK,bI,oM⟩:=qsi (g.o.a T) K.o.size (by omega) s (.slice a5 N.length c5) N ((ku.a y).mono j.o.size);have Um:=ag ((J.a y).keepT (by decide) oM);have dG:=ag (show ah w w9 from K.o.trans bI);have iU:=ag bK;obtain⟨av,cv,U⟩:=g.o.form;subst U;obtain⟨V,W⟩:=ak r2.length;rw[<-W]at Um⊢;have jy:=ag W;clear x I ku J y T bK bI oM K S W g hu j f F H G;obtain⟨fl,Uo⟩:=ak fs.length;rw[<-Uo]at b iU⊢;clear Uo v;obtain⟨el,L⟩:=ak N.length;rw[<-L]at b d⊢;clear L;rw[show D.heap.size=M.heap.size+1 by rw[d];simp]at b;rw[d]at b;go_wp2_with (at_builtin;refine kS rfl (.tmp 32) (.tmp 34) 29 rfl rfl rfl rfl b ?_)
    try clear b
    try clear d
    go_roundw
    case rel=>exact⟨k+1,by omega,rfl,a6,V,c6,rfl,_,r2,jb,jy,ag (.inr Um.o),iU,dG⟩
    simp only[intOf];omega
   have O:=ag (show rq l=none by rw[Y.o];exact qaar f.o x R);clear x I;obtain⟨D,d⟩:∃D,D=M.alloc (.cells #[.string {data:=#[]},.slice none 0 0] 98):=⟨_,rfl⟩;have K:=ag (show ah w D by rw[d];exact S.o.alloc S.o.size _);go_wp2;go_ret3;exact⟨.inr ⟨O.o,rfl⟩,by rw[<-d];exact K.o⟩
  have hd:decide ((k:Int)<m)=false:=aC (by omega);have e:k=m:=by omega
  have X:=ag (show rq l=some (fs,r)by rw[Y.o,<-e,f.o]);clear e;obtain⟨av,cv,U⟩:=g.o.form;subst U;obtain⟨fl,v⟩:=ak fs.length;rw[<-v]at g⊢;have kX:=ag v;clear v;go_wp2;go_ret3;exact⟨.inl ⟨fs,r,av,cv,A,C,X.o,by rw[<-kX.o,<-F.o];rfl,by rw[<-kX.o];exact g.o⟩,j.o⟩
theorem qab3(a:aA)(n c:Nat)(l:az)(B:Int)(w:World)(U:Rd w (.slice a n c) l)(hn:n=l.length)(hl:l.length<=1000000):
  Calls Tryz.prog 154 #[.slice a n c,.int .i64 B] w fun e w'=>∃v,e=.returned (.tuple #[.agg #[v],.int .i64 (mg l B)])∧bi w' w.heap.size v (uE l B)∧ah w w':=by
 obtain⟨W0,s⟩:=ak (w.alloc (.cells #[.slice none 0 0] 31));have V:ah w W0:=by rw[s];exact ae
 have G:=ag (show bZ W0 w.heap.size by rw[s];exact bZ.new w _);have O:=ag V;have HR:=ag U;have HN:=ag hn;have P:=qf9 B W0;clear U hn V;by_cases Q:eX B
 case neg=>
  rw[Xd7 Q]at P;have m:=ag (qre (b:=l) Q);have C:=ag (El (b:=l) (B:=B) (by rw[m.o];omega));clear Q;go_enter Tryz.func154,Tryz.ntmps154;go_wp2_with fail
  rw[<-s];clear s;refine P.mono ?_
  rintro e R⟨rfl,J⟩;subst J;clear P;have D:=G.o.cell;have t:=G.o.fz;obtain⟨E,g, -⟩:=G.o.put (.slice none 0 0);obtain⟨y,z⟩:=G.o;have h:=ag (show bi (R.setCell ⟨w.heap.size,0,none⟩ (.slice none 0 0)) w.heap.size (.slice none 0 0) _ from bi.nil _ _);have i:=ag (O.o.grown g O.o.size (by intro k F;cases F;omega));clear z g;go_wp2;obtain⟨W,j⟩:=ak (R.setCell ⟨w.heap.size,0,none⟩ (.slice none 0 0));rw[<-j]at E h i⊢;try simp only[Exit.inBlock,Exit.then]
  refine bodyPost_ret (v:=.tuple #[.agg #[.slice none 0 0],.int .i64 2]) ?_ rfl ⟨.slice none 0 0,by rw[m.o],by rw[C.o];exact h.o,i.o⟩
  clear j D t;simp[results,Tryz.results154,go_sem, *]
 rw[Xd8 Q]at P;have rJ:=ag Q;clear Q;go_enter Tryz.func154,Tryz.ntmps154;go_wp2_with fail
 rw[<-s];clear s;refine P.mono ?_
 rintro e R⟨rfl,J⟩;subst J;clear P;by_cases g2:2048<n
 ·have aa:(2048:Int)<n:=by omega
  have m:=ag (qnh rJ.o (by have:=HN.o;omega:2048<l.length));have C:=ag (El (b:=l) (B:=B) (by rw[m.o];omega));have D:=G.o.cell;have t:=G.o.fz;obtain⟨E,g, -⟩:=G.o.put (.slice none 0 0);obtain⟨y,z⟩:=G.o;have h:=ag (show bi (R.setCell ⟨w.heap.size,0,none⟩ (.slice none 0 0)) w.heap.size (.slice none 0 0) _ from bi.nil _ _);have i:=ag (O.o.grown g O.o.size (by intro k F;cases F;omega));clear z g;go_wp2;obtain⟨W,j⟩:=ak (R.setCell ⟨w.heap.size,0,none⟩ (.slice none 0 0));rw[<-j]at E h i⊢;try simp only[Exit.inBlock,Exit.then]
  refine bodyPost_ret (v:=.tuple #[.agg #[.slice none 0 0],.int .i64 3]) ?_ rfl ⟨.slice none 0 0,by rw[m.o],by rw[C.o];exact h.o,i.o⟩
  clear j D t;simp[results,Tryz.results154,go_sem, *]
 have aa:decide ((2048:Int)<n)=false:=aC (by omega);have jy:=ag (show ¬2048<l.length by have:=HN.o;omega);have Hy:=G;have FH:=O;clear G O;have kv:=ag FH.o.size;go_wp2_with fail
 refine(qsj a n c l R hl (HR.o.a FH.o)).mono ?_
 rintro e X⟨hP,K⟩;have A:=ag (Hy.o.a K);have I:=bT FH K;clear Hy FH K;rcases hP with⟨fs,r,L,M,a6,c6,u,rfl,ku⟩|⟨u,rfl⟩
 rotate_left
 ·have m:=ag (qni rJ.o jy.o u)
  have C:=ag (El (b:=l) (B:=B) (by rw[m.o];omega));clear u;have D:=A.o.cell;have t:=A.o.fz;obtain⟨E,g, -⟩:=A.o.put (.slice none 0 0);obtain⟨y,z⟩:=A.o;have h:=ag (show bi (X.setCell ⟨w.heap.size,0,none⟩ (.slice none 0 0)) w.heap.size (.slice none 0 0) _ from bi.nil _ _);have i:=ag (I.o.grown g I.o.size (by intro k F;cases F;omega));clear z g;go_wp2;obtain⟨W,j⟩:=ak (X.setCell ⟨w.heap.size,0,none⟩ (.slice none 0 0));rw[<-j]at E h i⊢;try simp only[Exit.inBlock,Exit.then]
  refine bodyPost_ret (v:=.tuple #[.agg #[.slice none 0 0],.int .i64 8]) ?_ rfl ⟨.slice none 0 0,by rw[m.o],by rw[C.o];exact h.o,i.o⟩
  clear j D t;simp[results,Tryz.results154,go_sem, *]
 have S:=ag (ku.mono kv.o);have Qu:=ag u;have yg:=ag (show gL fs from fun f t x hx=>Rq (((qng u).2.1 f t).2 x hx));clear u ku;obtain⟨p,hp⟩:=ak fs.length;rw[<-hp]at S⊢;have HP:=ag hp;obtain⟨q,hq⟩:=ak r.length;rw[<-hq];have HQ:=ag hq;clear hp hq;by_cases g3:0<q
 ·have ab:(0:Int)<q:=by omega
  have m:=ag (qnj rJ.o jy.o Qu.o (fun e=>by have:=HQ.o;rw[e]at this;simp at this;omega));have C:=ag (El (b:=l) (B:=B) (by rw[m.o];omega));have D:=A.o.cell;have t:=A.o.fz;obtain⟨E,g, -⟩:=A.o.put (.slice none 0 0);obtain⟨y,z⟩:=A.o;have h:=ag (show bi (X.setCell ⟨w.heap.size,0,none⟩ (.slice none 0 0)) w.heap.size (.slice none 0 0) _ from bi.nil _ _);have i:=ag (I.o.grown g I.o.size (by intro k F;cases F;omega));clear z g;go_wp2;obtain⟨W,j⟩:=ak (X.setCell ⟨w.heap.size,0,none⟩ (.slice none 0 0));rw[<-j]at E h i⊢;try simp only[Exit.inBlock,Exit.then]
  refine bodyPost_ret (v:=.tuple #[.agg #[.slice none 0 0],.int .i64 8]) ?_ rfl ⟨.slice none 0 0,by rw[m.o],by rw[C.o];exact h.o,i.o⟩
  clear j D t;simp[results,Tryz.results154,go_sem, *]
 have ab:decide ((0:Int)<q)=false:=aC (by omega);have Hz:=ag (qnk rJ.o jy.o (show rq l=some (fs,[])by rw[Qu.o,List.eq_nil_of_length_eq_zero (l:=r) (by have:=HQ.o;omega)]));have T:=qwy L p M fs B X S.o.rd HP.o yg.o;by_cases N:dR fs B
 ·rw[Xd8 N]at T
  have m:=ag (show mg l B=0 by rw[Hz.o.1,if_pos N]);have C:=ag (Hz.o.2 N);clear N;go_wp2_with fail
  refine(T).mono ?_
  rintro e Y⟨rfl,d⟩;have H:=ag (A.o.a d);have Uq:=ag (S.o.a d);have Z:=bT I d;clear A S I d;clear T;have D:=H.o.cell;have t:=H.o.fz;obtain⟨E,g, -⟩:=H.o.put (.slice L p M);obtain⟨y,z⟩:=H.o;have h:=ag (show bi (Y.setCell ⟨w.heap.size,0,none⟩ (.slice L p M)) w.heap.size (.slice L p M) _ from(Uq.o).keptS g z (by decide) (by decide));have i:=ag (Z.o.grown g Z.o.size (by intro k F;cases F;omega));clear z g;go_wp2;obtain⟨W,j⟩:=ak (Y.setCell ⟨w.heap.size,0,none⟩ (.slice L p M));rw[<-j]at E h i⊢;try simp only[Exit.inBlock,Exit.then]
  refine bodyPost_ret (v:=.tuple #[.agg #[.slice L p M],.int .i64 0]) ?_ rfl ⟨.slice L p M,by rw[m.o],by rw[C.o];exact h.o,i.o⟩
  clear j D t;simp[results,Tryz.results154,go_sem, *]
 rw[Xd7 N]at T
 have m:=ag (show mg l B=8 by rw[Hz.o.1,if_neg N]);have C:=ag (El (b:=l) (B:=B) (by rw[m.o];omega));clear N;go_wp2_with fail
 refine(T).mono ?_
 rintro e Y⟨rfl,d⟩;have H:=ag (A.o.a d);have Uq:=ag (S.o.a d);have Z:=bT I d;clear A S I d;clear T;have D:=H.o.cell;have t:=H.o.fz;obtain⟨E,g, -⟩:=H.o.put (.slice none 0 0);obtain⟨y,z⟩:=H.o;have h:=ag (show bi (Y.setCell ⟨w.heap.size,0,none⟩ (.slice none 0 0)) w.heap.size (.slice none 0 0) _ from bi.nil _ _);have i:=ag (Z.o.grown g Z.o.size (by intro k F;cases F;omega));clear z g;go_wp2;obtain⟨W,j⟩:=ak (Y.setCell ⟨w.heap.size,0,none⟩ (.slice none 0 0));rw[<-j]at E h i⊢;try simp only[Exit.inBlock,Exit.then]
 refine bodyPost_ret (v:=.tuple #[.agg #[.slice none 0 0],.int .i64 8]) ?_ rfl ⟨.slice none 0 0,by rw[m.o],by rw[C.o];exact h.o,i.o⟩
 clear j D t;simp[results,Tryz.results154,go_sem, *]
end Go.Proofs.YtmeaiocohalphaaGreatDoor
