/-
  What files.Read does: a file is cut from bytes.
-/
import Derived.Test.YthpammbgcidloaaGreatFiRef1
set_option maxHeartbeats 2000000
set_option maxRecDepth 100000
namespace Go.Proofs.YthpammbgcidloaaGreat
open Go.RowKit
set_option linter.all false
def aQ (w:World) (q:Nat) (s:ByteArray) (y:Value):Prop:=w.heap[q]? =some (.cells #[.string s,y] 98 (0,0))
theorem aQ.a {w w':World} {q:Nat} {s:ByteArray} {y:Value} (h:aQ w q s y) (hb:ah w w'):aQ w' q s y:=(hb.block q (Array.getElem?_eq_some_iff.1 h).1).trans h
theorem aQ.cell1 {w:World} {q:Nat} {s:ByteArray} {y:Value} (h:aQ w q s y):w.cell? ⟨q,1,none⟩=some y:=by rw [cell_of_row w q 1 _ _ (0,0) h];rfl
theorem aQ.cell0 {w:World} {q:Nat} {s:ByteArray} {y:Value} (h:aQ w q s y):w.cell? ⟨q,0,none⟩=some (.string s):=by rw [cell_of_row w q 0 _ _ (0,0) h];rfl
theorem aQ.new (w:World) (s:ByteArray) (y:Value):aQ (w.alloc (.cells #[.string s,y] 98)) w.heap.size s y:=heap_alloc_new w _
def wS (w:World) (v:Value) (l:ak):Prop:=
 (l=[]∧(v=.slice none 0 0∨∃a c,v=.slice (some a) 0 c))∨
 ∃b off c cs,v=.slice (some ⟨b,off,none⟩) l.length c∧l.length<=c∧c<=maxLen∧w.heap[b]? =some (.cells cs 5 (0,0))∧∀j,(h:j<l.length)->w.cell? ⟨b,off+j,none⟩=some (.int .u8 (l[j]).toNat)
theorem wS.rd {w:World} {v:Value} {l:ak} (h:wS w v l):Rd w v l:=by
 rcases h with h | ⟨b,a,c,cs,e,d,f,_,g⟩
 ·exact .inl h
 ·exact .inr ⟨b,a,c,e,d,f,g⟩
theorem wS.a {w w':World} {v:Value} {l:ak} (h:wS w v l) (hb:ah w w'):wS w' v l:=by
 rcases h with h | ⟨b,a,c,cs,e,i,k,d,f⟩
 ·exact .inl h
 ·exact .inr ⟨b,a,c,cs,e,i,k,(hb.block b (Array.getElem?_eq_some_iff.1 d).1).trans d,fun j g=>by rw [hb.cell (World.block_lt_of_cell? w _ (f j g))];exact f j g⟩
theorem jq.rdU {w:World} {base:Nat} {v:Value} {l:ak} (h:jq w base v l):wS w v l:=by
 rcases h.2 with ⟨rfl,a⟩ | ⟨g,cap,b,rfl,_,d,a,e,f,c⟩
 ·exact .inl ⟨List.length_eq_zero_iff.1 a,.inl rfl⟩
 ·refine .inr ⟨g,0,cap,b,rfl,a,e,d,fun j i=>?_⟩
  have:=h.cells (g:=g) rfl j (.int .u8 (l[j]).toNat) (by simp [bW,List.getElem?_eq_getElem i])
  simpa [Addr.add_lit] using this
def bY (t0:TypeId) (w w':World):Prop:=∀(k:Nat) (cs:Array Value) (t:TypeId) (fr:Nat × Nat),t≠t0->w.heap[k]? =some (Obj.cells cs t fr)->w'.heap[k]? =some (Obj.cells cs t fr)
theorem wS.keepT {w w':World} {v:Value} {l:ak} (h:wS w v l) {d:TypeId} (i:5≠d) (k:bY d w w'):wS w' v l:=by
 rcases h with h | ⟨b,a,c,cs,e,m,n,f,o⟩
 ·exact .inl h
 ·have g:=k b cs _ _ i f
  refine .inr ⟨b,a,c,cs,e,m,n,g,fun j p=>?_⟩;rw [cell_of_row w' b _ _ _ (0,0) g,<-cell_of_row w b _ _ _ (0,0) f];exact o j p
def iq (v:Value) (l:ak) (v':Value) (r:ak):Prop:=(∀wx,Rd wx v l->Rd wx v' r)∧∀wx,wS wx v l->wS wx v' r
theorem iq.refl (v:Value) (l:ak):iq v l v l:=⟨fun _ h=>h,fun _ h=>h⟩
theorem iq.trans {v b c:Value} {l d e:ak} (h:iq v l b d) (k:iq b d c e):iq v l c e:=⟨fun w a=>k.1 w (h.1 w a),fun w a=>k.2 w (h.2 w a)⟩
theorem FJ {b d n c k:Nat} {l:ak} (p:n=l.length) (v:n<=c) (w:c<=maxLen) (x:k<=n) (q:k≠c):iq (.slice (some ⟨b,d,none⟩) n c) l (.slice (some ⟨b,d+k,none⟩) (l.drop k).length (c - k)) (l.drop k):=by
 subst p;have y:(l.drop k).length=l.length - k:=List.length_drop;have i:∀(f:World) (g a m:Nat),Value.slice (some ⟨b,d,none⟩) l.length c=.slice (some ⟨g,a,none⟩) l.length m->(∀j,(h:j<l.length)->f.cell? ⟨g,a+j,none⟩=some (.int .u8 (l[j]).toNat))->∀j,(h:j<(l.drop k).length)->f.cell? ⟨b,d+k+j,none⟩=some (.int .u8 ((l.drop k)[j]).toNat):=by
  intro f g a m e h j z;cases e;rw [List.getElem_drop,Nat.add_assoc];exact h (k+j) (by omega)
 refine ⟨fun f h=>?_,fun f h=>?_⟩
 ·rcases h with ⟨h,_⟩ | ⟨g,a,m,e,r,s,o⟩
  ·have:l.drop k=[]:=by rw [h];simp
   rw [this];exact .inl ⟨rfl,.inr ⟨_,_,rfl⟩⟩
  ·exact .inr ⟨b,d+k,c - k,rfl,by omega,by omega,i f g a m e o⟩
 ·rcases h with ⟨h,_⟩ | ⟨g,a,m,cs,e,r,s,t,o⟩
  ·have:l.drop k=[]:=by rw [h];simp
   rw [this];exact .inl ⟨rfl,.inr ⟨_,_,rfl⟩⟩
  ·have u:=e
   cases u;exact .inr ⟨b,d+k,c - k,cs,rfl,by omega,by omega,t,i f b d c e o⟩
theorem WE {a:Addr} {n c:Nat} {l:ak} {r:ak} (b:r=[]) (d:Nat):iq (.slice (some a) n c) l (.slice (some a) r.length d) r:=by
 subst b;exact ⟨fun _ _=>.inl ⟨rfl,.inr ⟨_,_,rfl⟩⟩,fun _ _=>.inl ⟨rfl,.inr ⟨_,_,rfl⟩⟩⟩
theorem oL {l r:ak} {m:Nat} (h:fu l=some (m,r)):∃k,rd l=some (m,k)∧m<=4096∧r=l.drop k:=by
 unfold fu at h;cases e:rd l with
 | none=>rw [e] at h;cases h
 | some p=>
  obtain ⟨n,k⟩:=p;rw [e] at h;simp only at h
  by_cases a:n<=4096
  ·rw [if_pos a] at h
   injection h with h;injection h with e1 e2;subst e1 e2;exact ⟨k,rfl,a,rfl⟩
  ·rw [if_neg a] at h;cases h
theorem PD (a:au) (n c:Nat) (l r:ak) (m:Nat) (w:World) (p:Rd w (.slice a n c) l) (h:fu l=some (m,r)):
  Calls Tryz.prog 176 #[.slice a n c] w fun e w'=>∃a2 c2,e=.returned (.tuple #[.int .i64 m,.slice a2 r.length c2,.int .i64 0])∧iq (.slice a n c) l (.slice a2 r.length c2) r∧ah w w':=by
 obtain ⟨k,e1,E,j⟩:=oL h;have d:=qr4 w p;rw [e1] at d;unfold qm at d;obtain ⟨A,g,x,F⟩:=NM e1;have G:=ag j;rcases p with ⟨B,_⟩ | ⟨b,f,H,e,u,y,z⟩
 ·rw [B] at g;simp at g;omega
 obtain ⟨I,i⟩:=ai l.length;rw [<-i] at e u g;cases e;have J:decide ((4096:Int)<m)=false:=aA (by omega);have K:IntKind.i64.wrap (m:Int)=m:=by rw [IntKind.wrap_i64];omega
 have L:(k:Int)<=n:=by omega
 have M:(0:Int)<=k:=by omega
 have N:(n:Int)<=c:=by omega
 unfold maxLen at y;by_cases q:k=c
 ·have t:=ag (show iq (.slice (some ⟨b,f,none⟩) n c) l (.slice (some ⟨b,f,none⟩) r.length 0) r from WE (by rw [j];exact List.drop_of_length_le (by omega)) 0)
  have s:r.length=0:=by rw [j,List.length_drop];omega
  have v:n=k:=by omega
  subst q;subst v;rw [s] at t ⊢;clear z j h e1 i s g u y;go_enter Tryz.func176,Tryz.ntmps176;go_wp2_with fail
  refine d.mono ?_
  rintro e C ⟨rfl,rfl⟩;clear d;go_wp2;go_quiet (fail)
  go_wp2;go_ret3;exact ⟨some ⟨b,f,none⟩,0,by simp_all,t.o,below_drewN aB _⟩
 ·have t:=ag (show iq (.slice (some ⟨b,f,none⟩) n c) l (.slice (some ⟨b,f+k,none⟩) r.length (c - k)) r by rw [j];exact FJ i u (by unfold maxLen;omega) g q)
  have D:=ag (show r.length=n - k by rw [j,List.length_drop,<-i]);clear z j h e1 i;go_enter Tryz.func176,Tryz.ntmps176;go_wp2_with fail
  refine d.mono ?_
  rintro e C ⟨rfl,rfl⟩;clear d;go_wp2;go_quiet (fail)
  go_wp2;go_ret3;exact ⟨some ⟨b,f+k,none⟩,c - k,by rw [D.o];simp,t.o,below_drewN aB _⟩
theorem WF (a:au) (n c:Nat) (l:ak) (w:World) (d:Rd w (.slice a n c) l) (h:fu l=none):
  Calls Tryz.prog 176 #[.slice a n c] w fun e w'=>e=.returned (.tuple #[.int .i64 0,.slice none 0 0,.int .i64 8])∧ah w w':=by
 have b:=qr4 w d;cases e:rd l with
 | none=>
  rw [e] at b;unfold qm at b;clear d h e;go_enter Tryz.func176,Tryz.ntmps176;go_wp2_with fail
  refine b.mono ?_
  rintro e g ⟨rfl,rfl⟩;clear b;go_wp2;go_ret3;exact ⟨rfl,aB⟩
 | some p=>
  obtain ⟨m,k⟩:=p;rw [e] at b;unfold qm at b;have f:4096<m:=by
   unfold fu at h;rw [e] at h;simp only at h
   by_cases f:m<=4096
   ·rw [if_pos f] at h;cases h
   ·omega
  have i:(4096:Int)<m:=by omega
  clear d h e;go_enter Tryz.func176,Tryz.ntmps176;go_wp2_with fail
  refine b.mono ?_
  rintro e g ⟨rfl,rfl⟩;clear b;go_wp2;go_ret3;exact ⟨rfl,aB⟩
def dH (w:World) (q:Nat) (x y:Value):Prop:=w.heap[q]? =some (.cells #[x,y] 185 (0,0))
theorem dH.a {w w':World} {q:Nat} {x y:Value} (h:dH w q x y) (hb:ah w w'):dH w' q x y:=(hb.block q (Array.getElem?_eq_some_iff.1 h).1).trans h
theorem dH.cell0 {w:World} {q:Nat} {x y:Value} (h:dH w q x y):w.cell? ⟨q,0,none⟩=some x:=by rw [cell_of_row w q 0 _ _ (0,0) h];rfl
theorem dH.cell1 {w:World} {q:Nat} {x y:Value} (h:dH w q x y):w.cell? ⟨q,1,none⟩=some y:=by rw [cell_of_row w q 1 _ _ (0,0) h];rfl
theorem dH.new (w:World) (x y:Value):dH (w.alloc (.cells #[x,y] 185)) w.heap.size x y:=heap_alloc_new w _
theorem dH.put {w:World} {q:Nat} {x y:Value} (h:dH w q x y) (u v:Value):dH ((w.setCell ⟨q,0,none⟩ u).setCell ⟨q,1,none⟩ v) q u v:=by
 have a:=heap_setCell_same w q 0 _ 185 u h;have a2:=heap_setCell_same (w.setCell ⟨q,0,none⟩ u) q 1 _ 185 v a;unfold dH;rw [a2];rfl
theorem qyg {l r:ak} {x:Ex} (h:kP l=some (x,r)):∃(b a:Nat) (q:ak),fu l=some (b,q)∧fu q=some (a,r)∧x=((b:Int),(a:Int)):=by
 unfold kP at h;cases e:fu l with
 | none=>rw [e] at h;cases h
 | some p=>
  obtain ⟨m,q⟩:=p;rw [e] at h;simp only at h
  cases e2:fu q with
  | none=>rw [e2] at h;cases h
  | some p=>
   obtain ⟨a,c⟩:=p;rw [e2] at h;simp only at h
   injection h with h;injection h with h1 h2;subst h1 h2;exact ⟨m,a,q,rfl,e2,rfl⟩
theorem qafp {l:ak} (h:kP l=none):fu l=none∨∃m q,fu l=some (m,q)∧fu q=none:=by
 unfold kP at h;cases e:fu l with
 | none=>exact .inl rfl
 | some p=>
  obtain ⟨m,q⟩:=p;rw [e] at h;simp only at h
  cases e2:fu q with
  | none=>exact .inr ⟨m,q,rfl,e2⟩
  | some p=>
   obtain ⟨a,b⟩:=p;rw [e2] at h;cases h
theorem quj (a:au) (n c:Nat) (l r:ak) (x:Ex) (w:World) (d:Rd w (.slice a n c) l) (h:kP l=some (x,r)):
  Calls Tryz.prog 202 #[.slice a n c] w fun e w'=>∃a2 c2,e=.returned (.tuple #[.agg #[.int .i64 x.1,.int .i64 x.2],.slice a2 r.length c2,.int .i64 0])∧iq (.slice a n c) l (.slice a2 r.length c2) r∧ah w w':=by
 obtain ⟨j,m,q,e1,I,rfl⟩:=qyg h;obtain ⟨D,b⟩:=ai (w.alloc (.cells #[.int .i64 0,.int .i64 0] 185));have f:ah w D:=by rw [b];exact ae
 have p:=ag (show dH D w.heap.size (.int .i64 0) (.int .i64 0) by rw [b];exact dH.new w _ _);have Q:=ag d;have s:=ag f;have t:=PD a n c l q j D (d.a f) e1;have E:=ag I;clear d f h e1 I;go_enter Tryz.func202,Tryz.ntmps202;go_wp2_with fail
 rw [<-b];clear b;refine t.mono ?_
 rintro e R ⟨S,c1,rfl,J,F⟩;have g:=bT s F;have K:=ag (p.o.a F);have B:=ag J;clear t F J p s;obtain ⟨T,u⟩:=ai q.length;rw [<-u] at B ⊢;clear u;go_wp2_with fail
 refine (PD S T c1 q r m R (B.o.1 _ (Q.o.a g.o)) E.o).mono ?_
 rintro e C ⟨a2,c2,rfl,L,G⟩;have y:=bT g G;have z:=ag (K.o.a G);have A:=ag (B.o.trans L);clear G L K g B;obtain ⟨U,i⟩:=ai r.length;rw [<-i] at A ⊢;have M:=ag i;clear i;have V:=z.o.cell0;have W:=z.o.cell1;have X:=frozen_of_row C w.heap.size 0 _ _ z.o;have Y:=frozen_of_row C w.heap.size 1 _ _ z.o;have H:=z.o.put (.int .i64 j) (.int .i64 m);have N:=wR (w:=C) (q:=w.heap.size) (.int .i64 j) (.int .i64 m);have O:=ag (y.o.grown N y.o.size (by intro k Z;cases Z;omega));have y0:=H.cell0;have y1:=H.cell1;clear H N;go_wp2;obtain ⟨w9,P⟩:=ai ((C.setCell ⟨w.heap.size,0,none⟩ (.int .i64 j)).setCell ⟨w.heap.size,1,none⟩ (.int .i64 m));rw [<-P] at y0 y1 O ⊢;try simp only [Exit.inBlock,Exit.then]
 refine bodyPost_ret (v:=.tuple #[.agg #[.int .i64 j,.int .i64 m],.slice a2 U c2,.int .i64 0]) ?_ rfl ⟨a2,c2,by rw [<-M.o],by rw [<-M.o];exact A.o,O.o⟩
 clear P V W X Y;simp [results,Tryz.results202,go_sem, *]
theorem quk (a:au) (n c:Nat) (l:ak) (w:World) (d:Rd w (.slice a n c) l) (h:kP l=none):
  Calls Tryz.prog 202 #[.slice a n c] w fun e w'=>e=.returned (.tuple #[.agg #[.int .i64 0,.int .i64 0],.slice none 0 0,.int .i64 8])∧ah w w':=by
 obtain ⟨D,b⟩:=ai (w.alloc (.cells #[.int .i64 0,.int .i64 0] 185));have f:ah w D:=by rw [b];exact ae
 have p:=ag (show dH D w.heap.size (.int .i64 0) (.int .i64 0) by rw [b];exact dH.new w _ _);have R:=ag d;have r:=ag f;rcases qafp h with y | ⟨m,q,y,O⟩
 ·have g:=WF a n c l D (d.a f) y
  clear d f h y;go_enter Tryz.func202,Tryz.ntmps202;go_wp2_with fail
  rw [<-b];clear b;refine g.mono ?_
  rintro e s ⟨rfl,t⟩;have i:=bT r t;have j:=ag (p.o.a t);clear g t p r;have E:=j.o.cell0;have F:=j.o.cell1;have G:=frozen_of_row s w.heap.size 0 _ _ j.o;have H:=frozen_of_row s w.heap.size 1 _ _ j.o;have u:=j.o.put (.int .i64 0) (.int .i64 0);have z:=wR (w:=s) (q:=w.heap.size) (.int .i64 0) (.int .i64 0);have A:=ag (i.o.grown z i.o.size (by intro k I;cases I;omega));have J:=u.cell0;have K:=u.cell1;clear u z;go_wp2;obtain ⟨S,B⟩:=ai ((s.setCell ⟨w.heap.size,0,none⟩ (.int .i64 0)).setCell ⟨w.heap.size,1,none⟩ (.int .i64 0));rw [<-B] at J K A ⊢;try simp only [Exit.inBlock,Exit.then]
  refine bodyPost_ret (v:=.tuple #[.agg #[.int .i64 0,.int .i64 0],.slice none 0 0,.int .i64 8]) ?_ rfl ⟨rfl,A.o⟩
  clear B E F G H;simp [results,Tryz.results202,go_sem, *]
 ·have g:=PD a n c l q m D (d.a f) y
  have L:=ag O;clear d f h y O;go_enter Tryz.func202,Tryz.ntmps202;go_wp2_with fail
  rw [<-b];clear b;refine g.mono ?_
  rintro e T ⟨U,c1,rfl,P,t⟩;have x:=bT r t;have Q:=ag (p.o.a t);have M:=ag P;clear g t P p r;obtain ⟨V,C⟩:=ai q.length;rw [<-C] at M ⊢;clear C;go_wp2_with fail
  refine (WF U V c1 q T (M.o.1 _ (R.o.a x.o)) L.o).mono ?_
  rintro e s ⟨rfl,N⟩;have i:=bT x N;have j:=ag (Q.o.a N);clear N Q x M;have E:=j.o.cell0;have F:=j.o.cell1;have G:=frozen_of_row s w.heap.size 0 _ _ j.o;have H:=frozen_of_row s w.heap.size 1 _ _ j.o;have u:=j.o.put (.int .i64 0) (.int .i64 0);have z:=wR (w:=s) (q:=w.heap.size) (.int .i64 0) (.int .i64 0);have A:=ag (i.o.grown z i.o.size (by intro k I;cases I;omega));have J:=u.cell0;have K:=u.cell1;clear u z;go_wp2;obtain ⟨S,B⟩:=ai ((s.setCell ⟨w.heap.size,0,none⟩ (.int .i64 0)).setCell ⟨w.heap.size,1,none⟩ (.int .i64 0));rw [<-B] at J K A ⊢;try simp only [Exit.inBlock,Exit.then]
  refine bodyPost_ret (v:=.tuple #[.agg #[.int .i64 0,.int .i64 0],.slice none 0 0,.int .i64 8]) ?_ rfl ⟨rfl,A.o⟩
  clear B E F G H;simp [results,Tryz.results202,go_sem, *]
theorem qwj {w w':World} {base:Nat} {e:TypeId} {size:Nat} {v:Value} {n:Nat} {d:List Value} (q:w.ownsRow base e size v n d) (f:w.grownBy w' v.ownBlock):bY e w w':=fun k cs t j h b=>by
 have c:=(Array.getElem?_eq_some_iff.1 b).1;rw [f.block k c ?_]
 ·exact b
 ·intro e0
  rcases q.2 with ⟨rfl,_⟩ | ⟨g,cap,i,rfl,_,a,_⟩
  ·cases e0
  ·cases e0
   rw [b] at a;cases a;exact h rfl
theorem bY.below {b:TypeId} {w w':World} (h:ah w w'):bY b w w':=fun k cs t c _ a=>by rw [h.block k (Array.getElem?_eq_some_iff.1 a).1];exact a
theorem bY.trans {a:TypeId} {w b c:World} (h:bY a w b) (k:bY a b c):bY a w c:=fun i cs t d e f=>k i cs t d e (h i cs t d e f)
theorem bY.set {w:World} {q i:Nat} {cs:Array Value} {b:TypeId} {u:Value} (h:w.heap[q]? =some (.cells cs b (0,0))):bY b w (w.setCell ⟨q,i,none⟩ u):=fun k d t e c a=>by
 have:k≠q:=by
  rintro rfl;rw [h] at a;cases a;exact c rfl
 exact (heap_setCell_other w ⟨q,i,none⟩ k u this).trans a
theorem qwk {w:World} {base:Nat} {v:Value} {l:List Ex} (h:bB w base v l) (hb:base<=w.heap.size) (F:l.length<=1000000) (x y:Int):
  ∃g c w',(Builtin.append_ #[96,96] 96 #[v,.slice (some ⟨w.heap.size,0,none⟩) 1 1]).run Tryz.prog (w.alloc (.cells #[.int .i64 x,.int .i64 y] 185))=.ok (.slice (some ⟨g,0,none⟩) (l.length+1) c) w'∧
   bB w' base (.slice (some ⟨g,0,none⟩) (l.length+1) c) (l++[(x,y)])∧Below base w w'∧bY 185 w w':=by
 obtain ⟨b,o⟩:=ai (w.alloc (.cells #[.int .i64 x,.int .i64 y] 185));have p:=Pg w #[.int .i64 x,.int .i64 y] 185;rw [<-o] at p ⊢;have a:ah w b:=by rw [o];exact ae
 obtain ⟨z,A,d,f,i⟩:=info_parts Tryz.infoEx;have j:b.ownsRow base 185 2 v l.length (cellsE l):=pW h a;obtain ⟨G,q,B,r,s,_⟩:=run_append_own (P:=Tryz.prog) b base 96 96 185 z _ 2 16 Tryz.underlying96 A d f i rfl (by decide) _ _ _ j ⟨w.heap.size,0,none⟩ 1 1 [.int .i64 x,.int .i64 y] rfl p (by
  intro u t;simp at t
  rcases t with rfl | rfl<;>rfl) (by unfold maxLen;omega) (by omega) (aC hb a.size)
 have C:Below base w q:=(a.mono hb).grown s (aC hb a.size) fun k D=>(j.lt k D).1
 have e:cellsE (l++[(x,y)])=cellsE l++[.int .i64 x,.int .i64 y]:=by rw [VL];rfl
 have m:(l++[(x,y)]).length=l.length+1:=by simp
 rcases r.2 with ⟨_,n⟩ | ⟨g,cap,E,n,_⟩
 ·exact absurd n (by omega)
 ·subst n
  exact ⟨g,cap,q,B,by unfold bB;rw [m,e];exact r,C,(bY.below a).trans (qwj j s)⟩
theorem qsb {w:World} {base:Nat} {v:Value} {fs:List Fl} (h:bJ w base v fs) (hb:base<=w.heap.size) (E:fs.length<=1000000) (s:ak) (x:Value) (l:List Ex) (z:bB w base x l):
  ∃g c w',(Builtin.append_ #[28,28] 28 #[v,.slice (some ⟨w.heap.size,0,none⟩) 1 1]).run Tryz.prog (w.alloc (.cells #[.string (bs s),x] 98))=.ok (.slice (some ⟨g,0,none⟩) (fs.length+1) c) w'∧
   bJ w' base (.slice (some ⟨g,0,none⟩) (fs.length+1) c) (fs++[(s,l)])∧Below base w w'∧bY 98 w w':=by
 obtain ⟨a,rfl,h⟩:=h;rw [List.length_map] at E;obtain ⟨i,A⟩:=ai (w.alloc (.cells #[.string (bs s),x] 98));have B:=Pg w #[.string (bs s),x] 98;rw [<-A] at B ⊢;have b:ah w i:=by rw [A];exact ae
 obtain ⟨F,G,m,n,o⟩:=info_parts Tryz.infoFl;have j:i.ownsRow base 98 2 v a.length (fK a):=pW h.1 b;obtain ⟨L,q,H,C,r,_⟩:=run_append_own (P:=Tryz.prog) i base 28 28 98 F _ 2 40 Tryz.underlying28 G m n o rfl (by decide) _ _ _ j ⟨w.heap.size,0,none⟩ 1 1 [.string (bs s),x] rfl B (by
  intro u D;simp at D
  rcases D with rfl | rfl
  ·rfl
  ·exact z.ownForm) (by unfold maxLen;omega) (by omega) (aC hb b.size)
 have I:Below base w q:=(b.mono hb).grown r (aC hb b.size) fun k J=>(j.lt k J).1
 have e:fK (a++[((s,l),x)])=fK a++[.string (bs s),x]:=by rw [Pf];rfl
 have t:(a++[((s,l),x)]).length=a.length+1:=by simp
 have y:∀p∈a++[((s,l),x)],bB q base p.2 p.1.2:=by
  intro p d;have f:bB i base p.2 p.1.2:=by
   rcases List.mem_append.1 d with d | d
   ·exact (h.2 p d).a b
   ·obtain rfl:p=((s,l),x):=by simpa using d
    exact z.a b
  exact f.keptF j r
 rcases C.2 with ⟨_,f⟩ | ⟨g,cap,K,f,_⟩
 ·exact absurd f (by omega)
 ·subst f
  rw [List.length_map];exact ⟨g,cap,q,H,⟨a++[((s,l),x)],by simp,by rw [t,e];exact C,y⟩,I,(bY.below b).trans (qwj j r)⟩
theorem iH (a:au) (n c:Nat) (l s r:ak) (w:World) (o:l.length<=1000000) (b:Rd w (.slice a n c) l) (h:ct l=some (s,r)):
  Calls Tryz.prog 201 #[.slice a n c] w fun e w'=>∃a2 c2,e=.returned (.tuple #[.string (bs s),.slice a2 r.length c2,.int .i64 0])∧jq w' w.heap.size (.slice a2 r.length c2) r∧ah w w':=by
 refine (qv6 w (by omega) b).mono ?_
 rintro e w' ⟨v,rfl,hv,f⟩;obtain ⟨x,rfl,d⟩:=qr5 hv;have e1:vE l=bs s:=by unfold vE;rw [h]
 have i:Gx l=0:=by unfold Gx;rw [h]
 have j:xN l=r:=by unfold xN;rw [h]
 rw [j] at d;rw [e1,i];obtain ⟨a2,c2,rfl⟩:∃a2 c2,x=.slice a2 r.length c2:=by
  rcases d.2 with ⟨rfl,k⟩ | ⟨g,cap,m,rfl,_⟩
  ·exact ⟨none,0,by rw [k]⟩
  ·exact ⟨_,_,rfl⟩
 exact ⟨a2,c2,rfl,d,f⟩
theorem Nr (a:au) (n c:Nat) (l:ak) (w:World) (g:l.length<=1000000) (b:Rd w (.slice a n c) l) (h:ct l=none):
  Calls Tryz.prog 201 #[.slice a n c] w fun e w'=>∃x,e=.returned (.tuple #[.string {data:=#[]},x,.int .i64 8])∧ah w w':=by
 refine (qv6 w (by omega) b).mono ?_
 rintro e w' ⟨v,rfl,hv,d⟩;obtain ⟨x,rfl,i⟩:=qr5 hv;have e1:vE l={data:=#[]}:=by unfold vE;rw [h];rfl
 have f:Gx l=8:=by unfold Gx;rw [h]
 rw [e1,f];exact ⟨x,rfl,d⟩
end Go.Proofs.YthpammbgcidloaaGreat
