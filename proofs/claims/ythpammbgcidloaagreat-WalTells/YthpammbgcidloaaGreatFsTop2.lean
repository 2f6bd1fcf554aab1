/-
  Commit, Put of files on a disk.
-/
import Derived.Test.YthpammbgcidloaaGreatFsBegin
set_option maxHeartbeats 4000000
set_option maxRecDepth 100000
namespace Go.Proofs.YthpammbgcidloaaGreat
open Go.RowKit
set_option linter.all false
theorem jL.keptS {w w':World} {base:Nat} {v:Value} {d:Dk} {q:Nat} {cs:Array Value} {t:TypeId} {g:Nat × Nat} (h:jL w base v d) (b:w.grownBy w' (some q)) (c:w.heap[q]? =some (.cells cs t g)) (e:t≠5) (i:t≠94) (j:t≠151):jL w' base v d:=by
 obtain ⟨x,y,z,rfl,a,⟨k,l,m,n⟩,⟨o,r,c1,c2⟩⟩:=h;exact ⟨x,y,z,rfl,yO a b c e,⟨k,l,yO m b c i,fun p f=>yO (n p f) b c e⟩,⟨o,r,yO c1 b c j,fun p f=>yO (c2 p f) b c e⟩⟩
def dE (w:World) (r:Nat):Prop:=∃v0 v1 v2 v3 v4 v5,Bq w r 32 #[v0,v1,v2,v3,v4,v5]
theorem dE.a {w w':World} {r:Nat} (h:dE w r) (hb:ah w w'):dE w' r:=by
 obtain ⟨a,b,c,d,e,f,h⟩:=h;exact ⟨a,b,c,d,e,f,h.a hb⟩
theorem dE.grown {w w':World} {r p:Nat} (h:dE w r) (b:w.grownBy w' (some p)) (a:r≠p):dE w' r:=by
 obtain ⟨c,d,e,f,g,i,h⟩:=h;exact ⟨c,d,e,f,g,i,h.grown b a⟩
theorem dE.lt {w:World} {r:Nat} (h:dE w r):r<w.heap.size:=by
 obtain ⟨a,b,c,d,e,f,h⟩:=h;exact h.lt
theorem dE.new (w:World):dE (w.alloc (.cells #[.slice none 0 0,.slice none 0 0,.slice none 0 0,.int .u32 0,.slice none 0 0,.slice none 0 0] 32)) w.heap.size:=⟨_,_,_,_,_,_,Bq.new _ _ _⟩
def aY (w:World) (r:Nat) (x:FsV):World:=(((((w.setCell ⟨r,0,none⟩ (.slice x.a1 x.n1 x.c1)).setCell ⟨r,1,none⟩ (.slice x.a2 x.n2 x.c2)).setCell ⟨r,2,none⟩ (.slice x.a3 x.n3 x.c3)).setCell ⟨r,3,none⟩ (.int .u32 x.g)).setCell ⟨r,4,none⟩ (.slice x.a4 x.n4 x.c4)).setCell ⟨r,5,none⟩ (.slice x.a5 x.n5 x.c5)
theorem dE.cells {w:World} {r:Nat} (h:dE w r):(∃v,w.cell? ⟨r,0,none⟩=some v)∧(∃v,w.cell? ⟨r,1,none⟩=some v)∧(∃v,w.cell? ⟨r,2,none⟩=some v)∧(∃v,w.cell? ⟨r,3,none⟩=some v)∧(∃v,w.cell? ⟨r,4,none⟩=some v)∧(∃v,w.cell? ⟨r,5,none⟩=some v)∧∀j,w.frozen? ⟨r,j,none⟩=false:=by
 obtain ⟨a,b,c,d,e,f,h⟩:=h;exact ⟨⟨_,h.cell 0⟩,⟨_,h.cell 1⟩,⟨_,h.cell 2⟩,⟨_,h.cell 3⟩,⟨_,h.cell 4⟩,⟨_,h.cell 5⟩,h.fz⟩
theorem dE.put {w:World} {r:Nat} (h:dE w r) (x:FsV):bf (aY w r x) r x∧w.grownBy (aY w r x) (some r):=by
 obtain ⟨a,b,c,d,e,f,h⟩:=h;refine ⟨(((((h.put 0 _).put 1 _).put 2 _).put 3 _).put 4 _).put 5 _, ?_⟩;exact tH (tH (tH (tH (tH (tH (World.grownBy.refl _ _) 0 _) 1 _) 2 _) 3 _) 4 _) 5 _
def xz:FsV:=⟨none,0,0,none,0,0,none,0,0,0,none,0,0,none,0,0⟩
theorem jO (w:World) (base:Nat):aW w base (.agg #[.slice none 0 0,.slice none 0 0,.slice none 0 0,.int .u32 0,.slice none 0 0,.slice none 0 0]) fz:=⟨_,_,_,_,_,rfl,zC w base,bJ.nil _ _,bJ.nil _ _⟩
theorem Sm (p base:Nat) (y:Wy) (w:World) (h:bQ w p base true y) (hb:base<=w.heap.size) (aa:y.2.1=0->BU y.1.2.2.1∧BU y.1.2.2.2):
  Calls Tryz.prog 59 #[.pointer (some ⟨p,0,none⟩)] w fun e w'=>∃v,e=.returned (.tuple #[v,.int .i64 (kR y).2])∧aW w' base v (kR y).1∧ah w w':=by
 have HS:=ag h;have pJ:=ag h.lt;obtain ⟨x,ab,nb,cb,s,q,u,h4⟩:=h;have pI:=ag aa;obtain ⟨C,Z⟩:=aj (w.alloc (.cells #[.slice none 0 0,.slice none 0 0,.slice none 0 0,.int .u32 0,.slice none 0 0,.slice none 0 0] 32));have D:ah w C:=by rw [<-Z];exact ae
 have ac:=ag (s.a D);have ao:=ag D;have WH:=ag (show dE C w.heap.size by rw [<-Z];exact dE.new w);have HR:=ag h4;obtain ⟨E,F,G,H,I,J,K,L⟩:=qQ ac.o;have t:aL (fun d=>(Ij d p x y.2.1 ab nb cb∧dE d w.heap.size)∧ah w d):=fun C w3 h hb=>⟨⟨h.1.1.a hb,h.1.2.a hb⟩,h.2.trans (hb.mono h.2.size)⟩
 have A:(fun d=>(Ij d p x y.2.1 ab nb cb∧dE d w.heap.size)∧ah w d) C:=⟨⟨ac.o,WH.o⟩,ao.o⟩;clear s q u h4 D aa;by_cases M:¬y.2.1=0
 ·have HE:=ag (show kR y=(fz,y.2.1) by unfold kR;rw [if_pos M])
  go_enter Tryz.func59,Tryz.ntmps59;go_wp2_with fail
  try rw [Z]
  clear E F G H I J K L Z M;refine gH t (by kernel_rfl) A ?_
  intro b;generalize C.drew=wd at b ⊢;refine dm [0,1,2,3,4] (fuel:=2) (a':=?vU) (by kernel_rfl) (by kernel_rfl) (by kernel_rfl) ?lD b ?vV
  case lD=>
   iterate 5 (apply Yl.cons rfl rfl;focus (rintro d ⟨⟨B,x2⟩,x3⟩;obtain ⟨E,F,G,H,I,J,K,L⟩:=qQ B;go_simp<;>with_reducible rfl);try simp only [az])
   exact Yl.nil
  obtain ⟨⟨d0,e0⟩,⟨d1,e1⟩,⟨d2,e2⟩,⟨d3,e3⟩,⟨d4,e4⟩,⟨d5,e5⟩,l⟩:=b.1.2.cells;have f0:=l 0;have f1:=l 1;have f2:=l 2;have f3:=l 3;have f4:=l 4;have f5:=l 5;obtain ⟨j,m⟩:=b.1.2.put (xz);obtain ⟨f,N⟩:=ai (aY wd w.heap.size (xz));rw [<-N] at j m;have O:ah w f:=b.2.grown m b.2.size (by intro k hk;cases hk;exact Nat.le_refl _);have P:(fun d=>(Ij d p x y.2.1 ab nb cb∧dE d w.heap.size)∧ah w d) f:=⟨⟨b.1.1.grown m (fun e=>by have:=pJ.o;omega),⟨_,_,_,_,_,_,j⟩⟩,O⟩;have lh:=ag O;have z0:f.cell? ⟨w.heap.size,0,none⟩=some (.slice none 0 0):=j.cell 0;have z1:f.cell? ⟨w.heap.size,1,none⟩=some (.slice none 0 0):=j.cell 1;have z2:f.cell? ⟨w.heap.size,2,none⟩=some (.slice none 0 0):=j.cell 2;have z3:f.cell? ⟨w.heap.size,3,none⟩=some (.int .u32 0):=j.cell 3;have z4:f.cell? ⟨w.heap.size,4,none⟩=some (.slice none 0 0):=j.cell 4;have z5:f.cell? ⟨w.heap.size,5,none⟩=some (.slice none 0 0):=j.cell 5;refine nL (i:=5) (w':=f) rfl (by kernel_rfl) (by rfl) (by rw [N];unfold aY xz;go_simp) P ?_
  clear b e0 e1 e2 e3 e4 e5 f0 f1 f2 f3 f4 f5 l j m N O;have b:=P;try simp only [az]
  refine dm [6] (fuel:=0) (a':=?Al) (by kernel_rfl) (by kernel_rfl) (by kernel_rfl) ?oD b ?Am
  case oD=>
   iterate 1 (apply Yl.cons rfl rfl;focus (rintro d ⟨⟨B,x2⟩,x3⟩;obtain ⟨E,F,G,H,I,J,K,L⟩:=qQ B;go_simp<;>with_reducible rfl);try simp only [az])
   exact Yl.nil
  refine wpAnyH_done (by kernel_rfl) ?_ _
  refine NoPanic.normal ?_
  try simp only [az]
  clear b P A t;go_wp2;refine bodyPost_ret (v:=.tuple #[.agg #[.slice none 0 0,.slice none 0 0,.slice none 0 0,.int .u32 0,.slice none 0 0,.slice none 0 0],.int .i64 y.2.1]) ?_ rfl ⟨_,by rw [HE.o],by rw [HE.o];exact jO _ _,lh.o⟩
  simp [results,Tryz.results59,go_sem, *]
 rw [Decidable.not_not] at M;have HE:=ag (show kR y=(y.1,0) by unfold kR;rw [if_neg (by rw [M];decide)]);have sM:=ag (pI.o M);have fF:=ag M;have iO:=ag hb;go_enter Tryz.func59,Tryz.ntmps59;go_wp2_with fail
 try rw [Z]
 clear E F G H I J K L Z M;refine gH t (by kernel_rfl) A ?_
 intro b;generalize C.drew=wd at b ⊢;refine dm [0,1,2,3,4,5,6,7,8,9,10,11,12,13,14,16,17,18,19,20] (fuel:=5) (a':=?Dc) (by kernel_rfl) (by kernel_rfl) (by kernel_rfl) ?qM b ?De
 case qM=>
  iterate 20 (apply Yl.cons rfl rfl;focus (rintro d ⟨⟨B,x2⟩,x3⟩;obtain ⟨E,F,G,H,I,J,K,L⟩:=qQ B;go_simp<;>with_reducible rfl);try simp only [az])
  exact Yl.nil
 refine uT t (i:=15) (R:=fun v d=>∃a n c,v=.agg #[.slice a n c]∧n=(y.1.2.2.1).length∧bJ d base (.slice a n c) (y.1.2.2.1)) rfl (by kernel_rfl) (by rfl) (by go_simp) b ((qmm _ _ _ (y.1.2.2.1) _ (HR.o _ (Dm p b.2)).1.fl (HR.o _ (Dm p b.2)).1.n4 sM.o.1).mono fun e wy ⟨v,s,q,u⟩=>by
    obtain ⟨a,c,Q⟩:=q.form;subst Q;exact ⟨_,s,⟨a,_,c,rfl,rfl,q.mono (aC iO.o b.2.size)⟩,u⟩) (fun v C w2 ⟨a,n,c,s,q,u⟩ hb=>⟨a,n,c,s,q,u.a hb⟩) ?_
 intro ar aw r jK eY;clear t b;have t:=r;have b:=eY;clear r eY;obtain ⟨S,T,U,rfl,ad,ap⟩:=jK;try simp only [az]
 refine uT t (i:=21) (R:=fun v d=>∃a n c,v=.agg #[.slice a n c]∧n=(y.1.2.2.2).length∧bJ d base (.slice a n c) (y.1.2.2.2)) rfl (by kernel_rfl) (by rfl) (by go_simp) b ((qmm _ _ _ (y.1.2.2.2) _ (HR.o _ (Dm p b.1.2)).1.kl (HR.o _ (Dm p b.1.2)).1.n5 sM.o.2).mono fun e wy ⟨v,s,q,u⟩=>by
    obtain ⟨a,c,Q⟩:=q.form;subst Q;exact ⟨_,s,⟨a,_,c,rfl,rfl,q.mono (aC iO.o b.1.2.size)⟩,u⟩) (fun v C w2 ⟨a,n,c,s,q,u⟩ hb=>⟨a,n,c,s,q,u.a hb⟩) ?_
 intro ax aq r jK eY;clear t b;have t:=r;have b:=eY;clear r eY;obtain ⟨V,W,X,rfl,al,am⟩:=jK;try simp only [az]
 refine dm [22] (fuel:=2) (a':=?Qk) (by kernel_rfl) (by kernel_rfl) (by kernel_rfl) ?Ao b ?Ql
 case Ao=>
  iterate 1 (apply Yl.cons rfl rfl;focus (rintro d ⟨⟨⟨⟨B,x2⟩,x3⟩,_⟩,_⟩;obtain ⟨E,F,G,H,I,J,K,L⟩:=qQ B;go_simp<;>with_reducible rfl);try simp only [az])
  exact Yl.nil
 obtain ⟨⟨d0,e0⟩,⟨d1,e1⟩,⟨d2,e2⟩,⟨d3,e3⟩,⟨d4,e4⟩,⟨d5,e5⟩,l⟩:=b.1.1.1.2.cells;have f0:=l 0;have f1:=l 1;have f2:=l 2;have f3:=l 3;have f4:=l 4;have f5:=l 5;obtain ⟨j,m⟩:=b.1.1.1.2.put (⟨x.a1,x.n1,x.c1,x.a2,x.n2,x.c2,x.a3,x.n3,x.c3,x.g,S,T,U,V,W,X⟩);obtain ⟨f,N⟩:=ai (aY aq w.heap.size (⟨x.a1,x.n1,x.c1,x.a2,x.n2,x.c2,x.a3,x.n3,x.c3,x.g,S,T,U,V,W,X⟩));rw [<-N] at j m;have O:ah w f:=b.1.1.2.grown m b.1.1.2.size (by intro k hk;cases hk;exact Nat.le_refl _);obtain ⟨av,nv,cv,Q, -,Q5⟩:=b.1.2;injection Q with Q;have an:=congrArg (fun z:Array Value=>z[0]!) Q;simp at an
 obtain ⟨rfl,rfl,rfl⟩:=an;obtain ⟨y0,y1,y2,y3,y4,y5,hq⟩:=b.1.1.1.2;have uM:=Q5.keptS m hq (by decide) (by decide);have Y:=am.keptS m hq (by decide) (by decide);have kU:=ag (show aW f base (.agg #[.slice x.a1 x.n1 x.c1,.slice x.a2 x.n2 x.c2,.slice x.a3 x.n3 x.c3,.int .u32 x.g,.slice S T U,.slice V W X]) y.1 from ⟨_,_,_,_,_,by rw [<-(HR.o w (World.grownBy.refl _ _)).1.g],((HR.o _ (Dm p b.1.1.2)).2.2 rfl fF.o).keptS m hq (by decide) (by decide) (by decide),uM,Y⟩);have P:(((fun d=>(((Ij d p x y.2.1 ab nb cb∧dE d w.heap.size)∧ah w d)∧∃a n c,(Value.agg #[.slice S T U])=.agg #[.slice a n c]∧n=(y.1.2.2.1).length∧bJ d base (.slice a n c) (y.1.2.2.1))∧∃a n c,(Value.agg #[.slice V W X])=.agg #[.slice a n c]∧n=(y.1.2.2.2).length∧bJ d base (.slice a n c) (y.1.2.2.2)):World->Prop) f):=⟨⟨⟨⟨b.1.1.1.1.grown m (fun e=>by have:=pJ.o;omega),⟨_,_,_,_,_,_,j⟩⟩,O⟩,S,T,U,rfl,ad,uM⟩,V,W,X,rfl,al,Y⟩;have lh:=ag O;have z0:f.cell? ⟨w.heap.size,0,none⟩=some (.slice x.a1 x.n1 x.c1):=j.cell 0;have z1:f.cell? ⟨w.heap.size,1,none⟩=some (.slice x.a2 x.n2 x.c2):=j.cell 1;have z2:f.cell? ⟨w.heap.size,2,none⟩=some (.slice x.a3 x.n3 x.c3):=j.cell 2;have z3:f.cell? ⟨w.heap.size,3,none⟩=some (.int .u32 x.g):=j.cell 3;have z4:f.cell? ⟨w.heap.size,4,none⟩=some (.slice S T U):=j.cell 4;have z5:f.cell? ⟨w.heap.size,5,none⟩=some (.slice V W X):=j.cell 5;refine nL (i:=23) (w':=f) rfl (by kernel_rfl) (by rfl) (by rw [N];unfold aY;go_simp) P ?_
 clear b e0 e1 e2 e3 e4 e5 f0 f1 f2 f3 f4 f5 l j m N O hq uM Y Q5;have b:=P;try simp only [az]
 refine dm [24] (fuel:=0) (a':=?Qm) (by kernel_rfl) (by kernel_rfl) (by kernel_rfl) ?Ap b ?Qn
 case Ap=>
  iterate 1 (apply Yl.cons rfl rfl;focus (rintro d ⟨⟨⟨⟨B,x2⟩,x3⟩,_⟩,_⟩;obtain ⟨E,F,G,H,I,J,K,L⟩:=qQ B;go_simp<;>with_reducible rfl);try simp only [az])
  exact Yl.nil
 refine wpAnyH_done (by kernel_rfl) ?_ _
 refine NoPanic.normal ?_
 try simp only [az]
 clear b P A t ap am ad al;go_wp2;refine bodyPost_ret (v:=.tuple #[.agg #[.slice x.a1 x.n1 x.c1,.slice x.a2 x.n2 x.c2,.slice x.a3 x.n3 x.c3,.int .u32 x.g,.slice S T U,.slice V W X],.int .i64 0]) ?_ rfl ⟨_,by rw [HE.o],by rw [HE.o];exact kU.o,lh.o⟩
 simp [results,Tryz.results59,go_sem, *]
theorem aW.keptS {w w':World} {base:Nat} {v:Value} {f:Fsd} {q:Nat} {cs:Array Value} {t:TypeId} {j:Nat × Nat} (h:aW w base v f) (d:w.grownBy w' (some q)) (e:w.heap[q]? =some (.cells cs t j)) (k:t≠5) (l:t≠94) (m:t≠151) (g:t≠98) (i:t≠185):aW w' base v f:=by
 obtain ⟨d1,d2,n,x,y,rfl,a,b,c⟩:=h;exact ⟨d1,d2,n,x,y,rfl,a.keptS d e k l m,b.keptS d e g i,c.keptS d e g i⟩
theorem aW.form {w:World} {base:Nat} {v:Value} {f:Fsd} (h:aW w base v f):∃x:FsV,v=x.val∧RdX w x f:=h.rd.form
theorem aW.stored {w w0:World} {base r:Nat} {x:FsV} {f:Fsd} (h:aW w base x.val f) (b:dE w r) (hb:ah w0 w) (a:w0.heap.size<=r):
  aW (aY w r x) base x.val f∧ah w0 (aY w r x)∧bf (aY w r x) r x:=by
 obtain ⟨d,c⟩:=b.put x;obtain ⟨i,j,l,m,n,o,e⟩:=b;exact ⟨h.keptS c e (by decide) (by decide) (by decide) (by decide) (by decide),hb.grown c hb.size (by intro k g;cases g;exact a),d⟩
theorem Xu {f:Fsd} (h:fe f=0):BU f.2.2.1∧BU f.2.2.2:=by
 have a:=N7 h;refine ⟨qso a.2.2.2.2.2, ?_⟩;rw [<-a.2.2.2.2.1];exact qso (Wt a.2.2.2.1).1
theorem Xv {s:Stp} {y:Wy} (h:(jS s y).2.1=0):y.2.1=0∧(s y).2=0:=by
 unfold jS at h;split at h
 ·rename_i h0;exact ⟨h0,h⟩
 ·rename_i h0;exact absurd h h0
theorem Y4 (x:FsV) (f:Fsd) (w:World) (h:RdX w x f) (D:WfX f):
  Calls Tryz.prog 40 #[x.val] w fun e w'=>∃v,e=.returned (.tuple #[v,.int .i64 (jc f).2])∧aW w' w.heap.size v (jc f).1∧ah w w':=by
 obtain ⟨n,i⟩:=aj ((w.alloc (.cells x.cs 32)).alloc (.cells #[.slice none 0 0,.slice none 0 0,.slice none 0 0,.int .u32 0,.slice none 0 0,.slice none 0 0] 32));have R:=ag h;have S:=ag D;clear h D;have E:ah w (w.alloc (.cells x.cs 32)):=ae;have F:bf (w.alloc (.cells x.cs 32)) w.heap.size x:=Bq.new _ _ _;have s:Below ((w.alloc (.cells x.cs 32))).heap.size (w.alloc (.cells x.cs 32)) n:=by rw [<-i];exact ae
 have T:=ag (show dE n (w.heap.size+1) by have:=dE.new (w.alloc (.cells x.cs 32));rw [<-i];simpa using this);have t:=E;have G:=t.trans (s.mono t.size);have H:=ag G;have U:=ag ((F).a s);have V:=ag (show n.heap.size=w.heap.size+2 by rw [<-i];simp);clear F E s G t;unfold FsV.val;unfold FsV.cs at i;obtain ⟨W,X,Y,Z,k4,k5⟩:=aV U.o;go_enter Tryz.func40,Tryz.ntmps40;go_wp2_with fail
 try rw [i]
 refine (Qn x f n (R.o.a H.o) S.o).mono ?_
 rintro e u ⟨p,rfl,hp,j,b⟩;have Ic:w.heap.size+2<=p:=by have:=V.o;omega
 have I:=ag (T.o.a b);have y:=bT H b;have z:=ag (show bQ u p w.heap.size false (kQ f) by obtain ⟨y1,y2,y3,y4,y5,y6,y7,J⟩:=j;exact ⟨y1,y2,y3,y4,y5,y6,y7,fun w' K=>⟨(J w' K).1,(J w' K).2.1,fun h=>by cases h⟩⟩);clear j b hp i W X Y Z k4 k5;have l:∀A:World,(callFunc 83 #[.pointer (some ⟨p,0,none⟩)]).run Tryz.prog A=.ok (.enter 83 #[.pointer (some ⟨p,0,none⟩)]) A:=fun A=>by go_simp
 have L:=Q4 83 zH p w.heap.size false true (kQ f) u z.o rfl l (fun M=>(vF p w.heap.size false (kQ f) u z.o (by omega)).mono fun e w' h=>⟨h.1,fun _=>h.2.1,h.2.1.any,h.2.2⟩);clear l;go_wp2_with fail
 refine L.mono ?_
 rintro e N ⟨rfl,m,c⟩;have oZ:=ag (I.o.grown c (by omega));have O:=ag (show ah w N from y.o.grown c y.o.size (by intro k hk;cases hk;omega));have d:=Sm p w.heap.size _ N m O.o.size (fun M=>by have:=Xv M;have h1:=Xu this.1;unfold jS;rw [if_pos this.1];exact h1);rw [show kR (jS zH (kQ f))=jc f from rfl] at d;clear L m c z y I;go_wp2_with fail
 refine d.mono ?_
 rintro e w4 ⟨v9,rfl,B,C⟩;have P:=ag (oZ.o.a C);have jB:=bT O C;clear d C;obtain ⟨Q,e9, -⟩:=B.form;subst e9;have a:=ag (B.stored (r:=w.heap.size+1) P.o jB.o (by omega));obtain ⟨⟨d0,e0⟩,⟨d1,e1⟩,⟨d2,e2⟩,⟨d3,e3⟩,⟨d4,e4⟩,⟨d5,e5⟩,g⟩:=P.o.cells;have f0:=g 0;have f1:=g 1;have f2:=g 2;have f3:=g 3;have f4:=g 4;have f5:=g 5;clear g B;unfold FsV.val;go_wp2;obtain ⟨w9,q⟩:=ai (aY w4 (w.heap.size+1) Q);rw [<-q] at a;unfold aY at q;rw [<-q];clear e0 e1 e2 e3 e4 e5 f0 f1 f2 f3 f4 f5 q;obtain ⟨z0,z1,z2,z3,z4,z5⟩:=aV a.o.2.2;try simp only [Exit.inBlock,Exit.then]
 refine bodyPost_ret (v:=.tuple #[Q.val,.int .i64 (jc f).2]) ?_ rfl ⟨_,rfl,a.o.1,a.o.2.1⟩
 simp [results,Tryz.results40,go_sem, *]
theorem qsy (d:Dk) (a:Ac):oh d [a]=dX d a:=by
 show (match dX d a with | none=>none | some y=>oh y [])=_
 cases dX d a<;>rfl
theorem Gs {s:Stp} {y:Wy} (h:y.2.1≠0):jS s y=y:=by unfold jS;rw [if_neg h]
theorem qw4 (k:Nat):bX k (true,0,[])=0:=by simp [bX]
theorem qaf6 (s:ak) (i:Int) (d:au) (f g:Nat) (l:ak) (p base k m n q:Nat) (o:Bool) (y:Wy) (w:World) (h:bQ w p base o y) (t:base<=p) (r:Rd w (.slice d f g) l)
  (u:w.cell? ⟨k,0,none⟩=some (.pointer (some ⟨p,0,none⟩))) (v:w.cell? ⟨m,0,none⟩=some (.string (bs s))) (x:w.cell? ⟨n,0,none⟩=some (.int .i64 i)) (z:w.cell? ⟨q,0,none⟩=some (.slice d f g)):
  Calls Tryz.prog 57 #[.pointer (some ⟨k,0,none⟩),.pointer (some ⟨m,0,none⟩),.pointer (some ⟨n,0,none⟩),.pointer (some ⟨q,0,none⟩)] w fun e w'=>e=.returned (.int .i64 (iQ s i l y).2)∧((iQ s i l y).2=0->bQ w' p base true (iQ s i l y).1)∧bQ w' p base false (iQ s i l y).1∧w.grownBy w' (some p):=by
 have j:=qaj3 s i d f g l p base o y w h t r;clear h r;go_enter Tryz.func57,Tryz.ntmps57;go_wp2_with fail
 refine j.mono ?_
 rintro e D ⟨rfl,a,b,c⟩;have A:=ag a;have B:=ag b;have C:=ag c;clear a b c u v x z;go_wp2;go_ret;exact ⟨rfl,A.o,B.o,C.o⟩
theorem Q6 (x:FsV) (f:Fsd) (s:ak) (i:Int) (c:au) (d g:Nat) (l:ak) (w:World) (h:RdX w x f) (R:WfX f) (S:Rd w (.slice c d g) l):
  Calls Tryz.prog 24 #[x.val,.string (bs s),.int .i64 i,.slice c d g] w fun e w'=>∃v,e=.returned (.tuple #[v,.int .i64 (jM f s i l).2])∧aW w' w.heap.size v (jM f s i l).1∧ah w w':=by
 have zi:=ag S;clear S;obtain ⟨D,t⟩:=aj (((((w.alloc (.cells x.cs 32)).alloc (.cells #[.string (bs s)] 9)).alloc (.cells #[.int .i64 i] 3)).alloc (.cells #[.slice c d g] 22)).alloc (.cells #[.slice none 0 0,.slice none 0 0,.slice none 0 0,.int .u32 0,.slice none 0 0,.slice none 0 0] 32));have HX:=ag h;have HW:=ag R;clear h R;have T:ah w (w.alloc (.cells x.cs 32)):=ae;have U:bf (w.alloc (.cells x.cs 32)) w.heap.size x:=Bq.new _ _ _;have I:Below ((w.alloc (.cells x.cs 32))).heap.size (w.alloc (.cells x.cs 32)) ((w.alloc (.cells x.cs 32)).alloc (.cells #[.string (bs s)] 9)):=ae;have V:Bq ((w.alloc (.cells x.cs 32)).alloc (.cells #[.string (bs s)] 9)) (w.heap.size+1) 9 #[.string (bs s)]:=by have:=Bq.new (w.alloc (.cells x.cs 32)) 9 #[.string (bs s)];simpa using this
 have E:Below (((w.alloc (.cells x.cs 32)).alloc (.cells #[.string (bs s)] 9))).heap.size ((w.alloc (.cells x.cs 32)).alloc (.cells #[.string (bs s)] 9)) (((w.alloc (.cells x.cs 32)).alloc (.cells #[.string (bs s)] 9)).alloc (.cells #[.int .i64 i] 3)):=ae;have W:Bq (((w.alloc (.cells x.cs 32)).alloc (.cells #[.string (bs s)] 9)).alloc (.cells #[.int .i64 i] 3)) (w.heap.size+2) 3 #[.int .i64 i]:=by have:=Bq.new ((w.alloc (.cells x.cs 32)).alloc (.cells #[.string (bs s)] 9)) 3 #[.int .i64 i];simpa using this
 have z:Below ((((w.alloc (.cells x.cs 32)).alloc (.cells #[.string (bs s)] 9)).alloc (.cells #[.int .i64 i] 3))).heap.size (((w.alloc (.cells x.cs 32)).alloc (.cells #[.string (bs s)] 9)).alloc (.cells #[.int .i64 i] 3)) ((((w.alloc (.cells x.cs 32)).alloc (.cells #[.string (bs s)] 9)).alloc (.cells #[.int .i64 i] 3)).alloc (.cells #[.slice c d g] 22)):=ae;have X:Bq ((((w.alloc (.cells x.cs 32)).alloc (.cells #[.string (bs s)] 9)).alloc (.cells #[.int .i64 i] 3)).alloc (.cells #[.slice c d g] 22)) (w.heap.size+3) 22 #[.slice c d g]:=by have:=Bq.new (((w.alloc (.cells x.cs 32)).alloc (.cells #[.string (bs s)] 9)).alloc (.cells #[.int .i64 i] 3)) 22 #[.slice c d g];simpa using this
 have u:Below (((((w.alloc (.cells x.cs 32)).alloc (.cells #[.string (bs s)] 9)).alloc (.cells #[.int .i64 i] 3)).alloc (.cells #[.slice c d g] 22))).heap.size ((((w.alloc (.cells x.cs 32)).alloc (.cells #[.string (bs s)] 9)).alloc (.cells #[.int .i64 i] 3)).alloc (.cells #[.slice c d g] 22)) D:=by rw [<-t];exact ae
 have yg:=ag (show dE D (w.heap.size+4) by have:=dE.new ((((w.alloc (.cells x.cs 32)).alloc (.cells #[.string (bs s)] 9)).alloc (.cells #[.int .i64 i] 3)).alloc (.cells #[.slice c d g] 22));rw [<-t];simpa using this);have J:=T;have K:=J.trans (I.mono J.size);have L:=K.trans (E.mono K.size);have M:=L.trans (z.mono L.size);have Y:=M.trans (u.mono M.size);have Z:=ag Y;have fG:=ag (((((U).a I).a E).a z).a u);have Q7:=ag ((((V).a E).a z).a u);have Il:=ag (((W).a z).a u);have Im:=ag ((X).a u);have jy:=ag (show D.heap.size=w.heap.size+5 by rw [<-t];simp);clear U T u Y J I K V E L W z M X;unfold FsV.val;unfold FsV.cs at t;obtain ⟨k0,k1,k2,k3,k4,k5⟩:=aV fG.o;go_enter Tryz.func24,Tryz.ntmps24;go_wp2_with fail
 try rw [t]
 refine (Qn x f D (HX.o.a Z.o) HW.o).mono ?_
 rintro e y ⟨p,rfl,hp,A,b⟩;have Ic:w.heap.size+5<=p:=by have:=jy.o;omega
 have mW:=ag (yg.o.a b);have Xw:=ag (Q7.o.a b);have Io:=ag (Il.o.a b);have Ip:=ag (Im.o.a b);have bg:=bT Z b;have N:=ag (show bQ y p w.heap.size false (kQ f) by obtain ⟨y1,y2,y3,y4,y5,y6,y7,y8⟩:=A;exact ⟨y1,y2,y3,y4,y5,y6,y7,fun w' hg=>⟨(y8 w' hg).1,(y8 w' hg).2.1,fun h=>by cases h⟩⟩);clear A b hp t k0 k1 k2 k3 k4 k5;obtain ⟨B,F⟩:=aj (y.alloc (.cells #[.pointer (some ⟨p,0,none⟩)] 107));have a:ah y B:=by rw [<-F];exact ae
 have MN:=ag (show Bq B y.heap.size 107 #[.pointer (some ⟨p,0,none⟩)] by rw [<-F];exact Bq.new _ _ _);have oZ:=ag (mW.o.a a);have Xx:=ag (Xw.o.a a);have Iq:=ag (Io.o.a a);have Ir:=ag (Ip.o.a a);have O:=ag (N.o.a a);have G:=bT bg a;have pJ:=ag N.o.lt;clear a;have ht:=xF 57 (.pointer (some ⟨y.heap.size,0,none⟩)) (.pointer (some ⟨w.heap.size+1,0,none⟩)) (.pointer (some ⟨w.heap.size+2,0,none⟩)) (.pointer (some ⟨w.heap.size+3,0,none⟩)) (iQ s i l) p w.heap.size false true (kQ f) B O.o (Ik _ _ _ _) (fun wx=>by go_simp) (fun h0=>qaf6 s i c d g l p w.heap.size _ _ _ _ false (kQ f) B O.o (by omega) (zi.o.a G.o) (MN.o.cell 0) (Xx.o.cell 0) (Iq.o.cell 0) (Ir.o.cell 0));have c9:B.cell? ⟨y.heap.size,0,none⟩=some (.pointer (some ⟨p,0,none⟩)):=MN.o.cell 0;go_wp2_with fail
 try rw [F]
 refine ht.mono ?_
 rintro e w4 ⟨rfl,C,m⟩;have Dn:=ag (oZ.o.grown m (by omega));have jB:=ag (show ah w w4 from G.o.grown m G.o.size (by intro k hk;cases hk;omega));have n:=Sm p w.heap.size _ w4 C jB.o.size (fun h0=>by have:=Xv h0;have h1:=Xu this.1;unfold jS;rw [if_pos this.1];unfold iQ;split<;>exact h1);rw [show kR (jS (iQ s i l) (kQ f))=jM f s i l from rfl] at n;clear ht C m N bg mW O G oZ c9 F;go_wp2_with fail
 refine n.mono ?_
 rintro e w5 ⟨v9,rfl,P,Q⟩;have Xy:=ag (Dn.o.a Q);have C9:=bT jB Q;clear n Q;obtain ⟨x9,e9, -⟩:=P.form;subst e9;have j:=ag (P.stored (r:=w.heap.size+4) Xy.o C9.o (by omega));obtain ⟨⟨d0,e0⟩,⟨d1,e1⟩,⟨d2,e2⟩,⟨d3,e3⟩,⟨d4,e4⟩,⟨d5,e5⟩,q⟩:=Xy.o.cells;have f0:=q 0;have f1:=q 1;have f2:=q 2;have f3:=q 3;have f4:=q 4;have f5:=q 5;clear q P;unfold FsV.val;go_wp2;obtain ⟨w9,H⟩:=ai (aY w5 (w.heap.size+4) x9);rw [<-H] at j;unfold aY at H;rw [<-H];clear e0 e1 e2 e3 e4 e5 f0 f1 f2 f3 f4 f5 H;obtain ⟨z0,z1,z2,z3,z4,z5⟩:=aV j.o.2.2;try simp only [Exit.inBlock,Exit.then]
 refine bodyPost_ret (v:=.tuple #[x9.val,.int .i64 (jM f s i l).2]) ?_ rfl ⟨_,rfl,j.o.1,j.o.2.1⟩
 simp [results,Tryz.results24,go_sem, *]
end Go.Proofs.YthpammbgcidloaaGreat
