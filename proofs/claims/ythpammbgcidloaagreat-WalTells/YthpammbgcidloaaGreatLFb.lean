/-
  FsBlocks.
-/
import Derived.Test.YthpammbgcidloaaGreatRf10
import Derived.ArgAppend
set_option maxHeartbeats 8000000
set_option maxRecDepth 100000
namespace Go.Proofs.YthpammbgcidloaaGreat
open Go.RowKit
set_option linter.all false
structure D7 (w wx:World) (xk:FsV) (W:Vl):Prop where
 f:bf wx w.heap.size xk
 l:uf wx (w.heap.size+1) W
 r:dE wx (w.heap.size+2)
 q:o8 wx (w.heap.size+2+1)
 b:ah w wx
theorem D7.a {w a c:World} {d:FsV} {W:Vl} (h:D7 w a d W) (hb:ah a c):D7 w c d W:=⟨h.f.a hb,h.l.a hb,h.r.a hb,h.q.a hb,h.b.trans (hb.mono h.b.size)⟩
theorem D7.start (w:World) (x:FsV) (W:Vl):D7 w ((((w.alloc (.cells x.cs 32)).alloc (.cells (qV W) 34)).alloc (.cells #[.slice none 0 0,.slice none 0 0,.slice none 0 0,.int .u32 0,.slice none 0 0,.slice none 0 0] 32)).alloc (.cells #[.string ⟨#[]⟩,.int .u32 0,.int .i64 0,.int .u32 0,.int .u32 0,.int .i64 0] 34)) x W:=by
 have e:(w.alloc (.cells x.cs 32)).heap.size=w.heap.size+1:=by simp
 have f:((w.alloc (.cells x.cs 32)).alloc (.cells (qV W) 34)).heap.size=w.heap.size+2:=by simp
 have g:(((w.alloc (.cells x.cs 32)).alloc (.cells (qV W) 34)).alloc (.cells #[.slice none 0 0,.slice none 0 0,.slice none 0 0,.int .u32 0,.slice none 0 0,.slice none 0 0] 32)).heap.size=w.heap.size+2+1:=by simp
 have a:∀(u:World) (o:Obj),ah u (u.alloc o):=fun u o=>ae
 have h:=a w (.cells x.cs 32);have d:=a (w.alloc (.cells x.cs 32)) (.cells (qV W) 34);have c:=a ((w.alloc (.cells x.cs 32)).alloc (.cells (qV W) 34)) (.cells #[.slice none 0 0,.slice none 0 0,.slice none 0 0,.int .u32 0,.slice none 0 0,.slice none 0 0] 32);have b:=a (((w.alloc (.cells x.cs 32)).alloc (.cells (qV W) 34)).alloc (.cells #[.slice none 0 0,.slice none 0 0,.slice none 0 0,.int .u32 0,.slice none 0 0,.slice none 0 0] 32)) (.cells #[.string ⟨#[]⟩,.int .u32 0,.int .i64 0,.int .u32 0,.int .u32 0,.int .i64 0] 34);have i:bf _ w.heap.size x:=Bq.new w 32 x.cs;have j:uf _ (w.heap.size+1) W:=e ▸ Bq.new (w.alloc (.cells x.cs 32)) 34 (qV W);have k:dE _ (w.heap.size+2):=f ▸ dE.new ((w.alloc (.cells x.cs 32)).alloc (.cells (qV W) 34));have l:o8 _ (w.heap.size+2+1):=g ▸ o8.new (((w.alloc (.cells x.cs 32)).alloc (.cells (qV W) 34)).alloc (.cells #[.slice none 0 0,.slice none 0 0,.slice none 0 0,.int .u32 0,.slice none 0 0,.slice none 0 0] 32));exact ⟨((i.a d).a c).a b,(j.a c).a b,k.a b,l,((h.trans (d.mono (by omega))).trans (c.mono (by omega))).trans (b.mono (by omega))⟩
theorem Sr (x:FsV) (f:Fsd) (V:Vl) (Q:au) (R S:Nat) (w:World) (h:RdX w x f) (J:WfX f) (hb:¬kg f V=0):
  Calls Tryz.prog 10 #[x.val,vlV V,.slice Q R S] w fun e w'=>e=.returned (.tuple #[.agg #[.slice none 0 0,.slice none 0 0,.slice none 0 0,.int .u32 0,.slice none 0 0,.slice none 0 0],pR wz,.int .i64 (kg f V)])∧ah w w':=by
 have T:=ag J;have U:=ag h;obtain ⟨K,j⟩:=aj ((((w.alloc (.cells x.cs 32)).alloc (.cells (qV V) 34)).alloc (.cells #[.slice none 0 0,.slice none 0 0,.slice none 0 0,.int .u32 0,.slice none 0 0,.slice none 0 0] 32)).alloc (.cells #[.string ⟨#[]⟩,.int .u32 0,.int .i64 0,.int .u32 0,.int .u32 0,.int .i64 0] 34));have m:=ag (show D7 w K x V by rw [<-j];exact D7.start w x V);have W:=ag hb;clear h J hb;unfold FsV.val;unfold FsV.cs qV at j;obtain ⟨X,s,t,Y,Z,gK⟩:=aV m.o.f;obtain ⟨u,y,z,A,B,C⟩:=xm m.o.l;go_enter Tryz.func10,Tryz.ntmps10;go_wp2_with fail
 try rw [j]
 refine (qxp x f V K (U.o.a m.o.b) T.o).mono ?_
 rintro e w2 ⟨rfl,d⟩;have fo:=ag (m.o.a d);clear d j X s t Y Z gK u y z A B C;obtain ⟨e,D⟩:=ai (kg f V);have iB:=ag D;have n:=W.o;rw [<-D] at n ⊢;have ge:(e==0)=false:=by simpa using n
 clear D n;go_wp2_with fail
 refine (zk _ w2).mono ?_
 rintro e' wc ⟨rfl,g⟩;have E:=ag (fo.o.a g);clear g;have L:=E.o.r;have gQ:=E.o.q;have F:=ag E.o.b;obtain ⟨⟨d0,e0⟩,⟨d1,e1⟩,⟨d2,e2⟩,⟨d3,e3⟩,⟨d4,e4⟩,⟨d5,e5⟩,c⟩:=L.cells;have f0:=c 0;have f1:=c 1;have f2:=c 2;have f3:=c 3;have f4:=c 4;have f5:=c 5;obtain ⟨_,_,_,_,_,_,M⟩:=L;obtain ⟨G,i⟩:=aa0 M;obtain ⟨mH,N⟩:=ab0 wc (w.heap.size+2);rw [N] at G i;obtain ⟨_,_,_,_,_,_,O⟩:=gQ;have a:=O.grown i (by omega);obtain ⟨c0,c1,c2,c3,c4,c5⟩:=cu a;have g0:=a.fz 0;have n:=a.fz 1;have g2:=a.fz 2;have g3:=a.fz 3;have g4:=a.fz 4;have g5:=a.fz 5;obtain ⟨H,p⟩:=ac0 a;obtain ⟨ws,P⟩:=ae0 mH (w.heap.size+2+1);rw [P] at H p;have gF:=ag (G.grown p (by omega));have gG:=ag H;have eX:=ag (show ah w ws from (F.o.grown i F.o.size (by intro k I;cases I;omega)).grown p (aC F.o.size i.size) (by intro k I;cases I;omega));unfold bV at N P;clear G i H p a M O c;go_wp2;obtain ⟨p0,p1,p2,p3,p4,p5⟩:=cu gF.o;obtain ⟨r0,r1,r2,r3,r4,r5⟩:=cu gG.o;refine bodyPost_ret (v:=.tuple #[.agg #[.slice none 0 0,.slice none 0 0,.slice none 0 0,.int .u32 0,.slice none 0 0,.slice none 0 0],.agg #[.string ⟨#[]⟩,.int .u32 0,.int .i64 0,.int .u32 0,.int .u32 0,.int .i64 0],.int .i64 e]) ?_ rfl ⟨?_,eX.o⟩
 ·simp [results,Tryz.results10,go_sem,p0,p1,p2,p3,p4,p5,r0,r1,r2,r3,r4,r5]
 ·rw [<-iB.o];rfl
theorem IR (x:FsV) (f:Fsd) (V:Vl) (P:au) (Q R:Nat) (w:World) (h:RdX w x f) (I:WfX f) (hb:¬kg f V=0):
  Calls Tryz.prog 11 #[x.val,vlV V,.slice P Q R] w fun e w'=>e=.returned (.tuple #[.agg #[.slice none 0 0,.slice none 0 0,.slice none 0 0,.int .u32 0,.slice none 0 0,.slice none 0 0],pR wz,.int .i64 (kg f V)])∧ah w w':=by
 have S:=ag I;have T:=ag h;obtain ⟨J,i⟩:=aj ((((w.alloc (.cells x.cs 32)).alloc (.cells (qV V) 34)).alloc (.cells #[.slice none 0 0,.slice none 0 0,.slice none 0 0,.int .u32 0,.slice none 0 0,.slice none 0 0] 32)).alloc (.cells #[.string ⟨#[]⟩,.int .u32 0,.int .i64 0,.int .u32 0,.int .u32 0,.int .i64 0] 34));have j:=ag (show D7 w J x V by rw [<-i];exact D7.start w x V);have U:=ag hb;clear h I hb;unfold FsV.val;unfold FsV.cs qV at i;obtain ⟨W,p,s,X,Y,Z⟩:=aV j.o.f;obtain ⟨t,u,y,z,A,B⟩:=xm j.o.l;go_enter Tryz.func11,Tryz.ntmps11;go_wp2_with fail
 try rw [i]
 refine (qio x f V J (T.o.a j.o.b) S.o).mono ?_
 rintro e w2 ⟨rfl,d⟩;have C:=ag (j.o.a d);clear d i W p s X Y Z t u y z A B;obtain ⟨e,D⟩:=ai (kg f V);have iB:=ag D;have m:=U.o;rw [<-D] at m ⊢;have ge:(e==0)=false:=by simpa using m
 clear D m;have K:=C.o.r;have gQ:=C.o.q;have E:=ag C.o.b;obtain ⟨⟨d0,e0⟩,⟨d1,e1⟩,⟨d2,e2⟩,⟨d3,e3⟩,⟨d4,e4⟩,⟨d5,e5⟩,c⟩:=K.cells;have f0:=c 0;have f1:=c 1;have f2:=c 2;have f3:=c 3;have f4:=c 4;have f5:=c 5;obtain ⟨_,_,_,_,_,_,L⟩:=K;obtain ⟨F,g⟩:=aa0 L;obtain ⟨mH,M⟩:=ab0 w2 (w.heap.size+2);rw [M] at F g;obtain ⟨_,_,_,_,_,_,N⟩:=gQ;have a:=N.grown g (by omega);obtain ⟨c0,c1,c2,c3,c4,c5⟩:=cu a;have g0:=a.fz 0;have m:=a.fz 1;have g2:=a.fz 2;have g3:=a.fz 3;have g4:=a.fz 4;have g5:=a.fz 5;obtain ⟨G,n⟩:=ac0 a;obtain ⟨ws,O⟩:=ae0 mH (w.heap.size+2+1);rw [O] at G n;have gF:=ag (F.grown n (by omega));have gG:=ag G;have eX:=ag (show ah w ws from (E.o.grown g E.o.size (by intro k H;cases H;omega)).grown n (aC E.o.size g.size) (by intro k H;cases H;omega));unfold bV at M O;clear F g G n a L N c;go_wp2;obtain ⟨p0,p1,p2,p3,p4,p5⟩:=cu gF.o;obtain ⟨r0,r1,r2,r3,r4,r5⟩:=cu gG.o;refine bodyPost_ret (v:=.tuple #[.agg #[.slice none 0 0,.slice none 0 0,.slice none 0 0,.int .u32 0,.slice none 0 0,.slice none 0 0],.agg #[.string ⟨#[]⟩,.int .u32 0,.int .i64 0,.int .u32 0,.int .u32 0,.int .i64 0],.int .i64 e]) ?_ rfl ⟨?_,eX.o⟩
 ·simp [results,Tryz.results11,go_sem,p0,p1,p2,p3,p4,p5,r0,r1,r2,r3,r4,r5]
 ·rw [<-iB.o];rfl
theorem AQ (x:FsV) (f:Fsd) (V:Vl) (b:au) (c d:Nat) (r:ak) (w:World) (h:RdX w x f) (g:WfX f) (i:Rd w (.slice b c d) r):
  Calls Tryz.prog 10 #[x.val,vlV V,.slice b c d] w fun e w'=>∃v,e=.returned (.tuple #[v,pR (lH f V r).2.1,.int .i64 (lH f V r).2.2])∧aW w' w.heap.size v (lH f V r).1∧ah w w':=by
 by_cases a:¬kg f V=0
 ·rw [show lH f V r=(fz,wz,kg f V) by unfold lH;rw [if_pos a]]
  exact (Sr x f V b c d w h g a).mono fun e w' ⟨h1,h2⟩=>⟨_,h1,jO _ _,h2⟩
 ·rw [Decidable.not_not] at a
  rw [show lH f V r=appW f (fP f V.1) r by unfold lH;rw [if_neg (fun e=>e a)]];have e:vlV V=pR (fP f V.1):=by
   have j:=(SF a).2;show Value.agg (qV V)=Value.agg (o7 (fP f V.1))
   rw [show o7 (fP f V.1)=qV (uR (fP f V.1)) from rfl,j]
  rw [e];exact qyz x f (fP f V.1) b c d r w h g i (by obtain ⟨_,_,e⟩:=i.form;cases e;rfl)
theorem Mq (x:FsV) (f:Fsd) (V:Vl) (b:au) (c d:Nat) (r:ak) (w:World) (h:RdX w x f) (g:WfX f) (i:Rd w (.slice b c d) r):
  Calls Tryz.prog 11 #[x.val,vlV V,.slice b c d] w fun e w'=>∃v,e=.returned (.tuple #[v,pR (lH f V r).2.1,.int .i64 (lH f V r).2.2])∧aW w' w.heap.size v (lH f V r).1∧ah w w':=by
 by_cases a:¬kg f V=0
 ·rw [show lH f V r=(fz,wz,kg f V) by unfold lH;rw [if_pos a]]
  exact (IR x f V b c d w h g a).mono fun e w' ⟨h1,h2⟩=>⟨_,h1,jO _ _,h2⟩
 ·rw [Decidable.not_not] at a
  rw [show lH f V r=appW f (fP f V.1) r by unfold lH;rw [if_neg (fun e=>e a)]];have e:vlV V=pR (fP f V.1):=by
   have j:=(SF a).2;show Value.agg (qV V)=Value.agg (o7 (fP f V.1))
   rw [show o7 (fP f V.1)=qV (uR (fP f V.1)) from rfl,j]
  rw [e];exact yI x f (fP f V.1) b c d r w h g i (iE a)
theorem jg {w a b:World} (h:af (ah w a)) (k:ah a b):af (ah w b):=ag (h.o.trans (k.mono h.o.size))
theorem fz6 {w:World} {p:Nat} {t:TypeId} {cs:Array Value} (h:Bq w p t cs):w.frozen? ⟨p,0,none⟩=false∧w.frozen? ⟨p,1,none⟩=false∧w.frozen? ⟨p,2,none⟩=false∧w.frozen? ⟨p,3,none⟩=false∧w.frozen? ⟨p,4,none⟩=false∧w.frozen? ⟨p,5,none⟩=false:=⟨h.fz 0,h.fz 1,h.fz 2,h.fz 3,h.fz 4,h.fz 5⟩
theorem Ya (w:World) (x:FsV) (W:Wl):∃a b d,(w.alloc (.cells #[.slice none 0 0,.slice none 0 0,.slice none 0 0,.int .u32 0,.slice none 0 0,.slice none 0 0] 32)).alloc (.cells #[.string ⟨#[]⟩,.int .u32 0,.int .i64 0,.int .u32 0,.int .u32 0,.int .i64 0] 34)=a∧aY a w.heap.size x=b∧bV b (w.heap.size+1) (.string (bs W.1)) (.int .u32 W.2.1) (.int .i64 W.2.2.1) (.int .u32 W.2.2.2.1) (.int .u32 W.2.2.2.2.1) (.int .i64 W.2.2.2.2.2)=d∧
  (a.cell? ⟨w.heap.size,0,none⟩=some (.slice none 0 0)∧a.cell? ⟨w.heap.size,1,none⟩=some (.slice none 0 0)∧a.cell? ⟨w.heap.size,2,none⟩=some (.slice none 0 0)∧a.cell? ⟨w.heap.size,3,none⟩=some (.int .u32 0)∧a.cell? ⟨w.heap.size,4,none⟩=some (.slice none 0 0)∧a.cell? ⟨w.heap.size,5,none⟩=some (.slice none 0 0))∧(a.frozen? ⟨w.heap.size,0,none⟩=false∧a.frozen? ⟨w.heap.size,1,none⟩=false∧a.frozen? ⟨w.heap.size,2,none⟩=false∧a.frozen? ⟨w.heap.size,3,none⟩=false∧a.frozen? ⟨w.heap.size,4,none⟩=false∧a.frozen? ⟨w.heap.size,5,none⟩=false)∧
  (b.cell? ⟨w.heap.size+1,0,none⟩=some (.string ⟨#[]⟩)∧b.cell? ⟨w.heap.size+1,1,none⟩=some (.int .u32 0)∧b.cell? ⟨w.heap.size+1,2,none⟩=some (.int .i64 0)∧b.cell? ⟨w.heap.size+1,3,none⟩=some (.int .u32 0)∧b.cell? ⟨w.heap.size+1,4,none⟩=some (.int .u32 0)∧b.cell? ⟨w.heap.size+1,5,none⟩=some (.int .i64 0))∧(b.frozen? ⟨w.heap.size+1,0,none⟩=false∧b.frozen? ⟨w.heap.size+1,1,none⟩=false∧b.frozen? ⟨w.heap.size+1,2,none⟩=false∧b.frozen? ⟨w.heap.size+1,3,none⟩=false∧b.frozen? ⟨w.heap.size+1,4,none⟩=false∧b.frozen? ⟨w.heap.size+1,5,none⟩=false)∧
  bf d w.heap.size x∧iw d (w.heap.size+1) W∧ah w d:=by
 have r:(w.alloc (.cells #[.slice none 0 0,.slice none 0 0,.slice none 0 0,.int .u32 0,.slice none 0 0,.slice none 0 0] 32)).heap.size=w.heap.size+1:=by simp
 have j:∀(u:World) (o:Obj),ah u (u.alloc o):=fun u o=>ae
 have s:=j w (.cells #[.slice none 0 0,.slice none 0 0,.slice none 0 0,.int .u32 0,.slice none 0 0,.slice none 0 0] 32);have l:=j (w.alloc (.cells #[.slice none 0 0,.slice none 0 0,.slice none 0 0,.int .u32 0,.slice none 0 0,.slice none 0 0] 32)) (.cells #[.string ⟨#[]⟩,.int .u32 0,.int .i64 0,.int .u32 0,.int .u32 0,.int .i64 0] 34);have e:Bq _ w.heap.size 32 #[.slice none 0 0,.slice none 0 0,.slice none 0 0,.int .u32 0,.slice none 0 0,.slice none 0 0]:=(Bq.new w 32 #[.slice none 0 0,.slice none 0 0,.slice none 0 0,.int .u32 0,.slice none 0 0,.slice none 0 0]).a l;have m:Bq _ (w.heap.size+1) 34 #[.string ⟨#[]⟩,.int .u32 0,.int .i64 0,.int .u32 0,.int .u32 0,.int .i64 0]:=r ▸ Bq.new (w.alloc (.cells #[.slice none 0 0,.slice none 0 0,.slice none 0 0,.int .u32 0,.slice none 0 0,.slice none 0 0] 32)) 34 #[.string ⟨#[]⟩,.int .u32 0,.int .i64 0,.int .u32 0,.int .u32 0,.int .i64 0];have f:ah w _:=s.trans (l.mono (by omega));obtain ⟨a,n⟩:=aj ((w.alloc (.cells #[.slice none 0 0,.slice none 0 0,.slice none 0 0,.int .u32 0,.slice none 0 0,.slice none 0 0] 32)).alloc (.cells #[.string ⟨#[]⟩,.int .u32 0,.int .i64 0,.int .u32 0,.int .u32 0,.int .i64 0] 34));rw [n] at e m f;obtain ⟨t,p⟩:=(show dE a w.heap.size from ⟨_,_,_,_,_,_,e⟩).put x;have g:=m.grown p (by omega);obtain ⟨v,q⟩:=bK g (.string (bs W.1)) (.int .u32 W.2.1) (.int .i64 W.2.2.1) (.int .u32 W.2.2.2.1) (.int .u32 W.2.2.2.2.1) (.int .i64 W.2.2.2.2.2);have c:=f.grown p f.size (by intro k h;cases h;exact Nat.le_refl _);have i:=c.grown q c.size (by intro k h;cases h;omega);exact ⟨a,_,_,n,rfl,rfl,cu e,fz6 e,cu g,fz6 g,t.grown q (by omega),v,i⟩
theorem qadx (l m:List (ak)) (a b:au) (n1 c1 n2 c2:Nat) (w:World) (h:jC w (.slice a n1 c1) l) (k:jC w (.slice b n2 c2) m):
  Calls Tryz.prog 15 #[.slice a n1 c1,.slice b n2 c2] w fun e w'=>e=.returned (.bool (decide (l=m)))∧ah w w':=by
 have H:=ag h;have K:=ag k;have E:=ag h.le.1;have F:=ag k.le.1;have G:n1<=maxLen:=h.le.2.2;unfold maxLen at G;clear h k;by_cases I:n1=n2
 ·subst I
  go_enter Tryz.func15,Tryz.ntmps15;go_wp2;go_loopw [5] (fun i wr=>∃k:Nat,k<=n1∧i=.int .i64 k∧af (l.take k=m.take k)∧ah w wr) (fun i _=>n1 - (intOf i).toNat)
  case atStart=>exact ⟨0,Nat.zero_le _,rfl,rfl,aB⟩
  case round=>
   obtain ⟨k,Z,rfl,x,c⟩:=hrel;by_cases W:k<n1
   ·have J:(k:Int)<n1:=by omega
    have y:k<l.length:=by have:=E.o;omega
    have L:k<m.length:=by have:=F.o;omega
    obtain ⟨M,N,C,j,rfl,O,Q⟩:=(H.o.a c).at k y;obtain ⟨R,S,D,n,rfl,T,U⟩:=(K.o.a c).at k L;have V:aL (fun d=>d.cell? ⟨M,N+k,none⟩=some (.slice C (l[k]).length j)∧d.cell? ⟨R,S+k,none⟩=some (.slice D (m[k]).length n)∧Rd d (.slice C (l[k]).length j) l[k]∧Rd d (.slice D (m[k]).length n) m[k]∧ah w d):=(aR _ _).and ((aR _ _).and ((LA _ _).and ((LA _ _).and (jW w))));have z:(fun d=>d.cell? ⟨M,N+k,none⟩=some (.slice C (l[k]).length j)∧d.cell? ⟨R,S+k,none⟩=some (.slice D (m[k]).length n)∧Rd d (.slice C (l[k]).length j) l[k]∧Rd d (.slice D (m[k]).length n) m[k]∧ah w d) wr:=⟨O,T,Q,U,c⟩;clear O T Q U c;go_wp2;refine gH V (by kernel_rfl) z ?_
    clear z;intro p;generalize wr.drew=wd at *;refine bZ (i:=0) (v:=?qsv0) rfl (by kernel_rfl) (by kernel_rfl) (by kernel_rfl) (by rfl) ?qsy0 p ?qsr0
    case qsy0=>(rintro d ⟨q,r,f,g,s⟩;have j:=ik (P:=Tryz.prog) 22 5 9 Tryz.underlying22 Tryz.underlying5 Tryz.underlying9 f;have n:=ik (P:=Tryz.prog) 22 5 9 Tryz.underlying22 Tryz.underlying5 Tryz.underlying9 g;go_simp<;>with_reducible rfl)
    try simp only [az]
    refine bZ (i:=1) (v:=?qsv1) rfl (by kernel_rfl) (by kernel_rfl) (by kernel_rfl) (by rfl) ?qsy1 p ?qsr1
    case qsy1=>(rintro d ⟨q,r,f,g,s⟩;have j:=ik (P:=Tryz.prog) 22 5 9 Tryz.underlying22 Tryz.underlying5 Tryz.underlying9 f;have n:=ik (P:=Tryz.prog) 22 5 9 Tryz.underlying22 Tryz.underlying5 Tryz.underlying9 g;go_simp<;>with_reducible rfl)
    try simp only [az]
    refine bZ (i:=2) (v:=?qsv2) rfl (by kernel_rfl) (by kernel_rfl) (by kernel_rfl) (by rfl) ?qsy2 p ?qsr2
    case qsy2=>(rintro d ⟨q,r,f,g,s⟩;have j:=ik (P:=Tryz.prog) 22 5 9 Tryz.underlying22 Tryz.underlying5 Tryz.underlying9 f;have n:=ik (P:=Tryz.prog) 22 5 9 Tryz.underlying22 Tryz.underlying5 Tryz.underlying9 g;go_simp<;>with_reducible rfl)
    try simp only [az]
    refine bZ (i:=3) (v:=?qsv3) rfl (by kernel_rfl) (by kernel_rfl) (by kernel_rfl) (by rfl) ?qsy3 p ?qsr3
    case qsy3=>(rintro d ⟨q,r,f,g,s⟩;have j:=ik (P:=Tryz.prog) 22 5 9 Tryz.underlying22 Tryz.underlying5 Tryz.underlying9 f;have n:=ik (P:=Tryz.prog) 22 5 9 Tryz.underlying22 Tryz.underlying5 Tryz.underlying9 g;go_simp<;>with_reducible rfl)
    try simp only [az]
    refine bZ (i:=4) (v:=?qsv4) rfl (by kernel_rfl) (by kernel_rfl) (by kernel_rfl) (by rfl) ?qsy4 p ?qsr4
    case qsy4=>(rintro d ⟨q,r,f,g,s⟩;have j:=ik (P:=Tryz.prog) 22 5 9 Tryz.underlying22 Tryz.underlying5 Tryz.underlying9 f;have n:=ik (P:=Tryz.prog) 22 5 9 Tryz.underlying22 Tryz.underlying5 Tryz.underlying9 g;go_simp<;>with_reducible rfl)
    try simp only [az]
    refine bZ (i:=5) (v:=?qsv5) rfl (by kernel_rfl) (by kernel_rfl) (by kernel_rfl) (by rfl) ?qsy5 p ?qsr5
    case qsy5=>(rintro d ⟨q,r,f,g,s⟩;have j:=ik (P:=Tryz.prog) 22 5 9 Tryz.underlying22 Tryz.underlying5 Tryz.underlying9 f;have n:=ik (P:=Tryz.prog) 22 5 9 Tryz.underlying22 Tryz.underlying5 Tryz.underlying9 g;go_simp<;>with_reducible rfl)
    try simp only [az]
    refine bZ (i:=6) (v:=?qsv6) rfl (by kernel_rfl) (by kernel_rfl) (by kernel_rfl) (by rfl) ?qsy6 p ?qsr6
    case qsy6=>(rintro d ⟨q,r,f,g,s⟩;have j:=ik (P:=Tryz.prog) 22 5 9 Tryz.underlying22 Tryz.underlying5 Tryz.underlying9 f;have n:=ik (P:=Tryz.prog) 22 5 9 Tryz.underlying22 Tryz.underlying5 Tryz.underlying9 g;go_simp<;>with_reducible rfl)
    try simp only [az]
    refine bZ (i:=7) (v:=?qsv7) rfl (by kernel_rfl) (by kernel_rfl) (by kernel_rfl) (by rfl) ?qsy7 p ?qsr7
    case qsy7=>(rintro d ⟨q,r,f,g,s⟩;have j:=ik (P:=Tryz.prog) 22 5 9 Tryz.underlying22 Tryz.underlying5 Tryz.underlying9 f;have n:=ik (P:=Tryz.prog) 22 5 9 Tryz.underlying22 Tryz.underlying5 Tryz.underlying9 g;go_simp<;>with_reducible rfl)
    try simp only [az]
    refine bZ (i:=8) (v:=?qsv8) rfl (by kernel_rfl) (by kernel_rfl) (by kernel_rfl) (by rfl) ?qsy8 p ?qsr8
    case qsy8=>(rintro d ⟨q,r,f,g,s⟩;have j:=ik (P:=Tryz.prog) 22 5 9 Tryz.underlying22 Tryz.underlying5 Tryz.underlying9 f;have n:=ik (P:=Tryz.prog) 22 5 9 Tryz.underlying22 Tryz.underlying5 Tryz.underlying9 g;go_simp<;>with_reducible rfl)
    try simp only [az]
    refine bZ (i:=9) (v:=?qsv9) rfl (by kernel_rfl) (by kernel_rfl) (by kernel_rfl) (by rfl) ?qsy9 p ?qsr9
    case qsy9=>(rintro d ⟨q,r,f,g,s⟩;have j:=ik (P:=Tryz.prog) 22 5 9 Tryz.underlying22 Tryz.underlying5 Tryz.underlying9 f;have n:=ik (P:=Tryz.prog) 22 5 9 Tryz.underlying22 Tryz.underlying5 Tryz.underlying9 g;go_simp<;>with_reducible rfl)
    try simp only [az]
    refine bZ (i:=10) (v:=?qsv10) rfl (by kernel_rfl) (by kernel_rfl) (by kernel_rfl) (by rfl) ?Uo p ?qsr10
    case Uo=>(rintro d ⟨q,r,f,g,s⟩;have j:=ik (P:=Tryz.prog) 22 5 9 Tryz.underlying22 Tryz.underlying5 Tryz.underlying9 f;have n:=ik (P:=Tryz.prog) 22 5 9 Tryz.underlying22 Tryz.underlying5 Tryz.underlying9 g;go_simp<;>with_reducible rfl)
    try simp only [az]
    refine wpAnyH_done (by kernel_rfl) ?_ _
    refine NoPanic.normal ?_
    obtain ⟨-, -, -, -,c⟩:=p;clear V;generalize A:(!_)=zz;have t:zz=!decide (l[k]=m[k]):=by rw [<-A];exact congrArg (!·) (FU l[k] m[k])
    clear A;by_cases u:l[k]=m[k]
    ·have X:=ag u
     rw [decide_eq_true u] at t;subst t;clear u;go_wp2;exact ⟨⟨k+1,by omega,by go_num,by show _=_;rw [List.take_succ_eq_append_getElem y,List.take_succ_eq_append_getElem L,x.o,X.o],c⟩,by simp only [intOf];omega⟩
    ·have B:=ag (show decide (l=m)=false by
      simp only [decide_eq_false_iff_not];intro e;apply u;simp only [e])
     rw [decide_eq_false u] at t;subst t;clear u;go_wp2;go_ret;exact ⟨by first | rfl | (rw [B.o];rfl),c⟩
   ·have u:decide ((k:Int)<n1)=false:=aA (by omega)
    have B:=ag (show decide (l=m)=true by
     simp only [decide_eq_true_eq];have:=x.o
     rwa [List.take_of_length_le (by rw [<-E.o];omega),List.take_of_length_le (by rw [<-F.o];omega)] at this)
    go_wp2;go_ret;exact ⟨by first | rfl | (rw [B.o];rfl),c⟩
 ·have Y:((n1:Int) !=n2)=true:=by simpa using (by omega:¬(n1:Int)=n2)
  have B:=ag (show decide (l=m)=false by
   simp only [decide_eq_false_iff_not];intro e;have:=E.o
   have:=F.o
   rw [e] at *;omega)
  clear I;go_enter Tryz.func15,Tryz.ntmps15;go_wp2;go_ret;exact ⟨by first | rfl | (rw [B.o];rfl),aB⟩
def Turned (w w':World):Prop:=w.heap.size<=w'.heap.size∧(∀(i:Nat) cs t fr,w.heap[i]? =some (.cells cs t fr)->t≠5->w'.heap[i]? =some (.cells cs t fr))∧
 ∀(base g n c:Nat) (l:ak),aX w base (.slice (some ⟨g,0,none⟩) n c) l->∃l',aX w' base (.slice (some ⟨g,0,none⟩) n c) l'
theorem Turned.refl (w:World):Turned w w:=⟨Nat.le_refl _,fun _ _ _ _ h _=>h,fun _ _ _ _ l h=>⟨l,h⟩⟩
theorem Turned.trans {a b c:World} (h:Turned a b) (k:Turned b c):Turned a c:=
 ⟨aC h.1 k.1,fun i cs t d j e=>k.2.1 i cs t d (h.2.1 i cs t d j e) e,fun base g n f l m=>by
  obtain ⟨o,p⟩:=h.2.2 base g n f l m;exact k.2.2 base g n f o p⟩
theorem Turned.of_below {a b:World} (h:ah a b):Turned a b:=
 ⟨h.size,fun i cs t f d _=>eH _ _ _ _ d h,fun base g n c l e=>⟨l,e.a h⟩⟩
theorem Turned.set {w:World} {base g n c:Nat} {l:ak} (h:aX w base (.slice (some ⟨g,0,none⟩) n c) l) (j:Nat) (b:UInt8):Turned w (w.setCell ⟨g,j,none⟩ (.int .u8 b.toNat)):=by
 have a:=(h.stored j b).2;refine ⟨a.size,fun i cs t s d o=>?_,fun f p u v q k=>?_⟩
 ·refine (a.block i (Array.getElem?_eq_some_iff.1 d).1 fun e=>?_).trans d
  cases e;obtain ⟨r,m⟩:=vk h g rfl;rw [d] at m;cases m;exact o rfl
 ·by_cases e:p=g
  ·subst e
   exact ⟨_,(k.stored j b).1⟩
  ·exact ⟨q,World.ownsRow.kept k a (.inr (by simp [Value.ownBlock];omega))⟩
theorem aX.turned {w w':World} {base:Nat} {v:Value} {l:ak} (h:aX w base v l) (a:Turned w w'):∃b,aX w' base v b:=by
 rcases id h with ⟨_,⟨rfl,d⟩ | ⟨g,cap,c,rfl,_⟩⟩
 ·exact ⟨[],World.ownsRow_nil _ _ _ _⟩
 ·exact a.2.2 _ _ _ _ _ h
theorem aX.len' {w:World} {base n c:Nat} {a:au} {l:ak} (h:aX w base (.slice a n c) l):n=l.length:=by
 obtain ⟨a,b,e⟩:=h.form;cases e;rfl
theorem Uq (b:UInt8):IntKind.u8.wrap ((b.toNat:Int)+1)=((b+1).toNat:Int):=by
 rw [IntKind.wrap_u8,UInt8.toNat_add];have:(1:UInt8).toNat=1:=rfl
 rw [this];omega
theorem qto {b wr:World} {base n c:Nat} {a:au} {l:ak} (f:aX b base (.slice a n c) l) (m:Turned b wr) (p:Below base b wr) (k:Nat) (t:k<n):
  ∃(g:Nat) (o h:Int),a=some ⟨g,0,none⟩∧wr.cell? ⟨g,k,none⟩=some (.int .u8 o)∧wr.frozen? ⟨g,k,none⟩=false∧IntKind.u8.wrap (o+1)=h∧
   af (Turned b (wr.drew.setCell ⟨g,k,none⟩ (.int .u8 h))∧Below base b (wr.drew.setCell ⟨g,k,none⟩ (.int .u8 h))):=by
 have u:=f.len';rcases id f with ⟨_,⟨_,v⟩ | ⟨g,cap,q,e,r,_⟩⟩
 ·omega
 cases e;obtain ⟨i,d⟩:=f.turned m;have s:=d.len';have j:k<i.length:=by omega
 refine ⟨g,(i[k]).toNat,_,rfl,d.at k j,d.fz k,Uq _, ?_, ?_⟩
 ·have:=(d.a (Below.refl wr.heap.size wr).drew).stored k (i[k]+1)
  exact (m.trans (Turned.of_below (Below.refl wr.heap.size wr).drew)).trans (Turned.set (d.a (Below.refl wr.heap.size wr).drew) k _)
 ·exact p.drew.setCell r _
theorem Cq (x:FsV) (f:Fsd) (w:World) (h:RdX w x f) (a:(f.1.1.length<=140737488355328∧f.1.2.1.length<=1000000∧f.1.2.2.length<=1000000)∧f.2.2.1.length<=1000∧(∀g∈f.2.2.1,g.2.length<=1000000)∧f.2.2.2.length<=1000∧∀g∈f.2.2.2,g.2.length<=1000000) (b:(∀p∈f.1.2.1,p.2.length<=140737488355328)∧∀p∈f.1.2.2,p.2.2.length<=140737488355328):
  Calls Tryz.prog 5 #[x.val] w fun e w'=>∃v,e=.returned v∧aW w' w.heap.size v f∧ah w w':=(XY x f w h a b).mono fun e w' ⟨y,h1,h2,h3⟩=>⟨y.val,h1,h2,h3⟩
end Go.Proofs.YthpammbgcidloaaGreat
