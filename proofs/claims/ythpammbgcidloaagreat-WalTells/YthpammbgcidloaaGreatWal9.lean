/-
  What wal's New does.
-/
import Derived.Test.YthpammbgcidloaaGreatWal8
set_option maxHeartbeats 8000000
set_option maxRecDepth 100000
namespace Go.Proofs.YthpammbgcidloaaGreat
open Go.RowKit
set_option linter.all false
theorem RI {f:Fsd} {s:ak} {n:Int} (h:¬fe f=0):gq f s n=(fz,wz,fe f):=by unfold gq;rw [if_pos h]
theorem XJ {f:Fsd} {s:ak} {n:Int} (a:fe f=0) (h:n<2∨4096<n):gq f s n=(fz,wz,2):=by unfold gq;rw [if_neg (fun e=>e a),if_pos h]
theorem RJ {f:Fsd} {s:ak} {n:Int} (a:fe f=0) (b:¬(n<2∨4096<n)) {D:Fsd × Int} (c:D=lg f s n) (h:¬D.2=0):gq f s n=(fz,wz,D.2):=by
 unfold gq;rw [if_neg (fun e=>e a),if_neg b,<-c,if_pos h]
theorem RN {f:Fsd} {s:ak} {n:Int} (b:fe f=0) (c:¬(n<2∨4096<n)) {D:Fsd × Int} (d:D=lg f s n) (g:D.2=0) (h:¬rY (bE D.1 s)=0):gq f s n=(fz,wz,rY (bE D.1 s)):=by
 unfold gq;rw [if_neg (fun e=>e b),if_neg c,<-d,if_neg (fun e=>e g)];by_cases a:l9 (bE D.1 s)=4294967295
 ·rw [if_pos a];unfold rY;rw [if_pos a]
 ·exact absurd (by unfold rY;rw [if_neg a]) h
theorem RO {l:List (ak)} (h:rY l=0):l9 l≠4294967295∧uQ l=l9 l+1:=by
 have a:l9 l≠4294967295:=fun a=>by unfold rY at h;rw [if_pos a] at h;cases h
 exact ⟨a,by unfold uQ;rw [if_neg a]⟩
theorem RP {f:Fsd} {s:ak} {n:Int} (b:fe f=0) (c:¬(n<2∨4096<n)) {D:Fsd × Int} (d:D=lg f s n) (g:D.2=0) (i:rY (bE D.1 s)=0) {P:Fsd × Int} (a:P=jM D.1 s 0 (headW (uQ (bE D.1 s)))) (h:¬P.2=0):gq f s n=(fz,wz,P.2):=by
 obtain ⟨j,a2⟩:=RO i;rw [a2] at a;unfold gq;rw [if_neg (fun e=>e b),if_neg c,<-d,if_neg (fun e=>e g),if_neg j,<-a,if_pos h]
theorem RQ {f:Fsd} {s:ak} {n:Int} (b:fe f=0) (c:¬(n<2∨4096<n)) {D:Fsd × Int} (d:D=lg f s n) (g:D.2=0) (i:rY (bE D.1 s)=0) {P:Fsd × Int} (a:P=jM D.1 s 0 (headW (uQ (bE D.1 s)))) (h:P.2=0):gq f s n=(P.1,(s,uQ (bE D.1 s),0,0,0,0),0):=by
 obtain ⟨j,a2⟩:=RO i;rw [a2] at a ⊢;unfold gq;rw [if_neg (fun e=>e b),if_neg c,<-d,if_neg (fun e=>e g),if_neg j,<-a,if_neg (fun e=>e h)]
theorem qakj (l:List (ak)):uQ l<4294967296:=by
 unfold uQ;have:=qqw l
 split<;>omega
theorem qs8 {f:Fsd} {s:ak} {n:Int} {D:Fsd × Int} (a:D=lg f s n) (h:D.2=0):WfX D.1∧dA D.1 s=0:=by
 rw [a] at h ⊢;obtain ⟨_,e,b,c,_⟩:=qyu h;rw [e];exact ⟨IZ b,c⟩
theorem Bu (x:FsV) (f:Fsd) (s:ak) (n:Int) (w:World) (h:RdX w x f) (hw:WfX f):
  Calls Tryz.prog 6 #[x.val,.string (bs s),.int .i64 n] w fun e w'=>∃v,e=.returned (.tuple #[v,pR (gq f s n).2.1,.int .i64 (gq f s n).2.2])∧aW w' w.heap.size v (gq f s n).1∧ah w w':=by
 have HW:=ag hw;have HX:=ag h;obtain ⟨w1,ew⟩:=aj (((w.alloc (.cells x.cs 32)).alloc (.cells #[.slice none 0 0,.slice none 0 0,.slice none 0 0,.int .u32 0,.slice none 0 0,.slice none 0 0] 32)).alloc (.cells #[.string ⟨#[]⟩,.int .u32 0,.int .i64 0,.int .u32 0,.int .u32 0,.int .i64 0] 34));have eO:=ag (show yl w w1 x by rw [<-ew];exact yl.start w x);clear h hw;unfold FsV.val;unfold FsV.cs at ew;obtain ⟨gJ,E,F,fT,gy,gK⟩:=aV eO.o.f;go_enter Tryz.func6,Tryz.ntmps6;go_wp2_with fail
 try rw [ew]
 refine (WX x f w1 (HX.o.a eO.o.b) HW.o).mono ?_
 rintro e w2 ⟨rfl,am⟩;have fo:=ag (eO.o.a am);clear am ew gJ E F fT gy gK;by_cases l:¬fe f=0
 ·have J:=ag (show gq f s n=(fz,wz,fe f) by exact RI l)
  obtain ⟨e,O⟩:=ai (fe f);have iB:=ag O;rw [<-O] at l ⊢;have ge:(e==0)=false:=by simpa using l
  clear O l;go_wp2_with fail
  refine (zk _ w2).mono ?_
  rintro e' wc ⟨rfl,t⟩;have z:=fo.o.a t;have H:=z.r;have S:=z.q;have G:=ag z.b;try clear hL0 hL1 hL2 hL3 hL4 hL5
  try clear gJ E F fT gy gK
  clear z t;obtain ⟨⟨d0,e0⟩,⟨d1,e1⟩,⟨d2,e2⟩,⟨d3,e3⟩,⟨d4,e4⟩,⟨d5,e5⟩,j⟩:=H.cells;have f0:=j 0;have f1:=j 1;have f2:=j 2;have f3:=j 3;have f4:=j 4;have f5:=j 5;obtain ⟨_,_,_,_,_,_,K⟩:=H;obtain ⟨A,m⟩:=aa0 K;obtain ⟨L,I⟩:=ab0 wc (w.heap.size+1);rw [I] at A m;obtain ⟨_,_,_,_,_,_,M⟩:=S;have d:=M.grown m (by omega);obtain ⟨c0,c1,c2,c3,c4,c5⟩:=cu d;have g0:=d.fz 0;have l:=d.fz 1;have g2:=d.fz 2;have g3:=d.fz 3;have g4:=d.fz 4;have g5:=d.fz 5;obtain ⟨B,u⟩:=ac0 d;obtain ⟨ws,N⟩:=ae0 L (w.heap.size+1+1);rw [N] at B u;have T:=ag (A.grown u (by omega));have U:=ag B;have V:=ag (show ah w ws from (G.o.grown m G.o.size (by intro k C;cases C;omega)).grown u (aC G.o.size m.size) (by intro k C;cases C;omega));unfold bV at I N;clear A m B u d K M j;go_wp2;obtain ⟨W,X,Y,Z,p4,p5⟩:=cu T.o;obtain ⟨r0,r1,r2,r3,r4,r5⟩:=cu U.o;refine bodyPost_ret (v:=.tuple #[.agg #[.slice none 0 0,.slice none 0 0,.slice none 0 0,.int .u32 0,.slice none 0 0,.slice none 0 0],.agg #[.string ⟨#[]⟩,.int .u32 0,.int .i64 0,.int .u32 0,.int .u32 0,.int .i64 0],.int .i64 e]) ?_ rfl ⟨.agg #[.slice none 0 0,.slice none 0 0,.slice none 0 0,.int .u32 0,.slice none 0 0,.slice none 0 0], ?_, ?_,V.o⟩
  ·simp [results,Tryz.results6,go_sem,W,X,Y,Z,p4,p5,r0,r1,r2,r3,r4,r5]
  ·rw [J.o,<-iB.o];rfl
  ·rw [J.o];exact jO _ _
 rw [Decidable.not_not] at l;rw [l];have fF:=ag l;clear l;by_cases l:n<2
 ·have J:=ag (XJ (s:=s) fF.o (.inl l))
  go_wp2_with fail
  refine (zk _ w2).mono ?_
  rintro e' wc ⟨rfl,t⟩;have z:=fo.o.a t;have H:=z.r;have S:=z.q;have G:=ag z.b;try clear hL0 hL1 hL2 hL3 hL4 hL5
  try clear gJ E F fT gy gK
  clear z t;obtain ⟨⟨d0,e0⟩,⟨d1,e1⟩,⟨d2,e2⟩,⟨d3,e3⟩,⟨d4,e4⟩,⟨d5,e5⟩,j⟩:=H.cells;have f0:=j 0;have f1:=j 1;have f2:=j 2;have f3:=j 3;have f4:=j 4;have f5:=j 5;obtain ⟨_,_,_,_,_,_,K⟩:=H;obtain ⟨A,m⟩:=aa0 K;obtain ⟨L,I⟩:=ab0 wc (w.heap.size+1);rw [I] at A m;obtain ⟨_,_,_,_,_,_,M⟩:=S;have d:=M.grown m (by omega);obtain ⟨c0,c1,c2,c3,c4,c5⟩:=cu d;have g0:=d.fz 0;have l:=d.fz 1;have g2:=d.fz 2;have g3:=d.fz 3;have g4:=d.fz 4;have g5:=d.fz 5;obtain ⟨B,u⟩:=ac0 d;obtain ⟨ws,N⟩:=ae0 L (w.heap.size+1+1);rw [N] at B u;have T:=ag (A.grown u (by omega));have U:=ag B;have V:=ag (show ah w ws from (G.o.grown m G.o.size (by intro k C;cases C;omega)).grown u (aC G.o.size m.size) (by intro k C;cases C;omega));unfold bV at I N;clear A m B u d K M j;go_wp2;obtain ⟨W,X,Y,Z,p4,p5⟩:=cu T.o;obtain ⟨r0,r1,r2,r3,r4,r5⟩:=cu U.o;refine bodyPost_ret (v:=.tuple #[.agg #[.slice none 0 0,.slice none 0 0,.slice none 0 0,.int .u32 0,.slice none 0 0,.slice none 0 0],.agg #[.string ⟨#[]⟩,.int .u32 0,.int .i64 0,.int .u32 0,.int .u32 0,.int .i64 0],.int .i64 2]) ?_ rfl ⟨.agg #[.slice none 0 0,.slice none 0 0,.slice none 0 0,.int .u32 0,.slice none 0 0,.slice none 0 0], ?_, ?_,V.o⟩
  ·simp [results,Tryz.results6,go_sem,W,X,Y,Z,p4,p5,r0,r1,r2,r3,r4,r5]
  ·rw [J.o];rfl
  ·rw [J.o];exact jO _ _
 have ao:decide (n<2)=false:=decide_eq_false l;by_cases g2:4096<n
 ·have J:=ag (XJ (s:=s) fF.o (.inr g2))
  clear l;go_wp2_with fail
  refine (zk _ w2).mono ?_
  rintro e' wc ⟨rfl,t⟩;have z:=fo.o.a t;have H:=z.r;have S:=z.q;have G:=ag z.b;try clear hL0 hL1 hL2 hL3 hL4 hL5
  try clear gJ E F fT gy gK
  clear z t;obtain ⟨⟨d0,e0⟩,⟨d1,e1⟩,⟨d2,e2⟩,⟨d3,e3⟩,⟨d4,e4⟩,⟨d5,e5⟩,j⟩:=H.cells;have f0:=j 0;have f1:=j 1;have f2:=j 2;have f3:=j 3;have f4:=j 4;have f5:=j 5;obtain ⟨_,_,_,_,_,_,K⟩:=H;obtain ⟨A,m⟩:=aa0 K;obtain ⟨L,I⟩:=ab0 wc (w.heap.size+1);rw [I] at A m;obtain ⟨_,_,_,_,_,_,M⟩:=S;have d:=M.grown m (by omega);obtain ⟨c0,c1,c2,c3,c4,c5⟩:=cu d;have g0:=d.fz 0;have l:=d.fz 1;have g2:=d.fz 2;have g3:=d.fz 3;have g4:=d.fz 4;have g5:=d.fz 5;obtain ⟨B,u⟩:=ac0 d;obtain ⟨ws,N⟩:=ae0 L (w.heap.size+1+1);rw [N] at B u;have T:=ag (A.grown u (by omega));have U:=ag B;have V:=ag (show ah w ws from (G.o.grown m G.o.size (by intro k C;cases C;omega)).grown u (aC G.o.size m.size) (by intro k C;cases C;omega));unfold bV at I N;clear A m B u d K M j;go_wp2;obtain ⟨W,X,Y,Z,p4,p5⟩:=cu T.o;obtain ⟨r0,r1,r2,r3,r4,r5⟩:=cu U.o;refine bodyPost_ret (v:=.tuple #[.agg #[.slice none 0 0,.slice none 0 0,.slice none 0 0,.int .u32 0,.slice none 0 0,.slice none 0 0],.agg #[.string ⟨#[]⟩,.int .u32 0,.int .i64 0,.int .u32 0,.int .u32 0,.int .i64 0],.int .i64 2]) ?_ rfl ⟨.agg #[.slice none 0 0,.slice none 0 0,.slice none 0 0,.int .u32 0,.slice none 0 0,.slice none 0 0], ?_, ?_,V.o⟩
  ·simp [results,Tryz.results6,go_sem,W,X,Y,Z,p4,p5,r0,r1,r2,r3,r4,r5]
  ·rw [J.o];rfl
  ·rw [J.o];exact jO _ _
 have ap:decide ((4096:Int)<n)=false:=decide_eq_false g2;have ad:=ag (show ¬(n<2∨4096<n) by rintro (h | h);exact l h;exact g2 h);clear l g2;obtain ⟨D,hD⟩:∃D:Fsd × Int,D=lg f s n:=⟨_,rfl⟩;have ab:=vH x f s n w2 (HX.o.a fo.o.b) HW.o;rw [<-hD] at ab;have wD:=ag hD;have cz:=ag ab;clear ab hD;obtain ⟨gJ,E,F,fT,gy,gK⟩:=aV fo.o.f
 go_wp2_with fail
 refine cz.o.mono ?_
 rintro e w6 ⟨v6,rfl,lu,an⟩;obtain ⟨y6,e6,aq,BZ⟩:=lu.bx;subst e6;have si:=fo.o.a an;obtain ⟨I7,al⟩:=si.set y6;have mi:=(BZ.assign (dE.of si.f) (w0:=w) si.b aI);obtain ⟨⟨d0,e0⟩,⟨d1,e1⟩,⟨d2,e2⟩,⟨d3,e3⟩,⟨d4,e4⟩,⟨d5,e5⟩,j⟩:=(dE.of si.f).cells;have f0:=j 0;have f1:=j 1;have f2:=j 2;have f3:=j 3;have f4:=j 4;have f5:=j 5;obtain ⟨w7,oH⟩:=aj (aY w6 w.heap.size y6);rw [oH] at I7 al mi;have qR:=ag I7;have DC:=ag mi.2.2.2.1;unfold aY at oH;unfold FsV.val;clear si I7 al mi j an lu aq BZ ao ap gJ E F fT gy gK;by_cases l:¬D.2=0
 ·have J:=ag (show gq f s n=(fz,wz,D.2) by exact RJ fF.o ad.o wD.o l)
  obtain ⟨e,O⟩:=ai D.2;have iB:=ag O;rw [<-O] at l ⊢;have ge:(e==0)=false:=by simpa using l
  clear O l;go_wp2_with fail
  refine (zk _ w7).mono ?_
  rintro e' wc ⟨rfl,t⟩;have z:=qR.o.a t;have H:=z.r;have S:=z.q;have G:=ag z.b;try clear hL0 hL1 hL2 hL3 hL4 hL5
  try clear gJ E F fT gy gK
  clear z t;obtain ⟨⟨d0,e0⟩,⟨d1,e1⟩,⟨d2,e2⟩,⟨d3,e3⟩,⟨d4,e4⟩,⟨d5,e5⟩,j⟩:=H.cells;have f0:=j 0;have f1:=j 1;have f2:=j 2;have f3:=j 3;have f4:=j 4;have f5:=j 5;obtain ⟨_,_,_,_,_,_,K⟩:=H;obtain ⟨A,m⟩:=aa0 K;obtain ⟨L,I⟩:=ab0 wc (w.heap.size+1);rw [I] at A m;obtain ⟨_,_,_,_,_,_,M⟩:=S;have d:=M.grown m (by omega);obtain ⟨c0,c1,c2,c3,c4,c5⟩:=cu d;have g0:=d.fz 0;have l:=d.fz 1;have g2:=d.fz 2;have g3:=d.fz 3;have g4:=d.fz 4;have g5:=d.fz 5;obtain ⟨B,u⟩:=ac0 d;obtain ⟨ws,N⟩:=ae0 L (w.heap.size+1+1);rw [N] at B u;have T:=ag (A.grown u (by omega));have U:=ag B;have V:=ag (show ah w ws from (G.o.grown m G.o.size (by intro k C;cases C;omega)).grown u (aC G.o.size m.size) (by intro k C;cases C;omega));unfold bV at I N;clear A m B u d K M j;go_wp2;obtain ⟨W,X,Y,Z,p4,p5⟩:=cu T.o;obtain ⟨r0,r1,r2,r3,r4,r5⟩:=cu U.o;refine bodyPost_ret (v:=.tuple #[.agg #[.slice none 0 0,.slice none 0 0,.slice none 0 0,.int .u32 0,.slice none 0 0,.slice none 0 0],.agg #[.string ⟨#[]⟩,.int .u32 0,.int .i64 0,.int .u32 0,.int .u32 0,.int .i64 0],.int .i64 e]) ?_ rfl ⟨.agg #[.slice none 0 0,.slice none 0 0,.slice none 0 0,.int .u32 0,.slice none 0 0,.slice none 0 0], ?_, ?_,V.o⟩
  ·simp [results,Tryz.results6,go_sem,W,X,Y,Z,p4,p5,r0,r1,r2,r3,r4,r5]
  ·rw [J.o,<-iB.o];rfl
  ·rw [J.o];exact jO _ _
 rw [Decidable.not_not] at l;rw [l];have qH:=ag l;have zB:=ag (qs8 wD.o l);clear l;obtain ⟨gJ,E,F,fT,gy,gK⟩:=aV qR.o.f;go_wp2_with fail
 refine (qyx y6 D.1 s w7 DC.o zB.o.1 zB.o.2).mono ?_
 rintro e L ⟨rfl,dD⟩;have xW:=ag (qR.o.a dD);have ar:=ag (DC.o.a dD);clear oH e0 e1 e2 e3 e4 e5 f0 f1 f2 f3 f4 f5 d0 d1 d2 d3 d4 d5 gJ E F fT gy gK dD;by_cases l:¬rY (bE D.1 s)=0
 ·have J:=ag (show gq f s n=(fz,wz,rY (bE D.1 s)) by exact RN fF.o ad.o wD.o qH.o l)
  obtain ⟨e,O⟩:=ai (rY (bE D.1 s));have iB:=ag O;rw [<-O] at l ⊢;have ge:(e==0)=false:=by simpa using l
  clear O l;go_wp2_with fail
  refine (zk _ L).mono ?_
  rintro e' wc ⟨rfl,t⟩;have z:=xW.o.a t;have H:=z.r;have S:=z.q;have G:=ag z.b;try clear hL0 hL1 hL2 hL3 hL4 hL5
  try clear gJ E F fT gy gK
  clear z t;obtain ⟨⟨d0,e0⟩,⟨d1,e1⟩,⟨d2,e2⟩,⟨d3,e3⟩,⟨d4,e4⟩,⟨d5,e5⟩,j⟩:=H.cells;have f0:=j 0;have f1:=j 1;have f2:=j 2;have f3:=j 3;have f4:=j 4;have f5:=j 5;obtain ⟨_,_,_,_,_,_,K⟩:=H;obtain ⟨A,m⟩:=aa0 K;obtain ⟨L,I⟩:=ab0 wc (w.heap.size+1);rw [I] at A m;obtain ⟨_,_,_,_,_,_,M⟩:=S;have d:=M.grown m (by omega);obtain ⟨c0,c1,c2,c3,c4,c5⟩:=cu d;have g0:=d.fz 0;have l:=d.fz 1;have g2:=d.fz 2;have g3:=d.fz 3;have g4:=d.fz 4;have g5:=d.fz 5;obtain ⟨B,u⟩:=ac0 d;obtain ⟨ws,N⟩:=ae0 L (w.heap.size+1+1);rw [N] at B u;have T:=ag (A.grown u (by omega));have U:=ag B;have V:=ag (show ah w ws from (G.o.grown m G.o.size (by intro k C;cases C;omega)).grown u (aC G.o.size m.size) (by intro k C;cases C;omega));unfold bV at I N;clear A m B u d K M j;go_wp2;obtain ⟨W,X,Y,Z,p4,p5⟩:=cu T.o;obtain ⟨r0,r1,r2,r3,r4,r5⟩:=cu U.o;refine bodyPost_ret (v:=.tuple #[.agg #[.slice none 0 0,.slice none 0 0,.slice none 0 0,.int .u32 0,.slice none 0 0,.slice none 0 0],.agg #[.string ⟨#[]⟩,.int .u32 0,.int .i64 0,.int .u32 0,.int .u32 0,.int .i64 0],.int .i64 e]) ?_ rfl ⟨.agg #[.slice none 0 0,.slice none 0 0,.slice none 0 0,.int .u32 0,.slice none 0 0,.slice none 0 0], ?_, ?_,V.o⟩
  ·simp [results,Tryz.results6,go_sem,W,X,Y,Z,p4,p5,r0,r1,r2,r3,r4,r5]
  ·rw [J.o,<-iB.o];rfl
  ·rw [J.o];exact jO _ _
 rw [Decidable.not_not] at l;rw [l];have ym:=ag l;clear l;obtain ⟨g,hg⟩:=ai (uQ (bE D.1 s));have qP:=ag hg;have av:g<4294967296:=by rw [hg];exact qakj _
 rw [<-hg];obtain ⟨P,hP⟩:∃P:Fsd × Int,P=jM D.1 s 0 (headW (uQ (bE D.1 s))):=⟨_,rfl⟩;have mh:=ag hP
 have pU:=ag (show ∀(Q:World) (a:au) (c:Nat),kV L Q->Rd Q (.slice a 128 c) (headW g)->Calls Tryz.prog 24 #[y6.val,.string (bs s),.int .i64 0,.slice a 128 c] Q fun e w'=>∃v,e=.returned (.tuple #[v,.int .i64 P.2])∧aW w' Q.heap.size v P.1∧ah Q w' by
  intro Q a c hx hr;have hh:=Q6 y6 D.1 s 0 a 128 c (headW g) Q (ar.o.a hx) zB.o.1 hr;rw [hg,<-hP] at hh;exact hh)
 clear hg hP;go_wp2;have hK:aL (fun Q=>yl w Q y6∧kV L Q):=fun _ _ h hb=>⟨h.1.a hb,h.2.a hb⟩
 refine rH hK 8 (by kernel_rfl) ⟨xW.o,kV.refl L⟩ ?_
 intro hS;generalize L.drew=wd at *;refine pg [0,1,2] (fuel:=7) (a':=?iD) (by kernel_rfl) (by kernel_rfl) (by kernel_rfl) ?dn hS ?iE
 case dn=>
  iterate 3 (apply Yl.cons rfl (by kernel_rfl);focus (rintro Q ⟨x1,x2⟩;obtain ⟨j0,j1,j2,j3,j4,j5⟩:=aV x1.f;go_simp<;>with_reducible rfl);try simp only [az])
  exact Yl.nil
 refine Yz hK (i:=3) (R:=fun v wy=>∃a c,v=.slice a 128 c∧Rd wy (.slice a 128 c) (headW g)) rfl (by kernel_rfl) (by rfl) (by go_simp) hS ((qxh g wd av).mono fun e wy ⟨v,h1,h2,h3⟩=>by obtain ⟨a,c,e9⟩:=h2.form;rw [Rl] at e9;subst e9;exact ⟨_,h1,⟨a,c,rfl,h2.rd⟩,h3⟩) (fun v _ _ ⟨a,c,h,h'⟩ hb=>⟨a,c,h,h'.a hb⟩) ?_
 intro ay aw ac jK eY;clear hK hS;have hK:=ac;have hS:=eY;clear ac eY;obtain ⟨ha,hc,rfl,RU⟩:=jK;try simp only [az]
 refine Yz hK (i:=4) (R:=fun v wy=>∃y:FsV,v=.tuple #[y.val,.int .i64 P.2]∧aW wy w.heap.size y.val P.1) rfl (by kernel_rfl) (by rfl) (by go_simp) hS ((pU.o aw ha hc hS.1.2 RU).mono fun e wy ⟨v,h1,h2,h3⟩=>by obtain ⟨y,ey,_,h4⟩:=h2.bx;subst ey;exact ⟨_,h1,⟨y,rfl,h4.mono hS.1.1.b.size⟩,h3⟩) (fun v _ _ ⟨y,h,h'⟩ hb=>⟨y,h,h'.a hb⟩) ?_
 intro aD ax ac jK eY;clear hK hS;have hK:=ac;have hS:=eY;clear ac eY;obtain ⟨p,rfl,bN⟩:=jK;try simp only [az]
 refine pg [5,6] (fuel:=3) (a':=?lM) (by kernel_rfl) (by kernel_rfl) (by kernel_rfl) ?fU hS ?lN
 case fU=>
  iterate 2 (apply Yl.cons rfl (by kernel_rfl);focus (rintro Q ⟨⟨⟨x1,x2⟩,_⟩,_⟩;go_simp<;>with_reducible rfl);try simp only [az])
  exact Yl.nil
 refine Vm (i:=7) (v:=?qnv7) rfl (by kernel_rfl) (by kernel_rfl) (by kernel_rfl) rfl (by rfl) ?qny7 (fun _=>hS) ?qnr7
 case qny7=>(intro Q;go_simp<;>with_reducible rfl)
 try simp only [az]
 obtain ⟨⟨⟨s1, -⟩, -⟩, -⟩:=hS;obtain ⟨z,al⟩:=s1.set p;have aa:=bN.assign (dE.of s1.f) (w0:=w) s1.b aI;obtain ⟨⟨d0,e0⟩,⟨d1,e1⟩,⟨d2,e2⟩,⟨d3,e3⟩,⟨d4,e4⟩,⟨d5,e5⟩,j⟩:=(dE.of s1.f).cells;have f0:=j 0;have f1:=j 1;have f2:=j 2;have f3:=j 3;have f4:=j 4;have f5:=j 5;obtain ⟨wa,wX⟩:=aj (aY ax w.heap.size p);rw [wX] at aa z;have qg:=ag z;have AP:=ag aa.1;unfold aY at wX;clear s1 z al aa j bN;refine rJ (i:=8) (w':=wa) rfl (by kernel_rfl) (by kernel_rfl) (by rfl) (by rw [<-wX];go_simp) ?_
 clear wX e0 e1 e2 e3 e4 e5 f0 f1 f2 f3 f4 f5;try simp only [az]
 refine Vm (i:=9) (v:=?qnv9) rfl (by kernel_rfl) (by kernel_rfl) (by kernel_rfl) rfl (by rfl) ?qny9 (fun h=>absurd h (by decide)) ?qnr9
 case qny9=>(intro Q;go_simp<;>with_reducible rfl)
 try simp only [az]
 refine rM (by kernel_rfl) ?_ _
 refine NoPanic.normal ?_
 try simp only [az]
 clear hK;by_cases l:¬P.2=0
 ·have J:=ag (show gq f s n=(fz,wz,P.2) by exact RP fF.o ad.o wD.o qH.o ym.o mh.o l)
  obtain ⟨e,O⟩:=ai P.2;have iB:=ag O;rw [<-O] at l ⊢;have ge:(e==0)=false:=by simpa using l
  clear O l;go_wp2_with fail
  refine (zk _ wa).mono ?_
  rintro e' wc ⟨rfl,t⟩;have z:=qg.o.a t;have H:=z.r;have S:=z.q;have G:=ag z.b;try clear hL0 hL1 hL2 hL3 hL4 hL5
  try clear gJ E F fT gy gK
  clear z t;obtain ⟨⟨d0,e0⟩,⟨d1,e1⟩,⟨d2,e2⟩,⟨d3,e3⟩,⟨d4,e4⟩,⟨d5,e5⟩,j⟩:=H.cells;have f0:=j 0;have f1:=j 1;have f2:=j 2;have f3:=j 3;have f4:=j 4;have f5:=j 5;obtain ⟨_,_,_,_,_,_,K⟩:=H;obtain ⟨A,m⟩:=aa0 K;obtain ⟨L,I⟩:=ab0 wc (w.heap.size+1);rw [I] at A m;obtain ⟨_,_,_,_,_,_,M⟩:=S;have d:=M.grown m (by omega);obtain ⟨c0,c1,c2,c3,c4,c5⟩:=cu d;have g0:=d.fz 0;have l:=d.fz 1;have g2:=d.fz 2;have g3:=d.fz 3;have g4:=d.fz 4;have g5:=d.fz 5;obtain ⟨B,u⟩:=ac0 d;obtain ⟨ws,N⟩:=ae0 L (w.heap.size+1+1);rw [N] at B u;have T:=ag (A.grown u (by omega));have U:=ag B;have V:=ag (show ah w ws from (G.o.grown m G.o.size (by intro k C;cases C;omega)).grown u (aC G.o.size m.size) (by intro k C;cases C;omega));unfold bV at I N;clear A m B u d K M j;go_wp2;obtain ⟨W,X,Y,Z,p4,p5⟩:=cu T.o;obtain ⟨r0,r1,r2,r3,r4,r5⟩:=cu U.o;refine bodyPost_ret (v:=.tuple #[.agg #[.slice none 0 0,.slice none 0 0,.slice none 0 0,.int .u32 0,.slice none 0 0,.slice none 0 0],.agg #[.string ⟨#[]⟩,.int .u32 0,.int .i64 0,.int .u32 0,.int .u32 0,.int .i64 0],.int .i64 e]) ?_ rfl ⟨.agg #[.slice none 0 0,.slice none 0 0,.slice none 0 0,.int .u32 0,.slice none 0 0,.slice none 0 0], ?_, ?_,V.o⟩
  ·simp [results,Tryz.results6,go_sem,W,X,Y,Z,p4,p5,r0,r1,r2,r3,r4,r5]
  ·rw [J.o,<-iB.o];rfl
  ·rw [J.o];exact jO _ _
 rw [Decidable.not_not] at l;rw [l];have J:=ag (show gq f s n=(P.1,(s,g,0,0,0,0),0) by rw [qP.o];exact RQ fF.o ad.o wD.o qH.o ym.o mh.o l);clear l;obtain ⟨gJ,E,F,fT,gy,gK⟩:=aV qg.o.f;have H:=qg.o.r;have S:=qg.o.q;have aa:=AP.o.assign H (w0:=w) qg.o.b (by omega);obtain ⟨⟨d0,e0⟩,⟨d1,e1⟩,⟨d2,e2⟩,⟨d3,e3⟩,⟨d4,e4⟩,⟨d5,e5⟩,j⟩:=H.cells;have f0:=j 0;have f1:=j 1;have f2:=j 2;have f3:=j 3;have f4:=j 4;have f5:=j 5;obtain ⟨_,_,_,_,_,_,K⟩:=H;obtain ⟨A,m⟩:=bK K (.slice p.a1 p.n1 p.c1) (.slice p.a2 p.n2 p.c2) (.slice p.a3 p.n3 p.c3) (.int .u32 p.g) (.slice p.a4 p.n4 p.c4) (.slice p.a5 p.n5 p.c5);obtain ⟨L,I⟩:=aj (bV wa (w.heap.size+1) (.slice p.a1 p.n1 p.c1) (.slice p.a2 p.n2 p.c2) (.slice p.a3 p.n3 p.c3) (.int .u32 p.g) (.slice p.a4 p.n4 p.c4) (.slice p.a5 p.n5 p.c5));rw [I] at A m;obtain ⟨_,_,_,_,_,_,M⟩:=S;have d:=M.grown m (by omega);obtain ⟨c0,c1,c2,c3,c4,c5⟩:=cu d;have g0:=d.fz 0;have l:=d.fz 1;have g2:=d.fz 2;have g3:=d.fz 3;have g4:=d.fz 4;have g5:=d.fz 5;obtain ⟨B,u⟩:=bK d (.string (bs s)) (.int .u32 g) (.int .i64 0) (.int .u32 0) (.int .u32 0) (.int .i64 0);obtain ⟨ws,N⟩:=aj (bV L (w.heap.size+1+1) (.string (bs s)) (.int .u32 g) (.int .i64 0) (.int .u32 0) (.int .u32 0) (.int .i64 0));rw [N] at B u;have T:=ag (A.grown u (by omega));have U:=ag B;have V:=ag (show ah w ws from (qg.o.b.grown m qg.o.b.size (by intro k C;cases C;omega)).grown u (aC qg.o.b.size m.size) (by intro k C;cases C;omega));unfold bV at I N;have oU:=ag (show aW ws w.heap.size p.val P.1 by
  have h1:=aa.1;have e9:aY wa (w.heap.size+1) p=L:=I;rw [e9] at h1;exact h1.keptS u d (by decide) (by decide) (by decide) (by decide) (by decide))
 clear aa;clear A m B u d K M j;go_wp2;obtain ⟨W,X,Y,Z,p4,p5⟩:=cu T.o;obtain ⟨r0,r1,r2,r3,r4,r5⟩:=cu U.o;refine bodyPost_ret (v:=.tuple #[p.val,.agg #[.string (bs s),.int .u32 g,.int .i64 0,.int .u32 0,.int .u32 0,.int .i64 0],.int .i64 0]) ?_ rfl ⟨p.val, ?_, ?_,V.o⟩
 ·simp [results,Tryz.results6,go_sem,W,X,Y,Z,p4,p5,r0,r1,r2,r3,r4,r5]
 ·rw [J.o];rfl
 ·rw [J.o];exact oU.o
end Go.Proofs.YthpammbgcidloaaGreat
