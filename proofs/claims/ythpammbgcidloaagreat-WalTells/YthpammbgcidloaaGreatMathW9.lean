/-
  A log behind an append that was not refused can be opened.
-/
import Derived.Test.YthpammbgcidloaaGreatRm10
set_option maxHeartbeats 8000000
set_option maxRecDepth 100000
namespace Go.Proofs.YthpammbgcidloaaGreat
open Go.RowKit
set_option linter.all false
theorem qado (x:FsV) (f:Fsd) (s:ak) (n:Int) (w:World) (h:RdX w x f) (hw:WfX f):
  Calls Tryz.prog 7 #[x.val,.string (bs s),.int .i64 n] w fun e w'=>∃v,e=.returned (.tuple #[v,pR (gq f s n).2.1,.int .i64 (gq f s n).2.2])∧aW w' w.heap.size v (gq f s n).1∧ah w w':=by
 have HW:=ag hw;have HX:=ag h;obtain ⟨w1,ew⟩:=aj (((w.alloc (.cells x.cs 32)).alloc (.cells #[.slice none 0 0,.slice none 0 0,.slice none 0 0,.int .u32 0,.slice none 0 0,.slice none 0 0] 32)).alloc (.cells #[.string ⟨#[]⟩,.int .u32 0,.int .i64 0,.int .u32 0,.int .u32 0,.int .i64 0] 34));have eO:=ag (show yl w w1 x by rw [<-ew];exact yl.start w x);clear h hw;unfold FsV.val;unfold FsV.cs at ew;obtain ⟨gJ,J,K,fT,gy,gK⟩:=aV eO.o.f;go_enter Tryz.func7,Tryz.ntmps7;go_wp2_with fail
 try rw [ew]
 refine (XT x f w1 (HX.o.a eO.o.b) HW.o).mono ?_
 rintro e w2 ⟨rfl,am⟩;have fo:=ag (eO.o.a am);clear am ew gJ J K fT gy gK;by_cases u:¬fe f=0
 ·have U:=ag (show gq f s n=(fz,wz,8) by rw [RI u];rcases wP f with h9 | h9;exact absurd h9.2 u;rw [h9.2])
  obtain ⟨e,he⟩:=ai (fe f);have iB:=ag he;rw [<-he] at u ⊢;have ge:(e==0)=false:=by simpa using u
  clear he u;have Q:=fo.o.r;have gQ:=fo.o.q;have L:=ag fo.o.b;try clear gJ J K fT gy gK
  obtain ⟨⟨d0,e0⟩,⟨d1,e1⟩,⟨d2,e2⟩,⟨d3,e3⟩,⟨d4,e4⟩,⟨d5,e5⟩,l⟩:=Q.cells;have f0:=l 0;have f1:=l 1;have f2:=l 2;have f3:=l 3;have f4:=l 4;have f5:=l 5;obtain ⟨_,_,_,_,_,_,V⟩:=Q;obtain ⟨H,A⟩:=aa0 V;obtain ⟨mH,S⟩:=ab0 w2 (w.heap.size+1);rw [S] at H A;obtain ⟨_,_,_,_,_,_,W⟩:=gQ;have d:=W.grown A (by omega);obtain ⟨c0,c1,c2,c3,c4,c5⟩:=cu d;have g0:=d.fz 0;have u:=d.fz 1;have g2:=d.fz 2;have g3:=d.fz 3;have g4:=d.fz 4;have g5:=d.fz 5;obtain ⟨I,B⟩:=ac0 d;obtain ⟨ws,X⟩:=ae0 mH (w.heap.size+1+1);rw [X] at I B;have gF:=ag (H.grown B (by omega));have gG:=ag I;have eX:=ag (show ah w ws from (L.o.grown A L.o.size (by intro k C;cases C;omega)).grown B (aC L.o.size A.size) (by intro k C;cases C;omega));unfold bV at S X;clear H A I B d V W l;go_wp2;obtain ⟨p0,p1,p2,p3,p4,p5⟩:=cu gF.o;obtain ⟨r0,r1,r2,r3,r4,r5⟩:=cu gG.o;refine bodyPost_ret (v:=.tuple #[.agg #[.slice none 0 0,.slice none 0 0,.slice none 0 0,.int .u32 0,.slice none 0 0,.slice none 0 0],.agg #[.string ⟨#[]⟩,.int .u32 0,.int .i64 0,.int .u32 0,.int .u32 0,.int .i64 0],.int .i64 8]) ?_ rfl ⟨.agg #[.slice none 0 0,.slice none 0 0,.slice none 0 0,.int .u32 0,.slice none 0 0,.slice none 0 0], ?_, ?_,eX.o⟩
  ·simp [results,Tryz.results7,go_sem,p0,p1,p2,p3,p4,p5,r0,r1,r2,r3,r4,r5]
  ·rw [U.o];rfl
  ·rw [U.o];exact jO _ _
 rw [Decidable.not_not] at u;rw [u];have fF:=ag u;clear u;by_cases u:n<2
 ·have U:=ag (XJ (s:=s) fF.o (.inl u))
  have Q:=fo.o.r;have gQ:=fo.o.q;have L:=ag fo.o.b;try clear gJ J K fT gy gK
  obtain ⟨⟨d0,e0⟩,⟨d1,e1⟩,⟨d2,e2⟩,⟨d3,e3⟩,⟨d4,e4⟩,⟨d5,e5⟩,l⟩:=Q.cells;have f0:=l 0;have f1:=l 1;have f2:=l 2;have f3:=l 3;have f4:=l 4;have f5:=l 5;obtain ⟨_,_,_,_,_,_,V⟩:=Q;obtain ⟨H,A⟩:=aa0 V;obtain ⟨mH,S⟩:=ab0 w2 (w.heap.size+1);rw [S] at H A;obtain ⟨_,_,_,_,_,_,W⟩:=gQ;have d:=W.grown A (by omega);obtain ⟨c0,c1,c2,c3,c4,c5⟩:=cu d;have g0:=d.fz 0;have u:=d.fz 1;have g2:=d.fz 2;have g3:=d.fz 3;have g4:=d.fz 4;have g5:=d.fz 5;obtain ⟨I,B⟩:=ac0 d;obtain ⟨ws,X⟩:=ae0 mH (w.heap.size+1+1);rw [X] at I B;have gF:=ag (H.grown B (by omega));have gG:=ag I;have eX:=ag (show ah w ws from (L.o.grown A L.o.size (by intro k C;cases C;omega)).grown B (aC L.o.size A.size) (by intro k C;cases C;omega));unfold bV at S X;clear H A I B d V W l;go_wp2;obtain ⟨p0,p1,p2,p3,p4,p5⟩:=cu gF.o;obtain ⟨r0,r1,r2,r3,r4,r5⟩:=cu gG.o;refine bodyPost_ret (v:=.tuple #[.agg #[.slice none 0 0,.slice none 0 0,.slice none 0 0,.int .u32 0,.slice none 0 0,.slice none 0 0],.agg #[.string ⟨#[]⟩,.int .u32 0,.int .i64 0,.int .u32 0,.int .u32 0,.int .i64 0],.int .i64 2]) ?_ rfl ⟨.agg #[.slice none 0 0,.slice none 0 0,.slice none 0 0,.int .u32 0,.slice none 0 0,.slice none 0 0], ?_, ?_,eX.o⟩
  ·simp [results,Tryz.results7,go_sem,p0,p1,p2,p3,p4,p5,r0,r1,r2,r3,r4,r5]
  ·rw [U.o];rfl
  ·rw [U.o];exact jO _ _
 have an:decide (n<2)=false:=decide_eq_false u;by_cases g2:4096<n
 ·have U:=ag (XJ (s:=s) fF.o (.inr g2))
  clear u;have Q:=fo.o.r;have gQ:=fo.o.q;have L:=ag fo.o.b;try clear gJ J K fT gy gK
  obtain ⟨⟨d0,e0⟩,⟨d1,e1⟩,⟨d2,e2⟩,⟨d3,e3⟩,⟨d4,e4⟩,⟨d5,e5⟩,l⟩:=Q.cells;have f0:=l 0;have f1:=l 1;have f2:=l 2;have f3:=l 3;have f4:=l 4;have f5:=l 5;obtain ⟨_,_,_,_,_,_,V⟩:=Q;obtain ⟨H,A⟩:=aa0 V;obtain ⟨mH,S⟩:=ab0 w2 (w.heap.size+1);rw [S] at H A;obtain ⟨_,_,_,_,_,_,W⟩:=gQ;have d:=W.grown A (by omega);obtain ⟨c0,c1,c2,c3,c4,c5⟩:=cu d;have g0:=d.fz 0;have u:=d.fz 1;have g2:=d.fz 2;have g3:=d.fz 3;have g4:=d.fz 4;have g5:=d.fz 5;obtain ⟨I,B⟩:=ac0 d;obtain ⟨ws,X⟩:=ae0 mH (w.heap.size+1+1);rw [X] at I B;have gF:=ag (H.grown B (by omega));have gG:=ag I;have eX:=ag (show ah w ws from (L.o.grown A L.o.size (by intro k C;cases C;omega)).grown B (aC L.o.size A.size) (by intro k C;cases C;omega));unfold bV at S X;clear H A I B d V W l;go_wp2;obtain ⟨p0,p1,p2,p3,p4,p5⟩:=cu gF.o;obtain ⟨r0,r1,r2,r3,r4,r5⟩:=cu gG.o;refine bodyPost_ret (v:=.tuple #[.agg #[.slice none 0 0,.slice none 0 0,.slice none 0 0,.int .u32 0,.slice none 0 0,.slice none 0 0],.agg #[.string ⟨#[]⟩,.int .u32 0,.int .i64 0,.int .u32 0,.int .u32 0,.int .i64 0],.int .i64 2]) ?_ rfl ⟨.agg #[.slice none 0 0,.slice none 0 0,.slice none 0 0,.int .u32 0,.slice none 0 0,.slice none 0 0], ?_, ?_,eX.o⟩
  ·simp [results,Tryz.results7,go_sem,p0,p1,p2,p3,p4,p5,r0,r1,r2,r3,r4,r5]
  ·rw [U.o];rfl
  ·rw [U.o];exact jO _ _
 have ay:decide ((4096:Int)<n)=false:=decide_eq_false g2;have al:=ag (show ¬(n<2∨4096<n) by rintro (h | h);exact u h;exact g2 h);clear u g2;obtain ⟨D,hD⟩:∃D:Fsd × Int,D=lg f s n:=⟨_,rfl⟩;have ad:=qtk x f s n w2 (HX.o.a fo.o.b) HW.o;rw [<-hD] at ad;have wD:=ag hD;have cz:=ag ad;clear ad hD;obtain ⟨gJ,J,K,fT,gy,gK⟩:=aV fo.o.f
 go_wp2_with fail
 refine cz.o.mono ?_
 rintro e w6 ⟨v6,rfl,lu,ao⟩;obtain ⟨T,e6,ap,BZ⟩:=lu.bx;subst e6;have si:=fo.o.a ao;obtain ⟨w7,oH⟩:=aj (w6.alloc (.cells T.cs 32));have bH:ah w6 w7:=by rw [<-oH];exact ae
 obtain ⟨p9,MZ⟩:=aj w6.heap.size;have Bd:=ag (show bf w7 p9 T by rw [<-oH,<-MZ];exact Bq.new _ _ _);have qR:=ag (si.a bH);have DC:=ag (ap.a bH);unfold FsV.cs at oH;unfold FsV.val;clear si bH ao lu ap BZ an ay gJ J K fT gy gK;by_cases u:¬D.2=0
 ·have U:=ag (show gq f s n=(fz,wz,D.2) by exact RJ fF.o al.o wD.o u)
  obtain ⟨e,he⟩:=ai D.2;have iB:=ag he;rw [<-he] at u ⊢;have ge:(e==0)=false:=by simpa using u
  clear he u;have Q:=qR.o.r;have gQ:=qR.o.q;have L:=ag qR.o.b;try clear gJ J K fT gy gK
  obtain ⟨⟨d0,e0⟩,⟨d1,e1⟩,⟨d2,e2⟩,⟨d3,e3⟩,⟨d4,e4⟩,⟨d5,e5⟩,l⟩:=Q.cells;have f0:=l 0;have f1:=l 1;have f2:=l 2;have f3:=l 3;have f4:=l 4;have f5:=l 5;obtain ⟨_,_,_,_,_,_,V⟩:=Q;obtain ⟨H,A⟩:=aa0 V;obtain ⟨mH,S⟩:=ab0 w7 (w.heap.size+1);rw [S] at H A;obtain ⟨_,_,_,_,_,_,W⟩:=gQ;have d:=W.grown A (by omega);obtain ⟨c0,c1,c2,c3,c4,c5⟩:=cu d;have g0:=d.fz 0;have u:=d.fz 1;have g2:=d.fz 2;have g3:=d.fz 3;have g4:=d.fz 4;have g5:=d.fz 5;obtain ⟨I,B⟩:=ac0 d;obtain ⟨ws,X⟩:=ae0 mH (w.heap.size+1+1);rw [X] at I B;have gF:=ag (H.grown B (by omega));have gG:=ag I;have eX:=ag (show ah w ws from (L.o.grown A L.o.size (by intro k C;cases C;omega)).grown B (aC L.o.size A.size) (by intro k C;cases C;omega));unfold bV at S X;clear H A I B d V W l;go_wp2;obtain ⟨p0,p1,p2,p3,p4,p5⟩:=cu gF.o;obtain ⟨r0,r1,r2,r3,r4,r5⟩:=cu gG.o;refine bodyPost_ret (v:=.tuple #[.agg #[.slice none 0 0,.slice none 0 0,.slice none 0 0,.int .u32 0,.slice none 0 0,.slice none 0 0],.agg #[.string ⟨#[]⟩,.int .u32 0,.int .i64 0,.int .u32 0,.int .u32 0,.int .i64 0],.int .i64 e]) ?_ rfl ⟨.agg #[.slice none 0 0,.slice none 0 0,.slice none 0 0,.int .u32 0,.slice none 0 0,.slice none 0 0], ?_, ?_,eX.o⟩
  ·simp [results,Tryz.results7,go_sem,p0,p1,p2,p3,p4,p5,r0,r1,r2,r3,r4,r5]
  ·rw [U.o,<-iB.o];rfl
  ·rw [U.o];exact jO _ _
 rw [Decidable.not_not] at u;rw [u];have qH:=ag u;have zB:=ag (qs8 wD.o u);clear u;obtain ⟨gJ,J,K,fT,gy,gK⟩:=aV Bd.o;go_wp2_with fail
 refine (qkl T D.1 s w7 DC.o zB.o.1).mono ?_
 rintro e w8 ⟨v8,rfl,zl,dD⟩;obtain ⟨a8,c8,rfl⟩:=zl.form;have xW:=ag (qR.o.a dD);have Ty:=ag (Bd.o.a dD);have aD:=ag (DC.o.a dD);have XP:=ag zl.rdL;clear oH MZ gJ J K fT gy gK dD zl;go_wp2_with fail
 refine (qnf a8 _ c8 (bE D.1 s) w8 XP.o).mono ?_
 rintro e w9 ⟨rfl,bI⟩;have nX:=ag (xW.o.a bI);have DX:=ag (Ty.o.a bI);have aE:=ag (aD.o.a bI);clear bI;rw [show tF (bE D.1 s)=l9 (bE D.1 s) by unfold tF;rw [if_neg (fun q=>q (Xf (uP _ _) IQ))]];obtain ⟨M,hM⟩:=ai (l9 (bE D.1 s));have aS:M<4294967296:=by rw [hM];exact qqw _
 have HM:=ag hM;rw [<-hM];clear hM;by_cases u:M=4294967295
 ·have U:=ag (show gq f s n=(fz,wz,9) by
   have h9:rY (bE D.1 s)=9:=by unfold rY;rw [if_pos (HM.o.symm.trans u)]
   have:=RN fF.o al.o wD.o qH.o (by rw [h9];decide)
   rw [this,h9])
  subst u;have Q:=nX.o.r;have gQ:=nX.o.q;have L:=ag nX.o.b;try clear gJ J K fT gy gK
  obtain ⟨⟨d0,e0⟩,⟨d1,e1⟩,⟨d2,e2⟩,⟨d3,e3⟩,⟨d4,e4⟩,⟨d5,e5⟩,l⟩:=Q.cells;have f0:=l 0;have f1:=l 1;have f2:=l 2;have f3:=l 3;have f4:=l 4;have f5:=l 5;obtain ⟨_,_,_,_,_,_,V⟩:=Q;obtain ⟨H,A⟩:=aa0 V;obtain ⟨mH,S⟩:=ab0 w9 (w.heap.size+1);rw [S] at H A;obtain ⟨_,_,_,_,_,_,W⟩:=gQ;have d:=W.grown A (by omega);obtain ⟨c0,c1,c2,c3,c4,c5⟩:=cu d;have g0:=d.fz 0;have u:=d.fz 1;have g2:=d.fz 2;have g3:=d.fz 3;have g4:=d.fz 4;have g5:=d.fz 5;obtain ⟨I,B⟩:=ac0 d;obtain ⟨ws,X⟩:=ae0 mH (w.heap.size+1+1);rw [X] at I B;have gF:=ag (H.grown B (by omega));have gG:=ag I;have eX:=ag (show ah w ws from (L.o.grown A L.o.size (by intro k C;cases C;omega)).grown B (aC L.o.size A.size) (by intro k C;cases C;omega));unfold bV at S X;clear H A I B d V W l;go_wp2;obtain ⟨p0,p1,p2,p3,p4,p5⟩:=cu gF.o;obtain ⟨r0,r1,r2,r3,r4,r5⟩:=cu gG.o;refine bodyPost_ret (v:=.tuple #[.agg #[.slice none 0 0,.slice none 0 0,.slice none 0 0,.int .u32 0,.slice none 0 0,.slice none 0 0],.agg #[.string ⟨#[]⟩,.int .u32 0,.int .i64 0,.int .u32 0,.int .u32 0,.int .i64 0],.int .i64 9]) ?_ rfl ⟨.agg #[.slice none 0 0,.slice none 0 0,.slice none 0 0,.int .u32 0,.slice none 0 0,.slice none 0 0], ?_, ?_,eX.o⟩
  ·simp [results,Tryz.results7,go_sem,p0,p1,p2,p3,p4,p5,r0,r1,r2,r3,r4,r5]
  ·rw [U.o];rfl
  ·rw [U.o];exact jO _ _
 have an:((M:Int)==4294967295)=false:=by simpa using (by omega:¬(M:Int)=4294967295)
 have ym:=ag (show rY (bE D.1 s)=0∧uQ (bE D.1 s)=M+1 by
  have h9:¬l9 (bE D.1 s)=4294967295:=by rw [<-HM.o];exact u
  refine ⟨?_, ?_⟩
  ·unfold rY;rw [if_neg h9]
  ·unfold uQ;rw [if_neg h9,<-HM.o])
 obtain ⟨g,hg⟩:=ai (M+1);have aq:g<4294967296:=by omega
 have a1:IntKind.u32.wrap ((M:Int)+1)=(g:Int):=by rw [IntKind.wrap_u32'];omega
 have qP:=ag (show uQ (bE D.1 s)=g by rw [ym.o.2,hg]);obtain ⟨P,hP⟩:∃P:Fsd × Int,P=jM D.1 s 0 (headW (uQ (bE D.1 s))):=⟨_,rfl⟩;have mh:=ag hP
 have pU:=ag (show ∀(Z:World) (a:au) (c:Nat),ah w9 Z->Rd Z (.slice a 128 c) (headW g)->Calls Tryz.prog 30 #[T.val,.string (bs s),.int .i64 0,.slice a 128 c] Z fun e w'=>∃v,e=.returned (.tuple #[v,.int .i64 P.2])∧aW w' Z.heap.size v P.1∧ah Z w' by
  intro Z a c O hr;have hh:=qtl T D.1 s 0 a 128 c (headW g) Z (aE.o.a O) zB.o.1 hr;rw [<-qP.o,<-hP] at hh;exact hh)
 clear u hP hg;go_wp2_with fail
 refine oK (α:=Nat × (au × Nat) × FsV) (F:=fun bx a=>((((((((((((a.put (some 57) (.agg #[.slice T.a1 T.n1 T.c1,.slice T.a2 T.n2 T.c2,.slice T.a3 T.n3 T.c3,.int .u32 T.g,.slice T.a4 T.n4 T.c4,.slice T.a5 T.n5 T.c5])).put (some 58) (.string (bs s))).put (some 59) (.int .u32 M)).put (some 60) (.int .u32 g)).put (some 61) (.slice bx.2.1.1 128 bx.2.1.2)).put (some 62) (.tuple #[bx.2.2.val,.int .i64 P.2])).put (some 56) (.tuple #[bx.2.2.val,.int .i64 P.2])).put (some 63) bx.2.2.val).put (some 64) (.int .i64 P.2)).put (some 15) (.pointer (some ⟨bx.1,0,none⟩))).put none undef).put (some 10) (.int .i64 P.2))) (R:=fun bx wz=>bf wz bx.1 bx.2.2∧w9.heap.size<=bx.1∧aW wz w.heap.size bx.2.2.val P.1∧ah w9 wz) ?Tz ?TA
 case Tz=>
  have hK:aL (fun Z=>ah w9 Z):=fun w1 w2 h hb=>h.trans (hb.mono h.size)
  have aF:(fun Z=>ah w9 Z) w9:=aB;refine gH hK (by kernel_rfl) aF ?_
  intro p;generalize w9.drew=wd at *;refine dm [0,1,2,3] (fuel:=8) (a':=?qn1a) (by kernel_rfl) (by kernel_rfl) (by kernel_rfl) ?qn1p p ?qn1n
  case qn1p=>
   iterate 4 (apply Yl.cons rfl (by kernel_rfl);focus (rintro Z O;obtain ⟨k0,k1,k2,k3,k4,k5⟩:=aV (DX.o.a O);clear O;go_simp<;>with_reducible rfl);try simp only [az])
   exact Yl.nil
  try simp only [az]
  refine WT (i:=4) (j:=9) (by kernel_rfl) ?_ ?_
  ·skip
   refine WV (R:=fun v Y=>∃a c,v=.slice a 128 c∧aX Y wd.heap.size (.slice a 128 c) (headW g)∧ah wd Y) rfl (by kernel_rfl) (by go_simp;try rfl) ((l6 g wd aq).mono fun e Y ⟨v,h1,h2,h3⟩=>by obtain ⟨a,c,e9⟩:=h2.form;rw [Rl] at e9;subst e9;exact ⟨_,h1,a,c,rfl,h2,h3⟩) ?_
   rintro v9 yD ⟨a7,c7,rfl,h7,m⟩;have z:=hK _ _ p m;refine ⟨z, ?_⟩;have JM:=h7;clear h7;clear p m;have p:=z;clear z;try simp only [az]
   refine WT (i:=5) (j:=9) (by kernel_rfl) ?_ ?_
   ·skip
    refine WV (R:=fun v Y=>∃y:FsV,v=.tuple #[y.val,.int .i64 P.2]∧aW Y w.heap.size y.val P.1∧ah yD Y) rfl (by kernel_rfl) (by go_simp;try rfl) ((pU.o yD a7 c7 p JM.rd).mono fun e Y ⟨v,h1,h2,h3⟩=>by obtain ⟨y,ey,_,h4⟩:=h2.bx;subst ey;exact ⟨_,h1,y,rfl,h4.mono (aC nX.o.b.size p.size),h3⟩) ?_
    rintro v9 DY ⟨t,rfl,h8,m⟩;have z:=hK _ _ p m;refine ⟨z, ?_⟩;have ar:=JM.a m;have av:=h8;clear h8;clear p m;have p:=z;clear z;try simp only [az]
    refine dm [6,7,8] (fuel:=3) (a':=?qn7a) (by kernel_rfl) (by kernel_rfl) (by kernel_rfl) ?qn7p p ?qn7n
    case qn7p=>
     iterate 3 (apply Yl.cons rfl (by kernel_rfl);focus (rintro Z O;obtain ⟨k0,k1,k2,k3,k4,k5⟩:=aV (DX.o.a O);clear O;go_simp<;>with_reducible rfl);try simp only [az])
     exact Yl.nil
    try simp only [az]
    obtain ⟨DZ,xq⟩:=aj (DY.alloc (.cells #[.slice none 0 0,.slice none 0 0,.slice none 0 0,.int .u32 0,.slice none 0 0,.slice none 0 0] 32));have m:ah DY DZ:=by rw [<-xq];exact ae
    have z:=hK _ _ p m;have aN:=ar.a m;have TB:=av.a m;obtain ⟨ul,q8⟩:=ai DY.heap.size;have Be:dE DZ ul:=by rw [<-xq,q8];exact dE.new DY
    have Bg:w9.heap.size<=ul:=by rw [q8];exact p.size
    refine uS (i:=9) (v:=.pointer (some ⟨ul,0,none⟩)) (w':=DZ) rfl (by kernel_rfl) (by kernel_rfl) (by rw [<-xq,q8];go_simp) z ?_
    clear p m xq q8;have p:=z;clear z;try simp only [az]
    obtain ⟨⟨d0,e0⟩,⟨d1,e1⟩,⟨d2,e2⟩,⟨d3,e3⟩,⟨d4,e4⟩,⟨d5,e5⟩,l⟩:=Be.cells;have f0:=l 0;have f1:=l 1;have f2:=l 2;have f3:=l 3;have f4:=l 4;have f5:=l 5;obtain ⟨E,N⟩:=Be.put t;obtain ⟨TC,mY⟩:=aj (aY DZ ul t);rw [mY] at E N;have z:=p.grown N p.size (by intro k C;cases C;exact Bg);have aa:=nX.o.b.trans (p.mono nX.o.b.size);have G:=TB.assign Be (w0:=w) aa (aC nX.o.b.size Bg);rw [mY] at G;have ac:=G.1;clear G aa;have TD:=E;unfold aY at mY;try dsimp only at mY
    clear N l;refine nL (i:=10) (w':=TC) rfl (by kernel_rfl) (by kernel_rfl) (by rw [<-mY];go_simp) z ?_
    clear p mY e0 e1 e2 e3 e4 e5 f0 f1 f2 f3 f4 f5;have p:=z;clear z;try simp only [az]
    refine dm [11] (fuel:=0) (a':=?qn13a) (by kernel_rfl) (by kernel_rfl) (by kernel_rfl) ?TF p ?qn13n
    case TF=>
     iterate 1 (apply Yl.cons rfl (by kernel_rfl);focus (rintro Z O;obtain ⟨k0,k1,k2,k3,k4,k5⟩:=aV (DX.o.a O);clear O;go_simp<;>with_reducible rfl);try simp only [az])
     exact Yl.nil
    try simp only [az]
    refine wpAnyH_done (by kernel_rfl) ?_ _
    refine NoPanic.normal ?_
    exact ⟨rfl,(ul,(a7,c7),t),by simp only [az],E,Bg,ac,p⟩
   ·skip
    obtain ⟨um,rf⟩:=aj (yD.alloc (.cells #[.slice none 0 0,.slice none 0 0,.slice none 0 0,.int .u32 0,.slice none 0 0,.slice none 0 0] 32));have m:ah yD um:=by rw [<-rf];exact ae
    have z:=hK _ _ p m;have Fj:=JM.a m;obtain ⟨uo,rq⟩:=ai yD.heap.size;have TG:dE um uo:=by rw [<-rf,rq];exact dE.new yD
    have Bh:w9.heap.size<=uo:=by rw [rq];exact p.size
    refine WU (v:=.pointer (some ⟨uo,0,none⟩)) (w':=um) rfl (by kernel_rfl) (by rw [<-rf,rq];go_simp) ⟨z, ?_⟩;clear p m rf rq;have p:=z;clear z;try simp only [az]
    refine nZ (i:=5) (R:=fun v Y=>∃y:FsV,v=.tuple #[y.val,.int .i64 P.2]∧aW Y w.heap.size y.val P.1∧ah um Y) rfl (by kernel_rfl) (by kernel_rfl) (by go_simp;try rfl) ((pU.o um a7 c7 p Fj.rd).mono fun e Y ⟨v,h1,h2,h3⟩=>by obtain ⟨y,ey,_,h4⟩:=h2.bx;subst ey;exact ⟨_,h1,y,rfl,h4.mono (aC nX.o.b.size p.size),h3⟩) ?_
    rintro v9 TH ⟨t,rfl,h8,m⟩;have z:=hK _ _ p m;refine ⟨z, ?_⟩;have aH:=Fj.a m;have Bi:=TG.a m;have TI:=h8;clear h8;clear p m;have p:=z;clear z;try simp only [az]
    refine dm [6,7,8] (fuel:=2) (a':=?qn21a) (by kernel_rfl) (by kernel_rfl) (by kernel_rfl) ?TJ p ?qn21n
    case TJ=>
     iterate 3 (apply Yl.cons rfl (by kernel_rfl);focus (rintro Z O;obtain ⟨k0,k1,k2,k3,k4,k5⟩:=aV (DX.o.a O);clear O;go_simp<;>with_reducible rfl);try simp only [az])
     exact Yl.nil
    try simp only [az]
    obtain ⟨⟨d0,e0⟩,⟨d1,e1⟩,⟨d2,e2⟩,⟨d3,e3⟩,⟨d4,e4⟩,⟨d5,e5⟩,l⟩:=Bi.cells;have f0:=l 0;have f1:=l 1;have f2:=l 2;have f3:=l 3;have f4:=l 4;have f5:=l 5;obtain ⟨E,N⟩:=Bi.put t;obtain ⟨TK,mZ⟩:=aj (aY TH uo t);rw [mZ] at E N;have z:=p.grown N p.size (by intro k C;cases C;exact Bh);have aa:=nX.o.b.trans (p.mono nX.o.b.size);have G:=TI.assign Bi (w0:=w) aa (aC nX.o.b.size Bh);rw [mZ] at G;have ac:=G.1;clear G aa;have TD:=E;unfold aY at mZ;try dsimp only at mZ
    clear N l;refine nL (i:=10) (w':=TK) rfl (by kernel_rfl) (by kernel_rfl) (by rw [<-mZ];go_simp) z ?_
    clear p mZ e0 e1 e2 e3 e4 e5 f0 f1 f2 f3 f4 f5;have p:=z;clear z;try simp only [az]
    refine dm [11] (fuel:=0) (a':=?qn23a) (by kernel_rfl) (by kernel_rfl) (by kernel_rfl) ?TM p ?qn23n
    case TM=>
     iterate 1 (apply Yl.cons rfl (by kernel_rfl);focus (rintro Z O;obtain ⟨k0,k1,k2,k3,k4,k5⟩:=aV (DX.o.a O);clear O;go_simp<;>with_reducible rfl);try simp only [az])
     exact Yl.nil
    try simp only [az]
    refine wpAnyH_done (by kernel_rfl) ?_ _
    refine NoPanic.normal ?_
    exact ⟨rfl,(uo,(a7,c7),t),by simp only [az],E,Bh,ac,p⟩
  ·skip
   obtain ⟨qj,ru⟩:=aj (wd.alloc (.cells #[.slice none 0 0,.slice none 0 0,.slice none 0 0,.int .u32 0,.slice none 0 0,.slice none 0 0] 32));have m:ah wd qj:=by rw [<-ru];exact ae
   have z:=hK _ _ p m;obtain ⟨uq,rA⟩:=ai wd.heap.size;have TN:dE qj uq:=by rw [<-ru,rA];exact dE.new wd
   have Bj:w9.heap.size<=uq:=by rw [rA];exact p.size
   refine WU (v:=.pointer (some ⟨uq,0,none⟩)) (w':=qj) rfl (by kernel_rfl) (by rw [<-ru,rA];go_simp) ⟨z, ?_⟩;clear p m ru rA;have p:=z;clear z;try simp only [az]
   refine nZ (i:=4) (R:=fun v Y=>∃a c,v=.slice a 128 c∧aX Y qj.heap.size (.slice a 128 c) (headW g)∧ah qj Y) rfl (by kernel_rfl) (by kernel_rfl) (by go_simp;try rfl) ((l6 g qj aq).mono fun e Y ⟨v,h1,h2,h3⟩=>by obtain ⟨a,c,e9⟩:=h2.form;rw [Rl] at e9;subst e9;exact ⟨_,h1,a,c,rfl,h2,h3⟩) ?_
   rintro v9 Fp ⟨a7,c7,rfl,h7,m⟩;have z:=hK _ _ p m;refine ⟨z, ?_⟩;have TP:=TN.a m;have Fq:=h7;clear h7;clear p m;have p:=z;clear z;try simp only [az]
   refine nZ (i:=5) (R:=fun v Y=>∃y:FsV,v=.tuple #[y.val,.int .i64 P.2]∧aW Y w.heap.size y.val P.1∧ah Fp Y) rfl (by kernel_rfl) (by kernel_rfl) (by go_simp;try rfl) ((pU.o Fp a7 c7 p Fq.rd).mono fun e Y ⟨v,h1,h2,h3⟩=>by obtain ⟨y,ey,_,h4⟩:=h2.bx;subst ey;exact ⟨_,h1,y,rfl,h4.mono (aC nX.o.b.size p.size),h3⟩) ?_
   rintro v9 TQ ⟨t,rfl,h8,m⟩;have z:=hK _ _ p m;refine ⟨z, ?_⟩;have Bl:=TP.a m;have aK:=Fq.a m;have TR:=h8;clear h8;clear p m;have p:=z;clear z;try simp only [az]
   refine dm [6,7,8] (fuel:=2) (a':=?qn33a) (by kernel_rfl) (by kernel_rfl) (by kernel_rfl) ?TS p ?qn33n
   case TS=>
    iterate 3 (apply Yl.cons rfl (by kernel_rfl);focus (rintro Z O;obtain ⟨k0,k1,k2,k3,k4,k5⟩:=aV (DX.o.a O);clear O;go_simp<;>with_reducible rfl);try simp only [az])
    exact Yl.nil
   try simp only [az]
   obtain ⟨⟨d0,e0⟩,⟨d1,e1⟩,⟨d2,e2⟩,⟨d3,e3⟩,⟨d4,e4⟩,⟨d5,e5⟩,l⟩:=Bl.cells;have f0:=l 0;have f1:=l 1;have f2:=l 2;have f3:=l 3;have f4:=l 4;have f5:=l 5;obtain ⟨E,N⟩:=Bl.put t;obtain ⟨TT,ng⟩:=aj (aY TQ uq t);rw [ng] at E N;have z:=p.grown N p.size (by intro k C;cases C;exact Bj);have aa:=nX.o.b.trans (p.mono nX.o.b.size);have G:=TR.assign Bl (w0:=w) aa (aC nX.o.b.size Bj);rw [ng] at G;have ac:=G.1;clear G aa;have TD:=E;unfold aY at ng;try dsimp only at ng
   clear N l;refine nL (i:=10) (w':=TT) rfl (by kernel_rfl) (by kernel_rfl) (by rw [<-ng];go_simp) z ?_
   clear p ng e0 e1 e2 e3 e4 e5 f0 f1 f2 f3 f4 f5;have p:=z;clear z;try simp only [az]
   refine dm [11] (fuel:=0) (a':=?qn35a) (by kernel_rfl) (by kernel_rfl) (by kernel_rfl) ?TU p ?qn35n
   case TU=>
    iterate 1 (apply Yl.cons rfl (by kernel_rfl);focus (rintro Z O;obtain ⟨k0,k1,k2,k3,k4,k5⟩:=aV (DX.o.a O);clear O;go_simp<;>with_reducible rfl);try simp only [az])
    exact Yl.nil
   try simp only [az]
   refine wpAnyH_done (by kernel_rfl) ?_ _
   refine NoPanic.normal ?_
   exact ⟨rfl,(uq,(a7,c7),t),by simp only [az],E,Bj,ac,p⟩
 case TA=>
  rintro ⟨q9,ab,t⟩ wa ⟨E,aw,ac,ax⟩;simp only [az];have qg:=ag (nX.o.a ax);have TV:=ag (show bf wa q9 t from E);have AP:=ag ac;have HL:=ag (show w.heap.size+1+1<q9 by
   have:=nX.o.q
   obtain ⟨_,_,_,_,_,_,h9⟩:=this;have:=h9.lt
   exact Nat.lt_of_lt_of_le this aw)
  clear E aw ac ax;by_cases u:¬P.2=0
  ·have U:=ag (show gq f s n=(fz,wz,P.2) by exact RP fF.o al.o wD.o qH.o ym.o.1 mh.o u)
   obtain ⟨e,he⟩:=ai P.2;have iB:=ag he;rw [<-he] at u ⊢;have ge:(e==0)=false:=by simpa using u
   clear he u;have Q:=qg.o.r;have gQ:=qg.o.q;have L:=ag qg.o.b;try clear gJ J K fT gy gK
   obtain ⟨⟨d0,e0⟩,⟨d1,e1⟩,⟨d2,e2⟩,⟨d3,e3⟩,⟨d4,e4⟩,⟨d5,e5⟩,l⟩:=Q.cells;have f0:=l 0;have f1:=l 1;have f2:=l 2;have f3:=l 3;have f4:=l 4;have f5:=l 5;obtain ⟨_,_,_,_,_,_,V⟩:=Q;obtain ⟨H,A⟩:=aa0 V;obtain ⟨mH,S⟩:=ab0 wa (w.heap.size+1);rw [S] at H A;obtain ⟨_,_,_,_,_,_,W⟩:=gQ;have d:=W.grown A (by omega);obtain ⟨c0,c1,c2,c3,c4,c5⟩:=cu d;have g0:=d.fz 0;have u:=d.fz 1;have g2:=d.fz 2;have g3:=d.fz 3;have g4:=d.fz 4;have g5:=d.fz 5;obtain ⟨I,B⟩:=ac0 d;obtain ⟨ws,X⟩:=ae0 mH (w.heap.size+1+1);rw [X] at I B;have gF:=ag (H.grown B (by omega));have gG:=ag I;have eX:=ag (show ah w ws from (L.o.grown A L.o.size (by intro k C;cases C;omega)).grown B (aC L.o.size A.size) (by intro k C;cases C;omega));unfold bV at S X;clear H A I B d V W l;go_wp2;obtain ⟨p0,p1,p2,p3,p4,p5⟩:=cu gF.o;obtain ⟨r0,r1,r2,r3,r4,r5⟩:=cu gG.o;refine bodyPost_ret (v:=.tuple #[.agg #[.slice none 0 0,.slice none 0 0,.slice none 0 0,.int .u32 0,.slice none 0 0,.slice none 0 0],.agg #[.string ⟨#[]⟩,.int .u32 0,.int .i64 0,.int .u32 0,.int .u32 0,.int .i64 0],.int .i64 e]) ?_ rfl ⟨.agg #[.slice none 0 0,.slice none 0 0,.slice none 0 0,.int .u32 0,.slice none 0 0,.slice none 0 0], ?_, ?_,eX.o⟩
   ·simp [results,Tryz.results7,go_sem,p0,p1,p2,p3,p4,p5,r0,r1,r2,r3,r4,r5]
   ·rw [U.o,<-iB.o];rfl
   ·rw [U.o];exact jO _ _
  rw [Decidable.not_not] at u;rw [u];have U:=ag (show gq f s n=(P.1,(s,g,0,0,0,0),0) by rw [<-qP.o];exact RQ fF.o al.o wD.o qH.o ym.o.1 mh.o u);clear u;obtain ⟨gJ,J,K,fT,gy,gK⟩:=aV TV.o;have Q:=qg.o.r;have gQ:=qg.o.q;have G:=AP.o.assign Q (w0:=w) qg.o.b (by omega);obtain ⟨⟨d0,e0⟩,⟨d1,e1⟩,⟨d2,e2⟩,⟨d3,e3⟩,⟨d4,e4⟩,⟨d5,e5⟩,l⟩:=Q.cells;have f0:=l 0;have f1:=l 1;have f2:=l 2;have f3:=l 3;have f4:=l 4;have f5:=l 5;obtain ⟨_,_,_,_,_,_,V⟩:=Q;obtain ⟨H,A⟩:=bK V (.slice t.a1 t.n1 t.c1) (.slice t.a2 t.n2 t.c2) (.slice t.a3 t.n3 t.c3) (.int .u32 t.g) (.slice t.a4 t.n4 t.c4) (.slice t.a5 t.n5 t.c5);obtain ⟨mH,S⟩:=aj (bV wa (w.heap.size+1) (.slice t.a1 t.n1 t.c1) (.slice t.a2 t.n2 t.c2) (.slice t.a3 t.n3 t.c3) (.int .u32 t.g) (.slice t.a4 t.n4 t.c4) (.slice t.a5 t.n5 t.c5));rw [S] at H A;obtain ⟨_,_,_,_,_,_,W⟩:=gQ;have d:=W.grown A (by omega);obtain ⟨c0,c1,c2,c3,c4,c5⟩:=cu d;have g0:=d.fz 0;have u:=d.fz 1;have g2:=d.fz 2;have g3:=d.fz 3;have g4:=d.fz 4;have g5:=d.fz 5;obtain ⟨I,B⟩:=bK d (.string (bs s)) (.int .u32 g) (.int .i64 0) (.int .u32 0) (.int .u32 0) (.int .i64 0);obtain ⟨ws,X⟩:=aj (bV mH (w.heap.size+1+1) (.string (bs s)) (.int .u32 g) (.int .i64 0) (.int .u32 0) (.int .u32 0) (.int .i64 0));rw [X] at I B;have gF:=ag (H.grown B (by omega));have gG:=ag I;have eX:=ag (show ah w ws from (qg.o.b.grown A qg.o.b.size (by intro k C;cases C;omega)).grown B (aC qg.o.b.size A.size) (by intro k C;cases C;omega));unfold bV at S X;have oU:=ag (show aW ws w.heap.size t.val P.1 by
   have h1:=G.1;have e9:aY wa (w.heap.size+1) t=mH:=S;rw [e9] at h1;exact h1.keptS B d (by decide) (by decide) (by decide) (by decide) (by decide))
  clear G;clear H A I B d V W l;go_wp2;obtain ⟨p0,p1,p2,p3,p4,p5⟩:=cu gF.o;obtain ⟨r0,r1,r2,r3,r4,r5⟩:=cu gG.o;refine bodyPost_ret (v:=.tuple #[t.val,.agg #[.string (bs s),.int .u32 g,.int .i64 0,.int .u32 0,.int .u32 0,.int .i64 0],.int .i64 0]) ?_ rfl ⟨t.val, ?_, ?_,eX.o⟩
  ·simp [results,Tryz.results7,go_sem,p0,p1,p2,p3,p4,p5,r0,r1,r2,r3,r4,r5]
  ·rw [U.o];rfl
  ·rw [U.o];exact oU.o
theorem L6 {f:Fsd} {s:ak} {i:Int} {b:ak} (h:(jM f s i b).2=0):
  ∃j:Nat,i=j∧j<(bE f s).length∧bE (jM f s i b).1 s=(bE f s).set j b∧bL (jM f s i b).1∧(jM f s i b).1.2=f.2∧dA f s=0∧dA (jM f s i b).1 s=0∧bq (jM f s i b).1.1=bq f.1:=by
 obtain ⟨c,t,e,G,z,d⟩:=Rc h;obtain ⟨A,_,_,m,u,_⟩:=qxc h;rw [e] at A u ⊢;obtain ⟨_,j,rfl,H,I⟩:=Re c G;obtain ⟨v,B,_,_⟩:=ny c;obtain ⟨J,K,_⟩:=NB v d z;have a:aU (t,f.2) s=aU f s:=(Ra (f:=f) (g:=(t,f.2)) rfl s).1;have o:=MR u;have w:=MR m;obtain ⟨_,L,C⟩:=IL m;have x:(aU f s).Nodup:=by rw [(yh c C).2.2.2.1];exact qo5 c C
 refine ⟨j,rfl,by rw [w];exact H, ?_,A,rfl,m,u,K⟩;apply List.ext_getElem
 ·rw [List.length_set,o,w,a]
 ·intro k D O
  have p:k<(aU f s).length:=by rw [<-a,<-o];exact D
  have y:k<(bE f s).length:=by rw [w];exact p
  rw [qqu u D (by rw [a];exact p),List.getElem_set];have M:(aU (t,f.2) s)[k]'(by rw [a];exact p)=(aU f s)[k]:=by simp only [a]
  rw [M];have P:=AB m _ (List.getElem_mem p);obtain ⟨n,E⟩:∃n:Nat,(aU f s)[k]=n:=⟨((aU f s)[k]).toNat,by omega⟩
  have q:((aU f s)[k]).toNat=n:=by omega
  have r:n<bq f.1:=by omega
  have F:=qlw v d z r;rw [IJ J (by omega),IJ v r,I] at F;rw [q];show di t n=_
  rw [F];by_cases l:j=k
  ·subst l
   rw [if_pos E.symm,if_pos rfl]
  ·rw [if_neg l,if_neg,qqu m y p,q]
   intro N;exact l ((List.getElem_inj x).1 (N.symm.trans E.symm))
theorem qxr:∀(l m:List (ak)),(∀b∈l,b.length=128)->(∀b∈m,b.length=128)->l.flatten=m.flatten->l=m
 | [],[],_,_,_=>rfl
 | [],c::m,_,hm,h=>by
  have:=congrArg List.length h
  have a:=hm c (List.mem_cons_self ..);simp [a] at this;omega
 | b::l,[],hl,_,h=>by
  have:=congrArg List.length h
  have a:=hl b (List.mem_cons_self ..);simp [a] at this
 | b::l,c::m,hl,hm,h=>by
  have e:=hl b (List.mem_cons_self ..);have a:=hm c (List.mem_cons_self ..);rw [List.flatten_cons,List.flatten_cons] at h;obtain ⟨f,g⟩:=List.append_inj h (by rw [e,a]);rw [f,qxr l m (fun x d=>hl x (List.mem_cons_of_mem _ d)) (fun x d=>hm x (List.mem_cons_of_mem _ d)) g]
theorem qtm {f:Fsd} {s:ak} (h:dA f s=0):vZ f s=(bE f s).flatten:=by
 unfold vZ;rw [if_neg (fun e=>e h),XC h,List.flatMap]
theorem ko {f g:Fsd} {s:ak} (a:dA f s=0) (b:dA g s=0) (h:vZ f s=vZ g s):bE g s=bE f s:=by
 rw [qtm a,qtm b] at h;exact (qxr _ _ IQ IQ h).symm
theorem qadr {f g:Fsd} {s:ak} (h:wh f g []) (d:dA f s=0):dA g s=0∧bE g s=bE f s:=by
 obtain ⟨a,l,b⟩:=IL d;obtain ⟨e,c,i⟩:=h (s,l) b (DI a b);exact ⟨c,ko e c i⟩
theorem qads {l:List (ak)} {j:Nat} {b:ak} (h:1<=j):(l.set j b).headD []=l.headD []:=by
 cases l with
 | nil=>rfl
 | cons x t=>
  obtain ⟨i,rfl⟩:∃i,j=i+1:=⟨j - 1,by omega⟩;rfl
theorem qtn {f:Fsd} {s:ak} {eU:Nat} {l:List (ak)} (b:dA f s=0) (c:1<=eU):∀k,(j6 f s eU l k).2=0->dA (j6 f s eU l k).1 s=0∧(bE (j6 f s eU l k).1 s).length=(bE f s).length∧(bE (j6 f s eU l k).1 s).headD []=(bE f s).headD []
 | 0,_=>⟨b,rfl,rfl⟩
 | k+1,h=>by
  rw [j6] at h ⊢;by_cases a:(j6 f s eU l k).2=0
  ·rw [if_neg (fun e=>e a)] at h ⊢
   obtain ⟨i,d,g⟩:=qtn b c k a;obtain ⟨j,m,_,e,_,_,_,z,_⟩:=L6 h;refine ⟨z, ?_, ?_⟩
   ·rw [e,List.length_set];exact d
   ·rw [e,qads (by omega)];exact g
  ·rw [if_pos a] at h;exact absurd h a
theorem qadt {f g:Fsd} {s:ak} (h:gZ f s=0) (b:dA g s=0) (c:(bE g s).length=(bE f s).length) (d:(bE g s).headD []=(bE f s).headD []):gZ g s=0:=by
 unfold gZ at h ⊢;by_cases a:dA f s=0
 ·rw [if_neg (fun e=>e a)] at h
  rw [if_neg (fun e=>e b),c,d];exact h
 ·rw [if_pos a] at h;exact absurd h a
theorem qag2 {f:Fsd} {W:Wl} {l:List (ak)} (h:gZ f W.1=0) {P:Fsd × Int} (a:P=uO f W.1 (1+(W.2.2.2.2.2:Int)) l) (c:P.2=0) (d:(jc P.1).2=0):gZ (jc P.1).1 W.1=0:=by
 have e:(1+(W.2.2.2.2.2:Int))=((1+W.2.2.2.2.2:Nat):Int):=by omega
 rw [e] at a;subst a;obtain ⟨g,i,j⟩:=qtn (l:=l) (MS h).1 (by omega) l.length c;obtain ⟨_,_,_,_,k,_⟩:=qxd d;obtain ⟨m,b⟩:=qadr k g;exact qadt h m (by rw [b];exact i) (by rw [b];exact j)
end Go.Proofs.YthpammbgcidloaaGreat
