/-
  What the document's Store of layer 17 does.
-/
import Derived.Test.YtmeaiocohalphaaGreatDoorRm14
set_option maxHeartbeats 16000000
set_option maxRecDepth 100000
namespace Go.Proofs.YtmeaiocohalphaaGreatDoor
open Go.RowKit
set_option linter.all false
variable {xs:az}{k:Nat}
theorem qtv{f:aR}(h:¬eF f=0):eF f=8:=by
 unfold eF at *;split
 ·rename_i h0;rw[if_pos h0]at h;exact absurd rfl h
 rfl
def ui (xs:az) (k:Nat):az:=xs.take k++List.replicate (128-k) 0
theorem Nf(h:k<xs.length)(a:k<128):(ui xs k).set k (xs[k])=ui xs (k+1):=by
 unfold ui;have e:128-k=(128-(k+1))+1:=by omega
 rw[e,List.replicate_succ,List.set_append_right _ _ (by rw[Xa4];omega)];rw[Xa4,show k-min k xs.length=0 by omega,List.set_cons_zero,Xa2 h,Xa8];rfl
theorem qaib(h:k=128∧k<=xs.length∨k=xs.length∧k<=128):ui xs k=Ap xs:=by
 unfold ui Ap;rcases h with⟨rfl,h⟩|⟨rfl,h⟩
 ·rw[show 128-xs.length=0 by omega]
 rw[Xa1 aL,Xa1 h]
theorem qaeq(h:xs.length<=128):ui xs xs.length=ll xs:=by
 rw[qaib (.inr ⟨rfl,h⟩)];unfold Ap ll;rw[Xa1 h]
theorem qtw(x:aU)(f:aR)(s:az)(ab:aA)(B cb:Nat)(b:az)(w:World)(h:iJ w x f)(hw:jq f)(hb:Rd w (.slice ab B cb) b)(hn:B=b.length)(Dt:b.length<=1000000):
  Calls Tryz.prog 21 #[x.val,.string (bs s),.slice ab B cb] w fun e w'=>∃v,e=.returned (.tuple #[v,.int .i64 (mE f s b).2])∧bH w' w.heap.size v (mE f s b).1∧ah w w':=by
 have HX:=ag h;have HW:=ag hw;have fu:=ag hb;have HN:=ag hn;have QU:=ag (show B<=1000000 by omega);have q0:ah w (w.alloc (.cells x.cs 33)):=ae;have aJ:(w.alloc (.cells x.cs 33)).heap.size=w.heap.size+1:=by simp
 obtain⟨w1,ew⟩:=au ((w.alloc (.cells x.cs 33)).alloc (.cells #[.slice none 0 0,.slice none 0 0,.slice none 0 0,.int .u32 0,.slice none 0 0,.slice none 0 0] 33));have q1:Below (w.alloc (.cells x.cs 33)).heap.size (w.alloc (.cells x.cs 33)) w1:=by rw[<-ew];exact ae
 have fD:=ag (show bB w1 w.heap.size x from(Bq.new w 33 x.cs).a q1);have qE:=ag (show dW w1 (w.heap.size+1)by rw[<-ew,<-aJ];exact dW.new _);have bg:=ag (show ah w w1 from q0.trans (q1.mono (by omega)));obtain⟨W,X,Y,Z,k4,k5⟩:=bq fD.o;clear h hw hb hn Dt q0 q1 aJ;unfold aU.val;unfold aU.cs at ew;go_enter Tryz.func21,Tryz.ntmps21;go_wp2_with fail
 try rw[ew]
 refine(Xv x f w1 (HX.o.a bg.o) HW.o).mono ?_
 rintro e U⟨rfl,an⟩;have jZ:=ag (fD.o.a an);have j6:=ag (qE.o.a an);have aY:=ag (bg.o.trans (an.mono bg.o.size));clear W X Y Z k4 k5 ew an;obtain⟨E,hE⟩:=ak (eF f);rw[<-hE];have mM:=ag hE;clear hE;by_cases C:E=0
 case neg=>
  have HE:=ag (VQ (f:=f) (s:=s) (b:=b) (by rw[<-mM.o];exact C));have bc:=ag (qtv (f:=f) (by rw[<-mM.o];exact C));have g2:(E !=0)=true:=Xe1 C;have g3:(E==0)=false:=Xe2 C;obtain⟨w9,d0,d1,d2,d3,d4,d5,aM,r,e0,e1,t,H,I,J,K,L,M,N,O,P,z0,z1,z2,z3,z4,z5⟩:=oW j6 aY (show w.heap.size<=w.heap.size+1 by omega);go_wp2;try rw[aM]
  clear aM e0 e1 t H I J K L M N O P;try simp only[Exit.inBlock,Exit.then]
  refine bodyPost_ret ?_ rfl (QG HE bc.o r)
  simp[results,Tryz.results21,go_sem, *]
 subst C;by_cases g4:16384<B
 ·have g5:(16384:Int)<B:=by omega
  have HE:=ag (VR (f:=f) (s:=s) (b:=b) mM.o.symm (by rw[<-HN.o];exact g4));obtain⟨w9,d0,d1,d2,d3,d4,d5,aM,r,e0,e1,t,H,I,J,K,L,M,N,O,P,z0,z1,z2,z3,z4,z5⟩:=oW j6 aY (show w.heap.size<=w.heap.size+1 by omega);go_wp2;try rw[aM]
  clear aM e0 e1 t H I J K L M N O P;try simp only[Exit.inBlock,Exit.then]
  refine bodyPost_ret ?_ rfl (zR HE r)
  simp[results,Tryz.results21,go_sem, *]
 have g5:decide ((16384:Int)<B)=false:=aC (by omega);have g6:decide (16384<B)=false:=Xd7 g4;have zO:=ag (show b.length<=16384 by have:=HN.o;omega);obtain⟨m,hm⟩:=ak (dX b.length);have HM:=ag hm;have aK:m<=128:=by rw[hm];exact qve zO.o
 have ap:=ag (show dX B=m by rw[hm,HN.o]);obtain⟨⟨D0,V⟩,h0⟩:∃D:aR×Int,D=fe f s b 0:=⟨_,rfl⟩;have aa:=ag h0
 have aq:=ag (show ∀A:World,ah U A->Calls Tryz.prog 56 #[x.val,.string (bs s),.int .i64 (m:Nat)] A fun e w'=>∃v,e=.returned v∧∃y:aU,v=.tuple #[y.val,.int .i64 V]∧bH w' A.heap.size y.val D0∧ah A w' by
  intro A u;have hh:=qtu x f s (m:Int) A ((HX.o.a aY.o).a u) HW.o;rw[hm,<-qta f s b,<-hm,<-h0]at hh;refine hh.mono fun e w' ⟨v,h1,h2,h3⟩=>?_
  obtain⟨y,ey, -,h4⟩:=h2.bx;subst ey;exact⟨_,h1,y,rfl,h4,h3⟩)
 have kv:=ag (show w.heap.size+2<=U.heap.size by have:=j6.o.lt;omega);have bd:=ag aK;clear hm h0 aK g4;go_wp2_with fail
 clear g5 g6;refine EB (α:=Nat×aU) (F:=fun bx a=>((((((((((((a.put (some 24) (.agg #[.slice x.a1 x.n1 x.c1,.slice x.a2 x.n2 x.c2,.slice x.a3 x.n3 x.c3,.int .u32 x.g,.slice x.a4 x.n4 x.c4,.slice x.a5 x.n5 x.c5])).put (some 25) (.string (bs s))).put (some 26) (.slice ab B cb)).put (some 27) (.int .i64 (B:Nat))).put (some 28) (.int .i64 (m:Nat))).put (some 29) (.tuple #[bx.2.val,.int .i64 V])).put (some 23) (.tuple #[bx.2.val,.int .i64 V])).put (some 30) bx.2.val).put (some 31) (.int .i64 V)).put (some 8) (.pointer (some ⟨bx.1,0,none⟩))).put none undef).put (some 9) (.int .i64 V))) (R:=fun bx wz=>ah U wz∧bB wz bx.1 bx.2∧bH wz w.heap.size bx.2.val D0∧U.heap.size<=bx.1) ?DK ?DL
 case DK=>
  have hK:aN (fun A=>ah U A):=fun w1 U h hb=>h.trans (hb.mono h.size)
  have ac:(fun A=>ah U A) U:=aF;refine iH hK (by kernel_rfl) ac ?_
  intro c;generalize U.drew=wd at *;refine rU 0 ?qz1v rfl ?NW c ?qz1r
  case NW=>(rintro A u;obtain⟨W,X,Y,Z,k4,k5⟩:=bq (jZ.o.a u);go_simp<;>rfl)
  try simp only[aB]
  refine rU 1 ?qz2v rfl ?NY c ?qz2r
  case NY=>(rintro A u;obtain⟨W,X,Y,Z,k4,k5⟩:=bq (jZ.o.a u);go_simp<;>rfl)
  try simp only[aB]
  refine rU 2 ?qz3v rfl ?NZ c ?qz3r
  case NZ=>(rintro A u;obtain⟨W,X,Y,Z,k4,k5⟩:=bq (jZ.o.a u);go_simp<;>rfl)
  try simp only[aB]
  refine rU 3 ?qz4v rfl ?qz4y c ?qz4r
  case qz4y=>(rintro A u;obtain⟨W,X,Y,Z,k4,k5⟩:=bq (jZ.o.a u);go_simp<;>rfl)
  try simp only[aB]
  refine Ih (i:=4) (j:=9) (by kernel_rfl) ?_ ?_
  ·skip
   refine Ij (R:=fun v T=>v=.int .i64 (m:Nat)∧ah wd T) rfl (by kernel_rfl) (by go_simp;try rfl) ((BD B wd QU.o).mono fun e T ⟨h1,h2⟩=>by
  rw[ap.o]at h1;subst h2;exact⟨_,h1,rfl,aF⟩) ?_
   rintro v9 yY⟨rfl,d⟩;have l:=hK _ _ c d;refine⟨l, ?_⟩;clear c d;have c:=l;clear l;try simp only[aB]
   refine Ih (i:=5) (j:=9) (by kernel_rfl) ?_ ?_
   ·skip
    refine Ij (R:=fun v T=>∃y:aU,v=.tuple #[y.val,.int .i64 V]∧bH T yY.heap.size y.val D0∧ah yY T) rfl (by kernel_rfl) (by go_simp;try rfl) (aq.o yY c) ?_
    rintro v9 uj⟨y7,rfl,h7,d⟩;have l:=hK _ _ c d;refine⟨l, ?_⟩;have N7:=(h7.mono (aG aY.o.size c.size));clear h7;clear c d;have c:=l;clear l;try simp only[aB]
    refine rP [6,7,8] 3 ?jS ?dP c ?jT
    case dP=>
     iterate 3 (apply Yl.cons rfl (by kernel_rfl);focus (rintro A u;obtain⟨W,X,Y,Z,k4,k5⟩:=bq (jZ.o.a u);go_simp<;>rfl);try simp only[aB])
     exact Yl.nil
    obtain⟨zZ,uk⟩:=au (uj.alloc (.cells #[.slice none 0 0,.slice none 0 0,.slice none 0 0,.int .u32 0,.slice none 0 0,.slice none 0 0] 33));have d:ah uj zZ:=by rw[<-uk];exact ae
    have l:=hK _ _ c d;have Yk:=N7.a d;obtain⟨vX,ul⟩:=ak uj.heap.size;have z8:dW zZ vX:=by rw[<-uk,ul];exact dW.new uj
    have Ji:U.heap.size<=vX:=by rw[ul];exact c.size
    refine jT (i:=9) (v:=.pointer (some ⟨vX,0,none⟩)) (w':=zZ) rfl (by kernel_rfl) (by kernel_rfl) (by rw[<-uk,ul];go_simp) l ?_
    clear c d uk ul;have c:=l;clear l;try simp only[aB]
    obtain⟨⟨d0,e0⟩,⟨d1,e1⟩,⟨d2,t⟩,⟨d3,H⟩,⟨d4,I⟩,⟨d5,J⟩,n⟩:=z8.cells;have K:=n 0;have L:=n 1;have M:=n 2;have N:=n 3;have O:=n 4;have P:=n 5;obtain⟨z,q⟩:=z8.put y7;obtain⟨Ym,qg⟩:=au (bQ zZ vX y7);rw[qg]at z q;have l:=c.grown q c.size (by intro k hk;cases hk;exact Ji);obtain⟨_,_,_,_,_,_,Q⟩:=z8;have ad:=Yk.keptS q Q (by decide) (by decide) (by decide) (by decide) (by decide);clear Q;have DN:=z;unfold bQ at qg;try dsimp only at qg
    clear q n;refine Em (i:=10) (w':=Ym) rfl (by kernel_rfl) (by kernel_rfl) (by rw[<-qg];go_simp) l ?_
    clear c qg e0 e1 t H I J K L M N O P;have c:=l;clear l;try simp only[aB]
    refine rU 11 ?qz15v rfl ?Yn c ?qz15r
    case Yn=>(rintro A u;obtain⟨W,X,Y,Z,k4,k5⟩:=bq (jZ.o.a u);go_simp<;>rfl)
    try simp only[aB]
    refine rD ?_
    exact⟨rfl,(vX,y7),by simp only[aB],c,DN,ad,Ji⟩
   obtain⟨oF,jC⟩:=au (yY.alloc (.cells #[.slice none 0 0,.slice none 0 0,.slice none 0 0,.int .u32 0,.slice none 0 0,.slice none 0 0] 33));have d:ah yY oF:=by rw[<-jC];exact ae
   have l:=hK _ _ c d;obtain⟨vY,um⟩:=ak yY.heap.size;have Yo:dW oF vY:=by rw[<-jC,um];exact dW.new yY
   have Jj:U.heap.size<=vY:=by rw[um];exact c.size
   refine Ii (v:=.pointer (some ⟨vY,0,none⟩)) (w':=oF) rfl (by kernel_rfl) (by rw[<-jC,um];go_simp) ⟨l, ?_⟩;clear c d jC um;have c:=l;clear l;try simp only[aB]
   refine pR (i:=5) (R:=fun v T=>∃y:aU,v=.tuple #[y.val,.int .i64 V]∧bH T oF.heap.size y.val D0∧ah oF T) rfl (by kernel_rfl) (by kernel_rfl) (by go_simp;try rfl) (aq.o oF c) ?_
   rintro v9 oG⟨y7,rfl,h7,d⟩;have l:=hK _ _ c d;refine⟨l, ?_⟩;have si:=Yo.a d;have DR:=(h7.mono (aG aY.o.size c.size));clear h7;clear c d;have c:=l;clear l;try simp only[aB]
   refine rP [6,7,8] 2 ?oI ?iA c ?oJ
   case iA=>
    iterate 3 (apply Yl.cons rfl (by kernel_rfl);focus (rintro A u;obtain⟨W,X,Y,Z,k4,k5⟩:=bq (jZ.o.a u);go_simp<;>rfl);try simp only[aB])
    exact Yl.nil
   obtain⟨⟨d0,e0⟩,⟨d1,e1⟩,⟨d2,t⟩,⟨d3,H⟩,⟨d4,I⟩,⟨d5,J⟩,n⟩:=si.cells;have K:=n 0;have L:=n 1;have M:=n 2;have N:=n 3;have O:=n 4;have P:=n 5;obtain⟨z,q⟩:=si.put y7;obtain⟨Yp,qh⟩:=au (bQ oG vY y7);rw[qh]at z q;have l:=c.grown q c.size (by intro k hk;cases hk;exact Jj);obtain⟨_,_,_,_,_,_,Q⟩:=si;have ad:=DR.keptS q Q (by decide) (by decide) (by decide) (by decide) (by decide);clear Q;have DN:=z;unfold bQ at qh;try dsimp only at qh
   clear q n;refine Em (i:=10) (w':=Yp) rfl (by kernel_rfl) (by kernel_rfl) (by rw[<-qh];go_simp) l ?_
   clear c qh e0 e1 t H I J K L M N O P;have c:=l;clear l;try simp only[aB]
   refine rU 11 ?qz25v rfl ?Yq c ?qz25r
   case Yq=>(rintro A u;obtain⟨W,X,Y,Z,k4,k5⟩:=bq (jZ.o.a u);go_simp<;>rfl)
   try simp only[aB]
   refine rD ?_
   exact⟨rfl,(vY,y7),by simp only[aB],c,DN,ad,Jj⟩
  ·skip
   obtain⟨vZ,uo⟩:=au (wd.alloc (.cells #[.slice none 0 0,.slice none 0 0,.slice none 0 0,.int .u32 0,.slice none 0 0,.slice none 0 0] 33));have d:ah wd vZ:=by rw[<-uo];exact ae
   have l:=hK _ _ c d;obtain⟨wh,uq⟩:=ak wd.heap.size;have Yr:dW vZ wh:=by rw[<-uo,uq];exact dW.new wd
   have Jk:U.heap.size<=wh:=by rw[uq];exact c.size
   refine Ii (v:=.pointer (some ⟨wh,0,none⟩)) (w':=vZ) rfl (by kernel_rfl) (by rw[<-uo,uq];go_simp) ⟨l, ?_⟩;clear c d uo uq;have c:=l;clear l;try simp only[aB]
   refine pR (i:=4) (R:=fun v T=>v=.int .i64 (m:Nat)∧ah vZ T) rfl (by kernel_rfl) (by kernel_rfl) (by go_simp;try rfl) ((BD B vZ QU.o).mono fun e T ⟨h1,h2⟩=>by
  rw[ap.o]at h1;subst h2;exact⟨_,h1,rfl,aF⟩) ?_
   rintro v9 wm⟨rfl,d⟩;have l:=hK _ _ c d;refine⟨l, ?_⟩;have Yt:=Yr.a d;clear c d;have c:=l;clear l;try simp only[aB]
   refine pR (i:=5) (R:=fun v T=>∃y:aU,v=.tuple #[y.val,.int .i64 V]∧bH T wm.heap.size y.val D0∧ah wm T) rfl (by kernel_rfl) (by kernel_rfl) (by go_simp;try rfl) (aq.o wm c) ?_
   rintro v9 qi⟨y7,rfl,h7,d⟩;have l:=hK _ _ c d;refine⟨l, ?_⟩;have wo:=Yt.a d;have Yu:=(h7.mono (aG aY.o.size c.size));clear h7;clear c d;have c:=l;clear l;try simp only[aB]
   refine rP [6,7,8] 2 ?EX ?sN c ?EY
   case sN=>
    iterate 3 (apply Yl.cons rfl (by kernel_rfl);focus (rintro A u;obtain⟨W,X,Y,Z,k4,k5⟩:=bq (jZ.o.a u);go_simp<;>rfl);try simp only[aB])
    exact Yl.nil
   obtain⟨⟨d0,e0⟩,⟨d1,e1⟩,⟨d2,t⟩,⟨d3,H⟩,⟨d4,I⟩,⟨d5,J⟩,n⟩:=wo.cells;have K:=n 0;have L:=n 1;have M:=n 2;have N:=n 3;have O:=n 4;have P:=n 5;obtain⟨z,q⟩:=wo.put y7;obtain⟨Yv,qj⟩:=au (bQ qi wh y7);rw[qj]at z q;have l:=c.grown q c.size (by intro k hk;cases hk;exact Jk);obtain⟨_,_,_,_,_,_,Q⟩:=wo;have ad:=Yu.keptS q Q (by decide) (by decide) (by decide) (by decide) (by decide);clear Q;have DN:=z;unfold bQ at qj;try dsimp only at qj
   clear q n;refine Em (i:=10) (w':=Yv) rfl (by kernel_rfl) (by kernel_rfl) (by rw[<-qj];go_simp) l ?_
   clear c qj e0 e1 t H I J K L M N O P;have c:=l;clear l;try simp only[aB]
   refine rU 11 ?qz37v rfl ?Yw c ?qz37r
   case Yw=>(rintro A u;obtain⟨W,X,Y,Z,k4,k5⟩:=bq (jZ.o.a u);go_simp<;>rfl)
   try simp only[aB]
   refine rD ?_
   exact⟨rfl,(wh,y7),by simp only[aB],c,DN,ad,Jk⟩
 case DL=>
 rintro⟨A8,y8⟩w3⟨ar,ql,DT,GM⟩;try simp only[aB]
 have bv:w.heap.size+2<=A8:=aG kv.o GM;have qb:=ag (j6.o.a ar);have df:=ag (aY.o.trans (ar.mono aY.o.size));have N8:=ag ql;have Gz:=ag DT;dsimp only at N8 Gz;clear ar ql DT GM;by_cases C:V=0
 case neg=>
  have HE:=ag (show mE f s b=(fz,V)by
   have e1:=kZ (k:=0) mM.o.symm zO.o (Xd5 _) (.inr (by rw[<-aa.o];exact C));have t:=qxt (f:=f) (s:=s) (b:=b) (by rw[e1,<-aa.o];exact C);rw[<-aa.o]at e1;rw[e1]at t⊢;exact Prod.ext t rfl)
  have g2:(V !=0)=true:=Xe1 C;have g3:(V==0)=false:=Xe2 C;obtain⟨w9,d0,d1,d2,d3,d4,d5,aM,r,e0,e1,t,H,I,J,K,L,M,N,O,P,z0,z1,z2,z3,z4,z5⟩:=oW qb df (show w.heap.size<=w.heap.size+1 by omega);go_wp2;try rw[aM]
  clear aM e0 e1 t H I J K L M N O P;try simp only[Exit.inBlock,Exit.then]
  refine bodyPost_ret ?_ rfl (zR HE r)
  simp[results,Tryz.results21,go_sem, *]
 subst C;go_wp2_with fail
 unfold aU.val;go_loopw [10] (fun i wr=>∃(k:Nat) (xk:aU),k<=m∧i=.int .i64 k∧af ((fe f s b k).2=0)∧af (bB wr A8 xk)∧af (bH wr w.heap.size xk.val (fe f s b k).1)∧af (dW wr (w.heap.size+1))∧af (ah w wr)) (fun i _=>m-(intOf i).toNat)
 case atStart=>exact⟨0,y8,Xd5 _,rfl,ag (by rw[<-aa.o]),N8,ag (by rw[<-aa.o];exact Gz.o),qb,df⟩
 clear N8 Gz qb df fD qE bg;obtain⟨k,xk,hk,rfl,ac,hF,hP,Oa,uM⟩:=hrel;have av:=BD B wr QU.o;rw[ap.o]at av;go_wp2_with fail
 refine av.mono ?_
 rintro e bw⟨rfl,Yx⟩;have aO:=Yx.symm;subst aO;clear av Yx;by_cases aS:k<m
 ·have bt:(k:Int)<m:=by omega
  have aw:k<(di b).length:=by rw[Gb,<-HM.o];exact aS
  obtain⟨p,hp⟩:=ak ((b.drop (128*k)).take 128);have aW:p.length=min 128 (B-128*k):=by rw[hp,Xa4,Xa9,<-HN.o]
  have vK:=ag (show(di b)[k]=ll p by rw[qxs,hp]);have a0:=ag (show ∀j (hj:j<p.length) (hb:128*k+j<b.length),p[j]=b[128*k+j]by
   intro j hj hb;subst hp;rw[List.getElem_take,List.getElem_drop])
  have mD:=ag aW;obtain⟨w4,a6,ax,a7⟩:=Vp wr;obtain⟨G,hG⟩:=ak wr.heap.size;rw[<-hG]at a6 ax;have be:=ag hG;have kV:=ag ax;have fG:=ag a7;have TT:=ag (show k<=127 by have:=bd.o;omega);have bh:=hF;have bj:=hP;clear a7 ax hF hP hp hG aW;go_wp2;clear a6;go_loopw [12] (fun i wi=>∃j:Nat,j<=p.length∧i=.int .i64 j∧af (bG wi G (.slice (some ⟨G,0,none⟩) 128 128) (ui p j))∧af (ah wr wi)) (fun i _=>128-(intOf i).toNat)
  case atStart=>exact⟨0,Xd5 _,rfl,ag (by have:=kV.o;simpa [ui]using this),fG⟩
  clear kV fG;obtain⟨j,hj,rfl,hO,ai⟩:=hrel;have DU:=ai.o;have BK:=ag (uM.o.trans (DU.mono uM.o.size));have hF:=ag (bh.o.a DU);have hP:=ag (bj.o.a DU);have Ob:=ag (Oa.o.a DU);clear DU;have bz:=TT.o;by_cases ay:j<p.length
  ·have bC:(j:Int)<128:=by have:=mD.o;omega
   have bI:((k:Int)*128+j)<B:=by have:=mD.o;omega
   have bk:j<128:=by omega
   have pM:=hO.o;have bl:=pM.at j (by unfold ui;rw[Xa0,Xa4,Xc1];omega);have bm:=pM.fz j;obtain⟨o1,o2⟩:=pM.stored j (p[j]);obtain⟨aj,z⟩:=ak (128*k+j);have WX:((k:Int)*128+(j:Int))=((aj:Nat):Int):=by omega
   have bu:aj<B:=by omega
   have bn:((aj:Nat):Int)<B:=by omega
   obtain⟨bb,ob,bo,al⟩:=qxv (fu.o.a BK.o) aj (by have:=HN.o;omega);have a8:b[aj]'(by have:=HN.o;omega)=p[j]:=by rw[a0.o j ay (by have:=HN.o;omega)];congr 1
   rw[a8]at al;rw[Nf ay bk]at o1;subst bo;have uF:=ag o1;have a9:=ag (ai.o.grown o2 ai.o.size (by intro k hk;cases hk;exact Nat.le_of_eq be.o.symm));obtain⟨wj,aD⟩:=au (wr.setCell ⟨G,j,none⟩ (.int .u8 (p[j]).toNat));rw[aD]at uF a9;generalize (p[j]).toNat=pv at *;clear o1 o2 pM hO ai hF hP Ob BK a8 z;go_wp2;try rw[aD]
   clear aD bl bm al;go_roundw
   case rel=>exact⟨j+1,by omega,by go_num,uF,a9⟩
   simp only[intOf];omega
  obtain rfl:j=p.length:=by omega
  have Qe:=hO.o;rw[qaeq (by have:=mD.o;omega),<-vK.o]at Qe;have ba:=ag Qe;clear vK a0 Qe;have aE:(128<=p.length∧decide ((p.length:Int)<128)=false)∨((p.length:Int)<128∧decide (((k:Int)*128+p.length)<B)=false):=by
   have:=mD.o
   by_cases h1:p.length<128
   ·exact .inr ⟨by omega,Xd7 (by omega)⟩
   exact .inl ⟨by omega,Xd7 (by omega)⟩
  generalize p.length=pl at *;rcases aE with⟨h1,h2⟩|⟨h1,h2⟩
  all_goals
   clear ay;obtain⟨⟨F9,E9⟩,h9⟩:∃D:aR×Int,D=fe f s b (k+1):=⟨_,rfl⟩;have mI:=ag h9
   have aw:k<(di b).length:=by rw[Gb,<-HM.o];exact aS
   have aH:=qtb ac.o aw;rw[<-h9]at aH;have am:=VD xk (fe f s b k).1 s (k:Int) (some ⟨G,0,none⟩) 128 128 (di b)[k] wr (qvg hP.o) (VZ HW.o ac.o) ba.o.rd;rw[<-aH]at am;obtain⟨j0,j1,j2,j3,j4,j5⟩:=bq hF.o;clear h9 aH hO aw ai;go_wp2_with fail
   refine am.mono ?_
   rintro e w6⟨v6,rfl,ou,ao⟩;have bp:=ag (Ob.o.a ao);have BB:=ag (BK.o.trans (ao.mono BK.o.size));obtain⟨y6,e6, -,Yy⟩:=ou.bx;subst e6;have IX:=ag (hF.o.a ao);have qP:=ag (Yy.mono BK.o.size);clear am ao ou Yy hP hF j0 j1 j2 j3 j4 j5 Ob ba;obtain⟨w7,Bc⟩:=au (w6.alloc (.cells y6.cs 33));have bE:ah w6 w7:=by rw[<-Bc];exact ae
   have Gv:=ag (bp.o.a bE);have qD:=ag (BB.o.trans (bE.mono BB.o.size));have Gq:=ag (IX.o.a bE);have Ub:=ag (qP.o.a bE);have br:=ag (show bB w7 w6.heap.size y6 by rw[<-Bc];exact Bq.new _ _ _);clear bE IX qP;unfold aU.cs at Bc;unfold aU.val;by_cases C:E9=0
   case neg=>
    have HE:=ag (show mE f s b=(fz,E9)by
     have e1:=kZ (k:=k+1) mM.o.symm zO.o (by rw[<-HM.o];omega) (.inr (by rw[<-mI.o];exact C));have t:=qxt (f:=f) (s:=s) (b:=b) (by rw[e1,<-mI.o];exact C);rw[<-mI.o]at e1;rw[e1]at t⊢;exact Prod.ext t rfl)
    have g2:(E9 !=0)=true:=Xe1 C;have g3:(E9==0)=false:=Xe2 C;obtain⟨w9,d0,d1,d2,d3,d4,d5,aM,r,e0,e1,t,H,I,J,K,L,M,N,O,P,z0,z1,z2,z3,z4,z5⟩:=oW Gv qD (show w.heap.size<=w.heap.size+1 by omega);go_wp2;try rw[aM]
    clear aM e0 e1 t H I J K L M N O P;try simp only[Exit.inBlock,Exit.then]
    refine bodyPost_ret ?_ rfl (zR HE r)
    simp[results,Tryz.results21,go_sem, *]
   subst C;obtain⟨p0,p1,p2,p3,p4,p5⟩:=bq br.o;obtain⟨⟨d0,e0⟩,⟨d1,e1⟩,⟨d2,t⟩,⟨d3,H⟩,⟨d4,I⟩,⟨d5,J⟩,n⟩:=(dW.of Gq.o).cells;have K:=n 0;have L:=n 1;have M:=n 2;have N:=n 3;have O:=n 4;have P:=n 5;have S:=Ub.o.assign (dW.of Gq.o) (w0:=w) qD.o (by omega);obtain⟨ws,fI⟩:=au (bQ w7 A8 y6);rw[fI]at S;have r:=ag S;have UE:=ag (Gv.o.oth S.2.2.2.2 (by omega));unfold bQ at fI;clear n S Gq Ub;go_wp2;try rw[fI]
   clear fI Bc e0 e1 t H I J K L M N O P p0 p1 p2 p3 p4 p5;go_roundw
   case rel=>exact⟨k+1,y6,by omega,by go_num,ag (by rw[<-mI.o]),ag r.o.2.2.1,ag (by rw[<-mI.o];exact r.o.1),UE,ag r.o.2.1⟩
   simp only[intOf];omega
 have hd:decide ((k:Int)<m)=false:=aC (by omega);have kE:=ag (show mE f s b=fe f s b k from kZ mM.o.symm zO.o (by rw[<-HM.o];exact hk) (.inl (by rw[<-HM.o];omega)));have HE:=ag (show mE f s b=((fe f s b k).1,0)by rw[kE.o];exact Prod.ext rfl ac.o);obtain⟨j0,j1,j2,j3,j4,j5⟩:=bq hF.o;obtain⟨⟨d0,e0⟩,⟨d1,e1⟩,⟨d2,t⟩,⟨d3,H⟩,⟨d4,I⟩,⟨d5,J⟩,n⟩:=Oa.o.cells;have K:=n 0;have L:=n 1;have M:=n 2;have N:=n 3;have O:=n 4;have P:=n 5;have S:=hP.o.assign Oa.o (w0:=w) uM.o (by omega);obtain⟨ws,fI⟩:=au (bQ wr (w.heap.size+1) xk);rw[fI]at S;have mF:=ag S;unfold bQ at fI;have CX:=ag fI;clear S fI hP hF n;go_wp2;rw[CX.o];obtain⟨p0,p1,p2,p3,p4,p5⟩:=bq mF.o.2.2.1;clear CX j0 j1 j2 j3 j4 j5 K L M N O P e0 e1 t H I J hd;refine bodyPost_ret (v:=.tuple #[xk.val,.int .i64 0]) ?_ rfl ⟨xk.val, ?_, ?_,mF.o.2.1⟩
 ·simp[results,Tryz.results21,go_sem,p0,p1,p2,p3,p4,p5]
 ·rw[HE.o]
 rw[HE.o];exact mF.o.1
end Go.Proofs.YtmeaiocohalphaaGreatDoor
