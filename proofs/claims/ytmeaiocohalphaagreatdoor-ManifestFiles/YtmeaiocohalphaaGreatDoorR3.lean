/-
  What the document's four, number, Block, Of, Where and Latest do.
-/
import Derived.Test.YtmeaiocohalphaaGreatDoorFiRd6
set_option maxHeartbeats 8000000
set_option maxRecDepth 100000
namespace Go.Proofs.YtmeaiocohalphaaGreatDoor
open Go.RowKit
set_option linter.all false
variable {v:Value}
theorem qmt{b:Operand}{a:Act}{w:World}{l:az}{o:Oper}(c:o.op=.convert 23 9 b)(hv:a.eval b=v)(h:Rd w v l):(execOp a.eval o).run Tryz.prog w=.ok (.value (.string (bs l))) w:=qyp c Tryz.underlying23 Tryz.underlying5 Tryz.underlying9 hv h
theorem Xp(m:Nat)(h:m<=4096):wrap64 (m:Int)=(m:Int):=by unfold wrap64;omega
theorem qaec(a:aA)(n c:Nat)(b:az)(B:Int)(w:World)(bI:Rd w (.slice a n c) b)(hn:n=b.length):
  Calls Tryz.prog 120 #[.slice a n c,.int .i64 B] w fun e w'=>∃v,e=.returned (.tuple #[.agg #[v],.int .i64 (mg b B)])∧bi w' w.heap.size v (uE b B)∧ah w w':=by
 obtain⟨W0,ad⟩:=ak (w.alloc (.cells #[.slice none 0 0] 31));have bJ:ah w W0:=by rw[ad];exact ae
 have dm:=ag (show bZ W0 w.heap.size by rw[ad];exact bZ.new w _);have dh:=ag bJ;have HR:=ag bI;have HN:=ag hn;have AA:=qj3 B W0;clear bI hn bJ;by_cases g1:eX B
 case neg=>
  rw[Xd7 g1]at AA;have M:=ag (qre (b:=b) g1);have HL:=ag (El (b:=b) (B:=B) (by rw[M.o];omega));clear g1;go_enter Tryz.func120,Tryz.ntmps120;go_wp2_with fail
  rw[<-ad];clear ad;refine(AA).mono ?_
  rintro e w1⟨rfl,T⟩;have gW:=ag (dm.o.a T);have bg:=bT dh T;clear dm dh T;clear AA;have hc:=gW.o.cell;have u:=gW.o.fz;obtain⟨z0,E, -⟩:=gW.o.put (.slice none 0 0);obtain⟨y,Q⟩:=gW.o;have H:=ag (show bi (w1.setCell ⟨w.heap.size,0,none⟩ (.slice none 0 0)) w.heap.size (.slice none 0 0) _ from bi.nil _ _);have I:=ag (bg.o.grown E bg.o.size (by intro k U;cases U;omega));clear Q E;go_wp2;obtain⟨V,J⟩:=ak (w1.setCell ⟨w.heap.size,0,none⟩ (.slice none 0 0));rw[<-J]at z0 H I⊢;try simp only[Exit.inBlock,Exit.then]
  refine bodyPost_ret (v:=.tuple #[.agg #[.slice none 0 0],.int .i64 2]) ?_ rfl ⟨.slice none 0 0,by rw[M.o],by rw[HL.o];exact H.o,I.o⟩
  clear J hc u;simp[results,Tryz.results120,go_sem, *]
 rw[Xd8 g1]at AA;have rJ:=ag g1;clear g1;go_enter Tryz.func120,Tryz.ntmps120;go_wp2_with fail
 rw[<-ad];clear ad;refine(AA).mono ?_
 rintro e w1⟨rfl,T⟩;have gW:=ag (dm.o.a T);have bg:=bT dh T;clear dm dh T;clear AA;by_cases g2:2048<n
 ·have cJ:(2048:Int)<n:=by omega
  have M:=ag (qnh rJ.o (by have:=HN.o;omega:2048<b.length));have HL:=ag (El (b:=b) (B:=B) (by rw[M.o];omega));have hc:=gW.o.cell;have u:=gW.o.fz;obtain⟨z0,E, -⟩:=gW.o.put (.slice none 0 0);obtain⟨y,Q⟩:=gW.o;have H:=ag (show bi (w1.setCell ⟨w.heap.size,0,none⟩ (.slice none 0 0)) w.heap.size (.slice none 0 0) _ from bi.nil _ _);have I:=ag (bg.o.grown E bg.o.size (by intro k U;cases U;omega));clear Q E;go_wp2;obtain⟨V,J⟩:=ak (w1.setCell ⟨w.heap.size,0,none⟩ (.slice none 0 0));rw[<-J]at z0 H I⊢;try simp only[Exit.inBlock,Exit.then]
  refine bodyPost_ret (v:=.tuple #[.agg #[.slice none 0 0],.int .i64 3]) ?_ rfl ⟨.slice none 0 0,by rw[M.o],by rw[HL.o];exact H.o,I.o⟩
  clear J hc u;simp[results,Tryz.results120,go_sem, *]
 have cJ:decide ((2048:Int)<n)=false:=aC (by omega);have jy:=ag (show ¬2048<b.length by have:=HN.o;omega);have qU:=ag (show b.length<=1000000 by have:=HN.o;omega);obtain⟨X1,ap⟩:=ak (w1.alloc (.cells #[.slice a n c,.bool false] 200));obtain⟨X2,aq⟩:=ak (X1.alloc (.cells #[.slice none 0 0] 31));have GD:ah w1 X1:=by rw[ap];exact ae
 have GG:ah X1 X2:=by rw[aq];exact ae
 obtain⟨R0,a0⟩:=ak w.heap.size;obtain⟨W,a7⟩:=ak w1.heap.size;obtain⟨Db,a8⟩:=ak (w1.heap.size+1);obtain⟨Bs,rG⟩:=ak (w1.heap.size+2);have Nw:X1.heap.size=w1.heap.size+1:=by rw[ap];simp
 have bK:X2.heap.size=w1.heap.size+2:=by rw[aq];simp[Nw]
 have cK:w.heap.size<w1.heap.size:=by obtain⟨y,Q⟩:=gW.o;exact(Xd6.1 Q).1
 have vF:=ag (show bL X2 W (.slice a n c) false by rw[a7];refine bL.a ?_ GG;rw[ap];exact bL.new w1 _ _);have a9:=ag (show nC w R0 W Db Bs (.slice none 0 0) [] X2 by
  refine⟨?_,bi.nil _ _, ?_,bg.o.trans ((GD.trans (GG.mono GD.size)).mono bg.o.size),by omega,by omega,by omega,by omega,by omega,by omega,by omega,by omega,by omega,by omega⟩
  ·rw[a8,<-Nw,aq];exact aX.new X1 _
  rw[a0];exact(gW.o.a GD).a GG)
 have bR:=ag a9.o.2.2.2.1;go_wp2_with fail
 rw[<-ap,<-aq];rw[<-a8];rw[<-a7];rw[<-a0];refine(Xm W a n c b false 40 X2 vF.o (HR.o.a bR.o) HN.o qU.o).mono ?_
 rintro e x1⟨m0,l1,yK,rfl,K,a1,c1,hs1,bV,b0,b1⟩;have c7:m0<=40:=K.le.1;have rO:=ag (qzr K);have rE:=ag K.le.2;have BZ:=ag (a9.o.rdr vF.o b0 b1);have b2:=ag bV;have nk:=ag hs1;clear K bV b0 b1 hs1 vF a9 bR ap aq GD GG a0 a7 a8 rG Nw bK cK gW bg;obtain⟨q1,ba⟩:=ak l1.length;rw[<-ba]at b2 nk;have b3:=ag ba;clear ba;go_wp2;go_loopw [9] (fun i wr=>∃k:Nat,k<=m0∧i=.int .u64 k∧∃av nv cv l ar vd A,af (nv=l.length)∧af (l.length<=b.length)∧af (bL wr W (.slice av nv cv) ar)∧af (iM (.slice a n c) b (.slice av nv cv) l)∧af (nC w R0 W Db Bs vd A wr)∧af (A.length<=k)∧af (∀f∈A,∀x∈f.2,sH x)∧af (A9 b m0 k A l ar)) (fun i _=>m0-(intOf i).toNat)
 case atStart=>exact⟨0,Xd5 _,rfl,a1,q1,c1,l1,yK,.slice none 0 0,[],b3,rE,b2,nk,BZ,ag aL,ag (by simp),rO⟩
 obtain⟨k,U,rfl,av,nv,cv,l,ar,vd,A,cL,b4,aD,b5,q,ai,aj,Y⟩:=hrel;have rb:=aD.o.cell1;by_cases bb:k<m0∧ar=false
 ·obtain⟨bc,rfl⟩:=bb
  have ax:(k:Int)<m0:=by omega
  have Dw:=ag (b5.o.1 _ (HR.o.a q.o.2.2.2.1));go_wp2_with fail
  refine(qx6 W av nv cv l false wr aD.o Dw.o cL.o (by have:=b4.o;have:=qU.o;omega)).mono ?_
  rintro e N⟨s,l2,yL,rfl,bd,a2,c2,b6,b7,b8,b9⟩;have ca:=ag bd;have cb:=ag (aG bd.le b4.o);have be:=ag (b5.o.trans b6);have gP:=ag (q.o.rdr aD.o b8 b9);have aE:=ag b7;clear bd b6 b7 b8 b9 Dw rb;obtain⟨q2,bh⟩:=ak l2.length;rw[<-bh]at aE be;have cc:=ag bh;clear bh;obtain⟨y2,ay⟩:=ak (N.alloc (.cells #[.string (bs s),.slice none 0 0] 98));have aa:ah N y2:=by rw[ay];exact ae
  obtain⟨F,hF⟩:=ak N.heap.size;have bj:=ag (aE.o.a aa);have Ck:=ag (gP.o.a aa);have WJ:=ag (show Mem N W F (F+1) (bs s) (.slice none 0 0) [] y2 from⟨by rw[ay,hF];exact aP.new N _ _,bA.nil _ _,Xn (qzs N _) aa,by rw[ay,hF];simp,(Xd6.1 aE.o).1,hF,rfl⟩);have Dw:=ag (be.o.1 _ (HR.o.a Ck.o.2.2.2.1));go_wp2_with fail
  rw[<-ay];rw[<-hF];clear aa ay hF;refine(Xm W a2 q2 c2 l2 yL 64 y2 bj.o Dw.o cc.o (by have:=cb.o;have:=qU.o;omega)).mono ?_
  rintro e y3⟨m,l3,cd,rfl,K,a3,c3,ce,cf,cg,ch⟩;have hm:m<=64:=K.le.1;have cM:=ag (qaea Y.o bc ca.o K);have cN:=ag (aG K.le.2 cb.o);have AZ:=ag (be.o.trans ce);have cP:=ag (WJ.o.rdr bj.o cg ch);have ci:=ag cf;clear K ce cf cg ch Dw Ck WJ bj ca;obtain⟨q3,bk⟩:=ak l3.length;rw[<-bk]at ci AZ;have cj:=ag bk;clear bk;go_wp2;go_loopw [12] (fun i C=>∃j:Nat,j<=m∧i=.int .u64 j∧∃aw nw cw lw yM ve L,af (nw=lw.length)∧af (lw.length<=b.length)∧af (bL C W (.slice aw nw cw) yM)∧af (iM (.slice a n c) b (.slice aw nw cw) lw)∧af (Mem N W F (F+1) (bs s) ve L C)∧af (L.length<=j)∧af (∀x∈L,sH x)∧af (Xo b k s m j L lw yM)) (fun i _=>m-(intOf i).toNat)
  case atStart=>exact⟨0,Xd5 _,rfl,a3,q3,c3,l3,cd,.slice none 0 0,[],cj,cN,ci,AZ,cP,ag aL,ag (by simp),cM⟩
  obtain⟨j,hj,rfl,aw,nw,cw,lw,yM,ve,L,bl,aH,G,aJ,r,D,al,Eu⟩:=hrel;obtain⟨C,ck⟩:=ak wr;rw[<-ck]at G r⊢;clear ck;have cQ:=G.o.cell1;have zN:=ag (gP.o.after aE.o r.o.2.2.1);by_cases bm:j<m∧yM=false
  ·obtain⟨cR,rfl⟩:=bm
   have cZ:(j:Int)<m:=by omega
   have Dw:=ag (aJ.o.1 _ (HR.o.a zN.o.2.2.2.1));go_wp2_with fail
   refine(Xm W aw nw cw lw false 4096 C G.o Dw.o bl.o (by have:=aH.o;have:=qU.o;omega)).mono ?_
   rintro e z1⟨x,l4,cl,rfl,aK,a4,c4,cm,cn,bn,bo⟩;have cS:x<=4096:=aK.le.1;have jb:=ag aK;have zO:=ag (aG aK.le.2 aH.o);have BH:=ag (aJ.o.trans cm);have EO:=ag (r.o.rdr G.o bn bo);have co:=ag (zN.o.rdr G.o bn bo);have bp:=ag cn;clear aK cm cn bn bo Dw cQ G r zN;obtain⟨q4,br⟩:=ak l4.length;rw[<-br]at bp BH;have cp:=ag br;clear br;obtain⟨z2,ab⟩:=ak (z1.alloc (.cells #[.int .i64 x,.int .i64 0] 237));have aO:ah z1 z2:=by rw[ab];exact ae
   obtain⟨X,hX⟩:=ak z1.heap.size;have cq:=ag (show dD z2 X (.int .i64 x) (.int .i64 0)by rw[ab,hX];exact dD.new z1 _ _);have Xq:∀g,ve.ownBlock=some g->g<X:=by rw[hX];exact own_lt EO.o.2.1
   have cr:F+1<=X:=by rw[hX];exact EO.o.2.2.2.1
   have WC:=ag Xq;have Ez:=ag cr;have bt:=ag (bp.o.a aO);have EJ:=ag (EO.o.a aO);have Dw:=ag (BH.o.1 _ (HR.o.a (co.o.a aO).2.2.2.1));have c8:=Xp x cS;clear Xq cr aO bp EO;go_wp2_with fail
   rw[<-ab];rw[<-hX];clear ab hX;refine(Xm W a4 q4 c4 l4 cl 4096 z2 bt.o Dw.o cp.o (by have:=zO.o;have:=qU.o;omega)).mono ?_
   rintro e z3⟨y,l5,Xr,rfl,aS,a5,c5,cu,Bn,cx,bu⟩;have cT:y<=4096:=aS.le.1;have AB:=ag (qahx Eu.o cR jb.o aS);have TW:=ag (aG aS.le.2 zO.o);have EA:=ag (BH.o.trans cu);have EK:=ag (EJ.o.rdr bt.o cx bu);have Dm:=ag (cq.o.keepT (by decide) bu);obtain⟨q5,bv⟩:=ak l5.length;rw[<-bv]at Bn EA;have cy:=ag bv;clear bv;obtain⟨z4,QF⟩:=ak (z3.setCell ⟨X,1,none⟩ (.int .i64 y));have xC:=ag (show Mem N W F (F+1) (bs s) ve L z4 by rw[QF];exact EK.o.setX Dm.o WC.o Ez.o _);have I6:=ag (show dD z4 X (.int .i64 x) (.int .i64 y)by rw[QF];exact Dm.o.put1 _);have cA:=ag (show bL z4 W (.slice a5 q5 c5) Xr by rw[QF];exact Bn.keepT (by decide) (bU.set Dm.o));have da:=Dm.o.cell0;have db:=Dm.o.cell1;have dc:=frozen_of_row z3 X 1 _ _ Dm.o;have u0:=I6.o.cell0;have u1:=I6.o.cell1;have f8:=xC.o.1.cell1;obtain⟨cC,cD,Az⟩:=xC.o.2.1.form;subst Az;obtain⟨g9,c9,V,d,Ci,vQ,vR⟩:=xC.o.app cA.o (by have:=D.o;omega) (x:Int) (y:Int);have nX:=ag vQ;have qf:=ag vR;have f9:=Ci.cell1;have dd:=frozen_of_row V F 1 _ _ Ci;have de:=Xp y cT;have cU:=ag (show(L++[((x:Int),(y:Int))]).length<=j+1 by rw[Xa0];have:=D.o;simp;omega);have AR:=ag (show ∀z∈L++[((x:Int),(y:Int))],sH z by
    intro z hz;rcases Xa5.1 hz with hz|hz
    ·exact al.o z hz
    obtain rfl:z=((x:Int),(y:Int)):=by simpa using hz
    unfold sH;simp only
    omega)
   clear aS cu Bn cx bu Dw vQ vR Ci EJ bt cq EK Dm xC I6 cA WC Ez al D Eu jb co zO BH;obtain⟨fl,O⟩:=ak L.length;rw[<-O]at d f8 f9 nX qf;clear O;obtain⟨N9,Cj⟩:=ak (fl+1);rw[<-Cj]at d nX qf;clear Cj;rw[show z4.heap.size=z3.heap.size by rw[QF];simp]at d;rw[QF]at d u0 u1 f8;go_wp2_with (at_builtin;refine kS rfl (.tmp 65) (.tmp 67) 96 rfl rfl rfl rfl d ?_)
   try clear d
   generalize V.setCell ⟨F,1,none⟩ (.slice (some ⟨g9,0,none⟩) N9 c9)=wz at *;go_roundw
   case rel=>exact⟨j+1,by omega,rfl,a5,q5,c5,l5,Xr,_,_,cy,TW,qf,EA,nX,cU,AR,AB⟩
   simp only[intOf];omega
  have qX:=ag bm;clear bm;by_cases cV:j<m
  ·have cW:yM=true:=by
    cases yM with
    |true=>rfl
    |false=>exact absurd ⟨cV,rfl⟩ qX.o
   subst cW;have xS:(j:Int)<m:=by omega
   have bw:True:=trivial;have dz:=zN.o.1.cell;have f0:=r.o.1.cell0;have f1:=r.o.1.cell1;obtain⟨zW,zX,hvd⟩:=zN.o.2.1.form;subst hvd;obtain⟨cC,cD,Az⟩:=r.o.2.1.form;subst Az;obtain⟨g9,c9,V,d,xq,vQ,vR⟩:=zN.o.app G.o (by have:=ai.o;omega) s _ L (r.o.2.1.mono (by have h1:=r.o.2.2.2.2;have h2:=gP.o.2.2.2.2.1;omega));have d9:=xq.cell;have cX:=frozen_of_row V Db 0 _ _ xq;have nX:=ag vQ;have qf:=ag vR;have Eo:=ag (show(A++[(s,L)]).length<=k+1 by rw[Xa0];have:=ai.o;simp;omega);have qR:=ag (show ∀f∈A++[(s,L)],∀x∈f.2,sH x by
    intro f u;rcases Xa5.1 u with u|u
    ·exact aj.o f u
    obtain rfl:f=(s,L):=by simpa using u
    exact al.o)
   have bz:=ag (qti Y.o Eu.o hj qX.o);clear vQ vR xq zN r G al D Eu Y ai aj;obtain⟨fl,O⟩:=ak A.length;rw[<-O]at d dz d9 nX qf;clear O;obtain⟨el,D⟩:=ak L.length;rw[<-D]at d f1;clear D;obtain⟨N9,Cj⟩:=ak (fl+1);rw[<-Cj]at d nX qf;clear Cj;go_wp2_with (at_builtin;refine kS rfl (.tmp 71) (.tmp 73) 29 rfl rfl rfl rfl d ?_)
   try clear d
   generalize V.setCell ⟨Db,0,none⟩ (.slice (some ⟨g9,0,none⟩) N9 c9)=wz at *;go_roundw
   case rel=>exact⟨k+1,by omega,rfl,aw,nw,cw,lw,true,_,_,bl,aH,qf,aJ,nX,Eo,qR,bz⟩
   simp only[intOf];omega
  have xS:decide ((j:Int)<m)=false:=aC (by omega);have bw:True:=trivial;have dz:=zN.o.1.cell;have f0:=r.o.1.cell0;have f1:=r.o.1.cell1;obtain⟨zW,zX,hvd⟩:=zN.o.2.1.form;subst hvd;obtain⟨cC,cD,Az⟩:=r.o.2.1.form;subst Az;obtain⟨g9,c9,V,d,xq,vQ,vR⟩:=zN.o.app G.o (by have:=ai.o;omega) s _ L (r.o.2.1.mono (by have h1:=r.o.2.2.2.2;have h2:=gP.o.2.2.2.2.1;omega));have d9:=xq.cell;have cX:=frozen_of_row V Db 0 _ _ xq;have nX:=ag vQ;have qf:=ag vR;have Eo:=ag (show(A++[(s,L)]).length<=k+1 by rw[Xa0];have:=ai.o;simp;omega);have qR:=ag (show ∀f∈A++[(s,L)],∀x∈f.2,sH x by
   intro f u;rcases Xa5.1 u with u|u
   ·exact aj.o f u
   obtain rfl:f=(s,L):=by simpa using u
   exact al.o)
  have bz:=ag (qti Y.o Eu.o hj qX.o);clear vQ vR xq zN r G al D Eu Y ai aj;obtain⟨fl,O⟩:=ak A.length;rw[<-O]at d dz d9 nX qf;clear O;obtain⟨el,D⟩:=ak L.length;rw[<-D]at d f1;clear D;obtain⟨N9,Cj⟩:=ak (fl+1);rw[<-Cj]at d nX qf;clear Cj;go_wp2_with (at_builtin;refine kS rfl (.tmp 71) (.tmp 73) 29 rfl rfl rfl rfl d ?_)
  try clear d
  generalize V.setCell ⟨Db,0,none⟩ (.slice (some ⟨g9,0,none⟩) N9 c9)=wz at *;go_roundw
  case rel=>exact⟨k+1,by omega,rfl,aw,nw,cw,lw,yM,_,_,bl,aH,qf,aJ,nX,Eo,qR,bz⟩
  simp only[intOf];omega
 have qX:=ag bb;clear bb;obtain⟨l9,cE⟩:=qahy rJ.o jy.o Y.o U qX.o;have FQ:=ag l9;have H6:=ag cE;have yg:=ag (show gL A from fun f u x hx=>Rq (aj.o f u x hx));clear l9 cE Y aj;obtain⟨zW,zX,hvd⟩:=q.o.2.1.form;subst hvd;obtain⟨p,hp⟩:=ak A.length;rw[<-hp]at q;have HP:=ag hp;clear hp;have dz:=q.o.1.cell;cases ar with
 |true=>
  have M:=ag (H6.o (by simp));have HL:=ag (El (b:=b) (B:=B) (by rw[M.o];omega));have I9:=ag q.o.2.2.1;have uM:=ag q.o.2.2.2.1;by_cases bc:k<m0
  ·have ax:(k:Int)<m0:=by omega
   go_wp2;go_quiet (fail)
   obtain⟨WQ,Ny⟩:=ak (wr.drewN nq);have ac:ah wr WQ:=by rw[Ny];exact below_drewN aF _
   rw[<-Ny];have GH:=ag (I9.o.a ac);have Me:=ag (uM.o.trans (ac.mono uM.o.size));have bC:=ag q.o.2.2.2.2.2;clear Ny ac;have hc:=GH.o.cell;have u:=GH.o.fz;obtain⟨z0,E, -⟩:=GH.o.put (.slice none 0 0);obtain⟨y,Q⟩:=GH.o;have H:=ag (show bi (WQ.setCell ⟨R0,0,none⟩ (.slice none 0 0)) w.heap.size (.slice none 0 0) _ from bi.nil _ _);have I:=ag (Me.o.grown E Me.o.size (by intro k U;cases U;have:=bC.o;omega));clear Q E;go_wp2;obtain⟨V,J⟩:=ak (WQ.setCell ⟨R0,0,none⟩ (.slice none 0 0));rw[<-J]at z0 H I⊢;try simp only[Exit.inBlock,Exit.then]
   refine bodyPost_ret (v:=.tuple #[.agg #[.slice none 0 0],.int .i64 8]) ?_ rfl ⟨.slice none 0 0,by rw[M.o],by rw[HL.o];exact H.o,I.o⟩
   clear J hc u;simp[results,Tryz.results120,go_sem, *]
  have ax:decide ((k:Int)<m0)=false:=aC (by omega);go_wp2;go_quiet (fail)
  obtain⟨WQ,Ny⟩:=ak (wr.drewN nq);have ac:ah wr WQ:=by rw[Ny];exact below_drewN aF _
  rw[<-Ny];have GH:=ag (I9.o.a ac);have Me:=ag (uM.o.trans (ac.mono uM.o.size));have bC:=ag q.o.2.2.2.2.2;clear Ny ac;have hc:=GH.o.cell;have u:=GH.o.fz;obtain⟨z0,E, -⟩:=GH.o.put (.slice none 0 0);obtain⟨y,Q⟩:=GH.o;have H:=ag (show bi (WQ.setCell ⟨R0,0,none⟩ (.slice none 0 0)) w.heap.size (.slice none 0 0) _ from bi.nil _ _);have I:=ag (Me.o.grown E Me.o.size (by intro k U;cases U;have:=bC.o;omega));clear Q E;go_wp2;obtain⟨V,J⟩:=ak (WQ.setCell ⟨R0,0,none⟩ (.slice none 0 0));rw[<-J]at z0 H I⊢;try simp only[Exit.inBlock,Exit.then]
  refine bodyPost_ret (v:=.tuple #[.agg #[.slice none 0 0],.int .i64 8]) ?_ rfl ⟨.slice none 0 0,by rw[M.o],by rw[HL.o];exact H.o,I.o⟩
  clear J hc u;simp[results,Tryz.results120,go_sem, *]
 |false=>
  have bc:¬k<m0:=fun h=>qX.o ⟨h,rfl⟩
  have ax:decide ((k:Int)<m0)=false:=aC (by omega);obtain⟨S,eS⟩:∃S:World->Prop,S=fun C=>bL C W (.slice av nv cv) false∧aX C Db (.slice zW p zX)∧fQ C (.slice zW p zX) A∧Rd C (.slice a n c) b∧ah wr C:=⟨_,rfl⟩
  have hK:aN S:=by rw[eS];exact fun _ _ h hb=>⟨h.1.a hb,h.2.1.a hb,h.2.2.1.a hb,h.2.2.2.1.a hb,h.2.2.2.2.trans (hb.mono h.2.2.2.2.size)⟩
  have am:S wr:=by rw[eS];exact⟨aD.o,q.o.1,q.o.2.1.rd,HR.o.a q.o.2.2.2.1,aF⟩
  rw[eS]at hK am;clear eS;have an:=fun C (h:fQ C (.slice zW p zX) A)=>qC zW p zX A B C h HP.o yg.o
  by_cases P:bf A B=0
  ·rw[P]at an
   have M0:=ag P;have bE:=ag (Eh P).2;clear P;have aa:=fun C (h:fQ C (.slice zW p zX) A)=>xW zW p zX A C h HP.o (Hq bE.o.1 bE.o.2.1 bE.o.2.2.1)
   have wV:=ag an;have Xt:=ag aa;clear an aa;go_wp2;clear rb dz;refine iH hK (by kernel_rfl) am ?_
   intro t;refine rP [0,1,2,3,4,5,6] 11 ?KT ?xX t ?KU
   case xX=>
    iterate 7 (apply Yl.cons rfl (by kernel_rfl);focus (rintro C⟨N,y2,y3⟩;(have x1:=N.cell1);(have x2:=y2.cell);clear N y2 y3;go_simp<;>rfl);try simp only[aB])
    exact Yl.nil
   try simp only[aB]
   refine rV hK 7 (.int .i64 0) rfl t (wV.o _ t.2.2.1) ?_
   clear t;intro aW t;try simp only[aB]
   refine rP [8,9,10,11,14] 5 ?qa2 ?KW t ?qn2
   case KW=>
    iterate 5 (apply Yl.cons rfl (by kernel_rfl);focus (rintro C⟨N,y2,y3⟩;(have x1:=N.cell1);(have x2:=y2.cell);clear N y2 y3;go_simp<;>rfl);try simp only[aB])
    exact Yl.nil
   try simp only[aB]
   refine xQ (i:=15) (v:=.string (bs b)) rfl (by kernel_rfl) (by kernel_rfl) (by kernel_rfl) (by rfl) (fun C hx=>qmt rfl rfl hx.2.2.2.1) t ?_
   try simp only[aB]
   refine pR (i:=12) (R:=fun v C=>∃a6 c6,v=.slice a6 (dJ A).length c6∧Rd C (.slice a6 (dJ A).length c6) (dJ A)∧ah aW C) rfl (by kernel_rfl) (by rfl) (by go_simp) ((Xt.o _ t.2.2.1).mono fun e C ⟨v,h1,h2,h3⟩=>by
    obtain⟨a6,c6,u⟩:=xU h2;subst u;exact⟨_,h1,a6,c6,rfl,BL h2,h3⟩) ?_
   rintro df Xu⟨a6,c6,rfl,cF,cG⟩;have GI:=hK _ _ t cG;refine⟨GI, ?_⟩;clear t;have t:=GI;try simp only[aB]
   refine rR 13 (.string (bs (dJ A))) Xu rfl (qmt rfl rfl cF) t ?_
   try simp only[aB]
   have aY:=zq (dJ A) b;have Ba:=ag (q.o.2.2.1.a t.2.2.2.2);have cY:=ag t.2.1;have Qy:=ag (q.o.2.1.a t.2.2.2.2);have FE:=ag (q.o.2.2.2.1.trans (t.2.2.2.2.mono q.o.2.2.2.1.size));have Dx:=ag q.o.2.2.2.2.2;by_cases ao:dJ A=b
   ·have hq:((bs (dJ A)).toList==(bs b).toList)=true:=by rw[aY,ao];simp
    obtain⟨cH,cI⟩:=FQ.o (by first|rfl|trivial) M0.o ao;have M:=ag cH;have HL:=ag cI;clear cH cI aY ao;refine rP [16,17] 0 ?qa3 ?qp3 t ?qn3
    case qp3=>
     iterate 2 (apply Yl.cons rfl (by kernel_rfl);focus (intro C hx;clear hx;go_simp<;>rfl);try simp only[aB])
     exact Yl.nil
    try simp only[aB]
    refine rD ?_
    clear t GI hK am;have d9:=cY.o.cell;have hc:=Ba.o.cell;have u:=Ba.o.fz;obtain⟨z0,E, -⟩:=Ba.o.put (.slice zW p zX);obtain⟨y,Q⟩:=Ba.o;have H:=ag (show bi (Xu.setCell ⟨R0,0,none⟩ (.slice zW p zX)) w.heap.size (.slice zW p zX) _ from(Qy.o.mono (by have:=Dx.o;omega)).keptS E Q (by decide) (by decide));have I:=ag (FE.o.grown E FE.o.size (by intro k U;cases U;have:=Dx.o;omega));clear Q E;go_wp2;obtain⟨V,J⟩:=ak (Xu.setCell ⟨R0,0,none⟩ (.slice zW p zX));rw[<-J]at z0 H I⊢;try simp only[Exit.inBlock,Exit.then]
    refine bodyPost_ret (v:=.tuple #[.agg #[.slice zW p zX],.int .i64 0]) ?_ rfl ⟨.slice zW p zX,by rw[M.o],by rw[HL.o];exact H.o,I.o⟩
    clear J hc u;simp[results,Tryz.results120,go_sem, *]
   have hq:((bs (dJ A)).toList==(bs b).toList)=false:=by rw[aY];simpa using ao
   have M:=ag (H6.o (fun h=>ao h.2.2));have HL:=ag (El (b:=b) (B:=B) (by rw[M.o];omega));clear aY ao;refine rP [16,17] 0 ?qa4 ?qp4 t ?qn4
   case qp4=>
    iterate 2 (apply Yl.cons rfl (by kernel_rfl);focus (intro C hx;clear hx;go_simp<;>rfl);try simp only[aB])
    exact Yl.nil
   try simp only[aB]
   refine rD ?_
   clear t GI hK am;have hc:=Ba.o.cell;have u:=Ba.o.fz;obtain⟨z0,E, -⟩:=Ba.o.put (.slice none 0 0);obtain⟨y,Q⟩:=Ba.o;have H:=ag (show bi (Xu.setCell ⟨R0,0,none⟩ (.slice none 0 0)) w.heap.size (.slice none 0 0) _ from bi.nil _ _);have I:=ag (FE.o.grown E FE.o.size (by intro k U;cases U;have:=Dx.o;omega));clear Q E;go_wp2;obtain⟨V,J⟩:=ak (Xu.setCell ⟨R0,0,none⟩ (.slice none 0 0));rw[<-J]at z0 H I⊢;try simp only[Exit.inBlock,Exit.then]
   refine bodyPost_ret (v:=.tuple #[.agg #[.slice none 0 0],.int .i64 8]) ?_ rfl ⟨.slice none 0 0,by rw[M.o],by rw[HL.o];exact H.o,I.o⟩
   clear J hc u;simp[results,Tryz.results120,go_sem, *]
  have M:=ag (H6.o (fun h=>P h.2.1));have HL:=ag (El (b:=b) (B:=B) (by rw[M.o];omega));obtain⟨Z,hZ⟩:=ak (bf A B);rw[<-hZ]at an P;have dg:(Z==0)=false:=Xe2 P
  have ab:(Z !=0)=true:=Xe1 P;have wV:=ag an;clear an hZ;go_wp2;clear rb dz;refine iH hK (by kernel_rfl) am ?_
  intro t;refine rP [0,1,2,3,4,5,6] 11 ?qa5 ?qp5 t ?qn5
  case qp5=>
   iterate 7 (apply Yl.cons rfl (by kernel_rfl);focus (rintro C⟨N,y2,y3⟩;(have x1:=N.cell1);(have x2:=y2.cell);clear N y2 y3;go_simp<;>rfl);try simp only[aB])
   exact Yl.nil
  try simp only[aB]
  refine rV hK 7 (.int .i64 Z) rfl t (wV.o _ t.2.2.1) ?_
  clear t;intro aW t;try simp only[aB]
  refine rP [8,9,10,11,12,13,14,15,16,17] 0 ?qa6 ?qp6 t ?qn6
  case qp6=>
   iterate 3 (apply Yl.cons rfl (by kernel_rfl);focus (intro C hx;clear hx;(try simp only[ab]);go_simp;(try simp only[ab]);all_goals (with_reducible rfl));try simp only[aB])
   iterate 6 (apply Yl.skip rfl (by kernel_rfl);try simp only[aB])
   iterate 1 (apply Yl.cons rfl (by kernel_rfl);focus (intro C hx;clear hx;go_simp<;>rfl);try simp only[aB])
   exact Yl.nil
  try simp only[aB]
  refine rD ?_
  have Ba:=ag (q.o.2.2.1.a t.2.2.2.2);have FE:=ag (q.o.2.2.2.1.trans (t.2.2.2.2.mono q.o.2.2.2.1.size));have Dx:=ag q.o.2.2.2.2.2;clear t hK am;have hc:=Ba.o.cell;have u:=Ba.o.fz;obtain⟨z0,E, -⟩:=Ba.o.put (.slice none 0 0);obtain⟨y,Q⟩:=Ba.o;have H:=ag (show bi (aW.setCell ⟨R0,0,none⟩ (.slice none 0 0)) w.heap.size (.slice none 0 0) _ from bi.nil _ _);have I:=ag (FE.o.grown E FE.o.size (by intro k U;cases U;have:=Dx.o;omega));clear Q E;go_wp2;obtain⟨V,J⟩:=ak (aW.setCell ⟨R0,0,none⟩ (.slice none 0 0));rw[<-J]at z0 H I⊢;try simp only[Exit.inBlock,Exit.then]
  refine bodyPost_ret (v:=.tuple #[.agg #[.slice none 0 0],.int .i64 8]) ?_ rfl ⟨.slice none 0 0,by rw[M.o],by rw[HL.o];exact H.o,I.o⟩
  clear J hc u;simp[results,Tryz.results120,go_sem, *]
theorem qaly(w:World)(l:az)(h:l.length<=maxLen)(cs:Array Value)(a:cs.toList=bO l):bG (w.alloc (.cells cs 5)) w.heap.size (.slice (some ⟨w.heap.size,0,none⟩) l.length l.length) l:=by
 show World.ownsRow _ _ _ _ _ _ _
 have hl:cs.size=l.length:=by rw[<-Xd2,a];simp[bO]
 refine⟨by simp[bO],.inr ⟨w.heap.size,l.length,cs,rfl,Nat.le_refl _,heap_alloc_new _ _,Nat.le_refl _,h,by simp[hl], ?_⟩⟩;rw[a,Xa1 (by simp[bO])]
theorem qzt(n:Nat)(h:n<4294967296):#[Value.int .u8 ((n:Int)%256),.int .u8 ((n:Int) / 256%256),.int .u8 ((n:Int) / 65536%256),.int .u8 ((n:Int) / 16777216)].toList=bO (gV n):=by
 simp only[bO,gV,List.map_cons,List.map_nil,UInt8.toNat_ofNat'];have e1:((n%256%2^8:Nat):Int)=(n:Int)%256:=by omega
 have a:((n / 256%256%2^8:Nat):Int)=(n:Int) / 256%256:=by omega
 have b:((n / 65536%256%2^8:Nat):Int)=(n:Int) / 65536%256:=by omega
 have c:((n / 16777216%256%2^8:Nat):Int)=(n:Int) / 16777216:=by omega
 rw[e1,a,b,c]
theorem qtk(n:Nat)(w:World)(a:n<4294967296):
  Calls Tryz.prog 271 #[.int .u32 n] w fun e w'=>∃v,e=.returned v∧bG w' w.heap.size v (gV n)∧ah w w':=by
 go_enter Tryz.func271,Tryz.ntmps271;go_wp2;go_ret;exact⟨_,rfl,qaly w (gV n) (by unfold maxLen;rw[zo];decide) _ (qzt n a),ae⟩
def Ja:Value->Nat
 | .slice _ n _=>n
 |_=>0
theorem qahz{b:az}(h:b.length=4):∃a c d e:UInt8,b=[a,c,d,e]:=by
 match b,h with
 |[a,c,d,e],_=>exact⟨a,c,d,e,rfl⟩
theorem qalz(a b c d:UInt8):((((a.toNat:Int)+(b.toNat:Int)%4294967296*256+(c.toNat:Int)%4294967296*65536)%4294967296+(d.toNat:Int)%4294967296*16777216%4294967296)%4294967296)=(jK [a,b,c,d]:Nat):=by
 have e:=a.toNat_lt;have f:=b.toNat_lt;have g:=c.toNat_lt;have h:=d.toNat_lt;simp only[jK];omega
theorem qx7(g a f:Nat)(b:az)(w:World)(hb:b.length=4)(d:Rd w (.slice (some ⟨g,a,none⟩) 4 f) b):
  Calls Tryz.prog 241 #[.slice (some ⟨g,a,none⟩) 4 f] w fun e w'=>e=.returned (.int .u32 (jK b))∧ah w w':=by
 have c:∀j,(h:j<b.length)->w.cell? ⟨g,a+j,none⟩=some (.int .u8 (b[j]).toNat):=by
  rcases d with⟨rfl,_⟩|⟨p,i,q,e,_,_,o⟩
  ·exact absurd hb (by decide)
  simp only[Value.slice.injEq,Option.some.injEq,Addr.mk.injEq]at e
  obtain⟨⟨rfl,rfl,_⟩,_,rfl⟩:=e;exact o
 obtain⟨k,l,m,n,rfl⟩:=qahz hb;have c0:w.cell? ⟨g,a,none⟩=some (.int .u8 k.toNat):=c 0 (by simp);have c1:w.cell? ⟨g,a+1,none⟩=some (.int .u8 l.toNat):=c 1 (by simp);have c2:w.cell? ⟨g,a+2,none⟩=some (.int .u8 m.toNat):=c 2 (by simp);have c3:w.cell? ⟨g,a+3,none⟩=some (.int .u8 n.toNat):=c 3 (by simp);clear c d hb;go_enter Tryz.func241,Tryz.ntmps241;go_wp2;go_quiet (fail)
 go_wp2;go_ret;exact⟨congrArg (fun x=>Ending.returned (.int .u32 x)) (qalz k l m n),below_drewN aF _⟩
theorem qov(a:Nat)(w:World)(d:a<4294967296):
  Calls Tryz.prog 119 #[.int .u32 a] w fun e w'=>e=.returned (.tuple #[.int .i64 (a%2:Nat),.int .i64 (2+a%2*16:Nat)])∧w'=w:=by
 rcases(by omega:a%2=0∨a%2=1)with h|h
 ·have b:(a:Int)%2=0:=by omega
  have c:Int.tmod (a:Int) 2=0:=by rw[Int.tmod_eq_emod_of_nonneg (by omega)];exact b
  rw[h];go_enter Tryz.func119,Tryz.ntmps119;go_wp2;go_ret2;exact⟨rfl,rfl⟩
 have b:(a:Int)%2=1:=by omega
 have c:Int.tmod (a:Int) 2=1:=by rw[Int.tmod_eq_emod_of_nonneg (by omega)];exact b
 rw[h];go_enter Tryz.func119,Tryz.ntmps119;go_wp2;go_ret2;exact⟨rfl,rfl⟩
theorem qvn(b:Nat)(size:Int)(w:World)(O:b<4294967296):
  Calls Tryz.prog 242 #[.int .u32 b,.int .i64 size] w fun e w'=>∃H,e=.returned (.tuple #[H,.int .i64 (iT b size).2])∧bG w' w.heap.size H (iT b size).1∧ah w w':=by
 by_cases r:b=0
 ·have f:=ag (show iT b size=([],2)by unfold iT;rw[if_pos (.inl r)])
  have j:(b:Int)=0:=by omega
  go_enter Tryz.func242,Tryz.ntmps242;go_wp2;go_ret2;rw[f.o];exact⟨_,rfl,Xa7 _ _ _ _,aF⟩
 have j:¬(b:Int)=0:=by omega
 by_cases t:size<0
 ·have f:=ag (show iT b size=([],2)by unfold iT;rw[if_pos (.inr (.inl t))])
  go_enter Tryz.func242,Tryz.ntmps242;go_wp2;go_ret2;rw[f.o];exact⟨_,rfl,Xa7 _ _ _ _,aF⟩
 have u:decide (size<0)=false:=by simpa using t
 by_cases v:2048<size
 ·have f:=ag (show iT b size=([],2)by unfold iT;rw[if_pos (.inr (.inr v))])
  go_enter Tryz.func242,Tryz.ntmps242;go_wp2;go_ret2;rw[f.o];exact⟨_,rfl,Xa7 _ _ _ _,aF⟩
 have y:decide (2048<size)=false:=by simpa using v
 obtain⟨s,rfl⟩:∃s:Nat,size=s:=⟨size.toNat,by omega⟩
 have U:s<=2048:=by omega
 have f:=ag (show iT b s=(gV b++(gV s++List.replicate 120 0),0)by rw[qrx r (by omega) (by omega)];rfl);have P:IntKind.u32.wrap (s:Int)=s:=by rw[IntKind.wrap_u32'];omega
 have V:(s:Int)%4294967296=s:=by omega
 go_enter Tryz.func242,Tryz.ntmps242;go_wp2_with fail
 refine(qtk b _ O).mono ?_
 rintro e W⟨X,rfl,I,g⟩;go_wp2_with fail
 refine(qtk s _ (by omega)).mono ?_
 rintro e J⟨Y,rfl,d,h⟩;have l:=I.a h;have z:ah w J:=g.trans (h.mono g.size);have A:=ag d.rd;clear I d g h r t v j u y;go_wp2_with (at_builtin;go_must (refine Wh w J rfl (.tmp 18) (.tmp 21) 23 rfl w.heap.size 5 Tryz.underlying23 Tryz.infoB _ (gV b) l rfl z aL _ (gV s) A.o rfl (by simp[zo]) ?_);intro Z w3 B C)
 go_loopw [6] (fun x wr=>∃k:Nat,k<=120∧wr.ownsRow w.heap.size 5 1 x (gV b++gV s++List.replicate k 0).length (bO (gV b++gV s++List.replicate k 0))∧ah w wr) (fun x _=>128-Ja x)
 case atStart=>exact⟨0,Xd5 _,by simpa using B,C⟩
 obtain⟨k,hk,D,K⟩:=hrel;have L:bG wr w.heap.size _ (gV b++gV s++List.replicate k 0):=D;obtain⟨a,c,rfl⟩:=L.form;obtain⟨n,m⟩:=ak ((gV b++gV s++List.replicate k 0).length);have E:n=8+k:=by rw[m];simp[zo];omega
 have d:wr.ownsRow w.heap.size 5 1 (.slice a n c) (gV b++gV s++List.replicate k 0).length (bO (gV b++gV s++List.replicate k 0)):=by rw[m];exact D
 rw[<-m];have Q:=ag m;clear D L m;by_cases R:k<120
 ·have p:(n:Int)<128:=by omega
  have M:=ag E;clear E;go_wp2_with (at_builtin;go_must (refine Q7 w wr rfl (.tmp 26) (.tmp 27) 23 rfl w.heap.size 5 Tryz.underlying23 Tryz.infoB _ _ d rfl K aL _ 0 rfl rfl (by rw[<-Q.o,M.o];omega) ?_);intro v4 S i F)
  have e:gV b++gV s++List.replicate k 0++[0]=gV b++gV s++List.replicate (k+1) 0:=by rw[Xa8 _ (List.replicate k 0) [0],<-List.replicate_succ']
  rw[e]at i;have q:bG S w.heap.size _ (gV b++gV s++List.replicate (k+1) 0):=i;obtain⟨a4,c4,N⟩:=q.form;have G:(gV b++gV s++List.replicate (k+1) 0).length=n+1:=by rw[M.o];simp[zo];omega
  rw[G]at N;subst N;go_roundw
  case rel=>exact⟨k+1,by omega,i,F⟩
  simp[Ja]<;>omega
 obtain rfl:k=120:=by omega
 have p:decide ((n:Int)<128)=false:=aC (by omega);have T:=ag d;clear d E;go_wp2;go_ret2;rw[f.o];refine⟨_,rfl, ?_,K⟩;show World.ownsRow _ _ _ _ _ _ _
 rw[<-Xa8];exact T.o
theorem qal0(b:az)(v:Value)(w:World)(d:Rd w v b):
  Calls Tryz.prog 192 #[v] w fun e w'=>e=.returned (.tuple #[.int .u32 (jL b).1,.int .i64 (jL b).2.1,.int .i64 (jL b).2.2])∧ah w w':=by
 obtain⟨a,c,rfl⟩:=d.form;by_cases hl:b.length=128
 ·rw[hl]at d⊢
  obtain⟨g,f,rfl, -,R,j⟩:=Fj d 0 4 (by omega) (by omega);obtain⟨g',N,S, -, -,k⟩:=Fj d 4 8 (by omega) (by omega);cases S;have e1:(b.drop 0).take (4-0)=b.take 4:=rfl;have O:(b.drop 4).take (8-4)=(b.drop 4).take 4:=rfl;rw[e1]at j;rw[O]at k;have j:Rd w (.slice (some ⟨g,f,none⟩) 4 c) (b.take 4):=j;have k:Rd w (.slice (some ⟨g,f+4,none⟩) 4 (c-4)) ((b.drop 4).take 4):=k;have D:(b.take 4).length=4:=by rw[Xa4];omega
  have E:((b.drop 4).take 4).length=4:=by rw[Xa4,Xa9];omega
  obtain⟨G,z⟩:=ak (jK (b.take 4));obtain⟨Z,A⟩:=ak (jK ((b.drop 4).take 4));have T:G<4294967296:=by rw[z];have:=Kv (b.take 4);rw[D]at this;omega
  have hZ:Z<4294967296:=by rw[A];have:=Kv ((b.drop 4).take 4);rw[E]at this;omega
  have B:=ag (show jL b=if(iT G Z).2≠0∨b≠(iT G Z).1 then(0,0,8)else(G,Z,0)by unfold jL;rw[if_neg (by omega),<-z,<-A]);have U:=ag d;have F:=ag j;have H:=ag k;have V:=ag D;have I:=ag E;have W:=ag z;have X:=ag A;have Y:IntKind.i64.wrap (Z:Int)=Z:=by rw[IntKind.wrap_i64];omega
  have J:(4:Int)<=c:=by omega
  have K:(8:Int)<=c:=by omega
  have iw:8<=c:=by omega
  have qN:4<=c:=by omega
  have L:¬c=0:=by omega
  have s:¬c=4:=by omega
  have t:¬4=c:=by omega
  clear hl d j k e1 O D E z A;have C:aN (fun u=>Rd u (.slice (some ⟨g,f,none⟩) 4 c) (b.take 4)∧Rd u (.slice (some ⟨g,f+4,none⟩) 4 (c-4)) ((b.drop 4).take 4)∧ah w u):=fun w1 w2 h M=>⟨h.1.a M,h.2.1.a M,h.2.2.trans (M.mono h.2.2.size)⟩
  go_enter Tryz.func192,Tryz.ntmps192;go_wp2;refine iH C (by kernel_rfl) ⟨F.o,H.o,aF⟩ ?_
  intro l;refine rP [0,1,3,4] 4 ?AL ?nS l ?AO
  case nS=>
   iterate 4 (apply Yl.cons rfl rfl;focus (rintro u⟨x1,x2,x3⟩;go_simp<;>rfl);try simp only[aB])
   exact Yl.nil
  refine rV C 2 (.int .u32 G) rfl l ((qx7 g f c _ _ V.o l.1).mono fun e wy ⟨h1,h2⟩=>⟨h1.trans (by rw[W.o]),h2⟩) ?_
  clear l;intro BC l;try simp only[aB]
  refine rV C 5 (.int .u32 Z) rfl l ((qx7 g (f+4) (c-4) _ _ I.o l.2.1).mono fun e wy ⟨h1,h2⟩=>⟨h1.trans (by rw[X.o]),h2⟩) ?_
  clear l;intro aa l;try simp only[aB]
  refine rP [6,7] 0 ?AP ?nT l ?AQ
  case nT=>
   iterate 2 (apply Yl.cons rfl rfl;focus (rintro u⟨x1,x2,x3⟩;go_simp<;>rfl);try simp only[aB])
   exact Yl.nil
  refine rD ?_
  try simp only[aB]
  obtain⟨-, -,q⟩:=l;clear J K iw qN L s t C;by_cases hz:2048<Z
  ·have r:(2048:Int)<Z:=by omega
   have m:=ag (show jL b=(0,0,8)by rw[B.o,if_pos (.inl (by unfold iT;rw[if_pos (.inr (.inr r))];decide))]);go_wp2;go_ret3;rw[m.o];exact⟨rfl,q⟩
  have r:decide ((2048:Int)<Z)=false:=aC (by omega);go_wp2_with fail
  refine(qvn G Z _ T).mono ?_
  rintro e w3⟨bv,rfl,x,y⟩;have n:ah w w3:=q.trans (y.mono q.size);have sV:=ag x;clear x y r;by_cases p:(iT G Z).2=0
  ·rw[p]
   have h1:=sD (P:=Tryz.prog) 23 5 9 Tryz.underlying23 Tryz.underlying5 Tryz.underlying9 sV.o.rd;have h2:=sD (P:=Tryz.prog) 23 5 9 Tryz.underlying23 Tryz.underlying5 Tryz.underlying9 (U.o.a n);by_cases i:b=(iT G Z).1
   ·have m:=ag (show jL b=(G,Z,0)by rw[B.o,if_neg (by rw[p];simp[<-i])])
    rw[<-i]at h1;clear i;go_wp2;go_ret3;rw[m.o];exact⟨rfl,n⟩
   have m:=ag (show jL b=(0,0,8)by rw[B.o,if_pos (.inr i)]);have Q:((bs (iT G Z).1).toList==(bs b).toList)=false:=by
    rw[Qf];simp;intro h;exact i h.symm
   clear i;go_wp2;go_ret3;rw[m.o];exact⟨rfl,n⟩
  have m:=ag (show jL b=(0,0,8)by rw[B.o,if_pos (.inl p)]);rw[show(iT G Z).2=2 by rw[qnt p]];go_wp2;go_ret3;rw[m.o];exact⟨rfl,n⟩
 have m:=ag (show jL b=(0,0,3)by unfold jL;rw[if_pos hl]);have ab:¬(b.length:Int)=128:=by omega
 go_enter Tryz.func192,Tryz.ntmps192;go_wp2;go_ret3;rw[m.o];exact⟨rfl,aF⟩
theorem qvo{d:Dk}(w:World)(O:kN w v d):
  Calls Tryz.prog 118 #[v] w fun e w'=>e=.returned (.tuple #[.int .u32 (jl d).1,.int .i64 (jl d).2.1,.int .i64 (jl d).2.2])∧ah w w':=by
 obtain⟨a1,c1,a2,c2,a3,c3,rfl,P,_,_⟩:=O.form;have Q:d.1.length<=maxLen:=P.len_le;have HD:=ag O;have H1:=ag P;clear O P;generalize e1:d.1.length=n1 at *;generalize e2:d.2.1.length=n2 at *;generalize e3:d.2.2.length=n3 at *;have E1:=ag e1;clear e1 e2 e3;obtain⟨q,R⟩:=ak (n1 / 128);have S:=ag (show q=bD d by rw[bD,E1.o,R]);have HC:=ag (fun L=>R▸Tm a1 a2 a3 n1 c1 n2 c2 n3 c3 Q L:∀L,Calls Tryz.prog 116 #[.agg #[.slice a1 n1 c1,.slice a2 n2 c2,.slice a3 n3 c3]] L fun e w'=>e=.returned (.int .i64 q)∧ah L w');clear R;obtain⟨w1,T⟩:=au (w.alloc (.cells #[.slice a1 n1 c1,.slice a2 n2 c2,.slice a3 n3 c3] 27));have c:ah w w1:=by rw[<-T];exact ae
 have u:w1.heap[w.heap.size]? =some (.cells #[.slice a1 n1 c1,.slice a2 n2 c2,.slice a3 n3 c3] 27 (0,0)):=by rw[<-T];exact heap_alloc_new _ _
 obtain⟨U,V,W, -⟩:=cells3 u;go_enter Tryz.func118,Tryz.ntmps118;go_wp2_with fail
 refine(qjg (d:=d) _ (HD.o.a c)).mono ?_
 rintro e w2⟨rfl,x⟩;have f:ah w w2:=c.trans (x.mono c.size);have y:=gI _ _ _ _ u x;clear T U V W c x u;obtain⟨U,V,W, -⟩:=cells3 y;rcases Hd d with⟨h,a⟩|⟨h,a⟩
 ·rw[a]
  have wV:=ag a;have jU:=ag h;clear a h;go_wp2_with fail
  refine(HC.o _).mono ?_
  rintro e X⟨rfl,z⟩;have A:ah w X:=f.trans (z.mono f.size);have Y:=gI _ _ _ _ y z;clear U V W z y f;by_cases Z:q<=34
  ·have B:=ag (show jl d=(0,0,70)by unfold jl;rw[if_neg (by rw[wV.o];decide),if_pos (by rw[<-S.o];exact Z)])
   have E:(q:Int)<=34:=by omega
   go_wp2;go_ret3;rw[B.o];exact⟨rfl,A⟩
  have B:=ag (show jl d=if(iD d 2).1=0 then(0,0,70)else((iD d 2).1,(iD d 2).2,0)by unfold jl;rw[if_neg (by rw[wV.o];decide),if_neg (by rw[<-S.o];exact Z)];rfl);have E:decide ((q:Int)<=34)=false:=aC (by omega);have HM:=ag (show 34<bD d by rw[<-S.o];omega);clear Z;go_wp2;clear E;go_loopw [6,7,8] (fun g s i wr=>∃k:Nat,k<=2∧i=.int .i64 k∧g=.int .u32 (iD d k).1∧s=.int .i64 (iD d k).2∧ah X wr) (fun _ _ i _=>2-(intOf i).toNat)
  case atStart=>exact⟨0,Xd5 _,rfl,rfl,rfl,aF⟩
  obtain⟨k,hk,rfl,rfl,rfl,j⟩:=hrel;have C:ah w wr:=A.trans (j.mono A.size);obtain⟨r,er⟩:=ak (iD d k);rw[<-er];have F:=ag er;clear er;by_cases an:k<2
  ·have G:(k:Int)<2:=by omega
   have H:=gI _ _ _ _ Y j;obtain⟨l0,l1,l2, -⟩:=cells3 H;have t:d.1.length=128*bD d:=by
    have:=((sM d).1 jU.o).1
    unfold bD;omega
   have D:n1=128*bD d:=by rw[<-E1.o];exact t
   have aa:=HM.o;obtain⟨b9,o9,rfl, -,ab,l⟩:=Fj (H1.o.a C) (k*128) ((k+1)*128) (by omega) (by omega);have eb:(d.1.drop (k*128)).take ((k+1)*128-k*128)=blk d.1 k:=by
    unfold blk;rw[show(k+1)*128-k*128=128 by omega,Nat.mul_comm]
   rw[eb]at l;have hx:k*128+128-k*128=128:=by omega
   rw[show(k+1)*128-k*128=128 by omega]at l;have Ao:=ag l;have ac:k*128+128<=c1:=by omega
   have G9:¬k*128=c1:=by omega
   obtain⟨ad, -, -⟩:=Kr k (by omega);have ai:wrap64 (((k*128:Nat):Int)+128)=((k*128+128:Nat):Int):=by unfold wrap64;omega
   obtain⟨o,M⟩:=ak (jL (blk d.1 k));have m:=ag M;have aj:o.1<4294967296:=by rw[M];exact(rz _).1
   have Bw:=ag (show o.2.2≠0->o.1=0∧o.2.1=0 by rw[M];exact Sn);clear M l eb t D aa;go_wp2_with fail
   refine(qal0 (blk d.1 k) _ _ Ao.o).mono ?_
   rw[<-m.o];rintro e w4⟨rfl,I⟩;have N:ah X w4:=j.trans (I.mono j.size);clear I l0 l1 l2 H ad ai G9 ac hx ab;go_wp2_with fail
   refine(qov o.1 _ aj).mono ?_
   rintro e w5⟨rfl,rfl⟩;by_cases n:o.2.2=0
   ·by_cases J:o.1%2=k
    ·have al:((o.1%2:Nat):Int)=k:=by omega
     have p:mi d k=(o.1,o.2.1):=by unfold mi;rw[<-m.o,if_pos J]
     by_cases K:r.1<o.1
     ·have KO:(r.1:Int)<o.1:=by omega
      have b:=ag (show iD d (k+1)=(o.1,o.2.1)by show sU (iD d k) (mi d k)=_;rw[<-F.o,p];unfold sU;rw[if_pos K]);rw[n];clear p J;go_wp2;go_roundw
      case rel=>exact⟨k+1,by omega,by go_num,by rw[b.o],by rw[b.o],N⟩
      simp[intOf]<;>omega
     have KO:decide ((r.1:Int)<o.1)=false:=aC (by omega);have b:=ag (show iD d (k+1)=r by show sU (iD d k) (mi d k)=r;rw[<-F.o,p];unfold sU;rw[if_neg K]);rw[n];clear p J;go_wp2;go_roundw
     case rel=>exact⟨k+1,by omega,by go_num,by rw[b.o],by rw[b.o],N⟩
     simp[intOf]<;>omega
    have al:¬((o.1%2:Nat):Int)=k:=by omega
    have b:=ag (show iD d (k+1)=r by show sU (iD d k) (mi d k)=r;rw[<-F.o];unfold mi;rw[<-m.o,if_neg J];unfold sU;rw[if_neg (by simp)]);rw[n];clear J;go_wp2;go_roundw
    case rel=>exact⟨k+1,by omega,by go_num,by rw[b.o],by rw[b.o],N⟩
    simp[intOf]<;>omega
   obtain⟨z1,z2⟩:=Bw.o n
   have b:=ag (show iD d (k+1)=r by
    show sU (iD d k) (mi d k)=r
    rw[<-F.o];unfold mi;rw[<-m.o,z1,z2];unfold sU;split<;>(rw[if_neg (by simp)]))
   clear z1 z2;go_wp2;go_roundw
   case rel=>exact⟨k+1,by omega,by go_num,by rw[b.o],by rw[b.o],N⟩
   simp[intOf]<;>omega
  have G:decide ((k:Int)<2)=false:=aC (by omega);obtain rfl:k=2:=by omega
  rw[<-F.o]at B;by_cases hz:r.1=0
  ·have xN:=ag (B.o.trans (if_pos hz))
   have am:(r.1:Int)=0:=by omega
   go_wp2;go_ret3;rw[xN.o];exact⟨rfl,C⟩
  have xN:=ag (B.o.trans (if_neg hz));have am:¬(r.1:Int)=0:=by omega
  clear hz;go_wp2;go_ret3;rw[xN.o];exact⟨rfl,C⟩
 rw[a]
 have B:=ag (show jl d=(0,0,20)by unfold jl;rw[if_pos (by rw[a];decide),a]);clear a h;go_wp2;go_ret3;rw[B.o];exact⟨rfl,f⟩
end Go.Proofs.YtmeaiocohalphaaGreatDoor
