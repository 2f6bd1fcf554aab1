/-
  Of the document's side of layer 5: Read.
-/
import Derived.Test.YthpammbgcidloaaGreatFiRd6
set_option maxHeartbeats 8000000
set_option maxRecDepth 100000
namespace Go.Proofs.YthpammbgcidloaaGreat
open Go.RowKit
set_option linter.all false
theorem qm6 {b:Operand} {a:Act} {w:World} {v:Value} {l:ak} {o:Oper} (c:o.op=.convert 22 9 b) (hv:a.eval b=v) (h:Rd w v l):(execOp a.eval o).run Tryz.prog w=.ok (.value (.string (bs l))) w:=qxt c Tryz.underlying22 Tryz.underlying5 Tryz.underlying9 hv h
theorem R4 (m:Nat) (h:m<=4096):wrap64 (m:Int)=(m:Int):=by unfold wrap64;omega
theorem qac5 (a:au) (n c:Nat) (b:ak) (B:Int) (w:World) (bz:Rd w (.slice a n c) b) (hn:n=b.length):
  Calls Tryz.prog 65 #[.slice a n c,.int .i64 B] w fun e w'=>∃v,e=.returned (.tuple #[.agg #[v],.int .i64 (kZ b B)])∧bJ w' w.heap.size v (rT b B)∧ah w w':=by
 obtain ⟨W0,ad⟩:=ai (w.alloc (.cells #[.slice none 0 0] 30));have bC:ah w W0:=by rw [ad];exact ae
 have dW:=ag (show dV W0 w.heap.size by rw [ad];exact dV.new w _);have dM:=ag bC;have HR:=ag bz;have HN:=ag hn;have xQ:=qke B W0;clear bz hn bC;by_cases g1:fq B
 case neg=>
  rw [decide_eq_false g1] at xQ;have M:=ag (qrv (b:=b) g1);have HL:=ag (BI (b:=b) (B:=B) (by rw [M.o];omega));clear g1;go_enter Tryz.func65,Tryz.ntmps65;go_wp2_with fail
  rw [<-ad];clear ad;refine (xQ).mono ?_
  rintro e w1 ⟨rfl,T⟩;have eO:=ag (dW.o.a T);have bi:=bT dM T;clear dW dM T;clear xQ;have hc:=eO.o.cell;have u:=eO.o.fz;obtain ⟨z0,E, -⟩:=eO.o.put (.slice none 0 0);obtain ⟨y,Q⟩:=eO.o;have H:=ag (show bJ (w1.setCell ⟨w.heap.size,0,none⟩ (.slice none 0 0)) w.heap.size (.slice none 0 0) _ from bJ.nil _ _);have I:=ag (bi.o.grown E bi.o.size (by intro k U;cases U;omega));clear Q E;go_wp2;obtain ⟨V,J⟩:=ai (w1.setCell ⟨w.heap.size,0,none⟩ (.slice none 0 0));rw [<-J] at z0 H I ⊢;try simp only [Exit.inBlock,Exit.then]
  refine bodyPost_ret (v:=.tuple #[.agg #[.slice none 0 0],.int .i64 2]) ?_ rfl ⟨.slice none 0 0,by rw [M.o],by rw [HL.o];exact H.o,I.o⟩
  clear J hc u;simp [results,Tryz.results65,go_sem, *]
 rw [decide_eq_true g1] at xQ;have qb:=ag g1;clear g1;go_enter Tryz.func65,Tryz.ntmps65;go_wp2_with fail
 rw [<-ad];clear ad;refine (xQ).mono ?_
 rintro e w1 ⟨rfl,T⟩;have eO:=ag (dW.o.a T);have bi:=bT dM T;clear dW dM T;clear xQ;by_cases g2:2048<n
 ·have cF:(2048:Int)<n:=by omega
  have M:=ag (qoa qb.o (by have:=HN.o;omega:2048<b.length));have HL:=ag (BI (b:=b) (B:=B) (by rw [M.o];omega));have hc:=eO.o.cell;have u:=eO.o.fz;obtain ⟨z0,E, -⟩:=eO.o.put (.slice none 0 0);obtain ⟨y,Q⟩:=eO.o;have H:=ag (show bJ (w1.setCell ⟨w.heap.size,0,none⟩ (.slice none 0 0)) w.heap.size (.slice none 0 0) _ from bJ.nil _ _);have I:=ag (bi.o.grown E bi.o.size (by intro k U;cases U;omega));clear Q E;go_wp2;obtain ⟨V,J⟩:=ai (w1.setCell ⟨w.heap.size,0,none⟩ (.slice none 0 0));rw [<-J] at z0 H I ⊢;try simp only [Exit.inBlock,Exit.then]
  refine bodyPost_ret (v:=.tuple #[.agg #[.slice none 0 0],.int .i64 3]) ?_ rfl ⟨.slice none 0 0,by rw [M.o],by rw [HL.o];exact H.o,I.o⟩
  clear J hc u;simp [results,Tryz.results65,go_sem, *]
 have cF:decide ((2048:Int)<n)=false:=aA (by omega);have mM:=ag (show ¬2048<b.length by have:=HN.o;omega);have tu:=ag (show b.length<=1000000 by have:=HN.o;omega);obtain ⟨X1,ar⟩:=ai (w1.alloc (.cells #[.slice a n c,.bool false] 180));obtain ⟨X2,ax⟩:=ai (X1.alloc (.cells #[.slice none 0 0] 30));have DJ:ah w1 X1:=by rw [ar];exact ae
 have DK:ah X1 X2:=by rw [ax];exact ae
 obtain ⟨R0,aS⟩:=ai w.heap.size;obtain ⟨W,aT⟩:=ai w1.heap.size;obtain ⟨Db,a0⟩:=ai (w1.heap.size+1);obtain ⟨Bs,wM⟩:=ai (w1.heap.size+2);have Jb:X1.heap.size=w1.heap.size+1:=by rw [ar];simp
 have bD:X2.heap.size=w1.heap.size+2:=by rw [ax];simp [Jb]
 have cG:w.heap.size<w1.heap.size:=by obtain ⟨y,Q⟩:=eO.o;exact (Array.getElem?_eq_some_iff.1 Q).1
 have zi:=ag (show bM X2 W (.slice a n c) false by rw [aT];refine bM.a ?_ DK;rw [ar];exact bM.new w1 _ _);have Aw:=ag (show mf w R0 W Db Bs (.slice none 0 0) [] X2 by
  refine ⟨?_,bJ.nil _ _, ?_,bi.o.trans ((DJ.trans (DK.mono DJ.size)).mono bi.o.size),by omega,by omega,by omega,by omega,by omega,by omega,by omega,by omega,by omega,by omega⟩
  ·rw [a0,<-Jb,ax];exact bG.new X1 _
  ·rw [aS];exact (eO.o.a DJ).a DK)
 have bF:=ag Aw.o.2.2.2.1;go_wp2_with fail
 rw [<-ar,<-ax];rw [<-a0];rw [<-aT];rw [<-aS];refine (XK W a n c b false 40 X2 zi.o (HR.o.a bF.o) HN.o tu.o).mono ?_
 rintro e x1 ⟨m0,l1,wG,rfl,K,a1,c1,bH,bI,bN,bO⟩;have cW:m0<=40:=K.le.1;have Ev:=ag (qy2 K);have uz:=ag K.le.2;have F5:=ag (Aw.o.rdr zi.o bN bO);have bP:=ag bI;have rU:=ag bH;clear K bI bN bO bH zi Aw bF ar ax DJ DK aS aT a0 wM Jb bD cG eO bi;obtain ⟨q1,a7⟩:=ai l1.length;rw [<-a7] at bP rU;have bR:=ag a7;clear a7;go_wp2;go_loopw [9] (fun i wr=>∃k:Nat,k<=m0∧i=.int .u64 k∧∃av nv cv l ay vd A,af (nv=l.length)∧af (l.length<=b.length)∧af (bM wr W (.slice av nv cv) ay)∧af (iq (.slice a n c) b (.slice av nv cv) l)∧af (mf w R0 W Db Bs vd A wr)∧af (A.length<=k)∧af (∀f∈A,∀x∈f.2,qB x)∧af (yt b m0 k A l ay)) (fun i _=>m0 - (intOf i).toNat)
 case atStart=>exact ⟨0,Nat.zero_le _,rfl,a1,q1,c1,l1,wG,.slice none 0 0,[],bR,uz,bP,rU,F5,ag aI,ag (by simp),Ev⟩
 case round=>
  obtain ⟨k,U,rfl,av,nv,cv,l,ay,vd,A,cH,bS,aF,bU,q,al,am,Y⟩:=hrel;have rb:=aF.o.cell1;by_cases a8:k<m0∧ay=false
  ·obtain ⟨a9,rfl⟩:=a8
   have aD:(k:Int)<m0:=by omega
   have AR:=ag (bU.o.1 _ (HR.o.a q.o.2.2.2.1));go_wp2_with fail
   refine (Eo W av nv cv l false wr aF.o AR.o cH.o (by have:=bS.o;have:=tu.o;omega)).mono ?_
   rintro e N ⟨s,l2,wH,rfl,ba,a2,c2,b0,b1,b2,b3⟩;have b4:=ag ba;have b5:=ag (aC ba.le bS.o);have bb:=ag (bU.o.trans b0);have gT:=ag (q.o.rdr aF.o b2 b3);have aH:=ag b1;clear ba b0 b1 b2 b3 AR rb;obtain ⟨q2,bc⟩:=ai l2.length;rw [<-bc] at aH bb;have b6:=ag bc;clear bc;obtain ⟨y2,aE⟩:=ai (N.alloc (.cells #[.string (bs s),.slice none 0 0] 98));have aa:ah N y2:=by rw [aE];exact ae
   obtain ⟨F,hF⟩:=ai N.heap.size;have bd:=ag (aH.o.a aa);have WJ:=ag (gT.o.a aa);have b7:=ag (show Mem N W F (F+1) (bs s) (.slice none 0 0) [] y2 from ⟨by rw [aE,hF];exact aQ.new N _ _,bB.nil _ _,RY (qy3 N _) aa,by rw [aE,hF];simp,(Array.getElem?_eq_some_iff.1 aH.o).1,hF,rfl⟩);have AR:=ag (bb.o.1 _ (HR.o.a WJ.o.2.2.2.1));go_wp2_with fail
   rw [<-aE];rw [<-hF];clear aa aE hF;refine (XK W a2 q2 c2 l2 wH 64 y2 bd.o AR.o b6.o (by have:=b5.o;have:=tu.o;omega)).mono ?_
   rintro e y3 ⟨m,l3,b8,rfl,K,a3,c3,b9,ca,cb,cc⟩;have hm:m<=64:=K.le.1;have cI:=ag (Cg Y.o a9 b4.o K);have I6:=ag (aC K.le.2 b5.o);have Dx:=ag (bb.o.trans b9);have cJ:=ag (b7.o.rdr bd.o cb cc);have cd:=ag ca;clear K b9 ca cb cc AR WJ b7 bd b4;obtain ⟨q3,be⟩:=ai l3.length;rw [<-be] at cd Dx;have ce:=ag be;clear be;go_wp2;go_loopw [12] (fun i C=>∃j:Nat,j<=m∧i=.int .u64 j∧∃aw nw cw lw wI ve L,af (nw=lw.length)∧af (lw.length<=b.length)∧af (bM C W (.slice aw nw cw) wI)∧af (iq (.slice a n c) b (.slice aw nw cw) lw)∧af (Mem N W F (F+1) (bs s) ve L C)∧af (L.length<=j)∧af (∀x∈L,qB x)∧af (RZ b k s m j L lw wI)) (fun i _=>m - (intOf i).toNat)
   case atStart=>exact ⟨0,Nat.zero_le _,rfl,a3,q3,c3,l3,b8,.slice none 0 0,[],ce,I6,cd,Dx,cJ,ag aI,ag (by simp),cI⟩
   case round=>
    obtain ⟨j,hj,rfl,aw,nw,cw,lw,wI,ve,L,bg,XM,G,aJ,r,D,an,MW⟩:=hrel;obtain ⟨C,cf⟩:=ai wr;rw [<-cf] at G r ⊢;clear cf;have cK:=G.o.cell1;have AU:=ag (gT.o.after aH.o r.o.2.2.1);by_cases bh:j<m∧wI=false
    ·obtain ⟨cL,rfl⟩:=bh
     have cV:(j:Int)<m:=by omega
     have AR:=ag (aJ.o.1 _ (HR.o.a AU.o.2.2.2.1));go_wp2_with fail
     refine (XK W aw nw cw lw false 4096 C G.o AR.o bg.o (by have:=XM.o;have:=tu.o;omega)).mono ?_
     rintro e z1 ⟨x,l4,cg,rfl,aK,a4,c4,ch,ci,bj,bk⟩;have cM:x<=4096:=aK.le.1;have mF:=ag aK;have zg:=ag (aC aK.le.2 XM.o);have IX:=ag (aJ.o.trans ch);have XN:=ag (r.o.rdr G.o bj bk);have cj:=ag (AU.o.rdr G.o bj bk);have Df:=ag ci;clear aK ch ci bj bk AR cK G r AU;obtain ⟨q4,bl⟩:=ai l4.length;rw [<-bl] at Df IX;have ck:=ag bl;clear bl;obtain ⟨z2,ab⟩:=ai (z1.alloc (.cells #[.int .i64 x,.int .i64 0] 185));have aM:ah z1 z2:=by rw [ab];exact ae
     obtain ⟨X,hX⟩:=ai z1.heap.size;have cl:=ag (show dH z2 X (.int .i64 x) (.int .i64 0) by rw [ab,hX];exact dH.new z1 _ _);have R5:∀g,ve.ownBlock=some g->g<X:=by rw [hX];exact own_lt XN.o.2.1
     have cm:F+1<=X:=by rw [hX];exact XN.o.2.2.2.1
     have cn:=ag R5;have BO:=ag cm;have bm:=ag (Df.o.a aM);have co:=ag (XN.o.a aM);have AR:=ag (IX.o.1 _ (HR.o.a (cj.o.a aM).2.2.2.1));have cX:=R4 x cM;clear R5 cm aM Df XN;go_wp2_with fail
     rw [<-ab];rw [<-hX];clear ab hX;refine (XK W a4 q4 c4 l4 cg 4096 z2 bm.o AR.o ck.o (by have:=zg.o;have:=tu.o;omega)).mono ?_
     rintro e z3 ⟨y,l5,R6,rfl,aO,a5,c5,cp,sK,cq,bn⟩;have cN:y<=4096:=aO.le.1;have yX:=ag (zX MW.o cL mF.o aO);have MG:=ag (aC aO.le.2 zg.o);have CO:=ag (IX.o.trans cp);have cr:=ag (co.o.rdr bm.o cq bn);have Jc:=ag (cl.o.keepT (by decide) bn);obtain ⟨q5,bo⟩:=ai l5.length;rw [<-bo] at sK CO;have cx:=ag bo;clear bo;obtain ⟨z4,Aj⟩:=ai (z3.setCell ⟨X,1,none⟩ (.int .i64 y));have XO:=ag (show Mem N W F (F+1) (bs s) ve L z4 by rw [Aj];exact cr.o.setX Jc.o cn.o BO.o _);have bp:=ag (show dH z4 X (.int .i64 x) (.int .i64 y) by rw [Aj];exact Jc.o.put1 _);have XP:=ag (show bM z4 W (.slice a5 q5 c5) R6 by rw [Aj];exact sK.keepT (by decide) (bY.set Jc.o));have cY:=Jc.o.cell0;have c7:=Jc.o.cell1;have c8:=frozen_of_row z3 X 1 _ _ Jc.o;have u0:=bp.o.cell0;have u1:=bp.o.cell1;have f8:=XO.o.1.cell1;obtain ⟨cy,cz,xP⟩:=XO.o.2.1.form;subst xP;obtain ⟨g9,c9,V,d,zY,tL,tN⟩:=XO.o.app XP.o (by have:=D.o;omega) (x:Int) (y:Int);have oI:=ag tL;have oJ:=ag tN;have f9:=zY.cell1;have da:=frozen_of_row V F 1 _ _ zY;have db:=R4 y cN;have cP:=ag (show (L++[((x:Int),(y:Int))]).length<=j+1 by rw [List.length_append];have:=D.o;simp;omega);have nW:=ag (show ∀z∈L++[((x:Int),(y:Int))],qB z by
      intro z hz;rcases List.mem_append.1 hz with hz | hz
      ·exact an.o z hz
      ·obtain rfl:z=((x:Int),(y:Int)):=by simpa using hz
       unfold qB;simp only
       omega)
     clear aO cp sK cq bn AR tL tN zY co bm cl cr Jc XO bp XP cn BO an D MW mF cj zg IX;obtain ⟨fl,O⟩:=ai L.length;rw [<-O] at d f8 f9 oI oJ;clear O;obtain ⟨N9,zZ⟩:=ai (fl+1);rw [<-zZ] at d oI oJ;clear zZ;rw [show z4.heap.size=z3.heap.size by rw [Aj];simp] at d;rw [Aj] at d u0 u1 f8;go_wp2_with (at_builtin;refine ku rfl (.tmp 65) (.tmp 67) 96 rfl rfl rfl rfl d ?_)
     try clear d
     generalize V.setCell ⟨F,1,none⟩ (.slice (some ⟨g9,0,none⟩) N9 c9)=wz at *;go_roundw
     case rel=>exact ⟨j+1,by omega,rfl,a5,q5,c5,l5,R6,_,_,cx,MG,oJ,CO,oI,cP,nW,yX⟩
     case measure=>simp only [intOf];omega
    ·have yu:=ag bh
     clear bh;by_cases cQ:j<m
     ·have cR:wI=true:=by
       cases wI with
       | true=>rfl
       | false=>exact absurd ⟨cQ,rfl⟩ yu.o
      subst cR;have CJ:(j:Int)<m:=by omega
      have br:True:=trivial;have dz:=AU.o.1.cell;have f0:=r.o.1.cell0;have f1:=r.o.1.cell1;obtain ⟨wY,wZ,hvd⟩:=AU.o.2.1.form;subst hvd;obtain ⟨cy,cz,xP⟩:=r.o.2.1.form;subst xP;obtain ⟨g9,c9,V,d,uM,tL,tN⟩:=AU.o.app G.o (by have:=al.o;omega) s _ L (r.o.2.1.mono (by have h1:=r.o.2.2.2.2;have h2:=gT.o.2.2.2.2.1;omega));have d9:=uM.cell;have cS:=frozen_of_row V Db 0 _ _ uM;have oI:=ag tL;have oJ:=ag tN;have BC:=ag (show (A++[(s,L)]).length<=k+1 by rw [List.length_append];have:=al.o;simp;omega);have pI:=ag (show ∀f∈A++[(s,L)],∀x∈f.2,qB x by
       intro f u;rcases List.mem_append.1 u with u | u
       ·exact am.o f u
       ·obtain rfl:f=(s,L):=by simpa using u
        exact an.o)
      have bt:=ag (qs9 Y.o MW.o hj yu.o);clear tL tN uM AU r G an D MW Y al am;obtain ⟨fl,O⟩:=ai A.length;rw [<-O] at d dz d9 oI oJ;clear O;obtain ⟨el,D⟩:=ai L.length;rw [<-D] at d f1;clear D;obtain ⟨N9,zZ⟩:=ai (fl+1);rw [<-zZ] at d oI oJ;clear zZ;go_wp2_with (at_builtin;refine ku rfl (.tmp 71) (.tmp 73) 28 rfl rfl rfl rfl d ?_)
      try clear d
      generalize V.setCell ⟨Db,0,none⟩ (.slice (some ⟨g9,0,none⟩) N9 c9)=wz at *;go_roundw
      case rel=>exact ⟨k+1,by omega,rfl,aw,nw,cw,lw,true,_,_,bg,XM,oJ,aJ,oI,BC,pI,bt⟩
      case measure=>simp only [intOf];omega
     ·have CJ:decide ((j:Int)<m)=false:=aA (by omega)
      have br:True:=trivial;have dz:=AU.o.1.cell;have f0:=r.o.1.cell0;have f1:=r.o.1.cell1;obtain ⟨wY,wZ,hvd⟩:=AU.o.2.1.form;subst hvd;obtain ⟨cy,cz,xP⟩:=r.o.2.1.form;subst xP;obtain ⟨g9,c9,V,d,uM,tL,tN⟩:=AU.o.app G.o (by have:=al.o;omega) s _ L (r.o.2.1.mono (by have h1:=r.o.2.2.2.2;have h2:=gT.o.2.2.2.2.1;omega));have d9:=uM.cell;have cS:=frozen_of_row V Db 0 _ _ uM;have oI:=ag tL;have oJ:=ag tN;have BC:=ag (show (A++[(s,L)]).length<=k+1 by rw [List.length_append];have:=al.o;simp;omega);have pI:=ag (show ∀f∈A++[(s,L)],∀x∈f.2,qB x by
       intro f u;rcases List.mem_append.1 u with u | u
       ·exact am.o f u
       ·obtain rfl:f=(s,L):=by simpa using u
        exact an.o)
      have bt:=ag (qs9 Y.o MW.o hj yu.o);clear tL tN uM AU r G an D MW Y al am;obtain ⟨fl,O⟩:=ai A.length;rw [<-O] at d dz d9 oI oJ;clear O;obtain ⟨el,D⟩:=ai L.length;rw [<-D] at d f1;clear D;obtain ⟨N9,zZ⟩:=ai (fl+1);rw [<-zZ] at d oI oJ;clear zZ;go_wp2_with (at_builtin;refine ku rfl (.tmp 71) (.tmp 73) 28 rfl rfl rfl rfl d ?_)
      try clear d
      generalize V.setCell ⟨Db,0,none⟩ (.slice (some ⟨g9,0,none⟩) N9 c9)=wz at *;go_roundw
      case rel=>exact ⟨k+1,by omega,rfl,aw,nw,cw,lw,wI,_,_,bg,XM,oJ,aJ,oI,BC,pI,bt⟩
      case measure=>simp only [intOf];omega
  ·have yu:=ag a8
   clear a8;obtain ⟨nR,cA⟩:=RS qb.o mM.o Y.o U yu.o;have yf:=ag nR;have yS:=ag cA;have yQ:=ag (show wfFs A from fun f u x hx=>NW (am.o f u x hx));clear nR cA Y am;obtain ⟨wY,wZ,hvd⟩:=q.o.2.1.form;subst hvd;obtain ⟨p,hp⟩:=ai A.length;rw [<-hp] at q;have HP:=ag hp;clear hp;have dz:=q.o.1.cell;cases ay with
   | true=>
    have M:=ag (yS.o (by simp));have HL:=ag (BI (b:=b) (B:=B) (by rw [M.o];omega));have mX:=ag q.o.2.2.1;have DL:=ag q.o.2.2.2.1;by_cases a9:k<m0
    ·have aD:(k:Int)<m0:=by omega
     go_wp2;go_quiet (fail)
     obtain ⟨WQ,Jd⟩:=ai (wr.drewN nq);have ac:ah wr WQ:=by rw [Jd];exact below_drewN aB _
     rw [<-Jd];have DN:=ag (mX.o.a ac);have Hg:=ag (DL.o.trans (ac.mono DL.o.size));have bv:=ag q.o.2.2.2.2.2;clear Jd ac;have hc:=DN.o.cell;have u:=DN.o.fz;obtain ⟨z0,E, -⟩:=DN.o.put (.slice none 0 0);obtain ⟨y,Q⟩:=DN.o;have H:=ag (show bJ (WQ.setCell ⟨R0,0,none⟩ (.slice none 0 0)) w.heap.size (.slice none 0 0) _ from bJ.nil _ _);have I:=ag (Hg.o.grown E Hg.o.size (by intro k U;cases U;have:=bv.o;omega));clear Q E;go_wp2;obtain ⟨V,J⟩:=ai (WQ.setCell ⟨R0,0,none⟩ (.slice none 0 0));rw [<-J] at z0 H I ⊢;try simp only [Exit.inBlock,Exit.then]
     refine bodyPost_ret (v:=.tuple #[.agg #[.slice none 0 0],.int .i64 8]) ?_ rfl ⟨.slice none 0 0,by rw [M.o],by rw [HL.o];exact H.o,I.o⟩
     clear J hc u;simp [results,Tryz.results65,go_sem, *]
    ·have aD:decide ((k:Int)<m0)=false:=aA (by omega)
     go_wp2;go_quiet (fail)
     obtain ⟨WQ,Jd⟩:=ai (wr.drewN nq);have ac:ah wr WQ:=by rw [Jd];exact below_drewN aB _
     rw [<-Jd];have DN:=ag (mX.o.a ac);have Hg:=ag (DL.o.trans (ac.mono DL.o.size));have bv:=ag q.o.2.2.2.2.2;clear Jd ac;have hc:=DN.o.cell;have u:=DN.o.fz;obtain ⟨z0,E, -⟩:=DN.o.put (.slice none 0 0);obtain ⟨y,Q⟩:=DN.o;have H:=ag (show bJ (WQ.setCell ⟨R0,0,none⟩ (.slice none 0 0)) w.heap.size (.slice none 0 0) _ from bJ.nil _ _);have I:=ag (Hg.o.grown E Hg.o.size (by intro k U;cases U;have:=bv.o;omega));clear Q E;go_wp2;obtain ⟨V,J⟩:=ai (WQ.setCell ⟨R0,0,none⟩ (.slice none 0 0));rw [<-J] at z0 H I ⊢;try simp only [Exit.inBlock,Exit.then]
     refine bodyPost_ret (v:=.tuple #[.agg #[.slice none 0 0],.int .i64 8]) ?_ rfl ⟨.slice none 0 0,by rw [M.o],by rw [HL.o];exact H.o,I.o⟩
     clear J hc u;simp [results,Tryz.results65,go_sem, *]
   | false=>
    have a9:¬k<m0:=fun h=>yu.o ⟨h,rfl⟩
    have aD:decide ((k:Int)<m0)=false:=aA (by omega);obtain ⟨S,eS⟩:∃S:World->Prop,S=fun C=>bM C W (.slice av nv cv) false∧bG C Db (.slice wY p wZ)∧RdF C (.slice wY p wZ) A∧Rd C (.slice a n c) b∧ah wr C:=⟨_,rfl⟩
    have hK:aL S:=by rw [eS];exact fun _ _ h hb=>⟨h.1.a hb,h.2.1.a hb,h.2.2.1.a hb,h.2.2.2.1.a hb,h.2.2.2.2.trans (hb.mono h.2.2.2.2.size)⟩
    have ao:S wr:=by rw [eS];exact ⟨aF.o,q.o.1,q.o.2.1.rd,HR.o.a q.o.2.2.2.1,aB⟩
    rw [eS] at hK ao;clear eS;have ap:=fun C (h:RdF C (.slice wY p wZ) A)=>WM wY p wZ A B C h HP.o yQ.o
    by_cases P:bA A B=0
    ·rw [P] at ap
     have cT:=ag P;have bw:=ag (Cu P).2;clear P;have aa:=fun C (h:RdF C (.slice wY p wZ) A)=>qjt wY p wZ A C h HP.o (Wp bw.o.1 bw.o.2.1 bw.o.2.2.1)
     have wQ:=ag ap;have R7:=ag aa;clear ap aa;go_wp2;clear rb dz;refine gH hK (by kernel_rfl) ao ?_
     intro t;refine dm [0,1,2,3,4,5,6] (fuel:=11) (a':=?Mg) (by kernel_rfl) (by kernel_rfl) (by kernel_rfl) ?xO t ?Mh
     case xO=>
      iterate 7 (apply Yl.cons rfl (by kernel_rfl);focus (rintro C ⟨N,y2,y3⟩;(have x1:=N.cell1);(have x2:=y2.cell);clear N y2 y3;go_simp<;>with_reducible rfl);try simp only [az])
      exact Yl.nil
     try simp only [az]
     refine qo hK (i:=7) (v:=.int .i64 0) rfl (by kernel_rfl) (by rfl) (by go_simp) t (wQ.o _ t.2.2.1) ?_
     clear t;intro XQ t;try simp only [az]
     refine dm [8,9,10,11,14] (fuel:=5) (a':=?qa2) (by kernel_rfl) (by kernel_rfl) (by kernel_rfl) ?GG t ?qn2
     case GG=>
      iterate 5 (apply Yl.cons rfl (by kernel_rfl);focus (rintro C ⟨N,y2,y3⟩;(have x1:=N.cell1);(have x2:=y2.cell);clear N y2 y3;go_simp<;>with_reducible rfl);try simp only [az])
      exact Yl.nil
     try simp only [az]
     refine bZ (i:=15) (v:=.string (bs b)) rfl (by kernel_rfl) (by kernel_rfl) (by kernel_rfl) (by rfl) (fun C hx=>qm6 rfl rfl hx.2.2.2.1) t ?_
     try simp only [az]
     refine nZ (i:=12) (R:=fun v C=>∃a6 c6,v=.slice a6 (dS A).length c6∧Rd C (.slice a6 (dS A).length c6) (dS A)∧ah XQ C) rfl (by kernel_rfl) (by rfl) (by go_simp) ((R7.o _ t.2.2.1).mono fun e C ⟨v,h1,h2,h3⟩=>by
      obtain ⟨a6,c6,u⟩:=qup h2;subst u;exact ⟨_,h1,a6,c6,rfl,BA h2,h3⟩) ?_
     rintro dc R8 ⟨a6,c6,rfl,cB,cC⟩;have DR:=hK _ _ t cC;refine ⟨DR, ?_⟩;clear t;have t:=DR;try simp only [az]
     refine uS (i:=13) (v:=.string (bs (dS A))) (w':=R8) rfl (by kernel_rfl) (by rfl) (qm6 rfl rfl cB) t ?_
     try simp only [az]
     have aP:=zQ (dS A) b;have yw:=ag (q.o.2.2.1.a t.2.2.2.2);have cU:=ag t.2.1;have Mm:=ag (q.o.2.1.a t.2.2.2.2);have CP:=ag (q.o.2.2.2.1.trans (t.2.2.2.2.mono q.o.2.2.2.1.size));have AV:=ag q.o.2.2.2.2.2;by_cases aq:dS A=b
     ·have hq:((bs (dS A)).toList==(bs b).toList)=true:=by rw [aP,aq];simp
      obtain ⟨cD,cE⟩:=yf.o (by first | rfl | trivial) cT.o aq;have M:=ag cD;have HL:=ag cE;clear cD cE aP aq;refine dm [16,17] (fuel:=0) (a':=?qa3) (by kernel_rfl) (by kernel_rfl) (by kernel_rfl) ?qp3 t ?qn3
      case qp3=>
       iterate 2 (apply Yl.cons rfl (by kernel_rfl);focus (intro C hx;clear hx;go_simp<;>with_reducible rfl);try simp only [az])
       exact Yl.nil
      try simp only [az]
      refine wpAnyH_done (by kernel_rfl) ?_ _
      refine NoPanic.normal ?_
      clear t DR hK ao;have d9:=cU.o.cell;have hc:=yw.o.cell;have u:=yw.o.fz;obtain ⟨z0,E, -⟩:=yw.o.put (.slice wY p wZ);obtain ⟨y,Q⟩:=yw.o;have H:=ag (show bJ (R8.setCell ⟨R0,0,none⟩ (.slice wY p wZ)) w.heap.size (.slice wY p wZ) _ from (Mm.o.mono (by have:=AV.o;omega)).keptS E Q (by decide) (by decide));have I:=ag (CP.o.grown E CP.o.size (by intro k U;cases U;have:=AV.o;omega));clear Q E;go_wp2;obtain ⟨V,J⟩:=ai (R8.setCell ⟨R0,0,none⟩ (.slice wY p wZ));rw [<-J] at z0 H I ⊢;try simp only [Exit.inBlock,Exit.then]
      refine bodyPost_ret (v:=.tuple #[.agg #[.slice wY p wZ],.int .i64 0]) ?_ rfl ⟨.slice wY p wZ,by rw [M.o],by rw [HL.o];exact H.o,I.o⟩
      clear J hc u;simp [results,Tryz.results65,go_sem, *]
     ·have hq:((bs (dS A)).toList==(bs b).toList)=false:=by rw [aP];simpa using aq
      have M:=ag (yS.o (fun h=>aq h.2.2));have HL:=ag (BI (b:=b) (B:=B) (by rw [M.o];omega));clear aP aq;refine dm [16,17] (fuel:=0) (a':=?qa4) (by kernel_rfl) (by kernel_rfl) (by kernel_rfl) ?qp4 t ?qn4
      case qp4=>
       iterate 2 (apply Yl.cons rfl (by kernel_rfl);focus (intro C hx;clear hx;go_simp<;>with_reducible rfl);try simp only [az])
       exact Yl.nil
      try simp only [az]
      refine wpAnyH_done (by kernel_rfl) ?_ _
      refine NoPanic.normal ?_
      clear t DR hK ao;have hc:=yw.o.cell;have u:=yw.o.fz;obtain ⟨z0,E, -⟩:=yw.o.put (.slice none 0 0);obtain ⟨y,Q⟩:=yw.o;have H:=ag (show bJ (R8.setCell ⟨R0,0,none⟩ (.slice none 0 0)) w.heap.size (.slice none 0 0) _ from bJ.nil _ _);have I:=ag (CP.o.grown E CP.o.size (by intro k U;cases U;have:=AV.o;omega));clear Q E;go_wp2;obtain ⟨V,J⟩:=ai (R8.setCell ⟨R0,0,none⟩ (.slice none 0 0));rw [<-J] at z0 H I ⊢;try simp only [Exit.inBlock,Exit.then]
      refine bodyPost_ret (v:=.tuple #[.agg #[.slice none 0 0],.int .i64 8]) ?_ rfl ⟨.slice none 0 0,by rw [M.o],by rw [HL.o];exact H.o,I.o⟩
      clear J hc u;simp [results,Tryz.results65,go_sem, *]
    ·have M:=ag (yS.o (fun h=>P h.2.1))
     have HL:=ag (BI (b:=b) (B:=B) (by rw [M.o];omega));obtain ⟨Z,hZ⟩:=ai (bA A B);rw [<-hZ] at ap P;have dd:(Z==0)=false:=by simpa using P
     have ab:(Z !=0)=true:=by simpa using P
     have wQ:=ag ap;clear ap hZ;go_wp2;clear rb dz;refine gH hK (by kernel_rfl) ao ?_
     intro t;refine dm [0,1,2,3,4,5,6] (fuel:=11) (a':=?qa5) (by kernel_rfl) (by kernel_rfl) (by kernel_rfl) ?qp5 t ?qn5
     case qp5=>
      iterate 7 (apply Yl.cons rfl (by kernel_rfl);focus (rintro C ⟨N,y2,y3⟩;(have x1:=N.cell1);(have x2:=y2.cell);clear N y2 y3;go_simp<;>with_reducible rfl);try simp only [az])
      exact Yl.nil
     try simp only [az]
     refine qo hK (i:=7) (v:=.int .i64 Z) rfl (by kernel_rfl) (by rfl) (by go_simp) t (wQ.o _ t.2.2.1) ?_
     clear t;intro XQ t;try simp only [az]
     refine dm [8,9,10,11,12,13,14,15,16,17] (fuel:=0) (a':=?qa6) (by kernel_rfl) (by kernel_rfl) (by kernel_rfl) ?qp6 t ?qn6
     case qp6=>
      iterate 3 (apply Yl.cons rfl (by kernel_rfl);focus (intro C hx;clear hx;(try simp only [ab]);go_simp;(try simp only [ab]);all_goals (with_reducible rfl));try simp only [az])
      iterate 6 (apply Yl.skip rfl (by kernel_rfl);try simp only [az])
      iterate 1 (apply Yl.cons rfl (by kernel_rfl);focus (intro C hx;clear hx;go_simp<;>with_reducible rfl);try simp only [az])
      exact Yl.nil
     try simp only [az]
     refine wpAnyH_done (by kernel_rfl) ?_ _
     refine NoPanic.normal ?_
     have yw:=ag (q.o.2.2.1.a t.2.2.2.2);have CP:=ag (q.o.2.2.2.1.trans (t.2.2.2.2.mono q.o.2.2.2.1.size));have AV:=ag q.o.2.2.2.2.2;clear t hK ao;have hc:=yw.o.cell;have u:=yw.o.fz;obtain ⟨z0,E, -⟩:=yw.o.put (.slice none 0 0);obtain ⟨y,Q⟩:=yw.o;have H:=ag (show bJ (XQ.setCell ⟨R0,0,none⟩ (.slice none 0 0)) w.heap.size (.slice none 0 0) _ from bJ.nil _ _);have I:=ag (CP.o.grown E CP.o.size (by intro k U;cases U;have:=AV.o;omega));clear Q E;go_wp2;obtain ⟨V,J⟩:=ai (XQ.setCell ⟨R0,0,none⟩ (.slice none 0 0));rw [<-J] at z0 H I ⊢;try simp only [Exit.inBlock,Exit.then]
     refine bodyPost_ret (v:=.tuple #[.agg #[.slice none 0 0],.int .i64 8]) ?_ rfl ⟨.slice none 0 0,by rw [M.o],by rw [HL.o];exact H.o,I.o⟩
     clear J hc u;simp [results,Tryz.results65,go_sem, *]
end Go.Proofs.YthpammbgcidloaaGreat
