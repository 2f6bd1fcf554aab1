/-
  Of the document's side of layer 6: Create.
-/
import Derived.Test.YtmeaiocohalphaaGreatDoorRm9
set_option maxHeartbeats 4000000
set_option maxRecDepth 100000
namespace Go.Proofs.YtmeaiocohalphaaGreatDoor
open Go.RowKit
set_option linter.all false
variable {f:aR}{s:az}{n:Int}
theorem qah8(h:dB f s≠0)(i:Int)(b:az):l7 f s i b=(fz,dB f s):=by
 rw[Vx];unfold dB at h⊢;by_cases a:eF f≠0
 ·rw[if_pos a,if_pos a]
 rw[if_neg a]at h
 have e:jD f s i=iL f s:=by unfold jD;rw[if_pos h]
 rw[if_neg a,if_neg a,e,if_pos h]
theorem qyb(h:dB f s=0){i:Int}(hi:i<0∨((aZ f s).length:Int)<=i)(b:az):l7 f s i b=(fz,2):=by
 obtain⟨a,c,_⟩:=MI h;have e:jD f s i=2:=by unfold jD;rw[if_neg (by rw[c];decide),if_pos hi]
 have e0:eF f=0:=by first|exact a|exact wU a
 rw[Vx];simp[e0,e]
theorem RJ(h:dB f s=0){k:Nat}(c:k<(aZ f s).length)(b:az):l7 f s k b=if(iR f.1 [(false,(aZ f s)[k],b)] 1).2≠0 then(fz,(iR f.1 [(false,(aZ f s)[k],b)] 1).2)else(((iR f.1 [(false,(aZ f s)[k],b)] 1).1,f.2),0):=by
 obtain⟨a,d,_⟩:=MI h;have e0:eF f=0:=by first|exact a|exact wU a
 obtain⟨a1,a2,_⟩:=QK h c;rw[Vx,if_neg (by rw[e0];decide),if_neg (by rw[a1];decide),a2]
theorem VD(x:aU)(f:aR)(s:az)(i:Int)(ax:aA)(nx cx:Nat)(b:az)(w:World)(h:iJ w x f)(hw:jq f)(m:Rd w (.slice ax nx cx) b):
  Calls Tryz.prog 58 #[x.val,.string (bs s),.int .i64 i,.slice ax nx cx] w fun e w'=>∃v,e=.returned (.tuple #[v,.int .i64 (l7 f s i b).2])∧bH w' w.heap.size v (l7 f s i b).1∧ah w w':=by
 have HW:=ag hw;have HX:=ag h;have an:=ag h;clear hw h;obtain⟨w1,ew⟩:=au ((w.alloc (.cells x.cs 33)).alloc (.cells #[.slice none 0 0,.slice none 0 0,.slice none 0 0,.int .u32 0,.slice none 0 0,.slice none 0 0] 33));have q0:ah w (w.alloc (.cells x.cs 33)):=ae;have q1:Below (w.alloc (.cells x.cs 33)).heap.size (w.alloc (.cells x.cs 33)) w1:=by rw[<-ew];exact ae
 have pE:=ag (show bB w1 w.heap.size x from(Bq.new w 33 x.cs).a q1);have qE:=ag (show dW w1 (w.heap.size+1)by have:=dW.new (w.alloc (.cells x.cs 33));rw[<-ew];simpa using this);have bg:=ag (q0.trans (q1.mono q0.size));clear q0 q1;unfold aU.val;unfold aU.cs at ew;go_enter Tryz.func58,Tryz.ntmps58;obtain⟨fU,gu,gy,gz,gB,gF⟩:=bq pE.o;have A:=qev x f s w1 (HX.o.a bg.o) HW.o;go_wp2_with fail
 try rw[ew]
 refine A.mono ?_
 rintro e w2⟨v2,rfl,ab,l⟩;have M:=ag (pE.o.a l);have j6:=ag (qE.o.a l);have E:=bT bg l;clear A l fU gu gy gz gB gF;try clear ew
 have vF:=ag m;clear m;obtain⟨bn,ac⟩:=ak ((ER f s).length);obtain⟨ba,bc,N⟩:∃a c,v2=.slice a bn c:=by rw[ac];exact ab.rd6.form
 subst N;have iC:=ag ab.rd6;have gP:=ag ac;clear ab ac;by_cases J:¬dB f s=0
 ·have Q:=ag (qah8 J i b)
  obtain⟨w9,d0,d1,d2,d3,d4,d5,u,p,e0,e1,N,S,T,U,V,W,X,Y,Z,f5,z0,z1,z2,z3,z4,z5⟩:=oW j6 E (show w.heap.size<=w.heap.size+1 by omega);go_wp2;try rw[u]
  clear u e0 e1 N S T U V W X Y Z f5;try simp only[Exit.inBlock,Exit.then]
  refine bodyPost_ret ?_ rfl (zR Q p)
  simp[results,Tryz.results58,go_sem, *]
 rw[Decidable.not_not]at J;have HS:=ag J;have jU:=ag (gq J);have HL:=ag (EX (gq J) s);rw[HL.o]at gP iC;rw[J];clear J;by_cases g2:i<0
 ·have Q:=ag (qyb HS.o (.inl g2) b)
  obtain⟨w9,d0,d1,d2,d3,d4,d5,u,p,e0,e1,N,S,T,U,V,W,X,Y,Z,f5,z0,z1,z2,z3,z4,z5⟩:=oW j6 E (show w.heap.size<=w.heap.size+1 by omega);go_wp2;try rw[u]
  clear u e0 e1 N S T U V W X Y Z f5;try simp only[Exit.inBlock,Exit.then]
  refine bodyPost_ret ?_ rfl (zR Q p)
  simp[results,Tryz.results58,go_sem, *]
 by_cases g3:(bn:Int)<=i
 ·have Q:=ag (qyb HS.o (.inr (by rw[<-gP.o];exact g3)) b)
  obtain⟨w9,d0,d1,d2,d3,d4,d5,u,p,e0,e1,N,S,T,U,V,W,X,Y,Z,f5,z0,z1,z2,z3,z4,z5⟩:=oW j6 E (show w.heap.size<=w.heap.size+1 by omega);go_wp2;try rw[u]
  clear u e0 e1 N S T U V W X Y Z f5;try simp only[Exit.inBlock,Exit.then]
  refine bodyPost_ret ?_ rfl (zR Q p)
  simp[results,Tryz.results58,go_sem, *]
 obtain⟨k,ap⟩:∃k:Nat,(k:Int)=i:=⟨i.toNat,by omega⟩;subst ap
 have hk:k<(aZ f s).length:=by rw[<-gP.o];omega
 have ay:decide ((k:Int)<0)=false:=Xd7 g2;have aD:decide ((bn:Int)<=k)=false:=Xd7 g3;have aE:(k:Int)<bn:=by omega
 have En:k<bn:=by omega
 obtain⟨G,H,el,I⟩:=iC.o.at6 k hk;subst el;have aa:=ag (RJ HS.o hk b);have QS:=ag (EE HS.o _ (Xa3 hk));obtain⟨z,tQ⟩:∃z:Nat,(z:Int)=(aZ f s)[k]:=⟨((aZ f s)[k]).toNat,by have:=QS.o.1;omega⟩;rw[<-tQ]at I aa;clear tQ;have O:=ag (show gQ w2 G (H+k) (.int .i64 (z:Int))from I);obtain⟨K,ad⟩:=ak (iR f.1 [(false,(z:Int),b)] 1);have Tu:=ag ad;rw[<-ad]at aa;clear I hk QS ad
 go_wp2_with fail
 refine EB (α:=Nat×wN) (F:=fun bx a=>((((((((((((((a.put (some 34) (.pointer (some ⟨w.heap.size,0,none⟩))).put (some 35) (.agg #[.slice x.a1 x.n1 x.c1,.slice x.a2 x.n2 x.c2,.slice x.a3 x.n3 x.c3])).put (some 36) (.slice (some ⟨G,H,none⟩) bn bc)).put (some 37) (.int .i64 k)).put (some 38) (.pointer (some ⟨G,H+k,none⟩))).put (some 39) (.int .i64 z)).put (some 40) (.slice ax nx cx)).put (some 41) (.tuple #[.agg #[.slice bx.2.a1 bx.2.n1 bx.2.c1,.slice bx.2.a2 bx.2.n2 bx.2.c2,.slice bx.2.a3 bx.2.n3 bx.2.c3],.int .i64 K.2])).put (some 33) (.tuple #[.agg #[.slice bx.2.a1 bx.2.n1 bx.2.c1,.slice bx.2.a2 bx.2.n2 bx.2.c2,.slice bx.2.a3 bx.2.n3 bx.2.c3],.int .i64 K.2])).put (some 42) (.agg #[.slice bx.2.a1 bx.2.n1 bx.2.c1,.slice bx.2.a2 bx.2.n2 bx.2.c2,.slice bx.2.a3 bx.2.n3 bx.2.c3])).put (some 43) (.int .i64 K.2)).put (some 12) (.pointer (some ⟨bx.1,0,none⟩))).put none undef).put (some 11) (.int .i64 K.2))) (R:=fun bx wv=>Bq wv bx.1 27 #[.slice bx.2.a1 bx.2.n1 bx.2.c1,.slice bx.2.a2 bx.2.n2 bx.2.c2,.slice bx.2.a3 bx.2.n3 bx.2.c3]∧kP wv w.heap.size (.agg #[.slice bx.2.a1 bx.2.n1 bx.2.c1,.slice bx.2.a2 bx.2.n2 bx.2.c2,.slice bx.2.a3 bx.2.n3 bx.2.c3]) K.1∧ah w2 wv) ?X4 ?X5
 case X4=>
  have hK:aN (fun q=>ah w2 q):=fun w1 w2 h hb=>h.trans (hb.mono h.size)
  have aq:(fun q=>ah w2 q) w2:=aF;refine iH hK (by kernel_rfl) aq ?_
  intro n;generalize w2.drew=wd at *;refine rU 0 ?qv1v rfl ?qv1y n ?qv1r
  case qv1y=>(rintro q m;obtain⟨k0,k1,k2,k3,k4,k5⟩:=bq (M.o.a m);have I:q.cell? ⟨G,H+k,none⟩=some (.int .i64 (z:Int)):=O.o.a m;clear m;go_simp<;>rfl)
  try simp only[aB]
  refine rU 1 ?qv2v rfl ?qv2y n ?qv2r
  case qv2y=>(rintro q m;obtain⟨k0,k1,k2,k3,k4,k5⟩:=bq (M.o.a m);have I:q.cell? ⟨G,H+k,none⟩=some (.int .i64 (z:Int)):=O.o.a m;clear m;go_simp<;>rfl)
  try simp only[aB]
  refine rU 2 ?qv3v rfl ?qv3y n ?qv3r
  case qv3y=>(rintro q m;obtain⟨k0,k1,k2,k3,k4,k5⟩:=bq (M.o.a m);have I:q.cell? ⟨G,H+k,none⟩=some (.int .i64 (z:Int)):=O.o.a m;clear m;go_simp<;>rfl)
  try simp only[aB]
  refine rU 3 ?qv4v rfl ?qv4y n ?qv4r
  case qv4y=>(rintro q m;obtain⟨k0,k1,k2,k3,k4,k5⟩:=bq (M.o.a m);have I:q.cell? ⟨G,H+k,none⟩=some (.int .i64 (z:Int)):=O.o.a m;clear m;go_simp<;>rfl)
  try simp only[aB]
  refine rU 4 ?qv5v rfl ?qv5y n ?qv5r
  case qv5y=>(rintro q m;obtain⟨k0,k1,k2,k3,k4,k5⟩:=bq (M.o.a m);have I:q.cell? ⟨G,H+k,none⟩=some (.int .i64 (z:Int)):=O.o.a m;clear m;go_simp<;>rfl)
  try simp only[aB]
  refine rU 5 ?qv6v rfl ?qv6y n ?qv6r
  case qv6y=>(rintro q m;obtain⟨k0,k1,k2,k3,k4,k5⟩:=bq (M.o.a m);have I:q.cell? ⟨G,H+k,none⟩=some (.int .i64 (z:Int)):=O.o.a m;clear m;go_simp<;>rfl)
  try simp only[aB]
  refine rU 6 ?qv7v rfl ?qv7y n ?qv7r
  case qv7y=>(rintro q m;obtain⟨k0,k1,k2,k3,k4,k5⟩:=bq (M.o.a m);have I:q.cell? ⟨G,H+k,none⟩=some (.int .i64 (z:Int)):=O.o.a m;clear m;go_simp<;>rfl)
  try simp only[aB]
  refine Ih (i:=7) (j:=11) (by kernel_rfl) ?_ ?_
  ·skip
   refine Ij (R:=fun v wy=>∃g:wN,v=.tuple #[.agg #[.slice g.a1 g.n1 g.c1,.slice g.a2 g.n2 g.c2,.slice g.a3 g.n3 g.c3],.int .i64 K.2]∧kP wy w.heap.size (.agg #[.slice g.a1 g.n1 g.c1,.slice g.a2 g.n2 g.c2,.slice g.a3 g.n3 g.c3]) K.1∧ah wd wy) rfl (by kernel_rfl) (by go_simp;try rfl) ((qow (d:=f.1) z ax nx cx b wd (an.o.d.a (E.o.trans (n.mono E.o.size))) (vF.o.a (E.o.trans (n.mono E.o.size)))).mono fun e wy ⟨v,h1,h2,h3⟩=>by
     rw[<-Tu.o]at h1 h2;obtain⟨a1,c1,a2,c2,a3,c3,ev⟩:=h2.form;subst ev;exact⟨_,h1,⟨a1,_,c1,a2,_,c2,a3,_,c3⟩,rfl,h2.mono (aG E.o.size n.size),h3⟩) ?_
   rintro v9 GK⟨g,rfl,jf,l⟩;have t:=hK _ _ n l;refine⟨t, ?_⟩;have ao:=jf;clear jf;clear n l;have n:=t;clear t;try simp only[aB]
   refine rP [8,9,10] 3 ?jS ?dP n ?jT
   case dP=>
    iterate 3 (apply Yl.cons rfl (by kernel_rfl);focus (rintro q m;obtain⟨k0,k1,k2,k3,k4,k5⟩:=bq (M.o.a m);have I:q.cell? ⟨G,H+k,none⟩=some (.int .i64 (z:Int)):=O.o.a m;clear m;go_simp<;>rfl);try simp only[aB])
    exact Yl.nil
   obtain⟨DF,tZ⟩:=au (GK.alloc (.cells #[.slice none 0 0,.slice none 0 0,.slice none 0 0] 27));have l:ah GK DF:=by rw[<-tZ];exact ae
   have t:=hK _ _ n l;have X6:=ao.a l;obtain⟨vU,uf⟩:=ak GK.heap.size;have X7:Gi DF vU:=by rw[<-tZ,uf];exact Gi.new GK
   have X8:w2.heap.size<=vU:=by rw[uf];exact n.size
   refine jT (i:=11) (v:=.pointer (some ⟨vU,0,none⟩)) (w':=DF) rfl (by kernel_rfl) (by kernel_rfl) (by rw[<-tZ,uf];go_simp) t ?_
   clear n l tZ uf;have n:=t;clear t;try simp only[aB]
   obtain⟨y0,y1,y2,hq⟩:=X7;obtain⟨Jg,DI,P,B⟩:=sO (.slice g.a1 g.n1 g.c1) (.slice g.a2 g.n2 g.c2) (.slice g.a3 g.n3 g.c3) hq;obtain⟨ai,aj,al,am⟩:=cells3 hq;have t:=n.grown B n.size (by intro k hk;cases hk;exact X8);have C:=X6.keptS B hq (by decide) (by decide) (by decide);have D:Bq Jg vU 27 #[.slice g.a1 g.n1 g.c1,.slice g.a2 g.n2 g.c2,.slice g.a3 g.n3 g.c3]:=P;clear B hq P;refine Em (i:=12) (w':=Jg) rfl (by kernel_rfl) (by kernel_rfl) (by rw[<-DI];go_simp) t ?_
   clear n DI ai aj al am;have n:=t;clear t;try simp only[aB]
   refine rU 13 ?qv17v rfl ?X9 n ?qv17r
   case X9=>(rintro q m;obtain⟨k0,k1,k2,k3,k4,k5⟩:=bq (M.o.a m);have I:q.cell? ⟨G,H+k,none⟩=some (.int .i64 (z:Int)):=O.o.a m;clear m;go_simp<;>rfl)
   try simp only[aB]
   refine rD ?_
   exact⟨rfl,(vU,g),by simp only[aB],D,C,n⟩
  obtain⟨vV,ug⟩:=au (wd.alloc (.cells #[.slice none 0 0,.slice none 0 0,.slice none 0 0] 27));have l:ah wd vV:=by rw[<-ug];exact ae
  have t:=hK _ _ n l;obtain⟨vW,uh⟩:=ak wd.heap.size;have Ya:Gi vV vW:=by rw[<-ug,uh];exact Gi.new wd
  have Yb:w2.heap.size<=vW:=by rw[uh];exact n.size
  refine Ii (v:=.pointer (some ⟨vW,0,none⟩)) (w':=vV) rfl (by kernel_rfl) (by rw[<-ug,uh];go_simp) ⟨t, ?_⟩;clear n l ug uh;have n:=t;clear t;try simp only[aB]
  refine pR (i:=7) (R:=fun v wy=>∃g:wN,v=.tuple #[.agg #[.slice g.a1 g.n1 g.c1,.slice g.a2 g.n2 g.c2,.slice g.a3 g.n3 g.c3],.int .i64 K.2]∧kP wy w.heap.size (.agg #[.slice g.a1 g.n1 g.c1,.slice g.a2 g.n2 g.c2,.slice g.a3 g.n3 g.c3]) K.1∧ah vV wy) rfl (by kernel_rfl) (by kernel_rfl) (by go_simp;try rfl) ((qow (d:=f.1) z ax nx cx b vV (an.o.d.a (E.o.trans (n.mono E.o.size))) (vF.o.a (E.o.trans (n.mono E.o.size)))).mono fun e wy ⟨v,h1,h2,h3⟩=>by
    rw[<-Tu.o]at h1 h2;obtain⟨a1,c1,a2,c2,a3,c3,ev⟩:=h2.form;subst ev;exact⟨_,h1,⟨a1,_,c1,a2,_,c2,a3,_,c3⟩,rfl,h2.mono (aG E.o.size n.size),h3⟩) ?_
  rintro v9 ar⟨g,rfl,jf,l⟩;have t:=hK _ _ n l;refine⟨t, ?_⟩;have Yc:=Ya.a l;have Yd:=jf;clear jf;clear n l;have n:=t;clear t;try simp only[aB]
  refine rP [8,9,10] 2 ?oI ?iA n ?oJ
  case iA=>
   iterate 3 (apply Yl.cons rfl (by kernel_rfl);focus (rintro q m;obtain⟨k0,k1,k2,k3,k4,k5⟩:=bq (M.o.a m);have I:q.cell? ⟨G,H+k,none⟩=some (.int .i64 (z:Int)):=O.o.a m;clear m;go_simp<;>rfl);try simp only[aB])
   exact Yl.nil
  obtain⟨y0,y1,y2,hq⟩:=Yc;obtain⟨Jh,DJ,P,B⟩:=sO (.slice g.a1 g.n1 g.c1) (.slice g.a2 g.n2 g.c2) (.slice g.a3 g.n3 g.c3) hq;obtain⟨ai,aj,al,am⟩:=cells3 hq;have t:=n.grown B n.size (by intro k hk;cases hk;exact Yb);have C:=Yd.keptS B hq (by decide) (by decide) (by decide);have D:Bq Jh vW 27 #[.slice g.a1 g.n1 g.c1,.slice g.a2 g.n2 g.c2,.slice g.a3 g.n3 g.c3]:=P;clear B hq P;refine Em (i:=12) (w':=Jh) rfl (by kernel_rfl) (by kernel_rfl) (by rw[<-DJ];go_simp) t ?_
  clear n DJ ai aj al am;have n:=t;clear t;try simp only[aB]
  refine rU 13 ?qv27v rfl ?Ye n ?qv27r
  case Ye=>(rintro q m;obtain⟨k0,k1,k2,k3,k4,k5⟩:=bq (M.o.a m);have I:q.cell? ⟨G,H+k,none⟩=some (.int .i64 (z:Int)):=O.o.a m;clear m;go_simp<;>rfl)
  try simp only[aB]
  refine rD ?_
  exact⟨rfl,(vW,g),by simp only[aB],D,C,n⟩
 rintro⟨q9,⟨la,ln,lc,ma,mn,mc,ka,kn,kc⟩⟩wv⟨D,C,l⟩;try simp only[aB]
 dsimp only at D C;have NM:=ag (M.o.a l);have Yf:=ag (j6.o.a l);have GL:=bT E l;have NN:=ag D;have NP:=ag C;clear D C l;by_cases J:¬K.2=0
 ·have Q:=ag (show l7 f s k b=(fz,K.2)by rw[aa.o,if_pos J])
  obtain⟨w9,d0,d1,d2,d3,d4,d5,u,p,e0,e1,N,S,T,U,V,W,X,Y,Z,f5,z0,z1,z2,z3,z4,z5⟩:=oW Yf GL (show w.heap.size<=w.heap.size+1 by omega);go_wp2;try rw[u]
  clear u e0 e1 N S T U V W X Y Z f5;try simp only[Exit.inBlock,Exit.then]
  refine bodyPost_ret ?_ rfl (zR Q p)
  simp[results,Tryz.results58,go_sem, *]
 rw[Decidable.not_not]at J;rw[J];have ED:=ag J;clear J;obtain⟨fU,gu,gy,gz,gB,gF⟩:=bq NM.o;have A:=vG x f wv (HX.o.a GL.o) (QT jU.o).1 (QT jU.o).2;go_wp2_with fail
 refine A.mono ?_
 rintro e w3⟨y,rfl,ho,l⟩;have qb:=ag (Yf.o.a l);have NQ:=ag (NN.o.a l);have NG:=ag (NP.o.a l);have df:=bT GL l;clear A l fU gu gy gz gB gF;have Jc:=ag (ho.mono GL.o.size);clear ho;unfold aU.val;obtain⟨wz,vS⟩:=au (w3.alloc (.cells y.cs 33));have L:ah w3 wz:=by rw[<-vS];exact ae
 have XR:=ag (qb.o.a L);have XU:=ag (NQ.o.a L);have XT:=ag (NG.o.a L);have Jd:=bT df L;have r9:=ag (show bB wz w3.heap.size y by rw[<-vS];exact Bq.new _ _ _);have DC:=ag ((Jc.o.a L).parts6);unfold aU.cs at vS;clear L Jc;have vT:=ag (show wz.grownBy (tY wz (w3.heap.size) la ln lc ma mn mc ka kn kc) (some (w3.heap.size))from qzw wz (w3.heap.size) la ln lc ma mn mc ka kn kc);have Je:=ag (show w.heap.size+1<w3.heap.size from qb.o.lt);have av:=ag (r9.o.disk la ln lc ma mn mc ka kn kc);have Jf:=ag (XR.o.grown vT.o (by have:=Je.o;omega));have XV:=ag (Jd.o.grown vT.o Jd.o.size (by intro k hk;cases hk;have:=Je.o;omega));have aw:=ag (show bH (tY wz (w3.heap.size) la ln lc ma mn mc ka kn kc) w.heap.size ({y with a1:=la,n1:=ln,c1:=lc,a2:=ma,n2:=mn,c2:=mc,a3:=ka,n3:=kn,c3:=kc}:aU).val (K.1,f.2)from⟨_,_,_,_,_,by rw[<-DC.o.1],(XT.o).keptS vT.o r9.o (by decide) (by decide) (by decide),(DC.o.2.2.1).keptS vT.o r9.o (by decide) (by decide),(DC.o.2.2.2).keptS vT.o r9.o (by decide) (by decide)⟩);have p:=ag (aw.o.stored (r:=w.heap.size+1) Jf.o XV.o (by omega));obtain⟨XW,XX,XY,XZ,X0,X3⟩:=bq r9.o;obtain⟨yN,yO,yP,yQ,yS,yX⟩:=bq av.o;dsimp only at yN yO yP yQ yS yX;have aH:=r9.o.fz;obtain⟨⟨d0,e0⟩,⟨d1,e1⟩,⟨d2,N⟩,⟨d3,S⟩,⟨d4,T⟩,⟨d5,U⟩,ff⟩:=Jf.o.cells;have V:=ff 0;have W:=ff 1;have X:=ff 2;have Y:=ff 3;have Z:=ff 4;have f5:=ff 5;clear ff;obtain⟨aJ,aK,aO⟩:=qaem XU.o;unfold tY at yN yO yP yQ yS yX e0 e1 N S T U V W X Y Z f5;go_wp2;try rw[vS]
 obtain⟨w9,u⟩:∃w9,w9=bQ (tY wz (w3.heap.size) la ln lc ma mn mc ka kn kc) (w.heap.size+1) ({y with a1:=la,n1:=ln,c1:=lc,a2:=ma,n2:=mn,c2:=mc,a3:=ka,n3:=kn,c3:=kc}:aU):=⟨_,rfl⟩;rw[<-u]at p;unfold bQ at u;dsimp only at u
 try unfold tY at u
 rw[<-u];clear e0 e1 N S T U V W X Y Z f5 XW XX XY XZ X0 X3 yN yO yP yQ yS yX vS;obtain⟨z0,z1,z2,z3,z4,z5⟩:=bq p.o.2.2;dsimp only at z0 z1 z2 z3 z4 z5;try simp only[Exit.inBlock,Exit.then]
 have Q:=ag (show l7 f s k b=((K.1,f.2),0)by rw[aa.o,if_neg (by rw[ED.o];decide)]);refine bodyPost_ret (v:=.tuple #[({y with a1:=la,n1:=ln,c1:=lc,a2:=ma,n2:=mn,c2:=mc,a3:=ka,n3:=kn,c3:=kc}:aU).val,.int .i64 0]) ?_ rfl ⟨_,by rw[Q.o],by rw[Q.o];exact p.o.1,p.o.2.1⟩
 clear u;simp[results,Tryz.results58,go_sem, *]
theorem qvq(x:aU)(f:aR)(w:World)(h:iJ w x f)(B:jq f):
  Calls Tryz.prog 123 #[x.val] w fun e w'=>∃v,e=.returned v∧bA w' w.heap.size v (fJ f)∧ah w w':=by
 have C:=ag B;have n:=ag h;clear B h;obtain⟨p,k⟩:=au (w.alloc (.cells x.cs 33));have l:ah w p:=by rw[<-k];exact ae
 have D:=ag (show bB p w.heap.size x by rw[<-k];exact Bq.new _ _ _);have q:=ag l;clear l;unfold aU.val;unfold aU.cs at k;go_enter Tryz.func123,Tryz.ntmps123;obtain⟨r,s,t,u,y,z⟩:=bq D.o;have b:=qsr _ _ _ f.2.2.1 p (n.o.fl.a q.o) n.o.n4 C.o.fl;go_wp2_with fail
 try rw[k]
 refine b.mono ?_
 rintro e I⟨J,rfl,g,d⟩;have K:=ag (D.o.a d);have E:=bT q d;clear b d r s t u y z;try clear k
 obtain⟨L,i⟩:=ak ((nE f.2.2.1).length);obtain⟨V,W,M⟩:∃a c,J=.slice a L c:=by rw[i];exact g.form
 subst M;have N:=ag (g.mono q.o.size);have X:=ag i;clear g i;obtain⟨r,s,t,u,y,z⟩:=bq K.o;have b:=qsr _ _ _ f.2.2.2 I (n.o.kl.a E.o) n.o.n5 C.o.kl;go_wp2_with fail
 refine b.mono ?_
 rintro e Y⟨O,rfl,j,d⟩;have P:=ag (N.o.a d);have F:=bT E d;clear b d r s t u y z;obtain⟨Q,A⟩:=ak ((nE f.2.2.2).length);obtain⟨Z,z3,R⟩:∃a c,O=.slice a Q c:=by rw[A];exact j.form
 subst R;obtain⟨g9,cc,S,m,G,H⟩:=Hm P.o F.o.size j.rd A (by have:=oK f.2.2.1;have:=oK f.2.2.2;omega);have T:=ag (show bA S w.heap.size _ (fJ f)from G);have U:=ag (F.o.trans H);clear G H j A;generalize (nE f.2.2.1++nE f.2.2.2).length=gl at *;go_wp2_with (at_builtin;refine kS rfl (.tmp 19) (.tmp 20) 96 rfl rfl rfl rfl m ?_)
 go_ret;exact⟨_,rfl,T.o,U.o⟩
theorem qah9(h:bP f)(a:n<1∨4096<n):lS 34 (fP f) (fJ f) n=2:=(JQ (qvd h) a).1
theorem qzx(h:bP f)(b:¬(n<1∨4096<n))(a:lS 34 (fP f) (fJ f) n≠0):lS 34 (fP f) (fJ f) n=40:=by
 unfold lS sG at a⊢;rw[if_neg (by rw[qvd h];decide),if_neg b]at a⊢;split at a
 ·exact absurd rfl a
 rename_i h2;rw[if_neg h2]
theorem Yh(h:bP f){e:Int}(a:qA f s n=e)(b:e≠0):l6 f s n=(fz,e):=by
 unfold l6 rH;rw[if_neg (by rw[wU h];decide),if_pos (by rw[a];exact b),a]
theorem qtu(x:aU)(f:aR)(s:az)(n:Int)(w:World)(h:iJ w x f)(hw:jq f):
  Calls Tryz.prog 56 #[x.val,.string (bs s),.int .i64 n] w fun e w'=>∃v,e=.returned (.tuple #[v,.int .i64 (l6 f s n).2])∧bH w' w.heap.size v (l6 f s n).1∧ah w w':=by
 have HW:=ag hw;have S:=ag h;clear hw h;obtain⟨w1,ew⟩:=au ((w.alloc (.cells x.cs 33)).alloc (.cells #[.slice none 0 0,.slice none 0 0,.slice none 0 0,.int .u32 0,.slice none 0 0,.slice none 0 0] 33));have q0:ah w (w.alloc (.cells x.cs 33)):=ae;have q1:Below (w.alloc (.cells x.cs 33)).heap.size (w.alloc (.cells x.cs 33)) w1:=by rw[<-ew];exact ae
 have pE:=ag (show bB w1 w.heap.size x from(Bq.new w 33 x.cs).a q1);have qE:=ag (show dW w1 (w.heap.size+1)by have:=dW.new (w.alloc (.cells x.cs 33));rw[<-ew];simpa using this);have bg:=ag (q0.trans (q1.mono q0.size));clear q0 q1;unfold aU.val;unfold aU.cs at ew;go_enter Tryz.func56,Tryz.ntmps56;obtain⟨J,K,L,M,N,O⟩:=bq pE.o;have g:=Xv x f w1 (S.o.a bg.o) HW.o;go_wp2_with fail
 try rw[ew]
 refine g.mono ?_
 rintro e w2⟨rfl,b⟩;have mO:=ag (pE.o.a b);have j6:=ag (qE.o.a b);have aY:=bT bg b;clear g b J K L M N O;try clear ew
 rcases(Aq f).symm with⟨_,j⟩|⟨ai,j⟩
 ·have z:=ag (show l6 f s n=(fz,8)by unfold l6 rH;rw[if_pos (by rw[j];decide),j])
  rw[j];clear j;obtain⟨W,d0,d1,d2,d3,d4,d5,l,i,e0,e1,q,t,u,A,C,D,E,F,G,H,z0,z1,z2,z3,z4,z5⟩:=oW j6 aY (show w.heap.size<=w.heap.size+1 by omega);go_wp2;try rw[l]
  clear l e0 e1 q t u A C D E F G H;try simp only[Exit.inBlock,Exit.then]
  refine bodyPost_ret ?_ rfl (zR z i)
  simp[results,Tryz.results56,go_sem, *]
 rw[j];have wP:=ag j;clear j;have P:=ag ai;clear ai;obtain⟨J,K,L,M,N,O⟩:=bq mO.o;have g:=qsq _ _ _ f.2.2.1 s w2 (S.o.fl.a aY.o) S.o.n4 HW.o.fl;go_wp2_with fail
 refine g.mono ?_
 rintro e w3⟨v2,rfl,I,b⟩;have EQ:=ag (mO.o.a b);have qb:=ag (j6.o.a b);have df:=bT aY b;clear g b J K L M N O;obtain⟨n9,tQ⟩:=ak ((og f.2.2.1 s).1);rw[<-tQ];clear tQ;obtain⟨y9,z9,m9,q⟩:∃a c m,v2=.slice a m c:=by obtain⟨a,c,e⟩:=I.form;exact⟨a,c,_,e⟩
 subst q;clear I;by_cases j:iq f.2.2.1 s=0
 ·have z:=ag (Yh (s:=s) (n:=n) P.o (e:=51) (by unfold qA;rw[if_pos j]) (by decide))
  rw[j];obtain⟨W,d0,d1,d2,d3,d4,d5,l,i,e0,e1,q,t,u,A,C,D,E,F,G,H,z0,z1,z2,z3,z4,z5⟩:=oW qb df (show w.heap.size<=w.heap.size+1 by omega);go_wp2;try rw[l]
  clear l e0 e1 q t u A C D E F G H;try simp only[Exit.inBlock,Exit.then]
  refine bodyPost_ret ?_ rfl (zR z i)
  simp[results,Tryz.results56,go_sem, *]
 by_cases g2:¬iq f.2.2.1 s=6
 ·have z:=ag (Yh (s:=s) (n:=n) P.o (e:=iq f.2.2.1 s) (by unfold qA;rw[if_neg j,if_pos g2]) j)
  have aH:(iq f.2.2.1 s==0)=false:=by simpa using j
  have aJ:(iq f.2.2.1 s==6)=false:=by simpa using g2
  obtain⟨W,d0,d1,d2,d3,d4,d5,l,i,e0,e1,q,t,u,A,C,D,E,F,G,H,z0,z1,z2,z3,z4,z5⟩:=oW qb df (show w.heap.size<=w.heap.size+1 by omega);go_wp2;try rw[l]
  clear l e0 e1 q t u A C D E F G H;try simp only[Exit.inBlock,Exit.then]
  refine bodyPost_ret ?_ rfl (zR z i)
  simp[results,Tryz.results56,go_sem, *]
 rw[Decidable.not_not]at g2;have T:=ag (show qA f s n=if lS 34 (fP f) (fJ f) n≠0 then lS 34 (fP f) (fJ f) n else iG f.2.2.1 s (kg 34 (fP f) (fJ f) n) (fP f)by unfold qA;rw[if_neg j,if_neg (by rw[g2];decide)]);rw[g2];clear j g2;by_cases g3:n<1∨4096<n
 ·have z:=ag (Yh (s:=s) (n:=n) P.o (e:=2) (by rw[T.o,qah9 P.o g3];rfl) (by decide))
  by_cases g4:n<1
  ·have aa:decide (n<1)=true:=Xd8 g4
   obtain⟨W,d0,d1,d2,d3,d4,d5,l,i,e0,e1,q,t,u,A,C,D,E,F,G,H,z0,z1,z2,z3,z4,z5⟩:=oW qb df (show w.heap.size<=w.heap.size+1 by omega);go_wp2;try rw[l]
   clear l e0 e1 q t u A C D E F G H;try simp only[Exit.inBlock,Exit.then]
   refine bodyPost_ret ?_ rfl (zR z i)
   simp[results,Tryz.results56,go_sem, *]
  have aa:decide (n<1)=false:=Xd7 g4;have En:decide (4096<n)=true:=Xd8 (by omega);obtain⟨W,d0,d1,d2,d3,d4,d5,l,i,e0,e1,q,t,u,A,C,D,E,F,G,H,z0,z1,z2,z3,z4,z5⟩:=oW qb df (show w.heap.size<=w.heap.size+1 by omega);go_wp2;try rw[l]
  clear l e0 e1 q t u A C D E F G H;try simp only[Exit.inBlock,Exit.then]
  refine bodyPost_ret ?_ rfl (zR z i)
  simp[results,Tryz.results56,go_sem, *]
 have aa:decide (n<1)=false:=Xd7 (by omega);have En:decide (4096<n)=false:=Xd7 (by omega);have TJ:=ag g3;clear g3;obtain⟨B,hB⟩:∃B:Nat,B=bD f.1:=⟨_,rfl⟩;have nJ:=ag (show fP f=B by rw[hB];exact SE (oN P.o).1)
 have aj:x.n1 / 128=B:=by have h1:x.n1=_:=S.o.n1;have:=Vu (oN P.o).1;rw[hB];omega
 clear hB;obtain⟨J,K,L,M,N,O⟩:=bq EQ.o;have g:=Tm x.a1 x.a2 x.a3 x.n1 x.c1 x.n2 x.c2 x.n3 x.c3 (by rw[S.o.n1];exact S.o.d.d1.len_le) w3;rw[aj]at g;go_wp2_with fail
 refine g.mono ?_
 rintro e w4⟨rfl,b⟩;have Nz:=ag (EQ.o.a b);have yx:=ag (qb.o.a b);have gY:=bT df b;clear g b J K L M N O aa En;clear aj;obtain⟨J,K,L,M,N,O⟩:=bq Nz.o;have g:=qvq x f w4 (S.o.a gY.o) HW.o;go_wp2_with fail
 refine g.mono ?_
 rintro e w5⟨v3,rfl,ab,b⟩;have NR:=ag (Nz.o.a b);have av:=ag (yx.o.a b);have BA:=bT gY b;clear g b J K L M N O;obtain⟨tn,ac⟩:=ak ((fJ f).length);obtain⟨ta,tc,t⟩:∃a c,v3=.slice a tn c:=by rw[ac];exact ab.form
 subst t;have yG:=ag ab.rd;have aw:=ag ac;clear ab ac;have g:=qacg 34 B n ta tn tc (fJ f) w5 yG.o aw.o (qsk f);go_wp2_with fail
 refine g.mono ?_
 rintro e w6⟨v4,rfl,fC,b⟩;have al:=ag (NR.o.a b);have am:=ag (av.o.a b);have BB:=bT BA b;clear g b;rw[<-nJ.o]at fC⊢;obtain⟨X,Q⟩:=ak (kg 34 (fP f) (fJ f) n);obtain⟨TE,Y⟩:=ak (lS 34 (fP f) (fJ f) n);have an:=ag (show X.length<=100000 by rw[Q];have:=qsv 34 (fP f) (fJ f) n;omega);have kw:=ag (fun (h:TE=0)=>show ∀x∈X,jg x by rw[Q];exact qqh (by decide) (by rw[<-Y];exact h));have Yi:=ag (fun (h:TE≠0)=>show TE=40 by rw[Y]at h⊢;exact qzx P.o TJ.o h);rw[<-Q]at fC T;rw[<-Y]at T⊢;rw[nJ.o]at T⊢;have ao:=ag Q.symm;clear Q Y;obtain⟨kn,ad⟩:=ak X.length;obtain⟨ka,kc,u⟩:∃a c,v4=.slice a kn c:=by rw[ad];exact fC.form
 subst u;have NS:=ag fC.rd;have ax:=ag ad;clear fC ad;by_cases j:¬TE=0
 ·have ap:=Yi.o j
  have z:=ag (Yh (s:=s) (n:=n) P.o (e:=40) (by rw[T.o,if_pos j,ap]) (by decide));rw[ap];obtain⟨W,d0,d1,d2,d3,d4,d5,l,i,e0,e1,q,t,u,A,C,D,E,F,G,H,z0,z1,z2,z3,z4,z5⟩:=oW am BB (show w.heap.size<=w.heap.size+1 by omega);go_wp2;try rw[l]
  clear l e0 e1 q t u A C D E F G H;try simp only[Exit.inBlock,Exit.then]
  refine bodyPost_ret ?_ rfl (zR z i)
  simp[results,Tryz.results56,go_sem, *]
 rw[Decidable.not_not]at j;have aq:=ag (kw.o j);rw[j]at T⊢;rw[if_neg (by decide)]at T;clear j kw Yi;obtain⟨J,K,L,M,N,O⟩:=bq al.o;have g:=qu0 _ _ _ f.2.2.1 s ka kn kc X B w6 (S.o.fl.a BB.o) S.o.n4 HW.o.fl NS.o ax.o an.o aq.o;go_wp2_with fail
 refine g.mono ?_
 rintro e w7⟨v2,rfl,I,b⟩;have ay:=ag (al.o.a b);have Gv:=ag (am.o.a b);have qD:=bT BB b;clear g b J K L M N O;obtain⟨R,ar⟩:=ak ((lW f.2.2.1 s X B).length);obtain⟨U,V,q⟩:∃a c,v2=.slice a R c:=by rw[ar];exact I.form
 subst q;have NT:=ag (I.mono BB.o.size);clear I ar;obtain⟨wk,Bb⟩:=au (w7.alloc (.cells #[.slice U R V] 31));have p:ah w7 wk:=by rw[<-Bb];exact ae
 have NH:=ag (ay.o.a p);have XQ:=ag (Gv.o.a p);have NI:=ag (NT.o.a p);have BJ:=bT qD p;have NJ:=ag (show Bq wk w7.heap.size 31 #[.slice U R V]by rw[<-Bb];exact Bq.new _ _ _);clear p;by_cases j:¬iG f.2.2.1 s X B=0
 ·have z:=ag (Yh (s:=s) (n:=n) P.o (e:=iG f.2.2.1 s X B) T.o j)
  obtain⟨W,d0,d1,d2,d3,d4,d5,l,i,e0,e1,q,t,u,A,C,D,E,F,G,H,z0,z1,z2,z3,z4,z5⟩:=oW XQ BJ (show w.heap.size<=w.heap.size+1 by omega);go_wp2;try rw[l]
  clear l e0 e1 q t u A C D E F G H;try simp only[Exit.inBlock,Exit.then]
  refine bodyPost_ret ?_ rfl (zR z i)
  simp[results,Tryz.results56,go_sem, *]
 rw[Decidable.not_not]at j;rw[j];have ED:=ag j;clear j;obtain⟨J,K,L,M,N,O⟩:=bq NH.o;have g:=vG x f wk (S.o.a BJ.o) (QT P.o).1 (QT P.o).2;go_wp2_with fail
 try rw[Bb]
 refine g.mono ?_
 rintro e Z⟨y,rfl,ho,b⟩;have Yj:=ag (XQ.o.a b);have NU:=ag (NI.o.a b);have NV:=ag (NJ.o.a b);have wZ:=bT BJ b;clear g b J K L M N O;try clear Bb
 have Jc:=ag (ho.mono BJ.o.size);clear ho;unfold aU.val;obtain⟨wz,vS⟩:=au (Z.alloc (.cells y.cs 33));have p:ah Z wz:=by rw[<-vS];exact ae
 have XR:=ag (Yj.o.a p);have XT:=ag (NU.o.a p);have XU:=ag (NV.o.a p);have Jd:=bT wZ p;have r9:=ag (show bB wz Z.heap.size y by rw[<-vS];exact Bq.new _ _ _);have DC:=ag ((Jc.o.a p).parts6);unfold aU.cs at vS;clear p Jc;have vT:=ag (show wz.grownBy (wz.setCell ⟨Z.heap.size,4,none⟩ (.slice U R V)) (some (Z.heap.size))from nO wz ⟨Z.heap.size,4,none⟩ (.slice U R V));have Je:=ag (show w.heap.size+1<Z.heap.size from Yj.o.lt);have aD:=ag (r9.o.dir U R V);have Jf:=ag (XR.o.grown vT.o (by have:=Je.o;omega));have XV:=ag (Jd.o.grown vT.o Jd.o.size (by intro k hk;cases hk;have:=Je.o;omega));have aE:=ag (show bH (wz.setCell ⟨Z.heap.size,4,none⟩ (.slice U R V)) w.heap.size ({y with a4:=U,n4:=R,c4:=V}:aU).val (f.1,f.2.1,lW f.2.2.1 s X B,f.2.2.2)from⟨_,_,_,_,_,by rw[<-DC.o.1],(DC.o.2.1).keptS vT.o r9.o (by decide) (by decide) (by decide),(XT.o).keptS vT.o r9.o (by decide) (by decide),(DC.o.2.2.2).keptS vT.o r9.o (by decide) (by decide)⟩);have i:=ag (aE.o.stored (r:=w.heap.size+1) Jf.o XV.o (by omega));obtain⟨XW,XX,XY,XZ,X0,X3⟩:=bq r9.o;obtain⟨yN,yO,yP,yQ,yS,yX⟩:=bq aD.o;dsimp only at yN yO yP yQ yS yX;have aK:=r9.o.fz;obtain⟨⟨d0,e0⟩,⟨d1,e1⟩,⟨d2,q⟩,⟨d3,t⟩,⟨d4,u⟩,⟨d5,A⟩,ff⟩:=Jf.o.cells;have C:=ff 0;have D:=ff 1;have E:=ff 2;have F:=ff 3;have G:=ff 4;have H:=ff 5;clear ff;have aO:=qtm XU.o;go_wp2;try rw[vS]
 obtain⟨W,l⟩:∃W,W=bQ (wz.setCell ⟨Z.heap.size,4,none⟩ (.slice U R V)) (w.heap.size+1) ({y with a4:=U,n4:=R,c4:=V}:aU):=⟨_,rfl⟩;rw[<-l]at i;unfold bQ at l;dsimp only at l
 try unfold tY at l
 rw[<-l];clear e0 e1 q t u A C D E F G H XW XX XY XZ X0 X3 yN yO yP yQ yS yX vS;obtain⟨z0,z1,z2,z3,z4,z5⟩:=bq i.o.2.2;dsimp only at z0 z1 z2 z3 z4 z5;try simp only[Exit.inBlock,Exit.then]
 have z:=ag (show l6 f s n=((f.1,f.2.1,lW f.2.2.1 s X B,f.2.2.2),0)by unfold l6 rH;rw[if_neg (by rw[wP.o];decide),T.o,if_neg (by rw[ED.o];decide)];unfold kT;rw[T.o,if_pos ED.o,ao.o,nJ.o]);refine bodyPost_ret (v:=.tuple #[({y with a4:=U,n4:=R,c4:=V}:aU).val,.int .i64 0]) ?_ rfl ⟨_,by rw[z.o],by rw[z.o];exact i.o.1,i.o.2.1⟩
 clear l;simp[results,Tryz.results56,go_sem, *]
end Go.Proofs.YtmeaiocohalphaaGreatDoor
