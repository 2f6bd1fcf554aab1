/-
  WalTells.
-/
import Derived.Test.YthpammbgcidloaaGreatLFb
set_option maxHeartbeats 16000000
set_option maxRecDepth 100000
namespace Go.Proofs.YthpammbgcidloaaGreat
open Go.RowKit
set_option linter.all false
theorem bu.row {w:World} {base:Nat} {a:au} {n c:Nat} {b:List (ak)} (h:bu w base (.slice a n c) b) (j:Nat) (f:j<b.length):
  ∃g y z,a=some ⟨g,0,none⟩∧aX w base (.slice y (b[j]).length z) b[j]∧∀wr,Turned w wr->wr.cell? ⟨g,j,none⟩=some (.slice y (b[j]).length z):=by
 obtain ⟨g,y,z,rfl,i,k⟩:=h.at j f;obtain ⟨o,e,l,_⟩:=h;obtain ⟨cs,d⟩:=vk l g rfl;refine ⟨g,y,z,rfl,k,fun wr m=>?_⟩;rw [World.cell?_of_block (w:=w) (a:=⟨g,j,none⟩) (by rw [d];exact m.2.1 _ _ _ _ d (by decide))];exact i
theorem aW.data {w:World} {base:Nat} {x:FsV} {f:Fsd} (h:aW w base x.val f):aX w base (.slice x.a1 x.n1 x.c1) f.1.1:=by
 obtain ⟨d1,d2,d,u,v,e,a,_,_⟩:=h;simp [FsV.val] at e;obtain ⟨g,i,j,b,c,_,_⟩:=a;simp at b
 rw [e.1,b.1];exact c
theorem qady (f:Fsd) (s:ak):(rX f s).length<=1000000:=by
 unfold rX;split
 ·simp
 ·unfold pQ
  rw [List.length_map];have:=(xL s (bE f s) (uP f s)).2.1
  exact aC this (by decide)
theorem qtp (x:FsV) (f:Fsd) (s:ak) (n:Int) (V:Vl) (ar:au) (Y cr:Nat) (r:ak) (w:World) (h:RdX w x f) (hw:WfX f) (hs:(∀g∈f.2.2.1,g.2.length<=140737488355328)∧∀g∈f.2.2.2,g.2.length<=140737488355328) (aD:(∀p∈f.1.2.1,p.2.length<=140737488355328)∧∀p∈f.1.2.2,p.2.2.length<=140737488355328) (hr:Rd w (.slice ar Y cr) r):
  Calls Tryz.prog 3 #[x.val,.string (bs s),.int .i64 n,vlV V,.slice ar Y cr] w fun e w'=>e=.returned (.bool true)∧ah w w':=by
 have HR:=ag hr;have Ht:=ag (show Y=r.length by obtain ⟨_,_,e⟩:=hr.form;cases e;rfl);have HX:=ag h;have Z:=ag hw;have HS:=ag hs;have XZ:=ag aD;clear h hw hs aD hr;obtain ⟨w1,ew⟩:=aj ((w.alloc (.cells x.cs 32)).alloc (.cells #[.string (bs V.1),.int .u32 V.2.1,.int .i64 V.2.2.1,.int .u32 V.2.2.2.1,.int .u32 V.2.2.2.2.1,.int .i64 V.2.2.2.2.2] 34));have q0:ah w (w.alloc (.cells x.cs 32)):=ae;have aE:(w.alloc (.cells x.cs 32)).heap.size=w.heap.size+1:=by simp
 have q1:Below (w.alloc (.cells x.cs 32)).heap.size (w.alloc (.cells x.cs 32)) w1:=by rw [<-ew];exact ae
 have Si:=ag (show bf w1 w.heap.size x from (Bq.new w 32 x.cs).a q1);have Fs:=ag (show uf w1 (w.heap.size+1) V by rw [<-ew,<-aE];exact Bq.new _ _ _);have bi:=ag (show ah w w1 from q0.trans (q1.mono (by omega)));clear q0 q1 aE;unfold FsV.val;unfold FsV.cs at ew;have gr:=ag (Nat.le_refl w.heap.size);obtain ⟨y,A,B,C,D,E⟩:=aV Si.o;obtain ⟨F,G,H,I,J,K⟩:=xm Fs.o;go_enter Tryz.func3,Tryz.ntmps3;have c:=qy0 x f w1 (HX.o.a bi.o) ⟨fun g hg=>by have:=HS.o.1 g hg;omega,fun g hg=>by have:=HS.o.2 g hg;omega⟩;have d:=ag c;clear c;go_wp2_with fail
 try rw [ew]
 refine d.o.mono ?_
 rintro e w2 ⟨rr,rfl,aa,a⟩;have Sk:=ag (Si.o.a a);have Fu:=ag (Fs.o.a a);have bg:=jg bi a;clear d a y A B C D E F G H I J K;try clear ew
 obtain ⟨y,A,B,C,D,E⟩:=aV Sk.o;obtain ⟨F,G,H,I,J,K⟩:=xm Fu.o;cases rr with
 | true=>
  clear aa;go_wp2;go_ret;exact ⟨rfl,bg.o⟩
 | false=>
 have HG:=ag (aa rfl);clear aa;by_cases S:10000<(bs s).size
 ·have aF:(10000:Int)<((bs s).size:Nat):=by omega
  go_wp2;go_ret;exact ⟨rfl,bg.o⟩
 have aF:decide ((10000:Int)<((bs s).size:Nat))=false:=decide_eq_false (by omega);by_cases T:10000<(bs V.1).size
 ·have aH:(10000:Int)<((bs V.1).size:Nat):=by omega
  go_wp2;go_ret;exact ⟨rfl,bg.o⟩
 have aH:decide ((10000:Int)<((bs V.1).size:Nat))=false:=decide_eq_false (by omega);by_cases U:100000<Y
 ·have aJ:(100000:Int)<(Y:Nat):=by omega
  go_wp2;go_ret;exact ⟨rfl,bg.o⟩
 have aJ:decide ((100000:Int)<(Y:Nat))=false:=decide_eq_false (by omega);have QT:=ag (show Y<=100000 by omega);clear S T U;have c:=Cq x f w2 (HX.o.a bg.o) ⟨⟨by have:=HG.o.1.1;omega,by have:=HG.o.1.2.1;omega,by have:=HG.o.1.2.2;omega⟩,aC HG.o.2.1.1 (by decide),fun g hg=>aC (HG.o.2.1.2.2 g hg).1 (by decide),aC HG.o.2.2.1 (by decide),fun g hg=>aC (HG.o.2.2.2.2 g hg).1 (by decide)⟩ XZ.o;have d:=ag c;clear c;go_wp2_with fail
 refine d.o.mono ?_
 rintro e w3 ⟨v9,rfl,l,a⟩;have XW:=ag (Sk.o.a a);have Ur:=ag (Fu.o.a a);have bU:=jg bg a;clear d a y A B C D E F G H I J K;clear aF aH aJ;obtain ⟨xo,W,X,u⟩:=l.bx;subst W;have JU:=ag (u.mono bg.o.size);clear l X u;obtain ⟨w4,xI⟩:=aj (w3.alloc (.cells xo.cs 32));have b:ah w3 w4:=by rw [<-xI];exact ae
 have Sn:=ag (XW.o.a b);have Us:=ag (Ur.o.a b);have JV:=ag (JU.o.a b);have jB:=jg bU b;have JW:=ag (show bf w4 w3.heap.size xo by rw [<-xI];exact Bq.new _ _ _);clear b;unfold FsV.cs at xI;unfold FsV.val;obtain ⟨ia,e8,ic,wi,ab,L,ac,v⟩:=Dh (qw3 w4 w4.heap.size) aI (HR.o.a jB.o) (by have h1:=QT.o;have h2:=Ht.o;simp only [List.length_nil];omega);rw [List.nil_append] at ab ac;have JX:=ag (Sn.o.a v);have Ut:=ag (Us.o.a v);have Uu:=ag (JV.o.a v);have Uv:=ag (JW.o.a v);have Fv:=jg jB v;have Uw:=ag (ac.mono jB.o.size);have yX:=ag ab.o;clear ac v ab;obtain ⟨JY,JZ,J2,J3,J4,J5⟩:=aV Uv.o;obtain ⟨⟨A1,B1,E1⟩,h1⟩:=ai (gq f s n);have Mj:=ag h1;obtain ⟨q,h2⟩:=ai (fP f s);have rO:=ag h2;obtain ⟨⟨G1,H1,E3⟩,h3⟩:=ai (lH f V r);have fF:=ag h3;clear h1 h2 h3;have c:=Bu xo f s n wi Uu.o.rdx Z.o;rw [<-Mj.o] at c;try dsimp only at c
 have d:=ag c;clear c;go_wp2_with (first | (at_builtin;refine zh rfl (.const (.slice none 0 0)) (.tmp 58) 22 rfl rfl rfl rfl (by first | exact L | (rw [xI];exact L)) ?_) | fail)
 try rw [xI]
 refine d.o.mono ?_
 rintro e w5 ⟨v9,rfl,l,a⟩;have J6:=ag (JX.o.a a);have Ux:=ag (Ut.o.a a);have J7:=ag (Uu.o.a a);have J8:=ag (Uv.o.a a);have Uy:=ag (Uw.o.a a);have C9:=jg Fv a;clear d a JY JZ J2 J3 J4 J5;try clear xI
 clear L;obtain ⟨xa,W,X,u⟩:=l.bx;subst W;have J9:=ag (u.mono Fv.o.size);clear l X u;obtain ⟨wA,wB,w6,M,t,Ai,cA,fA,cB,fB,N,O,b⟩:=Ya w5 xa B1;obtain ⟨c0,c1,c2,c3,c4,c5⟩:=cA;obtain ⟨f0,f1,f2,f3,f4,f5⟩:=fA;obtain ⟨d0,d1,d2,d3,d4,d5⟩:=cB;obtain ⟨S,T,U,g3,g4,g5⟩:=fB;have Uz:=ag (J6.o.a b);have UA:=ag (Ux.o.a b);have Ka:=ag (J7.o.a b);have Kb:=ag (J8.o.a b);have UB:=ag (Uy.o.a b);have Kc:=ag (J9.o.a b);have vS:=jg C9 b;have Ke:=ag N;have Kg:=ag O;clear N O b;unfold aY at t;unfold bV at Ai;unfold FsV.val;obtain ⟨y,A,B,C,D,E⟩:=aV Uz.o;have c:=qado x f s n w6 (HX.o.a vS.o) Z.o;rw [<-Mj.o] at c;try dsimp only at c
 have d:=ag c;clear c;go_wp2_with fail
 try rw [M]
 try rw [t]
 try rw [Ai]
 refine d.o.mono ?_
 rintro e w7 ⟨v9,rfl,l,a⟩;have Kh:=ag (Uz.o.a a);have UC:=ag (UA.o.a a);have Ki:=ag (Ka.o.a a);have Kj:=ag (Kb.o.a a);have UD:=ag (UB.o.a a);have Kk:=ag (Kc.o.a a);have Kl:=ag (Ke.o.a a);have Km:=ag (Kg.o.a a);have Da:=jg vS a;clear d a c0 c1 c2 c3 c4 c5 f0 f1 f2 f3 f4 f5 d0 d1 d2 d3 d4 d5 S T U g3 g4 g5 y A B C D E;try clear M
 try clear t
 try clear Ai
 obtain ⟨xc,W,X,u⟩:=l.bx;subst W;have Kn:=ag (u.mono vS.o.size);clear l X u;obtain ⟨wA,wB,w8,M,t,jE,cA,fA,cB,fB,N,O,b⟩:=Ya w7 xc B1;obtain ⟨c0,c1,c2,c3,c4,c5⟩:=cA;obtain ⟨f0,f1,f2,f3,f4,f5⟩:=fA;obtain ⟨d0,d1,d2,d3,d4,d5⟩:=cB;obtain ⟨S,T,U,g3,g4,g5⟩:=fB;have UE:=ag (Kh.o.a b);have UF:=ag (UC.o.a b);have Ko:=ag (Ki.o.a b);have Kq:=ag (Kj.o.a b);have Fx:=ag (UD.o.a b);have Kr:=ag (Kk.o.a b);have Kt:=ag (Kl.o.a b);have Ku:=ag (Km.o.a b);have Kv:=ag (Kn.o.a b);have sV:=jg Da b;have Kw:=ag N;have Ky:=ag O;clear N O b;unfold aY at t;unfold bV at jE;unfold FsV.val;have UG:=ag (kV.refl w8);obtain ⟨JY,JZ,J2,J3,J4,J5⟩:=aV Kq.o;have c:=XE xo f s w8 Ko.o.rdx Z.o;rw [<-rO.o] at c;try dsimp only at c
 have d:=ag c;clear c;go_wp2_with fail
 try rw [M]
 try rw [t]
 try rw [jE]
 refine d.o.mono ?_
 rintro e w9 ⟨rv,rfl,l,a⟩;have Kz:=ag (UE.o.a a);have UH:=ag (UF.o.a a);have KA:=ag (Ko.o.a a);have KC:=ag (Kq.o.a a);have UI:=ag (Fx.o.a a);have KE:=ag (Kr.o.a a);have KF:=ag (Kt.o.a a);have KG:=ag (Ku.o.a a);have KH:=ag (Kv.o.a a);have KI:=ag (Kw.o.a a);have KJ:=ag (Ky.o.a a);have UJ:=ag (UG.o.a a);have UK:=jg sV a;clear d a c0 c1 c2 c3 c4 c5 f0 f1 f2 f3 f4 f5 d0 d1 d2 d3 d4 d5 S T U g3 g4 g5 JY JZ J2 J3 J4 J5;try clear M
 try clear t
 try clear jE
 have KL:=ag l;obtain ⟨la,lc,rfl⟩:=l.form;clear l;obtain ⟨xS,D9⟩:=aj (w9.alloc (.cells #[.string (bs q.1),.int .u32 q.2.1,.int .i64 q.2.2.1,.int .u32 q.2.2.2.1,.int .u32 q.2.2.2.2.1,.int .i64 q.2.2.2.2.2] 34));have b:ah w9 xS:=by rw [<-D9];exact ae
 have UL:=ag (Kz.o.a b);have KM:=ag (UH.o.a b);have aK:=ag (KA.o.a b);have aM:=ag (KC.o.a b);have KN:=ag (UI.o.a b);have aN:=ag (KE.o.a b);have aO:=ag (KF.o.a b);have aP:=ag (KG.o.a b);have aS:=ag (KH.o.a b);have aT:=ag (KI.o.a b);have a0:=ag (KJ.o.a b);have KO:=ag (UJ.o.a b);have a6:=ag (KL.o.a b);have Ag:=jg UK b;have a7:=ag (show iw xS w9.heap.size q by rw [<-D9];exact Bq.new _ _ _);clear b;obtain ⟨y,A,B,C,D,E⟩:=aV UL.o;have c:=Oz x f s xS (HX.o.a Ag.o) Z.o;rw [<-rO.o] at c;try dsimp only at c
 have d:=ag c;clear c;go_wp2_with fail
 try rw [D9]
 refine d.o.mono ?_
 rintro e uZ ⟨rv,rfl,l,a⟩;have a8:=ag (UL.o.a a);have KP:=ag (KM.o.a a);have a9:=ag (aK.o.a a);have ba:=ag (aM.o.a a);have KQ:=ag (KN.o.a a);have bb:=ag (aN.o.a a);have bc:=ag (aO.o.a a);have bd:=ag (aP.o.a a);have be:=ag (aS.o.a a);have bh:=ag (aT.o.a a);have bl:=ag (a0.o.a a);have KR:=ag (KO.o.a a);have bm:=ag (a6.o.a a);have bn:=ag (a7.o.a a);have GX:=jg Ag a;clear d a y A B C D E;try clear D9
 have bo:=ag l;obtain ⟨ma,mc,rfl⟩:=l.form;clear l;obtain ⟨zn,Ea⟩:=aj (uZ.alloc (.cells #[.string (bs q.1),.int .u32 q.2.1,.int .i64 q.2.2.1,.int .u32 q.2.2.2.1,.int .u32 q.2.2.2.2.1,.int .i64 q.2.2.2.2.2] 34));have b:ah uZ zn:=by rw [<-Ea];exact ae
 have bp:=ag (a8.o.a b);have UM:=ag (KP.o.a b);have UN:=ag (a9.o.a b);have UO:=ag (ba.o.a b);have UQ:=ag (KQ.o.a b);have br:=ag (bb.o.a b);have bt:=ag (bc.o.a b);have bv:=ag (bd.o.a b);have bw:=ag (be.o.a b);have bz:=ag (bh.o.a b);have bC:=ag (bl.o.a b);have UR:=ag (KR.o.a b);have bD:=ag (bm.o.a b);have bF:=ag (bn.o.a b);have bH:=ag (bo.o.a b);have G6:=jg GX b;have bI:=ag (show iw zn uZ.heap.size q by rw [<-Ea];exact Bq.new _ _ _);clear b;obtain ⟨JY,JZ,J2,J3,J4,J5⟩:=aV UO.o;obtain ⟨F,G,H,I,J,K⟩:=xm UM.o;have c:=AQ xo f V ia e8 ic r zn UN.o.rdx Z.o UQ.o.rd;rw [<-fF.o] at c;try dsimp only at c
 have d:=ag c;clear c;go_wp2_with fail
 try rw [Ea]
 refine d.o.mono ?_
 rintro e ad ⟨v9,rfl,l,a⟩;have bO:=ag (bp.o.a a);have KS:=ag (UM.o.a a);have bP:=ag (UN.o.a a);have bR:=ag (UO.o.a a);have KT:=ag (UQ.o.a a);have bS:=ag (br.o.a a);have b0:=ag (bt.o.a a);have b1:=ag (bv.o.a a);have b2:=ag (bw.o.a a);have b3:=ag (bz.o.a a);have b4:=ag (bC.o.a a);have KU:=ag (UR.o.a a);have b5:=ag (bD.o.a a);have b6:=ag (bF.o.a a);have b7:=ag (bH.o.a a);have b8:=ag (bI.o.a a);have KV:=jg G6 a;clear d a JY JZ J2 J3 J4 J5 F G H I J K;try clear Ea
 have b9:=ag l;obtain ⟨j,W,X,u⟩:=l.bx;subst W;have ca:=ag (u.mono G6.o.size);clear l X u;obtain ⟨wA,wB,Hz,M,t,KW,cA,fA,cB,fB,N,O,b⟩:=Ya ad j H1;obtain ⟨c0,c1,c2,c3,c4,c5⟩:=cA;obtain ⟨f0,f1,f2,f3,f4,f5⟩:=fA;obtain ⟨d0,d1,d2,d3,d4,d5⟩:=cB;obtain ⟨S,T,U,g3,g4,g5⟩:=fB;have UT:=ag (bO.o.a b);have UU:=ag (KS.o.a b);have cb:=ag (bP.o.a b);have cc:=ag (bR.o.a b);have KX:=ag (KT.o.a b);have cd:=ag (bS.o.a b);have ce:=ag (b0.o.a b);have cf:=ag (b1.o.a b);have cg:=ag (b2.o.a b);have ch:=ag (b3.o.a b);have ci:=ag (b4.o.a b);have KY:=ag (KU.o.a b);have cj:=ag (b5.o.a b);have ck:=ag (b6.o.a b);have cl:=ag (b7.o.a b);have cm:=ag (b8.o.a b);have cn:=ag (b9.o.a b);have co:=ag (ca.o.a b);have IB:=jg KV b;have cp:=ag N;have cq:=ag O;clear N O b;unfold aY at t;unfold bV at KW;unfold FsV.val;obtain ⟨y,A,B,C,D,E⟩:=aV UT.o;obtain ⟨F,G,H,I,J,K⟩:=xm UU.o;have c:=Mq x f V ar Y cr r Hz (HX.o.a IB.o) Z.o (HR.o.a IB.o);rw [<-fF.o] at c;try dsimp only at c
 have d:=ag c;clear c;go_wp2_with fail
 try rw [M]
 try rw [t]
 try rw [KW]
 refine d.o.mono ?_
 rintro e fa ⟨v9,rfl,l,a⟩;have cw:=ag (UT.o.a a);have KZ:=ag (UU.o.a a);have cx:=ag (cb.o.a a);have cy:=ag (cc.o.a a);have K4:=ag (KX.o.a a);have cC:=ag (cd.o.a a);have cD:=ag (ce.o.a a);have cE:=ag (cf.o.a a);have cF:=ag (cg.o.a a);have cG:=ag (ch.o.a a);have cH:=ag (ci.o.a a);have K5:=ag (KY.o.a a);have cI:=ag (cj.o.a a);have cJ:=ag (ck.o.a a);have cK:=ag (cl.o.a a);have cL:=ag (cm.o.a a);have cM:=ag (cn.o.a a);have cN:=ag (co.o.a a);have cP:=ag (cp.o.a a);have cQ:=ag (cq.o.a a);have IE:=jg IB a;clear d a c0 c1 c2 c3 c4 c5 f0 f1 f2 f3 f4 f5 d0 d1 d2 d3 d4 d5 S T U g3 g4 g5 y A B C D E F G H I J K;try clear M
 try clear t
 try clear KW
 obtain ⟨xi,W,X,u⟩:=l.bx;subst W;have cR:=ag (u.mono IB.o.size);clear l X u;obtain ⟨wA,wB,fb,M,t,K6,cA,fA,cB,fB,N,O,b⟩:=Ya fa xi H1;obtain ⟨c0,c1,c2,c3,c4,c5⟩:=cA;obtain ⟨f0,f1,f2,f3,f4,f5⟩:=fA;obtain ⟨d0,d1,d2,d3,d4,d5⟩:=cB;obtain ⟨S,T,U,g3,g4,g5⟩:=fB;have cS:=ag (cw.o.a b);have UV:=ag (KZ.o.a b);have UW:=ag (cx.o.a b);have UX:=ag (cy.o.a b);have K7:=ag (K4.o.a b);have cT:=ag (cC.o.a b);have cU:=ag (cD.o.a b);have cV:=ag (cE.o.a b);have cW:=ag (cF.o.a b);have cX:=ag (cG.o.a b);have cY:=ag (cH.o.a b);have K8:=ag (K5.o.a b);have c6:=ag (cI.o.a b);have c7:=ag (cJ.o.a b);have c8:=ag (cK.o.a b);have c9:=ag (cL.o.a b);have da:=ag (cM.o.a b);have db:=ag (cN.o.a b);have dc:=ag (cP.o.a b);have dd:=ag (cQ.o.a b);have de:=ag (cR.o.a b);have K9:=jg IE b;have df:=ag N;have dg:=ag O;clear N O b;unfold aY at t;unfold bV at K6;unfold FsV.val;obtain ⟨JY,JZ,J2,J3,J4,J5⟩:=aV UX.o;obtain ⟨F,G,H,I,J,K⟩:=xm UV.o;have c:=qadf xo f V fb UW.o.rdx Z.o;have d:=ag c;clear c;go_wp2_with fail
 try rw [M]
 try rw [t]
 try rw [K6]
 refine d.o.mono ?_
 rintro e fc ⟨rfl,a⟩;have UY:=ag (cS.o.a a);have UZ:=ag (UV.o.a a);have dj:=ag (UW.o.a a);have dk:=ag (UX.o.a a);have La:=ag (K7.o.a a);have dn:=ag (cT.o.a a);have dp:=ag (cU.o.a a);have dq:=ag (cV.o.a a);have dr:=ag (cW.o.a a);have ds:=ag (cX.o.a a);have dt:=ag (cY.o.a a);have Lb:=ag (K8.o.a a);have du:=ag (c6.o.a a);have dw:=ag (c7.o.a a);have dx:=ag (c8.o.a a);have dy:=ag (c9.o.a a);have dC:=ag (da.o.a a);have dD:=ag (db.o.a a);have dG:=ag (dc.o.a a);have dJ:=ag (dd.o.a a);have dK:=ag (de.o.a a);have dM:=ag (df.o.a a);have dN:=ag (dg.o.a a);have U0:=jg K9 a;clear d a c0 c1 c2 c3 c4 c5 f0 f1 f2 f3 f4 f5 d0 d1 d2 d3 d4 d5 S T U g3 g4 g5 JY JZ J2 J3 J4 J5 F G H I J K;try clear M
 try clear t
 try clear K6
 obtain ⟨y,A,B,C,D,E⟩:=aV UY.o;obtain ⟨F,G,H,I,J,K⟩:=xm UZ.o;have c:=qy9 x f V fc (HX.o.a U0.o) Z.o;have d:=ag c;clear c;go_wp2_with fail
 refine d.o.mono ?_
 rintro e fd ⟨rfl,a⟩;have dO:=ag (UY.o.a a);have Lc:=ag (UZ.o.a a);have dR:=ag (dj.o.a a);have dT:=ag (dk.o.a a);have Ld:=ag (La.o.a a);have U1:=ag (dn.o.a a);have U2:=ag (dp.o.a a);have dW:=ag (dq.o.a a);have U3:=ag (dr.o.a a);have U4:=ag (ds.o.a a);have d6:=ag (dt.o.a a);have Le:=ag (Lb.o.a a);have d7:=ag (du.o.a a);have d8:=ag (dw.o.a a);have d9:=ag (dx.o.a a);have ea:=ag (dy.o.a a);have eb:=ag (dC.o.a a);have ec:=ag (dD.o.a a);have ee:=ag (dG.o.a a);have ef:=ag (dJ.o.a a);have eg:=ag (dK.o.a a);have eh:=ag (dM.o.a a);have ei:=ag (dN.o.a a);have Lf:=jg U0 a;clear d a y A B C D E F G H I J K;obtain ⟨ff,fg,fh,fi,fj,fk⟩:=aV U2.o;obtain ⟨fl,fm,fn,fo,fp,fr⟩:=aV U4.o;have c:=qj0 xa xc A1 A1 fd U1.o.rdx U3.o.rdx;rw [qjz] at c;try dsimp only at c
 have d:=ag c;clear c;go_wp2_with fail
 refine d.o.mono ?_
 rintro e ft ⟨rfl,a⟩;have ej:=ag (dO.o.a a);have Lh:=ag (Lc.o.a a);have el:=ag (dR.o.a a);have em:=ag (dT.o.a a);have Li:=ag (Ld.o.a a);have en:=ag (U1.o.a a);have eo:=ag (U2.o.a a);have U5:=ag (dW.o.a a);have ep:=ag (U3.o.a a);have er:=ag (U4.o.a a);have U6:=ag (d6.o.a a);have Lj:=ag (Le.o.a a);have U7:=ag (d7.o.a a);have U8:=ag (d8.o.a a);have U9:=ag (d9.o.a a);have Va:=ag (ea.o.a a);have es:=ag (eb.o.a a);have et:=ag (ec.o.a a);have eu:=ag (ee.o.a a);have ev:=ag (ef.o.a a);have ex:=ag (eg.o.a a);have ey:=ag (eh.o.a a);have ez:=ag (ei.o.a a);have Ll:=jg Lf a;clear d a ff fg fh fi fj fk fl fm fn fo fp fr;obtain ⟨fv,fx,fy,fE,fG,fL⟩:=jJ U5.o;obtain ⟨X7,fN,fR,fS,fT,fU⟩:=jJ U6.o;obtain ⟨sj,su,sw,sD,sF,sG⟩:=jJ U8.o;obtain ⟨Jq,Jr,Js,Jt,Ju,Jv⟩:=jJ Va.o;have c:=qadx (rX f s) (rX f s) la ma _ lc _ mc ft U7.o.rdL U9.o.rdL;rw [decide_eq_true (rfl:rX f s=rX f s)] at c;try dsimp only at c
 have d:=ag c;clear c;go_wp2_with fail
 refine d.o.mono ?_
 rintro e fV ⟨rfl,a⟩;have eC:=ag (ej.o.a a);have Lm:=ag (Lh.o.a a);have eE:=ag (el.o.a a);have eF:=ag (em.o.a a);have Lp:=ag (Li.o.a a);have eG:=ag (en.o.a a);have eI:=ag (eo.o.a a);have eJ:=ag (U5.o.a a);have eK:=ag (ep.o.a a);have eL:=ag (er.o.a a);have eM:=ag (U6.o.a a);have Lr:=ag (Lj.o.a a);have eN:=ag (U7.o.a a);have eO:=ag (U8.o.a a);have eQ:=ag (U9.o.a a);have eR:=ag (Va.o.a a);have eS:=ag (es.o.a a);have Vb:=ag (et.o.a a);have Vd:=ag (eu.o.a a);have eT:=ag (ev.o.a a);have Ve:=ag (ex.o.a a);have Vf:=ag (ey.o.a a);have eU:=ag (ez.o.a a);have Ls:=jg Ll a;clear d a fv fx fy fE fG fL X7 fN fR fS fT fU sj su sw sD sF sG Jq Jr Js Jt Ju Jv;obtain ⟨al,am,an,ao,ap,aq⟩:=aV Vd.o;obtain ⟨fW,fX,fY,f6,f7,f8⟩:=aV Vf.o;have c:=qj0 j xi G1 G1 fV Vb.o.rdx Ve.o.rdx;rw [qjz] at c;try dsimp only at c
 have d:=ag c;clear c;go_wp2_with fail
 refine d.o.mono ?_
 rintro e Av ⟨rfl,a⟩;have Yb:=ag (eC.o.a a);have e6:=ag (Lm.o.a a);have Yc:=ag (eE.o.a a);have Yd:=ag (eF.o.a a);have e7:=ag (Lp.o.a a);have Ye:=ag (eG.o.a a);have Yf:=ag (eI.o.a a);have Yg:=ag (eJ.o.a a);have Yh:=ag (eK.o.a a);have Yi:=ag (eL.o.a a);have Yj:=ag (eM.o.a a);have Lt:=ag (Lr.o.a a);have eV:=ag (eN.o.a a);have Yk:=ag (eO.o.a a);have Ym:=ag (eQ.o.a a);have Yn:=ag (eR.o.a a);have eW:=ag (eS.o.a a);have Yo:=ag (Vb.o.a a);have Vg:=ag (Vd.o.a a);have eX:=ag (eT.o.a a);have Yp:=ag (Ve.o.a a);have Yq:=ag (Vf.o.a a);have eY:=ag (eU.o.a a);have Sb:=jg Ls a;clear d a al am an ao ap aq fW fX fY f6 f7 f8;obtain ⟨f9,ga,gb,gc,gd,ge⟩:=jJ eX.o;obtain ⟨gf,gg,gh,gi,gj,gk⟩:=jJ eY.o;obtain ⟨al,am,an,ao,ap,aq⟩:=aV Vg.o;have eZ:=ag eV.o;have e2:=qady f s;obtain ⟨ln,aw⟩:=ai ((rX f s).length);rw [<-aw] at eZ e2 ⊢;have Aa:=ag aw;clear aw;have e3:af (∀wr,Turned Av wr->Bq wr (ad.heap.size) 32 #[.slice j.a1 j.n1 j.c1,.slice j.a2 j.n2 j.c2,.slice j.a3 j.n3 j.c3,.int .u32 j.g,.slice j.a4 j.n4 j.c4,.slice j.a5 j.n5 j.c5]):=fun wr hT=>hT.2.1 _ _ _ _ Vg.o (by decide)
 have q:=ag (eW.o.data.mono (show w8.heap.size<=zn.heap.size from kV.size UR.o));have gl:j.n1<=maxLen:=by have h9:=q.o.rd.len_le;have h8:=q.o.len';omega
 unfold maxLen at gl;go_wp2;clear f9 ga gb gc gd ge gf gg gh gi gj gk al am an ao ap aq;go_loopw [35] (fun i wr=>∃z:Nat,z<=ln∧i=.int .i64 z∧af (Turned Av wr∧Below w8.heap.size Av wr)) (fun i _=>ln - (intOf i).toNat)
 case atStart=>exact ⟨0,Nat.zero_le _,rfl,ag ⟨Turned.refl _,aB⟩⟩
 case round=>
  obtain ⟨z,hz,rfl,hT⟩:=hrel;by_cases ax:z<ln
  ·have go:(z:Int)<ln:=by omega
   obtain ⟨gw,av,cv,rfl,Yr,ay⟩:=eZ.o.row z (by rw [<-Aa.o];exact ax);have oN:=Yr.rd.len_le;unfold maxLen at oN;obtain ⟨m,hm⟩:∃m,m=((rX f s)[z]'(by rw [<-Aa.o];exact ax)).length:=⟨_,rfl⟩;rw [<-hm] at Yr ay oN;have yC:=ag Yr;have gm:=ag ay;clear Yr ay hm;go_wp2
   go_loopw [36] (fun i wr=>∃k:Nat,k<=m∧i=.int .i64 k∧af (Turned Av wr∧Below w8.heap.size Av wr)) (fun i _=>m - (intOf i).toNat)
   case atStart=>exact ⟨0,Nat.zero_le _,rfl,hT⟩
   case round=>
    obtain ⟨k,hk,rfl,R⟩:=hrel;have p0:=gm.o _ R.o.1;by_cases Q:k<m
    ·have Vh:(k:Int)<m:=by omega
     obtain ⟨g,bk,bj,rfl,hc,hf,gn,rP⟩:=qto yC.o R.o.1 R.o.2 k Q;go_wp2;go_region
     go_wp2;exact ⟨⟨k+1,by omega,rfl,rP⟩,by simp only [intOf];omega⟩
    ·have hd:decide ((k:Int)<m)=false:=aA (by omega)
     go_wp2;exact ⟨⟨z+1,by omega,rfl,R⟩,by simp only [intOf];omega⟩
  ·have hd:decide ((z:Int)<ln)=false:=aA (by omega)
   go_wp2;clear hd ax hz;go_loopw [37] (fun i wr=>∃k:Nat,k<=j.n1∧i=.int .i64 k∧af (Turned Av wr∧Below w8.heap.size Av wr)) (fun i _=>j.n1 - (intOf i).toNat)
   case atStart=>exact ⟨0,Nat.zero_le _,rfl,hT⟩
   case round=>
    obtain ⟨k,hk,rfl,R⟩:=hrel;have p0:=(e3.o _ R.o.1).cell 0;by_cases Q:k<j.n1
    ·have Vh:(k:Int)<j.n1:=by omega
     obtain ⟨g,bk,bj,e4,hc,hf,gn,rP⟩:=qto q.o R.o.1 R.o.2 k Q;have p1:wr.cell? ⟨ad.heap.size,0,none⟩=some (.slice (some ⟨g,0,none⟩) j.n1 j.c1):=by rw [<-e4];exact p0
     clear p0 e4;go_wp2;go_region
     go_wp2;exact ⟨⟨k+1,by omega,rfl,rP⟩,by simp only [intOf];omega⟩
    ·have hd:decide ((k:Int)<j.n1)=false:=aA (by omega)
     have Vi:=ag (show ah w8 wr from Below.trans Lt.o R.o.2);obtain ⟨k0,k1,k2,k3,k4,k5⟩:=aV (Kq.o.a Vi.o);obtain ⟨j0,j1,j2,j3,j4,j5⟩:=aV (UE.o.a Vi.o);have c:=qj0 xo x f f wr (Ko.o.a Vi.o).rdx ((HX.o.a sV.o).a Vi.o);rw [qjz] at c;clear R hT;go_wp2_with fail
     refine c.mono ?_
     rintro e wy ⟨rfl,e5⟩;have R7:=bT Vi e5;have I9:=ik (P:=Tryz.prog) 22 5 9 Tryz.underlying22 Tryz.underlying5 Tryz.underlying9 (Fx.o.a R7.o).rd;have gp:=ik (P:=Tryz.prog) 22 5 9 Tryz.underlying22 Tryz.underlying5 Tryz.underlying9 ((HR.o.a sV.o).a R7.o);have HE:=ag (sV.o.trans (R7.o.mono sV.o.size));clear c e5 k0 k1 k2 k3 k4 k5 j0 j1 j2 j3 j4 j5 p0;go_wp2;go_ret;exact ⟨rfl,HE.o⟩
end Go.Proofs.YthpammbgcidloaaGreat
