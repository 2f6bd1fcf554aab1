/-
  What New and Add do.
-/
import Derived.Test.YtmeaiocohalphaaGreatDoorVn6
set_option maxHeartbeats 4000000
set_option maxRecDepth 100000
namespace Go.Proofs.YtmeaiocohalphaaGreatDoor
open Go.RowKit Go.Shelf
set_option linter.all false
variable {w w':World}{V:lJ}{f:aR}{base c g n sz:Nat}{v:Value}{l:List dn}{α:Type}{t:TypeId}
theorem fT.others{A b:Nat}{m:dn}(h:fT w A m)(d:Go.Lib.OthersKept 5 (some b) w w')(a:A≠b):fT w' A m:=
 d A _ h (fun e=>a (Option.some.inj e)) (fun c fz e=>by injection e with _ e2 _;exact absurd e2 (by decide))
theorem jo(h:dw V=0){k:Nat}(b:k<V.1.length)(j:Nat):(ed (V.1.take k)).length<=6000∧((ed (V.1.take k)++sm (V.1[k]).length)++iV ((V.1[k]).take j)).length<=12000∧(∀m∈V.1[k],jE m=true):=by
 obtain⟨d,c⟩:=jP.1 h;obtain⟨e,hl,f,hv,_⟩:=bS.1 c;have a:=(ig.1 hv).1;have g:=Vk (L:=V.1.take k) (fun l hl=>⟨by have:=Ry (Xb9 hl);omega,a l (Xb9 hl)⟩);have i:(V.1.take k).flatten.length<=V.1.flatten.length:=by
  conv=>rhs;rw[<-Xc0 k V.1,List.flatten_append,Xa0]
  omega
 have n:(V.1.take k).length<=4:=by rw[Xa4];omega
 have o:=Ry (Xa3 b);have p:=qpk (l:=(V.1[k]).take j) (fun m c=>a _ (Xa3 b) m (Xb9 c));have q:((V.1[k]).take j).length<=(V.1[k]).length:=by rw[Xa4];omega
 have r:(sm (V.1[k]).length).length=1:=by rw[Eg (by omega)];rfl
 refine⟨by omega, ?_,a _ (Xa3 b)⟩;rw[Xa0,Xa0];omega
theorem qx2(h:dw V=0):(ed V.1).length<=6000:=by
 have:=RD h
 unfold dS at this;rw[Xa0]at this;omega
theorem qzk(a:aA)(n c:Nat)(R:dL)(nx sq:Int)(lg:az)(w:World)(S:gM w (.slice a n c) R)(hV:dw (aT R,nx,sq,lg)=0):
  Calls Tryz.prog 36 #[.agg #[.slice a n c,.int .i64 nx,.int .i64 sq,.string (bs lg)]] w fun e w'=>∃v,e=.returned v∧fB w' w.heap.size v (dS (aT R,nx,sq,lg))∧ah w w':=by
 obtain⟨zx,zs,zl⟩:(∃p:Nat,nx=p∧p<9223372036854775808)∧(∃p:Nat,sq=p∧p<9223372036854775808)∧lg.length<=1000000:=by
  obtain⟨_,hm⟩:=jP.1 hV;obtain⟨_,hl,hn,_,_⟩:=bS.1 hm;obtain⟨n1,n2,n3,n4⟩:=qpi hn;have n1:1<=nx:=n1;have n2:nx<=1099511627776:=n2;have n3:0<=sq:=n3;have n4:sq<=1099511627776:=n4;have hl:lg.length<=16:=(P9 hl).2;exact⟨⟨nx.toNat,by omega,by omega⟩,⟨sq.toNat,by omega,by omega⟩,by omega⟩
 obtain⟨nx,rfl,ai⟩:=zx;obtain⟨sq,rfl,WI⟩:=zs;have aD:n<=1000:=by
  have f:=(bS.1 (jP.1 hV).2).1;have f:(aT R).length=4:=f;rw[jM]at f;have:=S.len
  omega
 have HN:=ag S.len;have HR:=ag S;have HV:=ag hV;have jb:=ag ai;have IW:=ag WI;have ap:=ag zl;obtain⟨w1,y⟩:=ak (w.alloc (.cells #[.slice a n c,.int .i64 nx,.int .i64 sq,.string (bs lg)] 36));have W:ah w w1:=by rw[y];exact ae
 have hs1:w1.heap.size=w.heap.size+1:=by rw[y];simp
 obtain⟨Y,z⟩:=ak (w1.alloc (.cells #[.slice none 0 0,.int .i64 0,.int .i8 0] 142));have Z:ah w1 Y:=by rw[z];exact ae
 have aj:Y.heap.size=w.heap.size+2:=by rw[z];simp[hs1]
 have aa:=(show aQ w1 w.heap.size (.slice a n c) nx sq lg by rw[y];exact aQ.new w _ nx sq lg).a Z;have al:iO Y (w.heap.size+1) (w.heap.size+1) []:=by rw[z,<-hs1];exact iO.new w1
 have T:=ag aa;have MX:=ag al;have aq:=ag (show Below (w.heap.size+1) Y Y from aF);have oO:=ag (W.trans (Z.mono W.size));have ab:=ag aj;obtain⟨J,K,N,O⟩:=aa.cells;clear W Z hs1 aj aa al S hV ai WI zl;go_enter Tryz.func36,Tryz.ntmps36;go_wp2_with fail
 rw[<-y];rw[<-z];clear y z;go_loopw [15] (fun i wr=>∃k:Nat,k<=n∧i=.int .i64 k∧af (iO wr (w.heap.size+1) (w.heap.size+1) (ed ((aT R).take k)))∧af (Below (w.heap.size+1) Y wr)) (fun i _=>n-(intOf i).toNat)
 case atStart=>exact⟨0,Xd5 _,rfl,ag (by rw[Xc2,qwc];exact MX.o),aq⟩
 obtain⟨k,hk,rfl,P,u⟩:=hrel;have xB:=ag (T.o.low u.o (by omega));have fu:=ag (oO.o.trans (u.o.mono (by omega)));clear J K N O;obtain⟨J,K,N,O⟩:=xB.o.cells;by_cases ar:k<n
 ·have ay:(k:Int)<n:=by omega
  have h:k<R.length:=by have:=HN.o;omega
  obtain⟨bb,aE,ax,A,cx,rfl,q0,mG,U⟩:=HR.o.cells fu.o k h;obtain⟨p1,p2,p3⟩:=jo HV.o (k:=k) (by show k<(aT R).length;rw[jM];exact h) 0;have e9:(aT R)[k]'(by rw[jM];exact h)=(R[k]).2:=yC h _;have yG:=ag (show(aT R).take (k+1)=(aT R).take k++[(R[k]).2]by rw[Xa2 (by rw[jM];exact h),yC h]);have mD:=ag (show(ed ((aT R).take k)).length<=6000∧(∀j,((ed ((aT R).take k)++sm ((R[k]).2).length)++iV (((R[k]).2).take j)).length<=12000)∧(∀m∈(R[k]).2,jE m=true)from⟨p1,fun j=>by
   have:=(jo HV.o (k:=k) (by show k<(aT R).length;rw[jM];exact h) j).2.1
   have this:((ed ((aT R).take k)++sm ((aT R)[k]'(by rw[jM];exact h)).length)++iV (((aT R)[k]'(by rw[jM];exact h)).take j)).length<=12000:=this;rw[e9]at this;exact this,fun m hm=>p3 m (by show m∈(aT R)[k]'(by rw[jM];exact h);rw[e9];exact hm)⟩)
  obtain⟨X,hX⟩:=ak ((R[k]).2);rw[<-hX]at mG U yG mD;have HX:=ag mG;have Gm:=ag U;have tQ:A<=1000000:=by
   have f:=Ry (L:=aT R) (l:=(R[k]).2) (List.mem_map.2 ⟨R[k],Xa3 h,rfl⟩);have:=(jP.1 HV.o).1
   have this:(aT R).flatten.length<=32:=this;rw[U,hX];omega
  obtain⟨C,hC⟩:=ak (ed ((aT R).take k));rw[<-hC]at P mD;have av:=ag hC;have b:=Wn (w.heap.size+1) (w.heap.size+1) C A wr P.o (by have:=u.o.size;have:=ab.o;omega) (by omega) (by have:=mD.o.1;omega);clear hX hC p1 p2 p3 e9 mG U P;go_wp2_with fail
  refine b.mono ?_
  rintro e w3⟨rfl,h3,b3,V⟩;have WJ:=ag h3;have am:=ag (u.o.trans b3);clear b h3 b3 V J K N O q0 u xB fu;go_wp2;go_loopw [25] (fun i wr=>∃j:Nat,j<=A∧i=.int .i64 j∧af (iO wr (w.heap.size+1) (w.heap.size+1) ((C++sm A)++iV (X.take j)))∧af (Below (w.heap.size+1) Y wr)) (fun i _=>A-(intOf i).toNat)
  case atStart=>exact⟨0,Xd5 _,rfl,ag (by rw[Xc2,qwb,Xc8];exact WJ.o),am⟩
  obtain⟨j,hj,rfl,P,u⟩:=hrel;clear WJ am;have fu:=ag (oO.o.trans (u.o.mono (by omega)));by_cases aw:j<A
  ·have WK:(j:Int)<A:=by omega
   have M7:j<X.length:=by have:=Gm.o;omega
   obtain⟨b4,o4,e4,c0,c1,c2,c3,c4⟩:=HX.o.cells fu.o j M7;subst e4;have WL:=ag (show X.take (j+1)=X.take j++[X[j]]from Xa2 M7);have ac:=mD.o.2.2 _ (Xa3 M7);have ad:=mD.o.2.1 j;rw[<-Gm.o]at ad;obtain⟨M,hM⟩:=ak (X[j]);rw[<-hM]at c0 c1 c2 c3 c4 WL ac;obtain⟨m1,m2,m3,m4,m5,m6,m7⟩:=qub ac;obtain⟨s,q,t,x,hi⟩:=M;clear hM ac;obtain⟨q,rfl⟩:∃p:Nat,q=p:=⟨q.toNat,by have:1<=q:=m4;omega⟩;obtain⟨t,rfl⟩:∃p:Nat,t=p:=⟨t.toNat,by have:1<=t:=m6;omega⟩;dsimp only[gG,gH]at c0 c1 c2 c3 c4;have Q:=ag (show s.length<=1000∧x.length<=1000∧hi.length<=1000∧q<100000∧t<100000 from⟨by have:s.length<=16:=m1;omega,by have:x.length<=64:=m2;omega,by have:hi.length<=64:=m3;omega,by have:(q:Int)<=16384:=m5;omega,by have:(t:Int)<=65536:=m7;omega⟩);clear m1 m2 m3 m4 m5 m6 m7;obtain⟨w5,Gn⟩:=ak (wr.alloc (.cells #[.string (bs s),.int .i64 q,.int .i64 t,.string (bs x),.string (bs hi)] 124))
   have b5:ah wr w5:=by rw[Gn];exact ae
   have an:w.heap.size+2<=wr.heap.size:=by have:=u.o.size;have:=ab.o;omega
   have B:=ag an;have CJ:=ag (show fT w5 wr.heap.size (s,(q:Int),(t:Int),x,hi)by rw[Gn];exact fT.new wr (s,(q:Int),(t:Int),x,hi));have vg:=ag (P.o.old b5);have fK:=ag (u.o.trans (b5.mono (by omega)));have uK:=ag (show w.heap.size+1<=w5.heap.size by have:=b5.size;omega);have vK:=ag ad;obtain⟨D,hD⟩:=ak ((C++sm A)++iV (X.take j));rw[<-hD]at vg vK;have HD:=ag hD;obtain⟨E,F,G,H,I⟩:=CJ.o.cells;clear P u ad an hD b5 fu;have d:(D).length<=1000000:=by have f:=vK.o;have h8:=Q.o;have k1:=nM s (by omega);have k2:=nM x (by omega);have V:=iP (n:=q) (by omega);have k4:=iP (n:=t) (by omega);(try simp only[Xa0]at *);omega
   have b:=nI (w.heap.size+1) (w.heap.size+1) (D) s w5 vg.o uK.o (by have:=Q.o;omega) d;clear d;go_wp2_with fail
   rw[<-Gn];clear Gn;refine b.mono ?_
   rintro e w6⟨rfl,f,g,r⟩;have IX:=ag f;have mJ:=ag (fK.o.trans g);have Gp:=ag (aG uK.o g.size);have EJ:=ag (CJ.o.others r (by have:=B.o;omega));clear b f g r E F G H I vg fK uK CJ;obtain⟨E,F,G,H,I⟩:=EJ.o.cells;have d:((D++tx s)).length<=1000000:=by have f:=vK.o;have h8:=Q.o;have k1:=nM s (by omega);have k2:=nM x (by omega);have V:=iP (n:=q) (by omega);have k4:=iP (n:=t) (by omega);(try simp only[Xa0]at *);omega
   have b:=Wn (w.heap.size+1) (w.heap.size+1) ((D++tx s)) q w6 IX.o Gp.o (by have:=Q.o;omega) d;clear d;go_wp2_with fail
   refine b.mono ?_
   rintro e w7⟨rfl,f,g,r⟩;have Gq:=ag f;have Bz:=ag (mJ.o.trans g);have C9:=ag (aG Gp.o g.size);have EK:=ag (EJ.o.others r (by have:=B.o;omega));clear b f g r E F G H I IX mJ Gp EJ;obtain⟨E,F,G,H,I⟩:=EK.o.cells;have d:(((D++tx s)++sm q)).length<=1000000:=by have f:=vK.o;have h8:=Q.o;have k1:=nM s (by omega);have k2:=nM x (by omega);have V:=iP (n:=q) (by omega);have k4:=iP (n:=t) (by omega);(try simp only[Xa0]at *);omega
   have b:=Wn (w.heap.size+1) (w.heap.size+1) (((D++tx s)++sm q)) t w7 Gq.o C9.o (by have:=Q.o;omega) d;clear d;go_wp2_with fail
   refine b.mono ?_
   rintro e w8⟨rfl,f,g,r⟩;have Da:=ag f;have tL:=ag (Bz.o.trans g);have AY:=ag (aG C9.o g.size);have xC:=ag (EK.o.others r (by have:=B.o;omega));clear b f g r E F G H I Gq Bz C9 EK;obtain⟨E,F,G,H,I⟩:=xC.o.cells;have d:((((D++tx s)++sm q)++sm t)).length<=1000000:=by have f:=vK.o;have h8:=Q.o;have k1:=nM s (by omega);have k2:=nM x (by omega);have V:=iP (n:=q) (by omega);have k4:=iP (n:=t) (by omega);(try simp only[Xa0]at *);omega
   have b:=nI (w.heap.size+1) (w.heap.size+1) ((((D++tx s)++sm q)++sm t)) x w8 Da.o AY.o (by have:=Q.o;omega) d;clear d;go_wp2_with fail
   refine b.mono ?_
   rintro e w9⟨rfl,f,g,r⟩;have uG:=ag f;have dG:=ag (tL.o.trans g);have BF:=ag (aG AY.o g.size);have yH:=ag (xC.o.others r (by have:=B.o;omega));clear b f g r E F G H I Da tL AY xC;obtain⟨E,F,G,H,I⟩:=yH.o.cells;have d:(((((D++tx s)++sm q)++sm t)++tx x)).length<=1000000:=by have f:=vK.o;have h8:=Q.o;have k1:=nM s (by omega);have k2:=nM x (by omega);have V:=iP (n:=q) (by omega);have k4:=iP (n:=t) (by omega);(try simp only[Xa0]at *);omega
   have b:=nI (w.heap.size+1) (w.heap.size+1) (((((D++tx s)++sm q)++sm t)++tx x)) hi w9 uG.o BF.o (by have:=Q.o;omega) d;clear d;go_wp2_with fail
   refine b.mono ?_
   rintro e tJ⟨rfl,f,g,r⟩;have Gr:=ag f;have Dc:=ag (dG.o.trans g);have M8:=ag (aG BF.o g.size);have nX:=ag (yH.o.others r (by have:=B.o;omega));clear b f g r E F G H I uG dG BF yH;obtain⟨E,F,G,H,I⟩:=nX.o.cells;have qX:=ag (show iO tJ (w.heap.size+1) (w.heap.size+1) ((C++sm A)++iV (X.take (j+1)))by
    rw[WL.o,qle,<-Xa8,<-HD.o];have f:=Gr.o;simp only[Xa8]at f⊢;exact f)
   go_wp2;clear E F G H I;go_roundw
   case rel=>exact⟨j+1,by omega,by go_num,qX,Dc⟩
   simp only[intOf];omega
  have hd:decide ((j:Int)<A)=false:=aC (by omega);obtain rfl:j=A:=by omega
  have HE:=ag (show iO wr (w.heap.size+1) (w.heap.size+1) (ed ((aT R).take (k+1)))by
   have f:=P.o;have e8:j=X.length:=Gm.o;rw[e8,Xb5]at f;rw[yG.o,qlf,P8,<-av.o,<-Xa8];exact f)
  clear P hj aw fu;go_wp2;go_roundw
  case rel=>exact⟨k+1,by omega,by go_num,HE,u⟩
  simp only[intOf];omega
 have hd:decide ((k:Int)<n)=false:=aC (by omega);obtain rfl:k=n:=by omega
 have Da:=ag (show iO wr (w.heap.size+1) (w.heap.size+1) (ed (aT R))by
  have f:=P.o;rw[Xa1 (by rw[jM];have:=HN.o;omega)]at f;exact f)
 have ao:(ed (aT R)).length<=6000:=qx2 HV.o;have oz:=ag ao;have tL:=u;have AY:=ag (show w.heap.size+1<=wr.heap.size by have:=u.o.size;have:=ab.o;omega);clear P u ao hk ar fu xB;have d:(ed (aT R)).length<=1000000:=by have f:=oz.o;have V:=iP (n:=nx) (by have:=jb.o;omega);have k4:=iP (n:=sq) (by have:=IW.o;omega);(try simp only[Xa0]at *);omega
 have b:=Wn (w.heap.size+1) (w.heap.size+1) (ed (aT R)) nx wr Da.o AY.o jb.o d;clear d;go_wp2_with fail
 refine b.mono ?_
 rintro e u0⟨rfl,f,g,r⟩;have uG:=ag f;have dG:=ag (tL.o.trans g);have BF:=ag (aG AY.o g.size);clear b f g r J K N O Da tL AY;obtain⟨J,K,N,O⟩:=(T.o.low dG.o (by omega)).cells;have d:((ed (aT R)++sm nx)).length<=1000000:=by have f:=oz.o;have V:=iP (n:=nx) (by have:=jb.o;omega);have k4:=iP (n:=sq) (by have:=IW.o;omega);(try simp only[Xa0]at *);omega
 have b:=Wn (w.heap.size+1) (w.heap.size+1) ((ed (aT R)++sm nx)) sq u0 uG.o BF.o IW.o d;clear d;go_wp2_with fail
 refine b.mono ?_
 rintro e u1⟨rfl,f,g,r⟩;have Gr:=ag f;have Dc:=ag (dG.o.trans g);have M8:=ag (aG BF.o g.size);clear b f g r J K N O uG dG BF;obtain⟨J,K,N,O⟩:=(T.o.low Dc.o (by omega)).cells;have d:(((ed (aT R)++sm nx)++sm sq)).length<=1000000:=by have f:=oz.o;have V:=iP (n:=nx) (by have:=jb.o;omega);have k4:=iP (n:=sq) (by have:=IW.o;omega);(try simp only[Xa0]at *);omega
 have b:=nI (w.heap.size+1) (w.heap.size+1) (((ed (aT R)++sm nx)++sm sq)) lg u1 Gr.o M8.o ap.o d;clear d;go_wp2_with fail
 refine b.mono ?_
 rintro e u2⟨rfl,f,g,r⟩;have WM:=ag f;have Gs:=ag (Dc.o.trans g);clear b f g r J K N O Gr Dc M8;obtain⟨J,K,N,O⟩:=(T.o.low Gs.o (by omega)).cells;clear J K N O;have b:=XD (w.heap.size+1) (w.heap.size+1) _ u2 WM.o;go_wp2_with fail
 refine b.mono ?_
 rintro e u9⟨v,rfl,ho,g⟩;have HO:=ag (show fB u9 w.heap.size v (dS (aT R,(nx:Int),(sq:Int),lg))by
  have f:=ho.mono (show w.heap.size<=w.heap.size+1 by omega);unfold dS;rw[show((nx:Nat):Int).toNat=nx from rfl,show((sq:Nat):Int).toNat=sq from rfl];simp only[Xa8]at f⊢;exact f)
 have fA:=ag ((oO.o.trans (Gs.o.mono (by omega))).trans (g.mono (by have:=oO.o.size;have:=Gs.o.size;omega)));clear b ho g WM Gs;go_wp2;go_ret;exact⟨v,rfl,HO.o,fA.o⟩
/-- What Write answers. -/
theorem qahk(a:aA)(n c:Nat)(R:dL)(nx sq:Int)(lg:az)(w:World)(g:gM w (.slice a n c) R)(z:n<=1000)(A:(aT R).flatten.length<=100000):
  Calls Tryz.prog 10 #[.agg #[.slice a n c,.int .i64 nx,.int .i64 sq,.string (bs lg)]] w fun e w'=>∃v,e=.returned (.tuple #[v,.int .i64 (dw (aT R,nx,sq,lg))])∧fB w' w.heap.size v (kM (aT R,nx,sq,lg))∧ah w w':=by
 obtain⟨k,f⟩:=ak (w.alloc (.cells #[.slice a n c,.int .i64 nx,.int .i64 sq,.string (bs lg)] 36));have h:ah w k:=by rw[f];exact ae
 have i:aQ k w.heap.size (.slice a n c) nx sq lg:=by rw[f];exact aQ.new w _ nx sq lg
 have F:=ag g;have B:=ag i;have l:=ag h;obtain⟨m,p,q,r⟩:=i.cells;have b:=qx0 a n c R nx sq lg k (g.a h) z A;clear h i g z A;obtain⟨E,s⟩:=ak (dw (aT R,nx,sq,lg));have t:=ag s;rw[<-s]at b⊢;clear s;go_enter Tryz.func10,Tryz.ntmps10;go_wp2_with fail
 rw[<-f];clear f;refine b.mono ?_
 rintro e G⟨rfl,u⟩;have H:=ag (B.o.a u);have d:=ag (l.o.trans (u.mono l.o.size));clear b u m p q r l B;by_cases j:E=0
 ·subst j
  have x:=ag (show kM (aT R,nx,sq,lg)=dS (aT R,nx,sq,lg)by unfold kM;rw[if_pos t.o.symm]);obtain⟨m,p,q,r⟩:=H.o.cells;have b:=qzk a n c R nx sq lg G (F.o.a d.o) t.o.symm;go_wp2_with fail
  refine b.mono ?_
  rintro e K⟨v,rfl,C,D⟩;have I:=ag (C.mono d.o.size);have y:=ag (d.o.trans (D.mono d.o.size));clear b C D m p q r;go_wp2;go_ret2;exact⟨v,rfl,by rw[x.o];exact I.o,y.o⟩
 have J:(E !=0)=true:=Xe1 j;have L:(E==0)=false:=Xe2 j;have x:=ag (show kM (aT R,nx,sq,lg)=[]by unfold kM;rw[if_neg (by rw[<-t.o];exact j)]);clear j;go_wp2;go_ret2;exact⟨_,rfl,by rw[x.o];exact fB.nil _ _,d.o⟩
theorem WN(h:¬eF f=0):nV f V=(fz,eF f):=by unfold nV;rw[if_pos h]
theorem WO(a:eF f=0)(h:¬dw V=0):nV f V=(fz,dw V):=by unfold nV;rw[if_neg (fun e=>e a),if_pos h]
theorem WP(a:eF f=0)(b:dw V=0)(h:¬(mE f jB (tx (dS V))).2=0):nV f V=(fz,(mE f jB (tx (dS V))).2):=by unfold nV;rw[if_neg (fun e=>e a),if_neg (fun e=>e b),if_pos h]
theorem WR(a:eF f=0)(b:dw V=0)(h:(mE f jB (tx (dS V))).2=0):nV f V=wT (mE f jB (tx (dS V))).1 jB eO:=by unfold nV;rw[if_neg (fun e=>e a),if_neg (fun e=>e b),if_neg (fun e=>e h)]
theorem qali(x:aU)(f:aR)(a:aA)(n c:Nat)(R:dL)(nx sq:Int)(lg:az)(w:World)(h:iJ w x f)(hw:jq f)(aa:gM w (.slice a n c) R)(hn:n<=1000)(hT:(aT R).flatten.length<=100000):
  Calls Tryz.prog 23 #[x.val,.agg #[.slice a n c,.int .i64 nx,.int .i64 sq,.string (bs lg)]] w fun e w'=>∃v,e=.returned (.tuple #[v,.int .i64 (nV f (aT R,nx,sq,lg)).2])∧bH w' w.heap.size v (nV f (aT R,nx,sq,lg)).1∧ah w w':=by
 have HX:=ag h;have HW:=ag hw;have Na:=ag aa;have WS:=ag (And.intro hn hT);obtain⟨V,hV⟩:=ak ((aT R,nx,sq,lg));have xB:=ag hV;rw[<-hV];clear hV;obtain⟨u1,U⟩:=au (w.alloc (.cells x.cs 33));have q1:ah w u1:=by rw[<-U];exact ae
 have Q:u1.heap.size=w.heap.size+1:=by rw[<-U];simp
 obtain⟨u2,xE⟩:=au (u1.alloc (.cells #[.slice a n c,.int .i64 nx,.int .i64 sq,.string (bs lg)] 36));have q2:ah u1 u2:=by rw[<-xE];exact ae
 have W:u2.heap.size=w.heap.size+2:=by rw[<-xE];simp[Q]
 obtain⟨w1,Gt⟩:=au (u2.alloc (.cells #[.slice none 0 0,.slice none 0 0,.slice none 0 0,.int .u32 0,.slice none 0 0,.slice none 0 0] 33));have q3:ah u2 w1:=by rw[<-Gt];exact ae
 have fD:=ag (show bB w1 w.heap.size x from((show bB u1 w.heap.size x by rw[<-U];exact Bq.new w 33 x.cs).a q2).a q3);have De:=ag ((show aQ u2 (w.heap.size+1) (.slice a n c) nx sq lg by rw[<-xE,<-Q];exact aQ.new u1 _ nx sq lg).a q3);have qE:=ag (show dW w1 (w.heap.size+2)by rw[<-Gt,<-W];exact dW.new _);have bg:=ag (show ah w w1 from(q1.trans (q2.mono (by omega))).trans (q3.mono (by omega)));obtain⟨k0,k1,k2,k3,k4,k5⟩:=bq fD.o;clear h hw aa hn hT q1 q2 q3;unfold aU.val;unfold aU.cs at U;go_enter Tryz.func23,Tryz.ntmps23;go_wp2_with fail
 try rw[U]
 try rw[xE]
 try rw[Gt]
 try simp only[Q,W]
 clear U xE Gt Q W;refine(Va x f w1 (HX.o.a bg.o) HW.o).mono ?_
 rintro e w2⟨rfl,t⟩;have jZ:=ag (fD.o.a t);have j6:=ag (qE.o.a t);have Df:=ag (De.o.a t);have aY:=ag (bg.o.trans (t.mono bg.o.size));clear k0 k1 k2 k3 k4 k5 t;obtain⟨E,hE⟩:=ak (eF f);rw[<-hE];have mM:=ag hE;clear hE;by_cases q:E=0
 case neg=>
  have u:=ag (WN (f:=f) (V:=V) (by rw[<-mM.o];exact q));have g2:(E !=0)=true:=Xe1 q;have g3:(E==0)=false:=Xe2 q;obtain⟨w9,d0,d1,d2,d3,d4,d5,O,g,e0,e1,A,F,r,G,H,I,J,K,L,M,z0,Q,W,z3,z4,z5⟩:=oW j6 aY (show w.heap.size<=w.heap.size+2 by omega);go_wp2;try rw[O]
  clear O e0 e1 A F r G H I J K L M;try simp only[Exit.inBlock,Exit.then]
  refine bodyPost_ret ?_ rfl (QG u mM.o.symm g)
  simp[results,Tryz.results23,go_sem, *]
 subst q;have d:=qahk a n c R nx sq lg w2 (Na.o.a aY.o) WS.o.1 WS.o.2;rw[<-xB.o]at d;obtain⟨C,hC⟩:=ak (dw V);rw[<-hC]at d;have X:=ag hC;obtain⟨v0,v1,v2,v3⟩:=Df.o.cells;clear hC;go_wp2_with fail
 refine d.mono ?_
 rintro e w4⟨v4,rfl,fC,N⟩;have tO:=ag (jZ.o.a N);have yx:=ag (j6.o.a N);have gY:=ag (aY.o.trans (N.mono aY.o.size));obtain⟨a4,c4,r⟩:=fC.form;obtain⟨n4,qN⟩:=ak ((kM V).length);rw[<-qN]at r;subst r;have Dh:=ag fC.rd;clear d N fC v0 v1 v2 v3 qN De Df;by_cases q:C=0
 case neg=>
  have u:=ag (WO (f:=f) (V:=V) mM.o.symm (by rw[<-X.o];exact q));have g2:(C !=0)=true:=Xe1 q;have g3:(C==0)=false:=Xe2 q;obtain⟨w9,d0,d1,d2,d3,d4,d5,O,g,e0,e1,A,F,r,G,H,I,J,K,L,M,z0,Q,W,z3,z4,z5⟩:=oW yx gY (show w.heap.size<=w.heap.size+2 by omega);go_wp2;try rw[O]
  clear O e0 e1 A F r G H I J K L M;try simp only[Exit.inBlock,Exit.then]
  refine bodyPost_ret ?_ rfl (QG u X.o.symm g)
  simp[results,Tryz.results23,go_sem, *]
 subst q;obtain⟨B,hB⟩:=ak (dS V);have fA:=ag hB;have bN:=ag (show Rd w4 (.slice a4 n4 c4) B by
  have:=Dh.o
  unfold kM at this;rw[if_pos X.o.symm,<-hB]at this;exact this)
 have ab:=ag (show B.length<=1000000 by rw[hB];have:=RD X.o.symm;omega);obtain⟨m,hm⟩:=ak ((tx B).length);have HM:=ag hm;obtain⟨⟨Y,E9⟩,h9⟩:∃D:aR×Int,D=mE f jB (tx B):=⟨_,rfl⟩;have Z:=ag h9
 have Di:=ag (show ∀(k:World) (a9:aA) (c9:Nat),lu w4 k->Rd k (.slice a9 m c9) (tx B)->Calls Tryz.prog 12 #[x.val,.string {data:=#[110,101,120,116]},.slice a9 m c9] k fun e w'=>∃v,e=.returned (.tuple #[v,.int .i64 E9])∧bH w' k.heap.size v Y∧ah k w' by
  intro k a9 c9 hx hr;have hh:=qxw x f jB a9 m c9 (tx B) k ((HX.o.a gY.o).a hx) HW.o hr HM.o;rw[<-h9]at hh;exact hh)
 have hs1:=tO.o;clear hB hm h9 Dh;go_wp2;have P:aN (fun k=>bB k w.heap.size x∧lu w4 k):=fun _ _ h hb=>⟨h.1.a hb,h.2.a hb⟩
 refine sK P 8 (by kernel_rfl) ⟨tO.o,lu.refl w4⟩ ?_
 intro l;clear hs1;generalize w4.drew=wd at *;refine lT 0 ?qsv0 rfl ?qsy0 l ?qsr0
 case qsy0=>(rintro k⟨S,T⟩;obtain⟨j0,j1,j2,j3,j4,j5⟩:=bq S;(have r1:=xu (bN.o.a T));go_simp<;>rfl)
 try simp only[aB]
 refine lT 1 ?qsv1 rfl ?qsy1 l ?qsr1
 case qsy1=>(rintro k⟨S,T⟩;obtain⟨j0,j1,j2,j3,j4,j5⟩:=bq S;(have r1:=xu (bN.o.a T));go_simp<;>rfl)
 try simp only[aB]
 refine lT 2 ?qsv2 rfl ?qsy2 l ?qsr2
 case qsy2=>(rintro k⟨S,T⟩;obtain⟨j0,j1,j2,j3,j4,j5⟩:=bq S;(have r1:=xu (bN.o.a T));go_simp<;>rfl)
 try simp only[aB]
 refine qlk P (i:=3) (R:=fun v wy=>∃a c,v=.slice a m c∧Rd wy (.slice a m c) (tx B)) rfl (by kernel_rfl) (by rfl) (by go_simp) l ((MO B wd ab.o).mono fun e wy ⟨v,h1,h2,h3⟩=>by obtain⟨a9,c9,e9⟩:=h2.form;rw[<-HM.o]at e9;subst e9;exact⟨_,h1,⟨a9,c9,rfl,h2.rd⟩,h3⟩) (fun v _ _ ⟨a,c,h,h'⟩ hb=>⟨a,c,h,h'.a hb⟩) ?_
 intro aj al z nG gU;clear P l;have P:=z;have l:=gU;clear z gU;obtain⟨ac,Dj,rfl,ad⟩:=nG;try simp only[aB]
 refine qlk P (i:=4) (R:=fun v wy=>∃y:aU,v=.tuple #[y.val,.int .i64 E9]∧bH wy w.heap.size y.val Y) rfl (by kernel_rfl) (by rfl) (by go_simp) l ((Di.o _ ac Dj l.1.2 ad).mono fun e wy ⟨v,h1,h2,h3⟩=>by obtain⟨y,ey,_,h4⟩:=h2.bx;subst ey;exact⟨_,h1,⟨y,rfl,h4.mono (aG gY.o.size (lu.size l.1.2))⟩,h3⟩) (fun v _ _ ⟨y,h,h'⟩ hb=>⟨y,h,h'.a hb⟩) ?_
 intro am ai z nG gU;clear P l;have P:=z;have l:=gU;clear z gU;obtain⟨y9,rfl,bK⟩:=nG;try simp only[aB]
 refine lT 5 ?qsv5 rfl ?qsy5 l ?qsr5
 case qsy5=>(rintro k⟨⟨⟨S,T⟩,_⟩,_⟩;go_simp<;>rfl)
 try simp only[aB]
 refine lT 6 ?qsv6 rfl ?qsy6 l ?qsr6
 case qsy6=>(rintro k⟨⟨⟨S,T⟩,_⟩,_⟩;go_simp<;>rfl)
 try simp only[aB]
 refine uR (i:=7) (v:=?qsv7) rfl (by kernel_rfl) (by kernel_rfl) (by kernel_rfl) rfl (by rfl) ?qsy7 (fun _=>l) ?qsr7
 case qsy7=>(intro k;go_simp<;>rfl)
 try simp only[aB]
 obtain⟨⟨⟨s1,s2⟩, -⟩, -⟩:=l;have j:=bK.assign (dW.of s1) (w0:=w) (gY.o.trans (Below.mono s2 gY.o.size)) aL;obtain⟨⟨d0,e0⟩,⟨d1,e1⟩,⟨d2,A⟩,⟨d3,F⟩,⟨d4,r⟩,⟨d5,G⟩,p⟩:=(dW.of s1).cells;have H:=p 0;have I:=p 1;have J:=p 2;have K:=p 3;have L:=p 4;have M:=p 5;obtain⟨ws,fI⟩:=au (bQ ai w.heap.size y9);rw[fI]at j;have g:=ag j;have WT:=ag ((yx.o.a s2).oth j.2.2.2.2 (by omega));have Gu:=ag j.2.1;unfold bQ at fI;clear p s1 s2 j bK;refine lL 8 ws rfl (by rw[<-fI];go_simp) ?_
 clear fI e0 e1 A F r G H I J K L M;try simp only[aB]
 refine uR (i:=9) (v:=?qsv9) rfl (by kernel_rfl) (by kernel_rfl) (by kernel_rfl) rfl (by rfl) ?qsy9 (fun h=>absurd h (by decide)) ?qsr9
 case qsy9=>(intro k;go_simp<;>rfl)
 try simp only[aB]
 refine lD ?_
 try simp only[aB]
 clear P;by_cases q:E9=0
 case neg=>
  have u:=ag (WP (f:=f) (V:=V) mM.o.symm X.o.symm (by rw[<-fA.o,<-Z.o];exact q));rw[<-fA.o,<-Z.o]at u;have g2:(E9 !=0)=true:=Xe1 q
  have g3:(E9==0)=false:=Xe2 q;clear g;obtain⟨w9,d0,d1,d2,d3,d4,d5,O,g,e0,e1,A,F,r,G,H,I,J,K,L,M,z0,Q,W,z3,z4,z5⟩:=oW WT Gu (show w.heap.size<=w.heap.size+2 by omega);go_wp2;try rw[O]
  clear O e0 e1 A F r G H I J K L M;try simp only[Exit.inBlock,Exit.then]
  refine bodyPost_ret ?_ rfl (zR u g)
  simp[results,Tryz.results23,go_sem, *]
 subst q;have u:=ag (WR (f:=f) (V:=V) mM.o.symm X.o.symm (by rw[<-fA.o,<-Z.o]));rw[<-fA.o,<-Z.o]at u;have yg:=ag (show jq Y by
  obtain⟨y,e1, -, -, -, -,h1, -⟩:=VP (f:=f) (s:=jB) (b:=tx B) (by rw[<-Z.o]);have:Y=y:=by rw[<-Z.o]at e1;exact(Prod.ext_iff.1 e1).1
  rw[this];exact Gj h1)
 obtain⟨k0,k1,k2,k3,k4,k5⟩:=bq g.o.2.2.1;have d:=G8 y9 Y jB eO ws g.o.2.2.2.1 yg.o;rw[show bs jB={data:=#[110,101,120,116]}from rfl,show bs eO={data:=#[99,117,114,114,101,110,116]}from rfl]at d;obtain⟨⟨F7,E7⟩,h7⟩:∃D:aR×Int,D=wT Y jB eO:=⟨_,rfl⟩;rw[<-h7]at d u;clear h7
 go_wp2_with fail
 clear k0 k1 k2 k3 k4 k5;refine d.mono ?_
 rintro e w7⟨v7,rfl,jf,bE⟩;have Gv:=ag (WT.o.a bE);have qD:=ag (Gu.o.trans (bE.mono Gu.o.size));obtain⟨y7,e7, -,Dl⟩:=jf.bx;subst e7;obtain⟨⟨d0,e0⟩,⟨d1,e1⟩,⟨d2,A⟩,⟨d3,F⟩,⟨d4,r⟩,⟨d5,G⟩,p⟩:=Gv.o.cells;have H:=p 0;have I:=p 1;have J:=p 2;have K:=p 3;have L:=p 4;have M:=p 5;have j:=(Dl.mono Gu.o.size).assign Gv.o (w0:=w) qD.o (by omega);obtain⟨w8,gK⟩:=au (bQ w7 (w.heap.size+2) y7);rw[gK]at j;have mF:=ag j;unfold bQ at gK;have CX:=ag gK;clear d bE jf Dl j gK p g;unfold aU.val;go_wp2;rw[CX.o];obtain⟨p0,p1,p2,p3,p4,p5⟩:=bq mF.o.2.2.1;clear CX H I J K L M e0 e1 A F r G;refine bodyPost_ret (v:=.tuple #[y7.val,.int .i64 E7]) ?_ rfl ⟨y7.val, ?_, ?_,mF.o.2.1⟩
 ·simp[results,Tryz.results23,go_sem,p0,p1,p2,p3,p4,p5]
 ·rw[u.o]
 rw[u.o];exact mF.o.1
def pm:Value×List dn:=(.slice none 0 0,[])
theorem Nb(w:World)(N:Nat)(b:N<=1000):∃a,(Instr.makeSlice 34 (.int .i64 N) (.int .i64 N)).run Tryz.prog w=.ok (.slice (some ⟨w.heap.size,0,none⟩) N N) a∧cO 1 yB 105 a w.heap.size (.slice (some ⟨w.heap.size,0,none⟩) N N) (List.replicate N pm)∧ah w a:=
 V7 Wd (by decide) Tryz.underlying34 Tryz.infoW (x:=pm) rfl w N (by omega) (by unfold maxLen;omega)
theorem Qz(h:zQ w base v l)(hb:base<=w.heap.size){a:aA}{m:List dn}(f:pg w (.slice a n c) m)(hl:l.length+m.length<=1000000):
  ∃b e d w',af (e=(l++m).length)∧(Builtin.append_ #[105,105] 105 #[v,.slice a n c]).run Tryz.prog w=.ok (.slice b e d) w'∧zQ w' base (.slice b e d) (l++m)∧Below base w w':=by
 obtain⟨b,d,w',g,i,j,_⟩:=qag4 QO (by decide) V9 Tryz.underlying105 Tryz.infoMt rfl h hb f (by omega) (by unfold maxLen;omega);exact⟨b,_,d,w',ag rfl,g,i,j⟩
theorem IY(R:dL):R.flatMap yB=R.map (·.1):=by
 induction R with
 |nil=>rfl
 |cons x R ih=>rw[Xb2,ih];rfl
theorem cO.setW1{R:dL}(h:cO 1 yB 105 w base (.slice (some ⟨g,0,none⟩) n c) R)(k:Nat)(p:Value×List dn)(hb:base<=w.heap.size):
  cO 1 yB 105 (w.setCell ⟨g,k,none⟩ p.1) base (.slice (some ⟨g,0,none⟩) n c) (R.set k p)∧Below base w (w.setCell ⟨g,k,none⟩ p.1)∧bF 105 w (w.setCell ⟨g,k,none⟩ p.1):=by
 have d:n=R.length:=by obtain⟨_,_,e⟩:=h.form;cases e;rfl
 subst d;obtain⟨f,b⟩:=World.ownsRow.stored h k p.1;have a:base<=g:=(World.ownsRow.lt h g rfl).1;refine⟨?_,aF.grown b hb fun j i=>by cases i;exact a,VU h b⟩;unfold cO;have e:(R.flatMap yB).set k p.1=(R.set k p).flatMap yB:=by rw[IY,IY,List.map_set]
 rw[List.length_set,<-e];exact f
theorem cO.ltV{ec:α->List Value}{l:List α}(h:cO sz ec t w base v l)(a:v.ownBlock=some g):base<=g∧g<w.heap.size:=World.ownsRow.lt h g a
theorem cO.fzV{ec:α->List Value}{l:List α}(h:cO sz ec t w base (.slice (some ⟨g,0,none⟩) n c) l)(j:Nat):w.frozen? ⟨g,j,none⟩=false:=by
 rcases h.2 with⟨e,_⟩|⟨d,cap,a,e,f,b,_⟩
 ·cases e
 cases e;exact frozen_of_row w g j _ _ b
def vL (base:Nat) (V:lJ) (k:Int) (e:Ending) (w':World):Prop:=
 ∃v S,e=.returned (.tuple #[.agg #[v,.int .i64 V.2.1,.int .i64 V.2.2.1,.string (bs V.2.2.2)],.int .i64 k])∧dM w' base v S∧aT S=V.1
theorem mH{k c:Int}(h:af (k=c∧V=fo)):vL base V k (.returned (.tuple #[.agg #[.slice none 0 0,.int .i64 0,.int .i64 0,.string {data:=#[]}],.int .i64 c])) w':=by
 rw[h.o.1,h.o.2];exact⟨_,[],rfl,dM.nil _ _,rfl⟩
def IZ (v:Value) (w w':World):Prop:=∀k,k<w.heap.size->v.ownBlock≠some k->w'.heap[k]? =w.heap[k]?
theorem cO.only{ec:α->List Value}{u:Value}{l:List α}(h:cO sz ec t w base v l)(d:IZ u w w')(a:∀g,v.ownBlock=some g->u.ownBlock≠some g):cO sz ec t w' base v l:=by
 rcases h.2 with⟨rfl,e⟩|⟨g,cap,b,rfl,f,c,i⟩
 ·exact⟨h.1,.inl ⟨rfl,e⟩⟩
 exact⟨h.1,.inr ⟨g,cap,b,rfl,f,by rw[d g (Xd6.1 c).1 (a g rfl)];exact c,i⟩⟩
theorem qtf(h:zQ w base v l)(hb:base<=w.heap.size)(hl:l.length<=1000000)(m:dn):
  ∃g f c w',af (f=l.length+1)∧(Builtin.append_ #[105,105] 105 #[v,.slice (some ⟨w.heap.size,0,none⟩) 1 1]).run Tryz.prog (w.alloc (.cells #[.string (bs m.1),.int .i64 m.2.1,.int .i64 m.2.2.1,.string (bs (gG m)),.string (bs (gH m))] 124))=.ok (.slice (some ⟨g,0,none⟩) f c) w'∧
   zQ w' base (.slice (some ⟨g,0,none⟩) f c) (l++[m])∧Below base w w'∧bF 124 w w'∧IZ v w w':=by
 obtain⟨b,i⟩:=ak (w.alloc (.cells #[.string (bs m.1),.int .i64 m.2.1,.int .i64 m.2.2.1,.string (bs (gG m)),.string (bs (gH m))] 124));have z:∀j u,(zP m)[j]? =some u->b.cell? ((⟨w.heap.size,0,none⟩:Addr).add j)=some u:=by
  intro j u A;have:=World.news_of_block (w:=w.alloc (.cells #[.string (bs m.1),.int .i64 m.2.1,.int .i64 m.2.2.1,.string (bs (gG m)),.string (bs (gH m))] 124)) (heap_alloc_new w _) j u (by simpa [zP]using A)
  rw[i];simpa using this
 rw[<-i];have a:ah w b:=by rw[i];exact ae
 obtain⟨B,hi,n,o,p⟩:=info_parts Tryz.infoMt;have q:b.ownsRow base 124 5 v l.length (l.flatMap zP):=pI h a;obtain⟨F,x,C,y,r,_⟩:=run_append_own (P:=Tryz.prog) b base 105 105 124 B _ 5 64 Tryz.underlying105 hi n o p rfl (by decide) _ _ _ q ⟨w.heap.size,0,none⟩ 1 1 (zP m) rfl z (V9 m) (by unfold maxLen;omega) (by omega) (aG hb a.size);have D:Below base w x:=(a.mono hb).grown r (aG hb a.size) fun k d=>(q.lt k d).1
 rcases y.2 with⟨_,s⟩|⟨g,cap,E,s,_⟩
 ·exact absurd s (by omega)
 subst s;refine⟨g,_,cap,x,ag rfl,C, ?_,D,(bF.below a).trans (VU (l:=l) (ec:=zP) q r),fun k d t=>(r.block k (Xb8 d a.size) (fun e=>t e.symm)).trans (a.block k d)⟩;have e:(l++[m]).flatMap zP=l.flatMap zP++zP m:=by simp
 unfold zQ cO;rw[e,Xa0];exact y
end Go.Proofs.YtmeaiocohalphaaGreatDoor
