/-
  The document's Twin and New.
-/
import Derived.Test.YtmeaiocohalphaaGreatDoorRv1
import Derived.Test.YtmeaiocohalphaaGreatDoorNr4
set_option maxHeartbeats 4000000
set_option maxRecDepth 100000
namespace Go.Proofs.YtmeaiocohalphaaGreatDoor
open Go.RowKit
set_option linter.all false
variable {b d w w0:World}{Q X base c n sz:Nat}{r:az}{bad:Bool}{α:Type}{t:TypeId}{v:Value}{S:dL}
def jV (L:List Nat):az:=(L.map sm).flatten
theorem YE:∀(L:List Nat),(∀x∈L,x<9223372036854775808)->(jV L).length<=10*L.length
 |[],_=>by simp[jV]
 |x::L,h=>by
  have b:=YE L (fun y a=>h y (by simp[a]));have c:=iP (n:=x) (by have:=h x (by simp);omega);have e:jV (x::L)=sm x++jV L:=by simp[jV]
  rw[e,Xa0,Xb0];omega
theorem fT.keepU{w':World}{A:Nat}{m:dn}(h:fT w A m)(a:bF 5 w w'):fT w' A m:=a A _ _ _ (by decide) h
theorem qq0(g:Nat)(L:List Nat)(m:Nat)(z:m=L.length)(w:World)(A:∀j,(h:j<L.length)->w.cell? ⟨g,j,none⟩=some (.int .i64 (L[j]:Nat)))(T:m<=10)(hb:∀x∈L,x<9223372036854775808):
  Calls Tryz.prog 132 #[.slice (some ⟨g,0,none⟩) m m] w fun e w'=>∃v,e=.returned v∧fB w' w.heap.size v (jV L)∧ah w w':=by
 have B:=ag z;have M:=ag A;have C:=ag hb;clear A hb z;go_enter Tryz.func132,Tryz.ntmps132;go_wp2;go_loopw [3,4] (fun x i wr=>∃(k:Nat) (a:aA) (q c:Nat),k<=m∧x=.slice a q c∧i=.int .i64 k∧af (fB wr w.heap.size (.slice a q c) (jV (L.take k)))∧af (ah w wr)) (fun _ i _=>m-(intOf i).toNat)
 case atStart=>exact⟨0,none,0,0,Xd5 _,rfl,rfl,ag (fB.nil _ _),ag aF⟩
 obtain⟨k,a,q,c,U,rfl,rfl,r,f⟩:=hrel;by_cases N:k<m
 ·have D:(k:Int)<m:=by omega
  have d:k<L.length:=by have:=B.o;omega
  have E:wr.cell? ⟨g,k,none⟩=some (.int .i64 (L[k]:Nat)):=by
   have l:=M.o k d;rw[f.o.cell (Xa6 _ _ l)];exact l
  have s:=C.o _ (Xa3 d);have p:(jV (L.take k)).length<=100:=by
   have:=YE (L.take k) (fun x s=>C.o x (Xb9 s))
   rw[Xa4]at this;omega
  have u:=ag (show jV (L.take (k+1))=jV (L.take k)++sm L[k]by
   unfold jV;rw[Xa2 d,Xd0,List.flatten_append];simp)
  obtain⟨x,F⟩:=ak (L[k]);rw[<-F]at E s u;have O:(x:Int)%18446744073709551616=x:=by omega
  have b:=XJ x wr (by omega);clear F;go_wp2_with fail
  refine b.mono ?_
  rintro e V⟨W,rfl,G,t⟩;obtain⟨a3,n3,c3,H,P,I,J,K,Q⟩:=EF (r.o.a t) (aG f.o.size t.size) G.rd (by have:=iP (n:=x) (by omega);omega);have R:=ag (show fB H w.heap.size (.slice a3 n3 c3) (jV (L.take (k+1)))by rw[u.o];exact J);have y:=ag (show ah w H from(f.o.trans (t.mono f.o.size)).trans K);clear b G t J K Q E O s p u r f P;go_wp2_with (first|(at_builtin;refine xw rfl (.tmp 11) (.tmp 17) 23 rfl rfl rfl rfl I ?_)|fail)
  clear I;go_roundw
  case rel=>exact⟨k+1,a3,n3,c3,by omega,rfl,by go_num,R,y⟩
  simp only[intOf];omega
 have X:decide ((k:Int)<m)=false:=aC (by omega);obtain rfl:k=m:=by omega
 have S:=ag (show fB wr w.heap.size (.slice a q c) (jV L)by
  have l:=r.o;rw[Xa1 (by have:=B.o;omega)]at l;exact l)
 clear r;go_wp2;go_ret;exact⟨_,rfl,S.o,f.o⟩
/-- What the zb Write answers. -/
theorem qtx(a:aA)(n c:Nat)(R:dL)(nx sq:Int)(lg:az)(w:World)(S:gM w (.slice a n c) R)(ba:n<=1000)(hT:(aT R).flatten.length<=100000):
  Calls Tryz.prog 62 #[.agg #[.slice a n c,.int .i64 nx,.int .i64 sq,.string (bs lg)]] w fun e w'=>∃v,e=.returned (.tuple #[v,.int .i64 (dw (aT R,nx,sq,lg))])∧fB w' w.heap.size v (kM (aT R,nx,sq,lg))∧ah w w':=by
 obtain⟨w1,B⟩:=ak (w.alloc (.cells #[.slice a n c,.int .i64 nx,.int .i64 sq,.string (bs lg)] 36));have ad:ah w w1:=by rw[B];exact ae
 have hs1:w1.heap.size=w.heap.size+1:=by rw[B];simp
 have ai:aQ w1 w.heap.size (.slice a n c) nx sq lg:=by rw[B];exact aQ.new w _ nx sq lg
 have HR:=ag S;have lQ:=ag ai;have aj:=ag ad;have HN:=ag S.len;have nk:=ag hs1;obtain⟨I,J,K,N⟩:=ai.cells;have b:=qaev a n c R nx sq lg w1 (S.a ad) ba hT;clear ad ai S hT hs1;obtain⟨E,hE⟩:=ak (dw (aT R,nx,sq,lg));have HE:=ag hE;rw[<-hE]at b⊢;clear hE;go_enter Tryz.func62,Tryz.ntmps62;go_wp2_with fail
 rw[<-B];clear B;refine b.mono ?_
 rintro e w2⟨rfl,b2⟩;have T:=ag (lQ.o.a b2);have oO:=ag (aj.o.trans (b2.mono aj.o.size));have ay:=ag (show w.heap.size+1<=w2.heap.size by have:=b2.size;have:=nk.o;omega);clear b b2 I J K N aj lQ nk;by_cases h0:E=0
 rotate_left
 ·have bo:(E !=0)=true:=Xe1 h0
  have M9:(E==0)=false:=Xe2 h0;have HW:=ag (show kM (aT R,nx,sq,lg)=[]by unfold kM;rw[if_neg (by rw[<-HE.o];exact h0)]);clear h0;go_wp2;go_ret2;exact⟨_,rfl,by rw[HW.o];exact fB.nil _ _,oO.o⟩
 subst h0;have HW:=ag (show kM (aT R,nx,sq,lg)=dS (aT R,nx,sq,lg)by unfold kM;rw[if_pos HE.o.symm]);have hV:dw (aT R,nx,sq,lg)=0:=HE.o.symm;obtain⟨zx,zs,zl⟩:(∃p:Nat,nx=p∧p<9223372036854775808)∧(∃p:Nat,sq=p∧p<9223372036854775808)∧lg.length<=1000000:=by
  obtain⟨_,hm⟩:=jP.1 hV;obtain⟨_,hl,hn,_,_⟩:=bS.1 hm;obtain⟨n1,n2,n3,n4⟩:=qpi hn;have n1:1<=nx:=n1;have n2:nx<=1099511627776:=n2;have n3:0<=sq:=n3;have n4:sq<=1099511627776:=n4;have hl:lg.length<=16:=(P9 hl).2;exact⟨⟨nx.toNat,by omega,by omega⟩,⟨sq.toNat,by omega,by omega⟩,by omega⟩
 obtain⟨nx,rfl,aD⟩:=zx;obtain⟨sq,rfl,WI⟩:=zs;have HV:=ag hV;have jb:=ag aD;have IW:=ag WI;have aE:=ag zl;clear hV aD WI zl HE;obtain⟨I,J,K,N⟩:=T.o.cells;go_wp2;go_loopw [5,6] (fun x i wr=>∃(k:Nat) (U:aA) (V W:Nat),k<=n∧x=.slice U V W∧i=.int .i64 k∧af (fB wr (w.heap.size+1) (.slice U V W) (ed ((aT R).take k)))∧af (Below (w.heap.size+1) w2 wr)) (fun _ i _=>n-(intOf i).toNat)
 case atStart=>exact⟨0,none,0,0,Xd5 _,rfl,rfl,ag (by rw[Xc2,qwc];exact fB.nil _ _),ag aF⟩
 obtain⟨k,U,V,W,hk,rfl,rfl,O,t⟩:=hrel;have xB:=ag (T.o.low t.o (by omega));have fu:=ag (oO.o.trans (t.o.mono (by omega)));have z:=ag (show w.heap.size+1<=wr.heap.size from aG ay.o t.o.size);clear I J K N;obtain⟨I,J,K,N⟩:=xB.o.cells;by_cases bc:k<n
 ·have bm:(k:Int)<n:=by omega
  have d:k<R.length:=by have:=HN.o;omega
  obtain⟨bb,aH,ax,q,cx,rfl,q0,mG,y⟩:=HR.o.cells fu.o k d;obtain⟨p1,p2,p3⟩:=jo HV.o (k:=k) (by show k<(aT R).length;rw[jM];exact d) 0;have e9:(aT R)[k]'(by rw[jM];exact d)=(R[k]).2:=yC d _;have yG:=ag (show(aT R).take (k+1)=(aT R).take k++[(R[k]).2]by rw[Xa2 (by rw[jM];exact d),yC d]);have mD:=ag (show(ed ((aT R).take k)).length<=6000∧(∀j,((ed ((aT R).take k)++sm ((R[k]).2).length)++iV (((R[k]).2).take j)).length<=12000)∧(∀m∈(R[k]).2,jE m=true)from⟨p1,fun j=>by
   have:=(jo HV.o (k:=k) (by show k<(aT R).length;rw[jM];exact d) j).2.1
   have this:((ed ((aT R).take k)++sm ((aT R)[k]'(by rw[jM];exact d)).length)++iV (((aT R)[k]'(by rw[jM];exact d)).take j)).length<=12000:=this;rw[e9]at this;exact this,fun m hm=>p3 m (by show m∈(aT R)[k]'(by rw[jM];exact d);rw[e9];exact hm)⟩)
  obtain⟨X,hX⟩:=ak ((R[k]).2);rw[<-hX]at mG y yG mD;have HX:=ag mG;have Gm:=ag y;have tQ:q<=1000000:=by
   have r:=Ry (L:=aT R) (l:=(R[k]).2) (List.mem_map.2 ⟨R[k],Xa3 d,rfl⟩);have:=(jP.1 HV.o).1
   have this:(aT R).flatten.length<=32:=this;rw[y,hX];omega
  obtain⟨C,hC⟩:=ak (ed ((aT R).take k));rw[<-hC]at O mD;have bd:=ag hC;have aJ:=ag q0;have aK:=ag (show bb<w.heap.size by
   obtain⟨b7,o7,x7,y7,z7,e7,q7, -, -⟩:=HR.o.cells aF k d;cases e7;exact Xa6 _ _ q7)
  clear hX hC p1 p2 p3 e9 mG y;obtain⟨Y,Z⟩:=ak (wr.alloc (.cells #[.int .i64 q] 3));have A:ah wr Y:=by rw[Z];exact ae
  have s:∀j,(h:j<([q]:List Nat).length)->Y.cell? ⟨wr.heap.size,j,none⟩=some (.int .i64 (([q]:List Nat)[j]:Nat)):=by
   intro j h;have u:Bx Y wr.heap.size 3 #[.int .i64 q]:=by rw[Z];exact Bx.new wr _ _
   match j,h with
   |0,_=>exact u.at 0 rfl
  have b:=qq0 wr.heap.size [q] 1 rfl Y s (by omega) (by intro x F;simp only[List.mem_cons,Xb3,List.not_mem_nil,or_false]at F;omega);clear s;go_wp2_with fail
  rw[<-Z];clear Z;refine b.mono ?_
  rintro e be⟨v5,rfl,o5,P⟩;obtain⟨a5,n5,c5,w5,al,ww,Od,QW,am⟩:=EF ((O.o.a A).a P) (aG z.o (aG A.size P.size)) o5.rd (by have h7:=YE [q] (by intro x F;simp only[List.mem_cons,Xb3,List.not_mem_nil,or_false]at F;omega);have h8:([q]:List Nat).length<=2:=(by simp);have:=mD.o.1;omega);have vg:=ag (show fB w5 (w.heap.size+1) (.slice a5 n5 c5) (C++sm q)by
   have e7:jV [q]=sm q:=by simp[jV]
   rw[e7]at Od;exact Od)
  have fK:=ag ((t.o.trans (A.mono (by have:=z.o;omega))).trans ((P.mono (by have:=z.o;have:=A.size;omega)).trans QW));have bg:=ag (show w2.cell? ⟨bb,aH+k,none⟩=some (.slice ax q cx)by
   rw[<-t.o.cell (by show bb<w.heap.size+1;have:=aK.o;omega)];exact aJ.o)
  clear b o5 A P Od QW am al;go_wp2_with (first|(at_builtin;refine xw rfl (.tmp 21) (.tmp 29) 23 rfl rfl rfl rfl ww ?_)|fail)
  clear ww;clear q0 I J K N xB fu z O t;go_wp2;go_loopw [5,7] (fun x i wr=>∃(j:Nat) (U:aA) (V W:Nat),j<=q∧x=.slice U V W∧i=.int .i64 j∧af (fB wr (w.heap.size+1) (.slice U V W) ((C++sm q)++iV (X.take j)))∧af (Below (w.heap.size+1) w2 wr)) (fun _ i _=>q-(intOf i).toNat)
  case atStart=>exact⟨0,a5,n5,c5,Xd5 _,rfl,rfl,ag (by rw[Xc2,qwb,Xc8];exact vg.o),fK⟩
  clear vg fK;obtain⟨j,U,V,W,hj,rfl,rfl,O,t⟩:=hrel;have xB:=ag (T.o.low t.o (by omega));have fu:=ag (oO.o.trans (t.o.mono (by omega)));have z:=ag (show w.heap.size+1<=wr.heap.size from aG ay.o t.o.size);obtain⟨I,J,K,N⟩:=xB.o.cells;obtain⟨bp,bn,aM,aO,aS,e8,q0,mG,y⟩:=HR.o.cells fu.o k d;cases e8;have an:(Value.slice aM aO aS)=.slice ax q cx:=by
   have h8:=aJ.o;have r:w2.cell? ⟨bb,aH+k,none⟩=some (.slice aM aO aS):=by
    rw[<-t.o.cell (by show bb<w.heap.size+1;have:=aK.o;omega)];exact q0
   rw[bg.o]at r;exact(Option.some.inj r).symm
  cases an;clear mG y;by_cases bh:j<q
  ·have WK:(j:Int)<q:=by omega
   have M7:j<X.length:=by have:=Gm.o;omega
   obtain⟨b4,o4,e4,c0,c1,c2,c3,c4⟩:=HX.o.cells fu.o j M7;subst e4;have WL:=ag (show X.take (j+1)=X.take j++[X[j]]from Xa2 M7);have ao:=mD.o.2.2 _ (Xa3 M7);have ap:=mD.o.2.1 j;rw[<-Gm.o]at ap;obtain⟨M,hM⟩:=ak (X[j]);rw[<-hM]at c0 c1 c2 c3 c4 WL ao;obtain⟨m1,m2,m3,m4,m5,m6,m7⟩:=qub ao;obtain⟨G,f,g,Q,hi⟩:=M;clear hM ao;obtain⟨f,rfl⟩:∃p:Nat,f=p:=⟨f.toNat,by have:1<=f:=m4;omega⟩;obtain⟨g,rfl⟩:∃p:Nat,g=p:=⟨g.toNat,by have:1<=g:=m6;omega⟩;dsimp only[gG,gH]at c0 c1 c2 c3 c4;have nJ:=ag (show G.length<=1000∧Q.length<=1000∧hi.length<=1000∧f<100000∧g<100000 from⟨by have:G.length<=16:=m1;omega,by have:Q.length<=64:=m2;omega,by have:hi.length<=64:=m3;omega,by have:(f:Int)<=16384:=m5;omega,by have:(g:Int)<=65536:=m7;omega⟩);clear m1 m2 m3 m4 m5 m6 m7;obtain⟨w5,Gn⟩:=ak (wr.alloc (.cells #[.string (bs G),.int .i64 f,.int .i64 g,.string (bs Q),.string (bs hi)] 124))
   have b5:ah wr w5:=by rw[Gn];exact ae
   have CJ:=ag (show fT w5 wr.heap.size (G,(f:Int),(g:Int),Q,hi)by rw[Gn];exact fT.new wr (G,(f:Int),(g:Int),Q,hi));have vg:=ag (O.o.a b5);have fK:=ag (t.o.trans (b5.mono (Nat.le_of_lt_succ (by have:=z.o;omega))));have uK:=ag (show w.heap.size+1<=w5.heap.size by have:=b5.size;have:=z.o;omega);have vK:=ag ap;obtain⟨D,hD⟩:=ak ((C++sm q)++iV (X.take j));rw[<-hD]at vg vK;have HD:=ag hD;obtain⟨g0,g1,g2,g3,g4⟩:=CJ.o.cells;clear O t ap hD b5;have b:=QN G w5 (by have:=nJ.o;omega);go_wp2_with fail
   rw[<-Gn];clear Gn;refine b.mono ?_
   rintro e bj⟨v6,rfl,o6,H⟩;obtain⟨a6,n6,c6,w6,aq,iZ,YF,QX,aa⟩:=EF (vg.o.a H) (aG uK.o H.size) o6.rd (by have r:=vK.o;have h8:=nJ.o;have k1:=nM G (by omega);have k2:=nM Q (by omega);have k3:=nM hi (by omega);have k4:=iP (n:=f) (by omega);have k5:=iP (n:=g) (by omega);(try simp only[Xa0]at *);omega);have IX:=ag YF;have mJ:=ag ((fK.o.trans (H.mono uK.o)).trans QX);have Gp:=ag (aG uK.o (aG H.size QX.size));have EJ:=ag ((CJ.o.a H).keepU aa);clear b o6 H YF QX aa aq vg fK uK CJ g0 g1 g2 g3 g4;obtain⟨g0,g1,g2,g3,g4⟩:=EJ.o.cells;go_wp2_with (first|(at_builtin;refine xw rfl (.tmp 49) (.tmp 52) 23 rfl rfl rfl rfl iZ ?_)|fail)
   clear iZ;obtain⟨ac,GU⟩:=ak (w6.alloc (.cells #[.int .i64 f,.int .i64 g] 3));have ze:ah w6 ac:=by rw[GU];exact ae
   have s:∀j,(h:j<([f,g]:List Nat).length)->ac.cell? ⟨w6.heap.size,j,none⟩=some (.int .i64 (([f,g]:List Nat)[j]:Nat)):=by
    intro j h;have u:Bx ac w6.heap.size 3 #[.int .i64 f,.int .i64 g]:=by rw[GU];exact Bx.new w6 _ _
    match j,h with
    |0,_=>exact u.at 0 rfl
    |1,_=>exact u.at 1 rfl
   have b:=qq0 w6.heap.size [f,g] 2 rfl ac s (by omega) (by intro x F;simp only[List.mem_cons,Xb3,List.not_mem_nil,or_false]at F;have:=nJ.o;omega);clear s;go_wp2_with fail
   rw[<-GU];clear GU;refine b.mono ?_
   rintro e br⟨v7,rfl,o7,Bg⟩;obtain⟨a7,n7,c7,w7,bk,Jm,ar,av,aY⟩:=EF ((IX.o.a ze).a Bg) (aG Gp.o (aG ze.size Bg.size)) o7.rd (by have h7:=YE [f,g] (by intro x F;simp only[List.mem_cons,Xb3,List.not_mem_nil,or_false]at F;have:=nJ.o;omega);have h8:([f,g]:List Nat).length<=2:=(by simp);have r:=vK.o;have h8:=nJ.o;have k1:=nM G (by omega);have k2:=nM Q (by omega);have k3:=nM hi (by omega);have k4:=iP (n:=f) (by omega);have k5:=iP (n:=g) (by omega);(try simp only[Xa0]at *);omega);have Gq:=ag (show fB w7 (w.heap.size+1) (.slice a7 n7 c7) (((D++tx G)++sm f)++sm g)by
    have e7:jV [f,g]=sm f++sm g:=by simp[jV]
    rw[e7,<-Xa8]at ar;exact ar)
   have Bz:=ag (((mJ.o.trans (ze.mono Gp.o)).trans (Bg.mono (aG Gp.o ze.size))).trans av);have C9:=ag (aG Gp.o (aG ze.size (aG Bg.size av.size)));have EK:=ag (((EJ.o.a ze).a Bg).keepU aY);clear b o7 ze Bg ar av aY bk IX mJ Gp EJ g0 g1 g2 g3 g4;obtain⟨g0,g1,g2,g3,g4⟩:=EK.o.cells;go_wp2_with (first|(at_builtin;refine xw rfl (.tmp 54) (.tmp 60) 23 rfl rfl rfl rfl Jm ?_)|fail)
   clear Jm;have b:=QN Q w7 (by have:=nJ.o;omega);go_wp2_with fail
   refine b.mono ?_
   rintro e bt⟨v8,rfl,o8,Bh⟩;obtain⟨a8,n8,c8,w8,bl,sj,a0,aw,a1⟩:=EF (Gq.o.a Bh) (aG C9.o Bh.size) o8.rd (by have r:=vK.o;have h8:=nJ.o;have k1:=nM G (by omega);have k2:=nM Q (by omega);have k3:=nM hi (by omega);have k4:=iP (n:=f) (by omega);have k5:=iP (n:=g) (by omega);(try simp only[Xa0]at *);omega);have Da:=ag a0;have tL:=ag ((Bz.o.trans (Bh.mono C9.o)).trans aw);have AY:=ag (aG C9.o (aG Bh.size aw.size));have xC:=ag ((EK.o.a Bh).keepU a1);clear b o8 Bh a0 aw a1 bl Gq Bz C9 EK g0 g1 g2 g3 g4;obtain⟨g0,g1,g2,g3,g4⟩:=xC.o.cells;go_wp2_with (first|(at_builtin;refine xw rfl (.tmp 62) (.tmp 65) 23 rfl rfl rfl rfl sj ?_)|fail)
   clear sj;have b:=QN hi w8 (by have:=nJ.o;omega);go_wp2_with fail
   refine b.mono ?_
   rintro e bu⟨v9,rfl,o9,D6⟩;obtain⟨a9,n9,c9,w9,mI,aW,a2,a3,a4⟩:=EF (Da.o.a D6) (aG AY.o D6.size) o9.rd (by have r:=vK.o;have h8:=nJ.o;have k1:=nM G (by omega);have k2:=nM Q (by omega);have k3:=nM hi (by omega);have k4:=iP (n:=f) (by omega);have k5:=iP (n:=g) (by omega);(try simp only[Xa0]at *);omega);have uG:=ag a2;have dG:=ag ((tL.o.trans (D6.mono AY.o)).trans a3);have yH:=ag ((xC.o.a D6).keepU a4);clear b o9 D6 a2 a3 a4 mI Da tL AY xC g0 g1 g2 g3 g4;obtain⟨g0,g1,g2,g3,g4⟩:=yH.o.cells;go_wp2_with (first|(at_builtin;refine xw rfl (.tmp 67) (.tmp 70) 23 rfl rfl rfl rfl aW ?_)|fail)
   clear aW;have qX:=ag (show fB w9 (w.heap.size+1) (.slice a9 n9 c9) ((C++sm q)++iV (X.take (j+1)))by
    rw[WL.o,qle,<-Xa8,<-HD.o];have r:=uG.o;simp only[Xa8]at r⊢;exact r)
   clear g0 g1 g2 g3 g4 I J K N q0;go_roundw
   case rel=>exact⟨j+1,_,_,_,by omega,rfl,by go_num,qX,dG⟩
   simp only[intOf];omega
  have hd:decide ((j:Int)<q)=false:=aC (by omega);obtain rfl:j=q:=by omega
  have HE:=ag (show fB wr (w.heap.size+1) (.slice U V W) (ed ((aT R).take (k+1)))by
   have r:=O.o;have e8:j=X.length:=Gm.o;rw[e8,Xb5]at r;rw[yG.o,qlf,P8,<-bd.o,<-Xa8];exact r)
  clear O hj bh fu xB z;go_wp2;go_roundw
  case rel=>exact⟨k+1,_,_,_,by omega,rfl,by go_num,HE,t⟩
  simp only[intOf];omega
 have hd:decide ((k:Int)<n)=false:=aC (by omega);obtain rfl:k=n:=by omega
 have Da:=ag (show fB wr (w.heap.size+1) (.slice U V W) (ed (aT R))by
  have r:=O.o;rw[Xa1 (by rw[jM];have:=HN.o;omega)]at r;exact r)
 have oz:=ag (show(ed (aT R)).length<=6000 from qx2 HV.o);clear O hk bc;obtain⟨Y,Z⟩:=ak (wr.alloc (.cells #[.int .i64 nx,.int .i64 sq] 3));have A:ah wr Y:=by rw[Z];exact ae
 have s:∀j,(h:j<([nx,sq]:List Nat).length)->Y.cell? ⟨wr.heap.size,j,none⟩=some (.int .i64 (([nx,sq]:List Nat)[j]:Nat)):=by
  intro j h;have u:Bx Y wr.heap.size 3 #[.int .i64 nx,.int .i64 sq]:=by rw[Z];exact Bx.new wr _ _
  match j,h with
  |0,_=>exact u.at 0 rfl
  |1,_=>exact u.at 1 rfl
 have b:=qq0 wr.heap.size [nx,sq] 2 rfl Y s (by omega) (by intro x F;simp only[List.mem_cons,Xb3,List.not_mem_nil,or_false]at F;have:=jb.o;have:=IW.o;omega);clear s;go_wp2_with fail
 rw[<-Z];clear Z;refine b.mono ?_
 rintro e be⟨v5,rfl,o5,P⟩;obtain⟨a5,n5,c5,w5,al,ww,Od,QW,am⟩:=EF ((Da.o.a A).a P) (aG z.o (aG A.size P.size)) o5.rd (by have h7:=YE [nx,sq] (by intro x F;simp only[List.mem_cons,Xb3,List.not_mem_nil,or_false]at F;have:=jb.o;have:=IW.o;omega);have h8:([nx,sq]:List Nat).length<=2:=(by simp);have:=oz.o;omega);have vg:=ag (show fB w5 (w.heap.size+1) (.slice a5 n5 c5) ((ed (aT R)++sm nx)++sm sq)by
  have e7:jV [nx,sq]=sm nx++sm sq:=by simp[jV]
  rw[e7,<-Xa8]at Od;exact Od)
 have fK:=ag (((t.o.trans (A.mono z.o)).trans (P.mono (aG z.o A.size))).trans QW);have uK:=ag (aG z.o (aG A.size (aG P.size QW.size)));clear b o5 A P Od QW am al Da I J K N;obtain⟨I,J,K,N⟩:=(T.o.low fK.o (by omega)).cells;go_wp2_with (first|(at_builtin;refine xw rfl (.tmp 72) (.tmp 78) 23 rfl rfl rfl rfl ww ?_)|fail)
 clear ww;have b:=QN lg w5 aE.o;refine b.mono ?_
 rintro e bj⟨v6,rfl,o6,H⟩;obtain⟨a6,n6,c6,w6,aq,iZ,YF,QX,aa⟩:=EF (vg.o.a H) (aG uK.o H.size) o6.rd (by have:=oz.o;have:=aE.o;have k2:=nM lg (by omega);have k4:=iP (n:=nx) (by have:=jb.o;omega);have k5:=iP (n:=sq) (by have:=IW.o;omega);simp only[Xa0];omega);have HO:=ag (show fB w6 w.heap.size (.slice a6 n6 c6) (dS (aT R,(nx:Int),(sq:Int),lg))by
  have r:=YF.mono (show w.heap.size<=w.heap.size+1 by omega);unfold dS;rw[show((nx:Nat):Int).toNat=nx from rfl,show((sq:Nat):Int).toNat=sq from rfl];simp only[Xa8]at r⊢;exact r)
 have fA:=ag (oO.o.trans (((fK.o.trans (H.mono uK.o)).trans QX).mono (by omega)));clear b o6 H YF QX aa aq vg fK I J K N;go_wp2_with (first|(at_builtin;refine xw rfl (.tmp 80) (.tmp 83) 23 rfl rfl rfl rfl iZ ?_)|fail)
 clear iZ;go_ret2;exact⟨_,rfl,by rw[HW.o];exact HO.o,fA.o⟩
theorem WF(x:aU)(f:aR)(a:aA)(n c:Nat)(R:dL)(nx sq:Int)(lg:az)(w:World)(h:iJ w x f)(hw:jq f)(am:gM w (.slice a n c) R)(hn:n<=1000)(hT:(aT R).flatten.length<=100000):
  Calls Tryz.prog 24 #[x.val,.agg #[.slice a n c,.int .i64 nx,.int .i64 sq,.string (bs lg)]] w fun e w'=>∃v,e=.returned (.tuple #[v,.int .i64 (nV f (aT R,nx,sq,lg)).2])∧bH w' w.heap.size v (nV f (aT R,nx,sq,lg)).1∧ah w w':=by
 have HX:=ag h;have HW:=ag hw;have Na:=ag am;have WS:=ag (And.intro hn hT);obtain⟨V,hV⟩:=ak ((aT R,nx,sq,lg));have xB:=ag hV;rw[<-hV];clear hV;obtain⟨u1,rY⟩:=au (w.alloc (.cells x.cs 33));have q1:ah w u1:=by rw[<-rY];exact ae
 have z1:u1.heap.size=w.heap.size+1:=by rw[<-rY];simp
 obtain⟨u2,xE⟩:=au (u1.alloc (.cells #[.slice a n c,.int .i64 nx,.int .i64 sq,.string (bs lg)] 36));have q2:ah u1 u2:=by rw[<-xE];exact ae
 have z2:u2.heap.size=w.heap.size+2:=by rw[<-xE];simp[z1]
 obtain⟨w1,Gt⟩:=au (u2.alloc (.cells #[.slice none 0 0,.slice none 0 0,.slice none 0 0,.int .u32 0,.slice none 0 0,.slice none 0 0] 33));have q3:ah u2 w1:=by rw[<-Gt];exact ae
 have fD:=ag (show bB w1 w.heap.size x from((show bB u1 w.heap.size x by rw[<-rY];exact Bq.new w 33 x.cs).a q2).a q3);have De:=ag ((show aQ u2 (w.heap.size+1) (.slice a n c) nx sq lg by rw[<-xE,<-z1];exact aQ.new u1 _ nx sq lg).a q3);have qE:=ag (show dW w1 (w.heap.size+2)by rw[<-Gt,<-z2];exact dW.new _);have bg:=ag (show ah w w1 from(q1.trans (q2.mono (by omega))).trans (q3.mono (by omega)));obtain⟨X,Y,Z,k3,k4,k5⟩:=bq fD.o;clear h hw am hn hT q1 q2 q3;unfold aU.val;unfold aU.cs at rY;go_enter Tryz.func24,Tryz.ntmps24;go_wp2_with fail
 try rw[rY]
 try rw[xE]
 try rw[Gt]
 try simp only[z1,z2]
 clear rY xE Gt z1 z2;refine(Xv x f w1 (HX.o.a bg.o) HW.o).mono ?_
 rintro e w2⟨rfl,aa⟩;have jZ:=ag (fD.o.a aa);have j6:=ag (qE.o.a aa);have Df:=ag (De.o.a aa);have aY:=ag (bg.o.trans (aa.mono bg.o.size));clear X Y Z k3 k4 k5 aa;obtain⟨E,hE⟩:=ak (eF f);rw[<-hE];have mM:=ag hE;clear hE;by_cases L:E=0
 case neg=>
  have HE:=ag (WN (f:=f) (V:=V) (by rw[<-mM.o];exact L));have ap:=ag (qtv (f:=f) (by rw[<-mM.o];exact L));have g2:(E !=0)=true:=Xe1 L;have g3:(E==0)=false:=Xe2 L;obtain⟨w9,d0,d1,d2,d3,d4,d5,aM,ab,e0,e1,M,N,J,O,P,Q,S,T,U,W,z0,z1,z2,z3,z4,z5⟩:=oW j6 aY (show w.heap.size<=w.heap.size+2 by omega);go_wp2;try rw[aM]
  clear aM e0 e1 M N J O P Q S T U W;try simp only[Exit.inBlock,Exit.then]
  refine bodyPost_ret ?_ rfl (QG HE ap.o ab)
  simp[results,Tryz.results24,go_sem, *]
 subst L;have r:=qtx a n c R nx sq lg w2 (Na.o.a aY.o) WS.o.1 WS.o.2;rw[<-xB.o]at r;obtain⟨C,hC⟩:=ak (dw V);rw[<-hC]at r;have HC:=ag hC;obtain⟨v0,v1,v2,v3⟩:=Df.o.cells;clear hC;go_wp2_with fail
 refine r.mono ?_
 rintro e w4⟨v4,rfl,fC,ai⟩;have tO:=ag (jZ.o.a ai);have yx:=ag (j6.o.a ai);have gY:=ag (aY.o.trans (ai.mono aY.o.size));obtain⟨a4,c4,J⟩:=fC.form;obtain⟨n4,qN⟩:=ak ((kM V).length);rw[<-qN]at J;subst J;have Dh:=ag fC.rd;clear r ai fC v0 v1 v2 v3 qN De Df;by_cases L:C=0
 case neg=>
  have HE:=ag (WO (f:=f) (V:=V) mM.o.symm (by rw[<-HC.o];exact L));have g2:(C !=0)=true:=Xe1 L;have g3:(C==0)=false:=Xe2 L;obtain⟨w9,d0,d1,d2,d3,d4,d5,aM,ab,e0,e1,M,N,J,O,P,Q,S,T,U,W,z0,z1,z2,z3,z4,z5⟩:=oW yx gY (show w.heap.size<=w.heap.size+2 by omega);go_wp2;try rw[aM]
  clear aM e0 e1 M N J O P Q S T U W;try simp only[Exit.inBlock,Exit.then]
  refine bodyPost_ret ?_ rfl (QG HE HC.o.symm ab)
  simp[results,Tryz.results24,go_sem, *]
 subst L;obtain⟨B,hB⟩:=ak (dS V);have fA:=ag hB;have bN:=ag (show Rd w4 (.slice a4 n4 c4) B by
  have:=Dh.o
  unfold kM at this;rw[if_pos HC.o.symm,<-hB]at this;exact this)
 have an:=ag (show B.length<=1000000 by rw[hB];have:=RD HC.o.symm;omega);obtain⟨m,hm⟩:=ak ((tx B).length);have HM:=ag hm;have zt:=ag (show(tx B).length<=1000000 by rw[hB];have h6:=RD HC.o.symm;have:=nM (dS V) (by omega);omega);obtain⟨⟨F9,E9⟩,h9⟩:∃D:aR×Int,D=mE f jB (tx B):=⟨_,rfl⟩;have mI:=ag h9
 have Di:=ag (show ∀(z:World) (a9:aA) (c9:Nat),ah w4 z->Rd z (.slice a9 m c9) (tx B)->Calls Tryz.prog 21 #[x.val,.string {data:=#[110,101,120,116]},.slice a9 m c9] z fun e w'=>∃v,e=.returned v∧∃y:aU,v=.tuple #[y.val,.int .i64 E9]∧bH w' z.heap.size y.val F9∧ah z w' by
  intro z a9 c9 u hr;have hh:=qtw x f jB a9 m c9 (tx B) z ((HX.o.a gY.o).a u) HW.o hr HM.o zt.o;rw[<-h9]at hh;refine hh.mono fun e w' ⟨v,h1,h2,h3⟩=>?_
  obtain⟨y,ey, -,h4⟩:=h2.bx;subst ey;exact⟨_,h1,y,rfl,h4,h3⟩)
 clear hB hm h9 Dh;go_wp2_with fail
 refine EB (α:=(aA×Nat)×(Nat×aU)) (F:=fun bx a=>(((((((((((a.put (some 24) (.agg #[.slice x.a1 x.n1 x.c1,.slice x.a2 x.n2 x.c2,.slice x.a3 x.n3 x.c3,.int .u32 x.g,.slice x.a4 x.n4 x.c4,.slice x.a5 x.n5 x.c5])).put (some 25) (.slice a4 n4 c4)).put (some 26) (.string (bs B))).put (some 27) (.slice bx.1.1 m bx.1.2)).put (some 28) (.tuple #[bx.2.2.val,.int .i64 E9])).put (some 23) (.tuple #[bx.2.2.val,.int .i64 E9])).put (some 29) bx.2.2.val).put (some 30) (.int .i64 E9)).put (some 8) (.pointer (some ⟨bx.2.1,0,none⟩))).put none undef).put (some 7) (.int .i64 E9))) (R:=fun bx wz=>ah w4 wz∧bB wz bx.2.1 bx.2.2∧bH wz w.heap.size bx.2.2.val F9∧w4.heap.size<=bx.2.1) ?DK ?DL
 case DK=>
  have hK:aN (fun z=>ah w4 z):=fun w1 w2 h hb=>h.trans (hb.mono h.size)
  have aq:(fun z=>ah w4 z) w4:=aF;refine iH hK (by kernel_rfl) aq ?_
  intro l;generalize w4.drew=wd at *;refine rU 0 ?qz1v rfl ?NW l ?qz1r
  case NW=>(rintro z u;obtain⟨X,Y,Z,k3,k4,k5⟩:=bq (tO.o.a u);have r1:=xu (bN.o.a u);go_simp<;>rfl)
  try simp only[aB]
  refine rU 1 ?qz2v rfl ?NY l ?qz2r
  case NY=>(rintro z u;obtain⟨X,Y,Z,k3,k4,k5⟩:=bq (tO.o.a u);have r1:=xu (bN.o.a u);go_simp<;>rfl)
  try simp only[aB]
  refine rU 2 ?qz3v rfl ?NZ l ?qz3r
  case NZ=>(rintro z u;obtain⟨X,Y,Z,k3,k4,k5⟩:=bq (tO.o.a u);have r1:=xu (bN.o.a u);go_simp<;>rfl)
  try simp only[aB]
  refine Ih (i:=3) (j:=8) (by kernel_rfl) ?_ ?_
  ·skip
   refine Ij (R:=fun v K=>∃a c,v=.slice a m c∧Rd K (.slice a m c) (tx B)∧ah wd K) rfl (by kernel_rfl) (by go_simp;try rfl) ((QN B wd an.o).mono fun e K ⟨v,h1,h2,h3⟩=>by obtain⟨a9,c9,e9⟩:=h2.form;rw[<-HM.o]at e9;subst e9;exact⟨_,h1,a9,c9,rfl,h2.rd,h3⟩) ?_
   rintro v9 zf⟨A,Dj,rfl,ac,d⟩;have p:=hK _ _ l d;refine⟨p, ?_⟩;have Oe:=(ac);clear ac;clear l d;have l:=p;clear p;try simp only[aB]
   refine Ih (i:=4) (j:=8) (by kernel_rfl) ?_ ?_
   ·skip
    refine Ij (R:=fun v K=>∃y:aU,v=.tuple #[y.val,.int .i64 E9]∧bH K zf.heap.size y.val F9∧ah zf K) rfl (by kernel_rfl) (by go_simp;try rfl) (Di.o zf A Dj l Oe) ?_
    rintro v9 uj⟨G,rfl,h7,d⟩;have p:=hK _ _ l d;refine⟨p, ?_⟩;have N7:=Oe.a d;have ao:=(h7.mono (aG gY.o.size l.size));clear h7;clear l d;have l:=p;clear p;try simp only[aB]
    refine rP [5,6,7] 3 ?jS ?dP l ?jT
    case dP=>
     iterate 3 (apply Yl.cons rfl (by kernel_rfl);focus (rintro z u;obtain⟨X,Y,Z,k3,k4,k5⟩:=bq (tO.o.a u);have r1:=xu (bN.o.a u);go_simp<;>rfl);try simp only[aB])
     exact Yl.nil
    obtain⟨Aa,uw⟩:=au (uj.alloc (.cells #[.slice none 0 0,.slice none 0 0,.slice none 0 0,.int .u32 0,.slice none 0 0,.slice none 0 0] 33));have d:ah uj Aa:=by rw[<-uw];exact ae
    have p:=hK _ _ l d;have z8:=N7.a d;have YG:=ao.a d;obtain⟨wD,uy⟩:=ak uj.heap.size;have D7:dW Aa wD:=by rw[<-uw,uy];exact dW.new uj
    have Jn:w4.heap.size<=wD:=by rw[uy];exact l.size
    refine jT (i:=8) (v:=.pointer (some ⟨wD,0,none⟩)) (w':=Aa) rfl (by kernel_rfl) (by kernel_rfl) (by rw[<-uw,uy];go_simp) p ?_
    clear l d uw uy;have l:=p;clear p;try simp only[aB]
    obtain⟨⟨d0,e0⟩,⟨d1,e1⟩,⟨d2,M⟩,⟨d3,N⟩,⟨d4,J⟩,⟨d5,O⟩,q⟩:=D7.cells;have P:=q 0;have Q:=q 1;have S:=q 2;have T:=q 3;have U:=q 4;have W:=q 5;obtain⟨H,t⟩:=D7.put G;obtain⟨oF,jC⟩:=au (bQ Aa wD G);rw[jC]at H t;have p:=l.grown t l.size (by intro k hk;cases hk;exact Jn);obtain⟨_,_,_,_,_,_,I⟩:=D7;have ad:=YG.keptS t I (by decide) (by decide) (by decide) (by decide) (by decide);clear I;have ql:=H;unfold bQ at jC;try dsimp only at jC
    clear t q;refine Em (i:=9) (w':=oF) rfl (by kernel_rfl) (by kernel_rfl) (by rw[<-jC];go_simp) p ?_
    clear l jC e0 e1 M N J O P Q S T U W;have l:=p;clear p;try simp only[aB]
    refine rU 10 ?qz17v rfl ?YH l ?qz17r
    case YH=>(rintro z u;obtain⟨X,Y,Z,k3,k4,k5⟩:=bq (tO.o.a u);have r1:=xu (bN.o.a u);go_simp<;>rfl)
    try simp only[aB]
    refine rD ?_
    exact⟨rfl,((A,Dj),(wD,G)),by simp only[aB],l,ql,ad,Jn⟩
   obtain⟨oG,uz⟩:=au (zf.alloc (.cells #[.slice none 0 0,.slice none 0 0,.slice none 0 0,.int .u32 0,.slice none 0 0,.slice none 0 0] 33));have d:ah zf oG:=by rw[<-uz];exact ae
   have p:=hK _ _ l d;have si:=Oe.a d;obtain⟨wF,uA⟩:=ak zf.heap.size;have DR:dW oG wF:=by rw[<-uz,uA];exact dW.new zf
   have Jo:w4.heap.size<=wF:=by rw[uA];exact l.size
   refine Ii (v:=.pointer (some ⟨wF,0,none⟩)) (w':=oG) rfl (by kernel_rfl) (by rw[<-uz,uA];go_simp) ⟨p, ?_⟩;clear l d uz uA;have l:=p;clear p;try simp only[aB]
   refine pR (i:=4) (R:=fun v K=>∃y:aU,v=.tuple #[y.val,.int .i64 E9]∧bH K oG.heap.size y.val F9∧ah oG K) rfl (by kernel_rfl) (by kernel_rfl) (by go_simp;try rfl) (Di.o oG A Dj l si) ?_
   rintro v9 YI⟨G,rfl,h7,d⟩;have p:=hK _ _ l d;refine⟨p, ?_⟩;have ar:=si.a d;have D8:=DR.a d;have YJ:=(h7.mono (aG gY.o.size l.size));clear h7;clear l d;have l:=p;clear p;try simp only[aB]
   refine rP [5,6,7] 2 ?oI ?iA l ?oJ
   case iA=>
    iterate 3 (apply Yl.cons rfl (by kernel_rfl);focus (rintro z u;obtain⟨X,Y,Z,k3,k4,k5⟩:=bq (tO.o.a u);have r1:=xu (bN.o.a u);go_simp<;>rfl);try simp only[aB])
    exact Yl.nil
   obtain⟨⟨d0,e0⟩,⟨d1,e1⟩,⟨d2,M⟩,⟨d3,N⟩,⟨d4,J⟩,⟨d5,O⟩,q⟩:=D8.cells;have P:=q 0;have Q:=q 1;have S:=q 2;have T:=q 3;have U:=q 4;have W:=q 5;obtain⟨H,t⟩:=D8.put G;obtain⟨wm,qo⟩:=au (bQ YI wF G);rw[qo]at H t;have p:=l.grown t l.size (by intro k hk;cases hk;exact Jo);obtain⟨_,_,_,_,_,_,I⟩:=D8;have ad:=YJ.keptS t I (by decide) (by decide) (by decide) (by decide) (by decide);clear I;have ql:=H;unfold bQ at qo;try dsimp only at qo
   clear t q;refine Em (i:=9) (w':=wm) rfl (by kernel_rfl) (by kernel_rfl) (by rw[<-qo];go_simp) p ?_
   clear l qo e0 e1 M N J O P Q S T U W;have l:=p;clear p;try simp only[aB]
   refine rU 10 ?qz29v rfl ?YK l ?qz29r
   case YK=>(rintro z u;obtain⟨X,Y,Z,k3,k4,k5⟩:=bq (tO.o.a u);have r1:=xu (bN.o.a u);go_simp<;>rfl)
   try simp only[aB]
   refine rD ?_
   exact⟨rfl,((A,Dj),(wF,G)),by simp only[aB],l,ql,ad,Jo⟩
  obtain⟨qi,uB⟩:=au (wd.alloc (.cells #[.slice none 0 0,.slice none 0 0,.slice none 0 0,.int .u32 0,.slice none 0 0,.slice none 0 0] 33));have d:ah wd qi:=by rw[<-uB];exact ae
  have p:=hK _ _ l d;obtain⟨wG,uC⟩:=ak wd.heap.size;have wo:dW qi wG:=by rw[<-uB,uC];exact dW.new wd
  have Jp:w4.heap.size<=wG:=by rw[uC];exact l.size
  refine Ii (v:=.pointer (some ⟨wG,0,none⟩)) (w':=qi) rfl (by kernel_rfl) (by rw[<-uB,uC];go_simp) ⟨p, ?_⟩;clear l d uB uC;have l:=p;clear p;try simp only[aB]
  refine pR (i:=3) (R:=fun v K=>∃a c,v=.slice a m c∧Rd K (.slice a m c) (tx B)∧ah qi K) rfl (by kernel_rfl) (by kernel_rfl) (by go_simp;try rfl) ((QN B qi an.o).mono fun e K ⟨v,h1,h2,h3⟩=>by obtain⟨a9,c9,e9⟩:=h2.form;rw[<-HM.o]at e9;subst e9;exact⟨_,h1,a9,c9,rfl,h2.rd,h3⟩) ?_
  rintro v9 D9⟨A,Dj,rfl,ac,d⟩;have p:=hK _ _ l d;refine⟨p, ?_⟩;have YL:=wo.a d;have Jq:=(ac);clear ac;clear l d;have l:=p;clear p;try simp only[aB]
  refine pR (i:=4) (R:=fun v K=>∃y:aU,v=.tuple #[y.val,.int .i64 E9]∧bH K D9.heap.size y.val F9∧ah D9 K) rfl (by kernel_rfl) (by kernel_rfl) (by go_simp;try rfl) (Di.o D9 A Dj l Jq) ?_
  rintro v9 YM⟨G,rfl,h7,d⟩;have p:=hK _ _ l d;refine⟨p, ?_⟩;have Ea:=YL.a d;have av:=Jq.a d;have YN:=(h7.mono (aG gY.o.size l.size));clear h7;clear l d;have l:=p;clear p;try simp only[aB]
  refine rP [5,6,7] 2 ?EX ?sN l ?EY
  case sN=>
   iterate 3 (apply Yl.cons rfl (by kernel_rfl);focus (rintro z u;obtain⟨X,Y,Z,k3,k4,k5⟩:=bq (tO.o.a u);have r1:=xu (bN.o.a u);go_simp<;>rfl);try simp only[aB])
   exact Yl.nil
  obtain⟨⟨d0,e0⟩,⟨d1,e1⟩,⟨d2,M⟩,⟨d3,N⟩,⟨d4,J⟩,⟨d5,O⟩,q⟩:=Ea.cells;have P:=q 0;have Q:=q 1;have S:=q 2;have T:=q 3;have U:=q 4;have W:=q 5;obtain⟨H,t⟩:=Ea.put G;obtain⟨YO,qp⟩:=au (bQ YM wG G);rw[qp]at H t;have p:=l.grown t l.size (by intro k hk;cases hk;exact Jp);obtain⟨_,_,_,_,_,_,I⟩:=Ea;have ad:=YN.keptS t I (by decide) (by decide) (by decide) (by decide) (by decide);clear I;have ql:=H;unfold bQ at qp;try dsimp only at qp
  clear t q;refine Em (i:=9) (w':=YO) rfl (by kernel_rfl) (by kernel_rfl) (by rw[<-qp];go_simp) p ?_
  clear l qp e0 e1 M N J O P Q S T U W;have l:=p;clear p;try simp only[aB]
  refine rU 10 ?qz43v rfl ?YP l ?qz43r
  case YP=>(rintro z u;obtain⟨X,Y,Z,k3,k4,k5⟩:=bq (tO.o.a u);have r1:=xu (bN.o.a u);go_simp<;>rfl)
  try simp only[aB]
  refine rD ?_
  exact⟨rfl,((A,Dj),(wG,G)),by simp only[aB],l,ql,ad,Jp⟩
 case DL=>
 rintro⟨⟨A,Dj⟩,A8,y9⟩ws⟨aj,ql,DT,GM⟩;try simp only[aB]
 have Jr:=ag ql;have Js:=ag DT;dsimp only at Jr Js;have WT:=ag (yx.o.a aj);have Gu:=ag (gY.o.trans (aj.mono gY.o.size));clear aj ql DT GM;by_cases L:E9=0
 case neg=>
  have HE:=ag (WP (f:=f) (V:=V) mM.o.symm HC.o.symm (by rw[<-fA.o,<-mI.o];exact L));rw[<-fA.o,<-mI.o]at HE;have g2:(E9 !=0)=true:=Xe1 L
  have g3:(E9==0)=false:=Xe2 L;obtain⟨w9,d0,d1,d2,d3,d4,d5,aM,ab,e0,e1,M,N,J,O,P,Q,S,T,U,W,z0,z1,z2,z3,z4,z5⟩:=oW WT Gu (show w.heap.size<=w.heap.size+2 by omega);go_wp2;try rw[aM]
  clear aM e0 e1 M N J O P Q S T U W;try simp only[Exit.inBlock,Exit.then]
  refine bodyPost_ret ?_ rfl (zR HE ab)
  simp[results,Tryz.results24,go_sem, *]
 subst L;have HE:=ag (WR (f:=f) (V:=V) mM.o.symm HC.o.symm (by rw[<-fA.o,<-mI.o]));rw[<-fA.o,<-mI.o]at HE;have yg:=ag (show jq F9 by
  obtain⟨y,e1, -, -, -, -,h1, -⟩:=VP (f:=f) (s:=jB) (b:=tx B) (by rw[<-mI.o]);have:F9=y:=by rw[<-mI.o]at e1;exact(Prod.ext_iff.1 e1).1
  rw[this];exact Gj h1)
 obtain⟨X,Y,Z,k3,k4,k5⟩:=bq Jr.o;have r:=qtn y9 F9 jB eO ws (qvg Js.o) yg.o;rw[show bs jB={data:=#[110,101,120,116]}from rfl,show bs eO={data:=#[99,117,114,114,101,110,116]}from rfl]at r;obtain⟨⟨F7,E7⟩,h7⟩:∃D:aR×Int,D=wT F9 jB eO:=⟨_,rfl⟩;rw[<-h7]at r HE;clear h7
 go_wp2_with fail
 clear X Y Z k3 k4 k5;refine r.mono ?_
 rintro e w7⟨v7,rfl,jf,bE⟩;have Gv:=ag (WT.o.a bE);have qD:=ag (Gu.o.trans (bE.mono Gu.o.size));obtain⟨G,e7, -,Dl⟩:=jf.bx;subst e7;obtain⟨w9,BI⟩:=au (w7.alloc (.cells G.cs 33));have bI:ah w7 w9:=by rw[<-BI];exact ae
 have YQ:=ag (Gv.o.a bI);have Og:=ag (qD.o.trans (bI.mono qD.o.size));have iU:=ag ((Dl.mono Gu.o.size).a bI);have aw:=ag (show bB w9 w7.heap.size G by rw[<-BI];exact Bq.new _ _ _);clear r bE bI jf Dl;unfold aU.cs at BI;unfold aU.val;obtain⟨p0,p1,p2,p3,p4,p5⟩:=bq aw.o;obtain⟨⟨d0,e0⟩,⟨d1,e1⟩,⟨d2,M⟩,⟨d3,N⟩,⟨d4,J⟩,⟨d5,O⟩,q⟩:=YQ.o.cells;have P:=q 0;have Q:=q 1;have S:=q 2;have T:=q 3;have U:=q 4;have W:=q 5;have al:=iU.o.assign YQ.o (w0:=w) Og.o (by omega);obtain⟨w8,gK⟩:=au (bQ w9 (w.heap.size+2) G);rw[gK]at al;have mF:=ag al;unfold bQ at gK;have CX:=ag gK;clear al gK q;go_wp2;try rw[BI]
 try rw[CX.o]
 obtain⟨s0,s1,s2,s3,s4,s5⟩:=bq mF.o.2.2.1;clear CX BI P Q S T U W e0 e1 M N J O p0 p1 p2 p3 p4 p5;refine bodyPost_ret (v:=.tuple #[G.val,.int .i64 E7]) ?_ rfl ⟨G.val, ?_, ?_,mF.o.2.1⟩
 ·simp[results,Tryz.results24,go_sem,s0,s1,s2,s3,s4,s5]
 ·rw[HE.o]
 rw[HE.o];exact mF.o.1
def nL (w wx:World) (Q:Nat) (r:az) (bad:Bool):Prop:=
 ∃a' n' c',bL wx Q (.slice a' n' c') bad∧n'=r.length∧Rd w (.slice a' n' c') r∧w.heap.size<=Q∧ah w wx∧r.length<=1000000
theorem nL.below{a:World}(h:nL w a Q r bad):ah w a:=by
 obtain⟨_,_,_,_,_,_,_,h,_⟩:=h;exact h
theorem nL.lt{a:World}(h:nL w a Q r bad):Q<a.heap.size:=by
 obtain⟨_,_,_,h,_⟩:=h;exact(Xd6.1 h).1
theorem nL.cell{a:World}(h:nL w a Q r bad):a.cell? ⟨Q,1,none⟩=some (.bool bad):=by
 obtain⟨_,_,_,h,_⟩:=h;exact h.cell1
theorem nL.a(h:nL w b Q r bad)(hb:ah b d):nL w d Q r bad:=by
 obtain⟨a,n,c,f,g,i,j,e,k⟩:=h;exact⟨a,n,c,f.a hb,g,i,j,e.trans (hb.mono e.size),k⟩
theorem nL.low(h:nL w b Q r bad)(hb:Below (Q+1) b d):nL w d Q r bad:=by
 obtain⟨a,n,c,f,g,i,e,j,k⟩:=h;exact⟨a,n,c,(hb.block Q (Nat.lt_succ_self _)).trans f,g,i,e,j.trans (hb.mono (Nat.le_succ_of_le e)),k⟩
theorem nL.set(h:nL w b Q r bad)(m:Q<X)(j:Nat)(u:Value):nL w (b.setCell ⟨X,j,none⟩ u) Q r bad:=by
 obtain⟨a,n,c,d,f,g,i,k,l⟩:=h;exact⟨a,n,c,(heap_setCell_other b ⟨X,j,none⟩ Q u (fun e:Q=X=>by omega)).trans d,f,g,i,Gd k (by omega) j u,l⟩
def jW (Q:Nat) (w0 wx:World):Prop:=w0.heap.size<=wx.heap.size∧∀k,k<w0.heap.size->k≠Q->wx.heap[k]? =w0.heap[k]?
theorem jW.refl(Q:Nat)(w:World):jW Q w w:=⟨Nat.le_refl _,fun _ _ _=>rfl⟩
theorem jW.a{a:World}(h:jW Q w0 a)(hb:ah a b):jW Q w0 b:=
 ⟨aG h.1 hb.size,fun k c d=>(hb.block k (Xb8 c h.1)).trans (h.2 k c d)⟩
theorem jW.grown{a:World}(h:jW Q w0 a)(f:a.grownBy b (some Q))(g:a.heap.size<=b.heap.size):jW Q w0 b:=
 ⟨aG h.1 g,fun k c d=>(f.block k (Xb8 c h.1) (fun e=>d (Option.some.inj e))).trans (h.2 k c d)⟩
theorem jW.set{a:World}(h:jW Q w0 a)(d:w0.heap.size<=X)(j:Nat)(u:Value):jW Q w0 (a.setCell ⟨X,j,none⟩ u):=
 ⟨by simpa using h.1,fun k b c=>(heap_setCell_other a ⟨X,j,none⟩ k u (fun e:k=X=>by omega)).trans (h.2 k b c)⟩
theorem cO.loq{ec:α->List Value}{l:List α}(h:cO sz ec t w0 base v l)(i:Q<base)(hl:jW Q w0 b):cO sz ec t b base v l:=by
 refine⟨h.1, ?_⟩;rcases h.2 with h|⟨g,cap,a,e,d,c,f⟩
 ·exact .inl h
 exact .inr ⟨g,cap,a,e,d,(hl.2 g (Xd6.1 c).1 (by omega)).trans c,f⟩
def RkC (w wx wy:World) (Q:Nat) (r':az) (bad':Bool):Prop:=nL w wy Q r' bad'∧bU 200 wx wy∧∀w0,jW Q w0 wx->jW Q w0 wy
theorem YR{e:World}{a:aA}{f:az}{b:Bool}(g:Rd w (.slice a n c) r)(h:w.heap.size<=Q)(hb:ah w d)(hl:f.length<=1000000)(o:Nu Q (.slice a n c) r d f b e):RkC w d e Q f b:=by
 obtain⟨a2,c2,p,i,j,l⟩:=o;have m:ah w e:=hb.grown j hb.size fun k l=>by
  have:k=Q:=by simpa using l.symm
  omega
 exact⟨⟨a2,_,c2,i,rfl,p.1 w g,h,m,hl⟩,l,fun w0 q=>q.grown j j.size⟩
theorem YS(d:Nat){f:World}(h:nL w f Q r bad):
  Calls Tryz.prog 136 #[.pointer (some ⟨Q,0,none⟩),.int .u64 d] f fun e i=>∃m g b,e=.returned (.int .u64 (m:Nat))∧lH d r bad m g b∧RkC w f i Q g b:=by
 obtain⟨a,n,c,p,q,j,s,k,l⟩:=h;refine(Xm Q a n c r bad d f p (j.a k) q l).mono ?_
 rintro e i⟨m,g,b,rfl,o,t⟩;exact⟨m,g,b,rfl,o,YR j s k (aG o.le.2 l) t⟩
theorem nD(h:nL w d Q r bad):
  Calls Tryz.prog 137 #[.pointer (some ⟨Q,0,none⟩)] d fun e g=>∃s f b,e=.returned (.string (bs s))∧pu r bad s f b∧RkC w d g Q f b:=by
 obtain⟨a,n,c,m,o,i,p,j,k⟩:=h;refine(qx6 Q a n c r bad d m (i.a j) o k).mono ?_
 rintro e g⟨s,f,b,rfl,l,q⟩;exact⟨s,f,b,rfl,l,YR i p j (aG l.le k) q⟩
set_option synthInstance.maxHeartbeats 400000
set_option synthInstance.maxSize 4000
theorem qaew{ec:α->List Value}{P:Program}{ts:TypeId}{z:Value}{m:Nat}(n:∀x,(ec x).length=sz)(H:0<sz)(o:P.underlying ts=some (.slice t))(a:(P.info? t).map (fun i=>(i.zero,i.size,i.bytes))=some (some z,sz,m))(I:z.cells.size=sz)
  {w:World} {base:Nat} {v:Value} {l:List α} (h:cO sz ec t w base v l) (hb:base<=w.heap.size) (hl:(l.length+1)*m<=140737488355328) (p:l.length+1<=maxLen) (x:α) (b:∀u∈ec x,u.oneCell'=true) (cs:Array Value) (q:cs.toList=ec x):
  ∃g c w',(Builtin.append_ #[ts,ts] ts #[v,.slice (some ⟨w.heap.size,0,none⟩) 1 1]).run P (w.alloc (.cells cs t))=.ok (.slice (some ⟨g,0,none⟩) (l.length+1) c) w'∧
   cO sz ec t w' base (.slice (some ⟨g,0,none⟩) (l.length+1) c) (l++[x])∧Below base w w'∧bF t w w':=by
 obtain⟨f,r⟩:=ak (w.alloc (.cells cs t));have J:∀j u,(ec x)[j]? =some u->f.cell? ((⟨w.heap.size,0,none⟩:Addr).add j)=some u:=by
  intro j u D;have:=World.news_of_block (w:=w.alloc (.cells cs t)) (heap_alloc_new w _) j u (by rw[<-q]at D;simpa using D)
  rw[r];simpa using this
 rw[<-r];have d:ah w f:=by rw[r];exact ae
 obtain⟨K,hi,s,y,A⟩:=info_parts a;have B:f.ownsRow base t sz v l.length (l.flatMap ec):=pI h d;obtain⟨Q,E,L,F,G,_⟩:=run_append_own (P:=P) f base ts ts t K z sz m o hi s y A I H _ _ _ B ⟨w.heap.size,0,none⟩ 1 1 (ec x) (by rw[n];omega) J b p hl (aG hb d.size);have M:Below base w E:=(d.mono hb).grown G (aG hb d.size) fun k N=>(B.lt k N).1
 rcases F.2 with⟨_,C⟩|⟨g,cap,O,C,_⟩
 ·exact absurd C (by omega)
 subst C;refine⟨g,cap,E,L, ?_,M,(bF.below d).trans (VU (l:=l) (ec:=ec) B G)⟩;have e:(l++[x]).flatMap ec=l.flatMap ec++ec x:=by simp
 unfold cO;rw[e,Xa0];exact F
theorem qal8(h:dM w base v S)(hb:base<=w.heap.size)(hl:S.length<=100000){a:aA}{l:List dn}(i:zQ w base (.slice a n c) l):
  ∃g d w',(Builtin.append_ #[34,34] 34 #[v,.slice (some ⟨w.heap.size,0,none⟩) 1 1]).run Tryz.prog (w.alloc (.cells #[.slice a n c] 105))=.ok (.slice (some ⟨g,0,none⟩) (S.length+1) d) w'∧
   dM w' base (.slice (some ⟨g,0,none⟩) (S.length+1) d) (S++[(.slice a n c,l)])∧Below base w w':=by
 obtain⟨g,d,w',j,k,m,e⟩:=qaew (P:=Tryz.prog) Wd (by decide) Tryz.underlying34 Tryz.infoW rfl h.1 hb (by omega) (by unfold maxLen;omega) (.slice a n c,l) (by intro u f;simp[yB]at f;subst f;rfl) #[.slice a n c] rfl;refine⟨g,d,w',j,⟨k,fun p b=>?_⟩,m⟩;rcases Xa5.1 b with b|b
 ·exact cO.keep (h.2 p b) e (by decide)
 obtain rfl:=Xb3.1 b;exact cO.keep i e (by decide)
theorem dM.set1v{B j:Nat}{u:Value}(h:dM w base v S)(a:B<base):dM (w.setCell ⟨B,j,none⟩ u) base v S:=⟨cO.set1v h.1 a,fun p b=>cO.set1v (h.2 p b) a⟩
end Go.Proofs.YtmeaiocohalphaaGreatDoor
