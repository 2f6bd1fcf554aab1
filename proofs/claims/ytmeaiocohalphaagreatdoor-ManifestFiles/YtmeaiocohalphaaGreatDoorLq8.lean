/-
  What the statement ManifestFiles answers.
-/
import Derived.Test.YtmeaiocohalphaaGreatDoorNr2
set_option maxHeartbeats 16000000
set_option maxRecDepth 100000
namespace Go.Proofs.YtmeaiocohalphaaGreatDoor
open Go.RowKit
set_option linter.all false
variable {b r s:az}{R:dL}{base k:Nat}
theorem qzy(a:aA)(n c:Nat)(l s r:az)(w:World)(hl:l.length<=1000000)(b:Rd w (.slice a n c) l)(h:ct l=some (s,r)):
  Calls Tryz.prog 65 #[.slice a n c] w fun e w'=>∃a2 c2,e=.returned (.tuple #[.string (bs s),.slice a2 r.length c2,.int .i64 0])∧fB w' w.heap.size (.slice a2 r.length c2) r∧ah w w':=by
 refine(qwu w (by omega) b).mono ?_
 rintro e w'⟨v,rfl,hv,g⟩;obtain⟨x,rfl,d⟩:=Qq hv;have e1:mr l=bs s:=by unfold mr;rw[h]
 have i:xP l=0:=by unfold xP;rw[h]
 have j:oP l=r:=by unfold oP;rw[h]
 rw[j]at d;rw[e1,i];have f:fB w' w.heap.size x r:=d;obtain⟨a2,c2,rfl⟩:=f.form;exact⟨a2,c2,rfl,d,g⟩
theorem qzz(a:aA)(n c:Nat)(l:az)(w:World)(hl:l.length<=1000000)(b:Rd w (.slice a n c) l)(h:ct l=none):
  Calls Tryz.prog 65 #[.slice a n c] w fun e w'=>∃a2 n2 c2,e=.returned (.tuple #[.string (bs []),.slice a2 n2 c2,.int .i64 8])∧ah w w':=by
 refine(qwu w (by omega) b).mono ?_
 rintro e w'⟨v,rfl,hv,f⟩;obtain⟨x,rfl,g⟩:=Qq hv;have e1:mr l=bs []:=by unfold mr;rw[h];rfl
 have i:xP l=8:=by unfold xP;rw[h]
 rw[e1,i];have d:fB w' w.heap.size x (oP l):=g;obtain⟨a2,c2,rfl⟩:=d.form;exact⟨a2,_,c2,rfl,f⟩
theorem qvr(h:ct b=some (s,r)):b=jc (tx s)↔b.length=128*dX (b.length-r.length)∧∀i (hi:i<r.length),r[i]=0:=by
 have a:=P6 h;have hl:b.length=(tx s).length+r.length:=by rw[a,Xa0]
 have j:=VL (tx s).length;rw[show b.length-r.length=(tx s).length by omega];constructor
 ·intro d
  have e:r=List.replicate (128*dX (tx s).length-(tx s).length) 0:=by
   have c:tx s++r=tx s++List.replicate (128*dX (tx s).length-(tx s).length) 0:=by rw[<-a];exact d
   exact List.append_cancel_left c
  refine⟨by rw[d,VM],fun i hi=>?_⟩;subst e;rw[List.getElem_replicate]
 rintro⟨e,c⟩
 have f:r=List.replicate (128*dX (tx s).length-(tx s).length) 0:=by
  apply List.ext_getElem
  ·rw[Xc1];omega
  intro i g k;rw[c i g,List.getElem_replicate]
 rw[a];show tx s++r=jc (tx s)
 unfold jc;rw[<-f]
theorem Y5(h:ct b=some (s,r))(a:¬b=jc (tx s)):lm b=8∧lq b=fo:=by
 rw[VN h,VO h,if_neg (fun e=>a e.1),if_neg (fun e=>a e.1)];exact⟨rfl,rfl⟩
theorem qal9(h:ct b=some (s,r))(c:b=jc (tx s)):(dx s=0->lm b=0∧lq b=eD s)∧(¬dx s=0->lm b=8∧lq b=fo):=by
 rw[VN h,VO h];exact⟨fun a=>by rw[if_pos ⟨c,a⟩,if_pos ⟨c,a⟩];exact⟨rfl,rfl⟩,fun a=>by rw[if_neg (fun e=>a e.2),if_neg (fun e=>a e.2)];exact⟨rfl,rfl⟩⟩
theorem XA(x:aU)(f:aR)(w:World)(h:iJ w x f)(hw:jq f):
  Calls Tryz.prog 25 #[x.val] w fun e w'=>vL w.heap.size (kF f) (nz f) e w'∧ah w w':=by
 have HX:=ag h;have HW:=ag hw;have q0:ah w (w.alloc (.cells x.cs 33)):=ae;have V:(w.alloc (.cells x.cs 33)).heap.size=w.heap.size+1:=by simp
 obtain⟨K,W⟩:∃K,(w.alloc (.cells x.cs 33)).alloc (.cells #[.slice none 0 0,.int .i64 0,.int .i64 0,.string {data:=#[]}] 36)=K:=⟨_,rfl⟩
 have q1:Below (w.alloc (.cells x.cs 33)).heap.size (w.alloc (.cells x.cs 33)) K:=by rw[<-W];exact ae
 have fD:=ag (show bB K w.heap.size x from(Bq.new w 33 x.cs).a q1);have Nq:=ag (show aQ K (w.heap.size+1) (.slice none 0 0) 0 0 []by rw[<-W,<-V];exact aQ.new _ _ 0 0 []);have bg:=ag (show ah w K from q0.trans (q1.mono (by omega)));obtain⟨k0,k1,k2,k3,k4,k5⟩:=bq fD.o;have a:=qtl x f eO K (HX.o.a bg.o) HW.o;rw[show bs eO={data:=#[99,117,114,114,101,110,116]}from rfl]at a;clear h hw q0 q1 V;unfold aU.val;unfold aU.cs at W;go_enter Tryz.func25,Tryz.ntmps25;go_wp2_with fail
 try rw[W]
 refine a.mono ?_
 rintro e w2⟨v2,rfl,H,L⟩;have Nr:=ag (Nq.o.a L);have X:=ag (bg.o.trans (L.mono bg.o.size));have I8:=ag (And.intro (@Xh f) (@xK f));have Y:=QM f eO;have xJ:=VK f eO;obtain⟨B,hB⟩:=ak ((fM f eO).flatten);rw[<-hB]at H Y I8;have M:=ag (show B.length<=1000000 by omega);obtain⟨E,he⟩:=ak (dB f eO);rw[<-he]at I8⊢;have HR:=ag (fB.rd H);obtain⟨a2,c2,e2⟩:=fB.form H;obtain⟨n2,N⟩:=ak B.length;rw[<-N]at e2;subst e2;have J:=ag N;clear k0 k1 k2 k3 k4 k5 W L a H Y xJ hB he N;by_cases Q:E=0
 case neg=>
  have l:=ag (I8.o.1 Q);have ge:(E==0)=false:=Xe2 Q;have gn:(E !=0)=true:=Xe1 Q;clear Q;obtain⟨R,b,g,n,t,u,y,z,A,C,D,F,Z,z1,z2,z3⟩:=yD Nr X (Nat.le_succ _);go_wp2;try rw[b]
  clear t u y z A C D F b n;refine bodyPost_ret ?_ rfl ⟨mH l,g.o⟩
  simp[results,Tryz.results25,go_sem, *]
 have G:=ag (I8.o.2 Q);subst Q;cases hct:ct B with
 |none=>
  have l:=ag (show nz f=8∧kF f=fo by rw[G.o.1,G.o.2];exact⟨EN hct,qml hct⟩);have a:=qzz a2 n2 c2 B w2 M.o HR.o hct;go_wp2_with fail
  refine a.mono ?_
  rintro e w4⟨a4,n4,c4,rfl,d⟩;have Ns:=ag (Nr.o.a d);have gY:=ag (X.o.trans (d.mono X.o.size));clear a d hct;obtain⟨R,b,g,n,t,u,y,z,A,C,D,F,Z,z1,z2,z3⟩:=yD Ns gY (Nat.le_succ _);go_wp2;try rw[b]
  clear t u y z A C D F b n;refine bodyPost_ret ?_ rfl ⟨mH l,g.o⟩
  simp[results,Tryz.results25,go_sem, *]
 |some p=>
  obtain⟨s,r⟩:=p;have T:=ag hct;have a:=qzy a2 n2 c2 B s r w2 M.o HR.o hct;obtain⟨m,hm⟩:=ak r.length;rw[<-hm]at a;have HM:=ag hm;have nJ:=ag (show m<=n2∧s.length<=1000000 by have h1:=Ru hct;have:=J.o;have:=M.o;omega);clear hct hm;go_wp2_with fail
  refine a.mono ?_
  rintro e w4⟨a4,c4,rfl,fC,d⟩;have Ns:=ag (Nr.o.a d);have gY:=ag (X.o.trans (d.mono X.o.size));have aa:=ag (fB.rd fC);have ab:wrap64 ((n2:Int)-m)=((n2-m:Nat):Int):=by have:=nJ.o;have:=M.o;have:=J.o;unfold wrap64;omega
  obtain⟨q,hq⟩:=ak (dX (n2-m));have Ec:=BD (n2-m) w4 (by have:=M.o;have:=J.o;omega);rw[<-hq]at Ec;have am:q<=10000:=by rw[hq];have:=M.o;have:=J.o;unfold dX;omega
  have HQ:=ag hq;have ac:wrap64 (128*(q:Int))=((128*q:Nat):Int):=by unfold wrap64;omega
  clear a d fC hq am;go_wp2_with fail
  refine Ec.mono ?_
  rintro e R⟨rfl,b⟩;have ad:=b.symm;subst ad;clear b Ec ab;by_cases g2:n2=128*q
  case neg=>
   have l:=ag (show nz f=8∧kF f=fo by
    rw[G.o.1,G.o.2];refine Y5 T.o fun e=>g2 ?_
    have:=((qvr T.o).1 e).1
    rw[J.o,this,HQ.o,J.o,HM.o])
   have g3:(((n2:Nat):Int) !=((128*q:Nat):Int))=true:=by simp only[bne_iff_ne,ne_eq];omega
   have g4:(((n2:Nat):Int)==((128*q:Nat):Int))=false:=by simp only[beq_eq_false_iff_ne,ne_eq];omega
   clear g2;obtain⟨R,b,g,n,t,u,y,z,A,C,D,F,Z,z1,z2,z3⟩:=yD Ns gY (Nat.le_succ _);go_wp2;try rw[b]
   clear t u y z A C D F b n;refine bodyPost_ret ?_ rfl ⟨mH l,g.o⟩
   simp[results,Tryz.results25,go_sem, *]
  have sS:=ag (show B.length=128*dX (B.length-r.length)by rw[<-J.o,<-HM.o,<-HQ.o];exact g2);have g3:(((n2:Nat):Int) !=((128*q:Nat):Int))=false:=by simp only[bne_eq_false_iff_eq];omega
  have g4:(((n2:Nat):Int)==((128*q:Nat):Int))=true:=by simp only[beq_iff_eq];omega
  clear g2;go_wp2;clear g3 g4 ac;have ar:m<=1000000:=by have:=nJ.o;have:=J.o;have:=M.o;omega
  go_loopw [8] (fun i wr=>∃k:Nat,k<=m∧i=.int .i64 k∧af (∀j (hj:j<r.length),j<k->r[j]=0)∧af (Rd wr (.slice a4 m c4) r)∧af (aQ wr (w.heap.size+1) (.slice none 0 0) 0 0 [])∧af (ah w wr)) (fun i _=>m-(intOf i).toNat)
  case atStart=>exact⟨0,Xd5 _,rfl,ag (fun j _ h=>absurd h (by omega)),aa,Ns,gY⟩
  clear aa Ns gY;obtain⟨k,hk,rfl,hZ,hR,Oy,uM⟩:=hrel;by_cases ai:k<m
  ·have aq:(k:Int)<m:=by omega
   obtain⟨bb,ob,an,c⟩:=qxv hR.o k (by rw[<-HM.o];exact ai);subst an;obtain⟨b9,bI⟩:∃b9,b9=r[k]'(by rw[<-HM.o];exact ai):=⟨_,rfl⟩;rw[<-bI]at c;have g:=ag bI;clear bI
   by_cases g5:b9=0
   case neg=>
    have l:=ag (show nz f=8∧kF f=fo by
     rw[G.o.1,G.o.2];refine Y5 T.o fun e=>g5 ?_
     rw[g.o];exact((qvr T.o).1 e).2 k _)
    obtain⟨pv,O⟩:=ak b9.toNat;have av:pv≠0:=fun h0=>g5 (by apply UInt8.toNat_inj.1;rw[<-O,h0];rfl)
    rw[<-O]at c;have g6:(((pv:Nat):Int) !=0)=true:=by simp only[bne_iff_ne,ne_eq];omega
    have g7:(((pv:Nat):Int)==0)=false:=by simp only[beq_eq_false_iff_ne,ne_eq];omega
    clear g5 O g;obtain⟨R,b,tL,n,t,u,y,z,A,C,D,F,Z,z1,z2,z3⟩:=yD Oy uM (Nat.le_succ _);go_wp2;try rw[b]
    clear t u y z A C D F b n;refine bodyPost_ret ?_ rfl ⟨mH l,tL.o⟩
    simp[results,Tryz.results25,go_sem, *]
   subst g5;have HN:=ag (show ∀j (hj:j<r.length),j<k+1->r[j]=0 from fun j hj h1=>by
    by_cases h2:j<k
    ·exact hZ.o j hj h2
    obtain rfl:j=k:=by omega
    exact g.o.symm)
   rw[show((0:UInt8).toNat)=0 from rfl]at c;try simp only[Int.natCast_zero,Int.ofNat_zero,Int.cast_ofNat_Int]at c
   clear hZ;go_wp2;go_roundw
   case rel=>exact⟨k+1,by omega,by go_num,HN,hR,Oy,uM⟩
   simp only[intOf];omega
  have hd:decide ((k:Int)<m)=false:=aC (by omega);have ao:=ag (show B=jc (tx s)from(qvr T.o).2 ⟨sS.o,fun i hi=>hZ.o i hi (by rw[<-HM.o]at hi;omega)⟩);have P:=ag (qal9 T.o ao.o);clear hZ hR;obtain⟨a7,c7,w7,aj,r7,bE⟩:=I7 s wr nJ.o.2;have Y6:=ag (Oy.o.a bE);have qD:=ag (uM.o.trans (bE.mono uM.o.size));have a:=qaih a7 s.length c7 s w7 r7 rfl;obtain⟨RE,yI⟩:=ak (dx s);obtain⟨⟨L4,nx,sq,lg⟩,Dr⟩:=ak (eD s);rw[<-yI,<-Dr]at a P;clear bE r7 yI Dr;go_wp2_with (refine qj8 rfl (.tmp 53) 9 23 rfl rfl aj ?_)
  refine a.mono ?_
  rintro e w8⟨⟨v8,S,rfl,ho,al⟩,cZ⟩;have Y7:=ag (Y6.o.a cZ);have wZ:=ag (qD.o.trans (cZ.mono qD.o.size));obtain⟨a8,c8,e8⟩:=cO.form ho.1;obtain⟨n8,iw⟩:=ak S.length;rw[<-iw]at e8;subst e8;obtain⟨w5,xx⟩:=au (w8.alloc (.cells #[.slice a8 n8 c8,.int .i64 nx,.int .i64 sq,.string (bs lg)] 36));have I:ah w8 w5:=by rw[<-xx];exact ae
  have JF:=ag (Y7.o.a I);have BA:=ag (wZ.o.trans (I.mono wZ.o.size));have ap:=ag (show aQ w5 w8.heap.size (.slice a8 n8 c8) nx sq lg by rw[<-xx];exact aQ.new w8 _ nx sq lg);have zM:=ag ((ho.a I).mono qD.o.size);have Gx:=ag al;clear a aj cZ I ho al iw;by_cases U:RE=0
  case neg=>
   have l:=ag (show nz f=8∧kF f=fo by rw[G.o.1,G.o.2];exact P.o.2 U);have g6:(RE !=0)=true:=Xe1 U;have g7:(RE==0)=false:=Xe2 U;clear U;obtain⟨R,b,g,n,t,u,y,z,A,C,D,F,Z,z1,z2,z3⟩:=yD JF BA (Nat.le_succ _);go_wp2;try rw[xx]
   try rw[b]
   clear t u y z A C D F b n;refine bodyPost_ret ?_ rfl ⟨mH l,g.o⟩
   simp[results,Tryz.results25,go_sem, *]
  have l:=ag (show nz f=0∧kF f=(L4,nx,sq,lg)by rw[G.o.1,G.o.2];exact P.o.1 U);subst U;obtain⟨y0,y1,y2,y3⟩:=ap.o.cells;obtain⟨R,b,g,n,t,u,y,z,A,C,D,F,Z,z1,z2,z3⟩:=CZ JF BA (Nat.le_succ _) (.slice a8 n8 c8) nx sq lg;have iU:=ag (zM.o.keepV n);go_wp2;try rw[xx]
  try rw[b]
  clear t u y z A C D F b n;refine bodyPost_ret (v:=.tuple #[.agg #[.slice a8 n8 c8,.int .i64 nx,.int .i64 sq,.string (bs lg)],.int .i64 0]) ?_ rfl ⟨by rw[l.o.1,l.o.2];exact⟨_,S,rfl,iU.o,Gx.o⟩,g.o⟩
  simp[results,Tryz.results25,go_sem, *]
set_option synthInstance.maxHeartbeats 400000
set_option synthInstance.maxSize 4000
def zi (R R2:dL) (k:Nat):Prop:=∀j,(h:j<R.length)->(h2:j<R2.length)->j<k->(R[j]).2=(R2[j]).2
theorem zi.next{a:dL}(h:zi R a k)(g:k<R.length)(c:k<a.length)(e:(R[k]).2=(a[k]).2):zi R a (k+1):=by
 intro j d b f;rcases Nat.lt_or_ge j k with q|q
 ·exact h j d b q
 obtain rfl:j=k:=by omega
 exact e
theorem zi.all{b:dL}(h:zi R b R.length)(d:R.length=b.length):aT R=aT b:=by
 refine List.ext_getElem (by rw[jM,jM,d]) fun i a c=>?_
 rw[jM]at a c;rw[yC a,yC c];exact h i a c a
theorem Oz{b:dL}(c:k<R.length)(a:k<b.length)(e:(R[k]).2≠(b[k]).2):aT R≠aT b:=by
 intro h;refine e ?_
 have d:(aT R)[k]? =(aT b)[k]?:=by rw[h]
 rw[List.getElem?_eq_getElem (by rw[jM];exact c),List.getElem?_eq_getElem (by rw[jM];exact a),yC c,yC a]at d;exact Option.some.inj d
theorem qaij(a:aA)(n c:Nat)(R:dL)(nx sq:Int)(lg:az)(a2:aA)(n2 c2:Nat)(l:dL)(y u:Int)(q:az)(w:World)(A:gM w (.slice a n c) R)(Aw:gM w (.slice a2 n2 c2) l)(hn:n<=1000)(hT:(aT R).flatten.length<=100000):
  Calls Tryz.prog 27 #[.agg #[.slice a n c,.int .i64 nx,.int .i64 sq,.string (bs lg)],.agg #[.slice a2 n2 c2,.int .i64 y,.int .i64 u,.string (bs q)]] w fun e w'=>e=.returned (.bool (decide ((aT R,nx,sq,lg)=(aT l,y,u,q))))∧ah w w':=by
 have W:=ag A.len;have jy:=ag Aw.len;have HR:=ag A;have aa:=ag Aw;obtain⟨H,d⟩:=ak (w.alloc (.cells #[.slice a n c,.int .i64 nx,.int .i64 sq,.string (bs lg)] 36));have N:ah w H:=by rw[d];exact ae
 have hs1:H.heap.size=w.heap.size+1:=by rw[d];simp
 have lQ:=ag (show aQ H w.heap.size (.slice a n c) nx sq lg by rw[d];exact aQ.new w _ nx sq lg);have C:=ag N;have yF:=ag hT;obtain⟨O,f⟩:=ak (H.alloc (.cells #[.slice a2 n2 c2,.int .i64 y,.int .i64 u,.string (bs q)] 36));have D:ah H O:=by rw[f];exact ae
 have uJ:=ag (lQ.o.a D);have Qw:=ag (show aQ O (w.heap.size+1) (.slice a2 n2 c2) y u q by rw[f,<-hs1];exact aQ.new H _ _ _ _);have g:=ag (C.o.trans (D.mono C.o.size));clear N hs1 D lQ C A Aw hT;obtain⟨I,J,K,L⟩:=uJ.o.cells;obtain⟨u0,u1,u2,u3⟩:=Qw.o.cells;rw[f,d]at I J K L u0 u1 u2 u3;by_cases e1:nx=y
 rotate_left
 ·skip
  have d1:(nx !=y)=true:=Xe1 e1;have E:=ag (show decide ((aT R,nx,sq,lg)=(aT l,y,u,q))=false from Xd7 (fun e=>e1 (congrArg (fun V:lJ=>V.2.1) e)));go_enter Tryz.func27,Tryz.ntmps27;go_wp2;rw[<-d,<-f];clear d f;go_ret;exact⟨fH E.o.symm,g.o⟩
 subst e1;have d1:(nx !=nx)=false:=by simp
 by_cases e2:sq=u
 rotate_left
 ·skip
  have d2:(sq !=u)=true:=Xe1 e2;have E:=ag (show decide ((aT R,nx,sq,lg)=(aT l,nx,u,q))=false from Xd7 (fun e=>e2 (congrArg (fun V:lJ=>V.2.2.1) e)));go_enter Tryz.func27,Tryz.ntmps27;go_wp2;rw[<-d,<-f];clear d f;go_ret;exact⟨fH E.o.symm,g.o⟩
 subst e2;have d2:(sq !=sq)=false:=by simp
 by_cases e3:lg=q
 rotate_left
 ·skip
  have Z:=QP lg q;rw[Xd7 e3]at Z;have E:=ag (show decide ((aT R,nx,sq,lg)=(aT l,nx,sq,q))=false from Xd7 (fun e=>e3 (congrArg (fun V:lJ=>V.2.2.2) e)));go_enter Tryz.func27,Tryz.ntmps27;go_wp2;rw[<-d,<-f];clear d f;go_ret;exact⟨fH E.o.symm,g.o⟩
 subst e3;have Z:=QP lg lg;rw[Xd8 rfl]at Z;by_cases e4:n=n2
 rotate_left
 ·skip
  have d4:((n:Int) !=n2)=true:=by simpa using(by omega:¬(n:Int)=n2)
  have E:=ag (show decide ((aT R,nx,sq,lg)=(aT l,nx,sq,lg))=false from Xd7 (fun e=>e4 (by rw[W.o,jy.o,<-jM R,<-jM l];exact congrArg (fun V:lJ=>V.1.length) e)));go_enter Tryz.func27,Tryz.ntmps27;go_wp2;rw[<-d,<-f];clear d f;go_ret;exact⟨fH E.o.symm,g.o⟩
 subst e4;have d4:((n:Int) !=n)=false:=by simp
 have Ib:=ag (fun h:aT R=aT l=>(Xd8 (show(aT R,nx,sq,lg)=(aT l,nx,sq,lg)by rw[h])));have vJ:=ag (fun (h:aT R≠aT l)=>Xd7 (show ¬(aT R,nx,sq,lg)=(aT l,nx,sq,lg)from fun e=>h (congrArg (fun V:lJ=>V.1) e)));have Jb:=ag (show R.length=l.length by rw[<-W.o,<-jy.o]);obtain⟨B,hB⟩:=ak (decide ((aT R,nx,sq,lg)=(aT l,nx,sq,lg)));rw[<-hB]at Ib vJ⊢;clear hB;go_enter Tryz.func27,Tryz.ntmps27;go_wp2_with fail
 rw[<-d,<-f];clear d f I J K L u0 u1 u2 u3 d1 d2 Z;go_loopw [5] (fun i wr=>∃k:Nat,k<=n∧i=.int .i64 k∧af (zi R l k)∧af (ah O wr)) (fun i _=>n-(intOf i).toNat)
 case atStart=>exact⟨0,Xd5 _,rfl,ag (fun j _ _ h=>by omega),ag aF⟩
 obtain⟨k,hk,rfl,r,M⟩:=hrel;have ES:=uJ.o.a M.o;obtain⟨I,J,K,L⟩:=ES.cells;by_cases ad:k<n
 ·have ac:(k:Int)<n:=by omega
  have s:k<R.length:=by have:=W.o;omega
  have OB:k<l.length:=by have:=Jb.o;omega
  have uI:=ag (g.o.trans (M.o.mono g.o.size));obtain⟨b,t,ax,nx',cx,rfl,q0,mG,P⟩:=HR.o.cells uI.o k s;obtain⟨b2,Av,ay,F,cy,rfl,p0,G,Q⟩:=aa.o.cells uI.o k OB;have S:(R[k]).2.length<=1000000:=by have:=Wj s;have:=yF.o;omega
  have jb:=ag (fun e=>r.o.next s OB e);have Be:=ag (fun e=>vJ.o (Oz s OB e));obtain⟨X,hX⟩:=ak ((R[k]).2);obtain⟨Y,hY⟩:=ak ((l[k]).2);rw[<-hX]at mG P S jb Be;rw[<-hY]at G Q jb Be;clear hX hY r;have YD:=ag mG;have ab:=ag G;have HC:=ag (fun m (hb:ah w m)=>Qm ax nx' cx X ay F cy Y m S (YD.o.a hb) (ab.o.a hb));obtain⟨z,hz⟩:=ak (decide (X=Y));rw[<-hz]at HC;have yZ:=ag (fun h:z=true=>jb.o (of_decide_eq_true (hz.symm.trans h)));have ut:=ag (fun h:z=false=>Be.o (of_decide_eq_false (hz.symm.trans h)));clear hz jb Be mG G P Q;have T:=Qw.o.a M.o;have hK:aN (fun m=>aQ m w.heap.size (.slice (some ⟨b,t,none⟩) n c) nx sq lg∧aQ m (w.heap.size+1) (.slice (some ⟨b2,Av,none⟩) n c2) nx sq lg∧m.cell? ⟨b,t+k,none⟩=some (.slice ax nx' cx)∧m.cell? ⟨b2,Av+k,none⟩=some (.slice ay F cy)∧ah w m∧ah O m):=fun u1 u2 h hb=>⟨h.1.a hb,h.2.1.a hb,by rw[hb.cell (Xa6 u1 _ h.2.2.1)];exact h.2.2.1,by rw[hb.cell (Xa6 u1 _ h.2.2.2.1)];exact h.2.2.2.1,h.2.2.2.2.1.trans (hb.mono h.2.2.2.2.1.size),h.2.2.2.2.2.trans (hb.mono h.2.2.2.2.2.size)⟩
  have U:aQ wr w.heap.size (.slice (some ⟨b,t,none⟩) n c) nx sq lg∧aQ wr (w.heap.size+1) (.slice (some ⟨b2,Av,none⟩) n c2) nx sq lg∧wr.cell? ⟨b,t+k,none⟩=some (.slice ax nx' cx)∧wr.cell? ⟨b2,Av+k,none⟩=some (.slice ay F cy)∧ah w wr∧ah O wr:=⟨ES,T,q0,p0,uI.o,M.o⟩;clear M uI;go_wp2_with fail
  refine iH hK (by kernel_rfl) U ?_
  intro x;clear U ES T q0 p0 I J K L;generalize wr.drew=wd at *;refine rP [0,1,2,3,4,5,6,7,8,9] 2 ?qsa1 ?qsp1 x ?qsn1
  case qsp1=>
   iterate 10 (apply Yl.cons rfl (by kernel_rfl);focus (rintro m⟨hv,hu,hq,hp,_⟩;obtain⟨I,J,K,L⟩:=hv.cells;obtain⟨u0,u1,u2,u3⟩:=hu.cells;go_simp<;>rfl);try simp only[aB])
   exact Yl.nil
  refine J8 hK (i:=10) (v:=.bool z) rfl (by kernel_rfl) (by kernel_rfl) (by go_simp) x (HC.o _ x.2.2.2.2.1) ?_
  clear x;intro ai x;try simp only[aB]
  refine rP [11] 0 ?qsa2 ?qsp2 x ?qsn2
  case qsp2=>
   iterate 1 (apply Yl.cons rfl (by kernel_rfl);focus (rintro m⟨hv,hu,hq,hp,_⟩;obtain⟨I,J,K,L⟩:=hv.cells;obtain⟨u0,u1,u2,u3⟩:=hu.cells;go_simp<;>rfl);try simp only[aB])
   exact Yl.nil
  refine rD ?_
  try simp only[aB]
  have qL:=ag x.2.2.2.2;clear x hK HC;cases z with
  |true=>
   have p:=ag (yZ.o rfl);clear yZ ut;go_wp2;go_roundw
   case rel=>exact⟨k+1,by omega,by go_num,p,ag qL.o.2⟩
   simp only[intOf];omega
  |false=>
   have p:=ag (ut.o rfl);clear yZ ut;go_wp2;go_ret;exact⟨fH p.o.symm,qL.o.1⟩
 have hd:decide ((k:Int)<n)=false:=aC (by omega);have p:=ag (Ib.o (zi.all (by
   have e:k=R.length:=by have:=W.o;omega
   rw[<-e];exact r.o) Jb.o))
 have dG:=ag (g.o.trans (M.o.mono g.o.size));clear r ES;go_wp2;go_ret;exact⟨fH p.o.symm,dG.o⟩
set_option synthInstance.maxHeartbeats 400000
set_option synthInstance.maxSize 4000
theorem qz0{b wr:World}{n c:Nat}{a:aA}{l:az}(f:bG b base (.slice a n c) l)(j:Turned b wr)(p:Below base b wr)(k:Nat)(t:k<n):
  ∃(g:Nat) (m h:Int),a=some ⟨g,0,none⟩∧wr.cell? ⟨g,k,none⟩=some (.int .u8 m)∧wr.frozen? ⟨g,k,none⟩=false∧IntKind.u8.wrap (m+1)=h∧
   af (Turned b (wr.setCell ⟨g,k,none⟩ (.int .u8 h))∧Below base b (wr.setCell ⟨g,k,none⟩ (.int .u8 h))):=by
 have u:=f.len';rcases id f with⟨_,⟨_,v⟩|⟨g,cap,q,e,r,_⟩⟩
 ·omega
 cases e;obtain⟨o,d⟩:=f.turned j;have s:=d.len';have i:k<o.length:=by omega
 refine⟨g,(o[k]).toNat,_,rfl,d.at k i,d.fz k,I1 _, ?_, ?_⟩
 ·exact j.trans (Turned.set d k _)
 exact p.setCell r _
theorem qaex(x:aU)(f:aR)(w:World)(h:iJ w x f)(a:(f.1.1.length<=140737488355328∧f.1.2.1.length<=1000000∧f.1.2.2.length<=1000000)∧f.2.2.1.length<=1000∧(∀g∈f.2.2.1,g.2.length<=1000000)∧f.2.2.2.length<=1000∧∀g∈f.2.2.2,g.2.length<=1000000)(b:(∀p∈f.1.2.1,p.2.length<=140737488355328)∧∀p∈f.1.2.2,p.2.2.length<=140737488355328):
  Calls Tryz.prog 20 #[x.val] w fun e w'=>∃v,e=.returned v∧bH w' w.heap.size v f∧ah w w':=(vG x f w h a b).mono fun e w' ⟨y,h1,h2,h3⟩=>⟨y.val,h1,h2,h3⟩
theorem bH.data17{w:World}{x:aU}{f:aR}(h:bH w base x.val f):bG w base (.slice x.a1 x.n1 x.c1) f.1.1:=by
 obtain⟨d1,d2,d,u,v,e,a,_,_⟩:=h;simp[aU.val]at e;obtain⟨g,i,j,b,c,_,_⟩:=a;simp at b
 rw[e.1,b.1];exact c
theorem qjq(x:aU)(f:aR)(s:az)(ab:aA)(T cb:Nat)(b:az)(sz:Int)(a:aA)(n c:Nat)(R:dL)(nx sq:Int)(lg:az)(w:World)(h:iJ w x f)(hw:jq f)(hs:(∀g∈f.2.2.1,g.2.length<=140737488355328)∧∀g∈f.2.2.2,g.2.length<=140737488355328)(ar:(∀p∈f.1.2.1,p.2.length<=140737488355328)∧∀p∈f.1.2.2,p.2.2.length<=140737488355328)(av:Rd w (.slice ab T cb) b)(ax:T=b.length)(ay:-9223372036854775808<=sz∧sz<=9223372036854775807)(aD:gM w (.slice a n c) R):
  Calls Tryz.prog 4 #[x.val,.string (bs s),.slice ab T cb,.int .i64 sz,.agg #[.slice a n c,.int .i64 nx,.int .i64 sq,.string (bs lg)]] w fun e w'=>e=.returned (.bool true)∧ah w w':=by
 have U:=ag h;have S:=ag hw;have kv:=ag hs;have Na:=ag aD;have fu:=ag av;have QU:=ag ax;have e6:=ag ar;have aE:=ag ay;clear av ax ar ay;obtain⟨u1,rY⟩:=au (w.alloc (.cells x.cs 33));have q1:ah w u1:=by rw[<-rY];exact ae
 have z1:u1.heap.size=w.heap.size+1:=by rw[<-rY];simp
 obtain⟨w1,xE⟩:=au (u1.alloc (.cells #[.slice a n c,.int .i64 nx,.int .i64 sq,.string (bs lg)] 36));have q2:ah u1 w1:=by rw[<-xE];exact ae
 have pE:=ag (show bB w1 w.heap.size x from(show bB u1 w.heap.size x by rw[<-rY];exact Bq.new w 33 x.cs).a q2);have OC:=ag (show aQ w1 (w.heap.size+1) (.slice a n c) nx sq lg by rw[<-xE,<-z1];exact aQ.new u1 _ nx sq lg);have bg:=ag (show ah w w1 from q1.trans (q2.mono (by omega)));clear h hw hs aD q1 q2;unfold aU.val;unfold aU.cs at rY;go_enter Tryz.func4,Tryz.ntmps4;obtain⟨A,B,C,E,F,G⟩:=bq pE.o;have j:=qzp x f w1 (U.o.a bg.o) ⟨fun g W=>by have:=kv.o.1 g W;omega,fun g W=>by have:=kv.o.2 g W;omega⟩;have m:=ag j;clear j;go_wp2_with fail
 try rw[rY]
 try rw[xE]
 try rw[z1]
 refine m.o.mono ?_
 rintro e w2⟨r,rfl,Tz,d⟩;have mO:=ag (pE.o.a d);have Y8:=ag (OC.o.a d);have aY:=vP bg d;clear m d A B C E F G;try clear rY
 try clear xE
 try clear z1
 cases r with
 |true=>
  go_wp2;go_ret;exact⟨rfl,aY.o⟩
 |false=>
 have X:=ag (Tz rfl);clear Tz;obtain⟨Y9,Za,Zb,Zc⟩:=Y8.o.cells;have j:=qad7 a n c R nx sq lg w2 (Na.o.a aY.o);have m:=ag j;clear j;go_wp2_with fail
 refine m.o.mono ?_
 rintro e w3⟨r,rfl,hr,d⟩;have EQ:=ag (mO.o.a d);have OD:=ag (Y8.o.a d);have df:=vP aY d;clear m d Y9 Za Zb Zc;cases r with
 |true=>
  go_wp2;go_ret;exact⟨rfl,df.o⟩
 |false=>
 obtain⟨Dt,hF⟩:=hr.o rfl;have HF:=ag hF;have Zd:=ag Dt;clear hr hF Dt;by_cases g2:10000<s.length
 ·have Y:(10000:Int)<(s.length:Int):=by omega
  have aH:(10000:Int)<((bs s).size:Int):=by rw[rf];omega
  go_wp2;go_ret;exact⟨rfl,df.o⟩
 have Y:decide ((10000:Int)<(s.length:Int))=false:=Xd7 (by omega);have aH:decide ((10000:Int)<((bs s).size:Int))=false:=by rw[rf];exact Y
 clear g2;by_cases g3:20000<T
 ·have aJ:(20000:Int)<T:=by omega
  go_wp2;go_ret;exact⟨rfl,df.o⟩
 have aJ:decide ((20000:Int)<T)=false:=Xd7 (by omega);have qU:=ag (show b.length<=20000 by have:=QU.o;omega);clear g3;obtain⟨A,B,C,E,F,G⟩:=bq EQ.o;have j:=qaex x f w3 (U.o.a df.o) ⟨⟨by have:=X.o.1.1;omega,by have:=X.o.1.2.1;omega,by have:=X.o.1.2.2;omega⟩,aG X.o.2.1.1 (by decide),fun g W=>aG (X.o.2.1.2.2 g W).1 (by decide),aG X.o.2.2.1 (by decide),fun g W=>aG (X.o.2.2.2.2 g W).1 (by decide)⟩ e6.o;have m:=ag j;clear j;go_wp2_with fail
 refine m.o.mono ?_
 rintro e w4⟨v9,rfl,t,d⟩;have Nz:=ag (EQ.o.a d);have OE:=ag (OD.o.a d);have gY:=vP df d;clear m d A B C E F G Y aH aJ;obtain⟨Z,I,J,u⟩:=t.bx;subst I;have OG:=ag (u.mono df.o.size);clear t J u;obtain⟨w5,xx⟩:=au (w4.alloc (.cells Z.cs 33));have l:ah w4 w5:=by rw[<-xx];exact ae
 have NR:=ag (Nz.o.a l);have OH:=ag (OE.o.a l);have OI:=ag (OG.o.a l);have BA:=vP gY l;have OJ:=ag (show bB w5 w4.heap.size Z by rw[<-xx];exact Bq.new _ _ _);clear l;unfold aU.cs at xx;unfold aU.val;obtain⟨ia,e7,ic,wi,aa,H,v,y, -⟩:=EF (fB.nil w5 w5.heap.size) aL (fu.o.a BA.o) (by have h1:=qU.o;simp only[List.length_nil];omega);rw[List.nil_append]at aa v;have Ze:=ag (NR.o.a y);have OL:=ag (OH.o.a y);have OM:=ag (OI.o.a y);have OO:=ag (OJ.o.a y);have BK:=vP BA y;have JH:=ag (v.mono BA.o.size);have AB:=ag aa.o;have Zf:=ag (lu.refl wi);clear v y aa;obtain⟨⟨G1,E1⟩,h1⟩:∃D:aR×Int,D=mE f s b:=⟨_,rfl⟩;have ol:=ag h1;obtain⟨E2,h2⟩:=ak (nU f s sz);have aK:=ag h2;obtain⟨Q2,h3⟩:=ak (tV f s sz);have oQ:=ag h3;obtain⟨V,hV⟩:=ak ((aT R,nx,sq,lg));have xB:=ag hV;obtain⟨⟨G3,E3⟩,h4⟩:∃D:aR×Int,D=nV f V:=⟨_,rfl⟩;have AZ:=ag h4;obtain⟨I4,h5⟩:=ak (nz f);have aM:=ag h5;obtain⟨⟨Li,K,L,M⟩,h6⟩:=ak (kF f);have ac:=ag h6;obtain⟨⟨Lj,N,O,P⟩,h7⟩:=ak (kF f);have aO:=ag h7;clear h1 h2 h3 h4 h5 h6 h7 hV;obtain⟨OP,OQ,OT,OU,OV,OW⟩:=bq OO.o;have j:=qxw Z f s ia e7 ic b wi OM.o.rdx S.o JH.o.rd AB.o;rw[<-ol.o]at j
 try dsimp only at j
 have m:=ag j;clear j;go_wp2_with (first|(at_builtin;refine xw rfl (.const (.slice none 0 0)) (.tmp 49) 23 rfl rfl rfl rfl (by first|exact H|(rw[xx];exact H)) ?_)|fail)
 try rw[xx]
 refine m.o.mono ?_
 rintro e w6⟨v9,rfl,t,d⟩;have e8:=ag (Ze.o.a d);have OX:=ag (OL.o.a d);have OY:=ag (OM.o.a d);have OZ:=ag (OO.o.a d);have Zg:=ag (Zf.o.a d);have BB:=vP BK d;clear m d OP OQ OT OU OV OW;try clear xx
 clear H;have O0:=ag t;obtain⟨q,I,J,u⟩:=t.bx;subst I;have O4:=ag (u.mono BK.o.size);clear t J u;obtain⟨w7,Bc⟩:=au (w6.alloc (.cells q.cs 33));have l:ah w6 w7:=by rw[<-Bc];exact ae
 have aS:=ag (e8.o.a l);have O5:=ag (OX.o.a l);have O6:=ag (OY.o.a l);have O7:=ag (OZ.o.a l);have Zh:=ag (Zg.o.a l);have O8:=ag (O0.o.a l);have O9:=ag (O4.o.a l);have qD:=vP BB l;have Pb:=ag (show bB w7 w6.heap.size q by rw[<-Bc];exact Bq.new _ _ _);clear l;unfold aU.cs at Bc;unfold aU.val;obtain⟨A,B,C,E,F,G⟩:=bq aS.o;have j:=qtw x f s ab T cb b w7 (U.o.a qD.o) S.o (fu.o.a qD.o) QU.o (by have:=qU.o;omega);rw[<-ol.o]at j;try dsimp only at j
 have m:=ag j;clear j;go_wp2_with fail
 try rw[Bc]
 refine m.o.mono ?_
 rintro e w8⟨v9,rfl,t,d⟩;have Pd:=ag (aS.o.a d);have Pe:=ag (O5.o.a d);have Pf:=ag (O6.o.a d);have Pg:=ag (O7.o.a d);have Zi:=ag (Zh.o.a d);have Ph:=ag (O8.o.a d);have Pi:=ag (O9.o.a d);have Pj:=ag (Pb.o.a d);have wZ:=vP qD d;clear m d A B C E F G;try clear Bc
 obtain⟨xc,I,J,u⟩:=t.bx;subst I;have Pk:=ag (u.mono qD.o.size);clear t J u;obtain⟨w9,BI⟩:=au (w8.alloc (.cells xc.cs 33));have l:ah w8 w9:=by rw[<-BI];exact ae
 have Pm:=ag (Pd.o.a l);have Pn:=ag (Pe.o.a l);have Zj:=ag (Pf.o.a l);have Zk:=ag (Pg.o.a l);have JI:=ag (Zi.o.a l);have Po:=ag (Ph.o.a l);have Pp:=ag (Pi.o.a l);have Pq:=ag (Pj.o.a l);have Ps:=ag (Pk.o.a l);have Og:=vP wZ l;have Pt:=ag (show bB w9 w8.heap.size xc by rw[<-BI];exact Bq.new _ _ _);clear l;unfold aU.cs at BI;unfold aU.val;obtain⟨OP,OQ,OT,OU,OV,OW⟩:=bq Zk.o;have j:=qx4 Z f s sz w9 Zj.o.rdx S.o aE.o.1 aE.o.2;rw[<-aK.o,<-oQ.o]at j;try dsimp only at j
 have m:=ag j;clear j;go_wp2_with fail
 try rw[BI]
 refine m.o.mono ?_
 rintro e tJ⟨vp,rfl,ad,d⟩;have Zl:=ag (Pm.o.a d);have aW:=ag (Pn.o.a d);have a0:=ag (Zj.o.a d);have a6:=ag (Zk.o.a d);have Pv:=ag (JI.o.a d);have a7:=ag (Po.o.a d);have a8:=ag (Pp.o.a d);have a9:=ag (Pq.o.a d);have ba:=ag (Ps.o.a d);have bb:=ag (Pt.o.a d);have Cr:=vP Og d;clear m d OP OQ OT OU OV OW;try clear BI
 obtain⟨ap,cp,ep⟩:=ad.form;obtain⟨np,bc⟩:=ak Q2.length;rw[<-bc]at ep;subst ep;have bd:=ag (ad.mono (lu.size JI.o));clear ad bc;obtain⟨A,B,C,E,F,G⟩:=bq Zl.o;have j:=qaeh x f s sz tJ (U.o.a Cr.o) S.o;rw[<-aK.o,<-oQ.o]at j;try dsimp only at j
 have m:=ag j;clear j;go_wp2_with fail
 refine m.o.mono ?_
 rintro e uO⟨vq,rfl,al,d⟩;have be:=ag (Zl.o.a d);have Zm:=ag (aW.o.a d);have Zn:=ag (a0.o.a d);have Zo:=ag (a6.o.a d);have Pw:=ag (Pv.o.a d);have bh:=ag (a7.o.a d);have bl:=ag (a8.o.a d);have bm:=ag (a9.o.a d);have bn:=ag (ba.o.a d);have bo:=ag (bb.o.a d);have bp:=ag (bd.o.a d);have FP:=vP Cr d;clear m d A B C E F G;obtain⟨aw,cw,ew⟩:=Bd al;obtain⟨nw,br⟩:=ak Q2.length;rw[<-br]at ew;subst ew;have bt:=ag al;clear al br;obtain⟨OP,OQ,OT,OU,OV,OW⟩:=bq Zo.o;obtain⟨Y9,Za,Zb,Zc⟩:=Zm.o.cells;have j:=qali Z f a n c R nx sq lg uO Zn.o.rdx S.o (Na.o.a FP.o) (by have:=Zd.o;omega) (by have:=HF.o;omega);rw[<-xB.o,<-AZ.o]at j;try dsimp only at j
 have m:=ag j;clear j;go_wp2_with fail
 refine m.o.mono ?_
 rintro e Af⟨v9,rfl,t,d⟩;have bu:=ag (be.o.a d);have bv:=ag (Zm.o.a d);have bw:=ag (Zn.o.a d);have bz:=ag (Zo.o.a d);have Px:=ag (Pw.o.a d);have bC:=ag (bh.o.a d);have bE:=ag (bl.o.a d);have bI:=ag (bm.o.a d);have bJ:=ag (bn.o.a d);have bN:=ag (bo.o.a d);have bR:=ag (bp.o.a d);have bV:=ag (bt.o.a d);have QD:=vP FP d;clear m d OP OQ OT OU OV OW Y9 Za Zb Zc;obtain⟨xg,I,J,u⟩:=t.bx;subst I;have bW:=ag (u.mono FP.o.size);clear t J u;obtain⟨Xd,Ed⟩:=au (Af.alloc (.cells xg.cs 33));have l:ah Af Xd:=by rw[<-Ed];exact ae
 have Zp:=ag (bu.o.a l);have b0:=ag (bv.o.a l);have b1:=ag (bw.o.a l);have b2:=ag (bz.o.a l);have Py:=ag (Px.o.a l);have b3:=ag (bC.o.a l);have b4:=ag (bE.o.a l);have b5:=ag (bI.o.a l);have b6:=ag (bJ.o.a l);have b7:=ag (bN.o.a l);have b8:=ag (bR.o.a l);have b9:=ag (bV.o.a l);have ca:=ag (bW.o.a l);have Q:=vP QD l;have cc:=ag (show bB Xd Af.heap.size xg by rw[<-Ed];exact Bq.new _ _ _);clear l;unfold aU.cs at Ed;unfold aU.val;obtain⟨A,B,C,E,F,G⟩:=bq Zp.o;obtain⟨Y9,Za,Zb,Zc⟩:=b0.o.cells;have j:=WF x f a n c R nx sq lg Xd (U.o.a Q.o) S.o (Na.o.a Q.o) (by have:=Zd.o;omega) (by have:=HF.o;omega);rw[<-xB.o,<-AZ.o]at j;try dsimp only at j
 have m:=ag j;clear j;go_wp2_with fail
 try rw[Ed]
 refine m.o.mono ?_
 rintro e BC⟨v9,rfl,t,d⟩;have cd:=ag (Zp.o.a d);have ce:=ag (b1.o.a d);have cf:=ag (b2.o.a d);have Pz:=ag (Py.o.a d);have cg:=ag (b3.o.a d);have ch:=ag (b4.o.a d);have ck:=ag (b5.o.a d);have cl:=ag (b6.o.a d);have cm:=ag (b7.o.a d);have cn:=ag (b8.o.a d);have co:=ag (b9.o.a d);have cq:=ag (ca.o.a d);have cr:=ag (cc.o.a d);have fa:=vP Q d;clear m d A B C E F G Y9 Za Zb Zc;try clear Ed
 obtain⟨xh,I,J,u⟩:=t.bx;subst I;have cv:=ag (u.mono Q.o.size);clear t J u;obtain⟨ME,Ee⟩:=au (BC.alloc (.cells xh.cs 33));have l:ah BC ME:=by rw[<-Ee];exact ae
 have cx:=ag (cd.o.a l);have cy:=ag (ce.o.a l);have cA:=ag (cf.o.a l);have PD:=ag (Pz.o.a l);have cC:=ag (cg.o.a l);have cD:=ag (ch.o.a l);have cE:=ag (ck.o.a l);have cF:=ag (cl.o.a l);have cG:=ag (cm.o.a l);have cH:=ag (cn.o.a l);have cI:=ag (co.o.a l);have cJ:=ag (cq.o.a l);have cK:=ag (cr.o.a l);have cL:=ag (cv.o.a l);have cM:=vP fa l;have cN:=ag (show bB ME BC.heap.size xh by rw[<-Ee];exact Bq.new _ _ _);clear l;unfold aU.cs at Ee;unfold aU.val;obtain⟨OP,OQ,OT,OU,OV,OW⟩:=bq cA.o;have j:=qalp Z f ME cy.o.rdx S.o;rw[<-ac.o,<-aM.o]at j;have m:=ag j;clear j;go_wp2_with fail
 try rw[Ee]
 refine m.o.mono ?_
 rintro e am⟨Ef,d⟩;have cP:=ag (cx.o.a d);have PE:=ag (PD.o.a d);have cQ:=ag (cC.o.a d);have cR:=ag (cD.o.a d);have cS:=ag (cE.o.a d);have cT:=ag (cF.o.a d);have cU:=ag (cG.o.a d);have cV:=ag (cH.o.a d);have cW:=ag (cI.o.a d);have cX:=ag (cJ.o.a d);have cY:=ag (cK.o.a d);have cZ:=ag (cL.o.a d);have c6:=ag (cN.o.a d);have PG:=vP cM d;clear m d;clear OP OQ OT OU OV OW;try clear Ee
 obtain⟨ai,ni,ci,Si,rfl,v,c7,c8⟩:=Ef.any9;have Zq:=ag c7;have c9:=ag c8;clear Ef c8 c7;have da:=ag (v.mono cM.o.size);clear v;obtain⟨an,GX⟩:=au (am.alloc (.cells #[.slice ai ni ci,.int .i64 K,.int .i64 L,.string (bs M)] 36));have l:ah am an:=by rw[<-GX];exact ae
 have db:=ag (cP.o.a l);have PH:=ag (PE.o.a l);have dc:=ag (cQ.o.a l);have dd:=ag (cR.o.a l);have de:=ag (cS.o.a l);have dg:=ag (cT.o.a l);have dh:=ag (cU.o.a l);have dj:=ag (cV.o.a l);have dk:=ag (cW.o.a l);have dm:=ag (cX.o.a l);have dp:=ag (cY.o.a l);have dq:=ag (cZ.o.a l);have dr:=ag (c6.o.a l);have ds:=ag (da.o.a l);have Zr:=vP PG l;have dt:=ag (show aQ an am.heap.size (.slice ai ni ci) K L M by rw[<-GX];exact aQ.new _ _ _ _ _);clear l;obtain⟨A,B,C,E,F,G⟩:=bq db.o;have j:=XA x f an (U.o.a Zr.o) S.o;rw[<-aO.o,<-aM.o]at j;have m:=ag j;clear j;go_wp2_with fail
 try rw[GX]
 refine m.o.mono ?_
 rintro e ao⟨Ef,d⟩;have PI:=ag (PH.o.a d);have du:=ag (dc.o.a d);have dy:=ag (dd.o.a d);have dG:=ag (de.o.a d);have dH:=ag (dg.o.a d);have dP:=ag (dh.o.a d);have dQ:=ag (dj.o.a d);have dT:=ag (dk.o.a d);have dV:=ag (dm.o.a d);have d0:=ag (dp.o.a d);have d3:=ag (dq.o.a d);have d4:=ag (dr.o.a d);have d5:=ag (ds.o.a d);have d6:=ag (dt.o.a d);clear m d;clear A B C E F G;try clear GX
 obtain⟨aj,nj,cj,Sj,rfl,d7,d8,d9⟩:=Ef.any9;have ea:=ag d8;have f8:=ag d9;clear Ef d9 d8;have eb:=ag (d7.mono Zr.o.size);clear d7;obtain⟨aq,GY⟩:=au (ao.alloc (.cells #[.slice aj nj cj,.int .i64 N,.int .i64 O,.string (bs P)] 36));have l:ah ao aq:=by rw[<-GY];exact ae
 have PK:=ag (PI.o.a l);have ec:=ag (du.o.a l);have ee:=ag (dy.o.a l);have Zt:=ag (dG.o.a l);have ef:=ag (dH.o.a l);have eg:=ag (dP.o.a l);have eh:=ag (dQ.o.a l);have ei:=ag (dT.o.a l);have ej:=ag (dV.o.a l);have el:=ag (d0.o.a l);have em:=ag (d3.o.a l);have en:=ag (d4.o.a l);have eo:=ag (d5.o.a l);have er:=ag (d6.o.a l);have es:=ag (eb.o.a l);have et:=ag (show aQ aq ao.heap.size (.slice aj nj cj) N O P by rw[<-GY];exact aQ.new _ _ _ _ _);clear l;have Ib:=ag (show(aT Si,K,L,M)=(aT Sj,N,O,P)by rw[Zq.o,ea.o];exact ac.o.trans aO.o.symm);have Zu:=ag (show Li.length<=4∧Li.flatten.length<=128 by
  have:=qalr f
  rw[<-ac.o]at this;exact this)
 have C1:=ag (fun (wx:World) (h1:gM wx (.slice ai ni ci) Si) (h2:gM wx (.slice aj nj cj) Sj)=>qaij ai ni ci Si K L M aj nj cj Sj N O P wx h1 h2 (by have:=Zu.o.1;have:=c9.o;omega) (by rw[Zq.o];have:=Zu.o.2;omega));obtain⟨fb,fc,fd,ff,fg,fh⟩:=bq Zt.o;obtain⟨fi,fj,fk,fl,fm,fn⟩:=bq eg.o;have j:=qjp q xc G1 G1 aq ee.o.rdx ef.o.rdx;rw[qjo]at j;try dsimp only at j
 have m:=ag j;clear j;go_wp2_with fail
 try rw[GY]
 refine m.o.mono ?_
 rintro e fp⟨rfl,d⟩;have PL:=ag (PK.o.a d);have ev:=ag (ec.o.a d);have ex:=ag (Zt.o.a d);have Zv:=ag (eh.o.a d);have ey:=ag (ei.o.a d);have ez:=ag (ej.o.a d);have eA:=ag (el.o.a d);have eB:=ag (em.o.a d);have eC:=ag (en.o.a d);have eE:=ag (eo.o.a d);have eG:=ag (er.o.a d);have eH:=ag (es.o.a d);have eI:=ag (et.o.a d);clear m d fb fc fd ff fg fh fi fj fk fl fm fn;try clear GY
 have fr:=xu Zv.o.rd;have ft:=xu ey.o;have fv:((bs Q2).toList==(bs Q2).toList)=true:=by simp
 obtain⟨fw,fx,fy,fA,fC,fD⟩:=bq eA.o;obtain⟨fG,fI,fK,fL,fN,fR⟩:=bq eC.o;have j:=qjp xg xh G3 G3 fp ez.o.rdx eB.o.rdx;rw[qjo]at j;try dsimp only at j
 have m:=ag j;clear j;go_wp2_with fail
 refine m.o.mono ?_
 rintro e FY⟨rfl,d⟩;have PM:=ag (PL.o.a d);have eJ:=ag (ev.o.a d);have eK:=ag (ex.o.a d);have eL:=ag (Zv.o.a d);have eM:=ag (eE.o.a d);have eN:=ag (eG.o.a d);have eR:=ag (eH.o.a d);have eS:=ag (eI.o.a d);clear m d fw fx fy fA fC fD fG fI fK fL fN fR fr ft fv;obtain⟨fS,fW,fX,fY⟩:=eN.o.cells;obtain⟨f0,f1,f2,f3⟩:=eS.o.cells;have j:=C1.o FY eM.o.rd eR.o.rd;rw[Xd8 Ib.o]at j;try dsimp only at j
 have m:=ag j;clear j;go_wp2_with fail
 refine m.o.mono ?_
 rintro e IV⟨rfl,d⟩;have PN:=ag (PM.o.a d);have eT:=ag (eJ.o.a d);have eV:=ag (eK.o.a d);have eW:=ag (eL.o.a d);clear m d fS fW fX fY f0 f1 f2 f3;have eZ:af (∀wr,Turned IV wr->Bq wr (w6.heap.size) 33 #[.slice q.a1 q.n1 q.c1,.slice q.a2 q.n2 q.c2,.slice q.a3 q.n3 q.c3,.int .u32 q.g,.slice q.a4 q.n4 q.c4,.slice q.a5 q.n5 q.c5]):=fun wr hT=>hT.2.1 _ _ _ _ eV.o (by decide)
 have O1:=ag (eT.o.data17);have O2:=ag (eW.o);have f4:q.n1<=maxLen:=by have h9:=O1.o.rd.len_le;have h8:=O1.o.len';omega
 have f5:np<=maxLen:=by have h9:=O2.o.rd.len_le;have h8:=O2.o.len';omega
 unfold maxLen at f4 f5;go_wp2;go_loopw [29] (fun i wr=>∃k:Nat,k<=np∧i=.int .i64 k∧af (Turned IV wr∧Below wi.heap.size IV wr)) (fun i _=>np-(intOf i).toNat)
 case atStart=>exact⟨0,Xd5 _,rfl,ag ⟨Turned.refl _,aF⟩⟩
 obtain⟨z,hz,rfl,hT⟩:=hrel;by_cases e2:z<np
 ·have f9:(z:Int)<np:=by omega
  obtain⟨g,bk,bj,rfl,hc,hf,f6,mI⟩:=qz0 O2.o hT.o.1 hT.o.2 z e2;go_wp2;exact⟨⟨z+1,by omega,rfl,mI⟩,by simp only[intOf];omega⟩
 have hd:decide ((z:Int)<np)=false:=aC (by omega);go_wp2;clear hd e2 hz;go_loopw [30] (fun i wr=>∃k:Nat,k<=q.n1∧i=.int .i64 k∧af (Turned IV wr∧Below wi.heap.size IV wr)) (fun i _=>q.n1-(intOf i).toNat)
 case atStart=>exact⟨0,Xd5 _,rfl,hT⟩
 obtain⟨k,hk,rfl,zS⟩:=hrel;have p0:=(eZ.o _ zS.o.1).cell 0;by_cases e3:k<q.n1
 ·have f7:(k:Int)<q.n1:=by omega
  obtain⟨g,bk,bj,e4,hc,hf,f6,mI⟩:=qad1 O1.o zS.o.1 zS.o.2 k e3;have p1:wr.cell? ⟨w6.heap.size,0,none⟩=some (.slice (some ⟨g,0,none⟩) q.n1 q.c1):=by rw[<-e4];exact p0
  clear p0 e4;go_wp2;go_region
  go_wp2;exact⟨⟨k+1,by omega,rfl,mI⟩,by simp only[intOf];omega⟩
 have hd:decide ((k:Int)<q.n1)=false:=aC (by omega);have Zw:=ag (show ah wi wr from Below.trans PN.o zS.o.2);obtain⟨k0,k1,k2,k3,k4,k5⟩:=bq (OO.o.a Zw.o);obtain⟨j0,j1,j2,j3,j4,j5⟩:=bq (Ze.o.a Zw.o);have j:=qjp Z x f f wr (OM.o.a Zw.o).rdx ((U.o.a BK.o).a Zw.o);rw[qjo]at j;clear zS hT;go_wp2_with fail
 refine j.mono ?_
 rintro e wy⟨rfl,e5⟩;have Xt:=bT Zw e5;have Nt:=xu (JH.o.a Xt.o).rd;have ga:=xu ((fu.o.a BK.o).a Xt.o);have HE:=ag (BK.o.trans (Xt.o.mono BK.o.size));clear j e5 k0 k1 k2 k3 k4 k5 j0 j1 j2 j3 j4 j5 p0;go_wp2;go_ret;exact⟨rfl,HE.o⟩
end Go.Proofs.YtmeaiocohalphaaGreatDoor
