/-
  The way begins, commits, ends.
-/
import Derived.Test.YthpammbgcidloaaGreatRf4
set_option maxHeartbeats 4000000
set_option maxRecDepth 100000
namespace Go.Proofs.YthpammbgcidloaaGreat
open Go.RowKit
set_option linter.all false
theorem Tryz.infoBB8:(Tryz.prog.info? 22).map (fun i=>(i.zero,i.size,i.bytes))=some (some (.slice none 0 0),1,24):=by kernel_rfl
theorem Ig (b:World):(sizeOf (Tryz.prog.elem 42)).run Tryz.prog b=.ok 1 b:=by
 rw [show Tryz.prog.elem 42=22 by kernel_rfl];obtain ⟨f,c,d,a,e⟩:=info_parts Tryz.infoBB8;simp [sizeOf,typeInfo,c,a]
theorem QY {w:World} {a:au} {n c:Nat} {l:List (ak)} (h:jC w (.slice a n c) l) (k:Nat) (i:k<=l.length):
  ∃a2 n2 c2,(∀d,(Instr.slice 42 (.slice a n c) (some (.int .i64 k)) none none).run Tryz.prog d=.ok (.slice a2 n2 c2) d)∧jC w (.slice a2 n2 c2) (l.drop k):=by
 obtain ⟨o,p,_⟩:=h.le;have e:∀d,(Instr.slice 42 (.slice a n c) (some (.int .i64 k)) none none).run Tryz.prog d=.ok (sliced a k n c 1) d:=by
  intro d;rw [run_slice_l d 42 a n c (by kernel_rfl) .i64 k (by omega) (by omega),Ig d];simp [Result.andThen]
 unfold sliced at e;refine ⟨_,_,_,e, ?_⟩;subst o;rcases h with ⟨rfl,h | ⟨u,q,h⟩⟩ | ⟨b,f,q,h,v,x,r⟩
 ·cases h
  obtain rfl:k=0:=by simpa using i
  refine .inl ⟨rfl,.inl ?_⟩;simp
 ·cases h
  obtain rfl:k=0:=by simpa using i
  refine .inl ⟨rfl,.inr ?_⟩;split
  ·exact ⟨_,_,rfl⟩
  ·exact ⟨_,_,rfl⟩
 ·cases h
  by_cases m:c=k
  ·obtain rfl:k=l.length:=by omega
   rw [List.drop_length,if_pos m,Nat.sub_self];exact .inl ⟨rfl,.inr ⟨_,_,rfl⟩⟩
  ·rw [if_neg m,Option.map_some,Addr.add_lit,Nat.mul_one]
   by_cases g:k=l.length
   ·subst g
    rw [List.drop_length,Nat.sub_self];exact .inl ⟨rfl,.inr ⟨_,_,rfl⟩⟩
   ·refine .inr ⟨b,f+k,c - k,by rw [List.length_drop],by rw [List.length_drop];omega,by omega,fun j s=>?_⟩
    rw [List.length_drop] at s;obtain ⟨y,z,e1,t⟩:=r (k+j) (by omega);rw [Nat.add_assoc,List.getElem_drop];exact ⟨y,z,e1,t⟩
theorem qo1 {P:Program} {w:World} {b:Array Oper} {rest:List Oper} {o:Oper} {a:Act} {Q:Exit->Act->World->Prop} (d:o.guard=none) (x f:Operand) (t:TypeId) (k:P.underlying t=some (.slice (P.elem t)))
  (l:o.op=.slice t x (some f) none none) {v g i:Value} (m:a.eval x=v) (e:a.eval f=g) (c:∀j,(Instr.slice t v (some g) none none).run P j=.ok i j) (h:wpList P b Q rest (a.put o.dst i) w):wpList P b Q (o::rest) a w:=by
 refine wpList_plain d fun K n=>?_
 unfold Oper.wp execOp;simp only [l,Option.map_some,Option.map_none,m,e,run_sliceAt_slice w t _ _ _ _ k,Sem.run_bind,c w,Result.andThen_ok,Sem.run_pure];exact n _ _ h
theorem QZ {n5 b n k a L:Nat} (e1:n5=L - k - a) (c:b=n - k) (d:n=L) (h:a<=n - k) (e:a≠0):n5<b:=by omega
def Ih (g:Nat) (l:List (ak)):Lg:=((fD g l).map (·.1),dF (fD g l),gB 0 (fD g l),oW g (l.drop (dF (fD g l))))
theorem qyq (d:Nat) (a:au) (n c:Nat) (l:List (ak)) (w:World) (hg:d<4294967296) (a1:d≠0) (ab:jC w (.slice a n c) l) (O:fw l=0):
  Calls Tryz.prog 36 #[.int .u32 d,.slice a n c] w fun e w'=>∃rv,e=.returned (.tuple #[.agg #[rv,.int .i64 (Ih d l).2.1,.int .u32 (Ih d l).2.2.1,.int .u32 (Ih d l).2.2.2],.int .i64 0])∧bu w' w.heap.size rv (Ih d l).1∧ah w w':=by
 have HN:=ag ab.le.1;have HR:=ag ab;have a2:=ag hg;have zg:=ag (Hu O).1;have HA:=ag (Hu O).2;have lJ:n<=4096:=by have:=zg.o;have:=HN.o;omega
 have av:((d:Int)==0)=false:=by simpa using (by omega:¬(d:Int)=0)
 have uL:=ag (show Ih d l=((fD d l).map (·.1),dF (fD d l),gB 0 (fD d l),oW d (l.drop (dF (fD d l)))) from rfl);have aw:∀o,ah w (w.alloc o):=fun o=>aB.alloc aI o
 have ac:=fun o=>qmw a n c l (w.alloc o) (HR.o.a (aw o))
 rw [O] at ac;clear ab hg O a1;go_enter Tryz.func36,Tryz.ntmps36;go_wp2_with fail
 refine (ac _).mono ?_
 rintro e w1 ⟨rfl,rfl⟩;clear ac aw;go_wp2;clear av;go_loopw [1] (fun sv wr=>∃(S:List Op) (K:au) (L:Nat) (sa:au) (A sc:Nat),sv=.slice sa A sc∧af (jC w (.slice sa A sc) (l.drop (dF S)))∧af (MI d l S)∧af (aZ wr (w.heap.size+1) (.slice K S.length L) (dF S) (gB 0 S) 0)∧af (bu wr (w.heap.size+2) (.slice K S.length L) (S.map (·.1)))∧af (aZ wr w.heap.size (.slice none 0 0) 0 0 0)∧af (ah w wr)∧af (w.heap.size+2<=wr.heap.size)) (fun sv _=>Di sv)
 case atStart=>
  refine ⟨[],none,0,a,n,c,rfl,ag (by simpa [dF] using HR.o),ag (qsw _ _),ag ?_,ag (bu.nil _ _),ag ?_,ag ((ae).alloc (by simp) _),ag (by simp)⟩
  ·exact pq _ _ _
  ·unfold aZ
   rw [((Below.refl _ (w.alloc (.cells #[.slice none 0 0,.int .i64 0,.int .u32 0,.int .u32 0] 80))).alloc aI _).block _ (by simp)];exact heap_alloc_new w _
 case round=>
  obtain ⟨S,K,L,sa,A,sc,rfl,m,vL,oF,C,D,q,ad⟩:=hrel;obtain ⟨r,oG⟩:=ai (S.map (·.1));obtain ⟨N,hN⟩:=ai S.length;obtain ⟨k,hk⟩:=ai (dF S);obtain ⟨p,hp⟩:=ai (gB 0 S);obtain ⟨W,al⟩:=ai (1+N);have ax:k<=n:=by rw [hk,HN.o];exact vL.o.2.2.1
  have a3:N<=k:=by rw [hN,hk];exact vL.o.2.1
  have a4:p<4294967296:=by rw [hp];exact vL.o.2.2.2
  rw [<-hN,<-hk,<-hp] at oF;rw [<-hN,<-oG] at C;rw [<-hk] at m;obtain ⟨ay,aD,Xl,MJ⟩:=QO N W al (aC a3 (aC ax lJ));have E:=qyp d W p sa A sc (l.drop k) wr a2.o MJ a4 (m.o.a q.o) (QP zg.o) (fun b hb=>HA.o b (List.mem_of_mem_drop hb));have oU:=ag (show iI d W p (l.drop k)=if (opn d W p (l.drop k)).2.2=0 then 6 else 0 from rfl);have g:=Xb d W p (l.drop k);have Ii:=Xc d W p (l.drop k);obtain ⟨⟨P,M,f⟩,ho⟩:=ai (opn d W p (l.drop k));have Q:=ag (show dF S=k∧gB 0 S=p∧S.map (·.1)=r∧(P,M,f)=opn d (1+S.length) (gB 0 S) (l.drop (dF S)) from ⟨hk.symm,hp.symm,oG.symm,by rw [ho,al,hN,hp,hk]⟩);rw [<-ho] at E oU g Ii;simp only at E oU g Ii
  obtain ⟨fE,aE⟩:=ai (iI d W p (l.drop k));rw [<-aE] at E oU;have QQ:=ag (show S.length=N from hN.symm);have aF:=ag (show A=n - k by have:=m.o.le.1;rw [List.length_drop] at this;rw [this,HN.o]);clear oG hN hk hp al ho aE;obtain ⟨c0,c1,c2,c3,cf⟩:=oF.o.cells;clear cf;go_wp2_with fail
  refine E.mono ?_
  rintro e w2 ⟨v2,rfl,o2,b2⟩;obtain ⟨pa,pc,rfl⟩:=o2.form;have u1:=oF.o.a b2 oF.o.lt aI;have u2:=D.o.a b2 D.o.lt aI;have u3:=C.o.a b2;have u4:ah w w2:=q.o.trans (b2.mono q.o.size);have u5:w.heap.size+2<=w2.heap.size:=aC ad.o b2.size;have hV:=o2.mono ad.o;obtain ⟨pn,aH⟩:=ai P.length;rw [<-aH] at hV ⊢;clear E o2 b2 oF D C q ad c0 c1 c2 c3 aH;by_cases s:f=0
  ·subst s
   have a6:fE=6:=by rw [oU.o];rfl
   subst a6;have qO:=ag (Xk vL.o (by have:=congrArg (fun x:Op=>x.2.2) Q.o.2.2.2;exact this.symm));have a7:=ag m.o;have bm:A<=4096:=by have:=aF.o;omega
   have sU:=ag u1;have vM:=ag u2;have BQ:=ag u3;have aJ:=ag u4;clear hV u1 u2 u3 m oU g Ii ay aD Xl MJ;go_wp2;go_loopw [12] (fun i wr=>∃j:Nat,j<=A∧i=.int .i64 j∧∃G:Nat,af (G=oW d ((l.drop k).take j))∧af (G<4294967296)∧af (aZ wr (w.heap.size+1) (.slice K N L) k p G)∧af (aZ wr w.heap.size (.slice none 0 0) 0 0 0)∧af (bu wr (w.heap.size+2) (.slice K N L) r)∧af (ah w wr)∧af (w.heap.size+2<=wr.heap.size)) (fun i _=>A - (intOf i).toNat)
   case atStart=>exact ⟨0,Nat.zero_le _,rfl,0,ag rfl,ag (by omega),sU,vM,BQ,aJ,ag u5⟩
   case round=>
    obtain ⟨j,hj,rfl,G,hG,am,T,U,h3,h4,h5⟩:=hrel;clear sU vM BQ aJ u4 u5;have an:=ag (jC.a a7.o h4.o);by_cases bn:j<A
    ·have bj:(j:Int)<A:=by omega
     have ao:j<(l.drop k).length:=by have:=an.o.le.1;omega
     obtain ⟨b,aK,y,z,rfl,q0,X⟩:=an.o.at j ao;have Y:((l.drop k)[j]).length=128:=HA.o _ (List.mem_of_mem_drop (List.getElem_mem ao));have MM:=ag (qox d (l.drop k) j ao);rw [<-hG.o] at MM;obtain ⟨x,hx⟩:=ai ((l.drop k)[j]);rw [<-hx] at q0 X Y MM;rw [Y] at q0 X;clear hx hG;obtain ⟨g',o',rfl, -⟩:=yY X (by intro e;rw [e] at Y;simp at Y);have hz:128<=z:=quz X Y;have Aj:(4:Int)<=z:=by omega
     have jI:=MK g' o' z (x.take 4) wr (by rw [List.length_take];omega) (qqo X Y);rw [show fH (x.take 4)=dh x from rfl] at jI;have HX:=ag Y;have HQ:=ag X;have ER:=ag (show tq d G x=if dh x=d then max G (max (ji x) (qN x)) else G from rfl);obtain ⟨gx,aM⟩:=ai (dh x);rw [<-aM] at jI ER;clear aM X Y;go_wp2_with fail
     refine jI.mono ?_
     rintro e B ⟨rfl,Z⟩;have v1:=T.o.a Z T.o.lt aI;have v2:=U.o.a Z U.o.lt aI;have v3:=h3.o.a Z;have v4:ah w B:=h4.o.trans (Z.mono h4.o.size);have v5:w.heap.size+2<=B.heap.size:=aC h5.o Z.size;have q3:=aR _ _ _ _ q0 Z;have Xr:=HQ.o.a Z;clear jI Z T U h3 h4 h5 q0 HQ Aj;by_cases F:gx=d
     ·have aN:((gx:Int)==d)=true:=by simp [F]
      have t:=ag (show oW d ((l.drop k).take (j+1))=max G (max (ji x) (qN x)) by rw [MM.o,ER.o,if_pos F]);have a8:=Qw x;have a9:=qwu x;have bo:¬z=8:=by omega
      have bk:¬z=12:=by omega
      have bl:(12:Int)<=z:=by omega
      have ba:(16:Int)<=z:=by omega
      have ap:=ag (fun H (hb:ah B H)=>MK g' (o'+8) (z - 8) ((x.drop 8).take 4) H (by rw [List.length_take,List.length_drop,HX.o];decide) (Hm (Xr.a hb) 8 4 (by rw [HX.o];omega) (by rw [HX.o];omega)));have rP:=ag (fun H (hb:ah B H)=>MK g' (o'+12) (z - 12) ((x.drop 12).take 4) H (by rw [List.length_take,List.length_drop,HX.o];decide) (Hm (Xr.a hb) 12 4 (by rw [HX.o];omega) (by rw [HX.o];omega)));rw [show fH ((x.drop 8).take 4)=ji x from rfl] at ap;rw [show fH ((x.drop 12).take 4)=qN x from rfl] at rP;obtain ⟨s8,Q0⟩:=ai (ji x);obtain ⟨s9,Q3⟩:=ai (qN x);rw [<-Q0] at ap t a8;rw [<-Q3] at rP t a9;have Aw:=ag (QM G s8 s9);clear Q0 Q3 F ER MM Xr;have hK:aL (fun H=>aZ H (w.heap.size+1) (.slice K N L) k p G∧H.cell? ⟨b,aK+j,none⟩=some (.slice (some ⟨g',o',none⟩) 128 z)∧ah B H):=(eH _ _).and ((aR _ _).and (jW B));have aO:aZ B (w.heap.size+1) (.slice K N L) k p G∧B.cell? ⟨b,aK+j,none⟩=some (.slice (some ⟨g',o',none⟩) 128 z)∧ah B B:=⟨v1,q3,aB⟩;go_wp2_with fail
      refine rH hK 16 (by kernel_rfl) aO ?_
      clear aO;intro u;generalize bb:B.drew=wd at *;refine pg [0,1,2,3,4,5,6,8,9,10,11,12] (fuel:=5) (a':=?ya1) (by kernel_rfl) (by kernel_rfl) (by kernel_rfl) ?yp1 u ?yn1
      case yp1=>
       iterate 12 (apply Yl.cons rfl (by kernel_rfl);focus (rintro H ⟨x1,x2,x3⟩;obtain ⟨k0,k1,k2,k3,_⟩:=x1.cells;clear x1 x3;go_simp<;>with_reducible rfl);try simp only [az])
       exact Yl.nil
      try simp only [az]
      refine uU (i:=7) (R:=fun v wy=>v=.int .u32 s8∧ah wd wy) rfl (by kernel_rfl) (by kernel_rfl) (by go_simp;try rfl) ((ap.o wd u.2.2).mono fun e wy h=>⟨_,h.1,rfl,h.2⟩) ?_
      rintro v9 x4 ⟨rfl,I⟩;have bS:=hK _ _ u I;refine ⟨bS, ?_⟩;clear u I;have u:=bS;clear bS;try simp only [az]
      refine uU (i:=13) (R:=fun v wy=>v=.int .u32 s9∧ah x4 wy) rfl (by kernel_rfl) (by kernel_rfl) (by go_simp;try rfl) ((rP.o x4 u.2.2).mono fun e wy h=>⟨_,h.1,rfl,h.2⟩) ?_
      rintro v9 x5 ⟨rfl,I⟩;have bS:=hK _ _ u I;refine ⟨bS, ?_⟩;clear u I;have u:=bS;clear bS;try simp only [az]
      refine pg [14,15] (fuel:=1) (a':=?ya2) (by kernel_rfl) (by kernel_rfl) (by kernel_rfl) ?yp2 u ?yn2
      case yp2=>
       iterate 2 (apply Yl.cons rfl (by kernel_rfl);focus (rintro H ⟨x1,x2,x3⟩;clear x1 x2 x3;have bc:=Aw.o;go_simp<;>with_reducible rfl);try simp only [az])
       exact Yl.nil
      try simp only [az]
      obtain ⟨G2,aP⟩:=ai (max G (max s8 s9));rw [<-aP] at t Aw;have Mx:=ag (show G2<4294967296 by rw [aP];have:=am.o;omega);have t1:=u.1;have t4:ah B x5:=u.2.2;have t2:=v2.a t4 v2.lt aI;have t3:=v3.a t4;obtain ⟨d0,d1,d2,d3,df⟩:=t1.cells;have f3:=df 3;have g1:=nO x5 ⟨w.heap.size+1,3,none⟩ (.int .u32 G2);have T1:=ag (t1.set3 G2);have T2:=ag (t2.other ⟨w.heap.size+1,3,none⟩ (.int .u32 G2) (Nat.ne_of_lt (Nat.lt_succ_self _)));have T3:=ag (t3.grown g1 (by show w.heap.size+1<_;omega));have jh:ah w x5:=v4.trans (t4.mono v4.size);have T4:=ag (jh.grown g1 jh.size (fun i hi=>by cases hi;show w.heap.size<=w.heap.size+1;omega));have T5:=ag (aC (aC v5 t4.size) g1.size);obtain ⟨x6,aq⟩:=ai (x5.setCell ⟨w.heap.size+1,3,none⟩ (.int .u32 G2));rw [<-aq] at T1 T2 T3 T4 T5;have bc:=Aw.o;refine rJ (i:=16) (w':=x6) rfl (by kernel_rfl) (by kernel_rfl) (by kernel_rfl) (by rw [aq];go_simp) ?_
      try simp only [az]
      refine rM (by kernel_rfl) ?_ _
      refine NoPanic.normal ?_
      try simp only [az]
      clear aq u t1 t2 t3 t4 jh g1 d0 d1 d2 d3 df f3 v1 v2 v3 v4 v5 q3 hK bb;go_wp2;go_roundw
      case rel=>exact ⟨j+1,by omega,by go_num,G2,ag t.o.symm,Mx,T1,T2,T3,T4,T5⟩
      case measure=>simp only [intOf];omega
     ·have aN:((gx:Int)==d)=false:=by simpa using (by omega:¬(gx:Int)=d)
      have t:=ag (show oW d ((l.drop k).take (j+1))=G by rw [MM.o,ER.o,if_neg F]);have V1:=ag v1;have V2:=ag v2;have V3:=ag v3;have V4:=ag v4;have V5:=ag v5;clear v1 v2 v3 v4 v5 ER MM Xr q3 F;go_wp2;go_roundw
      case rel=>exact ⟨j+1,by omega,by go_num,G,ag t.o.symm,am,V1,V2,V3,V4,V5⟩
      case measure=>simp only [intOf];omega
    ·have hd:decide ((j:Int)<A)=false:=aA (by omega)
     have qP:=ag (show G=oW d (l.drop k) by
      have:=hG.o
      rwa [List.take_of_length_le (by have:=an.o.le.1;omega)] at this)
     obtain ⟨ws,bP,aS,ar⟩:=QD (.slice K N L) (.int .i64 k) (.int .u32 p) (.int .u32 G) U.o;have aT:=h3.o.grown ar (by omega);have qa:ah w ws:=h4.o.grown ar h4.o.size (fun i hi=>by cases hi;exact Nat.le_refl _);obtain ⟨p0,p1,p2,p3, -⟩:=Au aS;obtain ⟨q0,X,q2,q3,qf⟩:=U.o.cells;obtain ⟨r0,r1,r2,r3, -⟩:=T.o.cells;have oq:=ag bP;have Hy:=ag aT;have f0:=qf 0;have f1:=qf 1;have f2:=qf 2;have f3:=qf 3;clear aS ar bP aT qf hG am T U h3 h4 h5;go_wp2;rw [oq.o];refine bodyPost_ret (v:=.tuple #[.agg #[.slice K N L,.int .i64 k,.int .u32 p,.int .u32 G],.int .i64 0]) ?_ rfl ⟨.slice K N L, ?_, ?_,qa⟩
     ·simp [results,Tryz.results36,go_sem,p0,p1,p2,p3]
     ·rw [uL.o,qO.o,qP.o,Q.o.1,Q.o.2.1];try rfl
     ·rw [uL.o,qO.o,Q.o.2.2.1];exact Hy.o.mono (by omega)
  ·have bd:fE=0:=by rw [oU.o];exact if_neg s
   subst bd;have bp:((f:Int)==0)=false:=by simpa using s
   have jN:=ag (show r.length=N by rw [<-Q.o.2.2.1,List.length_map];exact QQ.o);obtain ⟨g9,c9,w9,aa,bN,bI⟩:=Qr u3 u5 (by rw [jN.o];omega) pa pn pc P hV;rw [jN.o] at aa bN;have a0:f<=n - k:=by rw [List.length_drop,<-HN.o] at g;exact g
   have J:=(Hw k f (k+f) n rfl a0 ax s lJ);have be:wrap64 ((k:Int)+(f:Int))=(k:Int)+(f:Int):=J.1;have bg:IntKind.i64.wrap ((k:Int)+(f:Int))=(k:Int)+(f:Int):=J.2.1;have T:=u1.a bI (Nat.lt_succ_self _) u5;have U:=u2.a bI (by omega) u5;obtain ⟨c0,c1,c2,c3,cf⟩:=u1.cells;obtain ⟨d0,d1,d2,d3,df⟩:=T.cells;have f0:=df 0;have f1:=df 1;have f2:=df 2;have qO:=ag (((T.set0 (.slice (some ⟨g9,0,none⟩) (N+1) c9)).set1 (k+f)).set2 M);have vO:=ag (((U.other ⟨w.heap.size+1,0,none⟩ (.slice (some ⟨g9,0,none⟩) (N+1) c9) (Nat.ne_of_lt (Nat.lt_succ_self _))).other ⟨w.heap.size+1,1,none⟩ (.int .i64 ((k+f:Nat):Int)) (Nat.ne_of_lt (Nat.lt_succ_self _))).other ⟨w.heap.size+1,2,none⟩ (.int .u32 M) (Nat.ne_of_lt (Nat.lt_succ_self _)));have g0:=nO w9 ⟨w.heap.size+1,0,none⟩ (.slice (some ⟨g9,0,none⟩) (N+1) c9);have g1:=nO (w9.setCell ⟨w.heap.size+1,0,none⟩ (.slice (some ⟨g9,0,none⟩) (N+1) c9)) ⟨w.heap.size+1,1,none⟩ (.int .i64 ((k+f:Nat):Int));have g2:=nO ((w9.setCell ⟨w.heap.size+1,0,none⟩ (.slice (some ⟨g9,0,none⟩) (N+1) c9)).setCell ⟨w.heap.size+1,1,none⟩ (.int .i64 ((k+f:Nat):Int))) ⟨w.heap.size+1,2,none⟩ (.int .u32 M);have V:=nP (nP g0 g1) g2;have bh:=ag (bN.grown V (Nat.lt_succ_self _));have vX:ah w w9:=u4.trans (bI.mono (by omega));have iO:=ag (vX.grown V vX.size (fun i hi=>by cases hi;exact Nat.le_succ _));have jy:=ag (aC (aC u5 bI.size) V.size);have mF:=ag (qoy vL.o (by rw [<-Q.o.2.2.2];exact s));rw [<-Q.o.2.2.2] at mF;obtain ⟨a5,n5,c5,bi,sK⟩:=QY m.o f g;have Df:=ag (show jC w (.slice a5 n5 c5) (l.drop (k+f)) by rw [<-List.drop_drop];exact sK);have QT:=ag (show n5<A by
    have e1:=sK.le.1;rw [List.length_drop,List.length_drop] at e1;exact QZ e1 aF.o HN.o a0 s)
   clear hV u1 u2 u3 u4 u5 T U g0 g1 g2 V bI vX bN cf df ay aD Xl MJ sK m oU J;go_wp2_with (first | (refine qo1 rfl (.tmp 55) (.tmp 56) 42 (by kernel_rfl) rfl rfl rfl bi ?_) | (at_builtin;refine zh rfl (.tmp 43) (.tmp 45) 42 rfl rfl rfl rfl aa ?_))
   have e1:(S++[(P,M,f)]).length=N+1:=by rw [List.length_append,QQ.o];rfl
   have e2:dF (S++[(P,M,f)])=k+f:=by rw [MC,Q.o.1]
   have e3:gB 0 (S++[(P,M,f)])=M:=Qz _ _ _;have e4:(S++[(P,M,f)]).map (·.1)=r++[P]:=by rw [List.map_append,Q.o.2.2.1];rfl
   go_roundw
   case rel=>exact ⟨S++[(P,M,f)],some ⟨g9,0,none⟩,c9,a5,n5,c5,rfl,ag (by rw [e2];exact Df.o),mF,ag (by rw [e1,e2,e3];exact qO.o),ag (by rw [e1,e4];exact bh.o),vO,iO,jy⟩
   case measure=>simp only [Di];exact QT.o
abbrev Ij (w:World) (p:Nat) (x:FsV) (e:Int) (ab:au) (nb cb:Nat):Prop:=Bq w p 159 #[.slice x.a1 x.n1 x.c1,.slice x.a2 x.n2 x.c2,.slice x.a3 x.n3 x.c3,.int .u32 x.g,.slice x.a4 x.n4 x.c4,.slice x.a5 x.n5 x.c5,.int .i64 e,.slice ab nb cb]
theorem qQ {w:World} {p:Nat} {x:FsV} {e:Int} {a:au} {b c:Nat} (h:Ij w p x e a b c):w.cell? ⟨p,0,none⟩=some (.slice x.a1 x.n1 x.c1)∧w.cell? ⟨p,1,none⟩=some (.slice x.a2 x.n2 x.c2)∧w.cell? ⟨p,2,none⟩=some (.slice x.a3 x.n3 x.c3)∧w.cell? ⟨p,3,none⟩=some (.int .u32 x.g)∧w.cell? ⟨p,4,none⟩=some (.slice x.a4 x.n4 x.c4)∧w.cell? ⟨p,5,none⟩=some (.slice x.a5 x.n5 x.c5)∧w.cell? ⟨p,6,none⟩=some (.int .i64 e)∧w.cell? ⟨p,7,none⟩=some (.slice a b c):=
 ⟨h.cell 0,h.cell 1,h.cell 2,h.cell 3,h.cell 4,h.cell 5,h.cell 6,h.cell 7⟩
def Dl (w:World) (p base:Nat) (o:Bool) (y:Wy) (x:FsV) (ab:au) (nb cb:Nat):Prop:=
 ∀w',w.grownBy w' (some p)->RdX w' x y.1∧Rd w' (.slice ab nb cb) y.2.2∧(o=true->y.2.1=0->jL w' base x.dv y.1.1)
theorem Dl.later {w a:World} {p base:Nat} {o:Bool} {y:Wy} {x:FsV} {b:au} {c d:Nat} (h:Dl w p base o y x b c d) (e:w.grownBy a (some p)):Dl a p base o y x b c d:=fun w' f=>h w' (e.trans f)
def bQ (w:World) (p base:Nat) (o:Bool) (y:Wy):Prop:=∃(x:FsV) (ab:au) (nb cb:Nat),Ij w p x y.2.1 ab nb cb∧nb=y.2.2.length∧WfX y.1∧Dl w p base o y x ab nb cb
theorem Dm {w w':World} (p:Nat) (hb:ah w w'):w.grownBy w' (some p):=⟨hb.os,hb.tape,hb.output,hb.size,fun k a _=>hb.block k a⟩
theorem tH {w w':World} {p:Nat} (h:w.grownBy w' (some p)) (j:Nat) (v:Value):w.grownBy (w'.setCell ⟨p,j,none⟩ v) (some p):=h.trans (lV w' ⟨p,j,none⟩ v)
theorem bQ.a {w w':World} {p base:Nat} {o:Bool} {y:Wy} (h:bQ w p base o y) (hb:ah w w'):bQ w' p base o y:=by
 obtain ⟨x,a,b,c,d,e,f,g⟩:=h;exact ⟨x,a,b,c,d.a hb,e,f,g.later (Dm p hb)⟩
theorem bQ.lt {w:World} {p base:Nat} {o:Bool} {y:Wy} (h:bQ w p base o y):p<w.heap.size:=by
 obtain ⟨x,b,c,d,a,_⟩:=h;exact a.lt
theorem bQ.err {w:World} {p base:Nat} {o:Bool} {y:Wy} (c:Bool) (h:bQ w p base o y) (d:y.2.1≠0):bQ w p base c y:=by
 obtain ⟨x,e,f,g,i,j,k,a⟩:=h;exact ⟨x,e,f,g,i,j,k,fun w' b=>⟨(a w' b).1,(a w' b).2.1,fun _ l=>absurd l d⟩⟩
theorem bQ.any {w:World} {p base:Nat} {o:Bool} {y:Wy} (h:bQ w p base o y):bQ w p base false y:=by
 obtain ⟨x,c,d,e,f,g,i,a⟩:=h;exact ⟨x,c,d,e,f,g,i,fun w' b=>⟨(a w' b).1,(a w' b).2.1,fun j=>by cases j⟩⟩
theorem bQ.setErr {w:World} {p base:Nat} {o:Bool} {y:Wy} (r:Int) (h:bQ w p base o y) (e:y.2.1=0):bQ (w.setCell ⟨p,6,none⟩ (.int .i64 r)) p base o (y.1,r,y.2.2)∧w.grownBy (w.setCell ⟨p,6,none⟩ (.int .i64 r)) (some p):=by
 obtain ⟨x,f,g,i,j,k,l,m⟩:=h;have d:=lV w ⟨p,6,none⟩ (.int .i64 r);refine ⟨⟨x,f,g,i,j.put 6 _,k,l,fun w' n=>?_⟩,d⟩;obtain ⟨a,b,c⟩:=m w' (d.trans n);exact ⟨a,b,fun q _=>c q e⟩
theorem bQ.setDisk {w f:World} {p base j:Nat} {o:Bool} {y:Wy} {d:Dk} {i:au} {n1 c1:Nat} {a2:au} {n2 c2:Nat} {a3:au} {n3 c3:Nat} (h:bQ w p base o y) (hb:ah w f) (k:base<=j) (s:p<j) (t:jL f j (.agg #[.slice i n1 c1,.slice a2 n2 c2,.slice a3 n3 c3]) d):
  bQ (((f.setCell ⟨p,0,none⟩ (.slice i n1 c1)).setCell ⟨p,1,none⟩ (.slice a2 n2 c2)).setCell ⟨p,2,none⟩ (.slice a3 n3 c3)) p base true (zG y d)∧w.grownBy (((f.setCell ⟨p,0,none⟩ (.slice i n1 c1)).setCell ⟨p,1,none⟩ (.slice a2 n2 c2)).setCell ⟨p,2,none⟩ (.slice a3 n3 c3)) (some p):=by
 obtain ⟨x,u,v,z,A,B,l,C⟩:=h;have m:f.grownBy (((f.setCell ⟨p,0,none⟩ (.slice i n1 c1)).setCell ⟨p,1,none⟩ (.slice a2 n2 c2)).setCell ⟨p,2,none⟩ (.slice a3 n3 c3)) (some p):=tH (tH (tH (World.grownBy.refl _ _) 0 _) 1 _) 2 _;have n:=(Dm p hb).trans m;refine ⟨⟨⟨i,n1,c1,a2,n2,c2,a3,n3,c3,x.g,x.a4,x.n4,x.c4,x.a5,x.n5,x.c5⟩,u,v,z,(((A.a hb).put 0 _).put 1 _).put 2 _,B,⟨l.g,l.fl,l.kl⟩,fun w' q=>?_⟩,n⟩;obtain ⟨a,b,c⟩:=C w' (n.trans q);have e:=t.grown (m.trans q) s;have r:=RdD.mk3 e.rd;exact ⟨⟨e.rd,r.1,r.2,a.g,a.fl,a.n4,a.kl,a.n5⟩,b,fun _ _=>e.mono k⟩
theorem bQ.setDir {w f:World} {p base v:Nat} {o:Bool} {y:Wy} {l:List Fl} {i:au} {e j:Nat} (h:bQ w p base o y) (hb:ah w f) (z:e=l.length) (k:wfFs l) (A:bJ f v (.slice i e j) l):
  bQ (f.setCell ⟨p,4,none⟩ (.slice i e j)) p base o ((y.1.1,y.1.2.1,l,y.1.2.2.2),y.2)∧w.grownBy (f.setCell ⟨p,4,none⟩ (.slice i e j)) (some p):=by
 obtain ⟨x,m,n,q,r,B,s,C⟩:=h;have t:=lV f ⟨p,4,none⟩ (.slice i e j);have u:=(Dm p hb).trans t;refine ⟨⟨⟨x.a1,x.n1,x.c1,x.a2,x.n2,x.c2,x.a3,x.n3,x.c3,x.g,i,e,j,x.a5,x.n5,x.c5⟩,m,n,q,(r.a hb).put 4 _,B,⟨s.g,k,s.kl⟩,fun w' k=>?_⟩,u⟩;obtain ⟨a,b,c⟩:=C w' (u.trans k);exact ⟨⟨a.d,a.n1,a.n2,a.g,(A.keptS (t.trans k) (r.a hb) (by decide) (by decide)).rd,z,a.kl,a.n5⟩,b,c⟩
theorem vF (p base:Nat) (o:Bool) (y:Wy) (w:World) (h:bQ w p base o y) (E:base<=p):
  Calls Tryz.prog 83 #[.pointer (some ⟨p,0,none⟩)] w fun e w'=>e=.returned (.int .i64 (zH y).2)∧bQ w' p base true (zH y).1∧w.grownBy w' (some p):=by
 have j:=ag h;obtain ⟨x,H,I,J,k,F,q,r⟩:=h;obtain ⟨s,t,u,v,z,A,B,C⟩:=qQ k;have G:=ag (r w (World.grownBy.refl _ _)).1;have l:=ag k;have K:=ag q;clear k F q r;go_enter Tryz.func83,Tryz.ntmps83;go_wp2_with fail
 refine (Zk (d:=y.1.1) w G.o.d).mono ?_
 rintro e L ⟨dv,rfl,i,m⟩;obtain ⟨d,n⟩:=ai ((fC y.1.1 [(true,0,[])] 1).1);rw [<-n] at i;obtain ⟨M,c1,a2,c2,a3,c3,e1⟩:=i.form;obtain ⟨n1,c⟩:=ai d.1.length;obtain ⟨n2,f⟩:=ai d.2.1.length;obtain ⟨n3,D⟩:=ai d.2.2.length;rw [<-c,<-f,<-D] at e1;subst e1;have g:=j.o.setDisk m (aC E (Nat.le_of_lt j.o.lt)) j.o.lt i;have b:=ag g;rw [n] at b;have a:=ag (l.o.a m);clear s t u v z A B C;obtain ⟨s,t,u,v,z,A,B,C⟩:=qQ a.o;have N:=a.o.fz 0;have O:=a.o.fz 1;have P:=a.o.fz 2;clear g i m n c f D;go_wp2;go_ret;exact ⟨rfl,b.o.1,b.o.2⟩
theorem Bv (p base:Nat) (o:Bool) (y:Wy) (w:World) (h:bQ w p base o y) (E:base<=p):
  Calls Tryz.prog 99 #[.pointer (some ⟨p,0,none⟩)] w fun e w'=>e=.returned (.int .i64 (Gl y).2)∧bQ w' p base true (Gl y).1∧w.grownBy w' (some p):=by
 have j:=ag h;obtain ⟨x,H,I,J,k,F,q,r⟩:=h;obtain ⟨s,t,u,v,z,A,B,C⟩:=qQ k;have G:=ag (r w (World.grownBy.refl _ _)).1;have l:=ag k;have K:=ag q;clear k F q r;go_enter Tryz.func99,Tryz.ntmps99;go_wp2_with fail
 refine (Zf (d:=y.1.1) [] none 0 0 0 w G.o.d (.inl ⟨rfl,.inl rfl⟩) rfl).mono ?_
 rintro e L ⟨dv,rfl,i,m⟩;obtain ⟨d,n⟩:=ai ((fC y.1.1 [] 0).1);rw [<-n] at i;obtain ⟨M,c1,a2,c2,a3,c3,e1⟩:=i.form;obtain ⟨n1,c⟩:=ai d.1.length;obtain ⟨n2,f⟩:=ai d.2.1.length;obtain ⟨n3,D⟩:=ai d.2.2.length;rw [<-c,<-f,<-D] at e1;subst e1;have g:=j.o.setDisk m (aC E (Nat.le_of_lt j.o.lt)) j.o.lt i;have b:=ag g;rw [n] at b;have a:=ag (l.o.a m);clear s t u v z A B C;obtain ⟨s,t,u,v,z,A,B,C⟩:=qQ a.o;have N:=a.o.fz 0;have O:=a.o.fz 1;have P:=a.o.fz 2;clear g i m n c f D;go_wp2;go_ret;exact ⟨rfl,b.o.1,b.o.2⟩
theorem CW (N:Int) (j:au) (k m:Nat) (l:ak) (p base:Nat) (o:Bool) (y:Wy) (w:World) (h:bQ w p base o y) (J:base<=p) (u:Rd w (.slice j k m) l):
  Calls Tryz.prog 106 #[.pointer (some ⟨p,0,none⟩),.int .i64 N,.slice j k m] w fun e w'=>e=.returned (.int .i64 (NZ N l y).2)∧bQ w' p base true (NZ N l y).1∧w.grownBy w' (some p):=by
 have n:=ag h;obtain ⟨x,O,P,Q,q,K,v,z⟩:=h;obtain ⟨A,B,C,D,E,F,G,H⟩:=qQ q;have L:=ag (z w (World.grownBy.refl _ _)).1;have r:=ag q;have R:=ag v;clear q K v z;have M:=ag u;clear u;go_enter Tryz.func106,Tryz.ntmps106;go_wp2_with fail
 refine (qzx (d:=y.1.1) N j k m l w L.o.d M.o).mono ?_
 rintro e S ⟨dv,rfl,i,s⟩;obtain ⟨d,t⟩:=ai ((fC y.1.1 [(false,N,l)] 1).1);rw [<-t] at i;obtain ⟨T,c1,a2,c2,a3,c3,e1⟩:=i.form;obtain ⟨n1,c⟩:=ai d.1.length;obtain ⟨n2,f⟩:=ai d.2.1.length;obtain ⟨n3,I⟩:=ai d.2.2.length;rw [<-c,<-f,<-I] at e1;subst e1;have g:=n.o.setDisk s (aC J (Nat.le_of_lt n.o.lt)) n.o.lt i;have b:=ag g;rw [t] at b;have a:=ag (r.o.a s);clear A B C D E F G H;obtain ⟨A,B,C,D,E,F,G,H⟩:=qQ a.o;have U:=a.o.fz 0;have V:=a.o.fz 1;have W:=a.o.fz 2;clear g i s t c f I;go_wp2;go_ret;exact ⟨rfl,b.o.1,b.o.2⟩
theorem qaj3 (s:ak) (i:Int) (j:au) (k m:Nat) (l:ak) (p base:Nat) (o:Bool) (y:Wy) (w:World) (h:bQ w p base o y) (D:base<=p) (u:Rd w (.slice j k m) l):
  Calls Tryz.prog 58 #[.pointer (some ⟨p,0,none⟩),.string (bs s),.int .i64 i,.slice j k m] w fun e w'=>e=.returned (.int .i64 (iQ s i l y).2)∧((iQ s i l y).2=0->bQ w' p base true (iQ s i l y).1)∧bQ w' p base false (iQ s i l y).1∧w.grownBy w' (some p):=by
 have E:=ag h;obtain ⟨x,U,V,W,n,F,v,A⟩:=h;obtain ⟨G,H,I,J,K,L,M,N⟩:=qQ n;have O:=ag (A w (World.grownBy.refl _ _)).1;have P:=ag n;have Q:=ag v;clear n F v A;have R:=ag u;clear u;go_enter Tryz.func58,Tryz.ntmps58;go_wp2_with fail
 refine (qou x y.1 s i w O.o Q.o).mono ?_
 rintro e S ⟨rfl,a⟩;have B:=ag (E.o.a a);have q:=ag (R.o.a a);have C:=ag (Dm p a);clear a G H I J K L M N;obtain ⟨z,b⟩:=ai (jl y.1 s i);rw [<-b];by_cases c:¬z=0
 ·have r:=ag (show iQ s i l y=(y,z) by unfold iQ;rw [if_pos (by rw [<-b];exact c),<-b])
  have T:=ag c;clear b;go_wp2;go_ret;rw [r.o];exact ⟨rfl,fun h=>absurd h T.o,B.o.any,C.o⟩
 rw [Decidable.not_not] at c;have r:=ag (show iQ s i l y=NZ (kH y.1 s i) l y by unfold iQ;rw [if_neg (by rw [<-b];simpa using c)]);subst c;clear b;go_wp2_with fail
 refine (CW (kH y.1 s i) j k m l p base o y S B.o D q.o).mono ?_
 rintro e X ⟨rfl,d,f⟩;have g:=ag d;have t:=ag (C.o.trans f);clear d f;go_wp2;go_ret;rw [r.o];exact ⟨rfl,fun _=>g.o,g.o.any,t.o⟩
theorem Q4 (n:Nat) (s:Stp) (p base:Nat) (o f:Bool) (y:Wy) (w:World) (h:bQ w p base o y) (i:(s y).1.2.1=y.2.1) (F:∀w,(callFunc n #[.pointer (some ⟨p,0,none⟩)]).run Tryz.prog w=.ok (.enter n #[.pointer (some ⟨p,0,none⟩)]) w)
  (m:y.2.1=0->Calls Tryz.prog n #[.pointer (some ⟨p,0,none⟩)] w fun e w'=>e=.returned (.int .i64 (s y).2)∧((s y).2=0->bQ w' p base f (s y).1)∧bQ w' p base false (s y).1∧w.grownBy w' (some p)):
  Calls Tryz.prog 56 #[.pointer (some ⟨p,0,none⟩),.func (.func n) #[.pointer (some ⟨p,0,none⟩)] #[]] w fun e w'=>e=.returned (.pointer (some ⟨p,0,none⟩))∧bQ w' p base f (jS s y)∧w.grownBy w' (some p):=by
 have G:=ag h;obtain ⟨x,S,T,U,d,q,t,u⟩:=h;obtain ⟨H,I,J,K,L,M,z,N⟩:=qQ d;clear d q t u;by_cases a:¬y.2.1=0
 ·have j:=ag (show jS s y=y by unfold jS;rw [if_neg a])
  have O:=ag (G.o.err f a);have V:=ag a;clear m;go_enter Tryz.func56,Tryz.ntmps56;go_wp2;go_ret;rw [j.o];exact ⟨rfl,O.o,World.grownBy.refl _ _⟩
 rw [Decidable.not_not] at a;have j:=ag (show jS s y=((s y).1.1,(s y).2,(s y).1.2.2) by unfold jS;rw [if_pos a]);have P:=ag (m a);have v:=ag (i.trans a);rw [a] at z;clear m a i;go_enter Tryz.func56,Tryz.ntmps56;go_wp2_with fail
 refine P.o.mono ?_
 rintro e A ⟨rfl,b,c,k⟩;obtain ⟨r,B⟩:=ai ((s y).2);rw [<-B] at b j ⊢;clear B;obtain ⟨C,l⟩:=ai ((s y).1);rw [<-l] at b c j v;clear l;have D:=ag (show bQ (A.setCell ⟨p,6,none⟩ (.int .i64 r)) p base f (C.1,r,C.2.2)∧w.grownBy (A.setCell ⟨p,6,none⟩ (.int .i64 r)) (some p) from by
  have E:=c.setErr r v.o;refine ⟨?_,k.trans E.2⟩;by_cases g:r=0
  ·exact ((b g).setErr r v.o).1
  ·exact E.1.err f g)
 obtain ⟨W,X,Q,R,d,q,t,u⟩:=c;obtain ⟨Y,Z,q2,q3,q4,q5,q6,q7⟩:=qQ d;have f6:=d.fz 6;clear H I J K L M z N d q t u b k;go_wp2;go_ret;rw [j.o];exact ⟨rfl,D.o.1,D.o.2⟩
theorem AF (n:Nat) (c1 c2:Value) (s:Stp) (p base:Nat) (o f:Bool) (y:Wy) (w:World) (h:bQ w p base o y) (i:(s y).1.2.1=y.2.1) (F:∀w,(callFunc n #[c1,c2]).run Tryz.prog w=.ok (.enter n #[c1,c2]) w)
  (m:y.2.1=0->Calls Tryz.prog n #[c1,c2] w fun e w'=>e=.returned (.int .i64 (s y).2)∧((s y).2=0->bQ w' p base f (s y).1)∧bQ w' p base false (s y).1∧w.grownBy w' (some p)):
  Calls Tryz.prog 56 #[.pointer (some ⟨p,0,none⟩),.func (.func n) #[] #[c1,c2]] w fun e w'=>e=.returned (.pointer (some ⟨p,0,none⟩))∧bQ w' p base f (jS s y)∧w.grownBy w' (some p):=by
 have G:=ag h;obtain ⟨x,S,T,U,d,q,t,u⟩:=h;obtain ⟨H,I,J,K,L,M,z,N⟩:=qQ d;clear d q t u;by_cases a:¬y.2.1=0
 ·have j:=ag (show jS s y=y by unfold jS;rw [if_neg a])
  have O:=ag (G.o.err f a);have V:=ag a;clear m;go_enter Tryz.func56,Tryz.ntmps56;go_wp2;go_ret;rw [j.o];exact ⟨rfl,O.o,World.grownBy.refl _ _⟩
 rw [Decidable.not_not] at a;have j:=ag (show jS s y=((s y).1.1,(s y).2,(s y).1.2.2) by unfold jS;rw [if_pos a]);have P:=ag (m a);have v:=ag (i.trans a);rw [a] at z;clear m a i;go_enter Tryz.func56,Tryz.ntmps56;go_wp2_with fail
 refine P.o.mono ?_
 rintro e A ⟨rfl,b,c,k⟩;obtain ⟨r,B⟩:=ai ((s y).2);rw [<-B] at b j ⊢;clear B;obtain ⟨C,l⟩:=ai ((s y).1);rw [<-l] at b c j v;clear l;have D:=ag (show bQ (A.setCell ⟨p,6,none⟩ (.int .i64 r)) p base f (C.1,r,C.2.2)∧w.grownBy (A.setCell ⟨p,6,none⟩ (.int .i64 r)) (some p) from by
  have E:=c.setErr r v.o;refine ⟨?_,k.trans E.2⟩;by_cases g:r=0
  ·exact ((b g).setErr r v.o).1
  ·exact E.1.err f g)
 obtain ⟨W,X,Q,R,d,q,t,u⟩:=c;obtain ⟨Y,Z,q2,q3,q4,q5,q6,q7⟩:=qQ d;have f6:=d.fz 6;clear H I J K L M z N d q t u b k;go_wp2;go_ret;rw [j.o];exact ⟨rfl,D.o.1,D.o.2⟩
theorem xF (n:Nat) (c1 c2 c3 c4:Value) (s:Stp) (p base:Nat) (o f:Bool) (y:Wy) (w:World) (h:bQ w p base o y) (i:(s y).1.2.1=y.2.1) (F:∀w,(callFunc n #[c1,c2,c3,c4]).run Tryz.prog w=.ok (.enter n #[c1,c2,c3,c4]) w)
  (m:y.2.1=0->Calls Tryz.prog n #[c1,c2,c3,c4] w fun e w'=>e=.returned (.int .i64 (s y).2)∧((s y).2=0->bQ w' p base f (s y).1)∧bQ w' p base false (s y).1∧w.grownBy w' (some p)):
  Calls Tryz.prog 56 #[.pointer (some ⟨p,0,none⟩),.func (.func n) #[] #[c1,c2,c3,c4]] w fun e w'=>e=.returned (.pointer (some ⟨p,0,none⟩))∧bQ w' p base f (jS s y)∧w.grownBy w' (some p):=by
 have G:=ag h;obtain ⟨x,S,T,U,d,q,t,u⟩:=h;obtain ⟨H,I,J,K,L,M,z,N⟩:=qQ d;clear d q t u;by_cases a:¬y.2.1=0
 ·have j:=ag (show jS s y=y by unfold jS;rw [if_neg a])
  have O:=ag (G.o.err f a);have V:=ag a;clear m;go_enter Tryz.func56,Tryz.ntmps56;go_wp2;go_ret;rw [j.o];exact ⟨rfl,O.o,World.grownBy.refl _ _⟩
 rw [Decidable.not_not] at a;have j:=ag (show jS s y=((s y).1.1,(s y).2,(s y).1.2.2) by unfold jS;rw [if_pos a]);have P:=ag (m a);have v:=ag (i.trans a);rw [a] at z;clear m a i;go_enter Tryz.func56,Tryz.ntmps56;go_wp2_with fail
 refine P.o.mono ?_
 rintro e A ⟨rfl,b,c,k⟩;obtain ⟨r,B⟩:=ai ((s y).2);rw [<-B] at b j ⊢;clear B;obtain ⟨C,l⟩:=ai ((s y).1);rw [<-l] at b c j v;clear l;have D:=ag (show bQ (A.setCell ⟨p,6,none⟩ (.int .i64 r)) p base f (C.1,r,C.2.2)∧w.grownBy (A.setCell ⟨p,6,none⟩ (.int .i64 r)) (some p) from by
  have E:=c.setErr r v.o;refine ⟨?_,k.trans E.2⟩;by_cases g:r=0
  ·exact ((b g).setErr r v.o).1
  ·exact E.1.err f g)
 obtain ⟨W,X,Q,R,d,q,t,u⟩:=c;obtain ⟨Y,Z,q2,q3,q4,q5,q6,q7⟩:=qQ d;have f6:=d.fz 6;clear H I J K L M z N d q t u b k;go_wp2;go_ret;rw [j.o];exact ⟨rfl,D.o.1,D.o.2⟩
theorem Ik (s:ak) (i:Int) (l:ak) (y:Wy):(iQ s i l y).1.2.1=y.2.1:=by unfold iQ;split<;>rfl
theorem Qn (x:FsV) (f:Fsd) (w:World) (h:RdX w x f) (D:WfX f):
  Calls Tryz.prog 55 #[x.val] w fun e w'=>∃p,e=.returned (.pointer (some ⟨p,0,none⟩))∧w.heap.size<=p∧bQ w' p w.heap.size false (kQ f)∧ah w w':=by
 have E:=ag D;clear D;obtain ⟨A,c⟩:=aj (w.alloc (.cells x.cs 32));have d:ah w A:=by rw [<-c];exact ae
 have F:=ag (show bf A w.heap.size x by rw [<-c];exact Bq.new _ _ _);obtain ⟨q,r,s,t,u,y⟩:=aV F.o;have G:=ag h;have L:=ag d;clear h d;unfold FsV.val;unfold FsV.cs at c;have z:aL (fun j=>bf j w.heap.size x∧ah w j):=fun A P h H=>⟨h.1.a H,h.2.trans (H.mono h.2.size)⟩
 go_enter Tryz.func55,Tryz.ntmps55;go_wp2_with fail
 try rw [c]
 clear q r s t u y c;refine gH z (by kernel_rfl) ⟨F.o,L.o⟩ ?_
 intro a;refine dm [0,1] (fuel:=4) (a':=?vU) (by kernel_rfl) (by kernel_rfl) (by kernel_rfl) ?lD a ?vV
 case lD=>
  iterate 2 (apply Yl.cons rfl rfl;focus (rintro j ⟨l,I⟩;obtain ⟨q,r,s,t,u,y⟩:=aV l;go_simp<;>with_reducible rfl);try simp only [az])
  exact Yl.nil
 refine qo z (i:=2) (v:=.int .i64 (fe f)) rfl (by kernel_rfl) (by rfl) (by go_simp) a (WX x f _ (G.o.a a.2) E.o) ?_
 clear a;intro b a;try simp only [az]
 refine dm [3] (fuel:=2) (a':=?Al) (by kernel_rfl) (by kernel_rfl) (by kernel_rfl) ?oD a ?Am
 case oD=>
  iterate 1 (apply Yl.cons rfl rfl;focus (rintro j ⟨l,I⟩;obtain ⟨q,r,s,t,u,y⟩:=aV l;go_simp<;>with_reducible rfl);try simp only [az])
  exact Yl.nil
 have B:=z _ (b.alloc (.cells #[.slice x.a1 x.n1 x.c1,.slice x.a2 x.n2 x.c2,.slice x.a3 x.n3 x.c3,.int .u32 x.g,.slice x.a4 x.n4 x.c4,.slice x.a5 x.n5 x.c5,.int .i64 (fe f),.slice none 0 0] 159)) a (ae);have m:=ag (show Ij (b.alloc (.cells #[.slice x.a1 x.n1 x.c1,.slice x.a2 x.n2 x.c2,.slice x.a3 x.n3 x.c3,.int .u32 x.g,.slice x.a4 x.n4 x.c4,.slice x.a5 x.n5 x.c5,.int .i64 (fe f),.slice none 0 0] 159)) b.heap.size x (fe f) none 0 0 from Bq.new _ _ _);have J:=ag a.2.size;refine uS (i:=4) (v:=.pointer (some ⟨b.heap.size,0,none⟩)) (w':=b.alloc (.cells #[.slice x.a1 x.n1 x.c1,.slice x.a2 x.n2 x.c2,.slice x.a3 x.n3 x.c3,.int .u32 x.g,.slice x.a4 x.n4 x.c4,.slice x.a5 x.n5 x.c5,.int .i64 (fe f),.slice none 0 0] 159)) rfl (by kernel_rfl) (by rfl) (by go_simp) B ?_
 clear a;have a:=B;try simp only [az]
 refine dm [5] (fuel:=0) (a':=?Qp) (by kernel_rfl) (by kernel_rfl) (by kernel_rfl) ?Aq a ?Qq
 case Aq=>
  iterate 1 (apply Yl.cons rfl rfl;focus (rintro j ⟨l,I⟩;obtain ⟨q,r,s,t,u,y⟩:=aV l;go_simp<;>with_reducible rfl);try simp only [az])
  exact Yl.nil
 refine wpAnyH_done (by kernel_rfl) ?_ _
 refine NoPanic.normal ?_
 try simp only [az]
 have n:=ag a.2;clear a B z;obtain ⟨M,C⟩:=aj (b.alloc (.cells #[.slice x.a1 x.n1 x.c1,.slice x.a2 x.n2 x.c2,.slice x.a3 x.n3 x.c3,.int .u32 x.g,.slice x.a4 x.n4 x.c4,.slice x.a5 x.n5 x.c5,.int .i64 (fe f),.slice none 0 0] 159));rw [C] at n m;have K:=ag (show bQ M b.heap.size w.heap.size false (kQ f) from ⟨x,none,0,0,m.o,rfl,E.o,fun w' N=>⟨G.o.a (n.o.grown N n.o.size (by intro k O;cases O;exact J.o)),.inl ⟨rfl,.inl rfl⟩,fun h=>by cases h⟩⟩);rw [<-C] at K n;clear C;go_wp2;go_ret;exact ⟨_,rfl,J.o,K.o,n.o⟩
end Go.Proofs.YthpammbgcidloaaGreat
