/-
  What super's number and its closure do: four bytes of a row are put, or read.
-/
import Derived.Test.YthpammbgcidloaaGreatRTwin
set_option maxHeartbeats 2000000
set_option maxRecDepth 100000
namespace Go.Proofs.YthpammbgcidloaaGreat
open Go.RowKit
set_option linter.all false
theorem SY {a:World} {base y B:Nat} {X Z:Value} {L:ak} {n:au} {f o:Nat} {l:List Pu} {N:Int} {c:ak} {q:au} {r:Nat}
  (D:B<=a.heap.size) (hd:a.heap[y]? =some (.cells #[X,.slice n f o,Z] 26 (0,0))) (R:aX a base X L) (S:kG a B (.slice n f o) l) (T:aX a B (.slice q c.length r) c) (M:f=l.length∧l.length<=1000000):
  ∃s v m,(Builtin.append_ #[23,23] 23 #[.slice n f o,.slice (some ⟨a.heap.size,0,none⟩) 1 1]).run Tryz.prog (a.alloc (.cells #[.int .i64 N,.slice q c.length r] 94))=.ok (.slice s (f+1) v) m∧a.grownBy m (Value.slice n f o).ownBlock∧
   m.heap[y]? =some (.cells #[X,.slice n f o,Z] 26 (0,0))∧aX m base X L∧kG m B (.slice s (f+1) v) (l++[(N,c)]):=by
 obtain ⟨rfl,M⟩:=M;obtain ⟨A,E⟩:=ai (a.alloc (.cells #[.int .i64 N,.slice q c.length r] 94));rw [<-E];have x:ah a A:=by rw [E];exact ae
 have U:∀j u,([Value.int .i64 N,.slice q c.length r]:List Value)[j]? =some u->A.cell? ((⟨a.heap.size,0,none⟩:Addr).add j)=some u:=by
  intro j u V;rw [E];have:=World.news_of_block (w:=a.alloc (.cells #[.int .i64 N,.slice q c.length r] 94)) (heap_alloc_new a _) j u (by simpa using V)
  simpa using this
 obtain ⟨W,C,F,G,H⟩:=info_parts Tryz.infoPut;obtain ⟨z,Y,I,q3⟩:=S.a x;obtain ⟨v9,m,bD,O,d,_⟩:=run_append_own (P:=Tryz.prog) A B 23 23 94 W _ 2 32 Tryz.underlying23 C F G H rfl (by decide) _ _ _ I ⟨a.heap.size,0,none⟩ 1 1 [.int .i64 N,.slice q c.length r] rfl U (by intro u Q;simp at Q;rcases Q with rfl | rfl<;>rfl) (by unfold maxLen;omega) (by omega) (aC D x.size);have J:=eH _ _ _ _ hd x;have b:∀k,(Value.slice n l.length o).ownBlock=some k->∃cs t fr,A.heap[k]? =some (.cells cs t fr)∧t≠5:=fun k hk=>by
  obtain ⟨cs,h⟩:=vk I k hk;exact ⟨cs,_,_,h,by decide⟩
 have ib:m.heap[y]? =some (.cells #[X,.slice n l.length o,Z] 26 (0,0)):=by
  refine (d.block y (Array.getElem?_eq_some_iff.1 J).1 ?_).trans J;intro e;obtain ⟨cs,h⟩:=vk I y e.symm;rw [J] at h;cases h
 obtain ⟨s,v,rfl⟩:∃s v,v9=.slice s (l.length+1) v:=by
  rcases O.2 with ⟨_,h⟩ | ⟨g,cap,aa,h,_⟩
  ·exact absurd h (by omega)
  ·exact ⟨_,_,h⟩
 refine ⟨s,v,m,bD, ?_,ib,(R.a x).keptT d b,⟨z++[((N,c),.slice q c.length r)],by simp [Y], ?_,fun p K=>?_⟩⟩
 ·have:=xB x
  exact ⟨d.os.trans this.os,d.tape.trans this.tape,d.output.trans this.output,aC this.size d.size,fun i C hr=>(d.block i (Nat.lt_of_lt_of_le C this.size) hr).trans (this.block i C (by simp))⟩
 ·rw [YG,List.length_append];exact O
 ·rcases List.mem_append.1 K with h | h
  ·exact (q3 p h).keptT d b
  ·rw [List.mem_singleton.1 h];exact (T.a x).keptT d b
theorem qv3 {d:Dk} {v:Value} (w:World) (hD:RdD w v d) (b1:d.1.length<=140737488355328) (b2:d.2.1.length<=1000000) (b3:d.2.2.length<=1000000) (d2:∀p∈d.2.1,p.2.length<=140737488355328) (d3:∀p∈d.2.2,p.2.2.length<=140737488355328):
  Calls Tryz.prog 18 #[v] w fun e w'=>∃x y z B,e=.returned (.agg #[x,y,z])∧w.heap.size<=B∧aX w' w.heap.size x d.1∧(∀g,x.ownBlock=some g->g<B)∧kG w' B y d.2.1∧lQ w' B z d.2.2∧B<=w'.heap.size∧ah w w':=by
 obtain ⟨I,c1,a2,c2,a3,c3,rfl,h1,h2,h3⟩:=hD.form;have H1:=ag h1;have H2:=ag h2;have H3:=ag h3;have a0:=ag b1;have ab:=ag b2;have a4:=ag b3;have El:=ag d2;have a5:=ag d3;clear hD h1 h2 h3 b1 b2 b3 d2 d3;generalize e1:d.1.length=n1 at *;generalize e2:d.2.1.length=n2 at *;generalize e3:d.2.2.length=n3 at *;have E1:=ag e1;have E2:=ag e2;have E3:=ag e3;clear e1 e2 e3;have bn:n2<=1000000:=by have:=ab.o;have:=E2.o;omega
 obtain ⟨A,L⟩:=aj ((w.alloc (.cells #[.slice I n1 c1,.slice a2 n2 c2,.slice a3 n3 c3] 26)).alloc (.cells #[.slice none 0 0,.slice none 0 0,.slice none 0 0] 26));have Q:ah w A:=by rw [<-L];exact (ae).alloc (by simp) _
 have k0:A.cell? ⟨w.heap.size,0,none⟩=some (.slice I n1 c1):=by rw [<-L];simp
 have k1:A.cell? ⟨w.heap.size,1,none⟩=some (.slice a2 n2 c2):=by rw [<-L];simp
 have k2:A.cell? ⟨w.heap.size,2,none⟩=some (.slice a3 n3 c3):=by rw [<-L];simp
 have ac:A.heap[w.heap.size+1]? =some (.cells #[.slice none 0 0,.slice none 0 0,.slice none 0 0] 26 (0,0)):=by rw [<-L];exact pq _ _ _
 have bo:w.heap.size+2<=A.heap.size:=by rw [<-L];simp
 obtain ⟨vx,S,zL,r,ad⟩:=Wd A A.heap.size aI (.slice none 0 0) [] (World.ownsRow_nil _ _ _ _) (.slice I n1 c1) d.1 (H1.o.a Q) (by simpa [E1.o] using a0.o);obtain ⟨M,O,rfl⟩:=r.form;have J:ah A S:=aB.grown ad aI (fun k hk=>by cases hk);have al:A.heap[w.heap.size]? =some (.cells #[.slice I n1 c1,.slice a2 n2 c2,.slice a3 n3 c3] 26 (0,0)):=by
  rw [<-L,heap_alloc_old _ _ (by simp)];exact heap_alloc_new _ _
 have am:([]++d.1:ak).length=n1:=by simpa using E1.o
 rw [am] at zL r;have r:aX S A.heap.size (.slice M n1 O) d.1:=r;obtain ⟨T,ow⟩:=aj (S.alloc (.cells #[.slice M n1 O,.slice none 0 0,.slice none 0 0] 26));have U:ah S T:=by rw [<-ow];exact ae
 have an:T.heap[S.heap.size]? =some (.cells #[.slice M n1 O,.slice none 0 0,.slice none 0 0] 26 (0,0)):=by rw [<-ow];exact heap_alloc_new _ _
 have ao:T.heap.size=S.heap.size+1:=by rw [<-ow];simp
 have Cy:=J.trans (U.mono J.size);have a6:ah w T:=Q.trans (Cy.mono Q.size);have a7:=eH _ _ _ _ al Cy;have a8:=eH _ _ _ _ ac Cy;have We:=ag (r.a U);have ap:=ag (show ∀g,(Value.slice M n1 O).ownBlock=some g->g<T.heap.size from fun g hg=>by have:=(World.ownsRow.lt r g hg).2;omega);have aq:=J.size;have ar:=ag ow;clear ow;go_enter Tryz.func18,Tryz.ntmps18;go_wp2_with (at_builtin;go_must (refine Zo A rfl (.const (.slice none 0 0)) (.tmp 6) 22 rfl (v:=.slice none 0 0) (y:=.slice I n1 c1) rfl rfl zL ?_))
 rw [ar.o];obtain ⟨gO,av⟩:=ai S.heap.size;obtain ⟨B,eB⟩:=ai T.heap.size;rw [<-av] at an ao aq ⊢;rw [<-eB] at ap ao;have aw:B<=T.heap.size:=by omega
 clear L ar zL r ad J U Cy k0 k1 k2 al ac am av eB;go_loopw [4] (fun i wr=>∃(k:Nat) (G:au) (s H:Nat),k<=n2∧i=.int .i64 k∧wr.heap[gO]? =some (.cells #[.slice M n1 O,.slice G s H,.slice none 0 0] 26 (0,0))∧af (aX wr A.heap.size (.slice M n1 O) d.1)∧af (kG wr B (.slice G s H) (d.2.1.take k))∧af (s=(d.2.1.take k).length)∧wr.heap[w.heap.size]? =some (.cells #[.slice I n1 c1,.slice a2 n2 c2,.slice a3 n3 c3] 26 (0,0))∧wr.heap[w.heap.size+1]? =some (.cells #[.slice none 0 0,.slice none 0 0,.slice none 0 0] 26 (0,0))∧B<=wr.heap.size∧ah w wr) (fun i _=>n2 - (intOf i).toNat)
 case atStart=>exact ⟨0,none,0,0,Nat.zero_le _,rfl,an,We.o,⟨[],rfl,World.ownsRow_nil _ _ _ _,by simp⟩,rfl,a7,a8,aw,a6⟩
 case round=>
  obtain ⟨k,G,s,H,hk,rfl,n,hX,V,ba,W,X,F,a⟩:=hrel;obtain ⟨m0,m1,m2,_⟩:=cells3 W;by_cases bp:k<n2
  ·have ax:(k:Int)<n2:=by omega
   have K:k<d.2.1.length:=by have:=E2.o;omega
   obtain ⟨b,l,rfl,q0,x,m,c9,q1,q2,q3⟩:=H2.o.at k K;have br:b<w.heap.size:=World.block_lt_of_cell? w _ q0;have Y:w.heap.size<B:=by omega
   have ay:b<B:=by omega
   have HQ:=ag (q2.a a);have yE:=ag q3;have aD:s=(d.2.1.take k).length∧(d.2.1.take k).length<=1000000:=⟨ba.o,by rw [List.length_take];have:=ab.o;have:=E2.o;omega⟩;have aE:=ag aD;obtain ⟨_,yy,_,_⟩:=cells3 n;have hK:aL (fun c=>(c.cell? ⟨w.heap.size,0,none⟩=some (.slice I n1 c1)∧c.cell? ⟨w.heap.size,1,none⟩=some (.slice (some ⟨b,l,none⟩) n2 c2)∧c.cell? ⟨w.heap.size,2,none⟩=some (.slice a3 n3 c3))∧(c.cell? ⟨b,l+k*2,none⟩=some (.int .i64 (d.2.1[k]).1)∧c.cell? ⟨b,l+k*2+1,none⟩=some (.slice x m c9))∧c.cell? ⟨gO,1,none⟩=some (.slice G s H)∧ah w c):=((aR _ _).and ((aR _ _).and (aR _ _))).and (((aR _ _).and (aR _ _)).and ((aR _ _).and (jW _)));have Z:(fun c=>(c.cell? ⟨w.heap.size,0,none⟩=some (.slice I n1 c1)∧c.cell? ⟨w.heap.size,1,none⟩=some (.slice (some ⟨b,l,none⟩) n2 c2)∧c.cell? ⟨w.heap.size,2,none⟩=some (.slice a3 n3 c3))∧(c.cell? ⟨b,l+k*2,none⟩=some (.int .i64 (d.2.1[k]).1)∧c.cell? ⟨b,l+k*2+1,none⟩=some (.slice x m c9))∧c.cell? ⟨gO,1,none⟩=some (.slice G s H)∧ah w c) wr:=⟨⟨m0,m1,m2⟩,⟨aR _ _ _ _ q0 a,aR _ _ _ _ q1 a⟩,yy,a⟩;clear q0 q1 q2 q3 aD;go_wp2;refine rH hK 11 (by kernel_rfl) Z ?_
   intro P;refine pg [0,1,2,3,4,5,6] (fuel:=5) (a':=?iD) (by kernel_rfl) (by kernel_rfl) (by kernel_rfl) ?dn P ?iE
   case dn=>
    iterate 7 (apply Yl.cons rfl (by kernel_rfl);focus (rintro c ⟨⟨x1,x2,x3⟩,⟨y1,y2⟩,z1,aF⟩;go_simp<;>with_reducible rfl);try simp only [az])
    exact Yl.nil
   refine uU (i:=7) (R:=fun v wy=>∃p kk,v=.agg #[.int .i64 (d.2.1[k]).1,.slice p (d.2.1[k]).2.length kk]∧aX wy wr.heap.size (.slice p (d.2.1[k]).2.length kk) (d.2.1[k]).2∧ah wr wy) rfl (by kernel_rfl) (by rfl) (by go_simp) ((OZ (d.2.1[k]).1 x m c9 (d.2.1[k]).2 wr.drew yE.o (El.o _ (List.getElem_mem K)) (HQ.o.a aG)).mono fun e wy ⟨v,h1,h2,h3⟩=>by obtain ⟨p,kk,rfl⟩:=h2.form;exact ⟨_,h1,p,kk,rfl,h2,aB.drew.trans h3⟩) ?_
   rintro bt w7 ⟨p7,k7,rfl,mi,C⟩;have eu:=hK _ _ Z C;obtain ⟨a9,aa,w9,bD,bF,ib,aH,aJ⟩:=SY (N:=(d.2.1[k]).1) (aC F C.size) (eH _ _ _ _ n C) (hX.o.a C) (V.o.a C) (mi.mono F) aE.o;have bI:ah w w9:=(a.trans (C.mono a.size)).grown bF (aC a.size C.size) (fun j f=>by
    obtain ⟨z,_,h,_⟩:=V.o;have:=(h.lt j f).1
    omega)
   have D:∀bb,bb<B->(∀oo u,w7.cell? ⟨bb,oo,none⟩=some u->w9.cell? ⟨bb,oo,none⟩=some u):=fun bb bv oo u h=>bF.cell h (fun e=>by
    obtain ⟨z,_,hh,_⟩:=V.o;have:=(hh.lt bb e.symm).1
    omega)
   have bO:(fun c=>(c.cell? ⟨w.heap.size,0,none⟩=some (.slice I n1 c1)∧c.cell? ⟨w.heap.size,1,none⟩=some (.slice (some ⟨b,l,none⟩) n2 c2)∧c.cell? ⟨w.heap.size,2,none⟩=some (.slice a3 n3 c3))∧(c.cell? ⟨b,l+k*2,none⟩=some (.int .i64 (d.2.1[k]).1)∧c.cell? ⟨b,l+k*2+1,none⟩=some (.slice x m c9))∧c.cell? ⟨gO,1,none⟩=some (.slice G s H)∧ah w c) w9:=by
    obtain ⟨⟨x1,x2,x3⟩,⟨y1,y2⟩,z1,aF⟩:=eu;obtain ⟨_,zz,_,_⟩:=cells3 ib;exact ⟨⟨D _ Y _ _ x1,D _ Y _ _ x2,D _ Y _ _ x3⟩,⟨D _ ay _ _ y1,D _ ay _ _ y2⟩,zz,bI⟩
   obtain ⟨ws,bP,bc,t⟩:=Nl (.slice a9 (s+1) aa) ib;obtain ⟨z1,z2,z3,z4⟩:=cells3 ib;refine ⟨eu, ?_⟩;clear P;have P:=eu;try simp only [az]
   refine lL (i:=8) (v:=.slice (some ⟨w7.heap.size,0,none⟩) 1 1) (w':=w7.alloc (.cells #[.int .i64 (d.2.1[k]).1,.slice p7 (d.2.1[k]).2.length k7] 94)) rfl (by kernel_rfl) (by rfl) (by go_simp) (fun _=>hK _ _ P (ae)) ?_
   try simp only [az]
   refine lL (i:=9) (v:=.slice a9 (s+1) aa) (w':=w9) rfl (by kernel_rfl) (by rfl) (BG (v:=.slice G s H) (y:=.slice (some ⟨w7.heap.size,0,none⟩) 1 1) rfl rfl rfl bD) (fun _=>bO) ?_
   clear P;have P:=bO;try simp only [az]
   refine uy (i:=10) (v:=?wK) rfl (by kernel_rfl) (by kernel_rfl) (by kernel_rfl) rfl (by kernel_rfl) (by kernel_rfl) (by rfl) ?lU P ?wL
   case lU=>(rintro c ⟨⟨x1,x2,x3⟩,⟨y1,y2⟩,z1,aF⟩;go_simp<;>with_reducible rfl)
   try simp only [az]
   refine rJ (i:=11) (w':=ws) rfl (by kernel_rfl) (by kernel_rfl) (by rfl) (by rw [<-bP];go_simp) ?_
   try simp only [az]
   refine rM (by kernel_rfl) ?_ _
   refine NoPanic.normal ?_
   have qa:=C;have Gn:w9.heap[w.heap.size]? =_:=(bF.block _ (Nat.lt_of_lt_of_le (Array.getElem?_eq_some_iff.1 W).1 C.size) (fun e=>by
    obtain ⟨z,_,h,_⟩:=V.o;have:=(h.lt _ e.symm).1
    omega)).trans (eH _ _ _ _ W C)
   have Gp:w9.heap[w.heap.size+1]? =_:=(bF.block _ (Nat.lt_of_lt_of_le (Array.getElem?_eq_some_iff.1 X).1 C.size) (fun e=>by
    obtain ⟨z,_,h,_⟩:=V.o;have:=(h.lt _ e.symm).1
    omega)).trans (eH _ _ _ _ X C)
   have aK:=(t.block _ (Array.getElem?_eq_some_iff.1 Gn).1 (by intro e;injection e with e;omega)).trans Gn;have aM:=(t.block _ (Array.getElem?_eq_some_iff.1 Gp).1 (by intro e;injection e with e;omega)).trans Gp;have bd:ah w ws:=bI.grown t bI.size (fun j f=>by cases f;omega);have aN:=aH.keptT t (fun j f=>by cases f;exact ⟨_,_,_,ib,by decide⟩);have aO:=aJ.keptT t (fun j f=>by cases f;exact ⟨_,_,_,ib,by decide,by decide⟩);have wM:B<=ws.heap.size:=aC F (aC C.size (aC bF.size t.size));have be:=ag aN;have bg:=ag aO;clear P eu bO Z hK bD aN aO bP z1 z2 z3 z4 m0 m1 m2 yy aH aJ D Gn Gp t bF ib;go_wp2;go_roundw
   case rel=>
    refine ⟨k+1,a9,s+1,aa,by omega,by go_num,bc,be, ?_, ?_,aK,aM,wM,bd⟩
    ·show kG _ _ _ _
     rw [List.take_succ_eq_append_getElem K];exact bg.o
    ·show _=_
     rw [List.take_succ_eq_append_getElem K,List.length_append,aE.o.1];rfl
   case measure=>simp [intOf]<;>omega
  ·have ax:decide ((k:Int)<n2)=false:=aA (by omega)
   obtain ⟨o0,o1,o2,o3⟩:=cells3 n;have aP:kG wr B (.slice G s H) d.2.1:=by
    have:=V.o
    rw [List.take_of_length_le (by have:=E2.o;omega)] at this;exact this
   have bh:=ag aP;clear aP;go_wp2_with fail
   refine (qr0 a3 n3 c3 d.2.2 _ E3.o.symm (by have:=a4.o;have:=E3.o;omega) a5.o (H3.o.a a)).mono ?_
   rintro e bi ⟨vz,rfl,hZ,vB⟩;obtain ⟨pz,kz,rfl⟩:=hZ.rd.form;have mJ:=eH _ _ _ _ n vB;have zM:=eH _ _ _ _ X vB;have Gq:ah w bi:=a.trans (vB.mono a.size);obtain ⟨wu,bw,Em,q⟩:=Nn (.slice pz d.2.2.length kz) mJ;obtain ⟨u1,u2,u3,u4⟩:=cells3 mJ;obtain ⟨t1,t2,t3,t4⟩:=cells3 Em;have aS:some (w.heap.size+1)≠some gO:=fun e=>by injection e with e;omega
   have xM:=(q.block _ (Array.getElem?_eq_some_iff.1 zM).1 aS).trans zM;obtain ⟨wv,bz,aT,E⟩:=ou (.slice M n1 O) (.slice G s H) (.slice pz d.2.2.length kz) xM;obtain ⟨r1,r2,r3,r4⟩:=cells3 xM;obtain ⟨f1,f2,f3,f4⟩:=cells3 aT;have bj:ah w wv:=(Gq.grown q Gq.size (fun j f=>by cases f;omega)).grown E (aC Gq.size q.size) (fun j f=>by cases f;simp);have bk:=ag (((hX.o.a vB).keptT q (fun j f=>by cases f;exact ⟨_,_,_,mJ,by decide⟩)).keptT E (fun j f=>by cases f;exact ⟨_,_,_,xM,by decide⟩));have bl:=ag (((bh.o.a vB).keptT q (fun j f=>by cases f;exact ⟨_,_,_,mJ,by decide,by decide⟩)).keptT E (fun j f=>by cases f;exact ⟨_,_,_,xM,by decide,by decide⟩));have bm:=ag (((hZ.mono F).keptT q (fun j f=>by cases f;exact ⟨_,_,_,mJ,by decide,by decide⟩)).keptT E (fun j f=>by cases f;exact ⟨_,_,_,xM,by decide,by decide⟩));have O5:B<=wv.heap.size:=aC F (aC vB.size (aC q.size E.size));clear Em q aT E n hX V mJ zM xM hZ vB;go_wp2;refine bodyPost_ret (v:=.agg #[.slice M n1 O,.slice G s H,.slice pz d.2.2.length kz]) ?_ rfl ⟨_,_,_,B,rfl,by omega,bk.o.mono (by omega),ap.o,bl.o,bm.o,O5,bj⟩
   simp [results,Tryz.results18,go_sem, *]
theorem kC {d e:Dk} {v u:Value} (w:World) (hv:RdD w v d) (hu:RdD w u e):
  Calls Tryz.prog 87 #[v,u] w fun r w'=>r=.returned (.bool (decide (d.1=e.1∧d.2.1=e.2.1)))∧ah w w':=by
 obtain ⟨I,J,a2,j,a3,l,rfl,h1,K,h3⟩:=hv.form;obtain ⟨c1,L,c2,M,c3,O,rfl,k1,k2,k3⟩:=hu.form;have oN:d.2.1.length<=maxLen:=K.len_le;have H1:=ag h1;have H2:=ag K;have K1:=ag k1;have K2:=ag k2;clear h1 K h3 k1 k2 k3 hv hu;unfold maxLen at oN;generalize e1:d.1.length=n1 at *;generalize e2:d.2.1.length=n2 at *;generalize e3:d.2.2.length=n3 at *;generalize g1:e.1.length=m1 at *;generalize g2:e.2.1.length=m2 at *;generalize g3:e.2.2.length=m3 at *;have Q:=ag e2;have R:=ag g2;clear e1 e2 e3 g1 g2 g3;obtain ⟨s,F⟩:=aj ((w.alloc (.cells #[.slice I n1 J,.slice a2 n2 j,.slice a3 n3 l] 26)).alloc (.cells #[.slice c1 m1 L,.slice c2 m2 M,.slice c3 m3 O] 26));have b:ah w s:=by rw [<-F];exact (ae).alloc (by simp) _
 have t:s.heap[w.heap.size]? =some (.cells #[.slice I n1 J,.slice a2 n2 j,.slice a3 n3 l] 26 (0,0)):=by
  rw [<-F,heap_alloc_old _ _ (by simp)];exact heap_alloc_new _ _
 have x:s.heap[w.heap.size+1]? =some (.cells #[.slice c1 m1 L,.slice c2 m2 M,.slice c3 m3 O] 26 (0,0)):=by rw [<-F];exact pq _ _ _
 obtain ⟨S,T,U,_⟩:=cells3 t;obtain ⟨V,W,X,_⟩:=cells3 x;have Y:=ik (P:=Tryz.prog) 22 5 9 Tryz.underlying22 Tryz.underlying5 Tryz.underlying9 (H1.o.a b);have y:=ik (P:=Tryz.prog) 22 5 9 Tryz.underlying22 Tryz.underlying5 Tryz.underlying9 (K1.o.a b);by_cases c:d.1=e.1
 case neg=>
  have z:=ag (show decide (d.1=e.1∧d.2.1=e.2.1)=false by simp [c]);have hq:((bs d.1).toList !=(bs e.1).toList)=true:=by
   have:=FU d.1 e.1
   rw [decide_eq_false c] at this;simp only [bne,this];rfl
  have A:((bs d.1).toList==(bs e.1).toList)=false:=by
   have:=FU d.1 e.1
   rw [decide_eq_false c] at this;exact this
  have am:¬(bs d.1).toList=(bs e.1).toList:=by
   intro h;rw [h] at A;simp at A
  clear c;go_enter Tryz.func87,Tryz.ntmps87;go_wp2;go_ret;exact ⟨by first | rfl | (rw [z.o];rfl),b⟩
 have z:=ag (show decide (d.1=e.1∧d.2.1=e.2.1)=decide (d.2.1=e.2.1) by simp [c]);rw [<-c] at y;clear c;by_cases hn:n2=m2
 case neg=>
  have an:((n2:Int) !=m2)=true:=by simpa using (by omega:¬(n2:Int)=m2)
  have m:=ag (show decide (d.2.1=e.2.1)=false by
   simp only [decide_eq_false_iff_not];intro h;apply hn;rw [<-Q.o,<-R.o,h])
  go_enter Tryz.func87,Tryz.ntmps87;go_wp2;go_ret;exact ⟨by first | rfl | (rw [z.o,m.o];rfl),b⟩
 subst hn;go_enter Tryz.func87,Tryz.ntmps87;go_wp2;clear F Y y S T U V W X;go_loopw [5] (fun i wr=>∃k:Nat,k<=n2∧i=.int .i64 k∧af (d.2.1.take k=e.2.1.take k)∧ah s wr) (fun i _=>n2 - (intOf i).toNat)
 case atStart=>exact ⟨0,Nat.zero_le _,rfl,rfl,aB⟩
 case round=>
  obtain ⟨k,hk,rfl,B,a⟩:=hrel;have Z:ah w wr:=b.trans (a.mono b.size);obtain ⟨S,T,U,_⟩:=cells3 (eH _ _ _ _ t a);obtain ⟨V,W,X,_⟩:=cells3 (eH _ _ _ _ x a);by_cases ao:k<n2
  ·have C:(k:Int)<n2:=by omega
   have D:k<d.2.1.length:=by have:=Q.o;omega
   have om:k<e.2.1.length:=by have:=R.o;omega
   obtain ⟨b1,o1,rfl,G,x9,m9,d9,q1,q2,q3⟩:=(H2.o.a b).at k D;obtain ⟨b2,o2,rfl,H,y9,n9,f9,r1,r2,r3⟩:=(K2.o.a b).at k om;clear q3 r3;have HQ:=ag q2;have HR:=ag r2;obtain ⟨⟨N,L1⟩,hp⟩:∃p:Pu,d.2.1[k]=p:=⟨_,rfl⟩;obtain ⟨⟨N2,L2⟩,n⟩:∃p:Pu,e.2.1[k]=p:=⟨_,rfl⟩;have HP:=ag hp;have Cx:=ag n;rw [hp] at G HQ;rw [n] at H HR;dsimp only at G H HQ HR;have lI:=aR _ _ _ _ G a;have aa:=aR _ _ _ _ q1 a;have ab:=aR _ _ _ _ H a;have ac:=aR _ _ _ _ r1 a;clear hp n q2 r2 G q1 H r1;obtain ⟨r,er⟩:∃r:Bool,decide (((N,L1):Pu)=(N2,L2))=r:=⟨_,rfl⟩;have q:=ag er;clear er;have hK:aL (fun f=>(f.cell? ⟨w.heap.size,0,none⟩=some (.slice I n1 J)∧f.cell? ⟨w.heap.size,1,none⟩=some (.slice (some ⟨b1,o1,none⟩) n2 j)∧f.cell? ⟨w.heap.size,2,none⟩=some (.slice a3 n3 l))∧(f.cell? ⟨w.heap.size+1,0,none⟩=some (.slice c1 m1 L)∧f.cell? ⟨w.heap.size+1,1,none⟩=some (.slice (some ⟨b2,o2,none⟩) n2 M)∧f.cell? ⟨w.heap.size+1,2,none⟩=some (.slice c3 m3 O))∧(f.cell? ⟨b1,o1+k*2,none⟩=some (.int .i64 N)∧f.cell? ⟨b1,o1+k*2+1,none⟩=some (.slice x9 m9 d9))∧(f.cell? ⟨b2,o2+k*2,none⟩=some (.int .i64 N2)∧f.cell? ⟨b2,o2+k*2+1,none⟩=some (.slice y9 n9 f9))∧ah s f):=((aR _ _).and ((aR _ _).and (aR _ _))).and (((aR _ _).and ((aR _ _).and (aR _ _))).and (((aR _ _).and (aR _ _)).and (((aR _ _).and (aR _ _)).and (jW _))));go_wp2
   refine gH hK (by kernel_rfl) ⟨⟨S,T,U⟩,⟨V,W,X⟩,⟨lI,aa⟩,⟨ab,ac⟩,a⟩ ?_
   intro g;refine dm [0,1,2,3,4,5,6,7,8,9] (fuel:=2) (a':=?iD) (by kernel_rfl) (by kernel_rfl) (by kernel_rfl) ?dn g ?iE
   case dn=>
    iterate 10 (apply Yl.cons rfl (by kernel_rfl);focus (rintro f ⟨⟨x1,x2,x3⟩,⟨y1,y2,y3⟩,⟨z1,z2⟩,⟨v1,v2⟩,ad⟩;go_simp<;>with_reducible rfl);try simp only [az])
    exact Yl.nil
   refine qo hK (i:=10) (v:=.bool r) rfl (by kernel_rfl) (by rfl) (by go_simp) g (CE q.o (Cz (N,L1) (N2,L2) x9 y9 m9 d9 n9 f9 _ (HQ.o.a g.2.2.2.2) (HR.o.a g.2.2.2.2))) ?_
   clear g;intro ap g;try simp only [az]
   refine bZ (i:=11) (v:=?Np) rfl (by kernel_rfl) (by kernel_rfl) (by kernel_rfl) (by rfl) ?zx g ?Nq
   case zx=>(rintro f ⟨⟨x1,x2,x3⟩,⟨y1,y2,y3⟩,⟨z1,z2⟩,⟨v1,v2⟩,ad⟩;go_simp<;>with_reducible rfl)
   try simp only [az]
   refine wpAnyH_done (by kernel_rfl) ?_ _
   refine NoPanic.normal ?_
   obtain ⟨_,_,_,_,E⟩:=g;have al:=b.trans (E.mono b.size);cases r
   ·have m:=ag (show decide (d.2.1=e.2.1)=false by
     simp only [decide_eq_false_iff_not];intro h;have h':d.2.1[k]=e.2.1[k]:=by simp only [h]
     rw [HP.o,Cx.o] at h';have:=q.o
     rw [decide_eq_true h'] at this;cases this)
    go_wp2;go_ret;exact ⟨by first | rfl | (rw [z.o,m.o];rfl),al⟩
   ·have m:=ag (show d.2.1[k]=e.2.1[k] by rw [HP.o,Cx.o];exact of_decide_eq_true q.o)
    go_wp2;go_roundw
    case rel=>exact ⟨k+1,by omega,by go_num,by show _=_;rw [List.take_succ_eq_append_getElem D,List.take_succ_eq_append_getElem om,B.o,m.o],E⟩
    case measure=>simp [intOf]<;>omega
  ·have C:decide ((k:Int)<n2)=false:=aA (by omega)
   have m:=ag (show decide (d.2.1=e.2.1)=true by
    have:=B.o
    rw [List.take_of_length_le (by have:=Q.o;omega),List.take_of_length_le (by have:=R.o;omega)] at this;simpa using this)
   go_wp2;go_ret;exact ⟨by first | rfl | (rw [z.o,m.o];rfl),Z⟩
theorem tO {d e:Dk} {v u:Value} (w:World) (hv:RdD w v d) (k:RdD w u e):
  Calls Tryz.prog 44 #[v,u] w fun r w'=>r=.returned (.bool (decide (d=e)))∧ah w w':=by
 obtain ⟨q,s,a2,g,a3,f,rfl,I,J,t⟩:=hv.form;obtain ⟨c1,x,c2,y,c3,l,rfl,K,L,z⟩:=k.form;have M:=ag hv;have N:=ag k;have O:=ag t;have P:=ag z;clear I J t K L z hv k;have Q:∀o A,ah w ((w.alloc o).alloc A):=fun o A=>(ae).alloc (by simp) _
 have B:=ag (show decide (d=e)=(decide (d.1=e.1∧d.2.1=e.2.1) && decide (d.2.2=e.2.2)) by
  obtain ⟨d1,d2,R⟩:=d;obtain ⟨e1,S,T⟩:=e;by_cases U:d1=e1<;>by_cases V:d2=S<;>by_cases W:R=T<;>simp [U,V,W])
 obtain ⟨m,j⟩:=aj ((w.alloc (.cells #[.slice q d.1.length s,.slice a2 d.2.1.length g,.slice a3 d.2.2.length f] 26)).alloc (.cells #[.slice c1 e.1.length x,.slice c2 e.2.1.length y,.slice c3 e.2.2.length l] 26));have b:ah w m:=by rw [<-j];exact Q _ _
 have h:m.heap[w.heap.size]? =some (.cells #[.slice q d.1.length s,.slice a2 d.2.1.length g,.slice a3 d.2.2.length f] 26 (0,0)):=by
  rw [<-j,heap_alloc_old _ _ (by simp)];exact heap_alloc_new _ _
 have i:m.heap[w.heap.size+1]? =some (.cells #[.slice c1 e.1.length x,.slice c2 e.2.1.length y,.slice c3 e.2.2.length l] 26 (0,0)):=by rw [<-j];exact pq _ _ _
 obtain ⟨C,D,E,_⟩:=cells3 h;obtain ⟨F,G,H,_⟩:=cells3 i;go_enter Tryz.func44,Tryz.ntmps44;go_wp2_with fail
 clear j;refine (kC (d:=d) (e:=e) _ (M.o.a b) (N.o.a b)).mono ?_
 rintro r X ⟨rfl,c⟩;have a:ah w X:=b.trans (c.mono b.size);clear C D E F G H;obtain ⟨C,D,E,_⟩:=cells3 (eH _ _ _ _ h c);obtain ⟨F,G,H,_⟩:=cells3 (eH _ _ _ _ i c);clear c;generalize decide (d.1=e.1∧d.2.1=e.2.1)=r1 at *;cases r1
 ·go_wp2
  go_ret;exact ⟨by first | rfl | (rw [B.o];rfl),a⟩
 ·go_wp2_with fail
  refine (qrz d.2.2 e.2.2 a3 c3 _ f _ l _ (O.o.a a) (P.o.a a) rfl rfl).mono ?_
  rintro r Y ⟨rfl,n⟩;have p:=a.trans (n.mono a.size);generalize decide (d.2.2=e.2.2)=r2 at *;go_wp2;go_ret;exact ⟨by first | rfl | (rw [B.o];rfl),p⟩
theorem aX.at {w:World} {base g n c:Nat} {l:ak} (h:aX w base (.slice (some ⟨g,0,none⟩) n c) l) (j:Nat) (a:j<l.length):w.cell? ⟨g,j,none⟩=some (.int .u8 (l[j]).toNat):=by
 have b:(bW l)[j]? =some (.int .u8 (l[j]).toNat):=by simp [bW,List.getElem?_eq_getElem a]
 have:=World.ownsRow.cells h (g:=g) rfl _ _ b
 rw [Addr.add_lit] at this;simpa using this
theorem aX.len {w:World} {base g n c:Nat} {l:ak} (h:aX w base (.slice (some ⟨g,0,none⟩) n c) l):n=l.length:=by
 obtain ⟨a,b,e⟩:=h.form;cases e;rfl
theorem aX.fz {w:World} {base g n c:Nat} {l:ak} (h:aX w base (.slice (some ⟨g,0,none⟩) n c) l) (j:Nat):w.frozen? ⟨g,j,none⟩=false:=by
 obtain rfl:=h.len;exact World.ownsRow.frozenAt h j
theorem aX.stored {w:World} {base g n c:Nat} {l:ak} (h:aX w base (.slice (some ⟨g,0,none⟩) n c) l) (j:Nat) (b:UInt8):
  aX (w.setCell ⟨g,j,none⟩ (.int .u8 b.toNat)) base (.slice (some ⟨g,0,none⟩) n c) (l.set j b)∧w.grownBy (w.setCell ⟨g,j,none⟩ (.int .u8 b.toNat)) (some g):=by
 obtain rfl:=h.len;obtain ⟨a,d⟩:=World.ownsRow.stored h j (.int .u8 b.toNat);refine ⟨?_,d⟩;unfold aX;rw [List.length_set];have:bW (l.set j b)=(bW l).set j (.int .u8 b.toNat):=by simp [bW,List.map_set]
 rw [this];exact a
theorem qid (data l:ak) (o k:Nat) (a:k<l.length) (e:o+l.length<=data.length):(splice data o (l.take k)).set (o+k) l[k]=splice data o (l.take (k+1)):=by
 unfold splice;have e1:(data.take o).length=o:=by simp;omega
 have b:(l.take k).length=k:=by simp;omega
 have c:(l.take (k+1)).length=k+1:=by simp;omega
 rw [List.set_append_right _ _ (by omega),e1,show o+k - o=k by omega,List.set_append_right _ _ (by omega),b,Nat.sub_self,c];have d:o+k<data.length:=by omega
 rw [List.drop_eq_getElem_cons d,List.set_cons_zero,List.take_succ_eq_append_getElem a,List.append_assoc];rfl
theorem qx7 {q k n1 cnt o:Nat} (a:o=q*128) (b:n1=128*cnt) (c:q<cnt) (d:cnt<=4096) (e:k<128):IntKind.i64.wrap ((q:Int)*128)=(o:Int)∧IntKind.i64.wrap ((o:Int)+(k:Int))=(o:Int)+k∧(o:Int)+k<n1∧(0:Int)<=(o:Int)+k∧((o:Int)+k).toNat=o+k:=by
 rw [IntKind.wrap_i64,IntKind.wrap_i64];refine ⟨by omega,by omega,by omega,by omega,by omega⟩
theorem qaau (base B c j n1 cap n cnt q:Nat) (data l:ak) (y z:Value) (w:World) (d:aX w base (.slice (some ⟨c,0,none⟩) n1 cap) data) (I:c<B) (M:aX w B (.slice (some ⟨j,0,none⟩) 128 n) l) (f:data.length=128*cnt) (g:cnt<=4096) (N:q<cnt) (J:l.length=128):
  Calls Tryz.prog 168 #[.agg #[.slice (some ⟨c,0,none⟩) n1 cap,y,z],.agg #[.int .i64 q,.slice (some ⟨j,0,none⟩) 128 n]] w fun e w'=>e=.returned (.tuple #[])∧w.grownBy w' (some c)∧aX w' base (.slice (some ⟨c,0,none⟩) n1 cap) (nM data (q,l)):=by
 have p:n1=128*cnt:=d.len.trans f;obtain ⟨o,h⟩:=ai (q*128);have U:c<w.heap.size:=(World.ownsRow.lt d c rfl).2;have r:=ag d;have V:=ag M;have O:=ag f;have E:=ag J;have s:=ag (show nM data (q,l)=splice data o l by rw [Vt _ _ J,h];rfl);have W:=ag (show ∀k,k<128->_ from fun k P=>qx7 h p N g P);have K:=ag (show o+128<=data.length by omega);clear d M f J p h N g;obtain ⟨F,G⟩:=aj ((w.alloc (.cells #[.slice (some ⟨c,0,none⟩) n1 cap,y,z] 26)).alloc (.cells #[.int .i64 q,.slice (some ⟨j,0,none⟩) 128 n] 94));have b:ah w F:=by rw [<-G];exact (ae).alloc (by simp) _
 have t:F.heap[w.heap.size]? =some (.cells #[.slice (some ⟨c,0,none⟩) n1 cap,y,z] 26 (0,0)):=by
  rw [<-G,heap_alloc_old _ _ (by simp)];exact heap_alloc_new _ _
 have u:F.heap[w.heap.size+1]? =some (.cells #[.int .i64 q,.slice (some ⟨j,0,none⟩) 128 n] 94 (0,0)):=by rw [<-G];exact pq _ _ _
 go_enter Tryz.func168,Tryz.ntmps168;go_wp2;clear G;go_loopw [4] (fun i wr=>∃k:Nat,k<=128∧i=.int .i64 k∧af (aX wr base (.slice (some ⟨c,0,none⟩) n1 cap) (splice data o (l.take k)))∧F.grownBy wr (some c)) (fun i _=>128 - (intOf i).toNat)
 case atStart=>
  refine ⟨0,Nat.zero_le _,rfl, ?_,World.grownBy.refl _ _⟩;show aX _ _ _ _
  have e:splice data o (l.take 0)=data:=by simp [splice]
  rw [e];exact r.o.a b
 case round=>
  obtain ⟨k,P,rfl,h,a⟩:=hrel;by_cases L:k<128
  ·have x:(k:Int)<128:=by omega
   obtain ⟨a1,a2,a3,a4,a5⟩:=W.o k L;have X:wr.heap[w.heap.size]? =some (.cells #[.slice (some ⟨c,0,none⟩) n1 cap,y,z] 26 (0,0)):=(a.block _ (Array.getElem?_eq_some_iff.1 t).1 (by simp;omega)).trans t
   have Y:wr.heap[w.heap.size+1]? =some (.cells #[.int .i64 q,.slice (some ⟨j,0,none⟩) 128 n] 94 (0,0)):=(a.block _ (Array.getElem?_eq_some_iff.1 u).1 (by simp;omega)).trans u
   obtain ⟨Z,p1,p2,_⟩:=cells3 X;obtain ⟨s0,s1,_⟩:=Nc Y;have A:k<l.length:=by have:=E.o;omega
   have C:=((V.o.a b).grown a I).at k A;obtain ⟨H,m⟩:∃H:Int,H=((l[k]).toNat:Int):=⟨_,rfl⟩;rw [<-m] at C;have Q:=ag m;have aa:=h.o.fz (o+k);have ab:=h.o.at (o+k) (by rw [length_splice];have:=K.o;omega;have:=K.o;have:=E.o;simp;omega);clear p1 p2 m;have hK:aL (fun D=>(D.cell? ⟨w.heap.size,0,none⟩=some (.slice (some ⟨c,0,none⟩) n1 cap)∧D.cell? ⟨w.heap.size+1,0,none⟩=some (.int .i64 q)∧D.cell? ⟨w.heap.size+1,1,none⟩=some (.slice (some ⟨j,0,none⟩) 128 n))∧D.cell? ⟨j,k,none⟩=some (.int .u8 H)):=((aR _ _).and ((aR _ _).and (aR _ _))).and (aR _ _);go_wp2
   refine rH hK 13 (by kernel_rfl) ⟨⟨Z,s0,s1⟩,C⟩ ?_
   intro hS;refine pg [0,1,2,3,4,5,6,7,8,9,10,11,12] (fuel:=1) (a':=?iD) (by kernel_rfl) (by kernel_rfl) (by kernel_rfl) ?dn hS ?iE
   case dn=>
    iterate 13 (apply Yl.cons rfl (by kernel_rfl);focus (rintro D ⟨⟨x1,x2,x3⟩,x4⟩;go_simp<;>with_reducible rfl);try simp only [az])
    exact Yl.nil
   refine rJ (i:=13) (w':=wr.drew.setCell ⟨c,o+k,none⟩ (.int .u8 H)) rfl (by kernel_rfl) (by kernel_rfl) (by rfl) (by go_simp) ?_
   try simp only [az]
   refine rM (by kernel_rfl) ?_ _
   refine NoPanic.normal ?_
   obtain ⟨R,S⟩:=h.o.stored (o+k) l[k];rw [qid _ _ _ _ A (by have:=K.o;have:=E.o;omega),<-Q.o] at R;rw [<-Q.o] at S;go_wp2;go_roundw
   case rel=>exact ⟨k+1,by omega,by go_num,R.a aG,nP (nP a S) (Vv (xB aG) _)⟩
   case measure=>simp [intOf]<;>omega
  ·have x:decide ((k:Int)<128)=false:=aA (by omega)
   obtain rfl:k=128:=by omega
   go_wp2;refine bodyPost_end (v:=.tuple #[]) (by simp [results,Tryz.results168,go_sem]) rfl ?_
   refine ⟨rfl,⟨a.os.trans (xB b).os,a.tape.trans (xB b).tape,a.output.trans (xB b).output,aC b.size a.size,fun i T hr=>(a.block i (Nat.lt_of_lt_of_le T b.size) hr).trans ((xB b).block i T (by simp))⟩, ?_⟩;rw [s.o];have:=h.o
   rwa [List.take_of_length_le (by have:=E.o;omega)] at this
theorem Wh (g a n c k:Nat) (w:World) (f:k+4<=n) (h:n<=c) (b:c<=maxLen):
  Calls Tryz.prog 198 #[.slice (some ⟨g,a,none⟩) n c,.int .i64 k] w fun e w'=>e=.returned (.func (.func 216) #[] #[.pointer (some ⟨w.heap.size,0,none⟩)])∧ah w w'∧w'.cell? ⟨w.heap.size,0,none⟩=some (.slice (some ⟨g,a+k,none⟩) 4 (c - k))∧w'.heap.size=w.heap.size+1:=by
 have i:wrap64 ((k:Int)+4)=((k+4:Nat):Int):=by unfold wrap64;unfold maxLen at b;omega
 have j:((k+4:Nat):Int)<=c:=by omega
 have l:¬k=c:=by omega
 have m:k+4<=c:=by omega
 have d:k+4 - k=4:=by omega
 go_enter Tryz.func198,Tryz.ntmps198;go_wp2;go_ret;rw [d];exact ⟨rfl,ae,by simp,by simp⟩
theorem O6 {j:Nat} (h:j<4):∃m:Nat,m=8*j∧wrap64 (8*(j:Int))=(m:Int)∧IntKind.i64.wrap (8*(j:Int))=(m:Int)∧(m:Int)<=32:=by
 refine ⟨8*j,rfl, ?_, ?_,by omega⟩
 ·unfold wrap64;omega
 ·rw [IntKind.wrap_i64];omega
theorem qv4 (x j m:Nat) (a:m=8*j) (h:j<4):IntKind.u8.wrap ((x:Int) / 2 ^ m)=(((dB x)[j]'(by rw [jP];exact h)).toNat:Int):=by
 rw [Zq x j h,a,IntKind.wrap_u8',UInt8.toNat_ofNat'];have e:((2:Int) ^ (8*j))=((2 ^ (8*j):Nat):Int):=by rw [Int.natCast_pow];rfl
 rw [e,<-Int.natCast_ediv];generalize x / 2 ^ (8*j)=y;omega
theorem qof {w w':World} {k g:Nat} {v:Value} {o:Nat} (c:w.grownBy w' (some g)) (b:w.cell? ⟨k,o,none⟩=some v) (a:k≠g):w'.cell? ⟨k,o,none⟩=some v:=by
 rw [<-b];unfold World.cell?;rw [show w'.heap[k]? =w.heap[k]? from c.block _ (World.block_lt_of_cell? w _ b) (by simpa using a)]
theorem O7 (base g n c k q B:Nat) (l:ak) (x:Nat) (w:World) (d:aX w base (.slice (some ⟨g,0,none⟩) n c) l) (a:w.cell? ⟨q,0,none⟩=some (.slice (some ⟨g,k,none⟩) 4 B)) (r:q≠g) (I:k+4<=l.length) (J:x<4294967296):
  Calls Tryz.prog 216 #[.bool true,.int .u32 x,.pointer (some ⟨q,0,none⟩)] w fun e w'=>(∃v,e=.returned v)∧w.grownBy w' (some g)∧aX w' base (.slice (some ⟨g,0,none⟩) n c) (splice l k (dB x)):=by
 have s:=ag d;have h:=ag I;have Y:=ag J;have U:q<w.heap.size:=World.block_lt_of_cell? w _ a;clear d I J;go_enter Tryz.func216,Tryz.ntmps216;go_wp2;go_loopw [6,10] (fun t i wr=>∃(j:Nat) (z:Int),j<=4∧i=.int .i64 j∧t=.int .u32 z∧af (aX wr base (.slice (some ⟨g,0,none⟩) n c) (splice l k ((dB x).take j)))∧w.grownBy wr (some g)) (fun _ i _=>4 - (intOf i).toNat)
 case atStart=>
  refine ⟨0,0,Nat.zero_le _,rfl,rfl, ?_,World.grownBy.refl _ _⟩;show aX _ _ _ _
  have e:splice l k ((dB x).take 0)=l:=by simp [splice]
  rw [e];exact s.o
 case round=>
  obtain ⟨j,z,Z,rfl,rfl,u,p⟩:=hrel;by_cases b:j<4
  ·have y:(j:Int)<4:=by omega
   obtain ⟨m,K,a1,a2,a3⟩:=O6 b;have V:=ag K;clear K;have L:wr.cell? ⟨q,0,none⟩=some (.slice (some ⟨g,k,none⟩) 4 B):=qof p a r;have C:=u.o.fz (k+j);have D:=u.o.at (k+j) (by rw [length_splice];have:=h.o;omega;have:=h.o;simp [jP];omega);obtain ⟨f,E,M⟩:∃f:UInt8,IntKind.u8.wrap ((x:Int) / 2 ^ m)=(f.toNat:Int)∧f=(dB x)[j]'(by rw [jP];exact b):=⟨_,qv4 x j m V.o b,rfl⟩;have N:=ag M;clear M;have O:aL (fun P=>P.cell? ⟨q,0,none⟩=some (.slice (some ⟨g,k,none⟩) 4 B)):=aR _ _;go_wp2
   refine rH O 8 (by kernel_rfl) L ?_
   intro Q;refine pg [0,1,2,3,4,5,6,7] (fuel:=1) (a':=?iD) (by kernel_rfl) (by kernel_rfl) (by kernel_rfl) ?dn Q ?iE
   case dn=>
    iterate 8 (apply Yl.cons rfl (by kernel_rfl);focus (rintro P x1;go_simp<;>with_reducible rfl);try simp only [az])
    exact Yl.nil
   refine rJ (i:=8) (w':=wr.drew.setCell ⟨g,k+j,none⟩ (.int .u8 f.toNat)) rfl (by kernel_rfl) (by kernel_rfl) (by rfl) (by go_simp) ?_
   try simp only [az]
   refine rM (by kernel_rfl) ?_ _
   refine NoPanic.normal ?_
   clear Q O E D;obtain ⟨F,R⟩:=u.o.stored (k+j) f;rw [N.o,qid _ _ _ _ (by rw [jP];exact b) (by rw [jP];exact h.o),<-N.o] at F;have G:aX (wr.drew.setCell ⟨g,k+j,none⟩ (.int .u8 f.toNat)) base (.slice (some ⟨g,0,none⟩) n c) (splice l k ((dB x).take (j+1))):=F.a aG;have S:w.grownBy (wr.drew.setCell ⟨g,k+j,none⟩ (.int .u8 f.toNat)) (some g):=nP (nP p R) (Vv (xB aG) _);have W:=qof S a r;have H:=G.at (k+j) (by rw [length_splice];have:=h.o;omega;have:=h.o;simp [jP];omega);obtain ⟨T,A⟩:∃T:Int,T=(((splice l k ((dB x).take (j+1)))[k+j]'(by rw [length_splice];have:=h.o;omega;have:=h.o;simp [jP];omega)).toNat:Int):=⟨_,rfl⟩;rw [<-A] at H;clear A;have X:=ag G;clear F G R C L u;generalize wr.drew.setCell ⟨g,k+j,none⟩ (.int .u8 f.toNat)=ws at *;go_wp2;go_roundw
   case rel=>exact ⟨j+1,_,by omega,by go_num,rfl,X,S⟩
   case measure=>simp [intOf]<;>omega
  ·have y:decide ((j:Int)<4)=false:=aA (by omega)
   obtain rfl:j=4:=by omega
   go_wp2;go_ret;refine ⟨⟨_,rfl⟩,p, ?_⟩;have:=u.o
   rwa [List.take_of_length_le (by rw [jP];omega)] at this
theorem O8 (j m u:Nat) (b:UInt8) (d:m=8*j) (i:j<4) (c:u<256 ^ j):bits .or .u32 (u:Int) ((b.toNat:Int) % 4294967296*2 ^ m % 4294967296)=((u+b.toNat*256 ^ j:Nat):Int):=by
 have k:=b.toNat_lt;have f:(256:Nat) ^ j=2 ^ m:=by rw [d,Nat.pow_mul]
 rw [f] at c ⊢;have g:(2:Nat) ^ m<=2 ^ 24:=Nat.pow_le_pow_right (by decide) (by omega);have a:b.toNat*2 ^ m<4294967296:=by
  have:b.toNat*2 ^ m<=255*2 ^ m:=Nat.mul_le_mul_right _ (by omega)
  omega
 have e:((b.toNat:Int)*2 ^ m)=((b.toNat*2 ^ m:Nat):Int):=by rw [Int.natCast_mul,Int.natCast_pow];rfl
 rw [show (b.toNat:Int) % 4294967296=b.toNat by omega,e];have h:((b.toNat*2 ^ m:Nat):Int) % 4294967296=((b.toNat*2 ^ m:Nat):Int):=by omega
 rw [h,u32_or_nat _ _ (by omega) a,Nat.or_comm,nat_join m _ _ (by simp) c,Nat.add_comm]
theorem O9 (g a r s:Nat) (b:ak) (w:World) (hb:b.length=4) (d:Rd w (.slice (some ⟨g,a,none⟩) 4 s) b) (n:w.cell? ⟨r,0,none⟩=some (.slice (some ⟨g,a,none⟩) 4 s)):
  Calls Tryz.prog 216 #[.bool false,.int .u32 0,.pointer (some ⟨r,0,none⟩)] w fun e w'=>e=.returned (.int .u32 (fH b))∧w'=w:=by
 have v:=ag hb;have f:∀j,(h:j<b.length)->w.cell? ⟨g,a+j,none⟩=some (.int .u8 (b[j]).toNat):=by
  rcases d with ⟨rfl,_⟩ | ⟨G,x,H,e,_,_,p⟩
  ·exact absurd hb (by decide)
  ·simp only [Value.slice.injEq,Option.some.injEq,Addr.mk.injEq] at e
   obtain ⟨⟨rfl,rfl,_⟩,_,rfl⟩:=e;exact p
 have B:=ag f;clear hb d f;go_enter Tryz.func216,Tryz.ntmps216;go_wp2;go_loop [6,10] (fun t i=>∃j:Nat,j<=4∧i=.int .i64 j∧t=.int .u32 (fH (b.take j))) (fun _ i=>4 - (intOf i).toNat)
 case atStart=>exact ⟨0,Nat.zero_le _,rfl,rfl⟩
 case round=>
  obtain ⟨j,I,rfl,rfl⟩:=hrel;by_cases c:j<4
  ·have z:(j:Int)<4:=by omega
   obtain ⟨m,A,J,a2,a3⟩:=O6 c;have C:=ag A;clear A;have k:j<b.length:=by rw [v.o];exact c
   have p:=B.o j k;obtain ⟨u,l⟩:∃u:Nat,u=fH (b.take j):=⟨_,rfl⟩;have D:=ag (show fH (b.take (j+1))=u+(b[j]).toNat*256 ^ j by rw [l];exact qvq b j k)
   have E:=ag (show u<256 ^ j by
    rw [l];have:=BH (b.take j);rwa [List.length_take,Nat.min_eq_left (by omega)] at this)
   rw [<-l];obtain ⟨y,q⟩:∃y:UInt8,y=b[j]:=⟨_,rfl⟩;rw [<-q] at p;have F:=ag q;clear l q;go_wp2
   go_round
   case rel=>exact ⟨j+1,by omega,by go_num,by rw [D.o,<-O8 j m u _ C.o c E.o,<-F.o]⟩
   case measure=>simp [intOf]<;>omega
  ·obtain rfl:j=4:=by omega
   go_wp2;go_ret;refine ⟨?_,rfl⟩;rw [List.take_of_length_le (by rw [v.o];omega)];rfl
end Go.Proofs.YthpammbgcidloaaGreat
