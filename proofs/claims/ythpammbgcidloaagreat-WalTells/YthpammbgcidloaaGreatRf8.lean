/-
  Logs with any integers: what wal's behind and Room, and the document's asked and Room of layer 9 do.
-/
import Derived.Test.YthpammbgcidloaaGreatRf6
set_option maxHeartbeats 4000000
set_option maxRecDepth 100000
namespace Go.Proofs.YthpammbgcidloaaGreat
open Go.RowKit
set_option linter.all false
theorem gX {f:Fsd} {s:ak} (h:dA f s=0):1<=(bE f s).length:=by
 rw [MR h];obtain ⟨a,l,b⟩:=IL h;have c:aU f s=gM l:=(yh a b).2.2.2.1;have d:1<=l.length:=(quh (Du a) (s,l) b).2.2.1;have e:l.length<=4096∧∀x∈l,0<=x.1∧1<=x.2∧x.1+x.2<=4096:=Ma (WZ (Du a).2.2.1 (MP b));rw [c]
 cases l with
 | nil=>simp at d
 | cons x t=>
  have:=(e.2 x List.mem_cons_self).2.1
  unfold gM;rw [List.flatMap_cons,List.length_append,Zw];omega
theorem Oz (x:FsV) (f:Fsd) (s:ak) (w:World) (h:RdX w x f) (hw:WfX f):
  Calls Tryz.prog 9 #[x.val,.string (bs s)] w fun e w'=>∃rv,e=.returned (.tuple #[pR (fP f s),rv,.int .i64 (gZ f s)])∧bu w' w.heap.size rv (rX f s)∧ah w w':=by
 have HW:=ag hw;clear hw;obtain ⟨w1,ew⟩:=aj ((w.alloc (.cells x.cs 32)).alloc (.cells #[.string ⟨#[]⟩,.int .u32 0,.int .i64 0,.int .u32 0,.int .u32 0,.int .i64 0] 34));have q0:ah w (w.alloc (.cells x.cs 32)):=ae;have ar:(w.alloc (.cells x.cs 32)).heap.size=w.heap.size+1:=by simp
 have q1:Below (w.alloc (.cells x.cs 32)).heap.size (w.alloc (.cells x.cs 32)) w1:=by rw [<-ew];exact ae
 have fG:=ag (show bf w1 w.heap.size x from (Bq.new w 32 x.cs).a q1);have rZ:=ag (show Bq w1 (w.heap.size+1) 34 #[.string ⟨#[]⟩,.int .u32 0,.int .i64 0,.int .u32 0,.int .u32 0,.int .i64 0] by rw [<-ew,<-ar];exact Bq.new _ _ _);have bi:=ag (show ah w w1 from q0.trans (q1.mono (by omega)));obtain ⟨k0,k1,k2,k3,k4,k5⟩:=aV fG.o;have HX:=ag h;clear h q0 q1 ar;unfold FsV.val;unfold FsV.cs at ew;go_enter Tryz.func9,Tryz.ntmps9;go_wp2_with fail
 refine (qkl x f s w1 (HX.o.a bi.o) HW.o).mono ?_
 rintro e w2 ⟨v2,rfl,G,M⟩;have K:=ag (rZ.o.a M);have bg:=bT bi M;have jy:=ag (show w.heap.size+2<=w2.heap.size by have h9:=M.size;have h8:w1.heap.size=w.heap.size+2:=(by rw [<-ew];simp);omega);clear k0 k1 k2 k3 k4 k5 ew M;by_cases N:¬dA f s=0
 ·have A:=ag (qs3 N)
  obtain ⟨e,he⟩:=ai (dA f s);have iB:=ag he;rw [<-he] at N ⊢;have ge:(e==0)=false:=by simpa using N
  clear he N G;obtain ⟨c0,c1,c2,c3,c4,c5⟩:=cu K.o;have f0:=K.o.fz 0;have f1:=K.o.fz 1;have f2:=K.o.fz 2;have f3:=K.o.fz 3;have f4:=K.o.fz 4;have f5:=K.o.fz 5;obtain ⟨d,b⟩:=ac0 K.o;obtain ⟨ws,r⟩:=ai (bV w2 (w.heap.size+1) (.string ⟨#[]⟩) (.int .u32 0) (.int .i64 0) (.int .u32 0) (.int .u32 0) (.int .i64 0));rw [<-r] at d b;have u:=ag d;have O:=ag (show ah w ws from bg.o.grown b bg.o.size (by intro k S;cases S;omega));unfold bV at r;have oq:=ag r;clear d b r;go_wp2;rw [<-oq.o];obtain ⟨T,U,V,W,X,Y⟩:=cu u.o;refine bodyPost_ret (v:=.tuple #[.agg #[.string ⟨#[]⟩,.int .u32 0,.int .i64 0,.int .u32 0,.int .u32 0,.int .i64 0],.slice none 0 0,.int .i64 e]) ?_ rfl ⟨.slice none 0 0, ?_, ?_,O.o⟩
  ·simp [results,Tryz.results9,go_sem,T,U,V,W,X,Y]
  ·rw [A.o.1,A.o.2.1,<-iB.o];rfl
  ·rw [A.o.2.2];exact bu.nil _ _
 rw [Decidable.not_not] at N;have fF:=ag N;rw [N];have yG:=ag (gX N);obtain ⟨a2,c2,rfl⟩:=G.form;obtain ⟨n2,Z⟩:=ai ((bE f s).length);rw [<-Z] at G yG ⊢;have mM:=ag Z;have lJ:n2<=4096:=by rw [Z];exact uP f s
 have ac:=ag G.rdL;have aS:0<n2:=yG.o;have aP:(0:Int)<n2:=by omega
 clear N G Z;obtain ⟨b2,o2,y0,z0,rfl,H,B⟩:=ac.o.at 0 (by have:=mM.o;omega);have D:=ag (qs4 (l:=bE f s) (by have:=mM.o;omega));obtain ⟨z,ad⟩:∃z,z=(bE f s)[0]'(by have:=mM.o;omega):=⟨_,rfl⟩
 have C:z.length=128:=by rw [ad];exact IQ _ (List.getElem_mem _)
 rw [<-ad] at H B D;rw [C] at H B;rw [Nat.add_zero] at H;obtain ⟨g0,og,rfl, -⟩:=yY B (by intro e;rw [e] at C;simp at C);have aT:128<=z0:=quz B C;have Aj:(4:Int)<=z0:=by omega
 have jI:=MK g0 og z0 (z.take 4) w2 (by rw [List.length_take];omega) (qqo B C);rw [show fH (z.take 4)=dh z from rfl] at jI;have XF:=ag B;have tu:=ag C;have al:=Qv z;have X5:=ag (show uN z↔dh z≠0∧z=headW (dh z) from Iff.rfl);have am:=ag (show dh ((bE f s).headD [])=dh z by rw [D.o]);obtain ⟨g,hg⟩:=ai (dh z);rw [<-hg] at jI al X5 am;clear B ad C hg;go_wp2_with fail
 refine jI.mono ?_
 rintro e E ⟨rfl,b3⟩;have nH:=ag (K.o.a b3);have bU:=bT bg b3;have aJ:=ag (ac.o.a b3);have yE:=ag (XF.o.a b3);have F:=aR _ _ _ _ H b3;have Dx:=ag (show w.heap.size+2<=E.heap.size by have:=b3.size;have:=jy.o;omega);clear jI b3 H Aj XF ac K;by_cases g2:n2<2
 ·have aK:(n2:Int)<2:=by omega
  have A:=ag (Ro fF.o (.inl (by rw [<-mM.o];exact g2)));have t:aL (fun m=>ah E m):=jW E;clear g2;go_wp2_with fail
  refine gH t (by kernel_rfl) aB ?_
  intro j;generalize E.drew=wd at *;refine dm [0,1,2,3,4,5,6,7,8,9,10,11,12,13,14,15,16] (fuel:=0) (a':=?vU) (by kernel_rfl) (by kernel_rfl) (by kernel_rfl) ?lD j ?vV
  case lD=>
   iterate 4 (apply Yl.cons rfl (by kernel_rfl);focus (rintro m n;go_simp<;>with_reducible rfl);try simp only [az])
   iterate 2 (apply Yl.skip rfl (by kernel_rfl);try simp only [az])
   iterate 2 (apply Yl.cons rfl (by kernel_rfl);focus (rintro m n;go_simp<;>with_reducible rfl);try simp only [az])
   iterate 8 (apply Yl.skip rfl (by kernel_rfl);try simp only [az])
   iterate 1 (apply Yl.cons rfl (by kernel_rfl);focus (rintro m n;go_simp<;>with_reducible rfl);try simp only [az])
   exact Yl.nil
  refine wpAnyH_done (by kernel_rfl) ?_ _
  refine NoPanic.normal ?_
  try simp only [az]
  have p:=ag (nH.o.a j);have vY:=bT bU j;clear j t;obtain ⟨c0,c1,c2,c3,c4,c5⟩:=cu p.o;have f0:=p.o.fz 0;have f1:=p.o.fz 1;have f2:=p.o.fz 2;have f3:=p.o.fz 3;have f4:=p.o.fz 4;have f5:=p.o.fz 5;obtain ⟨d,b⟩:=ac0 p.o;obtain ⟨ws,r⟩:=ai (bV wd (w.heap.size+1) (.string ⟨#[]⟩) (.int .u32 0) (.int .i64 0) (.int .u32 0) (.int .u32 0) (.int .i64 0));rw [<-r] at d b;have u:=ag d;have O:=ag (show ah w ws from vY.o.grown b vY.o.size (by intro k S;cases S;omega));unfold bV at r;have oq:=ag r;clear d b r;go_wp2;rw [<-oq.o];obtain ⟨T,U,V,W,X,Y⟩:=cu u.o;refine bodyPost_ret (v:=.tuple #[.agg #[.string ⟨#[]⟩,.int .u32 0,.int .i64 0,.int .u32 0,.int .u32 0,.int .i64 0],.slice none 0 0,.int .i64 8]) ?_ rfl ⟨.slice none 0 0, ?_, ?_,O.o⟩
  ·simp [results,Tryz.results9,go_sem,T,U,V,W,X,Y]
  ·rw [A.o.1,A.o.2.1];rfl
  ·rw [A.o.2.2];exact bu.nil _ _
 have aK:decide ((n2:Int)<2)=false:=aA (by omega);have an:=ag (show 2<=(bE f s).length by rw [<-mM.o];omega);clear g2;by_cases g3:g=0
 ·have aM:((g:Int)==0)=true:=by simp [g3]
  have A:=ag (Ro fF.o (.inr (by rw [D.o,X5.o];exact fun q=>q.1 g3)));have t:aL (fun m=>ah E m):=jW E;clear g3;go_wp2_with fail
  refine gH t (by kernel_rfl) aB ?_
  intro j;generalize E.drew=wd at *;refine dm [0,1,2,3,4,5,6,7,8,9,10,11,12,13,14,15,16] (fuel:=0) (a':=?Dc) (by kernel_rfl) (by kernel_rfl) (by kernel_rfl) ?qM j ?De
  case qM=>
   iterate 8 (apply Yl.cons rfl (by kernel_rfl);focus (rintro m n;go_simp<;>with_reducible rfl);try simp only [az])
   iterate 8 (apply Yl.skip rfl (by kernel_rfl);try simp only [az])
   iterate 1 (apply Yl.cons rfl (by kernel_rfl);focus (rintro m n;go_simp<;>with_reducible rfl);try simp only [az])
   exact Yl.nil
  refine wpAnyH_done (by kernel_rfl) ?_ _
  refine NoPanic.normal ?_
  try simp only [az]
  have p:=ag (nH.o.a j);have vY:=bT bU j;clear j t;obtain ⟨c0,c1,c2,c3,c4,c5⟩:=cu p.o;have f0:=p.o.fz 0;have f1:=p.o.fz 1;have f2:=p.o.fz 2;have f3:=p.o.fz 3;have f4:=p.o.fz 4;have f5:=p.o.fz 5;obtain ⟨d,b⟩:=ac0 p.o;obtain ⟨ws,r⟩:=ai (bV wd (w.heap.size+1) (.string ⟨#[]⟩) (.int .u32 0) (.int .i64 0) (.int .u32 0) (.int .u32 0) (.int .i64 0));rw [<-r] at d b;have u:=ag d;have O:=ag (show ah w ws from vY.o.grown b vY.o.size (by intro k S;cases S;omega));unfold bV at r;have oq:=ag r;clear d b r;go_wp2;rw [<-oq.o];obtain ⟨T,U,V,W,X,Y⟩:=cu u.o;refine bodyPost_ret (v:=.tuple #[.agg #[.string ⟨#[]⟩,.int .u32 0,.int .i64 0,.int .u32 0,.int .u32 0,.int .i64 0],.slice none 0 0,.int .i64 8]) ?_ rfl ⟨.slice none 0 0, ?_, ?_,O.o⟩
  ·simp [results,Tryz.results9,go_sem,T,U,V,W,X,Y]
  ·rw [A.o.1,A.o.2.1];rfl
  ·rw [A.o.2.2];exact bu.nil _ _
 have aM:((g:Int)==0)=false:=by simpa using (by omega:¬(g:Int)=0)
 have XG:=ag g3;have aa:=QV (headW g) z;have Md:=ag (fun m=>l6 g m al);by_cases g4:headW g=z
 ·rw [decide_eq_true g4] at aa
  have av:=ag (show uN z from X5.o.2 ⟨XG.o,g4.symm⟩);have jT:=ag (MS (PE fF.o an.o (by rw [D.o];exact av.o)));have Zi:=ag (PE fF.o an.o (by rw [D.o];exact av.o));have t:aL (fun m=>ah E m):=jW E;clear g4 g3;go_wp2_with fail
  refine gH t (by kernel_rfl) aB ?_
  intro j;generalize E.drew=wd at *;refine dm [0,1,2,3,4,5,6,7,8,11,12,13,14] (fuel:=4) (a':=?qca1) (by kernel_rfl) (by kernel_rfl) (by kernel_rfl) ?Ie j ?qcn1
  case Ie=>
   iterate 13 (apply Yl.cons rfl (by kernel_rfl);focus (rintro m n;have d2:=ik (P:=Tryz.prog) _ _ _ Tryz.underlying22 Tryz.underlying5 Tryz.underlying9 (yE.o.a n);have k9:=aR _ _ _ _ F n;clear n;(try (cases e1;have d1:=ik (P:=Tryz.prog) _ _ _ Tryz.underlying22 Tryz.underlying5 Tryz.underlying9 x9;clear x9));go_simp<;>with_reducible rfl);try simp only [az])
   exact Yl.nil
  refine uT t (i:=9) (R:=fun v m=>∃a c,v=.slice a 128 c∧Rd m (.slice a 128 c) (headW g)) rfl (by kernel_rfl) (by kernel_rfl) (by go_simp) j ((Md.o _).mono fun e wy ⟨v,h1,h2,h3⟩=>by obtain ⟨a9,c9,rfl⟩:=h2.form;have h5:=h2.rd;rw [Rl] at h5 h1;exact ⟨_,h1,⟨_,_,rfl,h5⟩,h3⟩) (fun v w1 w2 h hb=>by obtain ⟨a,c,e,hr⟩:=h;exact ⟨a,c,e,hr.a hb⟩) ?_
  intro aN ao I jK eY;clear t j;have t:=I;have j:=eY;clear I eY;obtain ⟨a9,c9,rfl,_⟩:=jK;try simp only [az]
  refine dm [10,15,16] (fuel:=0) (a':=?qca2) (by kernel_rfl) (by kernel_rfl) (by kernel_rfl) ?qcp2 j ?qcn2
  case qcp2=>
   iterate 3 (apply Yl.cons rfl (by kernel_rfl);focus (rintro m ⟨n,⟨_,_,e1,x9⟩⟩;have d2:=ik (P:=Tryz.prog) _ _ _ Tryz.underlying22 Tryz.underlying5 Tryz.underlying9 (yE.o.a n);have k9:=aR _ _ _ _ F n;clear n;(try (cases e1;have d1:=ik (P:=Tryz.prog) _ _ _ Tryz.underlying22 Tryz.underlying5 Tryz.underlying9 x9;clear x9));go_simp<;>with_reducible rfl);try simp only [az])
   exact Yl.nil
  refine wpAnyH_done (by kernel_rfl) ?_ _
  refine NoPanic.normal ?_
  try simp only [az]
  obtain ⟨X6,AZ⟩:=ai ao;rw [<-AZ] at j ⊢;have y:=j.1;have Sz:=ag (nH.o.a y);have C9:=bT bU y;have Df:=ag (aJ.o.a y);have CO:=ag (show w.heap.size+2<=X6.heap.size by have:=y.size;have:=Dx.o;omega);clear j y t F aa Md AZ;obtain ⟨a6,n6,c6,aw,A7⟩:=QY Df.o 1 (by have:=an.o;omega);rw [show (bE f s).drop 1=(bE f s).tail by rw [List.drop_one]] at A7;have J:=qyq g a6 n6 c6 (bE f s).tail X6 al XG.o A7 (qs2 f s);have qO:=ag (show Ih g (bE f s).tail=(pQ (bE f s),(jf s (bE f s)).2.2.2.2.2,(jf s (bE f s)).2.2.2.1,(jf s (bE f s)).2.2.2.2.1) by
   unfold Ih pQ jf;rw [am.o])
  have ap:=ag (show jf s (bE f s)=(s,g,(pQ (bE f s)).length,(jf s (bE f s)).2.2.2.1,(jf s (bE f s)).2.2.2.2.1,(jf s (bE f s)).2.2.2.2.2) by
   unfold pQ jf;rw [am.o,List.length_map])
  rw [qO.o] at J;obtain ⟨RL,Jf⟩:=ai (pQ (bE f s));obtain ⟨L2,ax⟩:=ai ((jf s (bE f s)).2.2.2.1);obtain ⟨L3,ay⟩:=ai ((jf s (bE f s)).2.2.2.2.1);obtain ⟨L1,aD⟩:=ai ((jf s (bE f s)).2.2.2.2.2);rw [<-Jf,<-aD,<-ax,<-ay] at J ap;have jN:=ag Jf;simp only at J
  clear A7 Jf aD ax ay qO;go_wp2_with (first | (refine qo1 rfl (.tmp 47) (.const (.int .i64 1)) 42 (by kernel_rfl) rfl rfl rfl aw ?_) | fail)
  refine J.mono ?_
  rintro e w6 ⟨rv,rfl,o6,b6⟩;obtain ⟨ra,rc,rfl⟩:=o6.form;obtain ⟨L,aE⟩:=ai RL.length;rw [<-aE] at o6 ap ⊢;have IY:=ag (Sz.o.a b6);have vS:=bT C9 b6;obtain ⟨w7,ab⟩:=ai (w6.alloc (.cells #[.slice ra L rc,.int .i64 L1,.int .u32 L2,.int .u32 L3] 80));have b7:ah w6 w7:=by rw [ab];exact ae
  have aF:=ag (show aZ w7 w6.heap.size (.slice ra L rc) L1 L2 L3 by rw [ab];exact heap_alloc_new w6 _);have SA:=ag (IY.o.a b7);have Da:=bT vS b7;have Ew:=ag (show bu w7 (w.heap.size+2) (.slice ra L rc) RL from (o6.mono CO.o).a b7);obtain ⟨Q,hQ⟩:=ai w6.heap.size;rw [<-hQ] at aF;have Mo:=ag (show w.heap.size+1<Q by rw [hQ];have:=b6.size;have:=CO.o;omega);have aH:=hQ.symm;clear J o6 b6 b7 hQ aE aw;have t:aL (fun m=>aZ m Q (.slice ra L rc) L1 L2 L3):=eH _ _;go_wp2_with fail
  rw [<-ab];try rw [aH]
  clear ab aH;refine gH t (by kernel_rfl) aF.o ?_
  intro j;have p:=ag (SA.o.a (Below.refl w7.heap.size w7).drew);have vY:=ag (show ah w w7.drew from Da.o.drew);have SB:=ag (Ew.o.a (Below.refl w7.heap.size w7).drew);generalize w7.drew=wd at *;refine dm [0,1,2,3,4,5,6,7,8,9,10,11,12,13] (fuel:=3) (a':=?qda1) (by kernel_rfl) (by kernel_rfl) (by kernel_rfl) ?qdp1 j ?qdn1
  case qdp1=>
   iterate 14 (apply Yl.cons rfl (by kernel_rfl);focus (rintro m n;obtain ⟨m0,m1,m2,m3,_⟩:=n.cells;clear n;go_simp<;>with_reducible rfl);try simp only [az])
   exact Yl.nil
  obtain ⟨d,b⟩:=bK p.o (.string (bs s)) (.int .u32 g) (.int .i64 L) (.int .u32 L2) (.int .u32 L3) (.int .i64 L1);obtain ⟨c0,c1,c2,c3,c4,c5⟩:=cu p.o;have f0:=p.o.fz 0;have f1:=p.o.fz 1;have f2:=p.o.fz 2;have f3:=p.o.fz 3;have f4:=p.o.fz 4;have f5:=p.o.fz 5;obtain ⟨ws,r⟩:=aj (bV wd (w.heap.size+1) (.string (bs s)) (.int .u32 g) (.int .i64 L) (.int .u32 L2) (.int .u32 L3) (.int .i64 L1));rw [r] at d b;have u:=ag d;have O:=ag (show ah w ws from vY.o.grown b vY.o.size (by intro k S;cases S;omega));have aO:=ag (SB.o.grown b (by omega));have aq:aZ ws Q (.slice ra L rc) L1 L2 L3:=by
   unfold aZ at j ⊢;rw [b.block _ (Array.getElem?_eq_some_iff.1 j).1 (by intro e;cases e;have:=Mo.o;omega)];exact j
  unfold bV at r;refine nL (i:=14) (w':=ws) rfl (by kernel_rfl) (by kernel_rfl) (by rw [<-r];go_simp) aq ?_
  clear j r d b c0 c1 c2 c3 c4 c5 f0 f1 f2 f3 f4 f5;have j:=aq;clear aq;try simp only [az]
  refine dm [15,16] (fuel:=0) (a':=?qda2) (by kernel_rfl) (by kernel_rfl) (by kernel_rfl) ?qdp2 j ?qdn2
  case qdp2=>
   iterate 2 (apply Yl.cons rfl (by kernel_rfl);focus (rintro m n;obtain ⟨m0,m1,m2,m3,_⟩:=n.cells;clear n;go_simp<;>with_reducible rfl);try simp only [az])
   exact Yl.nil
  refine wpAnyH_done (by kernel_rfl) ?_ _
  refine NoPanic.normal ?_
  try simp only [az]
  obtain ⟨T,U,V,W,X,Y⟩:=cu u.o;clear j t;go_wp2;refine bodyPost_ret (v:=.tuple #[.agg #[.string (bs s),.int .u32 g,.int .i64 L,.int .u32 L2,.int .u32 L3,.int .i64 L1],.slice ra L rc,.int .i64 0]) ?_ rfl ⟨.slice ra L rc, ?_, ?_,O.o⟩
  ·simp [results,Tryz.results9,go_sem,T,U,V,W,X,Y]
  ·rw [Zi.o,jT.o.2.2.2.1,ap.o]
  ·rw [jT.o.2.2.2.2,<-jN.o];exact aO.o.mono (by omega)
 ·have A:=ag (Ro fF.o (.inr (by rw [D.o,X5.o];exact fun q=>g4 q.2.symm)))
  rw [decide_eq_false g4] at aa;have t:aL (fun m=>ah E m):=jW E;clear g4 g3;go_wp2_with fail
  refine gH t (by kernel_rfl) aB ?_
  intro j;generalize E.drew=wd at *;refine dm [0,1,2,3,4,5,6,7,8,11,12,13,14] (fuel:=4) (a':=?qea1) (by kernel_rfl) (by kernel_rfl) (by kernel_rfl) ?qep1 j ?qen1
  case qep1=>
   iterate 13 (apply Yl.cons rfl (by kernel_rfl);focus (rintro m n;have d2:=ik (P:=Tryz.prog) _ _ _ Tryz.underlying22 Tryz.underlying5 Tryz.underlying9 (yE.o.a n);have k9:=aR _ _ _ _ F n;clear n;(try (cases e1;have d1:=ik (P:=Tryz.prog) _ _ _ Tryz.underlying22 Tryz.underlying5 Tryz.underlying9 x9;clear x9));go_simp<;>with_reducible rfl);try simp only [az])
   exact Yl.nil
  refine uT t (i:=9) (R:=fun v m=>∃a c,v=.slice a 128 c∧Rd m (.slice a 128 c) (headW g)) rfl (by kernel_rfl) (by kernel_rfl) (by go_simp) j ((Md.o _).mono fun e wy ⟨v,h1,h2,h3⟩=>by obtain ⟨a9,c9,rfl⟩:=h2.form;have h5:=h2.rd;rw [Rl] at h5 h1;exact ⟨_,h1,⟨_,_,rfl,h5⟩,h3⟩) (fun v w1 w2 h hb=>by obtain ⟨a,c,e,hr⟩:=h;exact ⟨a,c,e,hr.a hb⟩) ?_
  intro aN ao I jK eY;clear t j;have t:=I;have j:=eY;clear I eY;obtain ⟨a9,c9,rfl,_⟩:=jK;try simp only [az]
  refine dm [10,15,16] (fuel:=0) (a':=?qea2) (by kernel_rfl) (by kernel_rfl) (by kernel_rfl) ?qep2 j ?qen2
  case qep2=>
   iterate 3 (apply Yl.cons rfl (by kernel_rfl);focus (rintro m ⟨n,⟨_,_,e1,x9⟩⟩;have d2:=ik (P:=Tryz.prog) _ _ _ Tryz.underlying22 Tryz.underlying5 Tryz.underlying9 (yE.o.a n);have k9:=aR _ _ _ _ F n;clear n;(try (cases e1;have d1:=ik (P:=Tryz.prog) _ _ _ Tryz.underlying22 Tryz.underlying5 Tryz.underlying9 x9;clear x9));go_simp<;>with_reducible rfl);try simp only [az])
   exact Yl.nil
  refine wpAnyH_done (by kernel_rfl) ?_ _
  refine NoPanic.normal ?_
  try simp only [az]
  obtain ⟨X6,AZ⟩:=ai ao;rw [<-AZ] at j ⊢;have y:=j.1;have E8:=ag (nH.o.a y);have SC:=bT bU y;clear j y t F aa Md AZ;obtain ⟨c0,c1,c2,c3,c4,c5⟩:=cu E8.o;have f0:=E8.o.fz 0;have f1:=E8.o.fz 1;have f2:=E8.o.fz 2;have f3:=E8.o.fz 3;have f4:=E8.o.fz 4;have f5:=E8.o.fz 5;obtain ⟨d,b⟩:=ac0 E8.o;obtain ⟨ws,r⟩:=ai (bV X6 (w.heap.size+1) (.string ⟨#[]⟩) (.int .u32 0) (.int .i64 0) (.int .u32 0) (.int .u32 0) (.int .i64 0));rw [<-r] at d b;have u:=ag d;have O:=ag (show ah w ws from SC.o.grown b SC.o.size (by intro k S;cases S;omega));unfold bV at r;have oq:=ag r;clear d b r;go_wp2;rw [<-oq.o];obtain ⟨T,U,V,W,X,Y⟩:=cu u.o;refine bodyPost_ret (v:=.tuple #[.agg #[.string ⟨#[]⟩,.int .u32 0,.int .i64 0,.int .u32 0,.int .u32 0,.int .i64 0],.slice none 0 0,.int .i64 8]) ?_ rfl ⟨.slice none 0 0, ?_, ?_,O.o⟩
  ·simp [results,Tryz.results9,go_sem,T,U,V,W,X,Y]
  ·rw [A.o.1,A.o.2.1];rfl
  ·rw [A.o.2.2];exact bu.nil _ _
abbrev Vl:=ak × Nat × Int × Nat × Nat × Int
abbrev qV (V:Vl):Array Value:=#[.string (bs V.1),.int .u32 V.2.1,.int .i64 V.2.2.1,.int .u32 V.2.2.2.1,.int .u32 V.2.2.2.2.1,.int .i64 V.2.2.2.2.2]
abbrev vlV (V:Vl):Value:=.agg (qV V)
def uR (W:Wl):Vl:=(W.1,W.2.1,(W.2.2.1:Int),W.2.2.2.1,W.2.2.2.2.1,(W.2.2.2.2.2:Int))
def kg (f:Fsd) (V:Vl):Int:=if gZ f V.1≠0 then gZ f V.1 else if uR (fP f V.1)≠V then 8 else 0
def yB (f:Fsd) (V:Vl):Int:=if kg f V≠0 then 0 else gP f (fP f V.1)
def xh (f:Fsd) (V:Vl):Int:=if kg f V≠0 then 0 else IP f (fP f V.1)
def lH (f:Fsd) (V:Vl) (r:ak):Fw:=if kg f V≠0 then (fz,wz,kg f V) else appW f (fP f V.1) r
theorem za {f:Fsd} {V:Vl} (h:¬gZ f V.1=0):kg f V=gZ f V.1∧yB f V=0:=by
 have e:kg f V=gZ f V.1:=by unfold kg;rw [if_pos h]
 exact ⟨e,by unfold yB;rw [if_pos (by rw [e];exact h)]⟩
theorem qj3 {f:Fsd} {V:Vl} (h:gZ f V.1=0) (a:¬uR (fP f V.1)=V):kg f V=8∧yB f V=0:=by
 have e:kg f V=8:=by unfold kg;rw [if_neg (fun e=>e h),if_pos a]
 exact ⟨e,by unfold yB;rw [if_pos (by rw [e];decide)]⟩
theorem SE {f:Fsd} {V:Vl} (h:gZ f V.1=0) (a:uR (fP f V.1)=V):kg f V=0∧yB f V=gP f (fP f V.1)∧(fP f V.1).1=V.1:=by
 have e:kg f V=0:=by unfold kg;rw [if_neg (fun e=>e h),if_neg (fun e=>e a)]
 exact ⟨e,by unfold yB;rw [if_neg (fun h=>h e)],congrArg (·.1) a⟩
theorem SF {f:Fsd} {V:Vl} (h:kg f V=0):gZ f V.1=0∧uR (fP f V.1)=V:=by
 have b:gZ f V.1=0:=by
  by_cases a:gZ f V.1=0
  ·exact a
  ·rw [(za a).1] at h;exact absurd h a
 exact ⟨b,Classical.byContradiction fun a=>by rw [(qj3 b a).1] at h;cases h⟩
theorem qy8 {f:Fsd} {s:ak} (h:gZ f s=0):(fP f s).1=s:=by
 unfold fP;rw [if_neg (fun e=>e h)];rfl
theorem iE {f:Fsd} {V:Vl} (h:kg f V=0):fM f (fP f V.1)=0:=by
 obtain ⟨a,_⟩:=SF h;have b:=qy8 a;exact (MV (W:=fP f V.1) (by rw [b];exact a) (by rw [b])).1
theorem SG {a u0:ak} {b c d u1 u3 u4:Nat} {f g:Nat} {u2 u5:Int} (h:¬uR (a,b,f,c,d,g)=(u0,u1,u2,u3,u4,u5)):a≠u0∨(a=u0∧(b≠u1∨(b=u1∧((f:Int)≠u2∨((f:Int)=u2∧(c≠u3∨(c=u3∧(d≠u4∨(d=u4∧(g:Int)≠u5))))))))):=by
 unfold uR at h;by_cases i:a=u0
 ·refine .inr ⟨i, ?_⟩
  subst i;have h:¬(b=u1∧(f:Int)=u2∧c=u3∧d=u4∧(g:Int)=u5):=fun e=>h (by obtain ⟨rfl,rfl,rfl,rfl,rfl⟩:=e;rfl)
  omega
 ·exact .inl i
abbrev uf (w:World) (p:Nat) (V:Vl):Prop:=Bq w p 34 (qV V)
theorem xm {w:World} {p:Nat} {W:Vl} (h:uf w p W):w.cell? ⟨p,0,none⟩=some (.string (bs W.1))∧w.cell? ⟨p,1,none⟩=some (.int .u32 W.2.1)∧w.cell? ⟨p,2,none⟩=some (.int .i64 W.2.2.1)∧w.cell? ⟨p,3,none⟩=some (.int .u32 W.2.2.2.1)∧w.cell? ⟨p,4,none⟩=some (.int .u32 W.2.2.2.2.1)∧w.cell? ⟨p,5,none⟩=some (.int .i64 W.2.2.2.2.2):=
 ⟨h.cell 0,h.cell 1,h.cell 2,h.cell 3,h.cell 4,h.cell 5⟩
theorem qxp (x:FsV) (f:Fsd) (V:Vl) (w:World) (h:RdX w x f) (Z:WfX f):
  Calls Tryz.prog 37 #[x.val,vlV V] w fun e w'=>e=.returned (.tuple #[.int .i64 (yB f V),.int .i64 (kg f V)])∧ah w w':=by
 have HW:=ag Z;clear Z;obtain ⟨y,B⟩:=aj ((w.alloc (.cells x.cs 32)).alloc (.cells #[.string (bs V.1),.int .u32 V.2.1,.int .i64 V.2.2.1,.int .u32 V.2.2.2.1,.int .u32 V.2.2.2.2.1,.int .i64 V.2.2.2.2.2] 34));have q0:ah w (w.alloc (.cells x.cs 32)):=ae;have z:(w.alloc (.cells x.cs 32)).heap.size=w.heap.size+1:=by simp
 have D:Below (w.alloc (.cells x.cs 32)).heap.size (w.alloc (.cells x.cs 32)) y:=by rw [<-B];exact ae
 have fG:=ag (show bf y w.heap.size x from (Bq.new w 32 x.cs).a D);have rZ:=ag (show uf y (w.heap.size+1) V by rw [<-B,<-z];exact Bq.new _ _ _);have bi:=ag (show ah w y from q0.trans (D.mono (by omega)));obtain ⟨E,F,G,H,I,J⟩:=aV fG.o;obtain ⟨n,p,q,r,s,t⟩:=xm rZ.o;have HX:=ag h;clear h q0 D z;unfold FsV.val;unfold FsV.cs at B;go_enter Tryz.func37,Tryz.ntmps37;go_wp2_with fail
 refine (XE x f V.1 y (HX.o.a bi.o) HW.o).mono ?_
 rintro e K ⟨rv,rfl,L,d⟩;have mO:=ag (fG.o.a d);have kI:=ag (rZ.o.a d);have bg:=bT bi d;obtain ⟨W,M⟩:=ai (fP f V.1);have j:=ag M;rw [<-M];obtain ⟨C,N⟩:=aj (K.alloc (.cells #[.string (bs W.1),.int .u32 W.2.1,.int .i64 W.2.2.1,.int .u32 W.2.2.2.1,.int .u32 W.2.2.2.2.1,.int .i64 W.2.2.2.2.2] 34));have g:ah K C:=by rw [<-N];exact ae
 have EW:=ag (show iw C K.heap.size W by rw [<-N];exact Bq.new _ _ _);have vP:=ag (mO.o.a g);have O:=ag (kI.o.a g);have i:=bT bg g;clear E F G H I J n p q r s t B d L g M;by_cases k:¬gZ f V.1=0
 ·have a:=ag (za k)
  obtain ⟨e,P⟩:=ai (gZ f V.1);have iB:=ag P;rw [<-P] at k ⊢;have ge:(e==0)=false:=by simpa using k
  clear P k;go_wp2;go_ret2;refine ⟨?_,i.o⟩;rw [a.o.1,a.o.2,<-iB.o];rfl
 rw [Decidable.not_not] at k;rw [k];have Q:=ag k;clear k;by_cases u:¬uR W=V
 ·have a:=ag (qj3 Q.o (by rw [<-j.o];exact u))
  clear j;obtain ⟨v0,v1,v2,v3,v4,v5⟩:=W;obtain ⟨u0,u1,u2,u3,u4,u5⟩:=V;obtain ⟨R,S,T,U,X,Y⟩:=jJ EW.o;obtain ⟨n,p,q,r,s,t⟩:=xm O.o;unfold pR o7;dsimp only at R S T U X Y n p q r s t N ⊢;have hd:=SG u;clear u;rcases hd with b | ⟨rfl,b | ⟨rfl,b | ⟨rfl,b | ⟨rfl,b | ⟨rfl,b⟩⟩⟩⟩⟩
  ·have c:((bs v0).toList==(bs u0).toList)=false:=by rw [IU];exact decide_eq_false b
   clear b;go_wp2;go_ret2;refine ⟨?_,i.o⟩;rw [a.o.1,a.o.2];rfl
  ·have c:((v1:Int)==(u1:Int))=false:=by rw [AL];exact decide_eq_false b
   clear b;go_wp2;go_ret2;refine ⟨?_,i.o⟩;rw [a.o.1,a.o.2];rfl
  ·have c:((v2:Int)==u2)=false:=by simpa using b
   clear b;go_wp2;go_ret2;refine ⟨?_,i.o⟩;rw [a.o.1,a.o.2];rfl
  ·have c:((v3:Int)==(u3:Int))=false:=by rw [AL];exact decide_eq_false b
   clear b;go_wp2;go_ret2;refine ⟨?_,i.o⟩;rw [a.o.1,a.o.2];rfl
  ·have c:((v4:Int)==(u4:Int))=false:=by rw [AL];exact decide_eq_false b
   clear b;go_wp2;go_ret2;refine ⟨?_,i.o⟩;rw [a.o.1,a.o.2];rfl
  ·have c:((v5:Int)==u5)=false:=by simpa using b
   clear b;go_wp2;go_ret2;refine ⟨?_,i.o⟩;rw [a.o.1,a.o.2];rfl
 rw [Decidable.not_not] at u;have A:=ag (SE Q.o (by rw [<-j.o];exact u));have a:=ag (MV (f:=f) (W:=W) (by rw [j.o,A.o.2.2];exact Q.o) (by rw [show W.1=V.1 by rw [j.o];exact A.o.2.2];exact j.o.symm));have HN:=ag (show kg f V=0∧yB f V=gP f W by rw [j.o];exact ⟨A.o.1,A.o.2.1⟩);subst u;clear j A;obtain ⟨R,S,T,U,X,Y⟩:=jJ EW.o;obtain ⟨n,p,q,r,s,t⟩:=jJ (show iw C (w.heap.size+1) W from O.o);obtain ⟨E,F,G,H,I,J⟩:=aV vP.o;go_wp2_with fail
 refine (tJ x f W.1 C (HX.o.a i.o) HW.o).mono ?_
 rintro e w4 ⟨rfl,l⟩;have IW:=ag (show iw w4 (w.heap.size+1) W from O.o.a l);have jB:=bT i l;obtain ⟨m,v⟩:=ai ((bE f W.1).length);rw [a.o.2.2.1,Rm a.o.2.2.1,<-v];obtain ⟨a1,a2⟩:=lM m W.2.2.2.2.2 (by rw [v];exact a.o.2.2.2.1) (by rw [v];exact a.o.2.2.2.2) (by rw [v];exact uP _ _);have HM:=ag v;clear E F G H I J R S T U X Y n p q r s t l v;obtain ⟨n,p,q,r,s,t⟩:=jJ IW.o;go_wp2;go_ret2;refine ⟨?_,jB.o⟩;rw [HN.o.1,HN.o.2,a.o.2.1,<-HM.o,<-a2];rfl
theorem qio (x:FsV) (f:Fsd) (V:Vl) (w:World) (h:RdX w x f) (Z:WfX f):
  Calls Tryz.prog 41 #[x.val,vlV V] w fun e w'=>e=.returned (.tuple #[.int .i64 (yB f V),.int .i64 (kg f V)])∧ah w w':=by
 have HW:=ag Z;clear Z;obtain ⟨y,B⟩:=aj ((w.alloc (.cells x.cs 32)).alloc (.cells #[.string (bs V.1),.int .u32 V.2.1,.int .i64 V.2.2.1,.int .u32 V.2.2.2.1,.int .u32 V.2.2.2.2.1,.int .i64 V.2.2.2.2.2] 34));have q0:ah w (w.alloc (.cells x.cs 32)):=ae;have z:(w.alloc (.cells x.cs 32)).heap.size=w.heap.size+1:=by simp
 have D:Below (w.alloc (.cells x.cs 32)).heap.size (w.alloc (.cells x.cs 32)) y:=by rw [<-B];exact ae
 have fG:=ag (show bf y w.heap.size x from (Bq.new w 32 x.cs).a D);have rZ:=ag (show uf y (w.heap.size+1) V by rw [<-B,<-z];exact Bq.new _ _ _);have bi:=ag (show ah w y from q0.trans (D.mono (by omega)));obtain ⟨E,F,G,H,I,J⟩:=aV fG.o;obtain ⟨n,p,q,r,s,t⟩:=xm rZ.o;have HX:=ag h;clear h q0 D z;unfold FsV.val;unfold FsV.cs at B;go_enter Tryz.func41,Tryz.ntmps41;go_wp2_with fail
 refine (Oz x f V.1 y (HX.o.a bi.o) HW.o).mono ?_
 rintro e K ⟨rv,rfl,L,d⟩;have mO:=ag (fG.o.a d);have kI:=ag (rZ.o.a d);have bg:=bT bi d;obtain ⟨W,M⟩:=ai (fP f V.1);have j:=ag M;rw [<-M];obtain ⟨C,N⟩:=aj (K.alloc (.cells #[.string (bs W.1),.int .u32 W.2.1,.int .i64 W.2.2.1,.int .u32 W.2.2.2.1,.int .u32 W.2.2.2.2.1,.int .i64 W.2.2.2.2.2] 34));have g:ah K C:=by rw [<-N];exact ae
 have EW:=ag (show iw C K.heap.size W by rw [<-N];exact Bq.new _ _ _);have vP:=ag (mO.o.a g);have O:=ag (kI.o.a g);have i:=bT bg g;clear E F G H I J n p q r s t B d L g M;by_cases k:¬gZ f V.1=0
 ·have a:=ag (za k)
  obtain ⟨e,P⟩:=ai (gZ f V.1);have iB:=ag P;rw [<-P] at k ⊢;have ge:(e==0)=false:=by simpa using k
  clear P k;go_wp2;go_ret2;refine ⟨?_,i.o⟩;rw [a.o.1,a.o.2,<-iB.o];rfl
 rw [Decidable.not_not] at k;rw [k];have Q:=ag k;clear k;by_cases u:¬uR W=V
 ·have a:=ag (qj3 Q.o (by rw [<-j.o];exact u))
  clear j;obtain ⟨v0,v1,v2,v3,v4,v5⟩:=W;obtain ⟨u0,u1,u2,u3,u4,u5⟩:=V;obtain ⟨R,S,T,U,X,Y⟩:=jJ EW.o;obtain ⟨n,p,q,r,s,t⟩:=xm O.o;unfold pR o7;dsimp only at R S T U X Y n p q r s t N ⊢;have hd:=SG u;clear u;rcases hd with b | ⟨rfl,b | ⟨rfl,b | ⟨rfl,b | ⟨rfl,b | ⟨rfl,b⟩⟩⟩⟩⟩
  ·have c:((bs v0).toList==(bs u0).toList)=false:=by rw [IU];exact decide_eq_false b
   clear b;go_wp2;go_ret2;refine ⟨?_,i.o⟩;rw [a.o.1,a.o.2];rfl
  ·have c:((v1:Int)==(u1:Int))=false:=by rw [AL];exact decide_eq_false b
   clear b;go_wp2;go_ret2;refine ⟨?_,i.o⟩;rw [a.o.1,a.o.2];rfl
  ·have c:((v2:Int)==u2)=false:=by simpa using b
   clear b;go_wp2;go_ret2;refine ⟨?_,i.o⟩;rw [a.o.1,a.o.2];rfl
  ·have c:((v3:Int)==(u3:Int))=false:=by rw [AL];exact decide_eq_false b
   clear b;go_wp2;go_ret2;refine ⟨?_,i.o⟩;rw [a.o.1,a.o.2];rfl
  ·have c:((v4:Int)==(u4:Int))=false:=by rw [AL];exact decide_eq_false b
   clear b;go_wp2;go_ret2;refine ⟨?_,i.o⟩;rw [a.o.1,a.o.2];rfl
  ·have c:((v5:Int)==u5)=false:=by simpa using b
   clear b;go_wp2;go_ret2;refine ⟨?_,i.o⟩;rw [a.o.1,a.o.2];rfl
 rw [Decidable.not_not] at u;have A:=ag (SE Q.o (by rw [<-j.o];exact u));have a:=ag (MV (f:=f) (W:=W) (by rw [j.o,A.o.2.2];exact Q.o) (by rw [show W.1=V.1 by rw [j.o];exact A.o.2.2];exact j.o.symm));have HN:=ag (show kg f V=0∧yB f V=gP f W by rw [j.o];exact ⟨A.o.1,A.o.2.1⟩);subst u;clear j A;obtain ⟨R,S,T,U,X,Y⟩:=jJ EW.o;obtain ⟨n,p,q,r,s,t⟩:=jJ (show iw C (w.heap.size+1) W from O.o);obtain ⟨E,F,G,H,I,J⟩:=aV vP.o;go_wp2_with fail
 refine (qpa x f W.1 C (HX.o.a i.o) HW.o).mono ?_
 rintro e w4 ⟨rfl,l⟩;have IW:=ag (show iw w4 (w.heap.size+1) W from O.o.a l);have jB:=bT i l;obtain ⟨m,v⟩:=ai ((bE f W.1).length);rw [a.o.2.2.1,Rm a.o.2.2.1,<-v];obtain ⟨a1,a2⟩:=lM m W.2.2.2.2.2 (by rw [v];exact a.o.2.2.2.1) (by rw [v];exact a.o.2.2.2.2) (by rw [v];exact uP _ _);have HM:=ag v;clear E F G H I J R S T U X Y n p q r s t l v;obtain ⟨n,p,q,r,s,t⟩:=jJ IW.o;go_wp2;go_ret2;refine ⟨?_,jB.o⟩;rw [HN.o.1,HN.o.2,a.o.2.1,<-HM.o,<-a2];rfl
theorem qadf (x:FsV) (f:Fsd) (V:Vl) (w:World) (h:RdX w x f) (r:WfX f):
  Calls Tryz.prog 12 #[x.val,vlV V] w fun e w'=>e=.returned (.tuple #[.int .i64 (xh f V),.int .i64 (kg f V)])∧ah w w':=by
 have C:=ag r;clear r;obtain ⟨b,i⟩:=aj ((w.alloc (.cells x.cs 32)).alloc (.cells #[.string (bs V.1),.int .u32 V.2.1,.int .i64 V.2.2.1,.int .u32 V.2.2.2.1,.int .u32 V.2.2.2.2.1,.int .i64 V.2.2.2.2.2] 34));have s:ah w (w.alloc (.cells x.cs 32)):=ae;have c:(w.alloc (.cells x.cs 32)).heap.size=w.heap.size+1:=by simp
 have l:Below (w.alloc (.cells x.cs 32)).heap.size (w.alloc (.cells x.cs 32)) b:=by rw [<-i];exact ae
 have D:=ag (show bf b w.heap.size x from (Bq.new w 32 x.cs).a l);have E:=ag (show uf b (w.heap.size+1) V by rw [<-i,<-c];exact Bq.new _ _ _);have t:=ag (show ah w b from s.trans (l.mono (by omega)));obtain ⟨F,G,H,I,J,K⟩:=aV D.o;obtain ⟨L,M,N,O,P,Q⟩:=xm E.o;have R:=ag h;clear h s l c;unfold FsV.val;unfold FsV.cs at i;go_enter Tryz.func12,Tryz.ntmps12;go_wp2_with fail
 refine (qxp x f V b (R.o.a t.o) C.o).mono ?_
 rintro e X ⟨rfl,d⟩;have n:=bT t d;clear F G H I J K L M N O P Q i d;by_cases a:¬kg f V=0
 ·have g:=ag (show xh f V=0 by unfold xh;rw [if_pos a])
  obtain ⟨e,p⟩:=ai (kg f V);have S:=ag p;rw [<-p] at a ⊢;have Y:(e==0)=false:=by simpa using a
  clear p a;go_wp2;go_ret2;refine ⟨?_,n.o⟩;rw [g.o,<-S.o];rfl
 rw [Decidable.not_not] at a;rw [a];have u:=ag a;have v:=ag (iE a);have y:=ag (show xh f V=IP f (fP f V.1) by unfold xh;rw [if_neg (fun e=>e a)]);obtain ⟨m,j⟩:∃m:Nat,yB f V=m∧gP f (fP f V.1)=m∧m<=4096:=by
  obtain ⟨z,T⟩:=SF a;obtain ⟨_,c1,c2⟩:=SE z T;obtain ⟨_,A,_,Z,b3⟩:=MV (f:=f) (W:=fP f V.1) (by rw [c2];exact z) (by rw [c2]);have:=uP f (fP f V.1).1
  exact ⟨(bE f (fP f V.1).1).length - 1 - (fP f V.1).2.2.2.2.2,by rw [c1,A];omega,by rw [A];omega,by omega⟩
 rw [j.1];have B:=ag j.2.1;have Cn:=j.2.2;clear a j;by_cases k:m=0
 ·have q:((m:Int)==0)=true:=by simpa using k
  have g:=ag (show xh f V=-1 by rw [y.o];unfold IP;rw [if_neg (fun e=>e v.o),B.o,if_pos (by omega)]);clear k;go_wp2;go_ret2;refine ⟨?_,n.o⟩;rw [g.o,u.o];rfl
 have q:((m:Int)==0)=false:=by simpa using k
 have g:=ag (show xh f V=min ((m:Int)*107) 16384 by rw [y.o];unfold IP;rw [if_neg (fun e=>e v.o),B.o,if_neg (by omega)]);have a1:wrap64 ((m:Int)*107)=((m*107:Nat):Int):=by unfold wrap64;omega
 have U:=ag (show (m:Int)*107=((m*107:Nat):Int) by omega);clear k;go_wp2
 all_goals
  go_ret2;refine ⟨?_,n.o⟩;rw [g.o,U.o,u.o]
  first
   | (rw [show min ((m*107:Nat):Int) 16384=16384 by omega];rfl)
   | (rw [show min ((m*107:Nat):Int) 16384=(m:Int)*107 by omega];rfl)
   | (rw [show min ((m*107:Nat):Int) 16384=((m*107:Nat):Int) by omega];rfl)
theorem qy9 (x:FsV) (f:Fsd) (V:Vl) (w:World) (h:RdX w x f) (r:WfX f):
  Calls Tryz.prog 13 #[x.val,vlV V] w fun e w'=>e=.returned (.tuple #[.int .i64 (xh f V),.int .i64 (kg f V)])∧ah w w':=by
 have C:=ag r;clear r;obtain ⟨b,i⟩:=aj ((w.alloc (.cells x.cs 32)).alloc (.cells #[.string (bs V.1),.int .u32 V.2.1,.int .i64 V.2.2.1,.int .u32 V.2.2.2.1,.int .u32 V.2.2.2.2.1,.int .i64 V.2.2.2.2.2] 34));have s:ah w (w.alloc (.cells x.cs 32)):=ae;have c:(w.alloc (.cells x.cs 32)).heap.size=w.heap.size+1:=by simp
 have l:Below (w.alloc (.cells x.cs 32)).heap.size (w.alloc (.cells x.cs 32)) b:=by rw [<-i];exact ae
 have D:=ag (show bf b w.heap.size x from (Bq.new w 32 x.cs).a l);have E:=ag (show uf b (w.heap.size+1) V by rw [<-i,<-c];exact Bq.new _ _ _);have t:=ag (show ah w b from s.trans (l.mono (by omega)));obtain ⟨F,G,H,I,J,K⟩:=aV D.o;obtain ⟨L,M,N,O,P,Q⟩:=xm E.o;have R:=ag h;clear h s l c;unfold FsV.val;unfold FsV.cs at i;go_enter Tryz.func13,Tryz.ntmps13;go_wp2_with fail
 refine (qio x f V b (R.o.a t.o) C.o).mono ?_
 rintro e X ⟨rfl,d⟩;have n:=bT t d;clear F G H I J K L M N O P Q i d;by_cases a:¬kg f V=0
 ·have g:=ag (show xh f V=0 by unfold xh;rw [if_pos a])
  obtain ⟨e,p⟩:=ai (kg f V);have S:=ag p;rw [<-p] at a ⊢;have Y:(e==0)=false:=by simpa using a
  clear p a;go_wp2;go_ret2;refine ⟨?_,n.o⟩;rw [g.o,<-S.o];rfl
 rw [Decidable.not_not] at a;rw [a];have u:=ag a;have v:=ag (iE a);have y:=ag (show xh f V=IP f (fP f V.1) by unfold xh;rw [if_neg (fun e=>e a)]);obtain ⟨m,j⟩:∃m:Nat,yB f V=m∧gP f (fP f V.1)=m∧m<=4096:=by
  obtain ⟨z,T⟩:=SF a;obtain ⟨_,c1,c2⟩:=SE z T;obtain ⟨_,A,_,Z,b3⟩:=MV (f:=f) (W:=fP f V.1) (by rw [c2];exact z) (by rw [c2]);have:=uP f (fP f V.1).1
  exact ⟨(bE f (fP f V.1).1).length - 1 - (fP f V.1).2.2.2.2.2,by rw [c1,A];omega,by rw [A];omega,by omega⟩
 rw [j.1];have B:=ag j.2.1;have Cn:=j.2.2;clear a j;by_cases k:m=0
 ·have q:((m:Int)==0)=true:=by simpa using k
  have g:=ag (show xh f V=-1 by rw [y.o];unfold IP;rw [if_neg (fun e=>e v.o),B.o,if_pos (by omega)]);clear k;go_wp2;go_ret2;refine ⟨?_,n.o⟩;rw [g.o,u.o];rfl
 have q:((m:Int)==0)=false:=by simpa using k
 have g:=ag (show xh f V=min ((m:Int)*107) 16384 by rw [y.o];unfold IP;rw [if_neg (fun e=>e v.o),B.o,if_neg (by omega)]);have a1:wrap64 ((m:Int)*107)=((m*107:Nat):Int):=by unfold wrap64;omega
 have U:=ag (show (m:Int)*107=((m*107:Nat):Int) by omega);clear k;go_wp2
 all_goals
  go_ret2;refine ⟨?_,n.o⟩;rw [g.o,U.o,u.o]
  first
   | (rw [show min ((m*107:Nat):Int) 16384=16384 by omega];rfl)
   | (rw [show min ((m*107:Nat):Int) 16384=(m:Int)*107 by omega];rfl)
   | (rw [show min ((m*107:Nat):Int) 16384=((m*107:Nat):Int) by omega];rfl)
end Go.Proofs.YthpammbgcidloaaGreat
