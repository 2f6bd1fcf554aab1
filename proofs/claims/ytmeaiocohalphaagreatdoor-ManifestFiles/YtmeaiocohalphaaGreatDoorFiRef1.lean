/-
  The document's side of layer 5: Great, SameFile, Same.
-/
import Derived.Test.YtmeaiocohalphaaGreatDoorFiFn4
set_option maxHeartbeats 2000000
set_option maxRecDepth 100000
namespace Go.Proofs.YtmeaiocohalphaaGreatDoor
open Go.RowKit
set_option linter.all false
variable {fs:List Fl}{s:az}{l:List Ex}{B:Int}{w:World}{q:Nat}{y:Value}
theorem K4(h:iG fs s l B≠0):lW fs s l B=[]:=by unfold lW;rw[if_neg h]
theorem qy7(h:iG fs s l B=ib (bY fs (s,l))):lW fs s l B=pW (bY fs (s,l)):=by unfold lW pW;rw[h]
theorem TZ(h:dR fs B)(b:gT s=true)(hl:l.length<=64)(c:dK (cz fs++l) B):okB (bY fs (s,l)):=by
 refine quu (Hq h.1 h.2.1 h.2.2.1) (by have:=h.1;omega) ⟨by have:=Ke b;show s.length<=1000;omega,by show l.length<=1000;omega,fun x a=>?_⟩;have:=(TG c.1).2 x (Xa5.2 (.inr a))
 omega
theorem qy8(a:aA)(n c:Nat)(fs:List Fl)(s:az)(al:aA)(m cl:Nat)(l:List Ex)(B:Int)(w:World)(J:fQ w (.slice a n c) fs)(hn:n=fs.length)(X:gL fs)(Y:iB w (.slice al m cl) l)(hm:m=l.length)(wO:l.length<=100000)(ab:∀x∈l,jg x):
  Calls Tryz.prog 178 #[.agg #[.slice a n c],.string (bs s),.slice al m cl,.int .i64 B] w fun e w'=>∃v,e=.returned (.tuple #[.agg #[v],.int .i64 (iG fs s l B)])∧bi w' w.heap.size v (lW fs s l B)∧ah w w':=by
 obtain⟨W0,t⟩:=ak ((w.alloc (.cells #[.slice a n c] 31)).alloc (.cells #[.slice none 0 0] 31));have b:ah w (w.alloc (.cells #[.slice a n c] 31)):=ae;have Z:ah w W0:=by rw[t];exact b.alloc (by simp) _
 have tF:=ag (show W0.heap[w.heap.size]? =some (.cells #[.slice a n c] 31 (0,0))by
  rw[t,<-heap_alloc_new w (.cells #[.slice a n c] 31)];exact((Below.refl (w.alloc (.cells #[.slice a n c] 31)).heap.size _).alloc aL _).block _ (by simp))
 have ac:=ag (show bZ W0 (w.heap.size+1)by
  have:=bZ.new (w.alloc (.cells #[.slice a n c] 31)) (.slice none 0 0)
  rw[t];simpa using this)
 have ad:=ag Z;have fw:=TK a n c fs B W0 (J.a Z) hn X;have K:=TF s;have mD:=ag (fun u (b:ah w u) (hr:kK fs) (hl:n<=1000000)=>ja a n c fs s u (J.a b) hn hr hl);have Qs:=ag (fun u (b:ah w u) (hl:(cz fs).length<=1000000)=>qhs a n c fs u (J.a b) hn hl);have ao:=ag (fun u (b:ah w u) (hl:fs.length<=1000) (ap:∀f∈fs,f.2.length<=1000000) (hr:kK fs)=>qw2 a n c fs s al m cl l u (J.a b) hn hl ap hr (Y.a b) hm (by omega));have HN:=ag hn;have rQ:=ag Y;have Et:=ag wO;have aH:m<=100000:=by omega
 have L:=ag hm;have aq:=ag (show ∀x∈cz fs++l,jg x from fun x hx=>by
  rcases Xa5.1 hx with hx|hx
  ·exact TB X x hx
  exact ab x hx)
 clear J hn X Z b Y hm wO ab;by_cases V:bf fs B=0
 ·have N:=ag (Ay V).2
  have ol:=ag V;rw[V]at fw;clear V;go_enter Tryz.func178,Tryz.ntmps178;go_wp2_with fail
  rw[<-t];refine fw.mono ?_
  rintro e u⟨rfl,b⟩;have A:=bT ad b;have mK:=ag ((b.block _ (Xd6.1 tF.o).1).trans tF.o);have q:=ag (ac.o.a b);have r1:u.cell? ⟨w.heap.size,0,none⟩=some (.slice a n c):=by rw[cell_of_row u _ 0 _ _ (0,0) mK.o];rfl
  clear b fw t;cases g2:gT s with
  |false=>
   rw[g2]at K;have g:=ag (show iG fs s l B=50 by unfold iG;rw[if_neg (by simp[ol.o]),if_pos g2]);have C:=ag (K4 (by rw[g.o];decide));clear g2;have D:=q.o.cell;have hf:=q.o.fz;obtain⟨E,d, -⟩:=q.o.put (.slice none 0 0);go_wp2_with (go_at_call 201;refine(K _).mono ?_;rintro e wc⟨rfl,rfl⟩)
   obtain⟨w9,j⟩:=ak (wc.setCell ⟨w.heap.size+1,0,none⟩ (.slice none 0 0));rw[<-j]at E d⊢;refine bodyPost_ret (v:=.tuple #[.agg #[.slice none 0 0],.int .i64 50]) ?_ rfl ⟨.slice none 0 0,by rw[g.o],by rw[C.o];exact bi.nil _ _,A.o.grown d A.o.size (by intro k F;cases F;omega)⟩
   clear j d D;simp[results,Tryz.results178,go_sem, *]
  |true=>
   rw[g2]at K;go_wp2_with fail
   refine(K _).mono ?_
   rintro e wc⟨rfl,rfl⟩;go_wp2_with fail
   refine(mD.o wc A.o (KX N.o) (by have:=N.o.1;have:=HN.o;omega)).mono ?_
   rintro e w2⟨rfl,P⟩;have H:=bT A P;have zA:=ag ((P.block _ (Xd6.1 mK.o).1).trans mK.o);have G:=ag (q.o.a P);have r2:w2.cell? ⟨w.heap.size,0,none⟩=some (.slice a n c):=by rw[cell_of_row w2 _ 0 _ _ (0,0) zA.o];rfl
   clear P;cases g3:iF fs s with
   |true=>
    have g:=ag (show iG fs s l B=51 by unfold iG;rw[if_neg (by simp[ol.o]),if_neg (by simp[g2]),if_pos g3]);have C:=ag (K4 (by rw[g.o];decide));clear g2 g3;have D:=G.o.cell;have hf:=G.o.fz;obtain⟨E,d, -⟩:=G.o.put (.slice none 0 0);go_wp2;obtain⟨w9,j⟩:=ak (w2.setCell ⟨w.heap.size+1,0,none⟩ (.slice none 0 0));rw[<-j]at E d⊢;refine bodyPost_ret (v:=.tuple #[.agg #[.slice none 0 0],.int .i64 51]) ?_ rfl ⟨.slice none 0 0,by rw[g.o],by rw[C.o];exact bi.nil _ _,H.o.grown d H.o.size (by intro k F;cases F;omega)⟩
    clear j d D;simp[results,Tryz.results178,go_sem, *]
   |false=>
    obtain⟨i,hi⟩:=ak (dN fs s);rw[<-hi];clear hi;by_cases g4:m=0
    ·have g:=ag (show iG fs s l B=8 by
      unfold iG;rw[if_neg (by simp[ol.o]),if_neg (by simp[g2]),if_neg (by simp[g3]),if_pos (.inl (Xb6.1 (by have:=L.o;omega)))])
     have C:=ag (K4 (by rw[g.o];decide));subst g4;clear g2 g3;have D:=G.o.cell;have hf:=G.o.fz;obtain⟨E,d, -⟩:=G.o.put (.slice none 0 0);go_wp2;obtain⟨w9,j⟩:=ak (w2.setCell ⟨w.heap.size+1,0,none⟩ (.slice none 0 0));rw[<-j]at E d⊢;refine bodyPost_ret (v:=.tuple #[.agg #[.slice none 0 0],.int .i64 8]) ?_ rfl ⟨.slice none 0 0,by rw[g.o],by rw[C.o];exact bi.nil _ _,H.o.grown d H.o.size (by intro k F;cases F;omega)⟩
     clear j d D;simp[results,Tryz.results178,go_sem, *]
    have aJ:((m:Int)==0)=false:=by simpa using g4
    go_wp2_with fail
    refine(Qs.o w2 H.o (by have:=KQ N.o.2.1 N.o.1;omega)).mono ?_
    rintro e W⟨v3,rfl,Q,R⟩;have ai:=bT H R;have zB:=ag ((R.block _ (Xd6.1 zA.o).1).trans zA.o);have ar:=ag (G.o.a R);have r3:W.cell? ⟨w.heap.size,0,none⟩=some (.slice a n c):=by rw[cell_of_row W _ 0 _ _ (0,0) zB.o];rfl
    obtain⟨a3,c3,av⟩:=Q.form;subst av;obtain⟨n3,oh⟩:=ak ((cz fs).length);rw[<-oh]at Q⊢;have S:ah W (W.alloc (.cells #[.slice a3 n3 c3,.slice al m cl] 96)):=ae;have aj:=qod W.heap.size a3 n3 c3 al m cl (cz fs) l (W.alloc (.cells #[.slice a3 n3 c3,.slice al m cl] 96)) (heap_alloc_new W _) (Q.rd.a S) oh ((rQ.o.a ai.o).a S) L.o (by have:=KQ N.o.2.1 N.o.1;have:=Et.o;omega);have Ez:=ag S;clear Q R oh r2 S;go_wp2_with fail
    refine aj.mono ?_
    rintro e w4⟨v4,rfl,fC,tu⟩;clear aj;have T:ah W w4:=Ez.o.trans (tu.mono Ez.o.size);have fG:=bT ai T;have rM:=ag ((T.block _ (Xd6.1 zB.o).1).trans zB.o);have am:=ag (ar.o.a T);have r4:w4.cell? ⟨w.heap.size,0,none⟩=some (.slice a n c):=by rw[cell_of_row w4 _ 0 _ _ (0,0) rM.o];rfl
    obtain⟨a4,c4,aw⟩:=fC.form;subst aw;obtain⟨n4,qN⟩:=ak ((cz fs++l).length);rw[<-qN]at fC⊢;have I:=KJ a4 n4 c4 (cz fs++l) B w4 fC.rd qN aq.o;clear fC T tu qN r3;by_cases M:dK (cz fs++l) B
    ·rw[show decide (dK (cz fs++l) B)=true by simpa using M]at I
     go_wp2_with fail
     refine I.mono ?_
     rintro e w5⟨rfl,r⟩;clear I;have O:=bT fG r;have T9:=ag ((r.block _ (Xd6.1 rM.o).1).trans rM.o);have p:=ag (am.o.a r);have r5:w5.cell? ⟨w.heap.size,0,none⟩=some (.slice a n c):=by rw[cell_of_row w5 _ 0 _ _ (0,0) T9.o];rfl
     clear r r4;by_cases g6:n=40
     ·have g:=ag (show iG fs s l B=40 by
       unfold iG;rw[if_neg (by simp[ol.o]),if_neg (by simp[g2]),if_neg (by simp[g3]),if_neg (by rintro(h|h);(rw[h]at L;exact g4 L.o);exact h M),if_pos (.inl (by have:=HN.o;omega))])
      have C:=ag (K4 (by rw[g.o];decide));clear g2 g3 M;subst g6;have D:=p.o.cell;have hf:=p.o.fz;obtain⟨E,d, -⟩:=p.o.put (.slice none 0 0);go_wp2;obtain⟨w9,j⟩:=ak (w5.setCell ⟨w.heap.size+1,0,none⟩ (.slice none 0 0));rw[<-j]at E d⊢;refine bodyPost_ret (v:=.tuple #[.agg #[.slice none 0 0],.int .i64 40]) ?_ rfl ⟨.slice none 0 0,by rw[g.o],by rw[C.o];exact bi.nil _ _,O.o.grown d O.o.size (by intro k F;cases F;omega)⟩
      clear j d D;simp[results,Tryz.results178,go_sem, *]
     have Ua:((n:Int)==40)=false:=by simp;omega
     by_cases g7:64<m
     ·have g:=ag (show iG fs s l B=40 by
       unfold iG;rw[if_neg (by simp[ol.o]),if_neg (by simp[g2]),if_neg (by simp[g3]),if_neg (by rintro(h|h);(rw[h]at L;exact g4 L.o);exact h M),if_pos (.inr (by have:=L.o;omega))])
      have C:=ag (K4 (by rw[g.o];decide));have ax:(64:Int)<m:=by omega
      clear g2 g3 M;have D:=p.o.cell;have hf:=p.o.fz;obtain⟨E,d, -⟩:=p.o.put (.slice none 0 0);go_wp2;obtain⟨w9,j⟩:=ak (w5.setCell ⟨w.heap.size+1,0,none⟩ (.slice none 0 0));rw[<-j]at E d⊢;refine bodyPost_ret (v:=.tuple #[.agg #[.slice none 0 0],.int .i64 40]) ?_ rfl ⟨.slice none 0 0,by rw[g.o],by rw[C.o];exact bi.nil _ _,O.o.grown d O.o.size (by intro k F;cases F;omega)⟩
      clear j d D;simp[results,Tryz.results178,go_sem, *]
     have ax:decide ((64:Int)<m)=false:=aC (by omega);have g:=ag (show iG fs s l B=ib (bY fs (s,l))by
       unfold iG;rw[if_neg (by simp[ol.o]),if_neg (by simp[g2]),if_neg (by simp[g3]),if_neg (by rintro(h|h);(rw[h]at L;exact g4 L.o);exact h M),if_neg (by rintro(h|h);(have:=HN.o;omega);(have:=L.o;omega))])
     have C:=ag (qy7 g.o);have jU:=ag (TZ N.o g2 (by have:=L.o;omega) M);clear g2 g3 M;go_wp2_with fail
     refine(ao.o w5 O.o (by have:=N.o.1;omega) (KY N.o) (KX N.o)).mono ?_
     rintro e w6⟨v6,rfl,ou,aa⟩;have mJ:=bT O aa;have ay:=ag (p.o.a aa);obtain⟨a6,c6,aD⟩:=ou.form;subst aD;obtain⟨n6,Ey⟩:=ak ((bY fs (s,l)).length);rw[<-Ey]at ou⊢;have an:=ql3 w.heap.size _ a6 n6 c6 (bY fs (s,l)) w6 rfl (ou.mono O.o.size) Ey mJ.o.size jU.o;clear ou aa Ey r5;go_wp2_with fail
     refine an.mono ?_
     rintro e w7⟨v7,rfl,jf,bE⟩;clear an;have Bz:=bT mJ bE;have U:=ag (ay.o.a bE);have Ub:=ag jf;obtain⟨a7,c7,aE⟩:=jf.form;subst aE;obtain⟨n7,TY⟩:=ak ((pW (bY fs (s,l))).length);rw[<-TY]at Ub⊢;obtain⟨z,hz⟩:=ak (ib (bY fs (s,l)));rw[<-hz]at g⊢;clear hz TY jf bE;have D:=U.o.cell;have hf:=U.o.fz;obtain⟨E,d, -⟩:=U.o.put (.slice a7 n7 c7);go_wp2;obtain⟨w9,j⟩:=ak (w7.setCell ⟨w.heap.size+1,0,none⟩ (.slice a7 n7 c7));rw[<-j]at E d⊢;refine bodyPost_ret (v:=.tuple #[.agg #[.slice a7 n7 c7],.int .i64 z]) ?_ rfl ⟨.slice a7 n7 c7,by rw[g.o],by rw[C.o];obtain⟨y,hy⟩:=U.o;exact Ub.o.keptS d hy (by decide) (by decide),Bz.o.grown d Bz.o.size (by intro k F;cases F;omega)⟩
     clear j d D;simp[results,Tryz.results178,go_sem, *]
    rw[show decide (dK (cz fs++l) B)=false by simpa using M]at I
    have g:=ag (show iG fs s l B=8 by
     unfold iG;rw[if_neg (by simp[ol.o]),if_neg (by simp[g2]),if_neg (by simp[g3]),if_pos (.inr M)])
    have C:=ag (K4 (by rw[g.o];decide));clear g2 g3 M;go_wp2_with fail
    refine I.mono ?_
    rintro e w5⟨rfl,r⟩;clear I;have O:=bT fG r;have p:=ag (am.o.a r);clear r r4;have D:=p.o.cell;have hf:=p.o.fz;obtain⟨E,d, -⟩:=p.o.put (.slice none 0 0);go_wp2;obtain⟨w9,j⟩:=ak (w5.setCell ⟨w.heap.size+1,0,none⟩ (.slice none 0 0));rw[<-j]at E d⊢;refine bodyPost_ret (v:=.tuple #[.agg #[.slice none 0 0],.int .i64 8]) ?_ rfl ⟨.slice none 0 0,by rw[g.o],by rw[C.o];exact bi.nil _ _,O.o.grown d O.o.size (by intro k F;cases F;omega)⟩
    clear j d D;simp[results,Tryz.results178,go_sem, *]
 have xN:=ag (show iG fs s l B=bf fs B by unfold iG;rw[if_pos V]);have C:=ag (K4 (s:=s) (l:=l) (by rw[xN.o];exact V));obtain⟨z,hz⟩:=ak (bf fs B);have g:=ag (xN.o.trans hz.symm);rw[<-hz]at fw V;have aK:(z==0)=false:=Xe2 V
 clear hz xN K;go_enter Tryz.func178,Tryz.ntmps178;go_wp2_with fail
 rw[<-t];refine fw.mono ?_
 rintro e u⟨rfl,b⟩;have A:=bT ad b;have mK:=ag ((b.block _ (Xd6.1 tF.o).1).trans tF.o);have q:=ag (ac.o.a b);have r1:u.cell? ⟨w.heap.size,0,none⟩=some (.slice a n c):=by rw[cell_of_row u _ 0 _ _ (0,0) mK.o];rfl
 clear b fw t;have D:=q.o.cell;have hf:=q.o.fz;obtain⟨E,d, -⟩:=q.o.put (.slice none 0 0);go_wp2;obtain⟨w9,j⟩:=ak (u.setCell ⟨w.heap.size+1,0,none⟩ (.slice none 0 0));rw[<-j]at E d⊢;refine bodyPost_ret (v:=.tuple #[.agg #[.slice none 0 0],.int .i64 z]) ?_ rfl ⟨.slice none 0 0,by rw[g.o],by rw[C.o];exact bi.nil _ _,A.o.grown d A.o.size (by intro k F;cases F;omega)⟩
 clear j d D;simp[results,Tryz.results178,go_sem, *]
def aX (w:World) (q:Nat) (y:Value):Prop:=w.heap[q]? =some (.cells #[y] 31 (0,0))
theorem aX.a{w':World}(h:aX w q y)(hb:ah w w'):aX w' q y:=(hb.block q (Xd6.1 h).1).trans h
theorem aX.cell(h:aX w q y):w.cell? ⟨q,0,none⟩=some y:=by rw[cell_of_row w q 0 _ _ (0,0) h];rfl
theorem aX.new(w:World)(y:Value):aX (w.alloc (.cells #[y] 31)) w.heap.size y:=heap_alloc_new w _
def q8 (fs:List Fl):Prop:=fs.length<=100∧(cz fs).length<=700∧∀f∈fs,f.2.length<=700∧f.1.length<=8000
def Uc (f:Fl):Nat:=f.2.length+min f.1.length 100000 / 10
def uZ (fs:List Fl):Nat:=(fs.map Uc).sum
theorem qw5(fs:List Fl)(k:Nat)(h:k<fs.length):uZ (fs.take (k+1))=uZ (fs.take k)+(fs[k]).2.length+min (fs[k]).1.length 100000 / 10:=by
 unfold uZ;rw[qF fs k h,Xd0,List.sum_append];simp only[List.map_cons,List.map_nil,List.sum_cons,List.sum_nil,Uc];omega
theorem qw6:∀fs:List Fl,(cz fs).length<=uZ fs
 |[]=>by simp[cz]
 |f::fs=>by
  have:=qw6 fs
  simp only[cz,uZ,Xb2,Xa0,List.map_cons,List.sum_cons,Uc]at this⊢;omega
theorem Ud:∀(fs:List Fl) (f:Fl),f∈fs->Uc f<=uZ fs
 |g::fs,f,h=>by
  simp only[uZ,List.map_cons,List.sum_cons];rcases List.mem_cons.1 h with rfl|h
  ·omega
  have:=Ud fs f h
  unfold uZ at this;omega
theorem K5(a:fs.length<=100)(h:uZ fs<=700):q8 fs:=by
 refine⟨a,aG (qw6 fs) h,fun f b=>?_⟩;have:=Ud fs f b
 unfold Uc at this;omega
theorem Ue(fs:List Fl)(h:∀f∈fs,f.2.length<=1000000000000000):∀k,uZ (fs.take k)<=k*1000000000010000
 |0=>by simp[uZ]
 |k+1=>by
  have b:=Ue fs h k;have e:(k+1)*1000000000010000=k*1000000000010000+1000000000010000:=by omega
  rw[e];by_cases a:k<fs.length
  ·rw[qw5 fs k a]
   have c:=h _ (Xa3 a);have d:min (fs[k]).1.length 100000 / 10<=10000:=by omega
   omega
  have e1:fs.take (k+1)=fs.take k:=by rw[Xa1 (by omega),Xa1 (by omega)]
  rw[e1];exact aG b (Nat.le_add_right _ _)
theorem qoe(a:aA)(n c:Nat)(fs:List Fl)(w:World)(q:fQ w (.slice a n c) fs)(I:n=fs.length)(C:∀f∈fs,f.2.length<=1000000000000000):
  Calls Tryz.prog 51 #[.agg #[.slice a n c]] w fun e w'=>∃r,e=.returned (.bool r)∧(r=false->q8 fs)∧ah w w':=by
 have V:n<=maxLen:=I▸q.len_le;unfold maxLen at V;have W:=ag q;have J:=ag I;have Q:=ag C;obtain⟨K,g⟩:=ak (w.alloc (.cells #[.slice a n c] 31));have D:ah w K:=by rw[g];exact ae
 have L:=ag (show aX K w.heap.size (.slice a n c)by rw[g];exact aX.new w _);have t:=ag D;clear q I C D;by_cases g1:100<n
 ·have M:(100:Int)<n:=by omega
  go_enter Tryz.func51,Tryz.ntmps51;go_wp2;go_ret;exact⟨true,rfl,(by intro h;cases h),by rw[<-g];exact t.o⟩
 have M:decide ((100:Int)<n)=false:=aC (by omega);go_enter Tryz.func51,Tryz.ntmps51;go_wp2;rw[<-g];clear g;go_loopw [3,4] (fun x i wr=>∃k:Nat,k<=n∧x=.int .i64 (uZ (fs.take k):Nat)∧i=.int .i64 k∧ah K wr) (fun _ i _=>n-(intOf i).toNat)
 case atStart=>exact⟨0,Xd5 _,by simp[uZ],rfl,aF⟩
 obtain⟨k,hk,rfl,rfl,j⟩:=hrel;have K6:=(L.o.a j).cell;have E:ah w wr:=t.o.trans (j.mono t.o.size);have u:=Ue fs Q.o k;by_cases X:k<n
 ·have R:(k:Int)<n:=by omega
  have v:k<fs.length:=by have:=J.o;omega
  have A:=ag (qw5 fs k v);obtain⟨b,Y,a2,c2,rfl,S,N,Z⟩:=W.o.atB E k v;have y:=Q.o _ (Xa3 v);obtain⟨f,T⟩:=ak (fs[k]);rw[<-T]at S N A y;clear T Z;obtain⟨s,l⟩:=f;simp only at S N y A
  obtain⟨m,F⟩:=ak l.length;rw[<-F]at N y A;clear F;have O:=rf s;obtain⟨p,U⟩:=ak s.length;rw[<-U]at O A;clear U;obtain⟨G,B⟩:=ak (uZ (fs.take k));rw[<-B]at A u⊢;clear B;have aa:G<=200000000000000000:=by
   have:k*1000000000010000<=100*1000000000010000:=Nat.mul_le_mul_right _ (by omega)
   omega
  clear u;have H:∃d:Nat,d=min p 100000 / 10∧d<=10000:=⟨_,rfl,by omega⟩;obtain⟨d,hd,ab⟩:=H;go_wp2
  go_quiet (fail)
  have e:((G:Int)+(m:Int)+(if(100000:Int)<(p:Int)then(100000:Int)else(p:Int)) / 10)=((uZ (fs.take (k+1)):Nat):Int):=by
   rw[A.o];split<;>omega
  rw[e];clear e;obtain⟨G2,z⟩:=ak (uZ (fs.take (k+1)));rw[<-z];have P:=ag z;clear z;go_wp2;go_roundw
  case rel=>exact⟨k+1,by omega,by rw[P.o],rfl,below_drewN j _⟩
  simp only[intOf];omega
 have hd:decide ((k:Int)<n)=false:=aC (by omega);have HE:=ag (show fs.take k=fs by rw[Xa1];have:=J.o;omega);have HL:=ag (show fs.length<=100 by have:=J.o;omega);rw[HE.o]at u⊢;obtain⟨G,B⟩:=ak (uZ fs);rw[<-B];have HG:=ag B;clear B;go_wp2;go_ret;refine⟨_,rfl, ?_,E⟩;intro h;exact K5 HL.o (by have:=HG.o;simp at h;omega)
theorem qsh(s t:az)(a1:aA)(n1 c1:Nat)(a2:aA)(n2 c2:Nat)(l k:List Ex)(w:World)(m:iB w (.slice a1 n1 c1) l)(d:n1=l.length)(n:iB w (.slice a2 n2 c2) k)(f:n2=k.length):
  Calls Tryz.prog 72 #[.agg #[.string (bs s),.slice a1 n1 c1],.agg #[.string (bs t),.slice a2 n2 c2]] w fun e w'=>e=.returned (.bool (decide ((s,l)=(t,k))))∧ah w w':=by
 obtain⟨p,a⟩:=ak ((w.alloc (.cells #[.string (bs s),.slice a1 n1 c1] 98)).alloc (.cells #[.string (bs t),.slice a2 n2 c2] 98));have b:ah w p:=by rw[a];exact(ae).alloc (by simp) _
 have c:=FF a1 a2 n1 c1 n2 c2 l k p (m.a b) (n.a b) d f;have g:=ag b;clear m d n f b;by_cases e:s=t
 ·have u:((bs s).toList==(bs t).toList)=true:=by rw[zq,e];simp
  have i:=ag (show decide ((s,l)=(t,k))=decide (l=k)by simp[e]);clear e;go_enter Tryz.func72,Tryz.ntmps72;go_wp2_with fail
  rw[<-a];refine c.mono ?_
  rintro e v⟨rfl,h⟩;have j:=bT g h;clear c h a;obtain⟨r,q⟩:=ak (decide (l=k));rw[<-q]at i⊢;clear q;go_wp2;go_ret;exact⟨by rw[i.o];rfl,j.o⟩
 have u:((bs s).toList==(bs t).toList)=false:=by rw[zq];simpa using e
 have i:=ag (show decide ((s,l)=(t,k))=false by simp[e]);clear e c;go_enter Tryz.func72,Tryz.ntmps72;go_wp2;go_ret;exact⟨by rw[i.o];rfl,by rw[<-a];exact g.o⟩
theorem qp9(a:aA)(n c:Nat)(fs:List Fl)(G:aA)(m F:Nat)(q:List Fl)(w:World)(H:fQ w (.slice a n c) fs)(Z:n=fs.length)(R:fQ w (.slice G m F) q)(hm:m=q.length):
  Calls Tryz.prog 30 #[.agg #[.slice a n c],.agg #[.slice G m F]] w fun e w'=>e=.returned (.bool (decide (fs=q)))∧ah w w':=by
 have aa:n<=maxLen:=Z▸H.len_le;unfold maxLen at aa;have H1:=ag H;have H2:=ag R;have HN:=ag Z;have HM:=ag hm;obtain⟨I,p⟩:=ak ((w.alloc (.cells #[.slice a n c] 31)).alloc (.cells #[.slice G m F] 31));have J:ah w (w.alloc (.cells #[.slice a n c] 31)):=ae;have K:ah w I:=by rw[p];exact J.alloc (by simp) _
 have ab:=ag (show aX I w.heap.size (.slice a n c)by
  rw[p];exact(aX.new w (.slice a n c)).a (ae))
 have wP:=ag (show aX I (w.heap.size+1) (.slice G m F)by
  have:=aX.new (w.alloc (.cells #[.slice a n c] 31)) (.slice G m F)
  rw[p];simpa using this)
 have u:=ag K;clear H R Z hm K J;by_cases g1:n=m
 ·subst g1
  go_enter Tryz.func30,Tryz.ntmps30;go_wp2;rw[<-p];clear p;go_loopw [5] (fun i wr=>∃k:Nat,k<=n∧i=.int .i64 k∧af (fs.take k=q.take k)∧ah I wr) (fun i _=>n-(intOf i).toNat)
  case atStart=>exact⟨0,Xd5 _,rfl,ag rfl,aF⟩
  obtain⟨k,hk,rfl,A,d⟩:=hrel;have K6:=(ab.o.a d).cell;have Ht:=(wP.o.a d).cell;have z:ah w wr:=u.o.trans (d.mono u.o.size);by_cases aj:k<n
  ·have ai:(k:Int)<n:=by omega
   have L:k<fs.length:=by have:=HN.o;omega
   have M:k<q.length:=by have:=HM.o;omega
   have HT:=ag (qF fs k L);have HU:=ag (qF q k M);obtain⟨b,B,a2,c2,rfl,T,N,O⟩:=H1.o.atB z k L;obtain⟨b',x,a3,c3,rfl,U,P,Q⟩:=H2.o.atB z k M;have HX:=ag (show fs[k]≠q[k]->decide (fs=q)=false by
    intro h;simp only[Xd9];rintro rfl;exact h rfl)
   obtain⟨f,hf⟩:=ak (fs[k]);obtain⟨g,hg⟩:=ak (q[k]);rw[<-hf]at T N O HT HX;rw[<-hg]at U P Q HU HX;clear hf hg;obtain⟨s,l⟩:=f;obtain⟨t,V⟩:=g;simp only at T N O U P Q
   obtain⟨m1,C⟩:=ak l.length;obtain⟨m2,D⟩:=ak V.length;rw[<-C]at N O;rw[<-D]at P Q;have K7:=fun j (hbx:ah w j)=>qsh s t a2 m1 c2 a3 m2 c3 l V j (O.a hbx) C (Q.a hbx) D
   obtain⟨r,hr⟩:=ak (decide ((s,l)=(t,V)));simp only[<-hr]at K7;have HR:=ag hr;have ac:=ag K7;clear C D O Q K7 hr;obtain⟨S,W⟩:∃S:World->Prop,S=fun j=>(j.cell? ⟨w.heap.size,0,none⟩=some (.slice (some ⟨b,B,none⟩) n c)∧j.cell? ⟨w.heap.size+1,0,none⟩=some (.slice (some ⟨b',x,none⟩) n F))∧(j.cell? ⟨b,B+k*2,none⟩=some (.string (bs s))∧j.cell? ⟨b,B+k*2+1,none⟩=some (.slice a2 m1 c2))∧j.cell? ⟨b',x+k*2,none⟩=some (.string (bs t))∧j.cell? ⟨b',x+k*2+1,none⟩=some (.slice a3 m2 c3):=⟨_,rfl⟩
   have y:S wr:=by rw[W];exact⟨⟨K6,Ht⟩,⟨T,N⟩,U,P⟩
   have X:aN S:=by rw[W];exact((aV _ _).and (aV _ _)).and (((aV _ _).and (aV _ _)).and ((aV _ _).and (aV _ _)))
   go_wp2;rw[W]at X y;have Ev:=ag X;clear W K6 Ht T N U P;refine iH X (by kernel_rfl) y ?_
   intro hS;refine rP [0,1,2,3,4,5,6,7,8,9] 2 ?KT ?xX hS ?KU
   case xX=>
    iterate 10 (apply Yl.cons rfl rfl;focus (rintro j⟨⟨x1,x2⟩,⟨x3,x4⟩,x5,x6⟩;go_simp<;>rfl);try simp only[aB])
    exact Yl.nil
   try simp only[aB]
   refine rC 10 (fun v j=>v=.bool r∧ah wr j) rfl ((ac.o wr.drew z.drew).mono fun e j ⟨H,R⟩=>⟨_,H,rfl,((Below.refl wr.heap.size wr).drew).trans R⟩) ?_
   rintro al ad⟨rfl,Y⟩;refine⟨Ev.o _ _ y Y, ?_⟩;have Uf:=Ev.o _ _ y Y;have Hu:ah I ad:=d.trans (Y.mono d.size);try simp only[aB]
   refine rP [11] 0 ?qa2 ?KW Uf ?qn2
   case KW=>
    iterate 1 (apply Yl.cons rfl rfl;focus (rintro j⟨⟨x1,x2⟩,⟨x3,x4⟩,x5,x6⟩;go_simp<;>rfl);try simp only[aB])
    exact Yl.nil
   try simp only[aB]
   refine rD ?_
   clear Uf hS X y Ev Y;cases r with
   |true=>
    have e:(s,l)=(t,V):=by have:=HR.o;simpa using this.symm
    have E:=ag (show fs.take (k+1)=q.take (k+1)by rw[HT.o,HU.o,A.o,e]);clear e;go_wp2;go_roundw
    case rel=>exact⟨k+1,by omega,rfl,E,Hu⟩
    simp only[intOf];omega
   |false=>
    have E:=ag (HX.o (by have:=HR.o;exact of_decide_eq_false this.symm));go_wp2;go_ret;exact⟨by rw[E.o];rfl,u.o.trans (Hu.mono u.o.size)⟩
  have hd:decide ((k:Int)<n)=false:=aC (by omega);have E:=ag (show decide (fs=q)=true by
   have h:=A.o;rw[Xa1 (by have:=HN.o;omega),Xa1 (by have:=HM.o;omega)]at h;simpa using h)
  go_wp2;go_ret;exact⟨by rw[E.o];rfl,z⟩
 have E:=ag (show decide (fs=q)=false by
  simp only[Xd9];rintro rfl;exact g1 (HN.o.trans HM.o.symm))
 have am:((n:Int)==(m:Int))=false:=by simp;omega
 go_enter Tryz.func30,Tryz.ntmps30;go_wp2;all_goals (go_ret;exact⟨by rw[E.o];rfl,by rw[<-p];exact u.o⟩)
end Go.Proofs.YtmeaiocohalphaaGreatDoor
