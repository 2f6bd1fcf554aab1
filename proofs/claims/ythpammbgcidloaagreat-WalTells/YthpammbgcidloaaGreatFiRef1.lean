/-
  The document's side of layer 5: Great, SameFile, Same.
-/
import Derived.Test.YthpammbgcidloaaGreatFiFn4
set_option maxHeartbeats 2000000
set_option maxRecDepth 100000
namespace Go.Proofs.YthpammbgcidloaaGreat
open Go.RowKit
set_option linter.all false
theorem GH {fs:List Fl} {s:ak} {l:List Ex} {B:Int} (h:gU fs s l B≠0):kN fs s l B=[]:=by unfold kN;rw [if_neg h]
theorem qye {fs:List Fl} {s:ak} {l:List Ex} {B:Int} (h:gU fs s l B=jG (cO fs (s,l))):kN fs s l B=sQ (cO fs (s,l)):=by unfold kN sQ;rw [h]
theorem Pt {fs:List Fl} {s:ak} {l:List Ex} {B:Int} (h:eD fs B) (b:jw s=true) (d:l.length<=64) (c:dL (cZ fs++l) B):okB (cO fs (s,l)):=by
 refine D8 (Wp h.1 h.2.1 h.2.2.1) (by have:=h.1;omega) ⟨by have:=EI b;show s.length<=1000;omega,by show l.length<=1000;omega,fun x a=>?_⟩;have:=(Ma c.1).2 x (List.mem_append.2 (.inr a))
 omega
theorem qyf (a:au) (n c:Nat) (fs:List Fl) (s:ak) (al:au) (m cl:Nat) (l:List Ex) (B:Int) (w:World) (J:RdF w (.slice a n c) fs) (hn:n=fs.length) (X:wfFs fs) (Y:RdE w (.slice al m cl) l) (hm:m=l.length) (oN:l.length<=100000) (ad:∀x∈l,wfX x):
  Calls Tryz.prog 103 #[.agg #[.slice a n c],.string (bs s),.slice al m cl,.int .i64 B] w fun e w'=>∃v,e=.returned (.tuple #[.agg #[v],.int .i64 (gU fs s l B)])∧bJ w' w.heap.size v (kN fs s l B)∧ah w w':=by
 obtain ⟨W0,t⟩:=ai ((w.alloc (.cells #[.slice a n c] 30)).alloc (.cells #[.slice none 0 0] 30));have b:ah w (w.alloc (.cells #[.slice a n c] 30)):=ae;have Z:ah w W0:=by rw [t];exact b.alloc (by simp) _
 have BN:=ag (show W0.heap[w.heap.size]? =some (.cells #[.slice a n c] 30 (0,0)) by
  rw [t,<-heap_alloc_new w (.cells #[.slice a n c] 30)];exact ((Below.refl (w.alloc (.cells #[.slice a n c] 30)).heap.size _).alloc aI _).block _ (by simp))
 have am:=ag (show dV W0 (w.heap.size+1) by
  have:=dV.new (w.alloc (.cells #[.slice a n c] 30)) (.slice none 0 0)
  rw [t];simpa using this)
 have an:=ag Z;have gW:=Wq a n c fs B W0 (J.a Z) hn X;have K:=tT s;have pJ:=ag (fun u (b:ah w u) (hr:mo fs) (hl:n<=1000000)=>FH a n c fs s u (J.a b) hn hr hl);have Mc:=ag (fun u (b:ah w u) (hl:(cZ fs).length<=1000000)=>Y0 a n c fs u (J.a b) hn hl);have av:=ag (fun u (b:ah w u) (hl:fs.length<=1000) (aw:∀f∈fs,f.2.length<=1000000) (hr:mo fs)=>qafl a n c fs s al m cl l u (J.a b) hn hl aw hr (Y.a b) hm (by omega));have HN:=ag hn;have jN:=ag Y;have BK:=ag oN;have aO:m<=100000:=by omega
 have L:=ag hm;have ax:=ag (show ∀x∈cZ fs++l,wfX x from fun x hx=>by
  rcases List.mem_append.1 hx with hx | hx
  ·exact Pe X x hx
  ·exact ad x hx)
 clear J hn X Z b Y hm oN ad;by_cases V:bA fs B=0
 ·have N:=ag (zW V).2
  have fF:=ag V;rw [V] at gW;clear V;go_enter Tryz.func103,Tryz.ntmps103;go_wp2_with fail
  rw [<-t];refine gW.mono ?_
  rintro e u ⟨rfl,b⟩;have A:=bT an b;have sP:=ag ((b.block _ (Array.getElem?_eq_some_iff.1 BN.o).1).trans BN.o);have q:=ag (am.o.a b);have r1:u.cell? ⟨w.heap.size,0,none⟩=some (.slice a n c):=by rw [cell_of_row u _ 0 _ _ (0,0) sP.o];rfl
  clear b gW t;cases g2:jw s with
  | false=>
   rw [g2] at K;have g:=ag (show gU fs s l B=50 by unfold gU;rw [if_neg (by simp [fF.o]),if_pos g2]);have C:=ag (GH (by rw [g.o];decide));clear g2;have D:=q.o.cell;have hf:=q.o.fz;obtain ⟨E,d, -⟩:=q.o.put (.slice none 0 0);go_wp2_with (go_at_call 151;refine (K _).mono ?_;rintro e wc ⟨rfl,rfl⟩)
   obtain ⟨w9,j⟩:=ai (wc.setCell ⟨w.heap.size+1,0,none⟩ (.slice none 0 0));rw [<-j] at E d ⊢;refine bodyPost_ret (v:=.tuple #[.agg #[.slice none 0 0],.int .i64 50]) ?_ rfl ⟨.slice none 0 0,by rw [g.o],by rw [C.o];exact bJ.nil _ _,A.o.grown d A.o.size (by intro k F;cases F;omega)⟩
   clear j d D;simp [results,Tryz.results103,go_sem, *]
  | true=>
   rw [g2] at K;go_wp2_with fail
   refine (K _).mono ?_
   rintro e wc ⟨rfl,rfl⟩;go_wp2_with fail
   refine (pJ.o wc A.o (Wx N.o) (by have:=N.o.1;have:=HN.o;omega)).mono ?_
   rintro e w2 ⟨rfl,P⟩;have H:=bT A P;have aa:=ag ((P.block _ (Array.getElem?_eq_some_iff.1 sP.o).1).trans sP.o);have G:=ag (q.o.a P);have r2:w2.cell? ⟨w.heap.size,0,none⟩=some (.slice a n c):=by rw [cell_of_row w2 _ 0 _ _ (0,0) aa.o];rfl
   clear P;cases g3:jZ fs s with
   | true=>
    have g:=ag (show gU fs s l B=51 by unfold gU;rw [if_neg (by simp [fF.o]),if_neg (by simp [g2]),if_pos g3]);have C:=ag (GH (by rw [g.o];decide));clear g2 g3;have D:=G.o.cell;have hf:=G.o.fz;obtain ⟨E,d, -⟩:=G.o.put (.slice none 0 0);go_wp2;obtain ⟨w9,j⟩:=ai (w2.setCell ⟨w.heap.size+1,0,none⟩ (.slice none 0 0));rw [<-j] at E d ⊢;refine bodyPost_ret (v:=.tuple #[.agg #[.slice none 0 0],.int .i64 51]) ?_ rfl ⟨.slice none 0 0,by rw [g.o],by rw [C.o];exact bJ.nil _ _,H.o.grown d H.o.size (by intro k F;cases F;omega)⟩
    clear j d D;simp [results,Tryz.results103,go_sem, *]
   | false=>
    obtain ⟨i,hi⟩:=ai (dU fs s);rw [<-hi];clear hi;by_cases g4:m=0
    ·have g:=ag (show gU fs s l B=8 by
      unfold gU;rw [if_neg (by simp [fF.o]),if_neg (by simp [g2]),if_neg (by simp [g3]),if_pos (.inl (List.length_eq_zero_iff.1 (by have:=L.o;omega)))])
     have C:=ag (GH (by rw [g.o];decide));subst g4;clear g2 g3;have D:=G.o.cell;have hf:=G.o.fz;obtain ⟨E,d, -⟩:=G.o.put (.slice none 0 0);go_wp2;obtain ⟨w9,j⟩:=ai (w2.setCell ⟨w.heap.size+1,0,none⟩ (.slice none 0 0));rw [<-j] at E d ⊢;refine bodyPost_ret (v:=.tuple #[.agg #[.slice none 0 0],.int .i64 8]) ?_ rfl ⟨.slice none 0 0,by rw [g.o],by rw [C.o];exact bJ.nil _ _,H.o.grown d H.o.size (by intro k F;cases F;omega)⟩
     clear j d D;simp [results,Tryz.results103,go_sem, *]
    have aP:((m:Int)==0)=false:=by simpa using g4
    go_wp2_with fail
    refine (Mc.o w2 H.o (by have:=Gz N.o.2.1 N.o.1;omega)).mono ?_
    rintro e W ⟨v3,rfl,Q,R⟩;have ao:=bT H R;have ab:=ag ((R.block _ (Array.getElem?_eq_some_iff.1 aa.o).1).trans aa.o);have ay:=ag (G.o.a R);have r3:W.cell? ⟨w.heap.size,0,none⟩=some (.slice a n c):=by rw [cell_of_row W _ 0 _ _ (0,0) ab.o];rfl
    obtain ⟨a3,c3,aD⟩:=Q.form;subst aD;obtain ⟨n3,mI⟩:=ai ((cZ fs).length);rw [<-mI] at Q ⊢;have S:ah W (W.alloc (.cells #[.slice a3 n3 c3,.slice al m cl] 96)):=ae;have ap:=qom W.heap.size a3 n3 c3 al m cl (cZ fs) l (W.alloc (.cells #[.slice a3 n3 c3,.slice al m cl] 96)) (heap_alloc_new W _) (Q.rd.a S) mI ((jN.o.a ao.o).a S) L.o (by have:=Gz N.o.2.1 N.o.1;have:=BK.o;omega);have BO:=ag S;clear Q R mI r2 S;go_wp2_with fail
    refine ap.mono ?_
    rintro e w4 ⟨v4,rfl,iW,qI⟩;clear ap;have T:ah W w4:=BO.o.trans (qI.mono BO.o.size);have iR:=bT ao T;have yN:=ag ((T.block _ (Array.getElem?_eq_some_iff.1 ab.o).1).trans ab.o);have aq:=ag (ay.o.a T);have r4:w4.cell? ⟨w.heap.size,0,none⟩=some (.slice a n c):=by rw [cell_of_row w4 _ 0 _ _ (0,0) yN.o];rfl
    obtain ⟨a4,c4,aE⟩:=iW.form;subst aE;obtain ⟨n4,lJ⟩:=ai ((cZ fs++l).length);rw [<-lJ] at iW ⊢;have I:=Gr a4 n4 c4 (cZ fs++l) B w4 iW.rd lJ ax.o;clear iW T qI lJ r3;by_cases M:dL (cZ fs++l) B
    ·rw [show decide (dL (cZ fs++l) B)=true by simpa using M] at I
     go_wp2_with fail
     refine I.mono ?_
     rintro e w5 ⟨rfl,r⟩;clear I;have O:=bT iR r;have aF:=ag ((r.block _ (Array.getElem?_eq_some_iff.1 yN.o).1).trans yN.o);have p:=ag (aq.o.a r);have r5:w5.cell? ⟨w.heap.size,0,none⟩=some (.slice a n c):=by rw [cell_of_row w5 _ 0 _ _ (0,0) aF.o];rfl
     clear r r4;by_cases g6:n=40
     ·have g:=ag (show gU fs s l B=40 by
       unfold gU;rw [if_neg (by simp [fF.o]),if_neg (by simp [g2]),if_neg (by simp [g3]),if_neg (by rintro (h | h);(rw [h] at L;exact g4 L.o);exact h M),if_pos (.inl (by have:=HN.o;omega))])
      have C:=ag (GH (by rw [g.o];decide));clear g2 g3 M;subst g6;have D:=p.o.cell;have hf:=p.o.fz;obtain ⟨E,d, -⟩:=p.o.put (.slice none 0 0);go_wp2;obtain ⟨w9,j⟩:=ai (w5.setCell ⟨w.heap.size+1,0,none⟩ (.slice none 0 0));rw [<-j] at E d ⊢;refine bodyPost_ret (v:=.tuple #[.agg #[.slice none 0 0],.int .i64 40]) ?_ rfl ⟨.slice none 0 0,by rw [g.o],by rw [C.o];exact bJ.nil _ _,O.o.grown d O.o.size (by intro k F;cases F;omega)⟩
      clear j d D;simp [results,Tryz.results103,go_sem, *]
     have aS:((n:Int)==40)=false:=by simp;omega
     by_cases g7:64<m
     ·have g:=ag (show gU fs s l B=40 by
       unfold gU;rw [if_neg (by simp [fF.o]),if_neg (by simp [g2]),if_neg (by simp [g3]),if_neg (by rintro (h | h);(rw [h] at L;exact g4 L.o);exact h M),if_pos (.inr (by have:=L.o;omega))])
      have C:=ag (GH (by rw [g.o];decide));have aH:(64:Int)<m:=by omega
      clear g2 g3 M;have D:=p.o.cell;have hf:=p.o.fz;obtain ⟨E,d, -⟩:=p.o.put (.slice none 0 0);go_wp2;obtain ⟨w9,j⟩:=ai (w5.setCell ⟨w.heap.size+1,0,none⟩ (.slice none 0 0));rw [<-j] at E d ⊢;refine bodyPost_ret (v:=.tuple #[.agg #[.slice none 0 0],.int .i64 40]) ?_ rfl ⟨.slice none 0 0,by rw [g.o],by rw [C.o];exact bJ.nil _ _,O.o.grown d O.o.size (by intro k F;cases F;omega)⟩
      clear j d D;simp [results,Tryz.results103,go_sem, *]
     have aH:decide ((64:Int)<m)=false:=aA (by omega);have g:=ag (show gU fs s l B=jG (cO fs (s,l)) by
       unfold gU;rw [if_neg (by simp [fF.o]),if_neg (by simp [g2]),if_neg (by simp [g3]),if_neg (by rintro (h | h);(rw [h] at L;exact g4 L.o);exact h M),if_neg (by rintro (h | h);(have:=HN.o;omega);(have:=L.o;omega))])
     have C:=ag (qye g.o);have jo:=ag (Pt N.o g2 (by have:=L.o;omega) M);clear g2 g3 M;go_wp2_with fail
     refine (av.o w5 O.o (by have:=N.o.1;omega) (Wz N.o) (Wx N.o)).mono ?_
     rintro e w6 ⟨v6,rfl,lu,ac⟩;have vG:=bT O ac;have aJ:=ag (p.o.a ac);obtain ⟨a6,c6,aK⟩:=lu.form;subst aK;obtain ⟨n6,Pv⟩:=ai ((cO fs (s,l)).length);rw [<-Pv] at lu ⊢;have ar:=qui w.heap.size _ a6 n6 c6 (cO fs (s,l)) w6 rfl (lu.mono O.o.size) Pv vG.o.size jo.o;clear lu ac Pv r5;go_wp2_with fail
     refine ar.mono ?_
     rintro e w7 ⟨v7,rfl,jA,bH⟩;clear ar;have Ml:=bT vG bH;have U:=ag (aJ.o.a bH);have Ew:=ag jA;obtain ⟨a7,c7,aM⟩:=jA.form;subst aM;obtain ⟨n7,WB⟩:=ai ((sQ (cO fs (s,l))).length);rw [<-WB] at Ew ⊢;obtain ⟨z,hz⟩:=ai (jG (cO fs (s,l)));rw [<-hz] at g ⊢;clear hz WB jA bH;have D:=U.o.cell;have hf:=U.o.fz;obtain ⟨E,d, -⟩:=U.o.put (.slice a7 n7 c7);go_wp2;obtain ⟨w9,j⟩:=ai (w7.setCell ⟨w.heap.size+1,0,none⟩ (.slice a7 n7 c7));rw [<-j] at E d ⊢;refine bodyPost_ret (v:=.tuple #[.agg #[.slice a7 n7 c7],.int .i64 z]) ?_ rfl ⟨.slice a7 n7 c7,by rw [g.o],by rw [C.o];obtain ⟨y,hy⟩:=U.o;exact Ew.o.keptS d hy (by decide) (by decide),Ml.o.grown d Ml.o.size (by intro k F;cases F;omega)⟩
     clear j d D;simp [results,Tryz.results103,go_sem, *]
    ·rw [show decide (dL (cZ fs++l) B)=false by simpa using M] at I
     have g:=ag (show gU fs s l B=8 by
      unfold gU;rw [if_neg (by simp [fF.o]),if_neg (by simp [g2]),if_neg (by simp [g3]),if_pos (.inr M)])
     have C:=ag (GH (by rw [g.o];decide));clear g2 g3 M;go_wp2_with fail
     refine I.mono ?_
     rintro e w5 ⟨rfl,r⟩;clear I;have O:=bT iR r;have p:=ag (aq.o.a r);clear r r4;have D:=p.o.cell;have hf:=p.o.fz;obtain ⟨E,d, -⟩:=p.o.put (.slice none 0 0);go_wp2;obtain ⟨w9,j⟩:=ai (w5.setCell ⟨w.heap.size+1,0,none⟩ (.slice none 0 0));rw [<-j] at E d ⊢;refine bodyPost_ret (v:=.tuple #[.agg #[.slice none 0 0],.int .i64 8]) ?_ rfl ⟨.slice none 0 0,by rw [g.o],by rw [C.o];exact bJ.nil _ _,O.o.grown d O.o.size (by intro k F;cases F;omega)⟩
     clear j d D;simp [results,Tryz.results103,go_sem, *]
 ·have zO:=ag (show gU fs s l B=bA fs B by unfold gU;rw [if_pos V])
  have C:=ag (GH (s:=s) (l:=l) (by rw [zO.o];exact V));obtain ⟨z,hz⟩:=ai (bA fs B);have g:=ag (zO.o.trans hz.symm);rw [<-hz] at gW V;have aT:(z==0)=false:=by simpa using V
  clear hz zO K;go_enter Tryz.func103,Tryz.ntmps103;go_wp2_with fail
  rw [<-t];refine gW.mono ?_
  rintro e u ⟨rfl,b⟩;have A:=bT an b;have sP:=ag ((b.block _ (Array.getElem?_eq_some_iff.1 BN.o).1).trans BN.o);have q:=ag (am.o.a b);have r1:u.cell? ⟨w.heap.size,0,none⟩=some (.slice a n c):=by rw [cell_of_row u _ 0 _ _ (0,0) sP.o];rfl
  clear b gW t;have D:=q.o.cell;have hf:=q.o.fz;obtain ⟨E,d, -⟩:=q.o.put (.slice none 0 0);go_wp2;obtain ⟨w9,j⟩:=ai (u.setCell ⟨w.heap.size+1,0,none⟩ (.slice none 0 0));rw [<-j] at E d ⊢;refine bodyPost_ret (v:=.tuple #[.agg #[.slice none 0 0],.int .i64 z]) ?_ rfl ⟨.slice none 0 0,by rw [g.o],by rw [C.o];exact bJ.nil _ _,A.o.grown d A.o.size (by intro k F;cases F;omega)⟩
  clear j d D;simp [results,Tryz.results103,go_sem, *]
def bG (w:World) (q:Nat) (y:Value):Prop:=w.heap[q]? =some (.cells #[y] 30 (0,0))
theorem bG.a {w w':World} {q:Nat} {y:Value} (h:bG w q y) (hb:ah w w'):bG w' q y:=(hb.block q (Array.getElem?_eq_some_iff.1 h).1).trans h
theorem bG.cell {w:World} {q:Nat} {y:Value} (h:bG w q y):w.cell? ⟨q,0,none⟩=some y:=by rw [cell_of_row w q 0 _ _ (0,0) h];rfl
theorem bG.new (w:World) (y:Value):bG (w.alloc (.cells #[y] 30)) w.heap.size y:=heap_alloc_new w _
def WC (fs:List Fl):Prop:=fs.length<=100∧(cZ fs).length<=700∧∀f∈fs,f.2.length<=700∧f.1.length<=8000
def Pw (f:Fl):Nat:=f.2.length+min f.1.length 100000 / 10
def sS (fs:List Fl):Nat:=(fs.map Pw).sum
theorem qwh (fs:List Fl) (k:Nat) (h:k<fs.length):sS (fs.take (k+1))=sS (fs.take k)+(fs[k]).2.length+min (fs[k]).1.length 100000 / 10:=by
 unfold sS;rw [uE fs k h,List.map_append,List.sum_append];simp only [List.map_cons,List.map_nil,List.sum_cons,List.sum_nil,Pw];omega
theorem qwi:∀fs:List Fl,(cZ fs).length<=sS fs
 | []=>by simp [cZ]
 | f::fs=>by
  have:=qwi fs
  simp only [cZ,sS,List.flatMap_cons,List.length_append,List.map_cons,List.sum_cons,Pw] at this ⊢;omega
theorem Px:∀(fs:List Fl) (f:Fl),f∈fs->Pw f<=sS fs
 | g::fs,f,h=>by
  simp only [sS,List.map_cons,List.sum_cons];rcases List.mem_cons.1 h with rfl | h
  ·omega
  ·have:=Px fs f h
   unfold sS at this;omega
theorem GI {fs:List Fl} (a:fs.length<=100) (h:sS fs<=700):WC fs:=by
 refine ⟨a,aC (qwi fs) h,fun f b=>?_⟩;have:=Px fs f b
 unfold Pw at this;omega
theorem Py (fs:List Fl) (h:∀f∈fs,f.2.length<=1000000000000000):∀k,sS (fs.take k)<=k*1000000000010000
 | 0=>by simp [sS]
 | k+1=>by
  have b:=Py fs h k;have e:(k+1)*1000000000010000=k*1000000000010000+1000000000010000:=by omega
  rw [e];by_cases a:k<fs.length
  ·rw [qwh fs k a]
   have c:=h _ (List.getElem_mem a);have d:min (fs[k]).1.length 100000 / 10<=10000:=by omega
   omega
  ·have e1:fs.take (k+1)=fs.take k:=by rw [List.take_of_length_le (by omega),List.take_of_length_le (by omega)]
   rw [e1];exact aC b (Nat.le_add_right _ _)
theorem qon (a:au) (n c:Nat) (fs:List Fl) (w:World) (q:RdF w (.slice a n c) fs) (I:n=fs.length) (C:∀f∈fs,f.2.length<=1000000000000000):
  Calls Tryz.prog 17 #[.agg #[.slice a n c]] w fun e w'=>∃r,e=.returned (.bool r)∧(r=false->WC fs)∧ah w w':=by
 have V:n<=maxLen:=I ▸ q.len_le;unfold maxLen at V;have W:=ag q;have J:=ag I;have Q:=ag C;obtain ⟨K,g⟩:=ai (w.alloc (.cells #[.slice a n c] 30));have D:ah w K:=by rw [g];exact ae
 have L:=ag (show bG K w.heap.size (.slice a n c) by rw [g];exact bG.new w _);have t:=ag D;clear q I C D;by_cases g1:100<n
 ·have M:(100:Int)<n:=by omega
  go_enter Tryz.func17,Tryz.ntmps17;go_wp2;go_ret;exact ⟨true,rfl,(by intro h;cases h),by rw [<-g];exact t.o⟩
 have M:decide ((100:Int)<n)=false:=aA (by omega);go_enter Tryz.func17,Tryz.ntmps17;go_wp2;rw [<-g];clear g;go_loopw [3,4] (fun x i wr=>∃k:Nat,k<=n∧x=.int .i64 (sS (fs.take k):Nat)∧i=.int .i64 k∧ah K wr) (fun _ i _=>n - (intOf i).toNat)
 case atStart=>exact ⟨0,Nat.zero_le _,by simp [sS],rfl,aB⟩
 case round=>
  obtain ⟨k,hk,rfl,rfl,j⟩:=hrel;have GJ:=(L.o.a j).cell;have E:ah w wr:=t.o.trans (j.mono t.o.size);have u:=Py fs Q.o k;by_cases X:k<n
  ·have R:(k:Int)<n:=by omega
   have v:k<fs.length:=by have:=J.o;omega
   have A:=ag (qwh fs k v);obtain ⟨b,Y,a2,c2,rfl,S,N,Z⟩:=W.o.atB E k v;have y:=Q.o _ (List.getElem_mem v);obtain ⟨f,T⟩:=ai (fs[k]);rw [<-T] at S N A y;clear T Z;obtain ⟨s,l⟩:=f;simp only at S N y A
   obtain ⟨m,F⟩:=ai l.length;rw [<-F] at N y A;clear F;have O:=Lx s;obtain ⟨p,U⟩:=ai s.length;rw [<-U] at O A;clear U;obtain ⟨G,B⟩:=ai (sS (fs.take k));rw [<-B] at A u ⊢;clear B;have aa:G<=200000000000000000:=by
    have:k*1000000000010000<=100*1000000000010000:=Nat.mul_le_mul_right _ (by omega)
    omega
   clear u;have H:∃d:Nat,d=min p 100000 / 10∧d<=10000:=⟨_,rfl,by omega⟩;obtain ⟨d,hd,ab⟩:=H;go_wp2
   go_quiet (fail)
   have e:((G:Int)+(m:Int)+(if (100000:Int)<(p:Int) then (100000:Int) else (p:Int)) / 10)=((sS (fs.take (k+1)):Nat):Int):=by
    rw [A.o];split<;>omega
   rw [e];clear e;obtain ⟨G2,z⟩:=ai (sS (fs.take (k+1)));rw [<-z];have P:=ag z;clear z;go_wp2;go_roundw
   case rel=>exact ⟨k+1,by omega,by rw [P.o],rfl,below_drewN j _⟩
   case measure=>simp only [intOf];omega
  ·have hd:decide ((k:Int)<n)=false:=aA (by omega)
   have HE:=ag (show fs.take k=fs by rw [List.take_of_length_le];have:=J.o;omega);have HL:=ag (show fs.length<=100 by have:=J.o;omega);rw [HE.o] at u ⊢;obtain ⟨G,B⟩:=ai (sS fs);rw [<-B];have HG:=ag B;clear B;go_wp2;go_ret;refine ⟨_,rfl, ?_,E⟩;intro h;exact GI HL.o (by have:=HG.o;simp at h;omega)
theorem qsa (s t:ak) (i:au) (n1 c1:Nat) (a2:au) (n2 c2:Nat) (l k:List Ex) (w:World) (n:RdE w (.slice i n1 c1) l) (d:n1=l.length) (p:RdE w (.slice a2 n2 c2) k) (f:n2=k.length):
  Calls Tryz.prog 89 #[.agg #[.string (bs s),.slice i n1 c1],.agg #[.string (bs t),.slice a2 n2 c2]] w fun e w'=>e=.returned (.bool (decide ((s,l)=(t,k))))∧ah w w':=by
 obtain ⟨q,a⟩:=ai ((w.alloc (.cells #[.string (bs s),.slice i n1 c1] 98)).alloc (.cells #[.string (bs t),.slice a2 n2 c2] 98));have b:ah w q:=by rw [a];exact (ae).alloc (by simp) _
 have c:=vw i a2 n1 c1 n2 c2 l k q (n.a b) (p.a b) d f;have g:=ag b;clear n d p f b;by_cases e:s=t
 ·have v:((bs s).toList==(bs t).toList)=true:=by rw [zQ,e];simp
  have j:=ag (show decide ((s,l)=(t,k))=decide (l=k) by simp [e]);clear e;go_enter Tryz.func89,Tryz.ntmps89;go_wp2_with fail
  rw [<-a];refine c.mono ?_
  rintro e x ⟨rfl,h⟩;have m:=bT g h;clear c h a;obtain ⟨r,u⟩:=ai (decide (l=k));rw [<-u] at j ⊢;clear u;go_wp2;go_ret;exact ⟨by rw [j.o];rfl,m.o⟩
 ·have v:((bs s).toList==(bs t).toList)=false:=by rw [zQ];simpa using e
  have j:=ag (show decide ((s,l)=(t,k))=false by simp [e]);clear e c;go_enter Tryz.func89,Tryz.ntmps89;go_wp2;go_ret;exact ⟨by rw [j.o];rfl,by rw [<-a];exact g.o⟩
theorem qqa (a:au) (n c:Nat) (fs:List Fl) (a':au) (m F:Nat) (q:List Fl) (w:World) (G:RdF w (.slice a n c) fs) (Z:n=fs.length) (Q:RdF w (.slice a' m F) q) (hm:m=q.length):
  Calls Tryz.prog 45 #[.agg #[.slice a n c],.agg #[.slice a' m F]] w fun e w'=>e=.returned (.bool (decide (fs=q)))∧ah w w':=by
 have aa:n<=maxLen:=Z ▸ G.len_le;unfold maxLen at aa;have H1:=ag G;have H2:=ag Q;have HN:=ag Z;have HM:=ag hm;obtain ⟨H,p⟩:=ai ((w.alloc (.cells #[.slice a n c] 30)).alloc (.cells #[.slice a' m F] 30));have I:ah w (w.alloc (.cells #[.slice a n c] 30)):=ae;have J:ah w H:=by rw [p];exact I.alloc (by simp) _
 have ab:=ag (show bG H w.heap.size (.slice a n c) by
  rw [p];exact (bG.new w (.slice a n c)).a (ae))
 have qx:=ag (show bG H (w.heap.size+1) (.slice a' m F) by
  have:=bG.new (w.alloc (.cells #[.slice a n c] 30)) (.slice a' m F)
  rw [p];simpa using this)
 have u:=ag J;clear G Q Z hm J I;by_cases g1:n=m
 ·subst g1
  go_enter Tryz.func45,Tryz.ntmps45;go_wp2;rw [<-p];clear p;go_loopw [5] (fun i wr=>∃k:Nat,k<=n∧i=.int .i64 k∧af (fs.take k=q.take k)∧ah H wr) (fun i _=>n - (intOf i).toNat)
  case atStart=>exact ⟨0,Nat.zero_le _,rfl,ag rfl,aB⟩
  case round=>
   obtain ⟨k,hk,rfl,A,d⟩:=hrel;have GJ:=(ab.o.a d).cell;have Ey:=(qx.o.a d).cell;have z:ah w wr:=u.o.trans (d.mono u.o.size);by_cases al:k<n
   ·have ad:(k:Int)<n:=by omega
    have K:k<fs.length:=by have:=HN.o;omega
    have L:k<q.length:=by have:=HM.o;omega
    have HT:=ag (uE fs k K);have HU:=ag (uE q k L);obtain ⟨b,B,a2,c2,rfl,T,M,N⟩:=H1.o.atB z k K;obtain ⟨b',x,a3,c3,rfl,U,O,P⟩:=H2.o.atB z k L;have HX:=ag (show fs[k]≠q[k]->decide (fs=q)=false by
     intro h;simp only [decide_eq_false_iff_not];rintro rfl;exact h rfl)
    obtain ⟨f,hf⟩:=ai (fs[k]);obtain ⟨g,hg⟩:=ai (q[k]);rw [<-hf] at T M N HT HX;rw [<-hg] at U O P HU HX;clear hf hg;obtain ⟨s,l⟩:=f;obtain ⟨t,V⟩:=g;simp only at T M N U O P
    obtain ⟨m1,C⟩:=ai l.length;obtain ⟨m2,D⟩:=ai V.length;rw [<-C] at M N;rw [<-D] at O P;have GK:=fun j (hbx:ah w j)=>qsa s t a2 m1 c2 a3 m2 c3 l V j (N.a hbx) C (P.a hbx) D
    obtain ⟨r,hr⟩:=ai (decide ((s,l)=(t,V)));simp only [<-hr] at GK;have HR:=ag hr;have vL:=ag GK;clear C D N P GK hr;obtain ⟨S,W⟩:∃S:World->Prop,S=fun j=>(j.cell? ⟨w.heap.size,0,none⟩=some (.slice (some ⟨b,B,none⟩) n c)∧j.cell? ⟨w.heap.size+1,0,none⟩=some (.slice (some ⟨b',x,none⟩) n F))∧(j.cell? ⟨b,B+k*2,none⟩=some (.string (bs s))∧j.cell? ⟨b,B+k*2+1,none⟩=some (.slice a2 m1 c2))∧j.cell? ⟨b',x+k*2,none⟩=some (.string (bs t))∧j.cell? ⟨b',x+k*2+1,none⟩=some (.slice a3 m2 c3):=⟨_,rfl⟩
    have y:S wr:=by rw [W];exact ⟨⟨GJ,Ey⟩,⟨T,M⟩,U,O⟩
    have X:aL S:=by rw [W];exact ((aR _ _).and (aR _ _)).and (((aR _ _).and (aR _ _)).and ((aR _ _).and (aR _ _)))
    go_wp2;rw [W] at X y;have BL:=ag X;clear W GJ Ey T M U O;refine gH X (by kernel_rfl) y ?_
    intro hS;refine dm [0,1,2,3,4,5,6,7,8,9] (fuel:=2) (a':=?Mg) (by kernel_rfl) (by kernel_rfl) (by kernel_rfl) ?xO hS ?Mh
    case xO=>
     iterate 10 (apply Yl.cons rfl rfl;focus (rintro j ⟨⟨x1,x2⟩,⟨x3,x4⟩,x5,x6⟩;go_simp<;>with_reducible rfl);try simp only [az])
     exact Yl.nil
    try simp only [az]
    refine nZ (i:=10) (R:=fun v j=>v=.bool r∧ah wr j) rfl (by kernel_rfl) (by rfl) (by go_simp) ((vL.o wr.drew z.drew).mono fun e j ⟨G,Q⟩=>⟨_,G,rfl,((Below.refl wr.heap.size wr).drew).trans Q⟩) ?_
    rintro am ac ⟨rfl,Y⟩;refine ⟨BL.o _ _ y Y, ?_⟩;have Pz:=BL.o _ _ y Y;have Ez:ah H ac:=d.trans (Y.mono d.size);try simp only [az]
    refine dm [11] (fuel:=0) (a':=?qa2) (by kernel_rfl) (by kernel_rfl) (by kernel_rfl) ?GG Pz ?qn2
    case GG=>
     iterate 1 (apply Yl.cons rfl rfl;focus (rintro j ⟨⟨x1,x2⟩,⟨x3,x4⟩,x5,x6⟩;go_simp<;>with_reducible rfl);try simp only [az])
     exact Yl.nil
    try simp only [az]
    refine wpAnyH_done (by kernel_rfl) ?_ _
    refine NoPanic.normal ?_
    clear Pz hS X y BL Y;cases r with
    | true=>
     have e:(s,l)=(t,V):=by have:=HR.o;simpa using this.symm
     have E:=ag (show fs.take (k+1)=q.take (k+1) by rw [HT.o,HU.o,A.o,e]);clear e;go_wp2;go_roundw
     case rel=>exact ⟨k+1,by omega,rfl,E,Ez⟩
     case measure=>simp only [intOf];omega
    | false=>
     have E:=ag (HX.o (by have:=HR.o;exact of_decide_eq_false this.symm));go_wp2;go_ret;exact ⟨by rw [E.o];rfl,u.o.trans (Ez.mono u.o.size)⟩
   ·have hd:decide ((k:Int)<n)=false:=aA (by omega)
    have E:=ag (show decide (fs=q)=true by
     have h:=A.o;rw [List.take_of_length_le (by have:=HN.o;omega),List.take_of_length_le (by have:=HM.o;omega)] at h;simpa using h)
    go_wp2;go_ret;exact ⟨by rw [E.o];rfl,z⟩
 ·have E:=ag (show decide (fs=q)=false by
   simp only [decide_eq_false_iff_not];rintro rfl;exact g1 (HN.o.trans HM.o.symm))
  have an:((n:Int)==(m:Int))=false:=by simp;omega
  go_enter Tryz.func45,Tryz.ntmps45;go_wp2;all_goals (go_ret;exact ⟨by rw [E.o];rfl,by rw [<-p];exact u.o⟩)
end Go.Proofs.YthpammbgcidloaaGreat
