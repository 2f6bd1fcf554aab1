/-
  Blocks by their numbers: what dev's map of blocks is, and what its put does.
-/
import Derived.Test.YthpammbgcidloaaGreatDCopy2
import Derived.Maps.RangeWalk
import Derived.Laws.CopyOwn
set_option maxHeartbeats 1000000
set_option maxRecDepth 100000
namespace Go.Proofs.YthpammbgcidloaaGreat
open Go.RowKit
set_option linter.all false
theorem qzq {α:Type} (c:List α) (k:Nat) (a b:α) (h:k*2+1<c.length):((c.set (k*2) a).set (k*2+1) b).take ((k+1)*2)=c.take (k*2)++[a,b]:=by
 apply List.ext_getElem?;intro j;simp only [List.getElem?_take,List.getElem?_set,List.getElem?_append,List.length_take,List.length_set];have e:min (k*2) c.length=k*2:=by omega
 rw [e];by_cases d:j<k*2
 ·rw [if_pos (by omega),if_neg (by omega),if_neg (by omega),if_pos d];simp [d]
 ·rw [if_neg d]
  obtain ⟨i,rfl⟩:∃i,j=k*2+i:=⟨j - k*2,by omega⟩;rw [Nat.add_sub_cancel_left]
  match i with
  | 0=>simp;omega
  | 1=>simp;omega
  | i+2=>rw [if_neg (by omega)];simp
theorem qzr {α:Type} (d:List α) (k:Nat) (a b c:α) (h:k*3+2<d.length):(((d.set (k*3) a).set (k*3+1) b).set (k*3+2) c).take ((k+1)*3)=d.take (k*3)++[a,b,c]:=by
 apply List.ext_getElem?;intro j;simp only [List.getElem?_take,List.getElem?_set,List.getElem?_append,List.length_take,List.length_set];have f:min (k*3) d.length=k*3:=by omega
 rw [f];by_cases e:j<k*3
 ·rw [if_pos (by omega),if_neg (by omega),if_neg (by omega),if_neg (by omega),if_pos e];simp [e]
 ·rw [if_neg e]
  obtain ⟨i,rfl⟩:∃i,j=k*3+i:=⟨j - k*3,by omega⟩;rw [Nat.add_sub_cancel_left]
  match i with
  | 0=>simp;omega
  | 1=>simp;omega
  | 2=>simp;omega
  | i+3=>rw [if_neg (by omega)];simp
theorem YG (z:List (Pu × Value)) (p:Pu) (v:Value):xy (z++[(p,v)])=xy z++[.int .i64 p.1,v]:=by simp [xy]
theorem YH (z:List (Ac × Value)) (p:Ac) (v:Value):uY (z++[(p,v)])=uY z++[.bool p.1,.int .i64 p.2.1,v]:=by simp [uY]
theorem qq7 (a:au) (n c:Nat) (l:List Pu) (w:World) (V:n=l.length) (W:l.length<=1000000) (hd:∀p∈l,p.2.length<=1000000000) (B:RdW w (.slice a n c) l):
  Calls Tryz.prog 205 #[.slice a n c] w fun e w'=>∃v,e=.returned v∧kG w' w.heap.size v l∧ah w w':=by
 have HC:=ag B;have N:=ag V;have HL:=ag W;have HD:=ag hd;have aa:n<=1000000:=by omega
 clear B V W hd;obtain ⟨i0,O,C,D,E⟩:=info_parts Tryz.infoPut;obtain ⟨X,F,f,G⟩:=run_make_full (P:=Tryz.prog) w w.heap.size 23 94 i0 _ 2 Tryz.underlying23 O C D .i64 .i64 n (by rw [E];omega) (by unfold maxLen;omega) aI;have Y:=ag f;have HX:=ag f.1;have Q:ah w X:=aB.grown G aI (fun k Z=>by cases Z);have R:w.heap.size<X.heap.size:=(f.lt _ rfl).2;have H1:=ag O;clear G O C D E f;generalize (madeCells (Value.agg #[.int .i64 0,.slice none 0 0]).cells (n*2)).toList=YI at Y HX;go_enter Tryz.func205,Tryz.ntmps205;go_wp2;clear F;go_loopw [11] (fun i wr=>∃(k:Nat) (A:List Value) (z:List (Pu × Value)),k<=n∧i=.int .i64 k∧af (z.map (·.1)=l.take k)∧af (A.take (k*2)=xy z)∧af (wr.ownsRow w.heap.size 94 2 (.slice (some ⟨w.heap.size,0,none⟩) n n) n A)∧af (∀p∈z,aX wr (w.heap.size+1) p.2 p.1.2)∧ah w wr∧w.heap.size<wr.heap.size) (fun i _=>n - (intOf i).toNat)
 case atStart=>exact ⟨0,YI,[],Nat.zero_le _,rfl,rfl,by simp [xy,af],Y.o,by simp [af],Q,R⟩
 case round=>
  obtain ⟨k,A,z,Z,rfl,hz,hx,S,hp,g,T⟩:=hrel;by_cases ab:k<n
  ·have H:(k:Int)<n:=by omega
   have t:k<l.length:=by have:=N.o;omega
   obtain ⟨b,ac,rfl,q0,x,m,d,q1,q2,q3⟩:=(HC.o.a g).at k t;have HQ:=ag q2;have yE:=ag q3;clear q2 q3;go_wp2_with fail
   refine (YC (l[k]).1 x m d (l[k]).2 _ yE.o (HD.o _ (List.getElem_mem t)) (HQ.o.alloc _)).mono ?_
   rintro e L ⟨v,rfl,s,I⟩;have q:ah wr L:=(ae).trans (I.mono (by simp));have r:=pW S.o q;have J:=r.1;obtain ⟨y0,e0⟩:∃y,A[k*2]? =some y:=⟨_,List.getElem?_eq_getElem (by omega)⟩
   obtain ⟨y1,e1⟩:∃y,A[k*2+1]? =some y:=⟨_,List.getElem?_eq_getElem (by omega)⟩
   have c0:L.cell? ⟨w.heap.size,k*2,none⟩=some y0:=(r.cellAt _ (by omega)).trans e0;have c1:L.cell? ⟨w.heap.size,k*2+1,none⟩=some y1:=(r.cellAt _ (by omega)).trans e1;have f0:=fun j=>r.frozenAt j
   obtain ⟨s1,g1⟩:=r.stored (k*2) (.int .i64 (l[k]).1);obtain ⟨s2,g2⟩:=s1.stored (k*2+1) v;have HS:=ag s2;have M:=ag (nP g1 g2);have HE:=ag (qzq A k (.int .i64 (l[k]).1) v (by omega));have HB:=ag q;have K:=g.trans (q.mono g.size);have u:aX L (w.heap.size+1) v (l[k]).2:=s.mono (by simp;omega);have YJ:=ag u;obtain ⟨pv,cv,rfl⟩:=u.form;clear r J e0 e1 s1 s2 g1 g2 I q s u;go_wp2;go_roundw
   case rel=>
    refine ⟨k+1,_,z++[(l[k],.slice pv (l[k]).2.length cv)],by omega,by go_num,ag ?_,ag ?_,HS,ag ?_,K.grown M.o K.size (fun j hj=>by cases hj;exact Nat.le_refl _),Nat.lt_of_lt_of_le (Nat.lt_of_lt_of_le T HB.o.size) M.o.size⟩
    ·rw [List.map_append,hz.o,List.take_succ_eq_append_getElem t];rfl
    ·rw [HE.o,hx.o,YG]
    ·intro p U
     rcases List.mem_append.1 U with h | h
     ·exact ((hp.o p h).a HB.o).grown M.o (by omega)
     ·rw [List.mem_singleton.1 h];exact YJ.o.grown M.o (by omega)
   case measure=>simp [intOf]<;>omega
  ·have H:decide ((k:Int)<n)=false:=aA (by omega)
   go_wp2;go_ret;refine ⟨_,rfl,⟨z, ?_, ?_,fun p h=>(hp.o p h).mono (by omega)⟩,g⟩
   ·rw [hz.o,List.take_of_length_le (by have:=N.o;omega)]
   ·have e:=hx.o
    rw [List.take_of_length_le (by rw [S.o.1];omega)] at e;rw [<-e,<-N.o];exact S.o
theorem qq8 (a:au) (n c:Nat) (l:List Ac) (w:World) (V:n=l.length) (W:l.length<=1000000) (hd:∀p∈l,p.2.2.length<=1000000000) (B:RdA w (.slice a n c) l):
  Calls Tryz.prog 206 #[.slice a n c] w fun e w'=>∃v,e=.returned v∧lQ w' w.heap.size v l∧ah w w':=by
 have HC:=ag B;have N:=ag V;have HL:=ag W;have HD:=ag hd;have aa:n<=1000000:=by omega
 clear B V W hd;obtain ⟨i0,O,C,D,E⟩:=info_parts Tryz.infoAct;obtain ⟨X,F,f,G⟩:=run_make_full (P:=Tryz.prog) w w.heap.size 24 151 i0 _ 3 Tryz.underlying24 O C D .i64 .i64 n (by rw [E];omega) (by unfold maxLen;omega) aI;have Y:=ag f;have HX:=ag f.1;have Q:ah w X:=aB.grown G aI (fun k Z=>by cases Z);have R:w.heap.size<X.heap.size:=(f.lt _ rfl).2;have H1:=ag O;clear G O C D E f;generalize (madeCells (Value.agg #[.bool false,.int .i64 0,.slice none 0 0]).cells (n*3)).toList=YI at Y HX;go_enter Tryz.func206,Tryz.ntmps206;go_wp2;clear F;go_loopw [11] (fun i wr=>∃(k:Nat) (t:List Value) (z:List (Ac × Value)),k<=n∧i=.int .i64 k∧af (z.map (·.1)=l.take k)∧af (t.take (k*3)=uY z)∧af (wr.ownsRow w.heap.size 151 3 (.slice (some ⟨w.heap.size,0,none⟩) n n) n t)∧af (∀p∈z,aX wr (w.heap.size+1) p.2 p.1.2.2)∧ah w wr∧w.heap.size<wr.heap.size) (fun i _=>n - (intOf i).toNat)
 case atStart=>exact ⟨0,YI,[],Nat.zero_le _,rfl,rfl,by simp [uY,af],Y.o,by simp [af],Q,R⟩
 case round=>
  obtain ⟨k,t,z,Z,rfl,hz,hx,S,hp,q,T⟩:=hrel;by_cases ab:k<n
  ·have H:(k:Int)<n:=by omega
   have u:k<l.length:=by have:=N.o;omega
   obtain ⟨b,ac,rfl,q0,lI,x,m,d,q1,q2,q3⟩:=(HC.o.a q).at k u;have HQ:=ag q2;have yE:=ag q3;clear q2 q3;go_wp2_with fail
   refine (YD (l[k]).1 (l[k]).2.1 x m d (l[k]).2.2 _ yE.o (HD.o _ (List.getElem_mem u)) (HQ.o.alloc _)).mono ?_
   rintro e I ⟨v,rfl,s,J⟩;have r:ah wr I:=(ae).trans (J.mono (by simp));have g:=pW S.o r;have K:=g.1;obtain ⟨y0,e0⟩:∃y,t[k*3]? =some y:=⟨_,List.getElem?_eq_getElem (by omega)⟩
   obtain ⟨y1,e1⟩:∃y,t[k*3+1]? =some y:=⟨_,List.getElem?_eq_getElem (by omega)⟩
   obtain ⟨y2,e2⟩:∃y,t[k*3+2]? =some y:=⟨_,List.getElem?_eq_getElem (by omega)⟩
   have c2:I.cell? ⟨w.heap.size,k*3+2,none⟩=some y2:=(g.cellAt _ (by omega)).trans e2;have c0:I.cell? ⟨w.heap.size,k*3,none⟩=some y0:=(g.cellAt _ (by omega)).trans e0;have c1:I.cell? ⟨w.heap.size,k*3+1,none⟩=some y1:=(g.cellAt _ (by omega)).trans e1;have f0:=fun j=>g.frozenAt j
   obtain ⟨s1,g1⟩:=g.stored (k*3) (.bool (l[k]).1);obtain ⟨s2,g2⟩:=s1.stored (k*3+1) (.int .i64 (l[k]).2.1);obtain ⟨s3,g3⟩:=s2.stored (k*3+2) v;have HS:=ag s3;have M:=ag (nP (nP g1 g2) g3);have HE:=ag (qzr t k (.bool (l[k]).1) (.int .i64 (l[k]).2.1) v (by omega));have HB:=ag r;have L:=q.trans (r.mono q.size);have A:aX I (w.heap.size+1) v (l[k]).2.2:=s.mono (by simp;omega);have YJ:=ag A;obtain ⟨pv,cv,rfl⟩:=A.form;clear g K e0 e1 e2 s1 s2 s3 g1 g2 g3 J r s A;go_wp2;go_roundw
   case rel=>
    refine ⟨k+1,_,z++[(l[k],.slice pv (l[k]).2.2.length cv)],by omega,by go_num,ag ?_,ag ?_,HS,ag ?_,L.grown M.o L.size (fun j hj=>by cases hj;exact Nat.le_refl _),Nat.lt_of_lt_of_le (Nat.lt_of_lt_of_le T HB.o.size) M.o.size⟩
    ·rw [List.map_append,hz.o,List.take_succ_eq_append_getElem u];rfl
    ·rw [HE.o,hx.o,YH]
    ·intro p U
     rcases List.mem_append.1 U with h | h
     ·exact ((hp.o p h).a HB.o).grown M.o (by omega)
     ·rw [List.mem_singleton.1 h];exact YJ.o.grown M.o (by omega)
   case measure=>simp [intOf]<;>omega
  ·have H:decide ((k:Int)<n)=false:=aA (by omega)
   go_wp2;go_ret;refine ⟨_,rfl,⟨z, ?_, ?_,fun p h=>(hp.o p h).mono (by omega)⟩,q⟩
   ·rw [hz.o,List.take_of_length_le (by have:=N.o;omega)]
   ·have e:=hx.o
    rw [List.take_of_length_le (by rw [S.o.1];omega)] at e;rw [<-e,<-N.o];exact S.o
theorem qq9 (d:Dk) (G a2 a3:au) (n1 c1 n2 c2 n3 c3:Nat) (w:World) (l:Rd w (.slice G n1 c1) d.1) (m:RdW w (.slice a2 n2 c2) d.2.1) (j:RdA w (.slice a3 n3 c3) d.2.2) (e1:n1=d.1.length) (Q:n2=d.2.1.length) (S:n3=d.2.2.length)
  (T:d.1.length<=1000000000) (U:d.2.1.length<=1000000) (V:d.2.2.length<=1000000) (d2:∀p∈d.2.1,p.2.length<=1000000000) (W:∀p∈d.2.2,p.2.2.length<=1000000000):
  Calls Tryz.prog 182 #[.agg #[.slice G n1 c1,.slice a2 n2 c2,.slice a3 n3 c3]] w fun e w'=>∃x y z B,e=.returned (.agg #[x,y,z])∧w.heap.size<=B∧aX w' w.heap.size x d.1∧(∀g,x.ownBlock=some g->g<B)∧kG w' B y d.2.1∧lQ w' B z d.2.2∧B<=w'.heap.size∧ah w w':=by
 have H1:=ag l;have H2:=ag m;have H3:=ag j;have E1:=ag e1;have E2:=ag Q;have E3:=ag S;have B1:=ag T;have B2:=ag U;have B3:=ag V;have D2:=ag d2;have D3:=ag W;clear l m j e1 Q S T U V d2 W;go_enter Tryz.func182,Tryz.ntmps182;go_wp2;have f:aL (fun n=>n.cell? ⟨w.heap.size,0,none⟩=some (.slice G n1 c1)∧n.cell? ⟨w.heap.size,1,none⟩=some (.slice a2 n2 c2)∧n.cell? ⟨w.heap.size,2,none⟩=some (.slice a3 n3 c3)∧(∃X Y Z,n.heap[w.heap.size+1]? =some (.cells #[X,Y,Z] 26 (0,0)))∧ah w n∧w.heap.size+2<=n.heap.size):=(aR _ _).and ((aR _ _).and ((aR _ _).and ((qj8 _ _).and ((jW w).and (FK _)))));refine gH f (by kernel_rfl) ⟨by simp,by simp,by simp,⟨_,_,_,pq _ _ _⟩,(ae).alloc (by simp) _,by simp⟩ ?_
 intro b;refine dm [0,1,3,4,6,7] (fuel:=5) (a':=?iD) (by kernel_rfl) (by kernel_rfl) (by kernel_rfl) ?dn b ?iE
 case dn=>
  iterate 6 (apply Yl.cons rfl (by kernel_rfl);focus (rintro n ⟨J,K,L,H,t,M⟩;go_simp<;>with_reducible rfl);try simp only [az])
  exact Yl.nil
 refine uT f (i:=2) (R:=fun v u=>aX u (w.heap.size+2) v d.1) rfl (by kernel_rfl) (by rfl) (by go_simp) b ((YB G c1 n1 d.1 _ E1.o B1.o (H1.o.a b.2.2.2.2.1)).mono fun e w1 ⟨v,l,m,j⟩=>⟨v,l,m.mono b.2.2.2.2.2,j⟩) (fun v _ _ h q=>h.a q) ?_
 intro v5 A c s r;clear f b;have f:=c;have b:=r;clear c r;obtain ⟨N,O,rfl⟩:=s.form;have YK:∀g,(Value.slice N d.1.length O).ownBlock=some g->g<A.heap.size:=fun g hg=>(World.ownsRow.lt s g hg).2
 have I:w.heap.size+1<A.heap.size:=b.1.2.2.2.2.2;try simp only [az]
 refine uT f (i:=5) (R:=fun v u=>kG u A.heap.size v d.2.1∧A.heap.size<=u.heap.size) rfl (by kernel_rfl) (by rfl) (by go_simp) b ((qq7 a2 n2 c2 d.2.1 _ E2.o B2.o D2.o (H2.o.a b.1.2.2.2.2.1)).mono fun e w1 ⟨v,l,m,j⟩=>⟨v,l,⟨m,j.size⟩,j⟩) (fun v _ _ h q=>⟨h.1.a q,aC h.2 q.size⟩) ?_
 intro v8 w8 c s r;clear f b;have f:=c;have b:=r;clear c r;obtain ⟨p8,k8,rfl⟩:=s.1.rd.form;have YL:=s.2;try simp only [az]
 refine uT f (i:=8) (R:=fun v u=>lQ u A.heap.size v d.2.2) rfl (by kernel_rfl) (by rfl) (by go_simp) b ((qq8 a3 n3 c3 d.2.2 _ E3.o B3.o D3.o (H3.o.a b.1.1.2.2.2.2.1)).mono fun e w1 ⟨v,l,m,j⟩=>⟨v,l,m.mono YL,j⟩) (fun v _ _ h q=>h.a q) ?_
 intro aa uZ c s r;clear f b;have f:=c;have b:=r;clear c r;obtain ⟨C,D,rfl⟩:=s.rd.form;try simp only [az]
 refine bZ (i:=9) (v:=?qav9) rfl (by kernel_rfl) (by kernel_rfl) (by kernel_rfl) (by rfl) ?YM b ?qar9
 case YM=>(rintro n ⟨⟨⟨⟨J,K,L,H,t,M⟩,_⟩,_⟩,_⟩;go_simp<;>with_reducible rfl)
 try simp only [az]
 obtain ⟨⟨⟨⟨J,K,L,⟨X,Y,Z,H⟩,t,M⟩,r1⟩,r2,E⟩,r3⟩:=b;obtain ⟨ws,bP,F,a⟩:=ou (.slice N d.1.length O) (.slice p8 d.2.1.length k8) (.slice C d.2.2.length D) H;obtain ⟨z1,z2,z3,z4⟩:=cells3 H;refine nL (i:=10) (w':=ws) rfl (by kernel_rfl) (by rfl) (by rw [<-bP];go_simp) ⟨⟨⟨⟨a.cell J (by simp),a.cell K (by simp),a.cell L (by simp),⟨_,_,_,F⟩,t.grown a t.size (fun k P=>by cases P;simp),aC M a.size⟩,r1.grown a (by simp)⟩,⟨r2.grown a I,aC E a.size⟩⟩,r3.grown a I⟩ ?_
 try simp only [az]
 refine wpAnyH_done (by kernel_rfl) ?_ _
 refine NoPanic.normal ?_
 have q:ah w ws:=t.grown a t.size (fun k P=>by cases P;simp);have o1:=r1.grown a (by simp);have o2:=r2.grown a I;have o3:=r3.grown a I;obtain ⟨q1,q2,q3,_⟩:=cells3 F;clear bP;go_wp2;refine bodyPost_ret (v:=.agg #[.slice N d.1.length O,.slice p8 d.2.1.length k8,.slice C d.2.2.length D]) ?_ rfl ⟨_,_,_,A.heap.size,rfl,by omega,o1.mono (by omega),YK,o2,o3,aC E a.size,q⟩
 simp [results,Tryz.results182,go_sem, *]
open Go.Maps (Keyed)
def sI:Value->Option (DataW Unit × List MemPlace)
 | .slice (some ⟨g,0,none⟩) 128 128=>some (.lit (.int .i64 g),[])
 | .slice none 0 0=>some (.nil,[])
 | _=>none
theorem FM {v:Value} {y:DataW Unit × List MemPlace} (h:sI v=some y):(v=.slice none 0 0∧y.1=.nil)∨∃g:Nat,v=.slice (some ⟨g,0,none⟩) 128 128∧y.1=.lit (.int .i64 g):=by
 unfold sI at h;split at h
 ·cases h;exact .inr ⟨_,rfl,rfl⟩
 ·cases h;exact .inl ⟨rfl,rfl⟩
 ·cases h
theorem LD:Keyed Tryz.prog 3:=Maps.int_keyed Tryz.underlying3
theorem YN (w:World):(zeroValue 22).run Tryz.prog w=.ok (.slice none 0 0) w:=by kernel_rfl
def zt (w:World) (base g:Nat) (l:ak):Prop:=base<=g∧l.length=128∧w.heap[g]? =some (.cells (bW l).toArray 5 (0,0))
def Bm (w:World) (base b n:Nat) (M:Int->Option (ak)):Prop:=
 ∃(D:DataW Unit) (G:Int->Option Nat),w.ownsMap Tryz.prog 3 sI b n D∧base<=b∧
  (∀k z,D.atKey (.int .i64 k) z=match G k with | some g=>.lit (.int .i64 g) | none=>z)∧
  (∀k,M k=none->G k=none)∧(∀k l,M k=some l->∃g,G k=some g∧zt w base g l)∧∀k k' g,G k=some g->G k'=some g->k=k'
theorem Bm.lt {w:World} {base b n:Nat} {M:Int->Option (ak)} (h:Bm w base b n M):base<=b∧b<w.heap.size:=by
 obtain ⟨D,G,a,c,_⟩:=h;exact ⟨c,a.lt⟩
theorem zt.lt {w:World} {base g:Nat} {l:ak} (h:zt w base g l):g<w.heap.size:=(Array.getElem?_eq_some_iff.1 h.2.2).1
theorem zt.kept {w w':World} {base g:Nat} {l:ak} {row:Option Nat} (h:zt w base g l) (b:w.grownBy w' row) (a:some g≠row):zt w' base g l:=
 ⟨h.1,h.2.1,(b.block g h.lt a).trans h.2.2⟩
theorem Bm.kept {w w':World} {base b n:Nat} {M:Int->Option (ak)} {row:Option Nat} (h:Bm w base b n M) (c:w.grownBy w' row) (a:∀k,row=some k->k<base):Bm w' base b n M:=by
 obtain ⟨D,G,f,i,j,m,o,p⟩:=h;refine ⟨D,G,f.kept c (fun e=>by have:=a b e.symm;omega),i,j,m,fun k l q=>?_,p⟩;obtain ⟨g,e,d⟩:=o k l q;exact ⟨g,e,d.kept c (fun e=>by have:=a g e.symm;have:=d.1;omega)⟩
theorem xB {w w':World} (h:ah w w'):w.grownBy w' none:=by
 refine ⟨h.os,h.tape,h.output,h.size,fun k a _=>h.block k a⟩
theorem Bm.a {w w':World} {base b n:Nat} {M:Int->Option (ak)} (h:Bm w base b n M) (hb:ah w w'):Bm w' base b n M:=h.kept (xB hb) (fun k a=>by cases a)
theorem Bm.made (w:World):Bm (w.alloc (.map #[] 0)) w.heap.size w.heap.size 0 (fun _=>none):=
 ⟨.map [],fun _=>none,World.ownsMap_made w _ _ _,Nat.le_refl _,fun _ _=>rfl,fun _ _=>rfl,(fun _ _ h=>by cases h),(fun _ _ _ h=>by cases h)⟩
theorem Nh {N:Int} (h:0<=N) (a:N<1000000):(Lit.int .i64 N).wf=true:=WalkArith.wf_i64 ⟨by omega,by omega⟩
theorem Bm.over {w w':World} {base b n:Nat} {D:DataW Unit} {G:Int->Option Nat} {M:Int->Option (ak)} {N:Int} {g:Nat} {l:ak} (j:w.ownsMap Tryz.prog 3 sI b n D) (m:base<=b)
  (o:∀k z,D.atKey (.int .i64 k) z=match G k with | some g=>.lit (.int .i64 g) | none=>z) (p:∀k,k≠N->M k=none->G k=none) (q:∀k l,k≠N->M k=some l->∃g,G k=some g∧zt w base g l) (d:∀k f g,G k=some g->G f=some g->k=f)
  (h:G N=some g) (i:w.grownBy w' (some g)) (c:g≠b) (hb:zt w' base g l):Bm w' base b n (fun k=>if k=N then some l else M k):=by
 refine ⟨D,G,j.kept i (fun e=>c (by cases e;rfl)),m,o,fun k a=>?_,fun k r a=>?_,d⟩
 ·by_cases e:k=N
  ·simp [e] at a
  ·simp only [e,if_false] at a;exact p k e a
 ·by_cases e:k=N
  ·simp only [e,if_true,Option.some.injEq] at a
   subst a;exact ⟨g,by rw [e];exact h,hb⟩
  ·simp only [e,if_false] at a
   obtain ⟨s,e1,t⟩:=q k r e a;exact ⟨s,e1,t.kept i (fun u=>e (d k N g (by cases u;exact e1) h))⟩
theorem Tryz.sizeB:(Tryz.prog.info? 5).map (·.size)=some 1:=by kernel_rfl
theorem YO (a l:ak) (b:Nat):bW (splice a b l)=(bW a).take b++(bW l++(bW a).drop (b+(bW l).length)):=by
 simp [bW,splice,List.map_take,List.map_drop]
theorem qj9 {P:Program} (w:World) {r:Array Oper} {rest:List Oper} {o:Oper} {a:Act} {Q:Exit->Act->World->Prop} (A:o.guard=none) (d s:Operand) (x:TypeId)
  (G:o.op=.call {callee:=.builtin .copy,args:=#[d,s],argTypes:=#[x,x]}) (elem:TypeId) (H:P.underlying x=some (.slice elem)) (B:(P.info? elem).map (·.size)=some 1)
  (g m i p:Nat) (hd:a.eval d=.slice (some ⟨g,m,none⟩) i p) (v:Value) (l:ak) (I:a.eval s=v) (C:Rd w v l) (y:l≠[]) (D:l.length<=i)
  (n:ak) (t:TypeId) (F:w.heap[g]? =some (.cells (bW n).toArray t (0,0))) (z:m+l.length<=n.length)
  (h:∀w',w.grownBy w' (some g)->w'.heap[g]? =some (.cells (bW (splice n m l)).toArray t (0,0))->wpList P r Q rest (a.put o.dst (goInt l.length)) w'):
  wpList P r Q (o::rest) a w:=by
 rcases C with ⟨e,_⟩ | ⟨b,of,c,rfl,L,M,q⟩
 ·exact absurd e y
 ·have f:(bW l).length=l.length:=by simp [bW]
  refine wpList_copy_own A d s x x G elem H B g m i p ⟨b,of,none⟩ l.length c hd I (bW n).toArray t F (bW l) (by rw [f];exact (Nat.min_eq_left D).symm) ?_ (by rw [f];simpa [bW] using z) (FC l) ?_
  ·intro j u J
   obtain ⟨E,rfl⟩:=FD l j u J;rw [Addr.add_lit];exact q j E
  ·rw [f]
   refine h _ ⟨rfl,rfl,rfl,by simp [World.setRow],fun k _ K=>setRow_other w g k _ (fun e=>K (by rw [e]))⟩ ?_
   rw [setRow_heap w g _ _ t _ F,YO,f]
theorem YP (base b n:Nat) (M:Int->Option (ak)) (N:Int) (x:au) (m d:Nat) (l:ak) (w:World) (hm:Bm w base b n M) (hn:n<=1000000) (hN:0<=N) (ao:N<1000000) (O:l.length=128) (oN:m=128) (I:Rd w (.slice x m d) l):
  Calls Tryz.prog 197 #[.map (some b),.agg #[.int .i64 N,.slice x m d]] w fun e w'=>e=.returned (.tuple #[])∧Bm w' base b (n+1) (fun k=>if k=N then some l else M k)∧Below base w w':=by
 subst oN;have f:keyOf Tryz.prog 3 (.int .i64 N)=some (.int .i64 N):=Maps.keyOf_int_mk Tryz.underlying3 (Nh hN ao);obtain ⟨ap,aH⟩:=hm.lt;have aq:=hm.a (aB.alloc aI (.cells #[.int .i64 N,.slice x 128 d] 94));have c:ah w (w.alloc (.cells #[.int .i64 N,.slice x 128 d] 94)):=ae;obtain ⟨D,G,A,h2,h3,S,J,h6⟩:=aq;obtain ⟨v,ps,sJ,hv⟩:=A.lookup (t:=238) (e:=22) LD Tryz.underlying238 (YN _) (zd:=.nil) (zp:=[]) rfl f;rw [h3] at hv;cases hG:G N with
 | some g=>
  rw [hG] at hv;obtain rfl:v=.slice (some ⟨g,0,none⟩) 128 128:=by
   rcases FM hv with ⟨_,h⟩ | ⟨Q,h,h'⟩
   ·cases h
   ·cases h';exact h
  have hq:=fun T=>Lib.run_eql_slice_nil (P:=Tryz.prog) T 22 5 (some ⟨g,0,none⟩) 128 128 0 0 Tryz.underlying22
  obtain ⟨R,hM⟩:∃R,M N=some R:=by
   cases e:M N with
   | none=>rw [S N e] at hG;cases hG
   | some R=>exact ⟨R,rfl⟩
  obtain ⟨Q,U,hB⟩:=J N R hM;obtain rfl:Q=g:=by rw [hG] at U;cases U;rfl
  have K:Q≠b:=by
   intro e;obtain ⟨es,B,p,_⟩:=A;rw [<-e,hB.2.2] at p;cases p
  have HF:af (∀w',(w.alloc (.cells #[.int .i64 N,.slice x 128 d] 94)).grownBy w' (some Q)->w'.heap[Q]? =some (.cells (bW (splice R 0 l)).toArray 5 (0,0))->Bm w' base b (n+1) (fun k=>if k=N then some l else M k)∧Below base w w'):=by
   intro w' C p;have hw:splice R 0 l=l:=by unfold splice;simp [O,hB.2.1]
   rw [hw] at p;refine ⟨?_,(c.mono (by omega)).grown C (by simp;omega) (fun k q=>by cases q;exact hB.1)⟩;exact Bm.over (A.mono (Nat.le_succ _)) h2 h3 (fun k _=>S k) (fun k l _=>J k l) h6 hG C K ⟨hB.1,O,p⟩
  have HR:=ag (I.a c);have HB:=ag hB;have V:=ag O;clear I c A h2 h3 S J h6 hG U hB K hm f hM hv O;go_enter Tryz.func197,Tryz.ntmps197;go_wp2_with (refine qj9 (w.alloc (.cells #[.int .i64 N,.slice x 128 d] 94)) rfl (.tmp 16) (.tmp 18) 22 rfl 5 Tryz.underlying22 Tryz.sizeB Q 0 128 128 rfl _ l rfl HR.o (by intro e;have:=V.o;rw [e] at this;cases this) (by have:=V.o;omega) R 5 HB.o.2.2 (by have:=V.o;have:=HB.o.2.1;omega) ?_;intro W aM Ee)
  have:=HF.o _ aM Ee
  refine bodyPost_end (v:=.tuple #[]) ?_ rfl ⟨rfl,this.1,this.2⟩
  simp [results,Tryz.results197,go_sem]
 | none=>
  rw [hG] at hv;obtain rfl:v=.slice none 0 0:=by
   rcases FM hv with ⟨h,_⟩ | ⟨Q,_,h'⟩
   ·exact h
   ·cases h'
  have hq:=fun T=>Lib.run_eql_slice_nil (P:=Tryz.prog) T 22 5 none 0 0 0 0 Tryz.underlying22
  obtain ⟨a,ew⟩:=aj (w.alloc (.cells #[.int .i64 N,.slice x 128 d] 94));rw [ew] at A J sJ c;have ar:a.heap.size=w.heap.size+1:=by rw [<-ew];simp
  have k0:a.cell? ⟨w.heap.size,0,none⟩=some (.int .i64 N):=by rw [<-ew];simp
  have k1:a.cell? ⟨w.heap.size,1,none⟩=some (.slice x 128 d):=by rw [<-ew];simp
  obtain ⟨i0,hi,ab,ac,ad⟩:=info_parts Tryz.infoB;obtain ⟨W,lS,r,al⟩:=run_make_full (P:=Tryz.prog) a.drew a.heap.size 22 5 i0 _ 1 Tryz.underlying22 hi ab ac .i64 .i64 128 (by rw [ad];decide) (by unfold maxLen;decide) aI;have vg:(Instr.makeSlice 22 (.int .i64 128) (.int .i64 128)).run Tryz.prog a.drew=.ok (.slice (some ⟨a.heap.size,0,none⟩) 128 128) W:=lS;have s:ah a W:=(aG).grown al aI (fun k q=>by cases q);have av:a.heap.size<W.heap.size:=(r.lt _ rfl).2;have E:W.heap[a.heap.size]? =some (.cells (bW (List.replicate 128 0)).toArray 5 (0,0)):=by
   rcases r.2 with ⟨h,_⟩ | ⟨g,cap,am,h,_,p,S,_,J,h6⟩
   ·cases h
   ·cases h
    have aw:W.heap[a.heap.size]? =some (.cells am 5 (0,0)):=p
    rw [aw];congr 2
    apply Array.ext';rw [<-List.take_of_length_le (i:=128*1) (l:=am.toList) (by rw [Array.length_toList,J];exact Nat.le_refl _),h6];show (madeCells #[Value.int .u8 0] (128*1)).toList=_
    rw [toList_madeCells_one];simp [bW]
  obtain ⟨w3,ax,X,u⟩:=(A.kept (xB s) (by simp)).update (t:=238) (e:=22) LD Tryz.underlying238 (by unfold maxLen;omega) (val:=.slice (some ⟨a.heap.size,0,none⟩) 128 128) f rfl;obtain ⟨v',aJ,YQ,L⟩:=X.lookup (t:=238) (e:=22) LD Tryz.underlying238 (YN _) (zd:=.nil) (zp:=[]) rfl f
  have Y:∀k z,(D.put (.int .i64 N) (.lit (.int .i64 a.heap.size))).atKey (.int .i64 k) z=match (if k=N then some a.heap.size else G k) with | some g=>.lit (.int .i64 g) | none=>z:=by
   intro k z;by_cases e:k=N
   ·subst e
    rw [Maps.atKey_put_same A.isMap (by trivial)];simp
   ·rw [Maps.atKey_put_other (by intro h;cases h;exact e rfl),h3]
    simp [e]
  rw [Y] at L;simp only [if_true] at L;obtain rfl:v'=.slice (some ⟨a.heap.size,0,none⟩) 128 128:=by
   rcases FM L with ⟨_,h⟩ | ⟨Q,h,h'⟩
   ·cases h
   ·cases h';exact h
  have F:b≠a.heap.size:=by have:=A.lt;omega
  have H:w3.heap[a.heap.size]? =some (.cells (bW (List.replicate 128 0)).toArray 5 (0,0)):=(u.block _ av (by intro e;cases e;exact F rfl)).trans E
  have YR:=aR _ _ _ _ k0 s;have YS:=aR _ _ _ _ k1 s;have S2:=ag (And.intro YR YS);have Z:∀j,some (⟨w.heap.size,j,none⟩:Addr).block≠some b:=fun j e=>by
   have:w.heap.size=b:=by simpa using e
   omega
  have ay:=u.cell YR (Z _);have aD:=u.cell YS (Z _);have S3:=ag (And.intro ay aD);have aa:Below base w w3:=((c.trans (s.mono (by omega))).mono (by omega)).grown u (by have:=c.size;omega) (fun k q=>by cases q;exact ap);have HR:af (Rd w3 (.slice x 128 d) l):=by
   rcases I with h | ⟨b',of,c',e,e1,y,hc⟩
   ·exact .inl h
   ·refine .inr ⟨b',of,c',e,e1,y,fun j hj=>?_⟩
    have c0:=aR _ _ _ _ (aR _ _ _ _ (hc j hj) c) s;refine u.cell c0 ?_
    intro e;have aE:=aR _ _ _ _ (hc j hj) c;obtain ⟨es,B,p,_⟩:=A;cases e;simp [World.cell?,p] at aE
  have HF:af (∀w',w3.grownBy w' (some a.heap.size)->w'.heap[a.heap.size]? =some (.cells (bW (splice (List.replicate 128 0) 0 l)).toArray 5 (0,0))->Bm w' base b (n+1) (fun k=>if k=N then some l else M k)∧Below base w w'):=by
   intro w' C p;have hw:splice (List.replicate 128 0) 0 l=l:=by unfold splice;simp [O]
   rw [hw] at p;refine ⟨?_,aa.grown C (by have:=aa.size;omega) (fun k q=>by cases q;omega)⟩;refine Bm.over (G:=fun k=>if k=N then some a.heap.size else G k) X h2 Y (fun k e q=>by simpa [e] using S k q) (fun k l' e q=>?_) ?_ (by simp) C (Ne.symm F) ⟨by omega,O,p⟩
   ·obtain ⟨g,e1,y⟩:=J k l' q
    refine ⟨g,by simpa [e] using e1, ?_⟩;have K:g≠b:=by
     intro e;obtain ⟨es,B,p,_⟩:=A;rw [<-e,y.2.2] at p;cases p
    exact (y.kept (xB s) (by simp)).kept u (by intro e;cases e;exact K rfl)
   ·intro k k' g e1 y
    have an:∀k,G k=some a.heap.size->False:=by
     intro k q;cases e:M k with
     | none=>rw [S k e] at q;cases q
     | some l'=>
      obtain ⟨g,e1,y⟩:=J k l' e;rw [q] at e1;cases e1;exact absurd y.lt (Nat.lt_irrefl _)
    by_cases c1:k=N<;>by_cases c2:k'=N
    ·rw [c1,c2]
    ·simp only [c1,if_true,Option.some.injEq] at e1;simp only [c2,if_false] at y;rw [<-e1] at y;exact (an _ y).elim
    ·simp only [c2,if_true,Option.some.injEq] at y;simp only [c1,if_false] at e1;rw [<-y] at e1;exact (an _ e1).elim
    ·simp only [c1,if_false] at e1;simp only [c2,if_false] at y;exact h6 k k' g e1 y
  have V:=ag O;have H3:=ag H;clear I c A h2 h3 S J h6 hG hm f hv O X Y L u s al E H r aa hi ab ac ad YR YS lS F Z ar;go_enter Tryz.func197,Tryz.ntmps197;go_wp2;have hK:aL (fun T=>T.cell? ⟨w.heap.size,0,none⟩=some (.int .i64 N)∧T.cell? ⟨w.heap.size,1,none⟩=some (.slice x 128 d)):=(aR _ _).and (aR _ _);refine gH hK (by kernel_rfl) ⟨k0,k1⟩ ?_
  intro hS;refine dm [0,1,2] (fuel:=2) (a':=?iD) (by kernel_rfl) (by kernel_rfl) (by kernel_rfl) ?dn hS ?iE
  case dn=>
   iterate 3 (apply Yl.cons rfl (by kernel_rfl);focus (rintro T ⟨x1,x2⟩;go_simp<;>with_reducible rfl);try simp only [az])
   exact Yl.nil
  refine uS (i:=3) (v:=.slice (some ⟨a.heap.size,0,none⟩) 128 128) (w':=W) rfl (by kernel_rfl) (by rfl) (by go_simp) S2.o ?_
  try simp only [az]
  refine nL (i:=4) (w':=w3) rfl (by kernel_rfl) (by rfl) (by go_simp) S3.o ?_
  try simp only [az]
  refine wpAnyH_done (by kernel_rfl) ?_ _
  refine NoPanic.normal ?_
  clear vg ax sJ hq;go_wp2_with (refine qj9 w3 rfl (.tmp 16) (.tmp 18) 22 rfl 5 Tryz.underlying22 Tryz.sizeB a.heap.size 0 128 128 rfl _ l rfl HR.o (by intro e;have:=V.o;rw [e] at this;cases this) (by have:=V.o;omega) _ 5 H3.o (by have:=V.o;rw [List.length_replicate];omega) ?_;intro w4 YT aF)
  have:=HF.o _ YT aF
  refine bodyPost_end (v:=.tuple #[]) ?_ rfl ⟨rfl,this.1,this.2⟩
  simp [results,Tryz.results197,go_sem]
end Go.Proofs.YthpammbgcidloaaGreat
