/-
  Of the document's side of layer 5: Find, Delete, Used, Create.
-/
import Derived.Test.YtmeaiocohalphaaGreatDoorFiRef5
set_option maxHeartbeats 8000000
set_option maxRecDepth 100000
namespace Go.Proofs.YtmeaiocohalphaaGreatDoor
open Go.RowKit
set_option linter.all false
variable {fs:List Fl}{B:Int}{s:az}
theorem xU{w:World}{base:Nat}{v:Value}{l:az}(h:jF w base v l):∃a c,v=.slice a l.length c:=by
 rcases h.2 with⟨rfl,b⟩|⟨g,cap,d,rfl,_⟩
 ·exact⟨none,0,by rw[b]⟩
 exact⟨_,_,rfl⟩
theorem UA(hb:eX B)(h:¬dR fs B):bf fs B=8:=by unfold bf;rw[if_neg (by simpa using hb),if_neg h]
theorem qC(a:aA)(n c:Nat)(fs:List Fl)(B:Int)(w:World)(P:fQ w (.slice a n c) fs)(hn:n=fs.length)(Y:gL fs):
  Calls Tryz.prog 117 #[.agg #[.slice a n c],.int .i64 B] w fun e w'=>e=.returned (.int .i64 (bf fs B))∧ah w w':=by
 have hm:n<=maxLen:=hn▸P.len_le;unfold maxLen at hm;have HR:=ag P;have T:=ag hn;have HW:=ag Y;obtain⟨W0,x⟩:=ak (w.alloc (.cells #[.slice a n c] 31));have Z:ah w W0:=by rw[x];exact ae
 have aa:=ag (show aX W0 w.heap.size (.slice a n c)by rw[x];exact aX.new w _);have C:=ag Z;have y:=qj3 B W0;clear P hn Y Z;by_cases U:eX B
 case neg=>
  have q:=ag (show bf fs B=2 by unfold bf;rw[if_pos U]);rw[Xd7 U]at y;clear U;go_enter Tryz.func117,Tryz.ntmps117;go_wp2_with fail
  rw[<-x];clear x;refine y.mono ?_
  rintro e w1⟨rfl,b1⟩;clear y;go_wp2;go_ret;exact⟨by rw[q.o];rfl,C.o.trans (b1.mono C.o.size)⟩
 rw[Xd8 U]at y;have V:=ag U;clear U;go_enter Tryz.func117,Tryz.ntmps117;go_wp2_with fail
 rw[<-x];clear x;refine y.mono ?_
 rintro e w1⟨rfl,b1⟩;clear y;have Q:=bT C b1;have D:=ag (aa.o.a b1);have d1:=D.o.cell;clear b1 C aa;by_cases g2:40<n
 ·have aj:(40:Int)<n:=by omega
  have q:=ag (show bf fs B=8 from UA V.o (fun h=>by have:=h.1;have:=T.o;omega));go_wp2;go_ret;exact⟨by rw[q.o];rfl,Q.o⟩
 have aj:decide ((40:Int)<n)=false:=aC (by omega);go_wp2;go_loopw [5] (fun i wr=>∃k:Nat,k<=n∧i=.int .i64 k∧af (qx (fs.take k))∧ah w1 wr) (fun i _=>n-(intOf i).toNat)
 case atStart=>exact⟨0,Xd5 _,rfl,ag (by simpa using qra),aF⟩
 obtain⟨k,hk,rfl,jG,t⟩:=hrel;have z:ah w wr:=Q.o.trans (t.mono Q.o.size);have K9:=(D.o.a t).cell;clear d1;by_cases ax:k<n
 ·have av:(k:Int)<n:=by omega
  have E:k<fs.length:=by have:=T.o;omega
  have ay:wrap64 ((k:Int)+1)=(k:Int)+1:=wQ (by omega);have G:=ag (fun h1 h2=>R7 E jG.o h1 h2);have W:=ag (fun (h:jv fs[k]=false)=>UA V.o (fun h':dR fs B=>ZP E h h'.2.1));obtain⟨b,al,a2,c2,rfl,q0,q1,q2⟩:=HR.o.atB z k E;clear q2;obtain⟨w2,d⟩:=ak (wr.alloc (.cells #[.string (bs (fs[k]).1),.slice a2 (fs[k]).2.length c2] 98));have ab:ah wr w2:=by rw[d];exact ae
  have A:aP w2 wr.heap.size (bs (fs[k]).1) (.slice a2 (fs[k]).2.length c2):=by rw[d];exact aP.new wr _ _
  have aS:ah w1 w2:=t.trans (ab.mono t.size);have g:ah w w2:=z.trans (ab.mono z.size);have FL:=(D.o.a aS).cell;have r0:=A.cell0;have r1:=A.cell1;have R:=ag (show ∀j,(hj:j+1=k)->∃s,w2.cell? ⟨b,al+j*2,none⟩=some (.string (bs s))∧s=(fs[j]).1 from fun j hj=>by
   obtain⟨b',aw,a',c',e',z0, -⟩:=HR.o.atB g j (by omega);cases e';exact⟨_,z0,rfl⟩)
  have H:=ag (show ∀j,(hj:j+1=k)->eu (fs[j]).1 (fs[k]).1=false->bf fs B=8 from fun j hj h=>by
   subst hj;exact UA V.o (fun h':dR fs B=>qna E h h'.2.1))
  obtain⟨F,u⟩:=ak wr.heap.size;rw[<-u]at r0 r1;obtain⟨f,hf⟩:=ak (fs[k]);rw[<-hf]at q0 q1 r0 r1 G W H d;clear hf A;obtain⟨s,l⟩:=f;simp only at q0 q1 r0 r1 G H d
  obtain⟨p,hp⟩:=ak l.length;rw[<-hp]at q1 r1 d;have HO:=ag (show jv (s,l)=(gT s && decide (1<=p) && decide (p<=64))by unfold jv;rw[hp]);clear hp;cases hnm:gT s with
  |false=>
   have q:=ag (W.o (by rw[HO.o,hnm];simp));have r:∀I,Calls Tryz.prog 188 #[.string (bs s)] I fun e w'=>e=.returned (.bool false)∧w'=I:=fun I=>by have:=qoh s I;rw[hnm]at this;exact this
   clear hnm G W R H;go_wp2;rw[<-d];try rw[<-u]
   clear d u;go_quiet (exact Calls.quiet_of_same (r _))
   go_wp2;go_ret;exact⟨by rw[q.o];rfl,below_drewN g _⟩
  |true=>
   have r:∀I,Calls Tryz.prog 188 #[.string (bs s)] I fun e w'=>e=.returned (.bool true)∧w'=I:=fun I=>by have:=qoh s I;rw[hnm]at this;exact this
   by_cases v:p<1∨64<p
   ·have M:jv (s,l)=false:=by
     rw[HO.o];have:¬(1<=p∧p<=64):=by omega
     simp
     intro _ h;omega
    have q:=ag (W.o M);clear M;clear hnm G W;by_cases S:k=0
    ·subst S
     simp only[Nat.zero_mul,Nat.add_zero]at q0 q1;clear R H;rcases v with v|v
     ·have J:(p:Int)<1:=by omega
      go_wp2;rw[<-d];rw[<-u];clear d u;go_quiet (exact Calls.quiet_of_same (r _))
      go_wp2;go_ret;exact⟨by rw[q.o];rfl,below_drewN g _⟩
     have J:decide ((p:Int)<1)=false:=aC (by omega);have K:(64:Int)<p:=by omega
     go_wp2;rw[<-d];rw[<-u];clear d u;go_quiet (exact Calls.quiet_of_same (r _))
     go_wp2;go_ret;exact⟨by rw[q.o];rfl,below_drewN g _⟩
    obtain⟨j,rfl⟩:∃j,k=j+1:=⟨k-1,by omega⟩
    obtain⟨sp,am, -⟩:=R.o j rfl;clear R H;have an:(0:Int)<((j+1:Nat):Int):=by omega
    have N:IntKind.i64.wrap (((j+1:Nat):Int)-1)=(j:Int):=by rw[IntKind.wrap_i64];omega
    have ao:((j:Int)+1-1)=j:=by omega
    have ap:(j:Int)<n:=by omega
    have L:=Qr sp s;obtain⟨lt,O⟩:=ak (eu sp s);rw[<-O]at L;clear O;cases lt with
    |false=>
     go_wp2;rw[<-d];rw[<-u];clear d u;go_quiet (exact Calls.quiet_of_same (r _))
     go_wp2;go_ret;exact⟨by rw[q.o];rfl,below_drewN g _⟩
    |true=>
     rcases v with v|v
     ·have J:(p:Int)<1:=by omega
      go_wp2;rw[<-d];rw[<-u];clear d u;go_quiet (exact Calls.quiet_of_same (r _))
      go_wp2;go_ret;exact⟨by rw[q.o];rfl,below_drewN g _⟩
     have J:decide ((p:Int)<1)=false:=aC (by omega);have K:(64:Int)<p:=by omega
     go_wp2;rw[<-d];rw[<-u];clear d u;go_quiet (exact Calls.quiet_of_same (r _))
     go_wp2;go_ret;exact⟨by rw[q.o];rfl,below_drewN g _⟩
   have ac:=ag (show jv (s,l)=true by rw[HO.o,hnm];simp;omega);have J:decide ((p:Int)<1)=false:=aC (by omega);have K:decide ((64:Int)<p)=false:=aC (by omega);clear hnm W v;by_cases S:k=0
   ·subst S
    simp only[Nat.zero_mul,Nat.add_zero]at q0 q1;have q:=ag (G.o ac.o (fun j hj=>by omega));clear R H G;go_wp2;rw[<-d];rw[<-u];clear d u;go_quiet (exact Calls.quiet_of_same (r _))
    go_wp2;go_roundw
    case rel=>exact⟨0+1,by omega,rfl,q,below_drewN aS _⟩
    simp only[intOf];omega
   obtain⟨j,rfl⟩:∃j,k=j+1:=⟨k-1,by omega⟩
   obtain⟨sp,am,UB⟩:=R.o j rfl;have QB:=ag UB;clear R UB;have an:(0:Int)<((j+1:Nat):Int):=by omega
   have N:IntKind.i64.wrap (((j+1:Nat):Int)-1)=(j:Int):=by rw[IntKind.wrap_i64];omega
   have ao:((j:Int)+1-1)=j:=by omega
   have ap:(j:Int)<n:=by omega
   have L:=Qr sp s;cases hlq:eu sp s with
   |false=>
    rw[hlq]at L;have q:=ag (H.o j rfl (by rw[<-QB.o];exact hlq));clear H G QB hlq;go_wp2;rw[<-d];rw[<-u];clear d u;go_quiet (exact Calls.quiet_of_same (r _))
    go_wp2;go_ret;exact⟨by rw[q.o];rfl,below_drewN g _⟩
   |true=>
    rw[hlq]at L;have q:=ag (G.o ac.o (fun i hi=>by
     obtain rfl:i=j:=by omega
     rw[<-QB.o];exact hlq))
    clear H G QB hlq;go_wp2;rw[<-d];rw[<-u];clear d u;go_quiet (exact Calls.quiet_of_same (r _))
    go_wp2;go_roundw
    case rel=>exact⟨j+1+1,by omega,rfl,q,below_drewN aS _⟩
    simp only[intOf];omega
 have hd:decide ((k:Int)<n)=false:=aC (by omega);have e:k=fs.length:=by have:=T.o;omega
 rw[e,Xb5]at jG;clear e;have sS:=ag (show fs.length<=40 by have:=T.o;omega);have FJ:=ag (KQ jG.o sS.o);have QC:=ag (D.o.a t);have uI:=ag z;clear t z;go_wp2_with fail
 refine(ql7 a n c fs wr (HR.o.a uI.o) T.o (by omega) (by have:=FJ.o;omega)).mono ?_
 rintro e w3⟨v3,rfl,o3,b3⟩;have ad:=bT uI b3;have ai:=ag (QC.o.a b3);have d3:=ai.o.cell;clear b3 K9;obtain⟨m,qV⟩:=ak ((cz fs).length);obtain⟨a3,c3,aq⟩:∃a c,v3=.slice a m c:=by rw[qV];exact o3.form
 subst aq;have N:=ql8 a3 m c3 (cz fs) B w3 o3.rd qV (TB HW.o);clear qV o3;by_cases v:dK (cz fs) B
 ·rw[Xd8 v]at N
  have HX:=ag v;clear v;go_wp2_with fail
  refine N.mono ?_
  rintro e w4⟨rfl,X⟩;have fG:=bT ad X;have d4:=(ai.o.a X).cell;clear X d3 N;go_wp2_with fail
  refine(xW a n c fs w4 (HR.o.a fG.o) T.o (Hq sS.o jG.o HX.o)).mono ?_
  rintro e w5⟨v5,rfl,o5,b5⟩;have fK:=bT fG b5;clear b5 d4;obtain⟨m5,wW⟩:=ak ((dJ fs).length);obtain⟨a5,c5,ar⟩:∃a c,v5=.slice a m5 c:=by rw[wW];exact xU o5
  subst ar;clear o5;by_cases g4:2048<m5
  ·have q:=ag (show bf fs B=8 from UA V.o (fun h=>by have:=h.2.2.2;omega))
   have K:(2048:Int)<m5:=by omega
   clear wW;go_wp2;go_ret;exact⟨by rw[q.o];rfl,fK.o⟩
  have q:=ag (show bf fs B=0 from ZX V.o ⟨sS.o,jG.o,HX.o,by omega⟩);have K:decide ((2048:Int)<m5)=false:=aC (by omega);clear wW;go_wp2;go_ret;exact⟨by rw[q.o];rfl,fK.o⟩
 rw[Xd7 v]at N
 have q:=ag (show bf fs B=8 from UA V.o (fun h=>v h.2.2.1));clear v;go_wp2_with fail
 refine N.mono ?_
 rintro e w4⟨rfl,X⟩;have fG:=bT ad X;clear X d3 N;go_wp2;go_ret;exact⟨by rw[q.o];rfl,fG.o⟩
def fZ (fs:List Fl) (s:az) (B:Int):Int:=if bf fs B≠0 then bf fs B else if gT s=false then 50 else 0
theorem qjk(a:aA)(n c:Nat)(fs:List Fl)(s:az)(B:Int)(w:World)(l:fQ w (.slice a n c) fs)(r:n=fs.length)(m:gL fs):
  Calls Tryz.prog 193 #[.agg #[.slice a n c],.string (bs s),.int .i64 B] w fun e w'=>e=.returned (.int .i64 (fZ fs s B))∧ah w w':=by
 obtain⟨t,f⟩:=ak (w.alloc (.cells #[.slice a n c] 31));have h:ah w t:=by rw[f];exact ae
 have i:=ag h;have b:=qC a n c fs B t (l.a h) r m;clear l r m h;by_cases j:bf fs B=0
 case neg=>
  have k:=ag (show fZ fs s B=bf fs B by unfold fZ;rw[if_pos j]);obtain⟨z,u⟩:=ak (bf fs B);rw[<-u]at b j k;have y:(z==0)=false:=Xe2 j
  clear u;go_enter Tryz.func193,Tryz.ntmps193;go_wp2_with fail
  rw[<-f];clear f;refine b.mono ?_
  rintro e v⟨rfl,p⟩;clear b;go_wp2;go_ret;exact⟨by rw[k.o];rfl,i.o.trans (p.mono i.o.size)⟩
 rw[j]at b;have x:=ag j;clear j;go_enter Tryz.func193,Tryz.ntmps193;go_wp2_with fail
 rw[<-f];clear f;refine b.mono ?_
 rintro e v⟨rfl,p⟩;have g:=bT i p;clear b p;have d:=qsm s v;cases hq:gT s with
 |false=>
  have k:=ag (show fZ fs s B=50 by unfold fZ;rw[if_neg (by simp[x.o]),if_pos hq]);rw[hq]at d;clear hq;go_wp2_with fail
  refine d.mono ?_
  rintro e A⟨rfl,q⟩;clear d;go_wp2;go_ret;exact⟨by rw[k.o];rfl,g.o.trans (q.mono g.o.size)⟩
 |true=>
  have k:=ag (show fZ fs s B=0 by unfold fZ;rw[if_neg (by simp[x.o]),if_neg (by simp[hq])]);rw[hq]at d;clear hq;go_wp2_with fail
  refine d.mono ?_
  rintro e A⟨rfl,q⟩;clear d;go_wp2;go_ret;exact⟨by rw[k.o];rfl,g.o.trans (q.mono g.o.size)⟩
theorem AJ(h:fZ fs s B=0):bf fs B=0∧gT s=true:=by
 unfold fZ at h;by_cases a:bf fs B=0
 ·rw[if_neg (by simpa using a)]at h
  cases h2:gT s with
  |false=>rw[if_pos h2]at h;omega
  |true=>exact⟨a,rfl⟩
 rw[if_pos a]at h;exact absurd h a
theorem qsp(h:fZ fs s 4096≠0):iq fs s=fZ fs s 4096:=by
 unfold iq fZ at *;by_cases a:bf fs 4096=0
 ·by_cases b:gT s=false
  ·simp[a,b]
  simp[a,b]at h
 simp[a]
theorem qza{l:List Ex}(h:fZ fs s B≠0):iG fs s l B=fZ fs s B:=by
 unfold iG fZ at *;by_cases a:bf fs B=0
 ·by_cases b:gT s=false
  ·simp[a,b]
  simp[a,b]at h
 simp[a]
theorem qagi(h:fZ fs s 4096=0)(a:iF fs s=true):iq fs s=0:=(qk7 (AJ h).1 (AJ h).2 a).1
theorem Ng(h:fZ fs s 4096=0)(a:iF fs s=false):iq fs s=6:=qnb (AJ h).1 (AJ h).2 a
theorem UC(h:dR fs B):∀f∈fs,f.2.length<=1000000:=fun f a=>by have:=JY (h.2.1.1 f a);omega
theorem qsq(a:aA)(n c:Nat)(fs:List Fl)(s:az)(w:World)(E:fQ w (.slice a n c) fs)(hn:n=fs.length)(F:gL fs):
  Calls Tryz.prog 121 #[.agg #[.slice a n c],.string (bs s)] w fun e w'=>∃v,e=.returned (.tuple #[.agg #[.string (bs (og fs s).1),v],.int .i64 (iq fs s)])∧bA w' w.heap.size v (og fs s).2∧ah w w':=by
 obtain⟨L,f⟩:∃L,L=(w.alloc (.cells #[.slice a n c] 31)).alloc (.cells #[.string {data:=#[]},.slice none 0 0] 98):=⟨_,rfl⟩
 have G:ah w L:=by rw[f];exact(ae).alloc (by simp) _
 have Y:=ag (show aX L w.heap.size (.slice a n c)by rw[f];exact(aX.new w _).a (ae));have Z:=ag (show aP L (w.heap.size+1) {data:=#[]} (.slice none 0 0)by rw[f];have:=aP.new (w.alloc (.cells #[.slice a n c] 31)) {data:=#[]} (.slice none 0 0);simpa using this);have dh:=ag G;have HR:=ag E;have HN:=ag hn;have HW:=ag F;have M:=qjk a n c fs s 4096 L (E.a G) hn F;clear E hn F G;by_cases i:fZ fs s 4096=0
 case neg=>
  have j:=ag (show og fs s=([],[])by unfold og;rw[if_neg (by rw[qsp i];exact i)]);have y:=ag (qsp i);obtain⟨z,hz⟩:=ak (fZ fs s 4096);rw[<-hz]at M i y;have ac:(z==0)=false:=Xe2 i
  clear hz;go_enter Tryz.func121,Tryz.ntmps121;go_wp2_with fail
  rw[<-f];clear f;refine(M).mono ?_
  rintro e h⟨rfl,d⟩;have nR:=ag (Y.o.a d);have A:=ag (Z.o.a d);have N:=bT dh d;clear Y Z dh d;clear M;have e0:=A.o.cell0;have e1:=A.o.cell1;have Q:=frozen_of_row h (w.heap.size+1) 0 _ _ A.o;have R:=frozen_of_row h (w.heap.size+1) 1 _ _ A.o;have p:=zu (w:=h) (q:=w.heap.size+1) (.string {data:=#[]}) (.slice none 0 0);have g:aP ((h.setCell ⟨w.heap.size+1,0,none⟩ (.string {data:=#[]})).setCell ⟨w.heap.size+1,1,none⟩ (.slice none 0 0)) (w.heap.size+1) {data:=#[]} (.slice none 0 0):=by
   have a1:=heap_setCell_same h (w.heap.size+1) 0 _ 98 (.string {data:=#[]}) A.o;have a2:=heap_setCell_same (h.setCell ⟨w.heap.size+1,0,none⟩ (.string {data:=#[]})) (w.heap.size+1) 1 _ 98 (.slice none 0 0) a1;unfold aP;rw[a2];rfl
  have B:=ag (show bA ((h.setCell ⟨w.heap.size+1,0,none⟩ (.string {data:=#[]})).setCell ⟨w.heap.size+1,1,none⟩ (.slice none 0 0)) w.heap.size (.slice none 0 0) _ from bA.nil _ _);have C:=ag (N.o.grown p N.o.size (by intro k S;cases S;omega));have T:=g.cell0;have U:=g.cell1;clear p g;go_wp2;obtain⟨O,D⟩:∃O,O=(h.setCell ⟨w.heap.size+1,0,none⟩ (.string {data:=#[]})).setCell ⟨w.heap.size+1,1,none⟩ (.slice none 0 0):=⟨_,rfl⟩;rw[<-D]at T U B C⊢
  try simp only[Exit.inBlock,Exit.then]
  refine bodyPost_ret (v:=.tuple #[.agg #[.string {data:=#[]},.slice none 0 0],.int .i64 z]) ?_ rfl ⟨.slice none 0 0,by rw[y.o,j.o];rfl,by rw[j.o];exact B.o,C.o⟩
  clear D e0 e1 Q R;simp[results,Tryz.results121,go_sem, *]
 rw[i]at M;have HK:=ag (Eh (AJ i).1).2;have HG:=ag i;clear i;go_enter Tryz.func121,Tryz.ntmps121;go_wp2_with fail
 rw[<-f];clear f;refine(M).mono ?_
 rintro e h⟨rfl,d⟩;have nR:=ag (Y.o.a d);have A:=ag (Z.o.a d);have N:=bT dh d;clear Y Z dh d;clear M;have r0:=nR.o.cell;have Ic:=ql6 a n c fs s h (HR.o.a N.o) HN.o (by have:=HK.o.1;have:=HN.o;omega);go_wp2_with fail
 refine(Ic).mono ?_
 rintro e r⟨aa,u⟩;clear r0;have pK:=ag (nR.o.a u);have H:=ag (A.o.a u);have I:=bT N u;clear nR A N u;clear Ic;rcases aa with⟨rfl,V⟩|⟨t,ht,rfl,J,l9⟩
 ·have y:=ag (Ng HG.o V)
  have j:=ag (show og fs s=([],[])by unfold og;rw[if_neg (by rw[y.o];omega)]);clear V;have e0:=H.o.cell0;have e1:=H.o.cell1;have Q:=frozen_of_row r (w.heap.size+1) 0 _ _ H.o;have R:=frozen_of_row r (w.heap.size+1) 1 _ _ H.o;have p:=zu (w:=r) (q:=w.heap.size+1) (.string {data:=#[]}) (.slice none 0 0);have g:aP ((r.setCell ⟨w.heap.size+1,0,none⟩ (.string {data:=#[]})).setCell ⟨w.heap.size+1,1,none⟩ (.slice none 0 0)) (w.heap.size+1) {data:=#[]} (.slice none 0 0):=by
   have a1:=heap_setCell_same r (w.heap.size+1) 0 _ 98 (.string {data:=#[]}) H.o;have a2:=heap_setCell_same (r.setCell ⟨w.heap.size+1,0,none⟩ (.string {data:=#[]})) (w.heap.size+1) 1 _ 98 (.slice none 0 0) a1;unfold aP;rw[a2];rfl
  have B:=ag (show bA ((r.setCell ⟨w.heap.size+1,0,none⟩ (.string {data:=#[]})).setCell ⟨w.heap.size+1,1,none⟩ (.slice none 0 0)) w.heap.size (.slice none 0 0) _ from bA.nil _ _);have C:=ag (I.o.grown p I.o.size (by intro k S;cases S;omega));have T:=g.cell0;have U:=g.cell1;clear p g;go_wp2;obtain⟨O,D⟩:∃O,O=(r.setCell ⟨w.heap.size+1,0,none⟩ (.string {data:=#[]})).setCell ⟨w.heap.size+1,1,none⟩ (.slice none 0 0):=⟨_,rfl⟩;rw[<-D]at T U B C⊢
  try simp only[Exit.inBlock,Exit.then]
  refine bodyPost_ret (v:=.tuple #[.agg #[.string {data:=#[]},.slice none 0 0],.int .i64 6]) ?_ rfl ⟨.slice none 0 0,by rw[y.o,j.o];rfl,by rw[j.o];exact B.o,C.o⟩
  clear D e0 e1 Q R;simp[results,Tryz.results121,go_sem, *]
 have y:=ag (qagi HG.o l9);have j:=ag (show og fs s=(s,(fs[t]).2)by unfold og;rw[if_pos y.o,ZT HK.o.2.1.2 ht J]);have Bt:=ag (UC HK.o _ (Xa3 ht));have ad:(t:Int)<n:=by have:=HN.o;omega
 have ai:decide ((t:Int)<0)=false:=Xd7 (by omega);have ab:t<n:=by omega
 obtain⟨b,aj,a2,c2,rfl,q0,q1,q2⟩:=HR.o.atB I.o t ht;rw[J]at q0;have HQ:=ag q2;obtain⟨l,hl⟩:=ak ((fs[t]).2);rw[<-hl]at q1 HQ j Bt;obtain⟨m,hm⟩:=ak l.length;rw[<-hm]at q1 HQ;have HM:=ag hm;clear hm hl q2 J l9;have r0:=pK.o.cell;have kv:=ag I.o.size;go_wp2_with fail
 refine(qgb s a2 m c2 l r (HQ.o.a I.o) HM.o Bt.o).mono ?_
 rintro e x⟨a3,c3,rfl,W,K⟩;clear r0;have P:=ag (H.o.a K);have df:=bT I K;clear pK H I K;have X:=ag (show bA x w.heap.size (.slice a3 m c3) l from W.mono kv.o);clear W q0 q1;have e0:=P.o.cell0;have e1:=P.o.cell1;have Q:=frozen_of_row x (w.heap.size+1) 0 _ _ P.o;have R:=frozen_of_row x (w.heap.size+1) 1 _ _ P.o;have p:=zu (w:=x) (q:=w.heap.size+1) (.string (bs s)) (.slice a3 m c3);have g:aP ((x.setCell ⟨w.heap.size+1,0,none⟩ (.string (bs s))).setCell ⟨w.heap.size+1,1,none⟩ (.slice a3 m c3)) (w.heap.size+1) (bs s) (.slice a3 m c3):=by
  have a1:=heap_setCell_same x (w.heap.size+1) 0 _ 98 (.string (bs s)) P.o;have a2:=heap_setCell_same (x.setCell ⟨w.heap.size+1,0,none⟩ (.string (bs s))) (w.heap.size+1) 1 _ 98 (.slice a3 m c3) a1;unfold aP;rw[a2];rfl
 have B:=ag (show bA ((x.setCell ⟨w.heap.size+1,0,none⟩ (.string (bs s))).setCell ⟨w.heap.size+1,1,none⟩ (.slice a3 m c3)) w.heap.size (.slice a3 m c3) _ from World.ownsRow.kept X.o p (.inr (bA.apartF X.o P.o)));have C:=ag (df.o.grown p df.o.size (by intro k S;cases S;omega));have T:=g.cell0;have U:=g.cell1;clear p g;go_wp2;obtain⟨O,D⟩:=ak ((x.setCell ⟨w.heap.size+1,0,none⟩ (.string (bs s))).setCell ⟨w.heap.size+1,1,none⟩ (.slice a3 m c3));rw[<-D]at T U B C⊢;try simp only[Exit.inBlock,Exit.then]
 refine bodyPost_ret (v:=.tuple #[.agg #[.string (bs s),.slice a3 m c3],.int .i64 0]) ?_ rfl ⟨.slice a3 m c3,by rw[y.o,j.o],by rw[j.o];exact B.o,C.o⟩
 clear D e0 e1 Q R;simp[results,Tryz.results121,go_sem, *]
theorem qsr(a:aA)(n c:Nat)(fs:List Fl)(w:World)(h:fQ w (.slice a n c) fs)(r:n=fs.length)(i:gL fs):
  Calls Tryz.prog 196 #[.agg #[.slice a n c]] w fun e w'=>∃v,e=.returned (.tuple #[v,.int .i64 (bf fs 4096)])∧bA w' w.heap.size v (nE fs)∧ah w w':=by
 obtain⟨s,d⟩:=ak (w.alloc (.cells #[.slice a n c] 31));have j:ah w s:=by rw[d];exact ae
 have p:=ag (show aX s w.heap.size (.slice a n c)by rw[d];exact aX.new w _);have q:=ag j;have E:=ag h;have C:=ag r;have J:=ag i;have f:=qC a n c fs 4096 s (h.a j) r i;clear h r i j;by_cases g:bf fs 4096=0
 case neg=>
  have t:=ag (show nE fs=[]by unfold nE;rw[if_neg g]);obtain⟨z,u⟩:=ak (bf fs 4096);rw[<-u]at f g;have x:=ag u;have F:(z==0)=false:=Xe2 g
  clear u;go_enter Tryz.func196,Tryz.ntmps196;go_wp2_with fail
  rw[<-d];clear d;refine(f).mono ?_
  rintro e D⟨rfl,b⟩;have y:=ag (p.o.a b);have k:=bT q b;clear p q b;clear f;go_wp2;all_goals (go_ret2;exact⟨.slice none 0 0,by rw[<-x.o];rfl,by rw[t.o];exact bA.nil _ _,k.o⟩)
 have A:=ag (Eh g).2;have t:=ag (show nE fs=cz fs by unfold nE;rw[if_pos g]);have x:=ag g;rw[g]at f;clear g;go_enter Tryz.func196,Tryz.ntmps196;go_wp2_with fail
 rw[<-d];clear d;refine(f).mono ?_
 rintro e D⟨rfl,b⟩;have y:=ag (p.o.a b);have k:=bT q b;clear p q b;clear f;have G:=ag k.o.size;have H:=y.o.cell;go_wp2_with fail
 refine(ql7 a n c fs D (E.o.a k.o) C.o (by have:=A.o.1;have:=C.o;omega) (by have:=KQ A.o.2.1 A.o.1;omega)).mono ?_
 rintro e K⟨L,rfl,l,m⟩;clear H;have I:=bT k m;clear y k m;have B:=ag (l.mono G.o);clear l;go_wp2;go_ret2;exact⟨_,by rw[x.o];rfl,by rw[t.o];exact B.o,I.o⟩
theorem qu0(a:aA)(n c:Nat)(fs:List Fl)(s:az)(al:aA)(m cl:Nat)(l:List Ex)(B:Int)(w:World)(Z:fQ w (.slice a n c) fs)(N:n=fs.length)(aa:gL fs)(an:iB w (.slice al m cl) l)(hm:m=l.length)(wO:l.length<=100000)(ao:∀x∈l,jg x):
  Calls Tryz.prog 124 #[.agg #[.slice a n c],.string (bs s),.slice al m cl,.int .i64 B] w fun e w'=>∃v,e=.returned (.tuple #[.agg #[v],.int .i64 (iG fs s l B)])∧bi w' w.heap.size v (lW fs s l B)∧ah w w':=by
 obtain⟨W0,G⟩:=ak ((w.alloc (.cells #[.slice a n c] 31)).alloc (.cells #[.slice none 0 0] 31));have ab:ah w W0:=by rw[G];exact(ae).alloc (by simp) _
 have gm:=ag (show aX W0 w.heap.size (.slice a n c)by rw[G];exact(aX.new w _).a (ae));have dm:=ag (show bZ W0 (w.heap.size+1)by rw[G];have:=bZ.new (w.alloc (.cells #[.slice a n c] 31)) (.slice none 0 0);simpa using this);have dh:=ag ab;have HR:=ag Z;have HN:=ag N;have HW:=ag aa;have jH:=qjk a n c fs s B W0 (Z.a ab) N aa;have rQ:=ag an;have HM:=ag hm;have Et:=ag wO;have aD:=ag ao;have a1:m<=100000:=by omega
 clear an hm wO ao;clear Z N aa ab;by_cases R:fZ fs s B=0
 case neg=>
  have j:=ag (qza (l:=l) R);have H:=ag (show lW fs s l B=[]by unfold lW;rw[if_neg (by rw[j.o];exact R)]);obtain⟨z,hz⟩:=ak (fZ fs s B);rw[<-hz]at jH R j;have a2:(z==0)=false:=Xe2 R
  clear hz;go_enter Tryz.func124,Tryz.ntmps124;go_wp2_with fail
  rw[<-G];clear G;refine(jH).mono ?_
  rintro e w1⟨rfl,D⟩;have nR:=ag (gm.o.a D);have gW:=ag (dm.o.a D);have bg:=bT dh D;clear gm dm dh D;clear jH;have A:=gW.o.cell;have C:=gW.o.fz;obtain⟨E,b, -⟩:=gW.o.put (.slice none 0 0);obtain⟨y,u⟩:=gW.o;have d:=ag (show bi (w1.setCell ⟨w.heap.size+1,0,none⟩ (.slice none 0 0)) w.heap.size (.slice none 0 0) _ from bi.nil _ _);have g:=ag (bg.o.grown b bg.o.size (by intro k F;cases F;omega));clear u b;go_wp2;obtain⟨S,i⟩:=ak (w1.setCell ⟨w.heap.size+1,0,none⟩ (.slice none 0 0));rw[<-i]at E d g⊢;try simp only[Exit.inBlock,Exit.then]
  refine bodyPost_ret (v:=.tuple #[.agg #[.slice none 0 0],.int .i64 z]) ?_ rfl ⟨.slice none 0 0,by rw[j.o],by rw[H.o];exact d.o,g.o⟩
  clear i A C;simp[results,Tryz.results124,go_sem, *]
 rw[R]at jH;have O:=ag (Eh (AJ R).1).2;have HG:=ag (AJ R);clear R;go_enter Tryz.func124,Tryz.ntmps124;go_wp2_with fail
 rw[<-G];clear G;refine(jH).mono ?_
 rintro e w1⟨rfl,D⟩;have nR:=ag (gm.o.a D);have gW:=ag (dm.o.a D);have bg:=bT dh D;clear gm dm dh D;clear jH;have T:=nR.o.cell;have Ic:=ql6 a n c fs s w1 (HR.o.a bg.o) HN.o (by have:=O.o.1;have:=HN.o;omega);go_wp2_with fail
 refine(Ic).mono ?_
 rintro e w2⟨aE,P⟩;clear T;have pK:=ag (nR.o.a P);have l8:=ag (gW.o.a P);have aY:=bT bg P;clear nR gW bg P;clear Ic;rcases aE with⟨rfl,ap⟩|⟨t,ht,rfl,aH,l9⟩
 rotate_left
 ·have j:=ag (show iG fs s l B=51 by unfold iG;rw[if_neg (by simp[HG.o.1]),if_neg (by simp[HG.o.2]),if_pos l9])
  have H:=ag (show lW fs s l B=[]by unfold lW;rw[if_neg (by rw[j.o];omega)]);have a3:(0:Int)<=t:=by omega
  clear aH l9;have A:=l8.o.cell;have C:=l8.o.fz;obtain⟨E,b, -⟩:=l8.o.put (.slice none 0 0);obtain⟨y,u⟩:=l8.o;have d:=ag (show bi (w2.setCell ⟨w.heap.size+1,0,none⟩ (.slice none 0 0)) w.heap.size (.slice none 0 0) _ from bi.nil _ _);have g:=ag (aY.o.grown b aY.o.size (by intro k F;cases F;omega));clear u b;go_wp2;obtain⟨S,i⟩:=ak (w2.setCell ⟨w.heap.size+1,0,none⟩ (.slice none 0 0));rw[<-i]at E d g⊢;try simp only[Exit.inBlock,Exit.then]
  refine bodyPost_ret (v:=.tuple #[.agg #[.slice none 0 0],.int .i64 51]) ?_ rfl ⟨.slice none 0 0,by rw[j.o],by rw[H.o];exact d.o,g.o⟩
  clear i A C;simp[results,Tryz.results124,go_sem, *]
 have H6:=ag ap;clear ap;have wP:=ag (show iG fs s l B=if l=[]∨¬dK (cz fs++l) B then 8 else if fs.length=40∨64<l.length then 40 else ib (bY fs (s,l))by unfold iG;rw[if_neg (by simp[HG.o.1]),if_neg (by simp[HG.o.2]),if_neg (by simp[H6.o])]);have FJ:=ag (KQ O.o.2.1 O.o.1);have T:=pK.o.cell;go_wp2_with fail
 refine(ql7 a n c fs w2 (HR.o.a aY.o) HN.o (by have:=O.o.1;have:=HN.o;omega) (by have:=FJ.o;omega)).mono ?_
 rintro e w3⟨v3,rfl,ac,K⟩;clear T;have wY:=ag (pK.o.a K);have wX:=ag (l8.o.a K);have df:=bT aY K;have zD:=ag K.size;have ky:=ag aY.o.size;have Eo:=ag (Xd6.1 pK.o).1;have aJ:=ag (show w.heap.size+1<w2.heap.size by obtain⟨y,u⟩:=l8.o;exact(Xd6.1 u).1);clear pK l8 aY K;obtain⟨g9,c9,x9,r,bK,bI⟩:=Hm (base:=w2.heap.size) ac zD.o (rQ.o.a df.o) HM.o (by have:=FJ.o;have:=Et.o;omega);have eH:ah w x9:=df.o.trans (bI.mono ky.o);have Cn:=ag (show aX x9 w.heap.size (.slice a n c)from(bI.block _ Eo.o).trans wY.o);have Co:=ag (show bZ x9 (w.heap.size+1)by obtain⟨y,u⟩:=wX.o;exact⟨y,(bI.block _ aJ.o).trans u⟩);have Cq:=ag eH;have iU:=ag bK;clear wY wX df bI eH bK;obtain⟨av,cv,pY⟩:=ac.form;subst pY;clear ac;obtain⟨U,hU⟩:=ak ((cz fs).length);rw[<-hU]at r⊢;clear hU;obtain⟨q,hq⟩:=ak ((cz fs++l).length);rw[<-hq]at r iU;have HQ:=ag hq;clear hq;obtain⟨w8,aq⟩:=ak x9;rw[<-aq]at r Cn Co Cq iU;clear aq;have FN:=Cn;have V:=Co;have wZ:=Cq;clear Cn Co Cq;by_cases g2:m<1
 ·have aK:(m:Int)<1:=by omega
  have j:=ag (show iG fs s l B=8 by rw[wP.o,if_pos (.inl (by have:=HM.o;exact List.eq_nil_of_length_eq_zero (by omega)))]);have H:=ag (show lW fs s l B=[]by unfold lW;rw[if_neg (by rw[j.o];omega)]);have A:=V.o.cell;have C:=V.o.fz;obtain⟨E,b, -⟩:=V.o.put (.slice none 0 0);obtain⟨y,u⟩:=V.o;have d:=ag (show bi (w8.setCell ⟨w.heap.size+1,0,none⟩ (.slice none 0 0)) w.heap.size (.slice none 0 0) _ from bi.nil _ _);have g:=ag (wZ.o.grown b wZ.o.size (by intro k F;cases F;omega));clear u b;go_wp2_with (at_builtin;refine kS rfl (.tmp 27) (.tmp 28) 96 rfl rfl rfl rfl r ?_)
  obtain⟨S,i⟩:=ak (w8.setCell ⟨w.heap.size+1,0,none⟩ (.slice none 0 0));rw[<-i]at E d g⊢;try simp only[Exit.inBlock,Exit.then]
  refine bodyPost_ret (v:=.tuple #[.agg #[.slice none 0 0],.int .i64 8]) ?_ rfl ⟨.slice none 0 0,by rw[j.o],by rw[H.o];exact d.o,g.o⟩
  clear i A C;simp[results,Tryz.results124,go_sem, *]
 have aK:decide ((m:Int)<1)=false:=aC (by omega);have sS:=ag (show l≠[]from fun e=>by have:=HM.o;rw[e]at this;simp at this;omega);have tH:=ql8 g9 q c9 (cz fs++l) B w8 iU.o.rd HQ.o (fun x hx=>(Xa5.1 hx).elim (TB HW.o x) (aD.o x));by_cases g3:dK (cz fs++l) B
 rotate_left
 ·rw[Xd7 g3]at tH
  have j:=ag (show iG fs s l B=8 by rw[wP.o,if_pos (.inr g3)]);have H:=ag (show lW fs s l B=[]by unfold lW;rw[if_neg (by rw[j.o];omega)]);clear g3;go_wp2_with (first|(at_builtin;refine kS rfl (.tmp 27) (.tmp 28) 96 rfl rfl rfl rfl r ?_)|fail)
  refine tH.mono ?_
  rintro e tJ⟨rfl,Q⟩;have Lh:=ag (FN.o.a Q);have Ll:=ag (V.o.a Q);have W:=bT wZ Q;clear FN V wZ Q;clear tH;have A:=Ll.o.cell;have C:=Ll.o.fz;obtain⟨E,b, -⟩:=Ll.o.put (.slice none 0 0);obtain⟨y,u⟩:=Ll.o;have d:=ag (show bi (tJ.setCell ⟨w.heap.size+1,0,none⟩ (.slice none 0 0)) w.heap.size (.slice none 0 0) _ from bi.nil _ _);have g:=ag (W.o.grown b W.o.size (by intro k F;cases F;omega));clear u b;go_wp2;obtain⟨S,i⟩:=ak (tJ.setCell ⟨w.heap.size+1,0,none⟩ (.slice none 0 0));rw[<-i]at E d g⊢;try simp only[Exit.inBlock,Exit.then]
  refine bodyPost_ret (v:=.tuple #[.agg #[.slice none 0 0],.int .i64 8]) ?_ rfl ⟨.slice none 0 0,by rw[j.o],by rw[H.o];exact d.o,g.o⟩
  clear i A C;simp[results,Tryz.results124,go_sem, *]
 rw[Xd8 g3]at tH;have HX:=ag g3;clear g3;have ED:=ag (show iG fs s l B=if fs.length=40∨64<l.length then 40 else ib (bY fs (s,l))by rw[wP.o,if_neg (by simp[sS.o,HX.o])]);go_wp2_with (first|(at_builtin;refine kS rfl (.tmp 27) (.tmp 28) 96 rfl rfl rfl rfl r ?_)|fail)
 refine tH.mono ?_
 rintro e tJ⟨rfl,Q⟩;have Lh:=ag (FN.o.a Q);have Ll:=ag (V.o.a Q);have W:=bT wZ Q;clear FN V wZ Q;clear tH r iU;have FK:=ag W.o.size;have ad:=qso a n c fs s al m cl l tJ (HR.o.a W.o) HN.o (by have:=O.o.1;have:=HN.o;omega) (UC O.o) (rQ.o.a W.o) HM.o (by have:=Et.o;omega);rw[qqd (f:=(s,l)) O.o.2.1.2 H6.o]at ad;have T:=Lh.o.cell;go_wp2_with fail
 refine(ad).mono ?_
 rintro e uO⟨aO,rfl,FO,Lm⟩;clear T;have UD:=ag (Ll.o.a Lm);have FP:=bT W Lm;clear Lh Ll W Lm;clear ad;have ai:=ag (Z4 fs (s,l));have jU:=ag (fun (h:l.length<=64)=>TZ O.o HG.o.2 h HX.o);obtain⟨gs,aj⟩:=ak (bY fs (s,l));have UE:=ag aj.symm;rw[<-aj]at FO ai jU ED;clear aj;obtain⟨p,hp⟩:=ak gs.length;obtain⟨L,M,TM⟩:∃a c,aO=.slice a p c:=by rw[hp];exact FO.form
 subst TM;have HP:=ag hp;have UF:=ag (FO.mono FK.o);clear hp FO;have N:ah uO (uO.alloc (.cells #[.slice L p M] 31)):=ae;obtain⟨Lp,I⟩:=ak (uO.alloc (.cells #[.slice L p M] 31));have p9:=ag (aX.new uO (.slice L p M));rw[<-I]at N p9;have J:=ag (UD.o.a N);have yj:=ag (UF.o.a N);have X:=bT FP N;clear UD UF FP N;by_cases g4:40<p∨64<m
 ·have j:=ag (show iG fs s l B=40 by rw[ED.o,if_pos (by have h1:=HP.o;have h2:=ai.o;have h3:=HM.o;have h4:=O.o.1;omega)])
  have H:=ag (show lW fs s l B=[]by unfold lW;rw[if_neg (by rw[j.o];omega)]);have d9:=p9.o.cell;rw[I]at d9;rcases g4 with g4|g4
  ·have am:(40:Int)<p:=by omega
   have A:=J.o.cell;have C:=J.o.fz;obtain⟨E,b, -⟩:=J.o.put (.slice none 0 0);obtain⟨y,u⟩:=J.o;have d:=ag (show bi (Lp.setCell ⟨w.heap.size+1,0,none⟩ (.slice none 0 0)) w.heap.size (.slice none 0 0) _ from bi.nil _ _);have g:=ag (X.o.grown b X.o.size (by intro k F;cases F;omega));clear u b;rw[I]at A C;go_wp2;try rw[<-I]
   obtain⟨S,i⟩:=ak (Lp.setCell ⟨w.heap.size+1,0,none⟩ (.slice none 0 0));rw[<-i]at E d g⊢;try simp only[Exit.inBlock,Exit.then]
   refine bodyPost_ret (v:=.tuple #[.agg #[.slice none 0 0],.int .i64 40]) ?_ rfl ⟨.slice none 0 0,by rw[j.o],by rw[H.o];exact d.o,g.o⟩
   clear i A C I;simp[results,Tryz.results124,go_sem, *]
  by_cases g5:40<p
  ·have am:(40:Int)<p:=by omega
   have A:=J.o.cell;have C:=J.o.fz;obtain⟨E,b, -⟩:=J.o.put (.slice none 0 0);obtain⟨y,u⟩:=J.o;have d:=ag (show bi (Lp.setCell ⟨w.heap.size+1,0,none⟩ (.slice none 0 0)) w.heap.size (.slice none 0 0) _ from bi.nil _ _);have g:=ag (X.o.grown b X.o.size (by intro k F;cases F;omega));clear u b;rw[I]at A C;go_wp2;try rw[<-I]
   obtain⟨S,i⟩:=ak (Lp.setCell ⟨w.heap.size+1,0,none⟩ (.slice none 0 0));rw[<-i]at E d g⊢;try simp only[Exit.inBlock,Exit.then]
   refine bodyPost_ret (v:=.tuple #[.agg #[.slice none 0 0],.int .i64 40]) ?_ rfl ⟨.slice none 0 0,by rw[j.o],by rw[H.o];exact d.o,g.o⟩
   clear i A C I;simp[results,Tryz.results124,go_sem, *]
  have am:decide ((40:Int)<p)=false:=aC (by omega);have En:(64:Int)<m:=by omega
  have A:=J.o.cell;have C:=J.o.fz;obtain⟨E,b, -⟩:=J.o.put (.slice none 0 0);obtain⟨y,u⟩:=J.o;have d:=ag (show bi (Lp.setCell ⟨w.heap.size+1,0,none⟩ (.slice none 0 0)) w.heap.size (.slice none 0 0) _ from bi.nil _ _);have g:=ag (X.o.grown b X.o.size (by intro k F;cases F;omega));clear u b;rw[I]at A C;go_wp2;try rw[<-I]
  obtain⟨S,i⟩:=ak (Lp.setCell ⟨w.heap.size+1,0,none⟩ (.slice none 0 0));rw[<-i]at E d g⊢;try simp only[Exit.inBlock,Exit.then]
  refine bodyPost_ret (v:=.tuple #[.agg #[.slice none 0 0],.int .i64 40]) ?_ rfl ⟨.slice none 0 0,by rw[j.o],by rw[H.o];exact d.o,g.o⟩
  clear i A C I;simp[results,Tryz.results124,go_sem, *]
 have am:decide ((40:Int)<p)=false:=aC (by omega);have En:decide ((64:Int)<m)=false:=aC (by omega);have ar:=ag (show iG fs s l B=ib gs by rw[ED.o,if_neg (by have h1:=HP.o;have h2:=ai.o;have h3:=HM.o;omega)]);have aS:=ag (show iG fs s l B=0->lW fs s l B=bY fs (s,l)from fun h=>by unfold lW;rw[if_pos h]);have aw:=xW L p M gs Lp yj.o.rd HP.o (jU.o (by have:=HM.o;omega));have T:=p9.o.cell;rw[I]at T;go_wp2_with fail
 try rw[<-I]
 refine(aw).mono ?_
 rintro e Af⟨aW,rfl,UG,Cs⟩;clear T I;have Y:=ag (J.o.a Cs);have Lr:=ag (yj.o.a Cs);have Ls:=ag (p9.o.a Cs);have QD:=bT X Cs;clear J yj p9 X Cs;clear aw;obtain⟨y5,Lt⟩:=ak ((dJ gs).length);obtain⟨ay,cy,a0⟩:∃a c,aW=.slice a y5 c:=by rw[Lt];exact xU UG
 subst a0;have HY:=ag Lt;clear Lt UG;by_cases g6:2048<y5
 ·have Ua:(2048:Int)<y5:=by omega
  have j:=ag (show iG fs s l B=40 by rw[ar.o];unfold ib;rw[if_neg (by have:=HY.o;omega)]);have H:=ag (show lW fs s l B=[]by unfold lW;rw[if_neg (by rw[j.o];omega)]);have A:=Y.o.cell;have C:=Y.o.fz;obtain⟨E,b, -⟩:=Y.o.put (.slice none 0 0);obtain⟨y,u⟩:=Y.o;have d:=ag (show bi (Af.setCell ⟨w.heap.size+1,0,none⟩ (.slice none 0 0)) w.heap.size (.slice none 0 0) _ from bi.nil _ _);have g:=ag (QD.o.grown b QD.o.size (by intro k F;cases F;omega));clear u b;go_wp2;obtain⟨S,i⟩:=ak (Af.setCell ⟨w.heap.size+1,0,none⟩ (.slice none 0 0));rw[<-i]at E d g⊢;try simp only[Exit.inBlock,Exit.then]
  refine bodyPost_ret (v:=.tuple #[.agg #[.slice none 0 0],.int .i64 40]) ?_ rfl ⟨.slice none 0 0,by rw[j.o],by rw[H.o];exact d.o,g.o⟩
  clear i A C;simp[results,Tryz.results124,go_sem, *]
 have Ua:decide ((2048:Int)<y5)=false:=aC (by omega);have j:=ag (show iG fs s l B=0 by rw[ar.o];unfold ib;rw[if_pos (by have:=HY.o;omega)]);have H:=ag (show lW fs s l B=gs from(aS.o j.o).trans UE.o);have d9:=Ls.o.cell;have A:=Y.o.cell;have C:=Y.o.fz;obtain⟨E,b, -⟩:=Y.o.put (.slice L p M);obtain⟨y,u⟩:=Y.o;have d:=ag (show bi (Af.setCell ⟨w.heap.size+1,0,none⟩ (.slice L p M)) w.heap.size (.slice L p M) _ from(Lr.o).keptS b u (by decide) (by decide));have g:=ag (QD.o.grown b QD.o.size (by intro k F;cases F;omega));clear u b;go_wp2;obtain⟨S,i⟩:=ak (Af.setCell ⟨w.heap.size+1,0,none⟩ (.slice L p M));rw[<-i]at E d g⊢;try simp only[Exit.inBlock,Exit.then]
 refine bodyPost_ret (v:=.tuple #[.agg #[.slice L p M],.int .i64 0]) ?_ rfl ⟨.slice L p M,by rw[j.o],by rw[H.o];exact d.o,g.o⟩
 clear i A C;simp[results,Tryz.results124,go_sem, *]
end Go.Proofs.YtmeaiocohalphaaGreatDoor
