/-
  What Rename and Create do.
-/
import Derived.Test.YtmeaiocohalphaaGreatDoorFiFn2
set_option maxHeartbeats 2000000
set_option maxRecDepth 100000
namespace Go.Proofs.YtmeaiocohalphaaGreatDoor
open Go.RowKit
set_option linter.all false
variable {fs:List Fl}{f q:Fl}{s t:az}
def pW (fs:List Fl):List Fl:=if ib fs=0 then fs else[]
theorem qakl(h:ib fs=0):pW fs=fs:=by unfold pW;rw[if_pos h]
theorem qakm(h:ib fs=40):pW fs=[]:=by unfold pW;rw[h,if_neg (by decide)]
theorem ql3(base:Nat)(v:Value)(a:aA)(n c:Nat)(fs:List Fl)(w:World)(hv:v=.slice a n c)(h:bi w base v fs)(B:n=fs.length)(D:base<=w.heap.size)(r:okB fs):
  Calls Tryz.prog 204 #[v] w fun e w'=>∃v',e=.returned (.tuple #[.agg #[v'],.int .i64 (ib fs)])∧bi w' base v' (pW fs)∧ah w w':=by
 subst hv;have l:ah w (w.alloc (.cells #[.slice none 0 0] 31)):=ae;have b:=qwx a n c fs _ (h.rd.a l) B r;have p:=ag l;have q:=ag (bZ.new w (.slice none 0 0));have C:=ag (h.a l);clear h B r l;obtain⟨I,i⟩:=ak (w.alloc (.cells #[.slice none 0 0] 31));rw[<-i]at p q C b;by_cases g:(dJ fs).length<=2048
 ·have s:=ag (show ib fs=0 by unfold ib;rw[if_pos g])
  rw[show decide ((dJ fs).length<=2048)=true by simpa using g]at b;clear g;go_enter Tryz.func204,Tryz.ntmps204;go_wp2_with fail
  rw[<-i];refine b.mono ?_
  rintro e u⟨rfl,d⟩;have j:=bT p d;have f:=ag (q.o.a d);have E:=ag (C.o.a d);clear d b i;have x:=f.o.cell;have F:=f.o.fz;obtain⟨z,m, -⟩:=f.o.put (.slice a n c);go_wp2;obtain⟨G,t⟩:=ak (u.setCell ⟨w.heap.size,0,none⟩ (.slice a n c));rw[<-t]at z m⊢;refine bodyPost_ret (v:=.tuple #[.agg #[.slice a n c],.int .i64 0]) ?_ rfl ⟨.slice a n c,by rw[s.o],by rw[qakl s.o];obtain⟨y,H⟩:=f.o;exact E.o.keptS m H (by decide) (by decide),j.o.grown m j.o.size (by intro k A;cases A;omega)⟩
  clear t m x;simp[results,Tryz.results204,go_sem, *]
 have s:=ag (show ib fs=40 by unfold ib;rw[if_neg g]);rw[show decide ((dJ fs).length<=2048)=false by simpa using g]at b;clear g;go_enter Tryz.func204,Tryz.ntmps204;go_wp2_with fail
 rw[<-i];refine b.mono ?_
 rintro e u⟨rfl,d⟩;have j:=bT p d;have f:=ag (q.o.a d);clear d b i;have x:=f.o.cell;have F:=f.o.fz;obtain⟨z,m, -⟩:=f.o.put (.slice none 0 0);go_wp2;obtain⟨G,t⟩:=ak (u.setCell ⟨w.heap.size,0,none⟩ (.slice none 0 0));rw[<-t]at z m⊢;refine bodyPost_ret (v:=.tuple #[.agg #[.slice none 0 0],.int .i64 40]) ?_ rfl ⟨.slice none 0 0,by rw[s.o],by rw[qakm s.o];exact bi.nil _ _,j.o.grown m j.o.size (by intro k A;cases A;omega)⟩
 clear t m x;simp[results,Tryz.results204,go_sem, *]
theorem qw4(a:aA)(n c:Nat)(fs:List Fl)(w:World)(g:fQ w (.slice a n c) fs)(q:n=fs.length)(k:gL fs):
  Calls Tryz.prog 234 #[.agg #[.slice a n c]] w fun e w'=>∃v,e=.returned (.tuple #[v,.int .i64 (bf fs 4096)])∧bA w' w.heap.size v (nE fs)∧ah w w':=by
 obtain⟨r,b⟩:=ak (w.alloc (.cells #[.slice a n c] 31));have h:ah w r:=by rw[b];exact ae
 have y:=ag (show r.heap[w.heap.size]? =some (.cells #[.slice a n c] 31 (0,0))by rw[b];exact heap_alloc_new w _);have j:=TK a n c fs 4096 r (g.a h) q k;have l:=ag h;have B:=ag (fun i (hb1:ah w i) (hl:(cz fs).length<=1000000)=>qhs a n c fs i (g.a hb1) q hl);clear g q k h;by_cases f:bf fs 4096=0
 ·have A:=ag (Ay f).2
  have s:=ag (show nE fs=cz fs by unfold nE;rw[if_pos f]);have t:=ag f;rw[f]at j;clear f;go_enter Tryz.func234,Tryz.ntmps234;go_wp2_with fail
  rw[<-b];refine j.mono ?_
  rintro e i⟨rfl,hb1⟩;have d:=bT l hb1;have C:=ag ((hb1.block _ (Xd6.1 y.o).1).trans y.o);have D:i.cell? ⟨w.heap.size,0,none⟩=some (.slice a n c):=by rw[cell_of_row i _ 0 _ _ (0,0) C.o];rfl
  clear hb1 j b;go_wp2_with fail
  refine(B.o i d.o (by have:=KQ A.o.2.1 A.o.1;omega)).mono ?_
  rintro e G⟨H,rfl,m,p⟩;have u:=bT d p;have E:=ag (m.mono d.o.size);clear m p D;go_wp2;go_ret2;exact⟨_,by rw[t.o];rfl,by rw[s.o];exact E.o,u.o⟩
 have s:=ag (show nE fs=[]by unfold nE;rw[if_neg f]);obtain⟨z,x⟩:=ak (bf fs 4096);have t:=ag x.symm;rw[<-x]at j f;have F:(z==0)=false:=Xe2 f
 clear x;go_enter Tryz.func234,Tryz.ntmps234;go_wp2_with fail
 rw[<-b];refine j.mono ?_
 rintro e i⟨rfl,hb1⟩;have d:=bT l hb1;clear hb1 j b;go_wp2;all_goals (go_ret2;exact⟨.slice none 0 0,by rw[t.o];rfl,by rw[s.o];exact bA.nil _ _,d.o⟩)
theorem qaf6(m:Nat)(w:World)(A:m<=1000000):
  Calls Tryz.prog 268 #[.slice none 0 0,.int .i64 m] w fun e w'=>∃v,e=.returned v∧bA w' w.heap.size v []∧ah w w':=by
 by_cases r:m=0
 ·subst r
  go_enter Tryz.func268,Tryz.ntmps268;go_wp2;go_ret;exact⟨_,rfl,bA.nil _ _,aF⟩
 obtain⟨n,h,i,l,g⟩:=info_parts Tryz.infoEx
 have f:(Builtin.firstCells n.size 0 (.slice none 0 0)).run Tryz.prog w.drew=.ok ([]:List Value).toArray w.drew:=by simp[Builtin.firstCells]
 have a:=fun s=>Lib.run_append_grow_zeros (P:=Tryz.prog) w 96 3 s 237 n _ .i64 .i64 Tryz.underlying96 Tryz.underlying3 h i none 0 0 [] f m (by omega) (by omega) (by omega) (by omega) (by rw[g];omega) (by rw[g];exact growslice_fits (by omega) (by omega))
 rw[Nat.zero_add]at a;obtain⟨G,k⟩:=ak (grownCap w m 0 237);have t:m<=G:=by rw[k];exact grownCap_ge w _ _ _
 have p:G<=maxLen:=by rw[k];exact grownCap_le_maxLen w _ _ _ (by unfold maxLen;omega)
 rw[<-k]at a;obtain⟨b,c⟩:∃b:Array Value,b=([]:List Value).toArray++Builtin.zeroCells (Value.cells (.agg #[.int .i64 0,.int .i64 0])) m++Builtin.zeroCells (Value.cells (.agg #[.int .i64 0,.int .i64 0])) (G-m):=⟨_,rfl⟩;rw[<-c]at a
 have j:b.size=G*2:=by
  have e0:Value.cells (.agg #[.int .i64 0,.int .i64 0])=#[.int .i64 0,.int .i64 0]:=rfl;rw[c,e0];simp only[Array.size_append,List.size_toArray,Builtin.zeroCells,Array.size_map,Array.size_range,Xd1,List.length_range,Xb0,List.length_nil];omega
 obtain⟨q,d⟩:=ak (w.drew.alloc (.cells b 237));rw[<-d]at a;have u:=ag (show bA q w.heap.size (.slice (some ⟨w.heap.size,0,none⟩) 0 G) []from⟨rfl,.inr ⟨w.heap.size,G,b,rfl,Nat.le_refl _,by rw[d];exact heap_alloc_new w.drew _,Xd5 _,p,j,by simp[cellsE]⟩⟩);have x:=ag (show ah w q by rw[d];exact(Below.refl w.heap.size w).drew.alloc aL _);unfold maxLen at p;clear d j c k f h i l g;have y:¬((m:Int)<0):=by omega
 have z:(0:Int)<m:=by omega
 go_enter Tryz.func268,Tryz.ntmps268;go_wp2_with (at_builtin;refine qhe rfl (.tmp 20) (.tmp 21) 96 3 rfl rfl rfl (a _) ?_)
 go_ret;exact⟨_,rfl,u.o,x.o⟩
theorem qod(b:Nat)(a1:aA)(n1 c1:Nat)(a2:aA)(n2 c2:Nat)(j k:List Ex)(w:World)(c:w.heap[b]? =some (.cells #[.slice a1 n1 c1,.slice a2 n2 c2] 96 (0,0)))
  (C:iB w (.slice a1 n1 c1) j) (l:n1=j.length) (D:iB w (.slice a2 n2 c2) k) (n:n2=k.length) (hl:j.length+k.length<=1000000):
  Calls Tryz.prog 235 #[.slice (some ⟨b,0,none⟩) 2 2] w fun e w'=>∃v,e=.returned v∧bA w' w.heap.size v (j++k)∧ah w w':=by
 have u:w.cell? ⟨b,0,none⟩=some (.slice a1 n1 c1):=by rw[cell_of_row w _ 0 _ _ (0,0) c];rfl
 have y:w.cell? ⟨b,1,none⟩=some (.slice a2 n2 c2):=by rw[cell_of_row w _ 1 _ _ (0,0) c];rfl
 have p:=ag u;have E:=ag y;have H:=ag C;have I:=ag D;have J:=ag l;have K:=ag n;have F:=ag hl;have L:n1<=1000000:=by omega
 have M:n1+n2<=1000000:=by omega
 clear C D l n c hl;go_enter Tryz.func235,Tryz.ntmps235;go_wp2;go_loop [3,11] (fun x i=>(x=.int .i64 0∧i=.int .i64 0)∨(x=.int .i64 n1∧i=.int .i64 1)∨(x=.int .i64 ((n1:Int)+n2)∧i=.int .i64 2)) (fun _ i=>2-(intOf i).toNat)
 case atStart=>exact .inl ⟨rfl,rfl⟩
 rcases hrel with⟨rfl,rfl⟩|⟨rfl,rfl⟩|⟨rfl,rfl⟩
 ·have g:¬((n1:Int)<0):=by omega
  go_wp2;go_round
  case rel=>exact .inr (.inl ⟨rfl,rfl⟩)
  simp[intOf]
 ·have g:¬((n1:Int)+n2<0):=by omega
  go_wp2;go_round
  case rel=>exact .inr (.inr ⟨rfl,rfl⟩)
  simp[intOf]
 clear u y;obtain⟨m,N⟩:=ak (n1+n2);have q:(n1:Int)+n2=(m:Int):=by omega
 rw[q];have z:m<=1000000:=by omega
 clear N q;go_wp2_with fail
 refine(qaf6 m _ z).mono ?_
 rintro e S⟨T,rfl,r,f⟩;have G:=ag r;clear r;go_wp2;go_loopw [6,27] (fun v i wr=>((i=.int .i64 0∧af (bA wr w.heap.size v []))∨(i=.int .i64 1∧af (bA wr w.heap.size v j))∨(i=.int .i64 2∧af (bA wr w.heap.size v (j++k))))∧ah w wr) (fun _ i _=>2-(intOf i).toNat)
 case atStart=>exact⟨.inl ⟨rfl,G⟩,f⟩
 obtain⟨O,a⟩:=hrel;clear G f;have u:wr.cell? ⟨b,0,none⟩=some (.slice a1 n1 c1):=by rw[a.cell (Xa6 w _ p.o)];exact p.o
 have y:wr.cell? ⟨b,1,none⟩=some (.slice a2 n2 c2):=by rw[a.cell (Xa6 w _ E.o)];exact E.o
 rcases O with⟨rfl,h⟩|⟨rfl,h⟩|⟨rfl,h⟩
 ·obtain⟨P,Q,R,d,s,t⟩:=Hm h.o a.size (H.o.a a) J.o (by have:=F.o;simp;omega)
  have A:=ag s;have B:=ag (a.trans t);clear s t h;go_wp2_with (at_builtin;refine kS rfl (.tmp 31) (.tmp 32) 96 rfl rfl rfl rfl d ?_)
  go_roundw
  case rel=>exact⟨.inr (.inl ⟨rfl,ag (by simpa using A.o)⟩),B.o⟩
  simp[intOf]
 ·obtain⟨P,Q,R,d,s,t⟩:=Hm h.o a.size (I.o.a a) K.o (by have:=F.o;omega)
  have A:=ag s;have B:=ag (a.trans t);clear s t h;go_wp2_with (at_builtin;refine kS rfl (.tmp 31) (.tmp 32) 96 rfl rfl rfl rfl d ?_)
  go_roundw
  case rel=>exact⟨.inr (.inr ⟨rfl,ag (by simpa using A.o)⟩),B.o⟩
  simp[intOf]
 go_wp2;go_ret;exact⟨_,rfl,h.o,a⟩
theorem qaf7(h:f∈bY fs q):f∈fs∨f=q:=by
 unfold bY at h;rcases Xa5.1 h with h|h
 ·exact .inl (Xb9 h)
 rcases List.mem_cons.1 h with h|h
 ·exact .inr h
 exact .inl (List.mem_of_mem_drop h)
theorem qaf8(fs:List Fl)(q:Fl):(bY fs q).length=fs.length+1:=by
 have:=Ri fs q.1
 simp only[bY,Xa0,Xa4,Xb0,Xa9];omega
theorem pO(h:f∈bM fs s):f∈fs:=(List.mem_filter.1 h).1
theorem Qv(fs:List Fl)(s:az):(bM fs s).length<=fs.length:=List.length_filter_le _ _
theorem Ke(h:gT s=true):s.length<=16:=by simp only[gT,Xe0,decide_eq_true_eq]at h;omega
theorem quu(h:okB fs)(hl:fs.length<=999)(b:q.1.length<=1000∧q.2.length<=1000∧∀x∈q.2,0<=x.1∧x.1<=4096∧0<=x.2∧x.2<=4096):okB (bY fs q):=by
 refine⟨by rw[qaf8];omega,fun f a=>?_⟩;rcases qaf7 a with a|rfl
 ·exact h.2 f a
 exact b
theorem sW(h:okB fs):okB (bM fs s):=⟨aG (Qv fs s) h.1,fun f a=>h.2 f (pO a)⟩
theorem qy4(h:bf fs 4096=0)(a:gT s=true)(b:gT t=true)(c:iF fs s=true):kr fs s t=ib (ko fs s t):=by
 unfold kr;rw[if_neg (by simp[h]),if_neg (by simp[a,b]),if_pos c]
theorem qy5(h:kr fs s t=ib (ko fs s t)):qy fs s t=pW (ko fs s t):=by
 unfold qy pW;rw[h]
theorem xL(h:kr fs s t≠0):qy fs s t=[]:=by unfold qy;rw[if_neg h]
theorem qy6(a:aA)(n c:Nat)(fs:List Fl)(s t:az)(w:World)(D:fQ w (.slice a n c) fs)(Y:n=fs.length)(Z:gL fs):
  Calls Tryz.prog 130 #[.agg #[.slice a n c],.string (bs s),.string (bs t)] w fun e w'=>∃v,e=.returned (.tuple #[.agg #[v],.int .i64 (kr fs s t)])∧bi w' w.heap.size v (qy fs s t)∧ah w w':=by
 obtain⟨W0,q⟩:=ak ((w.alloc (.cells #[.slice a n c] 31)).alloc (.cells #[.slice none 0 0] 31));have d:ah w (w.alloc (.cells #[.slice a n c] 31)):=ae;have S:ah w W0:=by rw[q];exact d.alloc (by simp) _
 have tF:=ag (show W0.heap[w.heap.size]? =some (.cells #[.slice a n c] 31 (0,0))by
  rw[q,<-heap_alloc_new w (.cells #[.slice a n c] 31)];exact((Below.refl (w.alloc (.cells #[.slice a n c] 31)).heap.size _).alloc aL _).block _ (by simp))
 have aa:=ag (show bZ W0 (w.heap.size+1)by
  have:=bZ.new (w.alloc (.cells #[.slice a n c] 31)) (.slice none 0 0)
  rw[q];simpa using this)
 have ab:=ag S;have V:=TK a n c fs 4096 W0 (D.a S) Y Z;have A:=TF s;have B:=TF t;have mD:=ag (fun C (d:ah w C) (hr:kK fs) (hl:n<=1000000)=>ja a n c fs s C (D.a d) Y hr hl);have ai:=ag (fun C (d:ah w C) (hl:fs.length<=1000) (aj:∀f∈fs,f.2.length<=1000000)=>ql1 a n c fs s C (D.a d) Y hl aj);have HR:=ag D;have HN:=ag Y;clear D Y Z S d;by_cases Q:bf fs 4096=0
 ·have p:=ag (Ay Q).2
  have ol:=ag Q;rw[Q]at V;clear Q;go_enter Tryz.func130,Tryz.ntmps130;go_wp2_with fail
  rw[<-q];refine V.mono ?_
  rintro e C⟨rfl,d⟩;have j:=bT ab d;have mK:=ag ((d.block _ (Xd6.1 tF.o).1).trans tF.o);have g:=ag (aa.o.a d);have r1:C.cell? ⟨w.heap.size,0,none⟩=some (.slice a n c):=by rw[cell_of_row C _ 0 _ _ (0,0) mK.o];rfl
  clear d V q;cases g2:gT s with
  |false=>
   rw[g2]at A;have r:=ag (show kr fs s t=50 by unfold kr;rw[if_neg (by simp[ol.o]),if_pos (.inl g2)]);have F:=ag (xL (by rw[r.o];decide));clear g2;have G:=g.o.cell;have R:=g.o.fz;obtain⟨H,h, -⟩:=g.o.put (.slice none 0 0);go_wp2_with (go_at_call 201;refine(A _).mono ?_;rintro e wc⟨rfl,rfl⟩)
   obtain⟨w9,u⟩:=ak (wc.setCell ⟨w.heap.size+1,0,none⟩ (.slice none 0 0));rw[<-u]at H h⊢;refine bodyPost_ret (v:=.tuple #[.agg #[.slice none 0 0],.int .i64 50]) ?_ rfl ⟨.slice none 0 0,by rw[r.o],by rw[F.o];exact bi.nil _ _,j.o.grown h j.o.size (by intro k I;cases I;omega)⟩
   clear u h G;simp[results,Tryz.results130,go_sem, *]
  |true=>
   rw[g2]at A;go_wp2_with fail
   refine(A _).mono ?_
   rintro e wc⟨rfl,rfl⟩;cases g3:gT t with
   |false=>
    rw[g3]at B;have r:=ag (show kr fs s t=50 by unfold kr;rw[if_neg (by simp[ol.o]),if_pos (.inr g3)]);have F:=ag (xL (by rw[r.o];decide));clear g2 g3;have G:=g.o.cell;have R:=g.o.fz;obtain⟨H,h, -⟩:=g.o.put (.slice none 0 0);go_wp2_with (go_at_call 201;refine(B _).mono ?_;rintro e wd⟨rfl,rfl⟩)
    obtain⟨w9,u⟩:=ak (wd.setCell ⟨w.heap.size+1,0,none⟩ (.slice none 0 0));rw[<-u]at H h⊢;refine bodyPost_ret (v:=.tuple #[.agg #[.slice none 0 0],.int .i64 50]) ?_ rfl ⟨.slice none 0 0,by rw[r.o],by rw[F.o];exact bi.nil _ _,j.o.grown h j.o.size (by intro k I;cases I;omega)⟩
    clear u h G;simp[results,Tryz.results130,go_sem, *]
   |true=>
    rw[g3]at B;go_wp2_with fail
    refine(B _).mono ?_
    rintro e wd⟨rfl,rfl⟩;go_wp2_with fail
    refine(mD.o wd j.o (KX p.o) (by have:=p.o.1;have:=HN.o;omega)).mono ?_
    rintro e w2⟨rfl,J⟩;have K:=bT j J;have zA:=ag ((J.block _ (Xd6.1 mK.o).1).trans mK.o);have L:=ag (g.o.a J);have r2:w2.cell? ⟨w.heap.size,0,none⟩=some (.slice a n c):=by rw[cell_of_row w2 _ 0 _ _ (0,0) zA.o];rfl
    clear J;cases g4:iF fs s with
    |false=>
     have r:=ag (show kr fs s t=6 by unfold kr;rw[if_neg (by simp[ol.o]),if_neg (by simp[g2,g3]),if_neg (by simp[g4])]);have F:=ag (xL (by rw[r.o];decide));clear g2 g3 g4;have G:=L.o.cell;have R:=L.o.fz;obtain⟨H,h, -⟩:=L.o.put (.slice none 0 0);go_wp2;obtain⟨w9,u⟩:=ak (w2.setCell ⟨w.heap.size+1,0,none⟩ (.slice none 0 0));rw[<-u]at H h⊢;refine bodyPost_ret (v:=.tuple #[.agg #[.slice none 0 0],.int .i64 6]) ?_ rfl ⟨.slice none 0 0,by rw[r.o],by rw[F.o];exact bi.nil _ _,K.o.grown h K.o.size (by intro k I;cases I;omega)⟩
     clear u h G;simp[results,Tryz.results130,go_sem, *]
    |true=>
     have r:=ag (qy4 ol.o g2 g3 g4);have F:=ag (qy5 r.o);obtain⟨i,hi,W,E⟩:∃i,dN fs s=i∧∃W:i<fs.length,fO fs s=(fs[i]).2:=by
      obtain⟨W,aw,E⟩:=qv5 (KX p.o) g4;exact⟨_,rfl,W,E⟩
     have HT:=ag (Ke g3);rw[hi];have ax:(i:Int)<n:=by have:=HN.o;omega
     clear g2 g3 g4 hi;go_wp2_with fail
     refine(ai.o w2 K.o (by have:=p.o.1;omega) (KY p.o)).mono ?_
     rintro e w3⟨v3,rfl,M,N⟩;have al:=bT K N;have zB:=ag ((N.block _ (Xd6.1 zA.o).1).trans zA.o);have am:=ag (L.o.a N);have r3:w3.cell? ⟨w.heap.size,0,none⟩=some (.slice a n c):=by rw[cell_of_row w3 _ 0 _ _ (0,0) zB.o];rfl
     obtain⟨a3,c3,an⟩:=M.form;subst an;obtain⟨n3,oh⟩:=ak ((bM fs s).length);rw[<-oh]at M⊢;have ac:=ql1 a3 n3 c3 (bM fs s) t w3 M.rd oh (by have:=p.o.1;have:=Qv fs s;omega) (fun f R=>KY p.o f (pO R));clear M N oh r2;go_wp2_with fail
     refine ac.mono ?_
     rintro e w4⟨v4,rfl,fC,O⟩;clear ac;have fG:=bT al O;have rM:=ag ((O.block _ (Xd6.1 zB.o).1).trans zB.o);have ao:=ag (am.o.a O);have r4:w4.cell? ⟨w.heap.size,0,none⟩=some (.slice a n c):=by rw[cell_of_row w4 _ 0 _ _ (0,0) rM.o];rfl
     obtain⟨a4,c4,ap⟩:=fC.form;subst ap;obtain⟨n4,qN⟩:=ak ((bM (bM fs s) t).length);rw[<-qN]at fC⊢;obtain⟨b,ay,a5,c5,rfl,q0,q1,q2⟩:=HR.o.atB fG.o i W;have TW:=ag (Lg p.o _ (Xa3 W));have xZ:=ag (show ∀x∈(fs[i]).2,0<=x.1∧x.1<=4096∧0<=x.2∧x.2<=4096 from((Hq p.o.1 p.o.2.1 p.o.2.2.1).2 _ (Xa3 W)).2.2);obtain⟨l,hl⟩:=ak ((fs[i]).2);rw[<-hl]at q1 q2 E TW xZ;have HG:=ag E;obtain⟨m,hm⟩:=ak l.length;rw[<-hm]at q1 q2;have tH:=qw2 a4 n4 c4 (bM (bM fs s) t) t a5 m c5 l w4 fC.rd qN (by have:=p.o.1;have:=Qv fs s;have:=Qv (bM fs s) t;omega) (fun f R=>KY p.o f (pO (pO R))) (PY (PY (KX p.o) s) t) (q2.a fG.o) hm (by have:=TW.o;omega);clear fC O qN r3 hl E q2 q0 hm A B;go_wp2_with fail
     refine tH.mono ?_
     rintro e w5⟨v5,rfl,ku,T⟩;clear tH;have fK:=bT fG T;have aq:=ag (ao.o.a T);obtain⟨a6,c6,ar⟩:=ku.form;subst ar;have KZ:bY (bM (bM fs s) t) (t,l)=ko fs s t:=by unfold ko;rw[HG.o]
     rw[KZ]at ku⊢;obtain⟨n6,Ey⟩:=ak ((ko fs s t).length);rw[<-Ey]at ku⊢;have ad:=ql3 w.heap.size _ a6 n6 c6 (ko fs s t) w5 rfl (ku.mono fG.o.size) Ey fK.o.size (by
      rw[<-KZ];refine quu (sW (sW (Hq p.o.1 p.o.2.1 p.o.2.2.1))) (by have:=p.o.1;have:=Qv fs s;have:=Qv (bM fs s) t;omega) ⟨by have:=HT.o;show t.length<=1000;omega,by have:=TW.o;show l.length<=1000;omega,xZ.o⟩)
     clear ku T Ey r4 q1 KZ;go_wp2_with fail
     refine ad.mono ?_
     rintro e w6⟨v6,rfl,ou,U⟩;clear ad;have mJ:=bT fK U;have P:=ag (aq.o.a U);have qP:=ag ou;obtain⟨a7,c7,av⟩:=ou.form;subst av;obtain⟨n7,TY⟩:=ak ((pW (ko fs s t)).length);rw[<-TY]at qP⊢;obtain⟨z,X⟩:=ak (ib (ko fs s t));rw[<-X]at r⊢;clear X TY ou U;have G:=P.o.cell;have R:=P.o.fz;obtain⟨H,h, -⟩:=P.o.put (.slice a7 n7 c7);go_wp2;obtain⟨w9,u⟩:=ak (w6.setCell ⟨w.heap.size+1,0,none⟩ (.slice a7 n7 c7));rw[<-u]at H h⊢;refine bodyPost_ret (v:=.tuple #[.agg #[.slice a7 n7 c7],.int .i64 z]) ?_ rfl ⟨.slice a7 n7 c7,by rw[r.o],by rw[F.o];obtain⟨y,hy⟩:=P.o;exact qP.o.keptS h hy (by decide) (by decide),mJ.o.grown h mJ.o.size (by intro k I;cases I;omega)⟩
     clear u h G;simp[results,Tryz.results130,go_sem, *]
 have xN:=ag (show kr fs s t=bf fs 4096 by unfold kr;rw[if_pos Q]);have F:=ag (xL (s:=s) (t:=t) (by rw[xN.o];exact Q));obtain⟨z,X⟩:=ak (bf fs 4096);have r:=ag (xN.o.trans X.symm);rw[<-X]at V Q;have aD:(z==0)=false:=Xe2 Q
 clear X xN A B;go_enter Tryz.func130,Tryz.ntmps130;go_wp2_with fail
 rw[<-q];refine V.mono ?_
 rintro e C⟨rfl,d⟩;have j:=bT ab d;have mK:=ag ((d.block _ (Xd6.1 tF.o).1).trans tF.o);have g:=ag (aa.o.a d);have r1:C.cell? ⟨w.heap.size,0,none⟩=some (.slice a n c):=by rw[cell_of_row C _ 0 _ _ (0,0) mK.o];rfl
 clear d V q;have G:=g.o.cell;have R:=g.o.fz;obtain⟨H,h, -⟩:=g.o.put (.slice none 0 0);go_wp2;obtain⟨w9,u⟩:=ak (C.setCell ⟨w.heap.size+1,0,none⟩ (.slice none 0 0));rw[<-u]at H h⊢;refine bodyPost_ret (v:=.tuple #[.agg #[.slice none 0 0],.int .i64 z]) ?_ rfl ⟨.slice none 0 0,by rw[r.o],by rw[F.o];exact bi.nil _ _,j.o.grown h j.o.size (by intro k I;cases I;omega)⟩
 clear u h G;simp[results,Tryz.results130,go_sem, *]
end Go.Proofs.YtmeaiocohalphaaGreatDoor
