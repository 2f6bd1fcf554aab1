/-
  What Rename and Create do.
-/
import Derived.Test.YthpammbgcidloaaGreatFiIns2
set_option maxHeartbeats 1000000
set_option maxRecDepth 100000
namespace Go.Proofs.YthpammbgcidloaaGreat
open Go.RowKit
set_option linter.all false
theorem zW {fs:List Fl} {B:Int} (h:bA fs B=0):fq B∧eD fs B:=by
 unfold bA at h;split at h
 ·cases h
 ·rename_i h1
  split at h
  ·rename_i h2;exact ⟨Decidable.of_not_not h1,h2⟩
  ·cases h
theorem Wx {fs:List Fl} {B:Int} (h:eD fs B):mo fs:=h.2.1.2
theorem quh {fs:List Fl} {B:Int} (h:eD fs B):∀f∈fs,1<=f.1.length∧f.1.length<=16∧1<=f.2.length∧f.2.length<=64:=fun f a=>LV (h.2.1.1 f a)
theorem Wz {fs:List Fl} {B:Int} (h:eD fs B):∀f∈fs,f.2.length<=1000000:=fun f a=>by have:=quh h f a;omega
def BM (fs:List Fl) (s:ak):Int:=if gN fs s=0 then (dU fs s:Nat) else 0
theorem EN {fs:List Fl} {s:ak} (h:gN fs s=0):bA fs 4096=0∧jw s=true∧jZ fs s=true:=by
 unfold gN at h;split at h
 ·rename_i h1;exact absurd h h1
 ·rename_i h1
  split at h
  ·cases h
  ·rename_i h2
   split at h
   ·rename_i h3;exact ⟨Decidable.of_not_not h1,by simpa using h2,h3⟩
   ·cases h
theorem qaa5 (a:au) (n c:Nat) (fs:List Fl) (s:ak) (w:World) (j:RdF w (.slice a n c) fs) (u:n=fs.length) (p:wfFs fs):
  Calls Tryz.prog 145 #[.agg #[.slice a n c],.string (bs s)] w fun e w'=>e=.returned (.tuple #[.int .i64 (BM fs s),.int .i64 (gN fs s)])∧ah w w':=by
 obtain ⟨v,b⟩:=ai (w.alloc (.cells #[.slice a n c] 30));have k:ah w v:=by rw [b];exact ae
 have h:v.heap[w.heap.size]? =some (.cells #[.slice a n c] 30 (0,0)):=by rw [b];exact heap_alloc_new w _
 have l:=Wq a n c fs 4096 v (j.a k) u p;have f:=tT s;have C:=ag (fun m (hb1:ah w m) (D:mo fs) (E:n<=1000000)=>FH a n c fs s m (j.a hb1) u D E);have F:=ag u;have q:=ag k;have y:=ag h;clear j u p k h;by_cases i:bA fs 4096=0
 ·have A:=ag (zW i).2
  have x:=ag i;rw [i] at l;clear i;go_enter Tryz.func145,Tryz.ntmps145;go_wp2_with fail
  rw [<-b];refine l.mono ?_
  rintro e m ⟨rfl,hb1⟩;have d:=bT q hb1;have G:=ag ((hb1.block _ (Array.getElem?_eq_some_iff.1 y.o).1).trans y.o);have J:m.cell? ⟨w.heap.size,0,none⟩=some (.slice a n c):=by rw [cell_of_row m _ 0 _ _ (0,0) G.o];rfl
  clear hb1 l b;cases g2:jw s with
  | false=>
   rw [g2] at f;have g:=ag (show gN fs s=50 by unfold gN;rw [if_neg (by simp [x.o]),if_pos g2]);clear g2;go_wp2_with (go_at_call 151;refine (f _).mono ?_;rintro e wc ⟨rfl,rfl⟩)
   go_ret2;exact ⟨by unfold BM;rw [g.o];rfl,d.o⟩
  | true=>
   rw [g2] at f;go_wp2_with (first | (go_at_call 151;refine (f _).mono ?_;rintro e wc ⟨rfl,rfl⟩) | fail)
   refine (C.o wc d.o (Wx A.o) (by have:=A.o.1;have:=F.o;omega)).mono ?_
   rintro e K ⟨rfl,r⟩;have t:=bT d r;clear r;cases g3:jZ fs s with
   | false=>
    have g:=ag (show gN fs s=6 by unfold gN;rw [if_neg (by simp [x.o]),if_neg (by simp [g2]),if_neg (by simp [g3])]);clear g2 g3;go_wp2;go_ret2;exact ⟨by unfold BM;rw [g.o];rfl,t.o⟩
   | true=>
    have g:=ag (show gN fs s=0 by unfold gN;rw [if_neg (by simp [x.o]),if_neg (by simp [g2]),if_pos (by simp [g3])]);clear g2 g3;go_wp2;go_ret2;exact ⟨by unfold BM;rw [g.o];rfl,t.o⟩
 ·have g:=ag (show gN fs s=bA fs 4096 by unfold gN;rw [if_pos i])
  have H:=ag (show BM fs s=0 by unfold BM;rw [g.o,if_neg i]);obtain ⟨z,B⟩:=ai (bA fs 4096);rw [<-B] at l g i;have I:(z==0)=false:=by simpa using i
  clear B;go_enter Tryz.func145,Tryz.ntmps145;go_wp2_with fail
  rw [<-b];refine l.mono ?_
  rintro e m ⟨rfl,hb1⟩;have d:=bT q hb1;clear hb1 l b;go_wp2;all_goals (go_ret2;exact ⟨by rw [H.o,g.o];rfl,d.o⟩)
theorem yO {w w':World} {base:Nat} {e:TypeId} {size:Nat} {v:Value} {n:Nat} {b:List Value} {q:Nat} {cs:Array Value} {t:TypeId} {c:Nat × Nat} (h:w.ownsRow base e size v n b) (d:w.grownBy w' (some q)) (f:w.heap[q]? =some (.cells cs t c)) (i:t≠e):w'.ownsRow base e size v n b:=by
 refine World.ownsRow.kept h d (.inr ?_);intro e0;rcases h.2 with ⟨rfl,_⟩ | ⟨g,cap,j,rfl,_,a,_⟩
 ·cases e0
 ·cases e0;rw [f] at a;cases a;exact i rfl
theorem bJ.keptS {w w':World} {base:Nat} {v:Value} {fs:List Fl} {q:Nat} {cs:Array Value} {t:TypeId} {c:Nat × Nat} (h:bJ w base v fs) (a:w.grownBy w' (some q)) (b:w.heap[q]? =some (.cells cs t c)) (d:t≠98) (f:t≠185):bJ w' base v fs:=by
 obtain ⟨g,e,i,j⟩:=h;exact ⟨g,e,yO i a b d,fun p k=>yO (j p k) a b f⟩
def dV (w:World) (q:Nat):Prop:=∃y,w.heap[q]? =some (.cells #[y] 30 (0,0))
theorem dV.a {w w':World} {q:Nat} (h:dV w q) (hb:ah w w'):dV w' q:=by
 obtain ⟨y,h⟩:=h;exact ⟨y,(hb.block q (Array.getElem?_eq_some_iff.1 h).1).trans h⟩
theorem dV.cell {w:World} {q:Nat} (h:dV w q):w.cell? ⟨q,0,none⟩=some (Me w ⟨q,0,none⟩):=by obtain ⟨y,h⟩:=h;unfold Me;rw [cell_of_row w q 0 _ _ (0,0) h];rfl
theorem dV.fz {w:World} {q:Nat} (h:dV w q):w.frozen? ⟨q,0,none⟩=false:=by obtain ⟨y,h⟩:=h;exact frozen_of_row w q 0 _ _ h
theorem dV.put {w:World} {q:Nat} (h:dV w q) (u:Value):(w.setCell ⟨q,0,none⟩ u).cell? ⟨q,0,none⟩=some u∧w.grownBy (w.setCell ⟨q,0,none⟩ u) (some q)∧dV (w.setCell ⟨q,0,none⟩ u) q:=by
 obtain ⟨y,h⟩:=h;have a:(w.setCell ⟨q,0,none⟩ u).heap[q]? =some (.cells #[u] 30 (0,0)):=by have:=heap_setCell_same w q 0 #[y] 30 u h;rw [this];rfl
 exact ⟨by rw [cell_of_row _ q 0 _ _ (0,0) a];rfl,lV w ⟨q,0,none⟩ u,u,a⟩
theorem dV.new (w:World) (y:Value):dV (w.alloc (.cells #[y] 30)) w.heap.size:=⟨y,heap_alloc_new w _⟩
theorem qwf (a:au) (n c:Nat) (fs:List Fl) (s:ak) (w:World) (F:RdF w (.slice a n c) fs) (S:n=fs.length) (L:wfFs fs):
  Calls Tryz.prog 100 #[.agg #[.slice a n c],.string (bs s)] w fun e w'=>∃v,e=.returned (.tuple #[.agg #[.string (bs (nu fs s).1),v],.int .i64 (gN fs s)])∧bB w' w.heap.size v (nu fs s).2∧ah w w':=by
 obtain ⟨J,f⟩:∃J,J=(w.alloc (.cells #[.slice a n c] 30)).alloc (.cells #[.string {data:=#[]},.slice none 0 0] 98):=⟨_,rfl⟩;have d:ah w (w.alloc (.cells #[.slice a n c] 30)):=ae
 have G:ah w J:=by rw [f];exact d.alloc (by simp) _
 have A:J.heap[w.heap.size]? =some (.cells #[.slice a n c] 30 (0,0)):=by
  rw [f,<-heap_alloc_new w (.cells #[.slice a n c] 30)];exact ((Below.refl (w.alloc (.cells #[.slice a n c] 30)).heap.size _).alloc aI _).block _ (by simp)
 have B:J.heap[w.heap.size+1]? =some (.cells #[.string {data:=#[]},.slice none 0 0] 98 (0,0)):=by
  have:=heap_alloc_new (w.alloc (.cells #[.slice a n c] 30)) (.cells #[.string {data:=#[]},.slice none 0 0] 98)
  rw [f];simpa using this
 have g:=qaa5 a n c fs s J (F.a G) S L;have HR:=ag F;have HN:=ag S;have M:=ag G;have Z:=ag A;have Q:=ag B;clear F S L G A B d;by_cases u:gN fs s=0
 ·obtain ⟨g2,g3,g4⟩:=EN u
  have HM:=ag (zW g2).2;obtain ⟨i,hi,N,x,hV,hL⟩:∃i,dU fs s=i∧∃N:i<fs.length,(fs[i]).1=s∧nu fs s=(s,(fs[i]).2)∧(fs[i]).2.length<=1000000:=by
   obtain ⟨N,x,T⟩:=Z9 (Wx HM.o) g4;exact ⟨_,rfl,N,x,by unfold nu;rw [if_pos u,T],Wz HM.o _ (List.getElem_mem N)⟩
  have K:=ag hV;have HL:=ag hL;have HG:=ag u;rw [show BM fs s=(dU fs s:Nat) by unfold BM;rw [if_pos u],u,hi] at g;clear hV hL;have ab:i<n:=by have:=HN.o;omega
  have aa:(i:Int)<n:=by omega
  clear hi u g2 g3 g4;have yG:=ag x;clear x;go_enter Tryz.func100,Tryz.ntmps100;go_wp2_with fail
  rw [<-f];refine g.mono ?_
  rintro e j ⟨rfl,d⟩;have h:=bT M d;have vK:=ag ((d.block _ (Array.getElem?_eq_some_iff.1 Z.o).1).trans Z.o);have Ps:=ag ((d.block _ (Array.getElem?_eq_some_iff.1 Q.o).1).trans Q.o);have r0:j.cell? ⟨w.heap.size,0,none⟩=some (.slice a n c):=by rw [cell_of_row j _ 0 _ _ (0,0) vK.o];rfl
  obtain ⟨b,ac,a2,c2,rfl,q0,U,q2⟩:=HR.o.atB h.o i N;have V:=ag q2;obtain ⟨l,hl⟩:=ai ((fs[i]).2);rw [yG.o] at q0;rw [<-hl] at U V K HL;obtain ⟨m,R⟩:=ai l.length;have sO:=ag (show RdE w (.slice a2 m c2) l by rw [R];exact V.o);rw [<-R] at U;have gT:=ag R;clear d g f R hl q2 V;go_wp2_with fail
  refine (JS s a2 m c2 l _ (sO.o.a h.o) gT.o HL.o).mono ?_
  rintro e p ⟨v2,rfl,H,I⟩;obtain ⟨C,D,W⟩:=H.form;subst W;have O:=bT h I;have r:=ag (show p.heap[w.heap.size+1]? =some (.cells #[.string {data:=#[]},.slice none 0 0] 98 (0,0)) from (I.block _ (Array.getElem?_eq_some_iff.1 Ps.o).1).trans Ps.o);have jm:=ag (H.mono h.o.size);have e0:p.cell? ⟨w.heap.size+1,0,none⟩=some (.string {data:=#[]}):=by rw [cell_of_row p _ 0 _ _ (0,0) r.o];rfl
  have e1:p.cell? ⟨w.heap.size+1,1,none⟩=some (.slice none 0 0):=by rw [cell_of_row p _ 1 _ _ (0,0) r.o];rfl
  have f0:=frozen_of_row p (w.heap.size+1) 0 _ _ r.o;have f1:=frozen_of_row p (w.heap.size+1) 1 _ _ r.o;have E:=wR (w:=p) (q:=w.heap.size+1) (.string (bs s)) (.slice C l.length D);have y:((p.setCell ⟨w.heap.size+1,0,none⟩ (.string (bs s))).setCell ⟨w.heap.size+1,1,none⟩ (.slice C l.length D)).heap[w.heap.size+1]? =some (.cells #[.string (bs s),.slice C l.length D] 98 (0,0)):=by
   have X:=heap_setCell_same p (w.heap.size+1) 0 _ 98 (.string (bs s)) r.o;have a2:=heap_setCell_same (p.setCell ⟨w.heap.size+1,0,none⟩ (.string (bs s))) (w.heap.size+1) 1 _ 98 (.slice C l.length D) X;rw [a2];rfl
  clear H I q0 U r0;go_wp2;obtain ⟨t,P⟩:=ai ((p.setCell ⟨w.heap.size+1,0,none⟩ (.string (bs s))).setCell ⟨w.heap.size+1,1,none⟩ (.slice C l.length D));rw [<-P] at E y ⊢;have z0:t.cell? ⟨w.heap.size+1,0,none⟩=some (.string (bs s)):=by rw [cell_of_row t _ 0 _ _ (0,0) y];rfl
  have z1:t.cell? ⟨w.heap.size+1,1,none⟩=some (.slice C l.length D):=by rw [cell_of_row t _ 1 _ _ (0,0) y];rfl
  refine bodyPost_ret (v:=.tuple #[.agg #[.string (bs s),.slice C l.length D],.int .i64 0]) ?_ rfl ⟨.slice C l.length D,by rw [K.o,HG.o],by rw [K.o];exact World.ownsRow.kept jm.o E (.inr (jm.o.apartF r.o)),O.o.grown E O.o.size (by intro k Y;cases Y;omega)⟩
  clear y E P e0 e1;simp [results,Tryz.results100,go_sem, *]
 ·have K:=ag (show nu fs s=([],[]) by unfold nu;rw [if_neg u])
  rw [show BM fs s=0 by unfold BM;rw [if_neg u]] at g;obtain ⟨z,hz⟩:=ai (gN fs s);rw [<-hz] at g u ⊢;have ad:(z==0)=false:=by simpa using u
  clear hz;go_enter Tryz.func100,Tryz.ntmps100;go_wp2_with fail
  rw [<-f];refine g.mono ?_
  rintro e j ⟨rfl,d⟩;have h:=bT M d;have r:=ag ((d.block _ (Array.getElem?_eq_some_iff.1 Q.o).1).trans Q.o);have e0:j.cell? ⟨w.heap.size+1,0,none⟩=some (.string {data:=#[]}):=by rw [cell_of_row j _ 0 _ _ (0,0) r.o];rfl
  have e1:j.cell? ⟨w.heap.size+1,1,none⟩=some (.slice none 0 0):=by rw [cell_of_row j _ 1 _ _ (0,0) r.o];rfl
  have f0:=frozen_of_row j (w.heap.size+1) 0 _ _ r.o;have f1:=frozen_of_row j (w.heap.size+1) 1 _ _ r.o;have E:=wR (w:=j) (q:=w.heap.size+1) (.string {data:=#[]}) (.slice none 0 0);have y:((j.setCell ⟨w.heap.size+1,0,none⟩ (.string {data:=#[]})).setCell ⟨w.heap.size+1,1,none⟩ (.slice none 0 0)).heap[w.heap.size+1]? =some (.cells #[.string {data:=#[]},.slice none 0 0] 98 (0,0)):=by
   have X:=heap_setCell_same j (w.heap.size+1) 0 _ 98 (.string {data:=#[]}) r.o;have a2:=heap_setCell_same (j.setCell ⟨w.heap.size+1,0,none⟩ (.string {data:=#[]})) (w.heap.size+1) 1 _ 98 (.slice none 0 0) X;rw [a2];rfl
  clear d g f;go_wp2
  all_goals (
   obtain ⟨t,P⟩:∃t,t=(j.setCell ⟨w.heap.size+1,0,none⟩ (.string {data:=#[]})).setCell ⟨w.heap.size+1,1,none⟩ (.slice none 0 0):=⟨_,rfl⟩;rw [<-P] at E y ⊢
   have z0:t.cell? ⟨w.heap.size+1,0,none⟩=some (.string {data:=#[]}):=by rw [cell_of_row t _ 0 _ _ (0,0) y];rfl
   have z1:t.cell? ⟨w.heap.size+1,1,none⟩=some (.slice none 0 0):=by rw [cell_of_row t _ 1 _ _ (0,0) y];rfl
   refine bodyPost_ret (v:=.tuple #[.agg #[.string {data:=#[]},.slice none 0 0],.int .i64 z]) ?_ rfl ⟨.slice none 0 0,by rw [K.o];rfl,by rw [K.o];exact bB.nil _ _,h.o.grown E h.o.size (by intro k Y;cases Y;omega)⟩
   clear y E P e0 e1;simp [results,Tryz.results100,go_sem, *])
def sQ (fs:List Fl):List Fl:=if jG fs=0 then fs else []
theorem Ed {fs:List Fl} (h:jG fs=0):sQ fs=fs:=by unfold sQ;rw [if_pos h]
theorem Ng {fs:List Fl} (h:jG fs=40):sQ fs=[]:=by unfold sQ;rw [h,if_neg (by decide)]
theorem qui (base:Nat) (v:Value) (a:au) (n c:Nat) (fs:List Fl) (w:World) (hv:v=.slice a n c) (h:bJ w base v fs) (B:n=fs.length) (E:base<=w.heap.size) (r:okB fs):
  Calls Tryz.prog 155 #[v] w fun e w'=>∃C,e=.returned (.tuple #[.agg #[C],.int .i64 (jG fs)])∧bJ w' base C (sQ fs)∧ah w w':=by
 subst hv;have l:ah w (w.alloc (.cells #[.slice none 0 0] 30)):=ae;have b:=qv9 a n c fs _ (h.rd.a l) B r;have p:=ag l;have q:=ag (dV.new w (.slice none 0 0));have D:=ag (h.a l);clear h B r l;obtain ⟨J,i⟩:=ai (w.alloc (.cells #[.slice none 0 0] 30));rw [<-i] at p q D b;by_cases g:(dS fs).length<=2048
 ·have s:=ag (show jG fs=0 by unfold jG;rw [if_pos g])
  rw [show decide ((dS fs).length<=2048)=true by simpa using g] at b;clear g;go_enter Tryz.func155,Tryz.ntmps155;go_wp2_with fail
  rw [<-i];refine b.mono ?_
  rintro e u ⟨rfl,d⟩;have j:=bT p d;have f:=ag (q.o.a d);have F:=ag (D.o.a d);clear d b i;have x:=f.o.cell;have G:=f.o.fz;obtain ⟨z,m, -⟩:=f.o.put (.slice a n c);go_wp2;obtain ⟨H,t⟩:=ai (u.setCell ⟨w.heap.size,0,none⟩ (.slice a n c));rw [<-t] at z m ⊢;refine bodyPost_ret (v:=.tuple #[.agg #[.slice a n c],.int .i64 0]) ?_ rfl ⟨.slice a n c,by rw [s.o],by rw [Ed s.o];obtain ⟨y,I⟩:=f.o;exact F.o.keptS m I (by decide) (by decide),j.o.grown m j.o.size (by intro k A;cases A;omega)⟩
  clear t m x;simp [results,Tryz.results155,go_sem, *]
 ·have s:=ag (show jG fs=40 by unfold jG;rw [if_neg g])
  rw [show decide ((dS fs).length<=2048)=false by simpa using g] at b;clear g;go_enter Tryz.func155,Tryz.ntmps155;go_wp2_with fail
  rw [<-i];refine b.mono ?_
  rintro e u ⟨rfl,d⟩;have j:=bT p d;have f:=ag (q.o.a d);clear d b i;have x:=f.o.cell;have G:=f.o.fz;obtain ⟨z,m, -⟩:=f.o.put (.slice none 0 0);go_wp2;obtain ⟨H,t⟩:=ai (u.setCell ⟨w.heap.size,0,none⟩ (.slice none 0 0));rw [<-t] at z m ⊢;refine bodyPost_ret (v:=.tuple #[.agg #[.slice none 0 0],.int .i64 40]) ?_ rfl ⟨.slice none 0 0,by rw [s.o],by rw [Ng s.o];exact bJ.nil _ _,j.o.grown m j.o.size (by intro k A;cases A;omega)⟩
  clear t m x;simp [results,Tryz.results155,go_sem, *]
theorem qwg (a:au) (n c:Nat) (fs:List Fl) (w:World) (g:RdF w (.slice a n c) fs) (q:n=fs.length) (k:wfFs fs):
  Calls Tryz.prog 149 #[.agg #[.slice a n c]] w fun e w'=>∃v,e=.returned (.tuple #[v,.int .i64 (bA fs 4096)])∧bB w' w.heap.size v (mq fs)∧ah w w':=by
 obtain ⟨r,b⟩:=ai (w.alloc (.cells #[.slice a n c] 30));have h:ah w r:=by rw [b];exact ae
 have y:=ag (show r.heap[w.heap.size]? =some (.cells #[.slice a n c] 30 (0,0)) by rw [b];exact heap_alloc_new w _);have j:=Wq a n c fs 4096 r (g.a h) q k;have l:=ag h;have B:=ag (fun i (hb1:ah w i) (C:(cZ fs).length<=1000000)=>Y0 a n c fs i (g.a hb1) q C);clear g q k h;by_cases f:bA fs 4096=0
 ·have A:=ag (zW f).2
  have s:=ag (show mq fs=cZ fs by unfold mq;rw [if_pos f]);have t:=ag f;rw [f] at j;clear f;go_enter Tryz.func149,Tryz.ntmps149;go_wp2_with fail
  rw [<-b];refine j.mono ?_
  rintro e i ⟨rfl,hb1⟩;have d:=bT l hb1;have D:=ag ((hb1.block _ (Array.getElem?_eq_some_iff.1 y.o).1).trans y.o);have E:i.cell? ⟨w.heap.size,0,none⟩=some (.slice a n c):=by rw [cell_of_row i _ 0 _ _ (0,0) D.o];rfl
  clear hb1 j b;go_wp2_with fail
  refine (B.o i d.o (by have:=Gz A.o.2.1 A.o.1;omega)).mono ?_
  rintro e H ⟨I,rfl,m,p⟩;have u:=bT d p;have F:=ag (m.mono d.o.size);clear m p E;go_wp2;go_ret2;exact ⟨_,by rw [t.o];rfl,by rw [s.o];exact F.o,u.o⟩
 ·have s:=ag (show mq fs=[] by unfold mq;rw [if_neg f])
  obtain ⟨z,x⟩:=ai (bA fs 4096);have t:=ag x.symm;rw [<-x] at j f;have G:(z==0)=false:=by simpa using f
  clear x;go_enter Tryz.func149,Tryz.ntmps149;go_wp2_with fail
  rw [<-b];refine j.mono ?_
  rintro e i ⟨rfl,hb1⟩;have d:=bT l hb1;clear hb1 j b;go_wp2;all_goals (go_ret2;exact ⟨.slice none 0 0,by rw [t.o];rfl,by rw [s.o];exact bB.nil _ _,d.o⟩)
theorem AC (m:Nat) (w:World) (A:m<=1000000):
  Calls Tryz.prog 187 #[.slice none 0 0,.int .i64 m] w fun e w'=>∃v,e=.returned v∧bB w' w.heap.size v []∧ah w w':=by
 by_cases r:m=0
 ·subst r
  go_enter Tryz.func187,Tryz.ntmps187;go_wp2;go_ret;exact ⟨_,rfl,bB.nil _ _,aB⟩
 ·obtain ⟨n,h,i,l,g⟩:=info_parts Tryz.infoEx
  have f:(Builtin.firstCells n.size 0 (.slice none 0 0)).run Tryz.prog w.drew=.ok ([]:List Value).toArray w.drew:=by simp [Builtin.firstCells]
  have a:=fun s=>Lib.run_append_grow_zeros (P:=Tryz.prog) w 96 3 s 185 n _ .i64 .i64 Tryz.underlying96 Tryz.underlying3 h i none 0 0 [] f m (by omega) (by omega) (by omega) (by omega) (by rw [g];omega) (by rw [g];exact growslice_fits (by omega) (by omega))
  rw [Nat.zero_add] at a;obtain ⟨G,k⟩:=ai (grownCap w m 0 185);have t:m<=G:=by rw [k];exact grownCap_ge w _ _ _
  have p:G<=maxLen:=by rw [k];exact grownCap_le_maxLen w _ _ _ (by unfold maxLen;omega)
  rw [<-k] at a;obtain ⟨b,c⟩:∃b:Array Value,b=([]:List Value).toArray++Builtin.zeroCells (Value.cells (.agg #[.int .i64 0,.int .i64 0])) m++Builtin.zeroCells (Value.cells (.agg #[.int .i64 0,.int .i64 0])) (G - m):=⟨_,rfl⟩;rw [<-c] at a
  have j:b.size=G*2:=by
   have e0:Value.cells (.agg #[.int .i64 0,.int .i64 0])=#[.int .i64 0,.int .i64 0]:=rfl;rw [c,e0];simp only [Array.size_append,List.size_toArray,Builtin.zeroCells,Array.size_map,Array.size_range,List.length_map,List.length_range,List.length_cons,List.length_nil];omega
  obtain ⟨q,d⟩:=ai (w.drew.alloc (.cells b 185));rw [<-d] at a;have u:=ag (show bB q w.heap.size (.slice (some ⟨w.heap.size,0,none⟩) 0 G) [] from ⟨rfl,.inr ⟨w.heap.size,G,b,rfl,Nat.le_refl _,by rw [d];exact heap_alloc_new w.drew _,Nat.zero_le _,p,j,by simp [cellsE]⟩⟩);have x:=ag (show ah w q by rw [d];exact (Below.refl w.heap.size w).drew.alloc aI _);unfold maxLen at p;clear d j c k f h i l g;have y:¬((m:Int)<0):=by omega
  have z:(0:Int)<m:=by omega
  go_enter Tryz.func187,Tryz.ntmps187;go_wp2_with (at_builtin;refine qh4 rfl (.tmp 20) (.tmp 21) 96 3 rfl rfl rfl (a _) ?_)
  go_ret;exact ⟨_,rfl,u.o,x.o⟩
theorem qom (b:Nat) (u:au) (n1 c1:Nat) (a2:au) (n2 c2:Nat) (j k:List Ex) (w:World) (c:w.heap[b]? =some (.cells #[.slice u n1 c1,.slice a2 n2 c2] 96 (0,0)))
  (D:RdE w (.slice u n1 c1) j) (l:n1=j.length) (E:RdE w (.slice a2 n2 c2) k) (n:n2=k.length) (F:j.length+k.length<=1000000):
  Calls Tryz.prog 150 #[.slice (some ⟨b,0,none⟩) 2 2] w fun e w'=>∃v,e=.returned v∧bB w' w.heap.size v (j++k)∧ah w w':=by
 have y:w.cell? ⟨b,0,none⟩=some (.slice u n1 c1):=by rw [cell_of_row w _ 0 _ _ (0,0) c];rfl
 have z:w.cell? ⟨b,1,none⟩=some (.slice a2 n2 c2):=by rw [cell_of_row w _ 1 _ _ (0,0) c];rfl
 have p:=ag y;have G:=ag z;have J:=ag D;have K:=ag E;have L:=ag l;have M:=ag n;have H:=ag F;have N:n1<=1000000:=by omega
 have O:n1+n2<=1000000:=by omega
 clear D E l n c F;go_enter Tryz.func150,Tryz.ntmps150;go_wp2;go_loop [3,11] (fun x i=>(x=.int .i64 0∧i=.int .i64 0)∨(x=.int .i64 n1∧i=.int .i64 1)∨(x=.int .i64 ((n1:Int)+n2)∧i=.int .i64 2)) (fun _ i=>2 - (intOf i).toNat)
 case atStart=>exact .inl ⟨rfl,rfl⟩
 case round=>
  rcases hrel with ⟨rfl,rfl⟩ | ⟨rfl,rfl⟩ | ⟨rfl,rfl⟩
  ·have g:¬((n1:Int)<0):=by omega
   go_wp2;go_round
   case rel=>exact .inr (.inl ⟨rfl,rfl⟩)
   case measure=>simp [intOf]
  ·have g:¬((n1:Int)+n2<0):=by omega
   go_wp2;go_round
   case rel=>exact .inr (.inr ⟨rfl,rfl⟩)
   case measure=>simp [intOf]
  ·clear y z
   obtain ⟨m,P⟩:=ai (n1+n2);have q:(n1:Int)+n2=(m:Int):=by omega
   rw [q];have A:m<=1000000:=by omega
   clear P q;go_wp2_with fail
   refine (AC m _ A).mono ?_
   rintro e U ⟨V,rfl,r,f⟩;have I:=ag r;clear r;go_wp2;go_loopw [6,27] (fun v i wr=>((i=.int .i64 0∧af (bB wr w.heap.size v []))∨(i=.int .i64 1∧af (bB wr w.heap.size v j))∨(i=.int .i64 2∧af (bB wr w.heap.size v (j++k))))∧ah w wr) (fun _ i _=>2 - (intOf i).toNat)
   case atStart=>exact ⟨.inl ⟨rfl,I⟩,f⟩
   case round=>
    obtain ⟨Q,a⟩:=hrel;clear I f;have y:wr.cell? ⟨b,0,none⟩=some (.slice u n1 c1):=by rw [a.cell (World.block_lt_of_cell? w _ p.o)];exact p.o
    have z:wr.cell? ⟨b,1,none⟩=some (.slice a2 n2 c2):=by rw [a.cell (World.block_lt_of_cell? w _ G.o)];exact G.o
    rcases Q with ⟨rfl,h⟩ | ⟨rfl,h⟩ | ⟨rfl,h⟩
    ·obtain ⟨R,S,T,d,s,t⟩:=Er h.o a.size (J.o.a a) L.o (by have:=H.o;simp;omega)
     have B:=ag s;have C:=ag (a.trans t);clear s t h;go_wp2_with (at_builtin;refine ku rfl (.tmp 31) (.tmp 32) 96 rfl rfl rfl rfl d ?_)
     go_roundw
     case rel=>exact ⟨.inr (.inl ⟨rfl,ag (by simpa using B.o)⟩),C.o⟩
     case measure=>simp [intOf]
    ·obtain ⟨R,S,T,d,s,t⟩:=Er h.o a.size (K.o.a a) M.o (by have:=H.o;omega)
     have B:=ag s;have C:=ag (a.trans t);clear s t h;go_wp2_with (at_builtin;refine ku rfl (.tmp 31) (.tmp 32) 96 rfl rfl rfl rfl d ?_)
     go_roundw
     case rel=>exact ⟨.inr (.inr ⟨rfl,ag (by simpa using B.o)⟩),C.o⟩
     case measure=>simp [intOf]
    ·go_wp2
     go_ret;exact ⟨_,rfl,h.o,a⟩
theorem vJ {fs:List Fl} {q f:Fl} (h:f∈cO fs q):f∈fs∨f=q:=by
 unfold cO at h;rcases List.mem_append.1 h with h | h
 ·exact .inl (List.mem_of_mem_take h)
 ·rcases List.mem_cons.1 h with h | h
  ·exact .inr h
  ·exact .inl (List.mem_of_mem_drop h)
theorem Qp (fs:List Fl) (q:Fl):(cO fs q).length=fs.length+1:=by
 have:=NR fs q.1
 simp only [cO,List.length_append,List.length_take,List.length_cons,List.length_drop];omega
theorem EI {s:ak} (h:jw s=true):s.length<=16:=by simp only [jw,Bool.and_eq_true,decide_eq_true_eq] at h;omega
theorem D8 {fs:List Fl} {q:Fl} (h:okB fs) (c:fs.length<=999) (b:q.1.length<=1000∧q.2.length<=1000∧∀x∈q.2,0<=x.1∧x.1<=4096∧0<=x.2∧x.2<=4096):okB (cO fs q):=by
 refine ⟨by rw [Qp];omega,fun f a=>?_⟩;rcases vJ a with a | rfl
 ·exact h.2 f a
 ·exact b
end Go.Proofs.YthpammbgcidloaaGreat
