/-
  What wal's put and refused do.
-/
import Derived.Test.YtmeaiocohalphaaGreatDoorRowG
set_option maxHeartbeats 2000000
set_option maxRecDepth 100000
namespace Go.Proofs.YtmeaiocohalphaaGreatDoor
open Go.RowKit
set_option linter.all false
variable {b:Array Oper}{w w' w0:World}{B base c n p:Nat}{v:Value}{l:az}{P:Program}{rest:List Oper}{o:Oper}{Q:Exit->Act->World->Prop}{t:TypeId}{cs:Array Value}{f:aR}
theorem fH{a b:Bool}(h:a=b):Ending.returned (.bool a)=.returned (.bool b):=by rw[h]
theorem qqq{a b:Int}(h:a=b):Ending.returned (.int .i64 a)=.returned (.int .i64 b):=by rw[h]
def fB (w:World) (base:Nat) (v:Value) (l:az):Prop:=w.ownsRow base 5 1 v l.length (bO l)
theorem fB.rd(h:fB w base v l):Rd w v l:=BL h
theorem fB.a(h:fB w base v l)(hb:ah w w'):fB w' base v l:=pI h hb
theorem fB.form(h:fB w base v l):∃a c,v=.slice a l.length c:=by
 rcases h.2 with⟨rfl,b⟩|⟨g,cap,d,rfl,_⟩
 ·rw[b];exact⟨_,_,rfl⟩
 exact⟨_,_,rfl⟩
theorem fB.mono{a:Nat}(h:fB w base v l)(hb:a<=base):fB w a v l:=by
 refine⟨h.1, ?_⟩;rcases h.2 with h|⟨g,cap,b,e,c,d⟩
 ·exact .inl h
 exact .inr ⟨g,cap,b,e,aG hb c,d⟩
theorem fB.nil(w:World)(base:Nat):fB w base (.slice none 0 0) []:=Xa7 w base _ _
theorem qag5(h:fB w base v l)(c:w.grownBy w' v.ownBlock):bF 5 w w':=by
 intro j cs i k d b;rw[c.block j (Xd6.1 b).1 ?_]
 ·exact b
 intro e;rcases h.2 with⟨rfl,m⟩|⟨g,cap,f,rfl,_,a,_⟩
 ·cases e
 cases e;rw[b]at a;cases a;exact d rfl
theorem EF(h:fB w base v l)(hb:base<=w.heap.size){i:Value}{e:az}(E:Rd w i e)(hl:l.length+e.length<=1000000000):
  ∃a n c w',af (n=(l++e).length)∧(Builtin.append_ #[23,23] 23 #[v,i]).run Tryz.prog w=.ok (.slice a n c) w'∧fB w' base (.slice a n c) (l++e)∧Below base w w'∧bF 5 w w':=by
 obtain⟨A,hi,q,r,s⟩:=info_parts Tryz.infoB;have g:∀o m c,i=.slice (some o) m c->m=e.length->(∀j u,(bO e)[j]? =some u->w.cell? (o.add j)=some u)->∃a n c w',af (n=(l++e).length)∧(Builtin.append_ #[23,23] 23 #[v,i]).run Tryz.prog w=.ok (.slice a n c) w'∧fB w' base (.slice a n c) (l++e)∧Below base w w'∧bF 5 w w':=by
  rintro o m c rfl rfl F;obtain⟨G,t,H,B,C,_⟩:=run_append_own (P:=Tryz.prog) w base 23 23 5 A _ 1 1 Tryz.underlying23 hi q r s rfl (by decide) _ _ _ h o e.length c (bO e) (by simp[bO]) F (JM e) (by unfold maxLen;omega) (by omega) hb;have I:Below base w t:=aF.grown C hb fun k J=>(h.lt k J).1
  rw[<-Xa0,<-PR]at B;have D:fB t base G (l++e):=B;obtain⟨b,p,rfl⟩:=D.form;exact⟨b,_,p,t,ag rfl,H,D,I,qag5 h C⟩
 rcases E with⟨rfl,rfl|⟨x,d,rfl⟩⟩|⟨b,K,p,rfl,L,M,f⟩
 ·obtain⟨b,p,rfl⟩:=h.form
  refine⟨b,_,p,w,ag rfl, ?_,by simpa using h,aF,bF.below aF⟩;rw[Xc8];exact run_append_owned_none (P:=Tryz.prog) (w:=w) base 23 23 5 A 1 Tryz.underlying23 hi _ _ _ h
 ·exact g _ _ _ rfl rfl (fun j u y=>by simp[bO]at y)
 refine g _ _ _ rfl rfl fun j u y=>?_
 obtain⟨z,rfl⟩:=JN e j u y;rw[Addr.add_lit];exact f j z
theorem xu(h:Rd w v l):(convert 23 9 v).run Tryz.prog w=.ok (.string (bs l)) w:=sD _ _ _ Tryz.underlying23 Tryz.underlying5 Tryz.underlying9 h
theorem xw{a:Act}(d:o.guard=none)(s x:Operand)(t:TypeId)
  (g:o.op=.call {callee:=.builtin .append,args:=#[s,x],argTypes:=#[t,t]}) (e:o.type=t) {v f v':Value} (i:a.eval s=v) (j:a.eval x=f)
  (c:(Builtin.append_ #[t,t] t #[v,f]).run P w=.ok v' w') (h:wpList P b Q rest (a.put o.dst v') w'):wpList P b Q (o::rest) a w:=by
 refine wpList_plain d fun K k=>?_
 unfold Oper.wp execOp;simp only[g,e,resolve,invoke,builtin,Sem.run_bind,Sem.run_pure,Result.andThen_ok,List.map_toArray,List.map_cons,List.map_nil,i,j,c];exact k _ _ h
theorem qak8(n:Nat)(w:World)(a:n<18446744073709551616):Calls Tryz.prog 86 #[.int .u64 n] w fun e w'=>∃v,e=.returned v∧fB w' w.heap.size v (sm n)∧ah w w':=Nh n w a
theorem XJ(n:Nat)(w:World)(a:n<18446744073709551616):Calls Tryz.prog 133 #[.int .u64 n] w fun e w'=>∃v,e=.returned v∧fB w' w.heap.size v (sm n)∧ah w w':=qjh n w a
theorem MO(s:az)(w:World)(a:s.length<=1000000):Calls Tryz.prog 60 #[.string (bs s)] w fun e w'=>∃v,e=.returned v∧fB w' w.heap.size v (tx s)∧ah w w':=by
 have:=qws (bs s) w (by rw[rf];omega)
 rwa [zk]at this
theorem QN(s:az)(w:World)(a:s.length<=1000000):Calls Tryz.prog 63 #[.string (bs s)] w fun e w'=>∃v,e=.returned v∧fB w' w.heap.size v (tx s)∧ah w w':=by
 have:=qsc (bs s) w (by rw[rf];omega)
 rwa [zk]at this
theorem qgj(h:Below B w w')(n:Nat):Below B w (w'.drewN n):=⟨h.os,h.tape,h.output,h.size,h.block⟩
def Bx (w:World) (p:Nat) (t:TypeId) (cs:Array Value):Prop:=w.heap[p]? =some (.cells cs t (0,0))
theorem Bx.lt(h:Bx w p t cs):p<w.heap.size:=(Xd6.1 h).1
theorem Bx.a(h:Bx w p t cs)(hb:ah w w'):Bx w' p t cs:=(hb.block _ h.lt).trans h
theorem Bx.keep{a:TypeId}(h:Bx w p t cs)(b:bF a w w')(c:t≠a):Bx w' p t cs:=b p _ _ _ c h
theorem Bx.cell(h:Bx w p t cs)(j:Nat):w.cell? ⟨p,j,none⟩=cs[j]?:=cell_of_row w p j cs t (0,0) h
theorem Bx.at(h:Bx w p t cs)(j:Nat){u:Value}(a:cs[j]? =some u):w.cell? ⟨p,j,none⟩=some u:=(h.cell j).trans a
theorem Bx.fz(h:Bx w p t cs)(j:Nat):w.frozen? ⟨p,j,none⟩=false:=frozen_of_row w p j _ _ h
theorem Bx.new(w:World)(t:TypeId)(cs:Array Value):Bx (w.alloc (.cells cs t)) w.heap.size t cs:=heap_alloc_new w _
theorem Bx.put(h:Bx w p t cs)(j:Nat)(v:Value):Bx (w.setCell ⟨p,j,none⟩ v) p t (cs.setIfInBounds j v):=heap_setCell_same w p j cs t v h
theorem Bx.other{q:Nat}(h:Bx w p t cs)(a:p≠q)(j:Nat)(v:Value):Bx (w.setCell ⟨q,j,none⟩ v) p t cs:=(heap_setCell_other w ⟨q,j,none⟩ p v (fun e:p=q=>a e)).trans h
theorem CV(h:Bx w p t cs)(j:Nat)(v:Value):bF t w (w.setCell ⟨p,j,none⟩ v):=by
 intro k c f g d a;have b:k≠p:=by
  rintro rfl;unfold Bx at h;rw[h]at a;cases a;exact d rfl
 exact(heap_setCell_other w ⟨p,j,none⟩ k v (fun e:k=p=>b e)).trans a
theorem Gd{W:World}(h:Below B W w)(b:B<=p)(j:Nat)(v:Value):Below B W (w.setCell ⟨p,j,none⟩ v):=
 ⟨h.os,h.tape,h.output,by simpa using h.size,fun k a=>(heap_setCell_other w ⟨p,j,none⟩ k v (fun e:k=p=>by omega)).trans (h.block k a)⟩
theorem cO.keep{α:Type}{sz:Nat}{ec:α->List Value}{b:TypeId}{l:List α}(h:cO sz ec t w base v l)(c:bF b w w')(d:t≠b):cO sz ec t w' base v l:=by
 refine⟨h.1, ?_⟩;rcases h.2 with h|⟨g,cap,a,e,f,i,j⟩
 ·exact .inl h
 exact .inr ⟨g,cap,a,e,f,c g _ _ _ d i,j⟩
theorem Bd(h:Rd w v l):∃a c,v=.slice a l.length c:=by
 rcases h with⟨rfl,rfl|⟨a,c,rfl⟩⟩|⟨b,d,c,rfl,_⟩<;>exact⟨_,_,rfl⟩
theorem qxv{a:aA}(h:Rd w (.slice a n c) l)(j:Nat)(f:j<l.length):∃g d,a=some ⟨g,d,none⟩∧w.cell? ⟨g,d+j,none⟩=some (.int .u8 (l[j]).toNat):=by
 rcases h with⟨rfl,_⟩|⟨b,d,k,e,_,_,i⟩
 ·exact absurd f (by simp)
 cases e;exact⟨b,d,rfl,i j f⟩
theorem RU{b a k:Nat}(g:n=l.length)(o:n<=c)(p:c<=maxLen)(q:k<=n)(i:k≠c):∀d,Rd d (.slice (some ⟨b,a,none⟩) n c) l->Rd d (.slice (some ⟨b,a+k,none⟩) (l.drop k).length (c-k)) (l.drop k):=by
 subst g;have hl:(l.drop k).length=l.length-k:=Xa9;intro d h;rcases h with⟨h,_⟩|⟨r,f,s,e,t,u,m⟩
 ·have:l.drop k=[]:=by rw[h];simp
  rw[this];exact .inl ⟨rfl,.inr ⟨_,_,rfl⟩⟩
 cases e;refine .inr ⟨b,a+k,c-k,rfl,by omega,by omega,fun j v=>?_⟩;rw[List.getElem_drop,Nat.add_assoc];exact m (k+j) (by omega)
theorem IM(b:World):(sizeOf (Tryz.prog.elem 23)).run Tryz.prog b=.ok 1 b:=by
 rw[show Tryz.prog.elem 23=5 by kernel_rfl];obtain⟨e,hi,c,a,d⟩:=info_parts Tryz.infoB;simp[sizeOf,typeInfo,hi,a]
theorem VV{a:aA}(h:Rd w (.slice a n c) l)(k:Nat)(m:k<=l.length):
  ∃a2 c2,(∀f,(Instr.slice 23 (.slice a n c) (some (.int .i64 k)) none none).run Tryz.prog f=.ok (.slice a2 (n-k) c2) f)∧∀f,Rd f (.slice a n c) l->Rd f (.slice a2 (n-k) c2) (l.drop k):=by
 obtain⟨t,p,e⟩:=Bd h;cases e;have g:∀f,(Instr.slice 23 (.slice a l.length c) (some (.int .i64 k)) none none).run Tryz.prog f=.ok (sliced a k l.length c 1) f:=by
  intro f;rw[run_slice_l f 23 a l.length c (by kernel_rfl) .i64 k (by omega) (by omega),IM f];simp[Result.andThen]
 unfold sliced at g;rcases h with⟨rfl,e|⟨x,d,e⟩⟩|⟨b,j,p,e,q,r,u⟩
 ·cases e
  obtain rfl:k=0:=by simpa using m
  exact⟨none,0,by simpa using g,fun f _=>by simpa using(show Rd f (.slice none 0 0) []from .inl ⟨rfl,.inl rfl⟩)⟩
 ·cases e
  obtain rfl:k=0:=by simpa using m
  by_cases o:c=0
  ·exact⟨some x,c,by simpa [o]using g,fun f _=>by simpa using(show Rd f (.slice (some x) 0 c) []from .inl ⟨rfl,.inr ⟨_,_,rfl⟩⟩)⟩
  exact⟨some (x.add 0),c,by simpa [o]using g,fun f _=>by simpa using(show Rd f (.slice (some (x.add 0)) 0 c) []from .inl ⟨rfl,.inr ⟨_,_,rfl⟩⟩)⟩
 cases e;by_cases i:c=k
 ·refine⟨some ⟨b,j,none⟩,c-k,by simpa [i]using g,fun f _=>?_⟩
  have e1:l.drop k=[]:=List.drop_of_length_le (by omega);rw[e1,show l.length-k=0 by omega];exact .inl ⟨rfl,.inr ⟨_,_,rfl⟩⟩
 refine⟨some ⟨b,j+k,none⟩,c-k,by simpa [i,Addr.add_lit]using g,fun f s=>?_⟩
 have:=RU rfl q r m (Ne.symm i) f s
 rwa [Xa9]at this
theorem qqr{a:aA}(h:Rd w (.slice a n c) l)(k:Nat)(g:k<=l.length):n<=c∧Rd w (.slice a k c) (l.take k):=by
 rcases h with⟨rfl,e|⟨x,d,e⟩⟩|⟨b,f,p,e,i,m,o⟩
 ·cases e
  obtain rfl:k=0:=by simpa using g
  exact⟨Nat.le_refl _,.inl ⟨rfl,.inl rfl⟩⟩
 ·cases e
  obtain rfl:k=0:=by simpa using g
  exact⟨Xd5 _,.inl ⟨rfl,.inr ⟨_,_,rfl⟩⟩⟩
 cases e;have e1:(l.take k).length=k:=by rw[Xa4];omega
 refine⟨i,.inr ⟨b,f,c,by rw[e1],by omega,m,fun j q=>?_⟩⟩;rw[List.getElem_take];exact o j (by omega)
theorem qor{a:Act}(d:o.guard=none)(x f:Operand)(t:TypeId)(j:P.underlying t=some (.slice (P.elem t)))
  (k:o.op=.slice t x (some f) none none) {v g v':Value} (l:a.eval x=v) (e:a.eval f=g) (c:∀i,(Instr.slice t v (some g) none none).run P i=.ok v' i) (h:wpList P b Q rest (a.put o.dst v') w):wpList P b Q (o::rest) a w:=by
 refine wpList_plain d fun K m=>?_
 unfold Oper.wp execOp;simp only[k,Option.map_some,Option.map_none,l,e,run_sliceAt_slice w t _ _ _ _ j,Sem.run_bind,c w,Result.andThen_ok,Sem.run_pure];exact m _ _ h
def MP:Value->Nat
 | .slice _ n _=>n
 |_=>0
theorem qvf(l:az):splice (List.replicate 128 0) 0 (l.take 128)=ll (l.take 128):=by
 rw[qzb];unfold Ap ll;rw[Xa4];congr 2
 omega
theorem VW(n k:Nat):k<dX n↔k=0∨128*k<n:=by unfold dX;omega
theorem qtc(a:aA)(n c:Nat)(b:az)(w:World)(j:Rd w (.slice a n c) b)(hn:n=b.length)(hl:b.length<=1000000):
  Calls Tryz.prog 43 #[.slice a n c] w fun e w'=>∃v,e=.returned v∧iN w' w.heap.size v (di b)∧ah w w':=by
 have hm:n<=1000000:=by omega
 have HR:=ag j;have R:=ag hn;have S:=ag (show dX n<=1000000 by unfold dX;omega);clear j hn hl;go_enter Tryz.func43,Tryz.ntmps43;go_wp2;go_loopw [0,3] (fun bv v wr=>∃(k m:Nat) (T E:aA) (U F:Nat),k<=dX n∧m=n-128*k∧bv=.slice T m U∧v=.slice E k F∧af (Rd w (.slice T m U) (b.drop (128*k)))∧af (iN wr w.heap.size (.slice E k F) ((di b).take k))∧af (ah w wr)) (fun _ v _=>dX n-MP v)
 case atStart=>exact⟨0,n,a,none,c,0,Xd5 _,by omega,rfl,rfl,ag (by rw[Nat.mul_zero,List.drop_zero];exact HR.o),ag (by rw[Xc2];exact iN.nil _ _),ag aF⟩
 obtain⟨k,m,T,E,U,F,hk,G,rfl,rfl,j,q,f⟩:=hrel;by_cases l:k<dX n
 ·have H:k<(di b).length:=by rw[Gb,<-R.o];exact l
  have HT:=ag (show(di b).take (k+1)=(di b).take k++[ll ((b.drop (128*k)).take 128)]by
   rw[Xa2 H,qxs])
  have xV:=ag (show((di b).take k).length=k by rw[Xa4];omega);have r:(b.drop (128*k)).length=m:=by rw[Xa9,<-R.o];omega
  obtain⟨p,V⟩:=ak (((b.drop (128*k)).take 128).length);have I:p=min 128 m:=by rw[V,Xa4,r]
  have W:=ag V.symm;obtain⟨a2,c2,J,Gf⟩:=VV j.o p (by omega);have K:=ag (show Rd w (.slice a2 (m-p) c2) (b.drop (128*(k+1)))by
   have L:=Gf w j.o;rw[List.drop_drop]at L;rcases Nat.lt_or_ge m 128 with h8|h8
   ·have e1:b.drop (128*k+p)=[]:=List.drop_eq_nil_of_le (by rw[Xa9]at r;omega)
    have e2:b.drop (128*(k+1))=[]:=List.drop_eq_nil_of_le (by rw[Xa9]at r;omega);rw[e2];rw[e1]at L;exact L
   rw[show 128*(k+1)=128*k+p by omega]
   exact L)
  have ad:=ag I;have CW:=ag G;obtain⟨P,Gg,M,y⟩:=Vp wr;have Q:=f.o.size;have X:=ag (show ah w P from f.o.trans (y.mono Q));have iC:=ag M;have VX:=ag (j.o.a X.o);have N:=ag y;have VY:=ag (fun (s:World) (i:P.grownBy s (some wr.heap.size)) (g:bG s wr.heap.size (.slice (some ⟨wr.heap.size,0,none⟩) 128 128) (splice (List.replicate 128 0) 0 ((b.drop (128*k)).take 128)))=>by
   have z:ah wr s:=N.o.grown i N.o.size (by intro k hk;cases hk;omega);rw[qvf]at g;have ai:(ll ((b.drop (128*k)).take 128)).length=128:=qxr (by rw[W.o];omega);obtain⟨D,x,A,d,t,B⟩:=qakt (q.o.a z) (aG Q z.size) (by rw[xV.o];have:=S.o;omega) (some ⟨wr.heap.size,0,none⟩) 128 128 _ (g.mono Q);rw[xV.o]at d t;rw[<-HT.o]at t;exact(⟨D,x,A,d,t,(f.o.trans (z.mono f.o.size)).trans B⟩:∃D x A,(Builtin.append_ #[89,89] 89 #[.slice E k F,.slice (some ⟨s.heap.size,0,none⟩) 1 1]).run Tryz.prog (s.alloc (.cells #[.slice (some ⟨wr.heap.size,0,none⟩) 128 128] 23))=.ok (.slice (some ⟨D,0,none⟩) (k+1) x) A∧iN A w.heap.size (.slice (some ⟨D,0,none⟩) (k+1) x) ((di b).take (k+1))∧ah w A))
  have O:n-128*(k+1)=m-p:=by omega
  have zN:=ag O.symm;have C:k=0∨(((k:Int)==0)=false∧(k==0)=false∧0<m∧(0:Int)<m):=by
   rcases(VW n k).1 l with h|h
   ·exact .inl h
   by_cases Y:k=0
   ·exact .inl Y
   exact .inr ⟨by simpa using Y,by simpa using Y,by omega,by omega⟩
  clear M y Gf V I G r H O Q hm;rcases C with Z|⟨aa,ac,aj,al⟩
  ·subst Z
   go_wp2_with (first|(refine qgf P rfl (.tmp 15) (.tmp 16) 23 rfl Tryz.underlying23 Tryz.sizeB wr.heap.size wr.heap.size 128 128 0 128 128 rfl _ _ rfl VX.o _ iC.o (by simp) ?_;intro s i g;obtain⟨D,x,A,d,t,B⟩:=VY.o s i g;have iU:=ag t;have dG:=ag B;clear i g t B;rw[W.o])|(refine qor rfl (.tmp 14) (.tmp 17) 23 (by kernel_rfl) rfl rfl rfl J ?_)|(at_builtin;refine kS rfl (.tmp 19) (.tmp 21) 89 rfl rfl rfl rfl d ?_))
   go_roundw
   case rel=>exact⟨0+1,m-p,a2,_,c2,x,l,zN.o,rfl,rfl,K,iU,dG⟩
   simp only[MP];omega
  go_wp2_with (first|(refine qgf P rfl (.tmp 15) (.tmp 16) 23 rfl Tryz.underlying23 Tryz.sizeB wr.heap.size wr.heap.size 128 128 0 128 128 rfl _ _ rfl VX.o _ iC.o (by simp) ?_;intro s i g;obtain⟨D,x,A,d,t,B⟩:=VY.o s i g;have iU:=ag t;have dG:=ag B;clear i g t B;rw[W.o])|(refine qor rfl (.tmp 14) (.tmp 17) 23 (by kernel_rfl) rfl rfl rfl J ?_)|(at_builtin;refine kS rfl (.tmp 19) (.tmp 21) 89 rfl rfl rfl rfl d ?_))
  go_roundw
  case rel=>exact⟨k+1,m-p,a2,_,c2,x,l,zN.o,rfl,rfl,K,iU,dG⟩
  simp only[MP];omega
 obtain rfl:k=dX n:=by omega
 have u:=fun h=>l ((VW n (dX n)).2 h)
 have L:¬128*dX n<n:=fun h=>u (.inr h)
 obtain rfl:m=0:=by omega
 have aa:((dX n:Int)==0)=false:=by
  have:dX n≠0:=fun h=>u (.inl h)
  simpa using this
 have ac:(dX n==0)=false:=by
  have:dX n≠0:=fun h=>u (.inl h)
  simpa using this
 have HO:=ag (show iN wr w.heap.size (.slice E (dX n) F) (di b)by
  have:=q.o
  rwa [Xa1 (by rw[Gb,<-R.o];exact Nat.le_refl _)]at this)
 generalize dX n=kk at *;clear q u l;go_wp2;go_ret;exact⟨_,rfl,HO.o,f.o⟩
def Gi (w:World) (q:Nat):Prop:=∃y0 y1 y2,Bq w q 27 #[y0,y1,y2]
theorem Gi.a{r:Nat}(h:Gi w r)(hb:ah w w'):Gi w' r:=by
 obtain⟨a,b,c,h⟩:=h;exact⟨a,b,c,h.a hb⟩
theorem Gi.new(w:World):Gi (w.alloc (.cells #[.slice none 0 0,.slice none 0 0,.slice none 0 0] 27)) w.heap.size:=⟨_,_,_,Bq.new _ _ _⟩
def ab7:List Fl:=[([97],[(34,1)])]
def ma (x:az):aR:=((x,[],[]),1,ab7,[])
section
variable {x:az}
end
def gQ (w:World) (b o:Nat) (v:Value):Prop:=w.cell? ⟨b,o,none⟩=some v
theorem gQ.a{b o:Nat}(h:gQ w b o v)(hb:ah w w'):gQ w' b o v:=aV _ _ _ _ h hb
theorem Gj(h:bP f):jq f:=by
 have d:=((sM f.1).1 (oN h).1).2.2.1;have c:=(Ay (qxk h)).2;refine⟨(qr6 h).2, ?_, ?_⟩
 ·intro g a x b
  have:=EU (QJ h).2.2.1 x ((Vz a).subset b)
  unfold jg;omega
 intro g a x b;have:=EU c.2.2.1 x ((Vz a).subset b)
 unfold jg;omega
def lu (w0 w:World):Prop:=ah w0 w
theorem lu.refl(w:World):lu w w:=aF
theorem lu.a(h:lu w0 w)(hb:ah w w'):lu w0 w':=Below.trans h (hb.mono (Below.size h))
theorem lu.size(h:lu w0 w):w0.heap.size<=w.heap.size:=Below.size h
theorem qala{x y:aU}(h:x.val=y.val):x=y:=by
 cases x;cases y;simp at h
 simp[h];omega
theorem qalb{s:az}{vH:Int}{l:List (az)}(hw:jq f):∀k,(ny f s vH l k).2=0->jq (ny f s vH l k).1
 |0,_=>hw
 |k+1,h=>by
  rw[ny]at h⊢;by_cases a:(ny f s vH l k).2=0
  ·rw[if_neg (fun e=>e a)]at h⊢
   exact Gj (qxo h).1
  rw[if_pos a]at h;exact absurd h a
end Go.Proofs.YtmeaiocohalphaaGreatDoor
