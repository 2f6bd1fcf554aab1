/-
  Of the document's side of layer 6: Clear, Sync, Delete, Rename.
-/
import Derived.Test.YtmeaiocohalphaaGreatDoorRm8
set_option maxHeartbeats 4000000
set_option maxRecDepth 100000
namespace Go.Proofs.YtmeaiocohalphaaGreatDoor
open Go.RowKit
set_option linter.all false
variable {w:World}{a:Value}{f:aR}{p:Nat}{y:aU}
theorem sliceT{a:aA}{n c:Nat}{l:az}(h:Rd w (.slice a n c) l)(k:Nat)(f:k<=l.length):
  ∃a2 c2,(∀b,(Instr.slice 23 (.slice a n c) none (some (.int .i64 k)) none).run Tryz.prog b=.ok (.slice a2 k c2) b)∧∀b,Rd b (.slice a n c) l->Rd b (.slice a2 k c2) (l.take k):=by
 obtain⟨j,m,e⟩:=Bd h;cases e;have i:k<=c:=by
  have:=(qqr h k f).1
  omega
 have d:∀b,(Instr.slice 23 (.slice a l.length c) none (some (.int .i64 k)) none).run Tryz.prog b=.ok (sliced a 0 k c 1) b:=by
  intro b;rw[run_slice_h b 23 a l.length c (by kernel_rfl) .i64 k (by omega) (by omega),IM b];simp[Result.andThen]
 unfold sliced at d;cases a with
 |none=>
  refine⟨none,c,by simpa using d,fun b g=>(qqr g k f).2⟩
 |some x=>
  have e:(if c=0 then some x else Option.map (fun x=>x.add (0*1)) (some x))=some x:=by
   split
   ·rfl
   simp[Addr.add]
  simp only[Nat.sub_zero]at d;rw[e]at d;exact⟨some x,c,d,fun b g=>(qqr g k f).2⟩
theorem BD(n:Nat)(w:World)(a:n<=1000000):
  Calls Tryz.prog 57 #[.int .i64 n] w fun e w'=>e=.returned (.int .i64 (dX n:Nat))∧w'=w:=by
 have b:wrap64 ((n:Int)+128)=((n+128:Nat):Int):=by unfold wrap64;omega
 have c:wrap64 (((n+128:Nat):Int)-1)=((n+127:Nat):Int):=by unfold wrap64;omega
 have d:wrap64 (Int.tdiv ((n+127:Nat):Int) 128)=(((n+127) / 128:Nat):Int):=by
  rw[Int.tdiv_eq_ediv_of_nonneg (by omega)];unfold wrap64;omega
 go_enter Tryz.func57,Tryz.ntmps57;go_wp2;all_goals(go_ret;exact⟨by show Ending.returned (Value.int .i64 _)=_;congr 2;unfold dX;omega,rfl⟩)
theorem qtl(x:aU)(f:aR)(s:az)(w:World)(h:iJ w x f)(S:jq f):
  Calls Tryz.prog 59 #[x.val,.string (bs s)] w fun e w'=>∃v,e=.returned (.tuple #[v,.int .i64 (dB f s)])∧fB w' w.heap.size v (fM f s).flatten∧ah w w':=by
 have T:=ag S;clear S;obtain⟨E,u⟩:=au (w.alloc (.cells x.cs 33));have n:ah w E:=by rw[<-u];exact ae
 have U:=ag (show bB E w.heap.size x by rw[<-u];exact Bq.new _ _ _);obtain⟨F,G,H,I,J,K⟩:=bq U.o;have V:=ag h;have W:=ag n;clear h n;unfold aU.val;unfold aU.cs at u;go_enter Tryz.func59,Tryz.ntmps59;go_wp2_with fail
 refine(qzv x f s E (V.o.a W.o) T.o).mono ?_
 rintro e w2⟨rfl,l⟩;have jZ:=ag (U.o.a l);have X:=bT W l;clear F G H I J K u l;by_cases d:dB f s=0
 ·have Y:=ag d
  obtain⟨m,y⟩:=ak ((fM f s).length);have xJ:m<=4096:=by rw[y];exact VK f s
  have Z:=ag y;rw[d,jA d,<-y];clear d y;go_wp2;go_loopw [9,8] (fun i v wr=>∃(k:Nat) (A:aA) (B C:Nat),k<=m∧i=.int .i64 k∧v=.slice A B C∧af (fB wr (w.heap.size+1) (.slice A B C) ((fM f s).take k).flatten)∧af (bB wr w.heap.size x)∧af (ah w wr)) (fun i _ _=>m-(intOf i).toNat)
  case atStart=>exact⟨0,none,0,0,Xd5 _,rfl,rfl,ag (by rw[Xc2];exact fB.nil _ _),jZ,X⟩
  obtain⟨k,A,B,C,hk,rfl,rfl,a,D,p⟩:=hrel;by_cases L:k<m
  ·have aa:(k:Int)<m:=by omega
   have g:k<(fM f s).length:=by rw[<-Z.o];exact L
   have HT:=ag (show((fM f s).take (k+1)).flatten=((fM f s).take k).flatten++(fM f s)[k]by
    rw[Xa2 g,List.flatten_append];simp)
   have M:=ag (show((fM f s).take k).flatten.length<=1000000∧((fM f s)[k]).length=128 by
    have h1:=Uh ((fM f s).take k) (fun b hb=>oL b (Xb9 hb));have h2:((fM f s).take k).length<=k:=by rw[Xa4];omega
    exact⟨by omega,oL _ (Xa3 g)⟩)
   obtain⟨F,G,H,I,J,K⟩:=bq D.o;have N:=ag (qxq Y.o g);go_wp2_with fail
   refine(Vo x f s k wr (V.o.a p.o) T.o).mono ?_
   rintro e w3⟨v3,rfl,j,c⟩;rw[N.o.2]at j;rw[N.o.1];obtain⟨y3,z3,e3⟩:=j.form;rw[M.o.2]at e3;subst e3;have q:w.heap.size+1<=wr.heap.size:=by have:=D.o.lt;omega
   obtain⟨a9,n9,c9,w9, -,r,O,P, -⟩:=EF (a.o.a c) (aG q c.size) (bG.rd j) (by have:=M.o;omega);rw[<-HT.o]at O;have iU:=ag O;have t:=D.o.a c;have uG:=ag (t.below (by omega) P);have dG:=ag ((p.o.trans (c.mono p.o.size)).trans (P.mono (by omega)));clear O P j c a D t p F G H I J K N HT q M g;go_wp2_with (at_builtin;refine xw rfl (.tmp 33) (.tmp 34) 23 rfl rfl rfl rfl r ?_)
   go_roundw
   case rel=>exact⟨k+1,a9,n9,c9,by omega,by go_num,rfl,iU,uG,dG⟩
   simp only[intOf];omega
  have hd:decide ((k:Int)<m)=false:=aC (by omega);have HO:=ag (show fB wr (w.heap.size+1) (.slice A B C) (fM f s).flatten by
   have:=a.o
   rwa [Xa1 (by rw[<-Z.o];omega)]at this)
  clear a;go_wp2;go_ret2;exact⟨_,by rw[Y.o];rfl,fB.mono HO.o (by omega),p.o⟩
 have HZ:=ag (qak2 d);obtain⟨z,hz⟩:=ak (uT f s);obtain⟨e,Q⟩:=ak (dB f s);rw[<-Q]at d⊢;rw[<-hz];have ge:(e==0)=false:=Xe2 d
 have gn:(e !=0)=true:=Xe1 d;have R:=ag Q;clear hz Q d;go_wp2;go_ret2;exact⟨_,by rw[<-R.o];rfl,by rw[HZ.o];exact fB.nil _ _,X.o⟩
theorem qvp{P:Program}{b:Array Oper}{rest:List Oper}{o:Oper}{a:Act}{Q:Exit->Act->World->Prop}(d:o.guard=none)(x hi:Operand)(t:TypeId)(i:P.underlying t=some (.slice (P.elem t)))
  (j:o.op=.slice t x none (some hi) none) {v f v':Value} (k:a.eval x=v) (e:a.eval hi=f) (c:∀g,(Instr.slice t v none (some f) none).run P g=.ok v' g) (h:wpList P b Q rest (a.put o.dst v') w):wpList P b Q (o::rest) a w:=by
 refine wpList_plain d fun K l=>?_
 unfold Oper.wp execOp;simp only[j,Option.map_some,Option.map_none,k,e,run_sliceAt_slice w t _ _ _ _ i,Sem.run_bind,c w,Result.andThen_ok,Sem.run_pure];exact l _ _ h
theorem qaeh(x:aU)(f:aR)(s:az)(n:Int)(w:World)(h:iJ w x f)(z:jq f):
  Calls Tryz.prog 22 #[x.val,.string (bs s),.int .i64 n] w fun e w'=>∃v,e=.returned (.tuple #[v,.int .i64 (nU f s n)])∧Rd w' v (tV f s n)∧ah w w':=by
 have I:=ag z;clear z;obtain⟨r,p⟩:=au (w.alloc (.cells x.cs 33));have j:ah w r:=by rw[<-p];exact ae
 have J:=ag (show bB r w.heap.size x by rw[<-p];exact Bq.new _ _ _);obtain⟨K,L,M,N,O,P⟩:=bq J.o;have Q:=ag h;have A:=ag j;clear h j;unfold aU.val;unfold aU.cs at p;go_enter Tryz.func22,Tryz.ntmps22;go_wp2_with fail
 refine(qtl x f s r (Q.o.a A.o) I.o).mono ?_
 rintro e R⟨W,rfl,d,k⟩;have t:=bT A k;obtain⟨a2,c2,B⟩:=fB.form d;obtain⟨n2,g⟩:=ak ((fM f s).flatten.length);rw[<-g]at B;subst B;have C:=ag (fB.rd d);have D:=ag g;clear K L M N O P p k d g;by_cases c:dB f s=0
 ·have E:=ag c
  rw[c];have l:=ag (show n2=128*(fM f s).length∧n2<=1000000 by have F:=D.o;have S:=QM f s;have T:=VK f s;omega);clear c;by_cases a:n<0∨(n2:Int)<n
  ·have b:=ag (VT (n:=n) E.o (by have:=l.o.1;omega))
   have i:n<0∨(decide (n<0)=false∧(n2:Int)<n):=by
    rcases a with h|h
    ·exact .inl h
    by_cases m:n<0
    ·exact .inl m
    exact .inr ⟨Xd7 m,h⟩
   clear a;rcases i with m|⟨m,F⟩
   all_goals
    go_wp2;go_ret2;exact⟨_,by rw[b.o.1];rfl,by rw[b.o.2];exact .inl ⟨rfl,.inl rfl⟩,t.o⟩
  obtain⟨q,rfl⟩:∃q:Nat,n=q:=⟨n.toNat,by omega⟩
  have U:q<=n2:=by omega
  have b:=ag (MN (n:=q) E.o (by have:=l.o.1;omega));obtain⟨V,X,u,G⟩:=sliceT C.o q (by have:=D.o;omega);have y:=ag (G R C.o);have m:decide ((q:Int)<0)=false:=Xd7 (by omega);have F:decide ((n2:Int)<q)=false:=Xd7 (by omega);have S:¬(n2:Int)<q:=by omega
  have T:decide (n2<q)=false:=Xd7 (by omega);clear a U G;go_wp2_with (refine qvp rfl (.tmp 27) (.tmp 28) 23 (by kernel_rfl) rfl rfl rfl u ?_)
  go_ret2;exact⟨_,by rw[b.o.1];rfl,by rw[b.o.2];exact y.o,t.o⟩
 have b:=ag (VS (n:=n) c);obtain⟨e,H⟩:=ak (dB f s);rw[<-H]at c b⊢;have Y:(e==0)=false:=Xe2 c
 have Z:(e !=0)=true:=Xe1 c;clear H c;go_wp2;go_ret2;exact⟨_,by rw[b.o.1];rfl,by rw[b.o.2];exact .inl ⟨rfl,.inl rfl⟩,t.o⟩
theorem qow{d:Dk}{v:Value}(N:Int)(x:aA)(m c:Nat)(l:az)(w:World)(hD:kN w v d)(C:Rd w (.slice x m c) l):
  Calls Tryz.prog 126 #[v,.int .i64 N,.slice x m c] w fun e w'=>∃dv,e=.returned (.tuple #[dv,.int .i64 (iR d [(false,N,l)] 1).2])∧kP w' w.heap.size dv (iR d [(false,N,l)] 1).1∧ah w w':=by
 obtain⟨a1,c1,a2,c2,a3,c3,rfl,D,h2,h3⟩:=hD.form;have Kn:=D.len_le;have HD:=ag hD;have hm:m=l.length:=by obtain⟨_,_,e⟩:=C.form;cases e;rfl
 have Ao:=ag C;have HM:=ag hm;clear C hm;clear hD D h2 h3;generalize e1:d.1.length=n1 at *;generalize e2:d.2.1.length=n2 at *;generalize e3:d.2.2.length=n3 at *;have ab:=ag Kn;have ac:=ag (show bD d=n1 / 128 by rw[<-e1];rfl);clear e1 e2 e3 Kn;obtain⟨w1,ew⟩:=au ((w.alloc (.cells #[.slice a1 n1 c1,.slice a2 n2 c2,.slice a3 n3 c3] 27)).alloc (.cells #[.slice none 0 0,.slice none 0 0,.slice none 0 0] 27));have n:ah w w1:=by rw[<-ew];exact(ae).alloc (by simp) _
 have E:w1.heap[w.heap.size]? =some (.cells #[.slice a1 n1 c1,.slice a2 n2 c2,.slice a3 n3 c3] 27 (0,0)):=by
  rw[<-ew,heap_alloc_old _ _ (by simp)];exact heap_alloc_new _ _
 have M:w1.heap[w.heap.size+1]? =some (.cells #[.slice none 0 0,.slice none 0 0,.slice none 0 0] 27 (0,0)):=by rw[<-ew];exact uN _ _ _
 obtain⟨O,P,Q,_⟩:=cells3 E;go_enter Tryz.func126,Tryz.ntmps126;go_wp2_with fail
 refine(qjg (d:=d) _ (HD.o.a n)).mono ?_
 rintro e w2⟨rfl,p⟩;have i:ah w w2:=n.trans (p.mono n.size);have q:=gI _ _ _ _ E p;have s:=gI _ _ _ _ M p;clear ew O P Q M E n p;rcases Hd d with⟨j,f⟩|⟨j,f⟩
 case inr=>
  rw[f];have F:=ag (show iR d [(false,N,l)] 1=(dz,20)by unfold iR;rw[if_pos (by rw[f];decide),f]);clear f j q;obtain⟨ws,fI,b,a⟩:=sO (.slice none 0 0) (.slice none 0 0) (.slice none 0 0) s;obtain⟨z1,z2,z3,z4⟩:=cells3 s;obtain⟨q1,q2,q3,q4⟩:=cells3 b;have g:=i.grown a i.size (fun k G=>by cases G;simp);clear b a;go_wp2;refine bodyPost_ret (v:=.tuple #[.agg #[.slice none 0 0,.slice none 0 0,.slice none 0 0],.int .i64 20]) ?_ rfl ?_
  ·simp[results,Tryz.results126,go_sem, *]
  rw[F.o];exact⟨_,rfl,Fh _ _,g⟩
 rw[f];have jU:=ag j;obtain⟨oq,am,ad⟩:=mR.of_ok j;have HF:=ag oq;have wV:=ag f;clear f j oq;obtain⟨O,P,Q,_⟩:=cells3 q;go_wp2_with fail
 refine(Tm a1 a2 a3 n1 c1 n2 c2 n3 c3 ab.o _).mono ?_
 rintro e w3⟨rfl,t⟩;have H:=i.trans (t.mono i.size);have R:=gI _ _ _ _ q t;have S:=gI _ _ _ _ s t;clear O P Q t i q s;rw[<-ac.o];go_wp2_with fail
 refine(qpv N x m c l (bD d) HM.o _).mono ?_
 rintro e w4⟨rfl,u⟩;have h:=H.trans (u.mono H.size);have I:=gI _ _ _ _ R u;have y:=gI _ _ _ _ S u;clear u H R S;obtain⟨L,J⟩:=au (dO (bD d) (N,l));rw[J];have Bl:=ag J;clear J;by_cases z:L=0
 case neg=>
  have F:=ag (show iR d [(false,N,l)] 1=(dz,L)by
   have D:qZ d [(false,N,l)]=L:=by
    unfold qZ;rw[if_neg (by rw[wV.o];decide)];show(if dO (bD d) (N,l)=0 then(0:Int)else dO (bD d) (N,l))=L
    rw[Bl.o,if_neg z]
   rw[qahp d _ 1 (by rw[D];exact z),D])
  have an:(L !=0)=true:=Xe1 z;clear I;obtain⟨ws,fI,b,a⟩:=sO (.slice none 0 0) (.slice none 0 0) (.slice none 0 0) y;obtain⟨z1,z2,z3,z4⟩:=cells3 y;obtain⟨q1,q2,q3,q4⟩:=cells3 b;have g:=h.grown a h.size (fun k G=>by cases G;simp);clear b a;go_wp2;refine bodyPost_ret (v:=.tuple #[.agg #[.slice none 0 0,.slice none 0 0,.slice none 0 0],.int .i64 L]) ?_ rfl ?_
  ·simp[results,Tryz.results126,go_sem, *]
  rw[F.o];exact⟨_,rfl,Fh _ _,g⟩
 subst z;have ai:=ag (show cB (bD d) (false,N,l)=0 from Bl.o);obtain⟨O,P,Q,_⟩:=cells3 I;go_wp2_with fail
 clear O P Q;refine(qalk (d:=d) _ (HD.o.a h) jU.o).mono ?_
 rintro e w5⟨v5,B,rfl,XO,K⟩;have Er:=h.trans (K.mono h.size);have Bn:=gI _ _ _ _ y K;have T:=ag (XO.mono h.size);clear K y I XO;go_wp2_with fail
 refine(qall w B (bD d) d v5 false N x m c l _ T.o Er Ao.o HM.o (by have:=(wM Bl.o).2.2;simp only at this;omega) HF.o ad).mono ?_
 rintro e w6⟨v6,r,rfl,U,⟨y1,m1,d1,y2,m2,d2,y3,m3,d3,rfl⟩,V,A⟩;have Dz:=U.2 _ _ _ Bn
 have W:=ag (show iR d [(false,N,l)] 1=(match fq d (false,N,l)with|none=>(dz,9)|some x=>(x,0))by
  have D:qZ d [(false,N,l)]=0:=by
   unfold qZ;rw[if_neg (by rw[wV.o];decide)];show(if cB (bD d) (false,N,l)=0 then(0:Int)else _)=0
   rw[ai.o];rfl
  have:=Nn d [(false,N,l)] 1 D aL
  rw[show((1:Nat):Int)=1 from rfl]at this;rw[this];show(match qJ d [(false,N,l)]with|none=>_|some x=>_)=_
  unfold qJ;cases fq d (false,N,l)with
  |none=>rfl
  |some x=>rfl)
 have NF:=ag A;clear U Bn Er T A;obtain⟨w7,Bc⟩:=au (w6.alloc (.cells #[.slice y1 m1 d1,.slice y2 m2 d2,.slice y3 m3 d3] 27));have X:ah w6 w7:=by rw[<-Bc];exact ae
 have Y:w7.heap[w6.heap.size]? =some (.cells #[.slice y1 m1 d1,.slice y2 m2 d2,.slice y3 m3 d3] 27 (0,0)):=by rw[<-Bc];exact heap_alloc_new _ _
 have Tv:=V.trans (X.mono V.size);have Z:=gI _ _ _ _ Dz X;rcases NF.o with⟨ho,hr⟩|⟨d',ho,hr,aa⟩
 ·subst hr
  have F:=ag (show iR d [(false,N,l)] 1=(dz,9)by rw[W.o,ho]);clear ho Y X Dz NF;obtain⟨ws,fI,b,a⟩:=sO (.slice none 0 0) (.slice none 0 0) (.slice none 0 0) Z;obtain⟨z1,z2,z3,z4⟩:=cells3 Z;obtain⟨q1,q2,q3,q4⟩:=cells3 b;have g:=Tv.grown a Tv.size (fun k G=>by cases G;simp);clear b a;go_wp2;refine bodyPost_ret (v:=.tuple #[.agg #[.slice none 0 0,.slice none 0 0,.slice none 0 0],.int .i64 9]) ?_ rfl ?_
  ·simp[results,Tryz.results126,go_sem, *]
  rw[F.o];exact⟨_,rfl,Fh _ _,g⟩
 subst hr;have F:=ag (show iR d [(false,N,l)] 1=(d',0)by rw[W.o,ho]);have aj:=ag (aa.own.a X);obtain⟨ws,fI,b,a⟩:=sO (.slice y1 m1 d1) (.slice y2 m2 d2) (.slice y3 m3 d3) Z;obtain⟨z1,z2,z3,z4⟩:=cells3 Z;obtain⟨l1,l2,l3,l4⟩:=cells3 Y;obtain⟨q1,q2,q3,q4⟩:=cells3 b;have g:=Tv.grown a Tv.size (fun k G=>by cases G;simp);have al:=ag (aj.o.keptT3 a Z);clear b a aa ho X Dz NF;go_wp2;refine bodyPost_ret (v:=.tuple #[.agg #[.slice y1 m1 d1,.slice y2 m2 d2,.slice y3 m3 d3],.int .i64 0]) ?_ rfl ?_
 ·simp[results,Tryz.results126,go_sem, *]
 rw[F.o];exact⟨_,rfl,al.o,g⟩
theorem QT(h:bP f):((f.1.1.length<=140737488355328∧f.1.2.1.length<=1000000∧f.1.2.2.length<=1000000)∧f.2.2.1.length<=1000∧(∀g∈f.2.2.1,g.2.length<=1000000)∧f.2.2.2.length<=1000∧∀g∈f.2.2.2,g.2.length<=1000000)∧((∀p∈f.1.2.1,p.2.length<=140737488355328)∧∀p∈f.1.2.2,p.2.2.length<=140737488355328):=by
 obtain⟨n,o,q,r,s,i,j⟩:=(sM f.1).1 (oN h).1;have hl:=Vu (oN h).1;obtain⟨b,c⟩:=qqi (wU h);unfold CO at b c;refine⟨⟨⟨by omega,by omega,by omega⟩,by have:=b.1;omega,fun g d=>by have:=b.2 g d;omega,by have:=c.1;omega,fun g d=>by have:=c.2 g d;omega⟩,fun p k=>by have:=(wM (i p k)).2.2;omega,fun a l=>?_⟩;have:=j a l
 unfold cB at this;split at this
 ·split at this
  ·cases this
  rename_i h8
  have m:a.2.2=[]:=by
   by_cases e:a.2.2=[]
   ·exact e
   exact absurd (.inr e) h8
  rw[m];simp
 have:=(wM this).2.2;omega
theorem bB.dir(h:bB w p y)(a:aA)(n c:Nat):bB (w.setCell ⟨p,4,none⟩ (.slice a n c)) p {y with a4:=a,n4:=n,c4:=c}:=by
 have:=Bq.put h 4 (.slice a n c)
 exact this
def tY (w:World) (p:Nat) (a1:aA) (n1 c1:Nat) (a2:aA) (n2 c2:Nat) (a3:aA) (n3 c3:Nat):World:=((w.setCell ⟨p,0,none⟩ (.slice a1 n1 c1)).setCell ⟨p,1,none⟩ (.slice a2 n2 c2)).setCell ⟨p,2,none⟩ (.slice a3 n3 c3)
theorem bB.disk(h:bB w p y)(a1:aA)(n1 c1:Nat)(a2:aA)(n2 c2:Nat)(a3:aA)(n3 c3:Nat):bB (tY w p a1 n1 c1 a2 n2 c2 a3 n3 c3) p {y with a1:=a1,n1:=n1,c1:=c1,a2:=a2,n2:=n2,c2:=c2,a3:=a3,n3:=n3,c3:=c3}:=by
 have:=((Bq.put h 0 (.slice a1 n1 c1)).put 1 (.slice a2 n2 c2)).put 2 (.slice a3 n3 c3)
 exact this
theorem qzw(w:World)(p:Nat)(a1:aA)(n1 c1:Nat)(a2:aA)(n2 c2:Nat)(a3:aA)(n3 c3:Nat):w.grownBy (tY w p a1 n1 c1 a2 n2 c2 a3 n3 c3) (some p):=CQ (CQ (nO w ⟨p,0,none⟩ _) 1 _) 2 _
theorem bH.parts6{base:Nat}(h:bH w base y.val f):y.g=f.2.1∧kP w base (.agg #[.slice y.a1 y.n1 y.c1,.slice y.a2 y.n2 y.c2,.slice y.a3 y.n3 y.c3]) f.1∧bi w base (.slice y.a4 y.n4 y.c4) f.2.2.1∧bi w base (.slice y.a5 y.n5 y.c5) f.2.2.2:=by
 obtain⟨d1,d2,j,a,b,e,c,d,i⟩:=h;unfold aU.val at e;simp only[Value.agg.injEq,Array.mk.injEq,List.cons.injEq,and_true,Value.int.injEq,true_and]at e;obtain⟨rfl,rfl,rfl,k,rfl,rfl⟩:=e;exact⟨by omega,c,d,i⟩
theorem qtm(h:Bq w p 31 #[a]):w.cell? ⟨p,0,none⟩=some a:=h.cell 0
theorem qtn(x:aU)(f:aR)(s t:az)(w:World)(h:iJ w x f)(hw:jq f):
  Calls Tryz.prog 64 #[x.val,.string (bs s),.string (bs t)] w fun e w'=>∃v,e=.returned (.tuple #[v,.int .i64 (wT f s t).2])∧bH w' w.heap.size v (wT f s t).1∧ah w w':=by
 have HW:=ag hw;have X:=ag h;clear hw h;obtain⟨Y,D⟩:=au ((w.alloc (.cells x.cs 33)).alloc (.cells #[.slice none 0 0,.slice none 0 0,.slice none 0 0,.int .u32 0,.slice none 0 0,.slice none 0 0] 33));have q0:ah w (w.alloc (.cells x.cs 33)):=ae;have q1:Below (w.alloc (.cells x.cs 33)).heap.size (w.alloc (.cells x.cs 33)) Y:=by rw[<-D];exact ae
 have pE:=ag (show bB Y w.heap.size x from(Bq.new w 33 x.cs).a q1);have qE:=ag (show dW Y (w.heap.size+1)by have:=dW.new (w.alloc (.cells x.cs 33));rw[<-D];simpa using this);have bg:=ag (q0.trans (q1.mono q0.size));clear q0 q1;unfold aU.val;unfold aU.cs at D;go_enter Tryz.func64,Tryz.ntmps64;obtain⟨E,F,G,H,I,J⟩:=bq pE.o;have d:=Xv x f Y (X.o.a bg.o) HW.o;go_wp2_with fail
 try rw[D]
 refine d.mono ?_
 rintro e w2⟨rfl,b⟩;have mO:=ag (pE.o.a b);have j6:=ag (qE.o.a b);have Z:=bT bg b;clear d b E F G H I J;try clear D
 rcases(Aq f).symm with⟨_,j⟩|⟨K,j⟩
 ·have B:=ag (show wT f s t=(fz,8)by unfold wT rH;rw[if_pos (by rw[j];decide),j])
  rw[j];clear j;obtain⟨w9,d0,d1,d2,d3,d4,d5,l,i,e0,e1,u,L,M,N,O,P,Q,R,S,T,z0,z1,z2,z3,z4,z5⟩:=oW j6 Z (show w.heap.size<=w.heap.size+1 by omega);go_wp2;try rw[l]
  clear l e0 e1 u L M N O P Q R S T;try simp only[Exit.inBlock,Exit.then]
  refine bodyPost_ret ?_ rfl (zR B i)
  simp[results,Tryz.results64,go_sem, *]
 rw[j];have wP:=ag j;clear j;have jU:=ag K;clear K;obtain⟨E,F,G,H,I,J⟩:=bq mO.o;have d:=qu1 _ _ _ f.2.2.1 s t w2 (X.o.fl.a Z.o) X.o.n4 HW.o.fl;go_wp2_with fail
 refine d.mono ?_
 rintro e w3⟨v2,rfl,z,b⟩;have EQ:=ag (mO.o.a b);have qb:=ag (j6.o.a b);have df:=bT Z b;clear d b E F G H I J;obtain⟨m,U⟩:=ak ((qy f.2.2.1 s t).length);obtain⟨n,p,u⟩:∃a c,v2=.slice a m c:=by rw[U];exact z.form
 subst u;have NG:=ag (z.mono Z.o.size);clear z U;obtain⟨wk,Bb⟩:=au (w3.alloc (.cells #[.slice n m p] 31));have g:ah w3 wk:=by rw[<-Bb];exact ae
 have NH:=ag (EQ.o.a g);have XQ:=ag (qb.o.a g);have NI:=ag (NG.o.a g);have BJ:=bT df g;have NJ:=ag (show Bq wk w3.heap.size 31 #[.slice n m p]by rw[<-Bb];exact Bq.new _ _ _);clear g;by_cases j:¬kr f.2.2.1 s t=0
 ·have B:=ag (show wT f s t=(fz,kr f.2.2.1 s t)by unfold wT rH;rw[if_neg (by rw[wP.o];decide),if_pos j])
  obtain⟨w9,d0,d1,d2,d3,d4,d5,l,i,e0,e1,u,L,M,N,O,P,Q,R,S,T,z0,z1,z2,z3,z4,z5⟩:=oW XQ BJ (show w.heap.size<=w.heap.size+1 by omega);go_wp2;try rw[l]
  clear l e0 e1 u L M N O P Q R S T;try simp only[Exit.inBlock,Exit.then]
  refine bodyPost_ret ?_ rfl (zR B i)
  simp[results,Tryz.results64,go_sem, *]
 rw[Decidable.not_not]at j;rw[j];have ED:=ag j;clear j;obtain⟨E,F,G,H,I,J⟩:=bq NH.o;have d:=vG x f wk (X.o.a BJ.o) (QT jU.o).1 (QT jU.o).2;go_wp2_with fail
 try rw[Bb]
 refine d.mono ?_
 rintro e q⟨y,rfl,ho,b⟩;have yx:=ag (XQ.o.a b);have NK:=ag (NI.o.a b);have NL:=ag (NJ.o.a b);have gY:=bT BJ b;clear d b E F G H I J;try clear Bb
 have Jc:=ag (ho.mono BJ.o.size);clear ho;unfold aU.val;obtain⟨wz,V⟩:=au (q.alloc (.cells y.cs 33));have g:ah q wz:=by rw[<-V];exact ae
 have XR:=ag (yx.o.a g);have XT:=ag (NK.o.a g);have XU:=ag (NL.o.a g);have Jd:=bT gY g;have C:=ag (show bB wz q.heap.size y by rw[<-V];exact Bq.new _ _ _);have DC:=ag ((Jc.o.a g).parts6);unfold aU.cs at V;clear g Jc;have W:=ag (show wz.grownBy (wz.setCell ⟨q.heap.size,4,none⟩ (.slice n m p)) (some (q.heap.size))from nO wz ⟨q.heap.size,4,none⟩ (.slice n m p));have Je:=ag (show w.heap.size+1<q.heap.size from yx.o.lt);have aa:=ag (C.o.dir n m p);have Jf:=ag (XR.o.grown W.o (by have:=Je.o;omega));have XV:=ag (Jd.o.grown W.o Jd.o.size (by intro k hk;cases hk;have:=Je.o;omega));have ab:=ag (show bH (wz.setCell ⟨q.heap.size,4,none⟩ (.slice n m p)) w.heap.size ({y with a4:=n,n4:=m,c4:=p}:aU).val (f.1,f.2.1,qy f.2.2.1 s t,f.2.2.2)from⟨_,_,_,_,_,by rw[<-DC.o.1],(DC.o.2.1).keptS W.o C.o (by decide) (by decide) (by decide),(XT.o).keptS W.o C.o (by decide) (by decide),(DC.o.2.2.2).keptS W.o C.o (by decide) (by decide)⟩);have i:=ag (ab.o.stored (r:=w.heap.size+1) Jf.o XV.o (by omega));obtain⟨XW,XX,XY,XZ,X0,X3⟩:=bq C.o;obtain⟨yN,yO,yP,yQ,yS,yX⟩:=bq aa.o;dsimp only at yN yO yP yQ yS yX;have ac:=C.o.fz;obtain⟨⟨d0,e0⟩,⟨d1,e1⟩,⟨d2,u⟩,⟨d3,L⟩,⟨d4,M⟩,⟨d5,N⟩,A⟩:=Jf.o.cells;have O:=A 0;have P:=A 1;have Q:=A 2;have R:=A 3;have S:=A 4;have T:=A 5;clear A;have ad:=qtm XU.o;go_wp2;try rw[V]
 obtain⟨w9,l⟩:∃w9,w9=bQ (wz.setCell ⟨q.heap.size,4,none⟩ (.slice n m p)) (w.heap.size+1) ({y with a4:=n,n4:=m,c4:=p}:aU):=⟨_,rfl⟩;rw[<-l]at i;unfold bQ at l;dsimp only at l
 try unfold tY at l
 rw[<-l];clear e0 e1 u L M N O P Q R S T XW XX XY XZ X0 X3 yN yO yP yQ yS yX V;obtain⟨z0,z1,z2,z3,z4,z5⟩:=bq i.o.2.2;dsimp only at z0 z1 z2 z3 z4 z5;try simp only[Exit.inBlock,Exit.then]
 have B:=ag (show wT f s t=((f.1,f.2.1,qy f.2.2.1 s t,f.2.2.2),0)by unfold wT rH;rw[if_neg (by rw[wP.o];decide),if_neg (by rw[ED.o];decide)]);refine bodyPost_ret (v:=.tuple #[({y with a4:=n,n4:=m,c4:=p}:aU).val,.int .i64 0]) ?_ rfl ⟨_,by rw[B.o],by rw[B.o];exact i.o.1,i.o.2.1⟩
 clear l;simp[results,Tryz.results64,go_sem, *]
theorem qaem{b c:Value}(h:Bq w p 27 #[a,b,c]):w.cell? ⟨p,0,none⟩=some a∧w.cell? ⟨p,1,none⟩=some b∧w.cell? ⟨p,2,none⟩=some c:=⟨h.cell 0,h.cell 1,h.cell 2⟩
end Go.Proofs.YtmeaiocohalphaaGreatDoor
