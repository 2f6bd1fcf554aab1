/-
  Plain mathematics of files on a disk: blocks of files are apart; what a write changes.
-/
import Derived.Test.YtmeaiocohalphaaGreatDoorFsTop3
set_option maxHeartbeats 1000000
set_option maxRecDepth 100000
namespace Go.Proofs.YtmeaiocohalphaaGreatDoor
open Go.RowKit
set_option linter.all false
variable {f:aR}{fs:List Fl}{b s:az}{i n:Int}{d x:Dk}{g:Fl}{l:List Ex}{w:World}{base q:Nat}{y:aU}
theorem MG(d:jq f)(s:az)(n:Int):gL (kT f s n):=by
 unfold kT;by_cases h:qA f s n=0
 ·rw[if_pos h]
  unfold lW;by_cases b:iG f.2.2.1 s (kg 34 (fP f) (fJ f) n) (fP f)=0
  ·rw[if_pos b]
   refine Ro d.fl ?_
   by_cases a:lS 34 (fP f) (fJ f) n=0
   ·exact qqh (by decide) a
   exfalso
   exact(Z6 b).2.2.2.1 (by
    unfold lS at a;unfold kg;split
    ·rfl
    rename_i h1
    split
    ·rfl
    rename_i h4
    rw[if_neg h1,if_neg h4]at a;unfold sG at a;cases e:fE (jN 34 (fP f) (fJ f)) n with
    |none=>rfl
    |some q=>rw[e]at a;simp at a)
  rw[if_neg b];intro g c;simp at c
 rw[if_neg h];intro g c;simp at c
theorem qs2{b:Int}(h:dR fs b):CO fs:=⟨by have:=h.1;omega,KY h⟩
theorem IL(h:qA f s n=0):iq f.2.2.1 s=6∧lS 34 (fP f) (fJ f) n=0∧iG f.2.2.1 s (kg 34 (fP f) (fJ f) n) (fP f)=0∧kT f s n=bY f.2.2.1 (s,kg 34 (fP f) (fJ f) n):=by
 have a:kT f s n=lW f.2.2.1 s (kg 34 (fP f) (fJ f) n) (fP f):=by unfold kT;rw[if_pos h]
 unfold qA at h;split at h
 ·cases h
 split at h
 ·rename_i h1 h2;exact absurd h h1
 split at h
 ·rename_i h3;exact absurd h h3
 rename_i h1 h2 h3
 refine⟨by simpa using h2,by simpa using h3,h, ?_⟩;rw[a];unfold lW;rw[if_pos h]
theorem qagq(h:qA f s n=0):CO (kT f s n):=by
 obtain⟨_,_,a,b⟩:=IL h;rw[b];exact qs2 (qk6 a)
theorem MH(a:jq f)(s t:az):gL (qy f.2.2.1 s t):=by
 unfold qy;split
 ·exact J3 a.fl s t
 intro g b;simp at b
theorem NE{t:az}(h:kr f.2.2.1 s t=0):CO (qy f.2.2.1 s t):=by
 unfold qy;rw[if_pos h];exact qs2 (qt9 (Ay (qk8 h).1).2 h)
theorem qu7(x:aU)(f:aR)(s t:az)(A B C:Nat)(w:World)(h:iJ w x f)(D:jq f)(E:bB w A x)(j:w.cell? ⟨B,0,none⟩=some (.string (bs s)))(l:w.cell? ⟨C,0,none⟩=some (.string (bs t))):
  Calls Tryz.prog 129 #[.pointer (some ⟨A,0,none⟩),.pointer (some ⟨B,0,none⟩),.pointer (some ⟨C,0,none⟩)] w fun e w'=>∃v,e=.returned (.tuple #[.agg #[v],.int .i64 (kr f.2.2.1 s t)])∧bi w' w.heap.size v (qy f.2.2.1 s t)∧ah w w':=by
 obtain⟨q,n⟩:=au (w.alloc (.cells #[.slice none 0 0] 31));have b:ah w q:=by rw[<-n];exact ae
 have L:=ag (show bZ q w.heap.size by rw[<-n];exact bZ.new w _);have F:=ag b;have d:=qy6 _ _ _ f.2.2.1 s t q (h.fl.a b) h.n4 D.fl;obtain⟨M,N,O,P,Q,R⟩:=bq (E.a b);have r:=aV _ _ _ _ j b;have u:=aV _ _ _ _ l b;clear h E j l D b;go_enter Tryz.func129,Tryz.ntmps129;go_wp2_with fail
 try rw[n]
 refine d.mono ?_
 rintro e S⟨T,rfl,g,i⟩;have G:=bT F i;have p:=ag (L.o.a i);obtain⟨n2,m⟩:=ak ((qy f.2.2.1 s t).length);obtain⟨a2,c2,U⟩:∃a c,T=.slice a n2 c:=by rw[m];exact g.form
 subst U;have V:=p.o.cell;have W:=p.o.fz;obtain⟨X,z, -⟩:=p.o.put (.slice a2 n2 c2);obtain⟨y,H⟩:=p.o;have I:=ag ((g.keptS z H (by decide) (by decide)).mono F.o.size);have J:=ag (G.o.grown z G.o.size (by intro k Y;cases Y;exact Nat.le_refl _));clear H z m g i d M N O P Q R n r u;go_wp2;obtain⟨Z,K⟩:=ak (S.setCell ⟨w.heap.size,0,none⟩ (.slice a2 n2 c2));rw[<-K]at X I J⊢;try simp only[Exit.inBlock,Exit.then]
 refine bodyPost_ret (v:=.tuple #[.agg #[.slice a2 n2 c2],.int .i64 (kr f.2.2.1 s t)]) ?_ rfl ⟨_,rfl,I.o,J.o⟩
 clear K V W;simp[results,Tryz.results129,go_sem, *]
theorem qu8(x:aU)(f:aR)(s:az)(n:Int)(A B C:Nat)(w:World)(h:iJ w x f)(D:jq f)(E:bB w A x)(j:w.cell? ⟨B,0,none⟩=some (.string (bs s)))(l:w.cell? ⟨C,0,none⟩=some (.int .i64 n)):
  Calls Tryz.prog 97 #[.pointer (some ⟨A,0,none⟩),.pointer (some ⟨B,0,none⟩),.pointer (some ⟨C,0,none⟩)] w fun e w'=>∃v,e=.returned (.tuple #[.agg #[v],.int .i64 (qA f s n)])∧bi w' w.heap.size v (kT f s n)∧ah w w':=by
 obtain⟨r,p⟩:=au (w.alloc (.cells #[.slice none 0 0] 31));have b:ah w r:=by rw[<-p];exact ae
 have L:=ag (show bZ r w.heap.size by rw[<-p];exact bZ.new w _);have F:=ag b;have d:=Vg x f s n r (h.a b) D;obtain⟨M,N,O,P,Q,R⟩:=bq (E.a b);have t:=aV _ _ _ _ j b;have u:=aV _ _ _ _ l b;clear h E j l D b;go_enter Tryz.func97,Tryz.ntmps97;go_wp2_with fail
 try rw[p]
 refine d.mono ?_
 rintro e S⟨T,rfl,g,i⟩;have G:=bT F i;have q:=ag (L.o.a i);obtain⟨n2,m⟩:=ak ((kT f s n).length);obtain⟨a2,c2,U⟩:∃a c,T=.slice a n2 c:=by rw[m];exact g.form
 subst U;have V:=q.o.cell;have W:=q.o.fz;obtain⟨X,z, -⟩:=q.o.put (.slice a2 n2 c2);obtain⟨y,H⟩:=q.o;have I:=ag ((g.keptS z H (by decide) (by decide)).mono F.o.size);have J:=ag (G.o.grown z G.o.size (by intro k Y;cases Y;exact Nat.le_refl _));clear H z m g i d M N O P Q R p t u;go_wp2;obtain⟨Z,K⟩:=ak (S.setCell ⟨w.heap.size,0,none⟩ (.slice a2 n2 c2));rw[<-K]at X I J⊢;try simp only[Exit.inBlock,Exit.then]
 refine bodyPost_ret (v:=.tuple #[.agg #[.slice a2 n2 c2],.int .i64 (qA f s n)]) ?_ rfl ⟨_,rfl,I.o,J.o⟩
 clear K V W;simp[results,Tryz.results97,go_sem, *]
theorem qact(x:aU)(f:aR)(s:az)(n:Int)(w:World)(h:iJ w x f)(B:jq f):
  Calls Tryz.prog 44 #[x.val,.string (bs s),.int .i64 n] w fun e w'=>∃v,e=.returned (.tuple #[v,.int .i64 (l6 f s n).2])∧bH w' w.heap.size v (l6 f s n).1∧ah w w':=by
 obtain⟨m,d⟩:=au ((((w.alloc (.cells x.cs 33)).alloc (.cells #[.string (bs s)] 9)).alloc (.cells #[.int .i64 n] 3)).alloc (.cells #[.slice none 0 0,.slice none 0 0,.slice none 0 0,.int .u32 0,.slice none 0 0,.slice none 0 0] 33));have C:=ag h;have p:=ag B;clear h B;have D:ah w (w.alloc (.cells x.cs 33)):=ae;have E:bB (w.alloc (.cells x.cs 33)) w.heap.size x:=Bq.new _ _ _;have q:Below ((w.alloc (.cells x.cs 33))).heap.size (w.alloc (.cells x.cs 33)) ((w.alloc (.cells x.cs 33)).alloc (.cells #[.string (bs s)] 9)):=ae;have F:Bq ((w.alloc (.cells x.cs 33)).alloc (.cells #[.string (bs s)] 9)) (w.heap.size+1) 9 #[.string (bs s)]:=by have:=Bq.new (w.alloc (.cells x.cs 33)) 9 #[.string (bs s)];simpa using this
 have i:Below (((w.alloc (.cells x.cs 33)).alloc (.cells #[.string (bs s)] 9))).heap.size ((w.alloc (.cells x.cs 33)).alloc (.cells #[.string (bs s)] 9)) (((w.alloc (.cells x.cs 33)).alloc (.cells #[.string (bs s)] 9)).alloc (.cells #[.int .i64 n] 3)):=ae;have G:Bq (((w.alloc (.cells x.cs 33)).alloc (.cells #[.string (bs s)] 9)).alloc (.cells #[.int .i64 n] 3)) (w.heap.size+2) 3 #[.int .i64 n]:=by have:=Bq.new ((w.alloc (.cells x.cs 33)).alloc (.cells #[.string (bs s)] 9)) 3 #[.int .i64 n];simpa using this
 have g:Below ((((w.alloc (.cells x.cs 33)).alloc (.cells #[.string (bs s)] 9)).alloc (.cells #[.int .i64 n] 3))).heap.size (((w.alloc (.cells x.cs 33)).alloc (.cells #[.string (bs s)] 9)).alloc (.cells #[.int .i64 n] 3)) m:=by rw[<-d];exact ae
 have N:=ag (show dW m (w.heap.size+3)by have:=dW.new (((w.alloc (.cells x.cs 33)).alloc (.cells #[.string (bs s)] 9)).alloc (.cells #[.int .i64 n] 3));rw[<-d];simpa using this);have t:=D;have u:=t.trans (q.mono t.size);have y:=u.trans (i.mono u.size);have H:=y.trans (g.mono y.size);have j:=ag H;have I:=ag ((((E).a q).a i).a g);have O:=ag (((F).a i).a g);have P:=ag ((G).a g);clear E D g H t q u F i y G;unfold aU.val;unfold aU.cs at d;obtain⟨Q,R,S,T,U,V⟩:=bq I.o;have z:=qs0 97 #[.pointer (some ⟨w.heap.size,0,none⟩),.pointer (some ⟨w.heap.size+1,0,none⟩),.pointer (some ⟨w.heap.size+2,0,none⟩)] (kT f s n) (qA f s n) x f m (C.o.a j.o) p.o (MG p.o s n) (fun _ W=>qagq W) (fun J=>by go_simp) (fun J k=>qu8 x f s n _ _ _ J ((C.o.a j.o).a k) p.o (I.o.a k) ((O.o.a k).cell 0) ((P.o.a k).cell 0));rw[show rH f (kT f s n) (qA f s n)=l6 f s n from rfl]at z;go_enter Tryz.func44,Tryz.ntmps44;go_wp2_with fail
 try rw[d]
 refine z.mono ?_
 rintro e X⟨v9,rfl,K,b⟩;have L:=ag (N.o.a b);have Y:=bT j b;have A:=K.mono j.o.size;clear z b d Q R S T U V K;obtain⟨M,Z, -⟩:=A.form;subst Z;have a:=ag (A.stored (r:=w.heap.size+3) L.o Y.o (by omega));obtain⟨⟨d0,e0⟩,⟨d1,e1⟩,⟨d2,e2⟩,⟨d3,e3⟩,⟨d4,e4⟩,⟨d5,e5⟩,c⟩:=L.o.cells;have f0:=c 0;have f1:=c 1;have f2:=c 2;have f3:=c 3;have f4:=c 4;have f5:=c 5;clear c A;unfold aU.val;go_wp2;obtain⟨w9,l⟩:=ak (bQ X (w.heap.size+3) M);rw[<-l]at a;unfold bQ at l;rw[<-l];clear e0 e1 e2 e3 e4 e5 f0 f1 f2 f3 f4 f5 l;obtain⟨z0,z1,z2,z3,z4,z5⟩:=bq a.o.2.2;try simp only[Exit.inBlock,Exit.then]
 refine bodyPost_ret (v:=.tuple #[M.val,.int .i64 (l6 f s n).2]) ?_ rfl ⟨_,rfl,a.o.1,a.o.2.1⟩
 simp[results,Tryz.results44,go_sem, *]
theorem G8(x:aU)(f:aR)(s t:az)(w:World)(h:iJ w x f)(B:jq f):
  Calls Tryz.prog 61 #[x.val,.string (bs s),.string (bs t)] w fun e w'=>∃v,e=.returned (.tuple #[v,.int .i64 (wT f s t).2])∧bH w' w.heap.size v (wT f s t).1∧ah w w':=by
 obtain⟨m,d⟩:=au ((((w.alloc (.cells x.cs 33)).alloc (.cells #[.string (bs s)] 9)).alloc (.cells #[.string (bs t)] 9)).alloc (.cells #[.slice none 0 0,.slice none 0 0,.slice none 0 0,.int .u32 0,.slice none 0 0,.slice none 0 0] 33));have C:=ag h;have n:=ag B;clear h B;have D:ah w (w.alloc (.cells x.cs 33)):=ae;have E:bB (w.alloc (.cells x.cs 33)) w.heap.size x:=Bq.new _ _ _;have p:Below ((w.alloc (.cells x.cs 33))).heap.size (w.alloc (.cells x.cs 33)) ((w.alloc (.cells x.cs 33)).alloc (.cells #[.string (bs s)] 9)):=ae;have F:Bq ((w.alloc (.cells x.cs 33)).alloc (.cells #[.string (bs s)] 9)) (w.heap.size+1) 9 #[.string (bs s)]:=by have:=Bq.new (w.alloc (.cells x.cs 33)) 9 #[.string (bs s)];simpa using this
 have i:Below (((w.alloc (.cells x.cs 33)).alloc (.cells #[.string (bs s)] 9))).heap.size ((w.alloc (.cells x.cs 33)).alloc (.cells #[.string (bs s)] 9)) (((w.alloc (.cells x.cs 33)).alloc (.cells #[.string (bs s)] 9)).alloc (.cells #[.string (bs t)] 9)):=ae;have G:Bq (((w.alloc (.cells x.cs 33)).alloc (.cells #[.string (bs s)] 9)).alloc (.cells #[.string (bs t)] 9)) (w.heap.size+2) 9 #[.string (bs t)]:=by have:=Bq.new ((w.alloc (.cells x.cs 33)).alloc (.cells #[.string (bs s)] 9)) 9 #[.string (bs t)];simpa using this
 have g:Below ((((w.alloc (.cells x.cs 33)).alloc (.cells #[.string (bs s)] 9)).alloc (.cells #[.string (bs t)] 9))).heap.size (((w.alloc (.cells x.cs 33)).alloc (.cells #[.string (bs s)] 9)).alloc (.cells #[.string (bs t)] 9)) m:=by rw[<-d];exact ae
 have N:=ag (show dW m (w.heap.size+3)by have:=dW.new (((w.alloc (.cells x.cs 33)).alloc (.cells #[.string (bs s)] 9)).alloc (.cells #[.string (bs t)] 9));rw[<-d];simpa using this);have q:=D;have u:=q.trans (p.mono q.size);have y:=u.trans (i.mono u.size);have H:=y.trans (g.mono y.size);have j:=ag H;have I:=ag ((((E).a p).a i).a g);have O:=ag (((F).a i).a g);have P:=ag ((G).a g);clear E D g H q p u F i y G;unfold aU.val;unfold aU.cs at d;obtain⟨Q,R,S,T,U,V⟩:=bq I.o;have z:=qs0 129 #[.pointer (some ⟨w.heap.size,0,none⟩),.pointer (some ⟨w.heap.size+1,0,none⟩),.pointer (some ⟨w.heap.size+2,0,none⟩)] (qy f.2.2.1 s t) (kr f.2.2.1 s t) x f m (C.o.a j.o) n.o (MH n.o s t) (fun _ W=>NE W) (fun J=>by go_simp) (fun J k=>qu7 x f s t _ _ _ J ((C.o.a j.o).a k) n.o (I.o.a k) ((O.o.a k).cell 0) ((P.o.a k).cell 0));rw[show rH f (qy f.2.2.1 s t) (kr f.2.2.1 s t)=wT f s t from rfl]at z;go_enter Tryz.func61,Tryz.ntmps61;go_wp2_with fail
 try rw[d]
 refine z.mono ?_
 rintro e X⟨v9,rfl,K,b⟩;have L:=ag (N.o.a b);have Y:=bT j b;have A:=K.mono j.o.size;clear z b d Q R S T U V K;obtain⟨M,Z, -⟩:=A.form;subst Z;have a:=ag (A.stored (r:=w.heap.size+3) L.o Y.o (by omega));obtain⟨⟨d0,e0⟩,⟨d1,e1⟩,⟨d2,e2⟩,⟨d3,e3⟩,⟨d4,e4⟩,⟨d5,e5⟩,c⟩:=L.o.cells;have f0:=c 0;have f1:=c 1;have f2:=c 2;have f3:=c 3;have f4:=c 4;have f5:=c 5;clear c A;unfold aU.val;go_wp2;obtain⟨w9,l⟩:=ak (bQ X (w.heap.size+3) M);rw[<-l]at a;unfold bQ at l;rw[<-l];clear e0 e1 e2 e3 e4 e5 f0 f1 f2 f3 f4 f5 l;obtain⟨z0,z1,z2,z3,z4,z5⟩:=bq a.o.2.2;try simp only[Exit.inBlock,Exit.then]
 refine bodyPost_ret (v:=.tuple #[M.val,.int .i64 (wT f s t).2]) ?_ rfl ⟨_,rfl,a.o.1,a.o.2.1⟩
 simp[results,Tryz.results61,go_sem, *]
theorem EG{n:Nat}(h:okD d=true)(a:n<bD d):Sl d n=dF d n:=qlr h a
theorem Vu(h:okD d=true):d.1.length=128*bD d:=(mR.of_ok h).1.1
theorem Vv{data:az}{n j:Nat}(h:128*n+j<data.length)(a:j<128):(blk data n)[j]? =data[128*n+j]?:=by
 unfold blk;rw[List.getElem?_take];rw[if_pos a,List.getElem?_drop]
theorem qacw{g sz:Nat}(b:x.1.length=d.1.length)(a:d.1.length=128*bD d)(c:34<bD d)(e:sz<=2048)(h:∀k,k<34->blk x.1 k=blk d.1 k):iX x g sz=iX d g sz:=by
 unfold iX;apply List.ext_getElem?;intro i;rw[List.getElem?_take,List.getElem?_take];by_cases hi:i<sz
 ·rw[if_pos hi,if_pos hi,List.getElem?_drop,List.getElem?_drop]
  have e1:128*(2+g%2*16)+i=128*(2+g%2*16+i / 128)+i%128:=by omega
  rw[e1,<-Vv (by omega) (by omega),<-Vv (by omega) (by omega),h _ (by omega)]
 rw[if_neg hi,if_neg hi]
theorem qol{n:Nat}(h:blk x.1 n=blk d.1 n):mi x n=mi d n:=by unfold mi;rw[h]
theorem Vw{D:List Fl}(h:bP f)(e:okD d=true)(a:d.1.length=f.1.1.length)(hb:∀k,k<34->blk d.1 k=blk f.1.1 k)(j:∀p∈d.2.1,34<=p.1)(l:bf D (bD f.1)=0):bP (d,f.2.1,D,f.2.2.2):=by
 obtain⟨g,m,q,r⟩:=oN h;obtain⟨n,s⟩:=qr6 h;have b:bD d=bD f.1:=by unfold bD;rw[a]
 have c:jl d=jl f.1:=by
  have e1:Fs d=Fs f.1:=by unfold Fs;rw[qol (hb 0 (by omega)),qol (hb 1 (by omega))]
  unfold jl;rw[e1,b,Sm e,Sm g]
 have i:iX d f.2.1 (jl f.1).2.1=iX f.1 f.2.1 (jl f.1).2.1:=qacw a (Vu g) m n hb;obtain⟨c1,c2,c3,c4,o,t⟩:=h;refine⟨by show(jl d).2.2=0;rw[c];exact c1,by show(jl d).1=_;rw[c];exact c2,j, ?_, ?_, ?_⟩
 ·show mg (iX d f.2.1 (jl d).2.1) (bD d)=0
  rw[c,i,b];exact c4
 ·show uE (iX d f.2.1 (jl d).2.1) (bD d)=f.2.2.2
  rw[c,i,b];exact o
 show bf D (bD d)=0
 rw[b];exact l
theorem qxk(h:bP f):bf f.2.2.2 (bD f.1)=0:=by
 rw[<-h.2.2.2.2.1];exact(qla h.2.2.2.1).1
theorem qzd{s:Stp}:mX (lN s (nH f))=if eF f≠0 then(fz,eF f)else if(s (nH f)).2≠0 then(fz,(s (nH f)).2)else((s (nH f)).1.1,0):=by
 by_cases h:eF f=0
 ·rw[qmf (show(nH f).2.1=0 from h),if_neg (by rw[h];decide)]
  rfl
 rw[qacq (show(nH f).2.1≠0 from h),if_pos h]
 unfold mX;rw[if_pos (show(nH f).2.1≠0 from h)];rfl
theorem Vx(f:aR)(s:az)(i:Int)(b:az):l7 f s i b=if eF f≠0 then(fz,eF f)else if jD f s i≠0 then(fz,jD f s i)else if(iR f.1 [(false,kU f s i,b)] 1).2≠0 then(fz,(iR f.1 [(false,kU f s i,b)] 1).2)else(((iR f.1 [(false,kU f s i,b)] 1).1,f.2),0):=by
 unfold l7;rw[qzd];by_cases h:eF f≠0
 ·rw[if_pos h,if_pos h]
 rw[if_neg h,if_neg h]
 by_cases a:jD f s i≠0
 ·have e:jk s i b (nH f)=(nH f,jD f s i):=by unfold jk;rw[if_pos (show jD (nH f).1 s i≠0 from a)];rfl
  rw[e,if_pos a,if_pos a]
 have e:jk s i b (nH f)=SB (kU f s i) b (nH f):=by unfold jk;rw[if_neg (show ¬jD (nH f).1 s i≠0 from a)];rfl
 rw[e,if_neg a];rfl
theorem qakz{l:List Fl}{e:Int}(h:(rH f l e).2=0):eF f=0∧e=0∧rH f l e=((f.1,f.2.1,l,f.2.2.2),0):=by
 unfold rH at *;split at h
 ·rename_i h0;exact absurd h h0
 rename_i h0
 split at h
 ·rename_i h1;exact absurd h h1
 rename_i h1
 rw[if_neg h0,if_neg h1];exact⟨Decidable.not_not.1 h0,Decidable.not_not.1 h1,rfl⟩
theorem qacy{l:List Fl}(h:bP f)(hl:bf l (bD f.1)=0):bP (f.1,f.2.1,l,f.2.2.2):=
 Vw h (oN h).1 rfl (fun _ _=>rfl) h.2.2.1 hl
/-! ### the example -/
section
variable {x:az}
end
def CS (f:aR) (s:az):az:=if dB f s≠0 then[]else(aZ f s).flatMap fun n=>dF f.1 n.toNat
theorem QJ(h:bP f):dR f.2.2.1 (bD f.1):=(Ay h.2.2.2.2.2).2
theorem Vy{m:List Ex}{b:Int}(h:dK m b)(a:l.Sublist m):dY l=0:=(qv8 a h).1
theorem Vz(h:g∈fs):g.2.Sublist (cz fs):=by
 have a:[g].Sublist fs:=List.singleton_sublist.2 h;have:=qpc a
 simpa [cz]using this
theorem CU(h:bP f)(a:g∈f.2.2.1):iq f.2.2.1 g.1=0∧fO f.2.2.1 g.1=g.2∧iL f g.1=0∧aZ f g.1=iy g.2∧dB f g.1=0:=by
 have b:=QJ h;have j:iF f.2.2.1 g.1=true:=(Ei _ _).2 ⟨g.2,a⟩;have k:gT g.1=true:=by
  have:=b.2.1.1 g a
  unfold jv at this;simp only[Xe0]at this;exact this.1.1
 have c:=(qk7 h.2.2.2.2.2 k j).1;have d:fO f.2.2.1 g.1=g.2:=Rl b.2.1.2 a;have e:dY g.2=0:=Vy b.2.2.1 (Vz a);have i:iL f g.1=0:=by unfold iL;rw[if_neg (by rw[c];decide),d,e]
 have l:aZ f g.1=iy g.2:=by unfold aZ wS;rw[if_neg (by rw[c];decide),d,if_pos e]
 refine⟨c,d,i,l, ?_⟩;unfold dB;rw[if_neg (by rw[wU h];decide),i]
theorem VA(h:dB f s=0):bP f∧∃l,(s,l)∈f.2.2.1:=by
 unfold dB at h;by_cases a:eF f=0
 ·rw[if_neg (by rw[a];decide)]at h
  have b:=iY a;unfold iL at h;by_cases c:iq f.2.2.1 s=0
  ·exact⟨b,(Ei _ _).1 (qnc c).2.2⟩
  rw[if_pos c]at h;exact absurd h c
 rw[if_pos a]at h;exact absurd h a
theorem qu9(h:n∈iy l):∃x∈l,x.1<=n∧n<x.1+x.2:=by
 obtain⟨x,b,a⟩:=List.mem_flatMap.1 h;refine⟨x,b, ?_⟩;unfold gZ at a;obtain⟨i,hi,rfl⟩:=List.mem_map.1 a;have:=List.mem_range.1 hi
 omega
theorem Mi(h:bP f)(a:g∈f.2.2.1):∀n∈iy g.2,34<=n∧n<bD f.1:=by
 intro n b;obtain⟨x,c,d,e⟩:=qu9 b;have:=EU (QJ h).2.2.1 x ((Vz a).subset c)
 omega
theorem EE(h:dB f s=0):∀n∈aZ f s,34<=n∧n<bD f.1:=by
 obtain⟨a,l,hl⟩:=VA h;rw[(CU a hl).2.2.2.1];exact Mi a hl
theorem MI(h:dB f s=0):bP f∧iL f s=0∧uT f s=(aZ f s).length:=by
 obtain⟨a,l,hl⟩:=VA h;refine⟨a,(CU a hl).2.2.1, ?_⟩;unfold uT;rw[if_neg (by rw[wU a];decide)]
theorem QK(h:dB f s=0){i:Nat}(hi:i<(aZ f s).length):jD f s i=0∧kU f s i=(aZ f s)[i]∧mW f s i=0∧mq f s i=dF f.1 ((aZ f s)[i]).toNat:=by
 obtain⟨a,b,_⟩:=MI h;have c:=EE h _ (Xa3 hi);have a1:jD f s i=0:=by unfold jD;rw[if_neg (by rw[b];decide),if_neg (by omega)]
 have a2:kU f s i=(aZ f s)[i]:=by unfold kU;rw[if_neg (by rw[a1];decide)];simp[List.getD,List.getElem?_eq_getElem hi]
 have a3:uH f.1 ((aZ f s)[i])=(dF f.1 ((aZ f s)[i]).toNat,0):=by
  unfold uH;rw[if_neg (by rw[Sm (oN a).1];decide),if_neg (by omega)]
 refine⟨a1,a2, ?_, ?_⟩
 ·unfold mW;rw[if_neg (by rw[wU a];decide),if_neg (by rw[a1];decide),a2,a3]
 unfold mq;rw[if_neg (by rw[wU a];decide),if_neg (by rw[a1];decide),a2,a3]
theorem qva{n:Nat}(h:okD d=true)(i:n<bD d):(dF d n).length=128:=by
 unfold dF;have f:=(sM d).1 h;cases e:jR (n:Int) d.2.1 with
 |some b=>
  have:∀(l:List Pu),(∀p∈l,dO (bD d) p=0)->∀b,jR (n:Int) l=some b->b.length=128:=by
   intro l;induction l with
   |nil=>intro _ b a;cases a
   |cons p l ih=>
    intro c b a;unfold jR at a;cases e2:jR (n:Int) l with
    |some b'=>rw[e2]at a;cases a;exact ih (fun q g=>c q (Xb1 _ g)) _ e2
    |none=>
     rw[e2]at a;simp only at a
     split at a
     ·cases a;exact(wM (c p (Xb4 ..))).2.2
     cases a
  exact this _ f.2.2.2.2.2.1 b e
 |none=>
  show(blk d.1 n).length=128
  unfold blk;rw[Xa4,Xa9,Vu h];omega
theorem qs4{g:aR}(b:dB f s=0)(c:dB g s=0)(hl:aZ g s=aZ f s)(hb:∀n∈aZ f s,dF g.1 n.toNat=dF f.1 n.toNat):CS f s=CS g s:=by
 unfold CS;rw[if_neg (by rw[b];decide),if_neg (by rw[c];decide),hl];have:∀(l:List Int),(∀n∈l,dF g.1 n.toNat=dF f.1 n.toNat)->(l.flatMap fun n=>dF f.1 n.toNat)=l.flatMap fun n=>dF g.1 n.toNat:=by
  intro l;induction l with
  |nil=>intro _;rfl
  |cons a l ih=>intro h;rw[Xb2,Xb2,h a (Xb4 ..),ih (fun n d=>h n (Xb1 _ d))]
 exact this _ hb
theorem jS{g:aR}(h:g.2.2.1=f.2.2.1)(s:az):aZ g s=aZ f s∧iL g s=iL f s:=by
 unfold aZ iL;rw[h];exact⟨rfl,rfl⟩
theorem qxl{g:aR}(h:g.2.2.1=f.2.2.1)(a:bP f)(b:bP g)(s:az):dB g s=dB f s:=by
 unfold dB;rw[wU a,wU b,(jS h s).2]
theorem bH.bx{v:Value}(h:bH w base v f):∃x:aU,v=x.val∧iJ w x f∧bH w base x.val f:=by
 obtain⟨x,e,a⟩:=h.form;exact⟨x,e,a,e▸h⟩
theorem aU.ext_val{x:aU}(h:x.val=y.val):x=y:=by
 obtain⟨a1,n1,c1,a2,n2,c2,a3,n3,c3,g,a4,n4,c4,f,i,j⟩:=x;obtain⟨k,l,d1,m,n,d2,o,p,q,e,r,s,t,u,v,w⟩:=y;injection h with h;have e0:=congrArg (fun z:Array Value=>z[0]!) h;have e1:=congrArg (fun z:Array Value=>z[1]!) h;have b:=congrArg (fun z:Array Value=>z[2]!) h;have a:=congrArg (fun z:Array Value=>z[3]!) h;have c:=congrArg (fun z:Array Value=>z[4]!) h;have d:=congrArg (fun z:Array Value=>z[5]!) h;simp at e0 e1 b a c d
 obtain⟨rfl,rfl,rfl⟩:=e0;obtain⟨rfl,rfl,rfl⟩:=e1;obtain⟨rfl,rfl,rfl⟩:=b;have a:g=e:=by omega
 subst a;obtain⟨rfl,rfl,rfl⟩:=c;obtain⟨rfl,rfl,rfl⟩:=d;rfl
theorem dW.of{x:aU}(h:bB w q x):dW w q:=⟨_,_,_,_,_,_,h⟩
theorem bH.assign{w0:World}(h:bH w base y.val f)(d:dW w q)(hb:ah w0 w)(a:w0.heap.size<=q):
  bH (bQ w q y) base y.val f∧ah w0 (bQ w q y)∧bB (bQ w q y) q y∧iJ (bQ w q y) y f∧w.grownBy (bQ w q y) (some q):=by
 obtain⟨g,i,j⟩:=h.stored d hb a;refine⟨g,i,j, ?_,(d.put y).2⟩;obtain⟨k,b,c⟩:=g.form;have e:k=y:=aU.ext_val b.symm;subst e;exact c
theorem qxm(h:okD d=true):∀l:List Int,(∀n∈l,34<=n∧n<bD d)->(l.flatMap fun n=>dF d n.toNat).length=128*l.length
 |[],_=>rfl
 |n::l,hl=>by
  have b:=hl n (Xb4 ..);rw[Xb2,Xa0,qxm h l (fun m a=>hl m (Xb1 _ a)),qva h (by omega),Xb0];omega
def MJ (f g:aR) (but:az):Prop:=∀x∈f.2.2.1,x.1≠but->dB f x.1=0∧dB g x.1=0∧CS f x.1=CS g x.1
theorem qze(x:Ex)(k:Nat):(gZ x k).Nodup:=by
 unfold gZ;rw[List.nodup_iff_pairwise_ne,List.pairwise_map];exact List.Pairwise.imp (fun h=>by omega) List.nodup_range
theorem qql(h:mf l=true)(g:∀x∈l,1<=x.2):(iy l).Nodup:=by
 have h:=(J2 l).1 h;unfold iy;rw[List.nodup_iff_pairwise_ne,List.pairwise_flatMap];refine⟨fun x _=>qze x _, ?_⟩;refine List.Pairwise.imp ?_ h
 intro x y c a d b e;unfold gZ at d e;obtain⟨i,hi,rfl⟩:=List.mem_map.1 d;obtain⟨j,f,rfl⟩:=List.mem_map.1 e;have:=List.mem_range.1 hi
 have:=List.mem_range.1 f
 unfold pG at c;simp only[Bool.and_eq_false_iff,Xd9]at c;omega
theorem qvb(fs:List Fl):iy (cz fs)=fs.flatMap fun g=>iy g.2:=by
 unfold iy cz;rw[List.flatMap_assoc]
theorem qs5(h:bP f):(f.2.2.1.flatMap fun g=>iy g.2).Nodup:=by
 rw[<-qvb];have a:=QJ h;have:=fF.1 a.2.2.1
 exact qql this.1 (fun x b=>(EU a.2.2.1 x b).2.1)
theorem qon(h:bP f)(a:g∈f.2.2.1):(iy g.2).Nodup:=by
 have:=qs5 h
 rw[List.nodup_iff_pairwise_ne,List.pairwise_flatMap]at this;exact this.1 g a
theorem qvc(h:bP f){k:Fl}(q:g∈f.2.2.1)(r:k∈f.2.2.1)(l:g.1≠k.1)(s:n∈iy g.2):n∉iy k.2:=by
 have o:=qs5 h;rw[List.nodup_iff_pairwise_ne,List.pairwise_flatMap]at o;intro t;have u:∀a∈f.2.2.1,∀b∈f.2.2.1,a.1≠b.1->∀x∈iy a.2,∀y∈iy b.2,x≠y:=by
  have:=o.2
  intro a v b w m;obtain⟨i,hi,rfl⟩:=Xb7.1 v;obtain⟨j,p,rfl⟩:=Xb7.1 w;have d:=List.pairwise_iff_getElem.1 this;rcases Nat.lt_trichotomy i j with c|c|c
  ·exact d i j hi p c
  ·subst c;exact absurd rfl m
  intro x z y A e;exact d j i p hi c y A x z e.symm
 exact u g q k r l n s n t rfl
theorem VB(h:(l7 f s i b).2=0):
  bP f∧∃g,l7 f s i b=((g,f.2),0)∧jD f s i=0∧fq f.1 (false,kU f s i,b)=some g∧cB (bD f.1) (false,kU f s i,b)=0:=by
 rw[Vx]at h⊢;by_cases a:eF f=0
 ·have e:=iY a
  rw[if_neg (by rw[a];decide)]at h⊢;by_cases c:jD f s i=0
  ·rw[if_neg (by rw[c];decide)]at h⊢
   by_cases d:(iR f.1 [(false,kU f s i,b)] 1).2=0
   ·obtain⟨a1,a2,a3,a4,x,j,k⟩:=Ku d
    have l:=a2 (false,kU f s i,b) (by simp);refine⟨e,x, ?_,c, ?_,l⟩
    ·rw[if_neg (by rw[d];decide),k]
    have:qJ f.1 [(false,kU f s i,b)]=some x:=j
    rw[EZ]at this;exact this
   rw[if_pos d]at h;exact absurd h d
  rw[if_pos c]at h;exact absurd h c
 rw[if_pos a]at h;exact absurd h a
theorem VC(h:bP f)(a:jD f s i=0):dB f s=0∧∃j:Nat,i=j∧∃k:j<(aZ f s).length,kU f s i=(aZ f s)[j]:=by
 have d:=a;unfold jD at a;by_cases b:iL f s=0
 ·have c:dB f s=0:=by unfold dB;rw[if_neg (by rw[wU h];decide),b]
  rw[if_neg (by rw[b];decide)]at a;by_cases g:i<0∨((aZ f s).length:Int)<=i
  ·rw[if_pos g]at a;cases a
  refine⟨c,i.toNat,by omega,by omega, ?_⟩
  have e:i=(i.toNat:Int):=by omega
  have:=(QK c (show i.toNat<(aZ f s).length by omega)).2.1
  rw[<-e]at this;exact this
 rw[if_pos b]at a;exact absurd a b
theorem qak1(h:(l7 f s i b).2≠0):(l7 f s i b).1=fz:=by
 rw[Vx]at h⊢;by_cases a:eF f≠0
 ·rw[if_pos a]
 rw[if_neg a]at h⊢
 by_cases c:jD f s i≠0
 ·rw[if_pos c]
 rw[if_neg c]at h⊢
 by_cases d:(iR f.1 [(false,kU f s i,b)] 1).2≠0
 ·rw[if_pos d]
 rw[if_neg d]at h;exact absurd rfl h
theorem qxn(F G:Int->az)(b:az):∀(l:List Int) (j:Nat) (f:j<l.length),l.Nodup->(∀n∈l,(F n).length=128)->(∀n,G n=if n=l[j]then b else F n)->
  l.flatMap G=(l.flatMap F).take (128*j)++(b++(l.flatMap F).drop (128*j+128))
 |n::l,0,f,hn,hF,hG=>by
  have g:G n=b:=by rw[hG];simp
  have i:l.flatMap G=l.flatMap F:=by
   have h:∀m∈l,G m=F m:=by
    intro m c;rw[hG,if_neg];intro e;have e:m=n:=e;subst e;exact(List.nodup_cons.1 hn).1 c
   clear hG hF hn f g;induction l with
   |nil=>rfl
   |cons a l ih=>rw[Xb2,Xb2,h a (Xb4 ..),ih (fun m c=>h m (Xb1 _ c))]
  rw[Xb2,g,i,Xb2];have hl:=hF n (Xb4 ..);rw[Nat.mul_zero,Xc2,Nat.zero_add,List.nil_append,<-hl,List.drop_left]
 |n::l,j+1,f,hn,hF,hG=>by
  have d:j<l.length:=by simpa using f
  have ih:=qxn F G b l j d (List.nodup_cons.1 hn).2 (fun m c=>hF m (Xb1 _ c)) (fun m=>by rw[hG];rfl);have g:G n=F n:=by
   rw[hG,if_neg];intro e;have e:n=l[j]:=e;exact(List.nodup_cons.1 hn).1 (e▸Xa3 d)
  have hl:=hF n (Xb4 ..);rw[Xb2,g,ih,Xb2];have e1:128*(j+1)=(F n).length+128*j:=by omega
  have k:128*(j+1)+128=(F n).length+(128*j+128):=by omega
  rw[k,e1,List.take_length_add_append,List.drop_length_add_append,Xa8]
theorem qxo(h:(l7 f s i b).2=0):
  bP (l7 f s i b).1∧(l7 f s i b).1.2=f.2∧b.length=128∧dB f s=0∧dB (l7 f s i b).1 s=0∧(∃j:Nat,i=j∧128*j+128<=(CS f s).length∧CS (l7 f s i b).1 s=(CS f s).take (128*j)++(b++(CS f s).drop (128*j+128)))∧mW (l7 f s i b).1 s i=0∧mq (l7 f s i b).1 s i=b∧MJ f (l7 f s i b).1 s:=by
 obtain⟨c,d,e,Q,v,o⟩:=VB h;rw[e];obtain⟨r,j,rfl,x,D⟩:=VC c Q;obtain⟨z,K,_,_⟩:=oN c;obtain⟨L,X,_⟩:=que z o v;have R:=EE r _ (Xa3 x);have S:b.length=128:=by
  have:dO (bD f.1) (kU f s j,b)=0:=by unfold cB at o;simpa using o
  exact(wM this).2.2
 have w:d.1=f.1.1∧d.2.1=f.1.2.1++[(kU f s j,b)]:=by
  unfold fq at v;split at v
  ·cases v
  simp only[Bool.false_eq_true,if_false]at v;cases v;exact⟨rfl,rfl⟩
 have A:bP (d,f.2.1,f.2.2.1,f.2.2.2):=Vw c L (by rw[w.1]) (fun k _=>by rw[w.1]) (by
  intro p y;rw[w.2]at y;rcases Xa5.1 y with y|y
  ·exact c.2.2.1 p y
  rw[Xb3.1 y];show 34<=kU f s j;rw[D];exact R.1) c.2.2.2.2.2
 have A:bP (d,f.2):=A;have E:dB (d,f.2) s=0:=by rw[qxl (f:=f) (g:=(d,f.2)) rfl c A];exact r
 have q:aZ (d,f.2) s=aZ f s:=(jS (f:=f) (g:=(d,f.2)) rfl s).1;have F:∀k:Nat,k<bD f.1->dF d k=if(k:Int)=kU f s j then b else dF f.1 k:=by
  intro k M;have:=qls z o v M
  rw[EG L (by omega),EG z M]at this;exact this
 obtain⟨Y,l,hl⟩:=VA r;have B:=(CU c hl).2.2.2.1;have G:(aZ f s).Nodup:=by rw[B];exact qon c hl
 refine⟨A,rfl,S,r,E,⟨j,rfl, ?_, ?_⟩, ?_, ?_, ?_⟩
 ·unfold CS
  rw[if_neg (by rw[r];decide),qxm z _ (EE r)];omega
 ·unfold CS
  rw[if_neg (by rw[E];decide),if_neg (by rw[r];decide),q];have T:∀n∈aZ f s,dF d n.toNat=if n=(aZ f s)[j]then b else dF f.1 n.toNat:=by
   intro n t;have:=EE r n t
   rw[F _ (by omega),D];have e:((n.toNat:Nat):Int)=n:=by omega
   rw[e]
  have U:(aZ f s).flatMap (fun n=>dF d n.toNat)=(aZ f s).flatMap (fun n=>if n=(aZ f s)[j]then b else dF f.1 n.toNat):=by
   have:∀(l:List Int),(∀n∈l,n∈aZ f s)->l.flatMap (fun n=>dF d n.toNat)=l.flatMap (fun n=>if n=(aZ f s)[j]then b else dF f.1 n.toNat):=by
    intro l;induction l with
    |nil=>intro _;rfl
    |cons a l ih=>intro N;rw[Xb2,Xb2,T a (N a (Xb4 ..)),ih (fun m V=>N m (Xb1 _ V))]
   exact this _ (fun n t=>t)
  show(aZ f s).flatMap (fun n=>dF d n.toNat)=_
  rw[U];exact qxn (fun n=>dF f.1 n.toNat) (fun n=>if n=(aZ f s)[j]then b else dF f.1 n.toNat) b (aZ f s) j x G (fun n t=>by have:=EE r n t;exact qva z (by omega)) (fun n=>rfl)
 ·exact(QK E (i:=j) (by rw[q];exact x)).2.2.1
 ·rw[(QK E (i:=j) (by rw[q];exact x)).2.2.2]
  have e:(aZ (d,f.2) s)[j]'(by rw[q];exact x)=(aZ f s)[j]:=by simp only[q]
  rw[e];show dF d _=b
  rw[F _ (by omega),if_pos (by rw[D];omega)]
 intro g H I;have u:=(CU c H).2.2.2.2;have O:dB (d,f.2) g.1=0:=by rw[qxl (f:=f) (g:=(d,f.2)) rfl c A];exact u
 refine⟨u,O,qs4 u O (jS (f:=f) (g:=(d,f.2)) rfl g.1).1 ?_⟩;intro n t;have W:=EE u n t;show dF d n.toNat=_
 rw[F _ (by omega),if_neg];intro e;rw[D]at e;have e:n=(aZ f s)[j]:=by omega
 rw[(CU c H).2.2.2.1]at t;have J:n∈iy l:=by
  have P:n∈aZ f s:=e▸Xa3 x;have C:aZ f s=iy l:=B;rw[C]at P;exact P
 exact qvc c H hl I t J
end Go.Proofs.YtmeaiocohalphaaGreatDoor
