/-
  The steps on the way.
-/
import Derived.Test.YtmeaiocohalphaaGreatDoorFiApart
import Derived.Test.YtmeaiocohalphaaGreatDoorRmTakesLaw
set_option maxHeartbeats 4000000
set_option maxRecDepth 100000
namespace Go.Proofs.YtmeaiocohalphaaGreatDoor
open Go.RowKit
set_option linter.all false
variable {f w w':World}{base c g n n1 n2 p:Nat}{v:Value}{fs:List Fl}{b:List (az)}{o:Bool}{x:aU}{y:Wy}
theorem Vg(x:aU)(f:aR)(s:az)(n:Int)(w:World)(h:iJ w x f)(hw:jq f):
  Calls Tryz.prog 98 #[x.val,.string (bs s),.int .i64 n] w fun e w'=>∃v,e=.returned (.tuple #[.agg #[v],.int .i64 (qA f s n)])∧bi w' w.heap.size v (kT f s n)∧ah w w':=by
 have HW:=ag hw;clear hw;obtain⟨z,ew⟩:=au ((w.alloc (.cells x.cs 33)).alloc (.cells #[.slice none 0 0] 31));have aa:ah w (w.alloc (.cells x.cs 33)):=ae;have ab:ah w z:=by rw[<-ew];exact aa.alloc (by simp) _
 have fD:=ag (show bB z w.heap.size x by rw[<-ew];exact(Bq.new w 33 x.cs).a (ae));have nR:=ag (show bZ z (w.heap.size+1)by
  have:=bZ.new (w.alloc (.cells x.cs 33)) (.slice none 0 0)
  rw[<-ew];simpa using this)
 obtain⟨S,U,V,W,X,Y⟩:=bq fD.o;have J:=ag h;have bg:=ag ab;clear h ab aa;unfold aU.val;unfold aU.cs at ew;go_enter Tryz.func98,Tryz.ntmps98;go_wp2_with fail
 refine(qw3 _ _ _ f.2.2.1 s z (J.o.fl.a bg.o) J.o.n4 HW.o.fl).mono ?_
 rintro e A⟨v2,rfl,ac,B⟩;have jZ:=ag (fD.o.a B);have pK:=ag (nR.o.a B);have aY:=bT bg B;clear S U V W X Y ew B;obtain⟨m2,ad⟩:=ak ((og f.2.2.1 s).2.length);obtain⟨y2,z2,e2⟩:∃a c,v2=.slice a m2 c:=by rw[ad];exact ac.form
 subst e2;clear ac ad;obtain⟨n9,tQ⟩:=ak ((og f.2.2.1 s).1);rw[<-tQ];clear tQ;obtain⟨w3,pV⟩:=au (A.alloc (.cells #[.string (bs n9),.slice y2 m2 z2] 98));have C:ah A w3:=by rw[<-pV];exact ae
 have yo:=ag (jZ.o.a C);have D:=ag (pK.o.a C);have df:=bT aY C;clear C;obtain⟨te,d⟩:=ak (iq f.2.2.1 s);rw[<-d];by_cases Z:te=0
 ·have m:=ag (show qA f s n=51 by unfold qA;rw[if_pos (by rw[<-d];exact Z)])
  have K:=ag (show kT f s n=[]by unfold kT;rw[if_neg (by rw[m.o];decide)]);subst Z;clear d;have L:=D.o.cell;have M:=D.o.fz;obtain⟨N,p, -⟩:=D.o.put (.slice none 0 0);obtain⟨y,E⟩:=D.o;have r:=ag (show bi (w3.setCell ⟨w.heap.size+1,0,none⟩ (.slice none 0 0)) w.heap.size (.slice none 0 0) _ from bi.nil _ _);have t:=ag (df.o.grown p df.o.size (by intro k O;cases O;omega));clear E p;go_wp2;obtain⟨F,q⟩:=ak (w3.setCell ⟨w.heap.size+1,0,none⟩ (.slice none 0 0));rw[<-q]at N r t⊢;try simp only[Exit.inBlock,Exit.then]
  refine bodyPost_ret (v:=.tuple #[.agg #[.slice none 0 0],.int .i64 51]) ?_ rfl ⟨.slice none 0 0,by rw[m.o],by rw[K.o];exact r.o,t.o⟩
  clear q L M;simp[results,Tryz.results98,go_sem, *]
 by_cases g2:¬te=6
 ·have m:=ag (show qA f s n=te by unfold qA;rw[if_neg (by rw[<-d];exact Z),if_pos (by rw[<-d];exact g2),<-d])
  have K:=ag (show kT f s n=[]by unfold kT;rw[if_neg (by rw[m.o];exact Z)]);clear d;have L:=D.o.cell;have M:=D.o.fz;obtain⟨N,p, -⟩:=D.o.put (.slice none 0 0);obtain⟨y,E⟩:=D.o;have r:=ag (show bi (w3.setCell ⟨w.heap.size+1,0,none⟩ (.slice none 0 0)) w.heap.size (.slice none 0 0) _ from bi.nil _ _);have t:=ag (df.o.grown p df.o.size (by intro k O;cases O;omega));clear E p;go_wp2;obtain⟨F,q⟩:=ak (w3.setCell ⟨w.heap.size+1,0,none⟩ (.slice none 0 0));rw[<-q]at N r t⊢;try simp only[Exit.inBlock,Exit.then]
  refine bodyPost_ret (v:=.tuple #[.agg #[.slice none 0 0],.int .i64 te]) ?_ rfl ⟨.slice none 0 0,by rw[m.o],by rw[K.o];exact r.o,t.o⟩
  clear q L M;simp[results,Tryz.results98,go_sem, *]
 rw[Decidable.not_not]at g2;have m:=ag (show qA f s n=(if lS 34 (fP f) (fJ f) n≠0 then lS 34 (fP f) (fJ f) n else iG f.2.2.1 s (kg 34 (fP f) (fJ f) n) (fP f))by
  unfold qA;rw[if_neg (by rw[<-d];exact Z),if_neg (by rw[<-d];simpa using g2)])
 subst g2;clear d Z;have i:aN (fun g=>bB g w.heap.size x∧ah w g):=fun z A h l=>⟨h.1.a l,h.2.trans (l.mono h.2.size)⟩
 have Vh:aN (fun g=>bZ g (w.heap.size+1)):=fun z A h l=>h.a l
 have i:=aN.and i Vh;go_wp2_with fail
 try rw[pV]
 clear pV;refine iH i (by kernel_rfl) ⟨⟨yo.o,df.o⟩,D.o⟩ ?_
 intro b;refine rP [0,2,4] 8 ?AL ?nS b ?AO
 case nS=>
  iterate 3 (apply Yl.cons rfl rfl;focus (rintro g⟨⟨G,x2⟩,x9⟩;obtain⟨S,U,V,W,X,Y⟩:=bq G;go_simp<;>rfl);try simp only[aB])
  exact Yl.nil
 refine rV i 1 (.int .i64 (fP f)) rfl b (R8 x f _ (J.o.a b.1.2)) ?_
 clear b;intro aq b;try simp only[aB]
 refine rA i 3 (fun v g=>bA g w.heap.size v (fJ f)) rfl b ((qako x f _ (J.o.a b.1.2) HW.o).mono fun e wy ⟨v,h1,h2,h3⟩=>⟨v,h1,h2.mono b.1.2.size,h3⟩) (fun v z A h l=>h.a l) ?_
 intro al ar j nG I;clear i b;have i:=j;have b:=I;clear j I;obtain⟨mU,P⟩:=ak ((fJ f).length);obtain⟨yU,zU,am⟩:∃a c,al=.slice a mU c:=by rw[P];exact nG.form
 subst am;have an:=ag P;clear P;clear nG;try simp only[aB]
 refine rA i 5 (fun v g=>∃u,v=.tuple #[u,.int .i64 (lS 34 (fP f) (fJ f) n)]∧bA g w.heap.size u (kg 34 (fP f) (fJ f) n)) rfl b ((KN 34 (fP f) n yU mU zU (fJ f) _ b.2.rd an.o (qsk f)).mono fun e wy ⟨v,h1,h2,h3⟩=>⟨_,h1,⟨v,rfl,h2.mono b.1.1.2.size⟩,h3⟩) (fun v z A ⟨u,h1,h2⟩ l=>⟨u,h1,h2.a l⟩) ?_
 intro av ai j nG I;clear i b;have i:=j;have b:=I;clear j I;obtain⟨u31,rfl,CK⟩:=nG;try simp only[aB]
 refine rP [6,7,8,9,10] 0 ?AP ?nT b ?AQ
 case nT=>
  iterate 5 (apply Yl.cons rfl rfl;focus (rintro g⟨⟨⟨⟨G,x2⟩,x9⟩,_⟩,_⟩;obtain⟨S,U,V,W,X,Y⟩:=bq G;go_simp<;>rfl);try simp only[aB])
  exact Yl.nil
 refine rD ?_
 try simp only[aB]
 have LY:=ag b.1.1.1.2;have LZ:=ag b.1.1.1.1;have Vi:=ag b.1.1.2;clear b i Vh;obtain⟨tk,H⟩:=ak (lS 34 (fP f) (fJ f) n);rw[<-H]at m⊢;by_cases g3:¬tk=0
 ·rw[if_pos g3]at m
  have K:=ag (show kT f s n=[]by unfold kT;rw[if_neg (by rw[m.o];exact g3)]);clear H CK;have L:=Vi.o.cell;have M:=Vi.o.fz;obtain⟨N,p, -⟩:=Vi.o.put (.slice none 0 0);obtain⟨y,E⟩:=Vi.o;have r:=ag (show bi (ai.setCell ⟨w.heap.size+1,0,none⟩ (.slice none 0 0)) w.heap.size (.slice none 0 0) _ from bi.nil _ _);have t:=ag (LY.o.grown p LY.o.size (by intro k O;cases O;omega));clear E p;go_wp2;obtain⟨F,q⟩:=ak (ai.setCell ⟨w.heap.size+1,0,none⟩ (.slice none 0 0));rw[<-q]at N r t⊢;try simp only[Exit.inBlock,Exit.then]
  refine bodyPost_ret (v:=.tuple #[.agg #[.slice none 0 0],.int .i64 tk]) ?_ rfl ⟨.slice none 0 0,by rw[m.o],by rw[K.o];exact r.o,t.o⟩
  clear q L M;simp[results,Tryz.results98,go_sem, *]
 rw[if_neg g3]at m;rw[Decidable.not_not]at g3;subst g3;have Vj:=ag (show(kg 34 (fP f) (fJ f) n).length<=4096∧∀x∈kg 34 (fP f) (fJ f) n,jg x from⟨qsv _ _ _ _,qqh (by decide) H.symm⟩);clear H;obtain⟨T,hT⟩:=ak (kg 34 (fP f) (fJ f) n);have kw:=ag (by rw[hT];exact Vj.o:T.length<=4096∧∀x∈T,jg x);clear Vj;have K:=ag (show kT f s n=lW f.2.2.1 s T (fP f)by
  unfold kT lW;rw[m.o,<-hT];split<;>rfl)
 rw[<-hT]at m CK;clear hT;obtain⟨mT,Q⟩:=ak T.length;obtain⟨yT,zT,eT⟩:∃a c,u31=.slice a mT c:=by rw[Q];exact CK.form
 subst eT;have ao:=ag Q;have HU:=ag CK;clear Q CK;have i:aN (fun g=>bB g w.heap.size x∧ah w g):=fun z A h l=>⟨h.1.a l,h.2.trans (l.mono h.2.size)⟩
 have Vh:aN (fun g=>bZ g (w.heap.size+1)∧bA g w.heap.size (.slice yT mT zT) T):=fun z A h l=>⟨h.1.a l,h.2.a l⟩
 have i:=aN.and i Vh;go_wp2_with fail
 refine iH i (by kernel_rfl) ⟨⟨LZ.o,LY.o⟩,Vi.o,HU.o⟩ ?_
 intro b;refine rP [0,1,2,3,4] 6 ?L6 ?yu b ?L8
 case yu=>
  iterate 5 (apply Yl.cons rfl rfl;focus (rintro g⟨⟨G,x2⟩,x9⟩;obtain⟨S,U,V,W,X,Y⟩:=bq G;go_simp<;>rfl);try simp only[aB])
  exact Yl.nil
 refine rV i 5 (.int .i64 (fP f)) rfl b (R8 x f _ (J.o.a b.1.2)) ?_
 clear b;intro aw b;try simp only[aB]
 refine rA i 6 (fun v g=>∃u,v=.tuple #[.agg #[u],.int .i64 (iG f.2.2.1 s T (fP f))]∧bi g w.heap.size u (lW f.2.2.1 s T (fP f))) rfl b ((qy8 _ _ _ f.2.2.1 s yT mT zT T (fP f) _ (J.o.fl.a b.1.2) J.o.n4 HW.o.fl b.2.2.rd ao.o (by have:=kw.o.1;omega) kw.o.2).mono fun e wy ⟨v,h1,h2,h3⟩=>⟨_,h1,⟨v,rfl,h2.mono b.1.2.size⟩,h3⟩) (fun v z A ⟨u,h1,h2⟩ l=>⟨u,h1,h2.a l⟩) ?_
 intro ax ap j nG I;clear i b;have i:=j;have b:=I;clear j I;obtain⟨u44,rfl,L9⟩:=nG;obtain⟨mV,aj⟩:=ak ((lW f.2.2.1 s T (fP f)).length);obtain⟨yV,zV,eV⟩:∃a c,u44=.slice a mV c:=by rw[aj];exact L9.form
 subst eV;clear aj;try simp only[aB]
 refine rP [7,8] 2 ?Ma ?yw b ?Mc
 case yw=>
  iterate 2 (apply Yl.cons rfl rfl;focus (rintro g⟨⟨⟨G,x2⟩,x9⟩,_⟩;obtain⟨S,U,V,W,X,Y⟩:=bq G;go_simp<;>rfl);try simp only[aB])
  exact Yl.nil
 have L:=b.1.2.1.cell;have M:=b.1.2.1.fz;obtain⟨N,p,R⟩:=b.1.2.1.put (.slice yV mV zV);obtain⟨y,E⟩:=b.1.2.1;have r:=ag (L9.keptS p E (by decide) (by decide));have t:=ag (b.1.1.2.grown p b.1.1.2.size (by intro k O;cases O;omega));obtain⟨F,q⟩:=ak (ap.setCell ⟨w.heap.size+1,0,none⟩ (.slice yV mV zV));rw[<-q]at N r t R;have bV:((bB F w.heap.size x∧ah w F)∧bZ F (w.heap.size+1)∧bA F w.heap.size (.slice yT mT zT) T)∧∃u,(Value.tuple #[.agg #[.slice yV mV zV],.int .i64 (iG f.2.2.1 s T (fP f))])=.tuple #[.agg #[u],.int .i64 (iG f.2.2.1 s T (fP f))]∧bi F w.heap.size u (lW f.2.2.1 s T (fP f)):=⟨⟨⟨b.1.1.1.grown (q▸p) (by omega),t.o⟩,R,Bv b.1.2.2 (q▸p) E (by decide)⟩,_,rfl,r.o⟩
 refine rN 9 F rfl (by rw[q];go_simp) bV ?_
 clear b;have b:=bV;try simp only[aB]
 refine rP [10] 0 ?Vk ?CL b ?Vl
 case CL=>
  iterate 1 (apply Yl.cons rfl rfl;focus (rintro g⟨⟨⟨G,x2⟩,x9⟩,_⟩;obtain⟨S,U,V,W,X,Y⟩:=bq G;go_simp<;>rfl);try simp only[aB])
  exact Yl.nil
 refine rD ?_
 try simp only[aB]
 clear b bV L M p E R L9 q i Vh;go_wp2;refine bodyPost_ret (v:=.tuple #[.agg #[.slice yV mV zV],.int .i64 (iG f.2.2.1 s T (fP f))]) ?_ rfl ⟨_,by rw[m.o],by rw[K.o];exact r.o,t.o⟩
 simp[results,Tryz.results98,go_sem, *]
theorem qack(h:bi w base v fs)(hb:base<=w.heap.size)(hl:fs.length<=1000000)(s:az)(x:Value)(l:List Ex)(i:bA w base x l):
  ∃g c w',(Builtin.append_ #[29,29] 29 #[v,.slice (some ⟨w.heap.size,0,none⟩) 1 1]).run Tryz.prog (w.alloc (.cells #[.string (bs s),x] 98))=.ok (.slice (some ⟨g,0,none⟩) (fs.length+1) c) w'∧
   bi w' base (.slice (some ⟨g,0,none⟩) (fs.length+1) c) (fs++[(s,l)])∧Below base w w'∧(w.alloc (.cells #[.string (bs s),x] 98)).grownBy w' v.ownBlock:=by
 obtain⟨g,c,w',a,n,o⟩:=Fz h hb hl s x l i;refine⟨g,c,w',a,n,o, ?_⟩;obtain⟨p,e,h⟩:=h;have q:p.length=fs.length:=by rw[<-e];simp
 obtain⟨r,hi,b,d,f⟩:=info_parts Tryz.infoFl;have j:ah w (w.alloc (.cells #[.string (bs s),x] 98)):=ae;obtain⟨y,z,k,A,t,_⟩:=run_append_own (P:=Tryz.prog) _ base 29 29 98 r _ 2 40 Tryz.underlying29 hi b d f rfl (by decide) _ _ _ (pI h.1 j) ⟨w.heap.size,0,none⟩ 1 1 [.string (bs s),x] rfl (TD w #[.string (bs s),x] 98) (by
  intro u m;simp at m
  rcases m with rfl|rfl
  ·rfl
  exact i.ownForm) (by unfold maxLen;omega) (by omega) (aG hb j.size)
 rw[a]at k;injection k with _ e9;rw[e9];exact t
theorem bi.own_lt(h:bi w base v fs):∀k,v.ownBlock=some k->k<w.heap.size:=by
 obtain⟨b,_,h⟩:=h;intro k a;exact(h.1.lt k a).2
def CO (fs:List Fl):Prop:=fs.length<=1000∧∀f∈fs,f.2.length<=1000000
theorem qsx{B:Int}(h:bf fs B=0):CO fs:=by
 have a:=(Ay h).2;exact⟨by have:=a.1;omega,KY a⟩
theorem qmd(a:aA)(n c:Nat)(fs:List Fl)(w:World)(H:fQ w (.slice a n c) fs)(hn:n=fs.length)(D:CO fs):
  Calls Tryz.prog 94 #[.agg #[.slice a n c]] w fun e w'=>∃v,e=.returned (.agg #[v])∧bi w' w.heap.size v fs∧ah w w':=by
 have hm:n<=1000:=by have:=D.1;omega
 have HR:=ag H;have V:=ag hn;have HL:=ag D.2;clear H hn D;obtain⟨q,W⟩:=au ((w.alloc (.cells #[.slice a n c] 31)).alloc (.cells #[.slice none 0 0] 31));have I:ah w (w.alloc (.cells #[.slice a n c] 31)):=ae;have J:ah w q:=by rw[<-W];exact I.alloc (by simp) _
 have gW:=ag (show Bq q w.heap.size 31 #[.slice a n c]by rw[<-W];exact(Bq.new w _ _).a (ae));have nR:=ag (show bZ q (w.heap.size+1)by
  have:=bZ.new (w.alloc (.cells #[.slice a n c] 31)) (.slice none 0 0)
  rw[<-W];simpa using this)
 have k0:q.cell? ⟨w.heap.size,0,none⟩=some (.slice a n c):=gW.o.cell 0;have K:=ag J;clear I J;go_enter Tryz.func94,Tryz.ntmps94;go_wp2;go_loopw [9,3] (fun i v wr=>∃k:Nat,k<=n∧i=.int .i64 k∧af (bi wr q.heap.size v (fs.take k))∧ah q wr) (fun i _ _=>n-(intOf i).toNat)
 case atStart=>exact⟨0,Xd5 _,rfl,ag (by simpa using bi.nil _ _),aF⟩
 obtain⟨k,hk,rfl,d,g⟩:=hrel;by_cases ac:k<n
 ·have ab:(k:Int)<n:=by omega
  have E:k<fs.length:=by have:=V.o;omega
  have HT:=ag (qF fs k E);have X:=ag (show(fs.take k).length=k by rw[Xa4];omega);obtain⟨r,t,L⟩:=d.o.form;rw[X.o]at L;subst L;have G:=ag g;have Y:=bT K g;clear g;obtain⟨b,ad,a2,c2,rfl,Z,O,q2⟩:=HR.o.atB Y.o k E;have HQ:=ag q2;have tC:=ag (HL.o _ (Xa3 E));clear q2;obtain⟨f,P⟩:=ak (fs[k]);rw[<-P]at Z O HQ HT tC;clear P;obtain⟨s,l⟩:=f;simp only at Z O
  obtain⟨m,A⟩:=ak l.length;have oQ:=ag (show iB w (.slice a2 m c2) l by rw[A];exact HQ.o);rw[<-A]at O;have gP:=ag A;clear A HQ;obtain⟨x,B⟩:=au (wr.alloc (.cells #[.string (bs s),.slice a2 m c2] 98));have j:ah wr x:=by rw[<-B];exact ae
  have Me:=ag (show Bq x wr.heap.size 98 #[.string (bs s),.slice a2 m c2]by rw[<-B];exact Bq.new _ _ _);have Vm:ah w x:=Y.o.trans (j.mono Y.o.size);go_wp2_with fail
  try rw[B]
  have Q:aN (fun p=>Bq p wr.heap.size 98 #[.string (bs s),.slice a2 m c2]∧ah q p):=fun q w2 h hb=>⟨h.1.a hb,h.2.trans (hb.mono h.2.size)⟩
  have F:(fun p=>Bq p wr.heap.size 98 #[.string (bs s),.slice a2 m c2]∧ah q p) x:=⟨Me.o,G.o.trans (j.mono G.o.size)⟩;have aa:=ag (show Calls Tryz.prog 170 #[.slice a2 m c2] x.drew fun e w'=>∃v,e=.returned v∧∃r t,v=.slice r m t∧bA w' x.heap.size (.slice r m t) l∧ah x w' from(qse a2 m c2 l x.drew ((oQ.o.a Vm).a aI) gP.o tC.o).mono fun e wy ⟨v,h1,h2,h3⟩=>by
   obtain⟨a3,c3,e3⟩:=bA.form h2;rw[<-gP.o]at e3;subst e3;exact⟨_,h1,a3,c3,rfl,h2,aF.drew.trans h3⟩)
  clear Z O B Vm;refine iH Q (by kernel_rfl) F ?_
  intro z;refine rP [0,1,2,3,4] 5 ?AL ?nS z ?AO
  case nS=>
   iterate 5 (apply Yl.cons rfl rfl;focus (rintro p⟨C,x2⟩;(have e0:=C.cell 0);(have e1:=C.cell 1);simp only[List.getElem?_toArray,List.getElem?_cons_zero,List.getElem?_cons_succ]at e0 e1;go_simp<;>rfl);try simp only[aB])
   exact Yl.nil
  refine rC 5 (fun v p=>∃r t,v=.slice r m t∧bA p x.heap.size (.slice r m t) l∧ah x p) rfl aa.o ?_
  rintro v7 R⟨a7,c7,rfl,jf,M⟩;have S:=Q _ _ F M;refine⟨S, ?_⟩;obtain⟨g9,c9,T,u,bK,bI,bu⟩:=qack (d.o.a (j.trans (M.mono j.size))) (aG G.o.size (aG j.size M.size)) (by have:=X.o;omega) s (.slice a7 m c7) l (jf.mono (aG G.o.size j.size));rw[X.o]at u bK;have iU:=ag bK;have dG:=ag (show ah q T from(G.o.trans ((j.trans (M.mono j.size)).mono G.o.size)).trans bI);have N:=Q _ (R.alloc (.cells #[.string (bs s),.slice a7 m c7] 98)) S (ae);have bV:(fun p=>Bq p wr.heap.size 98 #[.string (bs s),.slice a2 m c2]∧ah q p) T:=⟨(bu.block _ N.1.lt (fun e=>Nat.lt_irrefl _ (d.o.own_lt _ e.symm))).trans N.1,dG.o⟩;clear z bK bI bu;have z:=S;try simp only[aB]
  refine rP [6] 3 ?AP ?nT z ?AQ
  case nT=>
   iterate 1 (apply Yl.cons rfl rfl;focus (rintro p⟨C,x2⟩;(have e0:=C.cell 0);(have e1:=C.cell 1);simp only[List.getElem?_toArray,List.getElem?_cons_zero,List.getElem?_cons_succ]at e0 e1;go_simp<;>rfl);try simp only[aB])
   exact Yl.nil
  refine rR 7 (.slice (some ⟨R.heap.size,0,none⟩) 1 1) (R.alloc (.cells #[.string (bs s),.slice a7 m c7] 98)) rfl (by go_simp) N ?_
  clear z;have z:=N;try simp only[aB]
  refine rR 8 (.slice (some ⟨g9,0,none⟩) (k+1) c9) T rfl (Fx (v:=.slice r k t) (y:=.slice (some ⟨R.heap.size,0,none⟩) 1 1) rfl rfl rfl u) bV ?_
  clear z;have z:=bV;try simp only[aB]
  refine rP [9] 0 ?Vn ?CP z ?Vo
  case CP=>
   iterate 1 (apply Yl.cons rfl rfl;focus (rintro p⟨C,x2⟩;(have e0:=C.cell 0);(have e1:=C.cell 1);simp only[List.getElem?_toArray,List.getElem?_cons_zero,List.getElem?_cons_succ]at e0 e1;go_simp<;>rfl);try simp only[aB])
   exact Yl.nil
  refine rD ?_
  try simp only[aB]
  clear z bV N S F Q u jf M j d;go_wp2;go_roundw
  case rel=>exact⟨k+1,by omega,rfl,ag (by rw[HT.o];exact iU.o),dG.o⟩
  simp only[intOf];omega
 have hd:decide ((k:Int)<n)=false:=aC (by omega);have e:k=fs.length:=by have:=V.o;omega
 rw[e,Xb5]at d;clear e;obtain⟨r,t,L⟩:=d.o.form;rw[<-V.o]at L;subst L;have U:=ag (nR.o.a g);have hc:=U.o.cell;have P:=U.o.fz;obtain⟨z0,hg, -⟩:=U.o.put (.slice r n t);obtain⟨y,hy⟩:=U.o;have bW:=ag ((d.o.keptS hg hy (by decide) (by decide)).mono K.o.size);have bN:=ag (show ah w _ from(K.o.trans (g.mono K.o.size)).grown hg (aG K.o.size g.size) (by intro k hk;cases hk;omega));clear hy hg;go_wp2;obtain⟨T,aM⟩:=ak (wr.setCell ⟨w.heap.size+1,0,none⟩ (.slice r n t));rw[<-aM]at z0 bW bN⊢;try simp only[Exit.inBlock,Exit.then]
 refine bodyPost_ret (v:=.agg #[.slice r n t]) ?_ rfl ⟨_,rfl,bW.o,bN.o⟩
 clear aM hc P;simp[results,Tryz.results94,go_sem, *]
theorem Vp(w:World):∃b,(Instr.makeSlice 23 (.int .i64 128) (.int .i64 128)).run Tryz.prog w=.ok (.slice (some ⟨w.heap.size,0,none⟩) 128 128) b∧bG b w.heap.size (.slice (some ⟨w.heap.size,0,none⟩) 128 128) (List.replicate 128 0)∧ah w b:=by
 obtain⟨h,hi,c,d,f⟩:=info_parts Tryz.infoB;obtain⟨b,i,a,g⟩:=run_make_full (P:=Tryz.prog) w w.heap.size 23 5 h _ 1 Tryz.underlying23 hi c d .i64 .i64 128 (by rw[f];decide) (by unfold maxLen;decide) aL;refine⟨b,i, ?_,aF.grown g aL (fun k j=>by cases j)⟩;show b.ownsRow _ _ _ _ _ _
 rw[Xc1];have e:(madeCells (Value.int IntKind.u8 0).cells (128*1)).toList=bO (List.replicate 128 0):=by
  show(madeCells #[Value.int .u8 0] (128*1)).toList=_
  rw[toList_madeCells_one];simp[bO]
 rw[<-e];exact a
theorem Tryz.infoSl8:(Tryz.prog.info? 23).map (fun i=>(i.zero,i.size,i.bytes))=some (some (.slice none 0 0),1,24):=by kernel_rfl
theorem qacm{f:Nat}{e1 b:TypeId}{o:Nat}{i j:Value}{k p:List Value}(h:w.ownsRow f e1 g i n1 k)(q:w.ownsRow n b o j n2 p)(c:e1≠b)(r:w.grownBy w' j.ownBlock):w'.ownsRow f e1 g i n1 k:=by
 refine World.ownsRow.kept h r ?_
 rcases h.2 with⟨rfl,_⟩|⟨s,c1,l,rfl,_,d,_⟩
 ·exact .inl rfl
 right
 rcases q.2 with⟨rfl,_⟩|⟨t,c2,m,rfl,_,a,_⟩
 ·intro e;cases e
 intro e;have u:s=t:=by injection e
 subst u;rw[d]at a;injection a with b;injection b with _ e3;exact c e3
def iN (w:World) (base:Nat) (v:Value) (ls:List (az)):Prop:=∃ps:List (az×Value),ps.map (·.1)=ls∧w.ownsRow base 23 1 v ls.length (ps.map (·.2))∧∀p∈ps,bG w base p.2 p.1
theorem iN.nil(w:World)(base:Nat):iN w base (.slice none 0 0) []:=⟨[],rfl,Xa7 _ _ _ _,by simp⟩
theorem iN.a{a:List (az)}(h:iN w base v a)(hb:ah w w'):iN w' base v a:=by
 obtain⟨b,e,c,d⟩:=h;exact⟨b,e,pI c hb,fun p f=>(d p f).a hb⟩
theorem iN.grown{a:List (az)}(h:iN w base v a)(b:w.grownBy w' (some g))(hb:g<base):iN w' base v a:=by
 obtain⟨c,e,d,f⟩:=h;exact⟨c,e,qln d b hb,fun p i=>(f p i).grown b hb⟩
theorem iN.form(h:iN w base v b):∃a c,v=.slice a b.length c:=by
 obtain⟨j,e,d,k⟩:=h;rcases d.2 with⟨rfl,f⟩|⟨g,cap,i,rfl,_⟩
 ·rw[f];exact⟨_,_,rfl⟩
 exact⟨_,_,rfl⟩
theorem iN.at{a:aA}(h:iN w base (.slice a n c) b)(j:Nat)(k:j<b.length):
  ∃g y z,a=some ⟨g,0,none⟩∧w.cell? ⟨g,j,none⟩=some (.slice y (b[j]).length z)∧bG w base (.slice y (b[j]).length z) b[j]:=by
 obtain⟨f,rfl,l,o⟩:=h;have d:j<f.length:=by simpa using k
 rcases l.2 with⟨e,m⟩|⟨g,cap,p,e,_⟩
 ·simp at m;subst m;simp at k
 cases e;have c1:=l.cells (g:=g) rfl j ((f[j]).2) (by simp[List.getElem?_eq_getElem d]);have i:=o f[j] (Xa3 d);obtain⟨y,z,hv⟩:=i.form;simp only[List.getElem_map];rw[hv]at c1 i;exact⟨g,y,z,rfl,by simpa [Addr.add_lit]using c1,i⟩
theorem qakt{a:List (az)}(h:iN w base v a)(hb:base<=w.heap.size)(hl:a.length<=1000000)(y:aA)(n z:Nat)(l:az)(E:bG w base (.slice y n z) l):
  ∃g c w',(Builtin.append_ #[89,89] 89 #[v,.slice (some ⟨w.heap.size,0,none⟩) 1 1]).run Tryz.prog (w.alloc (.cells #[.slice y n z] 23))=.ok (.slice (some ⟨g,0,none⟩) (a.length+1) c) w'∧
   iN w' base (.slice (some ⟨g,0,none⟩) (a.length+1) c) (a++[l])∧Below base w w':=by
 obtain⟨j,e,F,G⟩:=h;obtain⟨i,x⟩:=ak (w.alloc (.cells #[.slice y n z] 23));have A:=TD w #[.slice y n z] 23;rw[<-x]at A⊢;have b:ah w i:=by rw[x];exact ae
 obtain⟨H,hi,m,o,q⟩:=info_parts Tryz.infoSl8;have r:i.ownsRow base 23 1 v a.length (j.map (·.2)):=pI F b;obtain⟨M,s,I,B,C,_⟩:=run_append_own (P:=Tryz.prog) i base 89 89 23 H _ 1 24 Tryz.underlying89 hi m o q rfl (by decide) _ _ _ r ⟨w.heap.size,0,none⟩ 1 1 [.slice y n z] rfl A (by
  intro u D;simp at D
  subst D;rfl) (by unfold maxLen;omega) (by omega) (aG hb b.size)
 have J:Below base w s:=(b.mono hb).grown C (aG hb b.size) fun k K=>(r.lt k K).1
 have t:∀p∈j++[(l,.slice y n z)],bG s base p.2 p.1:=by
  intro p d;have f:bG i base p.2 p.1:=by
   rcases Xa5.1 d with d|d
   ·exact(G p d).a b
   obtain rfl:p=(l,.slice y n z):=by simpa using d
   exact E.a b
  exact qacm f r (by decide) C
 rcases B.2 with⟨_,f⟩|⟨g,cap,L,f,_⟩
 ·exact absurd f (by omega)
 subst f;refine⟨g,cap,s,I,⟨j++[(l,.slice y n z)],by simp[e], ?_,t⟩,J⟩;rw[Xd0];simpa using B
theorem qzb(l:az):splice (List.replicate 128 0) 0 (l.take 128)=Ap l:=by
 unfold splice Ap;rw[Xc2,List.nil_append,List.drop_replicate,Xa4];congr 2
 omega
abbrev Mf (w:World) (p:Nat) (x:aU) (e:Int) (ab:aA) (nb cb:Nat):Prop:=Bq w p 83 #[.slice x.a1 x.n1 x.c1,.slice x.a2 x.n2 x.c2,.slice x.a3 x.n3 x.c3,.int .u32 x.g,.slice x.a4 x.n4 x.c4,.slice x.a5 x.n5 x.c5,.int .i64 e,.slice ab nb cb]
theorem vE{e:Int}{a:aA}{b:Nat}(h:Mf w p x e a b c):w.cell? ⟨p,0,none⟩=some (.slice x.a1 x.n1 x.c1)∧w.cell? ⟨p,1,none⟩=some (.slice x.a2 x.n2 x.c2)∧w.cell? ⟨p,2,none⟩=some (.slice x.a3 x.n3 x.c3)∧w.cell? ⟨p,3,none⟩=some (.int .u32 x.g)∧w.cell? ⟨p,4,none⟩=some (.slice x.a4 x.n4 x.c4)∧w.cell? ⟨p,5,none⟩=some (.slice x.a5 x.n5 x.c5)∧w.cell? ⟨p,6,none⟩=some (.int .i64 e)∧w.cell? ⟨p,7,none⟩=some (.slice a b c):=
 ⟨h.cell 0,h.cell 1,h.cell 2,h.cell 3,h.cell 4,h.cell 5,h.cell 6,h.cell 7⟩
def F3 (w:World) (p base:Nat) (o:Bool) (y:Wy) (x:aU) (ab:aA) (nb cb:Nat):Prop:=
 ∀w',w.grownBy w' (some p)->iJ w' x y.1∧Rd w' (.slice ab nb cb) y.2.2∧(o=true->y.2.1=0->kP w' base x.dv y.1.1)
theorem F3.later{a:World}{b:aA}{d:Nat}(h:F3 w p base o y x b c d)(e:w.grownBy a (some p)):F3 a p base o y x b c d:=fun w' f=>h w' (e.trans f)
def bX (w:World) (p base:Nat) (o:Bool) (y:Wy):Prop:=∃(x:aU) (ab:aA) (nb cb:Nat),Mf w p x y.2.1 ab nb cb∧nb=y.2.2.length∧jq y.1∧F3 w p base o y x ab nb cb
theorem F4(p:Nat)(hb:ah w w'):w.grownBy w' (some p):=⟨hb.os,hb.tape,hb.output,hb.size,fun k a _=>hb.block k a⟩
theorem CQ(h:w.grownBy w' (some p))(j:Nat)(v:Value):w.grownBy (w'.setCell ⟨p,j,none⟩ v) (some p):=h.trans (nO w' ⟨p,j,none⟩ v)
theorem bX.a(h:bX w p base o y)(hb:ah w w'):bX w' p base o y:=by
 obtain⟨x,a,b,c,d,e,f,g⟩:=h;exact⟨x,a,b,c,d.a hb,e,f,g.later (F4 p hb)⟩
theorem bX.lt(h:bX w p base o y):p<w.heap.size:=by
 obtain⟨x,b,c,d,a,_⟩:=h;exact a.lt
theorem bX.err(c:Bool)(h:bX w p base o y)(d:y.2.1≠0):bX w p base c y:=by
 obtain⟨x,e,f,g,i,j,k,a⟩:=h;exact⟨x,e,f,g,i,j,k,fun w' b=>⟨(a w' b).1,(a w' b).2.1,fun _ l=>absurd l d⟩⟩
theorem bX.any(h:bX w p base o y):bX w p base false y:=by
 obtain⟨x,c,d,e,f,g,i,a⟩:=h;exact⟨x,c,d,e,f,g,i,fun w' b=>⟨(a w' b).1,(a w' b).2.1,fun j=>by cases j⟩⟩
theorem bX.setErr(r:Int)(h:bX w p base o y)(e:y.2.1=0):bX (w.setCell ⟨p,6,none⟩ (.int .i64 r)) p base o (y.1,r,y.2.2)∧w.grownBy (w.setCell ⟨p,6,none⟩ (.int .i64 r)) (some p):=by
 obtain⟨x,f,g,i,j,k,l,m⟩:=h;have d:=nO w ⟨p,6,none⟩ (.int .i64 r);refine⟨⟨x,f,g,i,j.put 6 _,k,l,fun w' n=>?_⟩,d⟩;obtain⟨a,b,c⟩:=m w' (d.trans n);exact⟨a,b,fun q _=>c q e⟩
theorem bX.setDisk{i:Nat}{d:Dk}{a1:aA}{c1:Nat}{a2:aA}{c2:Nat}{a3:aA}{n3 c3:Nat}(h:bX w p base o y)(hb:ah w f)(j:base<=i)(q:p<i)(r:kP f i (.agg #[.slice a1 n1 c1,.slice a2 n2 c2,.slice a3 n3 c3]) d):
  bX (((f.setCell ⟨p,0,none⟩ (.slice a1 n1 c1)).setCell ⟨p,1,none⟩ (.slice a2 n2 c2)).setCell ⟨p,2,none⟩ (.slice a3 n3 c3)) p base true (Fu y d)∧w.grownBy (((f.setCell ⟨p,0,none⟩ (.slice a1 n1 c1)).setCell ⟨p,1,none⟩ (.slice a2 n2 c2)).setCell ⟨p,2,none⟩ (.slice a3 n3 c3)) (some p):=by
 obtain⟨x,s,t,u,v,z,k,A⟩:=h;have l:f.grownBy (((f.setCell ⟨p,0,none⟩ (.slice a1 n1 c1)).setCell ⟨p,1,none⟩ (.slice a2 n2 c2)).setCell ⟨p,2,none⟩ (.slice a3 n3 c3)) (some p):=CQ (CQ (CQ (Xc6 _ _) 0 _) 1 _) 2 _;have m:=(F4 p hb).trans l;refine⟨⟨⟨a1,n1,c1,a2,n2,c2,a3,n3,c3,x.g,x.a4,x.n4,x.c4,x.a5,x.n5,x.c5⟩,s,t,u,(((v.a hb).put 0 _).put 1 _).put 2 _,z,⟨k.g,k.fl,k.kl⟩,fun w' n=>?_⟩,m⟩;obtain⟨a,b,c⟩:=A w' (m.trans n);have e:=r.grown (l.trans n) q;have hl:=kN.mk3 e.rd;exact⟨⟨e.rd,hl.1,hl.2,a.g,a.fl,a.n4,a.kl,a.n5⟩,b,fun _ _=>e.mono j⟩
theorem bX.setDir{v:Nat}{l:List Fl}{i:aA}{e j:Nat}(h:bX w p base o y)(hb:ah w f)(z:e=l.length)(k:gL l)(A:bi f v (.slice i e j) l):
  bX (f.setCell ⟨p,4,none⟩ (.slice i e j)) p base o ((y.1.1,y.1.2.1,l,y.1.2.2.2),y.2)∧w.grownBy (f.setCell ⟨p,4,none⟩ (.slice i e j)) (some p):=by
 obtain⟨x,m,n,q,r,B,s,C⟩:=h;have t:=nO f ⟨p,4,none⟩ (.slice i e j);have u:=(F4 p hb).trans t;refine⟨⟨⟨x.a1,x.n1,x.c1,x.a2,x.n2,x.c2,x.a3,x.n3,x.c3,x.g,i,e,j,x.a5,x.n5,x.c5⟩,m,n,q,(r.a hb).put 4 _,B,⟨s.g,k,s.kl⟩,fun w' k=>?_⟩,u⟩;obtain⟨a,b,c⟩:=C w' (u.trans k);exact⟨⟨a.d,a.n1,a.n2,a.g,(A.keptS (t.trans k) (r.a hb) (by decide) (by decide)).rd,z,a.kl,a.n5⟩,b,c⟩
theorem qago(p base:Nat)(o:Bool)(y:Wy)(w:World)(h:bX w p base o y)(E:base<=p):
  Calls Tryz.prog 175 #[.pointer (some ⟨p,0,none⟩)] w fun e w'=>e=.returned (.int .i64 (KC y).2)∧bX w' p base true (KC y).1∧w.grownBy w' (some p):=by
 have j:=ag h;obtain⟨x,H,I,J,k,F,q,r⟩:=h;obtain⟨s,t,u,v,z,A,B,C⟩:=vE k;have G:=ag (r w (Xc6 _ _)).1;have l:=ag k;have K:=ag q;clear k F q r;go_enter Tryz.func175,Tryz.ntmps175;go_wp2_with fail
 refine(Sa (d:=y.1.1) [] none 0 0 0 w G.o.d (.inl ⟨rfl,.inl rfl⟩) rfl).mono ?_
 rintro e L⟨dv,rfl,i,m⟩;obtain⟨d,n⟩:=ak ((iR y.1.1 [] 0).1);rw[<-n]at i;obtain⟨a1,c1,a2,c2,a3,c3,e1⟩:=i.form;obtain⟨n1,c⟩:=ak d.1.length;obtain⟨n2,f⟩:=ak d.2.1.length;obtain⟨n3,D⟩:=ak d.2.2.length;rw[<-c,<-f,<-D]at e1;subst e1;have g:=j.o.setDisk m (aG E (Nat.le_of_lt j.o.lt)) j.o.lt i;have b:=ag g;rw[n]at b;have a:=ag (l.o.a m);clear s t u v z A B C;obtain⟨s,t,u,v,z,A,B,C⟩:=vE a.o;have M:=a.o.fz 0;have N:=a.o.fz 1;have O:=a.o.fz 2;clear g i m n c f D;go_wp2;go_ret;exact⟨rfl,b.o.1,b.o.2⟩
theorem F5(N:Int)(j:aA)(nx k:Nat)(l:az)(p base:Nat)(o:Bool)(y:Wy)(w:World)(h:bX w p base o y)(I:base<=p)(t:Rd w (.slice j nx k) l):
  Calls Tryz.prog 168 #[.pointer (some ⟨p,0,none⟩),.int .i64 N,.slice j nx k] w fun e w'=>e=.returned (.int .i64 (SB N l y).2)∧bX w' p base true (SB N l y).1∧w.grownBy w' (some p):=by
 have m:=ag h;obtain⟨x,M,O,P,n,J,u,v⟩:=h;obtain⟨z,A,B,C,D,E,F,G⟩:=vE n;have K:=ag (v w (Xc6 _ _)).1;have q:=ag n;have Q:=ag u;clear n J u v;have L:=ag t;clear t;go_enter Tryz.func168,Tryz.ntmps168;go_wp2_with fail
 refine(SA (d:=y.1.1) N j nx k l w K.o.d L.o).mono ?_
 rintro e R⟨dv,rfl,i,r⟩;obtain⟨d,s⟩:=ak ((iR y.1.1 [(false,N,l)] 1).1);rw[<-s]at i;obtain⟨a1,c1,a2,c2,a3,c3,e1⟩:=i.form;obtain⟨n1,c⟩:=ak d.1.length;obtain⟨n2,f⟩:=ak d.2.1.length;obtain⟨n3,H⟩:=ak d.2.2.length;rw[<-c,<-f,<-H]at e1;subst e1;have g:=m.o.setDisk r (aG I (Nat.le_of_lt m.o.lt)) m.o.lt i;have b:=ag g;rw[s]at b;have a:=ag (q.o.a r);clear z A B C D E F G;obtain⟨z,A,B,C,D,E,F,G⟩:=vE a.o;have S:=a.o.fz 0;have T:=a.o.fz 1;have U:=a.o.fz 2;clear g i r s c f H;go_wp2;go_ret;exact⟨rfl,b.o.1,b.o.2⟩
end Go.Proofs.YtmeaiocohalphaaGreatDoor
