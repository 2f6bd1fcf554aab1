/-
  What dev's act does: an act that may be is done to a disk of one's own.
-/
import Derived.Test.YthpammbgcidloaaGreatDOwn
set_option maxHeartbeats 1000000
set_option maxRecDepth 100000
namespace Go.Proofs.YthpammbgcidloaaGreat
open Go.RowKit
set_option linter.all false
theorem Nl {w:World} {B:Nat} {t:TypeId} {a c b:Value} (u:Value) (h:w.heap[B]? =some (.cells #[a,c,b] t (0,0))):
  ∃ws,w.setCell ⟨B,1,none⟩ u=ws∧ws.heap[B]? =some (.cells #[a,u,b] t (0,0))∧w.grownBy ws (some B):=
 ⟨_,rfl,heap_setCell_same _ _ 1 _ _ _ h,nO w _ _⟩
theorem Nn {w:World} {B:Nat} {t:TypeId} {a b c:Value} (u:Value) (h:w.heap[B]? =some (.cells #[a,b,c] t (0,0))):
  ∃ws,w.setCell ⟨B,2,none⟩ u=ws∧ws.heap[B]? =some (.cells #[a,b,u] t (0,0))∧w.grownBy ws (some B):=
 ⟨_,rfl,heap_setCell_same _ _ 2 _ _ _ h,nO w _ _⟩
theorem BG {P:Program} {o:Oper} {a:Act} {s x:Operand} {t:TypeId} {v y c:Value} {w w':World} (d:o.op=.call {callee:=.builtin .append,args:=#[s,x],argTypes:=#[t,t]}) (e:a.eval s=v) (f:a.eval x=y) (b:(Builtin.append_ #[t,t] o.type #[v,y]).run P w=.ok c w'):
  (execOp a.eval o).run P w=.ok (.value c) w':=by
 simp [execOp,d,resolve,invoke,builtin,e,f,b,Result.andThen]
def Ch (w0 w':World) (gD B:Nat) (o:Option Dk) (r:Int):Prop:=ah w0 w'∧((o=none∧r=9)∨∃d,o=some d∧r=0∧Dp w' w0.heap.size gD B d)
theorem qzu (w0:World) (gD B:Nat) (d:Dk) (N:Int) (x:au) (m c:Nat) (l:ak) (w:World) (hD:Dp w w0.heap.size gD B d) (M:ah w0 w) (aa:Rd w0 (.slice x m c) l) (hm:m=l.length) (hl:l.length<=1000000000) (hw:d.2.1.length<65536) (hn:d.2.2.length<65536):
  Calls Tryz.prog 183 #[.pointer (some ⟨gD,0,none⟩),.agg #[.bool false,.int .i64 N,.slice x m c]] w fun e w'=>∃r,e=.returned (.int .i64 r)∧Ch w0 w' gD B (some (d.1,d.2.1++[(N,l)],d.2.2++[(false,N,l)])) r:=by
 have HC:=ag aa;have HM:=ag hm;have HL:=ag hl;clear aa hm hl;obtain ⟨Q,cap,a2,c2,a3,c3,F,hB,H,qw,lT,S,I,O⟩:=hD;have hZ:∀k,(Value.slice a3 d.2.2.length c3).ownBlock=some k->k<w.heap.size∧w0.heap.size<=k:=fun k f=>by
  obtain ⟨z,_,h,_⟩:=O;have:=h.lt k f
  omega
 have iF:∀k,(Value.slice a2 d.2.1.length c2).ownBlock=some k->w0.heap.size<=k:=fun k f=>by
  obtain ⟨z,_,h,_⟩:=I;have:=(h.lt k f).1
  omega
 have xE:∀k,(Value.slice a2 d.2.1.length c2).ownBlock=some k->k<w.heap.size:=fun k f=>by
  obtain ⟨z,_,h,_⟩:=I;exact (h.lt k f).2
 have ap:gD<w.heap.size:=(Array.getElem?_eq_some_iff.1 F).1;obtain ⟨T,ew⟩:=aj (w.alloc (.cells #[.bool false,.int .i64 N,.slice x m c] 151));have u:ah w T:=by rw [<-ew];exact ae
 have U:=eH _ _ _ _ F u;obtain ⟨k0,k1,k2,_⟩:=cells3 U;have ac:((65536:Int)<=d.2.1.length)=False:=by simp;omega
 have ad:((65536:Int)<=d.2.2.length)=False:=by simp;omega
 have Ci:decide ((65536:Int)<=d.2.1.length)=false:=by simp;omega
 have ab:decide ((65536:Int)<=d.2.2.length)=false:=by simp;omega
 have b0:T.cell? ⟨w.heap.size,0,none⟩=some (.bool false):=by rw [<-ew];simp
 have b1:T.cell? ⟨w.heap.size,1,none⟩=some (.int .i64 N):=by rw [<-ew];simp
 have b2:T.cell? ⟨w.heap.size,2,none⟩=some (.slice x m c):=by rw [<-ew];simp
 go_enter Tryz.func183,Tryz.ntmps183;go_wp2;have D:B<=T.heap.size:=aC qw u.size;have A:(fun a=>a.cell? ⟨w.heap.size,0,none⟩=some (.bool false)∧a.cell? ⟨w.heap.size,1,none⟩=some (.int .i64 N)∧a.cell? ⟨w.heap.size,2,none⟩=some (.slice x m c)∧(a.cell? ⟨gD,0,none⟩=some (.slice (some ⟨Q,0,none⟩) d.1.length cap)∧a.cell? ⟨gD,1,none⟩=some (.slice a2 d.2.1.length c2)∧a.cell? ⟨gD,2,none⟩=some (.slice a3 d.2.2.length c3))∧ah w0 a) T:=⟨b0,b1,b2,⟨k0,k1,k2⟩,M.trans (u.mono M.size)⟩;have J:aL (fun a=>a.cell? ⟨w.heap.size,0,none⟩=some (.bool false)∧a.cell? ⟨w.heap.size,1,none⟩=some (.int .i64 N)∧a.cell? ⟨w.heap.size,2,none⟩=some (.slice x m c)∧(a.cell? ⟨gD,0,none⟩=some (.slice (some ⟨Q,0,none⟩) d.1.length cap)∧a.cell? ⟨gD,1,none⟩=some (.slice a2 d.2.1.length c2)∧a.cell? ⟨gD,2,none⟩=some (.slice a3 d.2.2.length c3))∧ah w0 a):=(aR _ _).and ((aR _ _).and ((aR _ _).and (((aR _ _).and ((aR _ _).and (aR _ _))).and (jW _))));have al:=F;have pX:=S;have yF:=I;have zu:=O;clear F S I O;have F:=U;have S:=pX.a u;have I:=yF.a u;have O:=zu.a u;clear U pX yF zu al ew ac ad Ci ab;refine rH J 12 (by kernel_rfl) A ?_
 intro g;refine pg [0,1,2,3,4,5,6] (fuel:=6) (a':=?iD) (by kernel_rfl) (by kernel_rfl) (by kernel_rfl) ?dn g ?iE
 case dn=>
  iterate 7 (apply Yl.cons rfl (by kernel_rfl);focus (rintro a ⟨V,W,X,⟨x4,x5,x6⟩,K⟩;go_simp<;>with_reducible rfl);try simp only [az])
  exact Yl.nil
 refine uU (i:=7) (R:=fun v Y=>∃p k,v=.agg #[.int .i64 N,.slice p l.length k]∧aX Y B (.slice p l.length k) l∧ah T Y) rfl (by kernel_rfl) (by rfl) (by go_simp) ((YC N x m c l _ HM.o HL.o (HC.o.a g.2.2.2.2)).mono fun e Y ⟨v,h1,h2,h3⟩=>by obtain ⟨p,k,rfl⟩:=h2.form;exact ⟨_,h1,p,k,rfl,h2.mono D,aB.drew.trans h3⟩) ?_
 rintro v7 Z ⟨p7,k7,rfl,mi,C⟩;have L:=J _ _ A C;obtain ⟨a9,c9,w9,bD,G,P,t⟩:=qlq (N:=N) (d:=d) hB H (aC D C.size) lT (eH _ _ _ _ F C) (S.a C) (I.a C) (O.a C) mi (by omega);have HF:=ag t;have bO:(fun a=>a.cell? ⟨w.heap.size,0,none⟩=some (.bool false)∧a.cell? ⟨w.heap.size,1,none⟩=some (.int .i64 N)∧a.cell? ⟨w.heap.size,2,none⟩=some (.slice x m c)∧(a.cell? ⟨gD,0,none⟩=some (.slice (some ⟨Q,0,none⟩) d.1.length cap)∧a.cell? ⟨gD,1,none⟩=some (.slice a2 d.2.1.length c2)∧a.cell? ⟨gD,2,none⟩=some (.slice a3 d.2.2.length c3))∧ah w0 a) w9:=by
  obtain ⟨V,W,X,⟨x4,x5,x6⟩,K⟩:=L;obtain ⟨z1,z2,z3,_⟩:=cells3 P;have b:∀j,some (⟨w.heap.size,j,none⟩:Addr).block≠(Value.slice a2 d.2.1.length c2).ownBlock:=fun j e=>by
   have h:=xE _ e.symm;exact absurd h (Nat.lt_irrefl _)
  exact ⟨G.cell V (b _),G.cell W (b _),G.cell X (b _),⟨z1,z2,z3⟩,K.grown G K.size (fun k f=>iF k f)⟩
 obtain ⟨ws,bP,E,q⟩:=Nl (.slice a9 (d.2.1.length+1) c9) P;obtain ⟨z1,z2,z3,z4⟩:=cells3 P;refine ⟨L, ?_⟩;clear g t;have g:=L;try simp only [az]
 refine lL (i:=8) (v:=.slice (some ⟨Z.heap.size,0,none⟩) 1 1) (w':=Z.alloc (.cells #[.int .i64 N,.slice p7 l.length k7] 94)) rfl (by kernel_rfl) (by rfl) (by go_simp) (fun _=>J _ _ g (ae)) ?_
 try simp only [az]
 refine lL (i:=9) (v:=.slice a9 (d.2.1.length+1) c9) (w':=w9) rfl (by kernel_rfl) (by rfl) (BG (v:=.slice a2 d.2.1.length c2) (y:=.slice (some ⟨Z.heap.size,0,none⟩) 1 1) rfl rfl rfl bD) (fun _=>bO) ?_
 clear g;have g:=bO;try simp only [az]
 refine lL (i:=10) (v:=?wK) rfl (by kernel_rfl) (by rfl) ?lU (fun _=>g) ?wL
 case lU=>(go_simp<;>with_reducible rfl)
 try simp only [az]
 refine uy (i:=11) (v:=?Np) rfl (by kernel_rfl) (by kernel_rfl) (by kernel_rfl) rfl (by kernel_rfl) (by kernel_rfl) (by rfl) ?zx g ?Nq
 case zx=>(rintro a ⟨V,W,X,⟨x4,x5,x6⟩,K⟩;go_simp<;>with_reducible rfl)
 try simp only [az]
 refine rJ (i:=12) (w':=ws) rfl (by kernel_rfl) (by kernel_rfl) (by rfl) (by rw [<-bP];go_simp) ?_
 try simp only [az]
 refine rM (by kernel_rfl) ?_ _
 refine NoPanic.normal ?_
 have nk:=HF.o ws q E;obtain ⟨y1,y2,y3,⟨_,_,_⟩,y7⟩:=bO;have b:∀j,some (⟨w.heap.size,j,none⟩:Addr).block≠some gD:=fun j e=>by
  have:w.heap.size=gD:=by simpa using e
  omega
 have c0:=q.cell y1 (b _);have c1:=q.cell y2 (b _);have am:=q.cell y3 (b _);have an:ah w0 ws:=y7.grown q y7.size (fun k f=>by cases f;exact lT);clear g HF L bD bP z1 z2 z3 z4 y1 y2 y3 y7 J A C mi F S I O G P q k0 k1 k2 b0 b1 b2 u D xE iF;obtain ⟨d1,pu⟩:∃d1:Dk,(d.1,d.2.1++[(N,l)],d.2.2)=d1:=⟨_,rfl⟩;rw [pu] at nk
 have aq:d1.2.2.length<65536:=by rw [<-pu];exact hn
 have HR:=ag (show (d.1,d.2.1++[(N,l)],d.2.2++[(false,N,l)])=(d1.1,d1.2.1,d1.2.2++[(false,N,l)]) by rw [<-pu]);obtain ⟨f1,f2,f3,_⟩:=cells3 E;obtain ⟨FO,xG⟩:=ai a3;rw [<-xG] at hZ f3;have FP:∀n c k,(Value.slice FO n c).ownBlock=some k->k<w.heap.size∧w0.heap.size<=k:=fun n c k f=>hZ k (by cases FO<;>exact f)
 clear pu E xG hB H hn hZ;obtain ⟨Q,cap,a2,c2,a3,c3,F,hB,H,D,_,S,I,O⟩:=nk;obtain ⟨e1,e2,e3,_⟩:=cells3 F;have xG:a3=FO:=by
  have eZ:=e3.symm.trans f3;injection eZ with eZ;injection eZ
 have iF:∀k,(Value.slice a3 d1.2.2.length c3).ownBlock=some k->w0.heap.size<=k:=fun k f=>by rw [xG] at f;exact (FP _ _ k f).2
 have xE:∀k,(Value.slice a3 d1.2.2.length c3).ownBlock=some k->k<w.heap.size:=fun k f=>by rw [xG] at f;exact (FP _ _ k f).1
 clear f1 f2 f3 xG FP;go_wp2;have A:(fun a=>a.cell? ⟨w.heap.size,0,none⟩=some (.bool false)∧a.cell? ⟨w.heap.size,1,none⟩=some (.int .i64 N)∧a.cell? ⟨w.heap.size,2,none⟩=some (.slice x m c)∧(a.cell? ⟨gD,0,none⟩=some (.slice (some ⟨Q,0,none⟩) d1.1.length cap)∧a.cell? ⟨gD,1,none⟩=some (.slice a2 d1.2.1.length c2)∧a.cell? ⟨gD,2,none⟩=some (.slice a3 d1.2.2.length c3))∧ah w0 a) ws:=⟨c0,c1,am,⟨e1,e2,e3⟩,an⟩;have J:aL (fun a=>a.cell? ⟨w.heap.size,0,none⟩=some (.bool false)∧a.cell? ⟨w.heap.size,1,none⟩=some (.int .i64 N)∧a.cell? ⟨w.heap.size,2,none⟩=some (.slice x m c)∧(a.cell? ⟨gD,0,none⟩=some (.slice (some ⟨Q,0,none⟩) d1.1.length cap)∧a.cell? ⟨gD,1,none⟩=some (.slice a2 d1.2.1.length c2)∧a.cell? ⟨gD,2,none⟩=some (.slice a3 d1.2.2.length c3))∧ah w0 a):=(aR _ _).and ((aR _ _).and ((aR _ _).and (((aR _ _).and ((aR _ _).and (aR _ _))).and (jW _))));refine rH J 11 (by kernel_rfl) A ?_
 intro g;refine pg [0,1,2,3,4,5] (fuel:=6) (a':=?lM) (by kernel_rfl) (by kernel_rfl) (by kernel_rfl) ?fU g ?lN
 case fU=>
  iterate 6 (apply Yl.cons rfl (by kernel_rfl);focus (rintro a ⟨V,W,X,⟨x4,x5,x6⟩,K⟩;go_simp<;>with_reducible rfl);try simp only [az])
  exact Yl.nil
 refine uU (i:=6) (R:=fun v Y=>∃p k,v=.agg #[.bool false,.int .i64 N,.slice p l.length k]∧aX Y B (.slice p l.length k) l∧ah ws Y) rfl (by kernel_rfl) (by rfl) (by go_simp) ((YD false N x m c l _ HM.o HL.o (HC.o.a g.2.2.2.2)).mono fun e Y ⟨v,h1,h2,h3⟩=>by obtain ⟨p,k,rfl⟩:=h2.form;exact ⟨_,h1,p,k,rfl,h2.mono D,aB.drew.trans h3⟩) ?_
 rintro v7 Z ⟨p7,k7,rfl,mi,C⟩;have L:=J _ _ A C;obtain ⟨a9,c9,w9,bD,G,P,t⟩:=Vx (s:=false) (N:=N) (d:=d1) hB H (aC D C.size) lT (eH _ _ _ _ F C) (S.a C) (I.a C) (O.a C) mi (by omega);have HF:=ag t;have bO:(fun a=>a.cell? ⟨w.heap.size,0,none⟩=some (.bool false)∧a.cell? ⟨w.heap.size,1,none⟩=some (.int .i64 N)∧a.cell? ⟨w.heap.size,2,none⟩=some (.slice x m c)∧(a.cell? ⟨gD,0,none⟩=some (.slice (some ⟨Q,0,none⟩) d1.1.length cap)∧a.cell? ⟨gD,1,none⟩=some (.slice a2 d1.2.1.length c2)∧a.cell? ⟨gD,2,none⟩=some (.slice a3 d1.2.2.length c3))∧ah w0 a) w9:=by
  obtain ⟨V,W,X,⟨x4,x5,x6⟩,K⟩:=L;obtain ⟨z1,z2,z3,_⟩:=cells3 P;have b:∀j,some (⟨w.heap.size,j,none⟩:Addr).block≠(Value.slice a3 d1.2.2.length c3).ownBlock:=fun j e=>by
   have h:=xE _ e.symm;exact absurd h (Nat.lt_irrefl _)
  exact ⟨G.cell V (b _),G.cell W (b _),G.cell X (b _),⟨z1,z2,z3⟩,K.grown G K.size (fun k f=>iF k f)⟩
 obtain ⟨wt,Cj,E,q⟩:=Nn (.slice a9 (d1.2.2.length+1) c9) P;obtain ⟨z1,z2,z3,z4⟩:=cells3 P;refine ⟨L, ?_⟩;clear g t;have g:=L;try simp only [az]
 refine lL (i:=7) (v:=.slice (some ⟨Z.heap.size,0,none⟩) 1 1) (w':=Z.alloc (.cells #[.bool false,.int .i64 N,.slice p7 l.length k7] 151)) rfl (by kernel_rfl) (by rfl) (by go_simp) (fun _=>J _ _ g (ae)) ?_
 try simp only [az]
 refine lL (i:=8) (v:=.slice a9 (d1.2.2.length+1) c9) (w':=w9) rfl (by kernel_rfl) (by rfl) (BG (v:=.slice a3 d1.2.2.length c3) (y:=.slice (some ⟨Z.heap.size,0,none⟩) 1 1) rfl rfl rfl bD) (fun _=>bO) ?_
 clear g;have g:=bO;try simp only [az]
 refine lL (i:=9) (v:=?Y5) rfl (by kernel_rfl) (by rfl) ?FQ (fun _=>g) ?Y6
 case FQ=>(go_simp<;>with_reducible rfl)
 try simp only [az]
 refine uy (i:=10) (v:=?Nr) rfl (by kernel_rfl) (by kernel_rfl) (by kernel_rfl) rfl (by kernel_rfl) (by kernel_rfl) (by rfl) ?zy g ?Ns
 case zy=>(rintro a ⟨V,W,X,⟨x4,x5,x6⟩,K⟩;go_simp<;>with_reducible rfl)
 try simp only [az]
 refine rJ (i:=11) (w':=wt) rfl (by kernel_rfl) (by kernel_rfl) (by rfl) (by rw [<-Cj];go_simp) ?_
 try simp only [az]
 refine rM (by kernel_rfl) ?_ _
 refine NoPanic.normal ?_
 have nk:=HF.o wt q E;obtain ⟨_,_,_,⟨_,_,_⟩,y7⟩:=bO;have ao:ah w0 wt:=y7.grown q y7.size (fun k f=>by cases f;exact lT);rw [<-HR.o] at nk;have HD:=ag nk;clear nk g HF L bD Cj z1 z2 z3 z4 y7 J A;go_wp2;go_ret;exact ⟨_,rfl,ao,.inr ⟨_,rfl,rfl,HD.o⟩⟩
theorem Dp.synced {w ws:World} {base gD B a cap:Nat} {a2 a3:au} {c2 c3:Nat} {d:Dk} {data:ak} (n:base<=a) (g:a<B) (i:B<=w.heap.size) (o:base<=gD) (b:data.length=d.1.length)
  (hd:w.heap[gD]? =some (.cells #[.slice (some ⟨a,0,none⟩) d.1.length cap,.slice a2 d.2.1.length c2,.slice a3 d.2.2.length c3] 26 (0,0)))
  (p:aX w base (.slice (some ⟨a,0,none⟩) d.1.length cap) data) (q:lQ w B (.slice a3 d.2.2.length c3) d.2.2) (j:w.grownBy ws (some gD))
  (l:ws.heap[gD]? =some (.cells #[.slice (some ⟨a,0,none⟩) d.1.length cap,.slice none 0 0,.slice a3 d.2.2.length c3] 26 (0,0))):Dp ws base gD B (data,[],d.2.2):=by
 obtain ⟨⟨v,x,m⟩,y,z,r⟩:=Vw;have c:∀k,some gD=some k->∃cs t e,w.heap[k]? =some (.cells cs t e)∧t=26:=fun k f=>by cases f;exact ⟨_,_,_,hd,rfl⟩
 have s:=p.keptT j (fun k f=>by obtain ⟨cs,t,e,h,rfl⟩:=c k f;exact ⟨cs,_,e,h,m⟩);have u:=q.keptT j (fun k f=>by obtain ⟨cs,t,e,h,rfl⟩:=c k f;exact ⟨cs,_,e,h,m,r⟩);refine ⟨a,cap,none,0,a3,c3, ?_,n,g,aC i j.size,o, ?_,⟨[],rfl,World.ownsRow_nil _ _ _ _,by simp⟩,u⟩
 ·show ws.heap[gD]? =some (.cells #[.slice (some ⟨a,0,none⟩) data.length cap,_,_] _ _)
  rw [b];exact l
 ·show aX ws base (.slice (some ⟨a,0,none⟩) data.length cap) data
  rw [b];exact s
theorem Y7 (w0:World) (gD B cnt:Nat) (d:Dk) (N:Int) (x:au) (m c:Nat) (l:ak) (w:World) (hD:Dp w w0.heap.size gD B d) (S:ah w0 w) (ac:Rd w0 (.slice x m c) l) (hm:m=l.length) (hl:l.length<=1000000000) (hw:d.2.1.length<=65536) (hn:d.2.2.length<65536)
  (T:d.1.length=128*cnt) (ar:1<=cnt) (aF:cnt<=4096) (hp:∀p∈d.2.1,dP cnt p=0):
  Calls Tryz.prog 183 #[.pointer (some ⟨gD,0,none⟩),.agg #[.bool true,.int .i64 N,.slice x m c]] w fun e w'=>∃r,e=.returned (.int .i64 r)∧Ch w0 w' gD B (some (mg d.1 d.2.1,[],d.2.2++[(true,N,l)])) r:=by
 have HC:=ag ac;have HM:=ag hm;have HL:=ag hl;have ad:∀p∈d.2.1,0<=p.1∧p.1<1000000∧p.2.length=128:=fun p h=>by have:=sH (hp p h);omega
 have al:∀p∈d.2.1,0<=p.1∧128*p.1.toNat+128<=d.1.length∧p.2.length=128:=fun p h=>by have:=sH (hp p h);omega
 have am:∀(k:Int) (l:ak) (q:List Pu),(∀p∈q,dP cnt p=0)->jk k q=some l->0<=k∧k<cnt:=by
  intro k l q;induction q with
  | nil=>intro _ h;cases h
  | cons p q ih=>
   intro hq h;have e2:jk k (p::q)=(match jk k q with | some b=>some b | none=>if p.1=k then some p.2 else none):=rfl;rw [e2] at h;cases e:jk k q with
   | some b=>exact ih (fun p hp=>hq p (List.mem_cons_of_mem _ hp)) (by rw [e];rw [e] at h;exact h)
   | none=>
    rw [e] at h;have:=sH (hq p (List.mem_cons_self ..))
    simp only at h
    split at h
    ·rename_i hk;omega
    ·cases h
 have yG:=ag ad;have Ck:=ag al;have av:=ag (fun k l=>am k l d.2.1 hp);have Cm:=ag T;have HW:=ag hw;clear ac hm hl hp ad al am T hw;obtain ⟨D,cap,a2,c2,a3,c3,G,hB,H,qw,lT,U,Z,V⟩:=hD;have hZ:∀k,(Value.slice a3 d.2.2.length c3).ownBlock=some k->k<w.heap.size∧w0.heap.size<=k:=fun k hk=>by
  obtain ⟨z,_,h,_⟩:=V;have:=h.lt k hk
  omega
 have aH:gD<w.heap.size:=(Array.getElem?_eq_some_iff.1 G).1;obtain ⟨I,ew⟩:=aj (w.alloc (.cells #[.bool true,.int .i64 N,.slice x m c] 151));have t:ah w I:=by rw [<-ew];exact ae
 have aJ:w.heap.size<I.heap.size:=by rw [<-ew];simp
 have aa:=eH _ _ _ _ G t;obtain ⟨k0,k1,k2,_⟩:=cells3 aa;have aw:((65536:Int)<=d.2.2.length)=False:=by simp;omega
 have an:decide ((65536:Int)<=d.2.2.length)=false:=by simp;omega
 have b0:I.cell? ⟨w.heap.size,0,none⟩=some (.bool true):=by rw [<-ew];simp
 have b1:I.cell? ⟨w.heap.size,1,none⟩=some (.int .i64 N):=by rw [<-ew];simp
 have b2:I.cell? ⟨w.heap.size,2,none⟩=some (.slice x m c):=by rw [<-ew];simp
 go_enter Tryz.func183,Tryz.ntmps183;go_wp2;have J:B<=I.heap.size:=aC qw t.size;have u:(fun a=>a.cell? ⟨w.heap.size,0,none⟩=some (.bool true)∧a.cell? ⟨w.heap.size,1,none⟩=some (.int .i64 N)∧a.cell? ⟨w.heap.size,2,none⟩=some (.slice x m c)∧(a.cell? ⟨gD,0,none⟩=some (.slice (some ⟨D,0,none⟩) d.1.length cap)∧a.cell? ⟨gD,1,none⟩=some (.slice a2 d.2.1.length c2)∧a.cell? ⟨gD,2,none⟩=some (.slice a3 d.2.2.length c3))∧ah w0 a) I:=⟨b0,b1,b2,⟨k0,k1,k2⟩,S.trans (t.mono S.size)⟩;have W:aL (fun a=>a.cell? ⟨w.heap.size,0,none⟩=some (.bool true)∧a.cell? ⟨w.heap.size,1,none⟩=some (.int .i64 N)∧a.cell? ⟨w.heap.size,2,none⟩=some (.slice x m c)∧(a.cell? ⟨gD,0,none⟩=some (.slice (some ⟨D,0,none⟩) d.1.length cap)∧a.cell? ⟨gD,1,none⟩=some (.slice a2 d.2.1.length c2)∧a.cell? ⟨gD,2,none⟩=some (.slice a3 d.2.2.length c3))∧ah w0 a):=(aR _ _).and ((aR _ _).and ((aR _ _).and (((aR _ _).and ((aR _ _).and (aR _ _))).and (jW _))));have ax:=G;have pX:=U;have yF:=Z;have zu:=V;clear G U Z V;have G:=aa;have U:=pX.a t;have Z:=yF.a t;have V:=zu.a t;clear aa pX yF zu ax ew aw an;refine gH W (by kernel_rfl) u ?_
 intro A;refine dm [0,1,2,3,5,6,7,8] (fuel:=2) (a':=?FE) (by kernel_rfl) (by kernel_rfl) (by kernel_rfl) ?uW A ?FH
 case uW=>
  iterate 8 (apply Yl.cons rfl (by kernel_rfl);focus (rintro a ⟨x1,x2,x3,⟨x4,x5,x6⟩,X⟩;go_simp<;>with_reducible rfl);try simp only [az])
  exact Yl.nil
 refine nZ (i:=4) (R:=fun v K=>∃b,v=.map (some b)∧Bm K I.heap.size b d.2.1.length (fun k=>jk k d.2.1)∧ah I K) rfl (by kernel_rfl) (by rfl) (by go_simp) ((qvn a2 _ c2 d.2.1 I.drew rfl (by have:=HW.o;omega) yG.o ((Z.a aG).rd)).mono fun e K ⟨b,h1,h2,h3⟩=>⟨_,h1,b,rfl,h2,aB.drew.trans h3⟩) ?_
 rintro v4 w4 ⟨b,rfl,Cn,E⟩;have zA:=W _ _ u E;have ao:=ag Cn;clear Cn;refine ⟨zA, ?_⟩;clear A;have A:=zA;try simp only [az]
 have ab:=eH _ _ _ _ G E;refine nZ (i:=9) (R:=fun v K=>v=.tuple #[]∧w4.grownBy K (some D)∧∃f,aX K w0.heap.size (.slice (some ⟨D,0,none⟩) d.1.length cap) f∧f.length=d.1.length∧∀k:Nat,k<cnt->blk f k=(jk k d.2.1).getD (blk d.1 k)) rfl (by kernel_rfl) (by rfl) (by go_simp) ((YZ I.heap.size b d.2.1.length _ w0.heap.size D _ cap cnt d.1 w4 ao.o (U.a E) (by omega) Cm.o ar (by omega) av.o).mono fun e K ⟨h1,h2,h3⟩=>⟨_,h1,rfl,h2,h3⟩) ?_
 rintro v9 w9 ⟨rfl,F,f,ap,Y8,uA⟩;have aq:some gD≠some D:=fun e=>by
  obtain ⟨cs,h⟩:=vk U D rfl;injection e with e;rw [<-e,G] at h;cases h
 have P:∀j,some (⟨w.heap.size,j,none⟩:Addr).block≠some D:=fun j e=>by
  have:w.heap.size=D:=by simpa using e
  omega
 have Q:=(F.block gD (Array.getElem?_eq_some_iff.1 ab).1 aq).trans ab;have bO:(fun a=>a.cell? ⟨w.heap.size,0,none⟩=some (.bool true)∧a.cell? ⟨w.heap.size,1,none⟩=some (.int .i64 N)∧a.cell? ⟨w.heap.size,2,none⟩=some (.slice x m c)∧(a.cell? ⟨gD,0,none⟩=some (.slice (some ⟨D,0,none⟩) d.1.length cap)∧a.cell? ⟨gD,1,none⟩=some (.slice a2 d.2.1.length c2)∧a.cell? ⟨gD,2,none⟩=some (.slice a3 d.2.2.length c3))∧ah w0 a) w9:=by
  obtain ⟨x1,x2,x3,⟨x4,x5,x6⟩,X⟩:=zA;obtain ⟨z1,z2,z3,_⟩:=cells3 Q;exact ⟨F.cell x1 (P _),F.cell x2 (P _),F.cell x3 (P _),⟨z1,z2,z3⟩,X.grown F X.size (fun k hk=>by cases hk;exact hB)⟩
 refine ⟨bO, ?_⟩;try simp only [az]
 refine wpAnyH_done (by kernel_rfl) ?_ _
 refine NoPanic.normal ?_
 have L:f=mg d.1 d.2.1:=by
  refine YW cnt (Y8.trans Cm.o) ?_ (fun n hn=>?_)
  ·rw [Vu d.1 d.2.1 d.1 rfl Ck.o];exact Cm.o
  ·rw [uA n hn,YX d.1 n d.2.1 d.1 rfl Ck.o]
 obtain ⟨ws,bP,M,g⟩:=Nl (.slice none 0 0) Q;obtain ⟨z1,z2,z3,z4⟩:=cells3 Q;have O:=Dp.synced hB H (aC (aC J E.size) F.size) lT Y8 Q ap ((V.a E).grown F H) g M;rw [L] at O;have zB:=ag O;obtain ⟨y1,y2,y3,⟨_,_,_⟩,y7⟩:=bO;have C:∀j,some (⟨w.heap.size,j,none⟩:Addr).block≠some gD:=fun j e=>by
  have:w.heap.size=gD:=by simpa using e
  omega
 have c0:=g.cell y1 (C _);have c1:=g.cell y2 (C _);have ay:=g.cell y3 (C _);have aD:ah w0 ws:=y7.grown g y7.size (fun k hk=>by cases hk;exact lT);clear A zA y1 y2 y3 y7 W u E G U Z V F Q g k0 k1 k2 b0 b1 b2 t J L uA Y8 ap O ao ab aq P;go_wp2;clear bP z1 z2 z3 z4;obtain ⟨d1,pu⟩:∃d1:Dk,(mg d.1 d.2.1,[],d.2.2)=d1:=⟨_,rfl⟩;have O:=zB.o;rw [pu] at O
 have aK:d1.2.2.length<65536:=by rw [<-pu];exact hn
 have HR:=ag (show (mg d.1 d.2.1,[],d.2.2++[(true,N,l)])=(d1.1,d1.2.1,d1.2.2++[(true,N,l)]) by rw [<-pu]);obtain ⟨f1,f2,f3,_⟩:=cells3 M;obtain ⟨FO,xG⟩:=ai a3;rw [<-xG] at hZ f3;have FP:∀n c k,(Value.slice FO n c).ownBlock=some k->k<w.heap.size∧w0.heap.size<=k:=fun n c k hk=>hZ k (by cases FO<;>exact hk)
 clear pu M xG hB H hn hZ zB;obtain ⟨D,cap,a2,c2,a3,c3,G,hB,H,J,_,U,Z,V⟩:=O;obtain ⟨e1,e2,e3,_⟩:=cells3 G;have xG:a3=FO:=by
  have eZ:=e3.symm.trans f3;injection eZ with eZ;injection eZ
 have iF:∀k,(Value.slice a3 d1.2.2.length c3).ownBlock=some k->w0.heap.size<=k:=fun k hk=>by rw [xG] at hk;exact (FP _ _ k hk).2
 have xE:∀k,(Value.slice a3 d1.2.2.length c3).ownBlock=some k->k<w.heap.size:=fun k hk=>by rw [xG] at hk;exact (FP _ _ k hk).1
 clear f1 f2 f3 xG FP;have u:(fun a=>a.cell? ⟨w.heap.size,0,none⟩=some (.bool true)∧a.cell? ⟨w.heap.size,1,none⟩=some (.int .i64 N)∧a.cell? ⟨w.heap.size,2,none⟩=some (.slice x m c)∧(a.cell? ⟨gD,0,none⟩=some (.slice (some ⟨D,0,none⟩) d1.1.length cap)∧a.cell? ⟨gD,1,none⟩=some (.slice a2 d1.2.1.length c2)∧a.cell? ⟨gD,2,none⟩=some (.slice a3 d1.2.2.length c3))∧ah w0 a) ws:=⟨c0,c1,ay,⟨e1,e2,e3⟩,aD⟩;have W:aL (fun a=>a.cell? ⟨w.heap.size,0,none⟩=some (.bool true)∧a.cell? ⟨w.heap.size,1,none⟩=some (.int .i64 N)∧a.cell? ⟨w.heap.size,2,none⟩=some (.slice x m c)∧(a.cell? ⟨gD,0,none⟩=some (.slice (some ⟨D,0,none⟩) d1.1.length cap)∧a.cell? ⟨gD,1,none⟩=some (.slice a2 d1.2.1.length c2)∧a.cell? ⟨gD,2,none⟩=some (.slice a3 d1.2.2.length c3))∧ah w0 a):=(aR _ _).and ((aR _ _).and ((aR _ _).and (((aR _ _).and ((aR _ _).and (aR _ _))).and (jW _))));refine rH W 11 (by kernel_rfl) u ?_
 intro A;refine pg [0,1,2,3,4,5] (fuel:=6) (a':=?FI) (by kernel_rfl) (by kernel_rfl) (by kernel_rfl) ?uX A ?FJ
 case uX=>
  iterate 6 (apply Yl.cons rfl (by kernel_rfl);focus (rintro a ⟨x1,x2,x3,⟨x4,x5,x6⟩,X⟩;go_simp<;>with_reducible rfl);try simp only [az])
  exact Yl.nil
 refine uU (i:=6) (R:=fun v K=>∃p k,v=.agg #[.bool true,.int .i64 N,.slice p l.length k]∧aX K B (.slice p l.length k) l∧ah ws K) rfl (by kernel_rfl) (by rfl) (by go_simp) ((YD true N x m c l _ HM.o HL.o (HC.o.a A.2.2.2.2)).mono fun e K ⟨v,h1,h2,h3⟩=>by obtain ⟨p,k,rfl⟩:=h2.form;exact ⟨_,h1,p,k,rfl,h2.mono J,aB.drew.trans h3⟩) ?_
 rintro v7 w7 ⟨p7,k7,rfl,mi,bH⟩;have eu:=W _ _ u bH;obtain ⟨a9,c9,w9,bD,F,Q,Y⟩:=Vx (s:=true) (N:=N) (d:=d1) hB H (aC J bH.size) lT (eH _ _ _ _ G bH) (U.a bH) (Z.a bH) (V.a bH) mi (by omega);have HF:=ag Y;have bO:(fun a=>a.cell? ⟨w.heap.size,0,none⟩=some (.bool true)∧a.cell? ⟨w.heap.size,1,none⟩=some (.int .i64 N)∧a.cell? ⟨w.heap.size,2,none⟩=some (.slice x m c)∧(a.cell? ⟨gD,0,none⟩=some (.slice (some ⟨D,0,none⟩) d1.1.length cap)∧a.cell? ⟨gD,1,none⟩=some (.slice a2 d1.2.1.length c2)∧a.cell? ⟨gD,2,none⟩=some (.slice a3 d1.2.2.length c3))∧ah w0 a) w9:=by
  obtain ⟨x1,x2,x3,⟨x4,x5,x6⟩,X⟩:=eu;obtain ⟨z1,z2,z3,_⟩:=cells3 Q;have C:∀j,some (⟨w.heap.size,j,none⟩:Addr).block≠(Value.slice a3 d1.2.2.length c3).ownBlock:=fun j e=>by
   have h:=xE _ e.symm;exact absurd h (Nat.lt_irrefl _)
  exact ⟨F.cell x1 (C _),F.cell x2 (C _),F.cell x3 (C _),⟨z1,z2,z3⟩,X.grown F X.size (fun k hk=>iF k hk)⟩
 obtain ⟨wt,Cj,M,g⟩:=Nn (.slice a9 (d1.2.2.length+1) c9) Q;obtain ⟨z1,z2,z3,z4⟩:=cells3 Q;refine ⟨eu, ?_⟩;clear A Y;have A:=eu;try simp only [az]
 refine lL (i:=7) (v:=.slice (some ⟨w7.heap.size,0,none⟩) 1 1) (w':=w7.alloc (.cells #[.bool true,.int .i64 N,.slice p7 l.length k7] 151)) rfl (by kernel_rfl) (by rfl) (by go_simp) (fun _=>W _ _ A (ae)) ?_
 try simp only [az]
 refine lL (i:=8) (v:=.slice a9 (d1.2.2.length+1) c9) (w':=w9) rfl (by kernel_rfl) (by rfl) (BG (v:=.slice a3 d1.2.2.length c3) (y:=.slice (some ⟨w7.heap.size,0,none⟩) 1 1) rfl rfl rfl bD) (fun _=>bO) ?_
 clear A;have A:=bO;try simp only [az]
 refine lL (i:=9) (v:=?Y5) rfl (by kernel_rfl) (by rfl) ?FQ (fun _=>A) ?Y6
 case FQ=>(go_simp<;>with_reducible rfl)
 try simp only [az]
 refine uy (i:=10) (v:=?Nr) rfl (by kernel_rfl) (by kernel_rfl) (by kernel_rfl) rfl (by kernel_rfl) (by kernel_rfl) (by rfl) ?zy A ?Ns
 case zy=>(rintro a ⟨x1,x2,x3,⟨x4,x5,x6⟩,X⟩;go_simp<;>with_reducible rfl)
 try simp only [az]
 refine rJ (i:=11) (w':=wt) rfl (by kernel_rfl) (by kernel_rfl) (by rfl) (by rw [<-Cj];go_simp) ?_
 try simp only [az]
 refine rM (by kernel_rfl) ?_ _
 refine NoPanic.normal ?_
 have O:=HF.o wt g M;obtain ⟨_,_,_,⟨_,_,_⟩,y7⟩:=bO;have aE:ah w0 wt:=y7.grown g y7.size (fun k hk=>by cases hk;exact lT);rw [<-HR.o] at O;have HD:=ag O;clear O A HF eu bD Cj z1 z2 z3 z4 y7 W u;go_wp2;go_ret;exact ⟨_,rfl,aE,.inr ⟨_,rfl,rfl,HD.o⟩⟩
end Go.Proofs.YthpammbgcidloaaGreat
