/-
  What dev's Do does.
-/
import Derived.Test.YtmeaiocohalphaaGreatDoorDOwn
set_option maxHeartbeats 2000000
set_option maxRecDepth 100000
namespace Go.Proofs.YtmeaiocohalphaaGreatDoor
open Go.RowKit
set_option linter.all false
variable {w:World}{B base:Nat}{t:TypeId}{a b c v:Value}{d:Dk}
theorem R4(u:Value)(h:w.heap[B]? =some (.cells #[a,c,b] t (0,0))):
  ∃ws,w.setCell ⟨B,1,none⟩ u=ws∧ws.heap[B]? =some (.cells #[a,u,b] t (0,0))∧w.grownBy ws (some B):=
 ⟨_,rfl,heap_setCell_same _ _ 1 _ _ _ h,Kc w _ _⟩
theorem R5(u:Value)(h:w.heap[B]? =some (.cells #[a,b,c] t (0,0))):
  ∃ws,w.setCell ⟨B,2,none⟩ u=ws∧ws.heap[B]? =some (.cells #[a,b,u] t (0,0))∧w.grownBy ws (some B):=
 ⟨_,rfl,heap_setCell_same _ _ 2 _ _ _ h,Kc w _ _⟩
theorem Ep{P:Program}{o:Oper}{a:Act}{s x:Operand}{y v':Value}{w':World}(c:o.op=.call {callee:=.builtin .append,args:=#[s,x],argTypes:=#[t,t]})(d:a.eval s=v)(e:a.eval x=y)(b:(Builtin.append_ #[t,t] o.type #[v,y]).run P w=.ok v' w'):
  (execOp a.eval o).run P w=.ok (.value v') w':=by
 simp[execOp,c,resolve,invoke,builtin,d,e,b,Result.andThen]
def Fe (w0 w':World) (gD B:Nat) (o:Option Dk) (r:Int):Prop:=ah w0 w'∧((o=none∧r=9)∨∃d,o=some d∧r=0∧Dp w' w0.heap.size gD B d)
theorem qabb(w0:World)(gD B:Nat)(d:Dk)(N:Int)(x:aA)(m c:Nat)(l:az)(w:World)(hD:Dp w w0.heap.size gD B d)(M:ah w0 w)(aa:Rd w0 (.slice x m c) l)(hm:m=l.length)(hl:l.length<=1000000000)(hw:d.2.1.length<65536)(hn:d.2.2.length<65536):
  Calls Tryz.prog 144 #[.pointer (some ⟨gD,0,none⟩),.agg #[.bool false,.int .i64 N,.slice x m c]] w fun e w'=>∃r,e=.returned (.int .i64 r)∧Fe w0 w' gD B (some (d.1,d.2.1++[(N,l)],d.2.2++[(false,N,l)])) r:=by
 have HC:=ag aa;have HM:=ag hm;have HL:=ag hl;clear aa hm hl;obtain⟨Q,cap,a2,c2,a3,c3,F,hB,H,sP,mQ,R,I,O⟩:=hD;have hZ:∀k,(Value.slice a3 d.2.2.length c3).ownBlock=some k->k<w.heap.size∧w0.heap.size<=k:=fun k f=>by
  obtain⟨z,_,h,_⟩:=O;have:=h.lt k f
  omega
 have iW:∀k,(Value.slice a2 d.2.1.length c2).ownBlock=some k->w0.heap.size<=k:=fun k f=>by
  obtain⟨z,_,h,_⟩:=I;have:=(h.lt k f).1
  omega
 have Al:∀k,(Value.slice a2 d.2.1.length c2).ownBlock=some k->k<w.heap.size:=fun k f=>by
  obtain⟨z,_,h,_⟩:=I;exact(h.lt k f).2
 have an:gD<w.heap.size:=(Xd6.1 F).1;obtain⟨S,ew⟩:=au (w.alloc (.cells #[.bool false,.int .i64 N,.slice x m c] 206));have u:ah w S:=by rw[<-ew];exact ae
 have T:=gI _ _ _ _ F u;obtain⟨k0,k1,k2,_⟩:=cells3 T;have ac:((65536:Int)<=d.2.1.length)=False:=by simp;omega
 have ad:((65536:Int)<=d.2.2.length)=False:=by simp;omega
 have Ff:decide ((65536:Int)<=d.2.1.length)=false:=by simp;omega
 have ab:decide ((65536:Int)<=d.2.2.length)=false:=by simp;omega
 have b0:S.cell? ⟨w.heap.size,0,none⟩=some (.bool false):=by rw[<-ew];simp
 have b1:S.cell? ⟨w.heap.size,1,none⟩=some (.int .i64 N):=by rw[<-ew];simp
 have b2:S.cell? ⟨w.heap.size,2,none⟩=some (.slice x m c):=by rw[<-ew];simp
 go_enter Tryz.func144,Tryz.ntmps144;go_wp2;have D:B<=S.heap.size:=aG sP u.size;have A:(fun a=>a.cell? ⟨w.heap.size,0,none⟩=some (.bool false)∧a.cell? ⟨w.heap.size,1,none⟩=some (.int .i64 N)∧a.cell? ⟨w.heap.size,2,none⟩=some (.slice x m c)∧(a.cell? ⟨gD,0,none⟩=some (.slice (some ⟨Q,0,none⟩) d.1.length cap)∧a.cell? ⟨gD,1,none⟩=some (.slice a2 d.2.1.length c2)∧a.cell? ⟨gD,2,none⟩=some (.slice a3 d.2.2.length c3))∧ah w0 a) S:=⟨b0,b1,b2,⟨k0,k1,k2⟩,M.trans (u.mono M.size)⟩;have J:aN (fun a=>a.cell? ⟨w.heap.size,0,none⟩=some (.bool false)∧a.cell? ⟨w.heap.size,1,none⟩=some (.int .i64 N)∧a.cell? ⟨w.heap.size,2,none⟩=some (.slice x m c)∧(a.cell? ⟨gD,0,none⟩=some (.slice (some ⟨Q,0,none⟩) d.1.length cap)∧a.cell? ⟨gD,1,none⟩=some (.slice a2 d.2.1.length c2)∧a.cell? ⟨gD,2,none⟩=some (.slice a3 d.2.2.length c3))∧ah w0 a):=(aV _ _).and ((aV _ _).and ((aV _ _).and (((aV _ _).and ((aV _ _).and (aV _ _))).and (pQ _))));have ai:=F;have rF:=R;have BQ:=I;have BR:=O;clear F R I O;have F:=T;have R:=rF.a u;have I:=BQ.a u;have O:=BR.a u;clear T rF BQ BR ai ew ac ad Ff ab;refine sK J 12 (by kernel_rfl) A ?_
 intro g;refine lP [0,1,2,3,4,5,6] 6 ?jS ?dP g ?jT
 case dP=>
  iterate 7 (apply Yl.cons rfl (by kernel_rfl);focus (rintro a⟨U,V,W,⟨x4,x5,x6⟩,K⟩;go_simp<;>rfl);try simp only[aB])
  exact Yl.nil
 refine lC 7 (fun v X=>∃p k,v=.agg #[.int .i64 N,.slice p l.length k]∧bG X B (.slice p l.length k) l∧ah S X) rfl ((qhl N x m c l _ HM.o HL.o (HC.o.a g.2.2.2.2)).mono fun e X ⟨v,h1,h2,h3⟩=>by obtain⟨p,k,rfl⟩:=h2.form;exact⟨_,h1,p,k,rfl,h2.mono D,aF.drew.trans h3⟩) ?_
 rintro v7 Y⟨p7,k7,rfl,sQ,C⟩;have L:=J _ _ A C;obtain⟨a9,c9,w9,aW,G,P,t⟩:=qlo (N:=N) (d:=d) hB H (aG D C.size) mQ (gI _ _ _ _ F C) (R.a C) (I.a C) (O.a C) sQ (by omega);have HF:=ag t;have Z:(fun a=>a.cell? ⟨w.heap.size,0,none⟩=some (.bool false)∧a.cell? ⟨w.heap.size,1,none⟩=some (.int .i64 N)∧a.cell? ⟨w.heap.size,2,none⟩=some (.slice x m c)∧(a.cell? ⟨gD,0,none⟩=some (.slice (some ⟨Q,0,none⟩) d.1.length cap)∧a.cell? ⟨gD,1,none⟩=some (.slice a2 d.2.1.length c2)∧a.cell? ⟨gD,2,none⟩=some (.slice a3 d.2.2.length c3))∧ah w0 a) w9:=by
  obtain⟨U,V,W,⟨x4,x5,x6⟩,K⟩:=L;obtain⟨z1,z2,z3,_⟩:=cells3 P;have b:∀j,some (⟨w.heap.size,j,none⟩:Addr).block≠(Value.slice a2 d.2.1.length c2).ownBlock:=fun j e=>by
   have h:=Al _ e.symm;exact absurd h (Nat.lt_irrefl _)
  exact⟨G.cell U (b _),G.cell V (b _),G.cell W (b _),⟨z1,z2,z3⟩,K.grown G K.size (fun k f=>iW k f)⟩
 obtain⟨ws,fI,E,q⟩:=R4 (.slice a9 (d.2.1.length+1) c9) P;obtain⟨z1,z2,z3,z4⟩:=cells3 P;refine⟨L, ?_⟩;clear g t;have g:=L;try simp only[aB]
 refine lR 8 (.slice (some ⟨Y.heap.size,0,none⟩) 1 1) (Y.alloc (.cells #[.int .i64 N,.slice p7 l.length k7] 133)) rfl (by go_simp) (fun _=>J _ _ g (ae)) ?_
 try simp only[aB]
 refine lR 9 (.slice a9 (d.2.1.length+1) c9) w9 rfl (Ep (v:=.slice a2 d.2.1.length c2) (y:=.slice (some ⟨Y.heap.size,0,none⟩) 1 1) rfl rfl rfl aW) (fun _=>Z) ?_
 clear g;have g:=Z;try simp only[aB]
 refine J9 (i:=10) (v:=?uR) rfl (by kernel_rfl) (by rfl) ?kR (fun _=>g) ?uS
 case kR=>(go_simp<;>rfl)
 try simp only[aB]
 refine lT 11 ?R6 rfl ?BS g ?R7
 case BS=>(rintro a⟨U,V,W,⟨x4,x5,x6⟩,K⟩;go_simp<;>rfl)
 try simp only[aB]
 refine lL 12 ws rfl (by rw[<-fI];go_simp) ?_
 try simp only[aB]
 refine lD ?_
 have om:=HF.o ws q E;obtain⟨y1,y2,y3,⟨_,_,_⟩,y7⟩:=Z;have b:∀j,some (⟨w.heap.size,j,none⟩:Addr).block≠some gD:=fun j e=>by
  have:w.heap.size=gD:=by simpa using e
  omega
 have c0:=q.cell y1 (b _);have c1:=q.cell y2 (b _);have aj:=q.cell y3 (b _);have al:ah w0 ws:=y7.grown q y7.size (fun k f=>by cases f;exact mQ);clear g HF L aW fI z1 z2 z3 z4 y1 y2 y3 y7 J A C sQ F R I O G P q k0 k1 k2 b0 b1 b2 u D Al iW;obtain⟨d1,qK⟩:∃d1:Dk,(d.1,d.2.1++[(N,l)],d.2.2)=d1:=⟨_,rfl⟩;rw[qK]at om
 have ao:d1.2.2.length<65536:=by rw[<-qK];exact hn
 have HR:=ag (show(d.1,d.2.1++[(N,l)],d.2.2++[(false,N,l)])=(d1.1,d1.2.1,d1.2.2++[(false,N,l)])by rw[<-qK]);obtain⟨f1,f2,f3,_⟩:=cells3 E;obtain⟨Kk,Am⟩:=ak a3;rw[<-Am]at hZ f3;have Kl:∀n c k,(Value.slice Kk n c).ownBlock=some k->k<w.heap.size∧w0.heap.size<=k:=fun n c k f=>hZ k (by cases Kk<;>exact f)
 clear qK E Am hB H hn hZ;obtain⟨Q,cap,a2,c2,a3,c3,F,hB,H,D,_,R,I,O⟩:=om;obtain⟨e1,e2,e3,_⟩:=cells3 F;have Am:a3=Kk:=by
  have eZ:=e3.symm.trans f3;injection eZ with eZ;injection eZ
 have iW:∀k,(Value.slice a3 d1.2.2.length c3).ownBlock=some k->w0.heap.size<=k:=fun k f=>by rw[Am]at f;exact(Kl _ _ k f).2
 have Al:∀k,(Value.slice a3 d1.2.2.length c3).ownBlock=some k->k<w.heap.size:=fun k f=>by rw[Am]at f;exact(Kl _ _ k f).1
 clear f1 f2 f3 Am Kl;go_wp2;have A:(fun a=>a.cell? ⟨w.heap.size,0,none⟩=some (.bool false)∧a.cell? ⟨w.heap.size,1,none⟩=some (.int .i64 N)∧a.cell? ⟨w.heap.size,2,none⟩=some (.slice x m c)∧(a.cell? ⟨gD,0,none⟩=some (.slice (some ⟨Q,0,none⟩) d1.1.length cap)∧a.cell? ⟨gD,1,none⟩=some (.slice a2 d1.2.1.length c2)∧a.cell? ⟨gD,2,none⟩=some (.slice a3 d1.2.2.length c3))∧ah w0 a) ws:=⟨c0,c1,aj,⟨e1,e2,e3⟩,al⟩;have J:aN (fun a=>a.cell? ⟨w.heap.size,0,none⟩=some (.bool false)∧a.cell? ⟨w.heap.size,1,none⟩=some (.int .i64 N)∧a.cell? ⟨w.heap.size,2,none⟩=some (.slice x m c)∧(a.cell? ⟨gD,0,none⟩=some (.slice (some ⟨Q,0,none⟩) d1.1.length cap)∧a.cell? ⟨gD,1,none⟩=some (.slice a2 d1.2.1.length c2)∧a.cell? ⟨gD,2,none⟩=some (.slice a3 d1.2.2.length c3))∧ah w0 a):=(aV _ _).and ((aV _ _).and ((aV _ _).and (((aV _ _).and ((aV _ _).and (aV _ _))).and (pQ _))));refine sK J 11 (by kernel_rfl) A ?_
 intro g;refine lP [0,1,2,3,4,5] 6 ?oI ?iA g ?oJ
 case iA=>
  iterate 6 (apply Yl.cons rfl (by kernel_rfl);focus (rintro a⟨U,V,W,⟨x4,x5,x6⟩,K⟩;go_simp<;>rfl);try simp only[aB])
  exact Yl.nil
 refine lC 6 (fun v X=>∃p k,v=.agg #[.bool false,.int .i64 N,.slice p l.length k]∧bG X B (.slice p l.length k) l∧ah ws X) rfl ((Qo false N x m c l _ HM.o HL.o (HC.o.a g.2.2.2.2)).mono fun e X ⟨v,h1,h2,h3⟩=>by obtain⟨p,k,rfl⟩:=h2.form;exact⟨_,h1,p,k,rfl,h2.mono D,aF.drew.trans h3⟩) ?_
 rintro v7 Y⟨p7,k7,rfl,sQ,C⟩;have L:=J _ _ A C;obtain⟨a9,c9,w9,aW,G,P,t⟩:=tN (s:=false) (N:=N) (d:=d1) hB H (aG D C.size) mQ (gI _ _ _ _ F C) (R.a C) (I.a C) (O.a C) sQ (by omega);have HF:=ag t;have Z:(fun a=>a.cell? ⟨w.heap.size,0,none⟩=some (.bool false)∧a.cell? ⟨w.heap.size,1,none⟩=some (.int .i64 N)∧a.cell? ⟨w.heap.size,2,none⟩=some (.slice x m c)∧(a.cell? ⟨gD,0,none⟩=some (.slice (some ⟨Q,0,none⟩) d1.1.length cap)∧a.cell? ⟨gD,1,none⟩=some (.slice a2 d1.2.1.length c2)∧a.cell? ⟨gD,2,none⟩=some (.slice a3 d1.2.2.length c3))∧ah w0 a) w9:=by
  obtain⟨U,V,W,⟨x4,x5,x6⟩,K⟩:=L;obtain⟨z1,z2,z3,_⟩:=cells3 P;have b:∀j,some (⟨w.heap.size,j,none⟩:Addr).block≠(Value.slice a3 d1.2.2.length c3).ownBlock:=fun j e=>by
   have h:=Al _ e.symm;exact absurd h (Nat.lt_irrefl _)
  exact⟨G.cell U (b _),G.cell V (b _),G.cell W (b _),⟨z1,z2,z3⟩,K.grown G K.size (fun k f=>iW k f)⟩
 obtain⟨wt,Fg,E,q⟩:=R5 (.slice a9 (d1.2.2.length+1) c9) P;obtain⟨z1,z2,z3,z4⟩:=cells3 P;refine⟨L, ?_⟩;clear g t;have g:=L;try simp only[aB]
 refine lR 7 (.slice (some ⟨Y.heap.size,0,none⟩) 1 1) (Y.alloc (.cells #[.bool false,.int .i64 N,.slice p7 l.length k7] 206)) rfl (by go_simp) (fun _=>J _ _ g (ae)) ?_
 try simp only[aB]
 refine lR 8 (.slice a9 (d1.2.2.length+1) c9) w9 rfl (Ep (v:=.slice a3 d1.2.2.length c3) (y:=.slice (some ⟨Y.heap.size,0,none⟩) 1 1) rfl rfl rfl aW) (fun _=>Z) ?_
 clear g;have g:=Z;try simp only[aB]
 refine J9 (i:=9) (v:=?qbv9) rfl (by kernel_rfl) (by rfl) ?Km (fun _=>g) ?qbr9
 case Km=>(go_simp<;>rfl)
 try simp only[aB]
 refine lT 10 ?R8 rfl ?BU g ?R9
 case BU=>(rintro a⟨U,V,W,⟨x4,x5,x6⟩,K⟩;go_simp<;>rfl)
 try simp only[aB]
 refine lL 11 wt rfl (by rw[<-Fg];go_simp) ?_
 try simp only[aB]
 refine lD ?_
 have om:=HF.o wt q E;obtain⟨_,_,_,⟨_,_,_⟩,y7⟩:=Z;have am:ah w0 wt:=y7.grown q y7.size (fun k f=>by cases f;exact mQ);rw[<-HR.o]at om;have HD:=ag om;clear om g HF L aW Fg z1 z2 z3 z4 y7 J A;go_wp2;go_ret;exact⟨_,rfl,am,.inr ⟨_,rfl,rfl,HD.o⟩⟩
theorem Dp.synced{ws:World}{gD a cap:Nat}{a2 a3:aA}{c2 c3:Nat}{data:az}(n:base<=a)(g:a<B)(i:B<=w.heap.size)(o:base<=gD)(b:data.length=d.1.length)
  (hd:w.heap[gD]? =some (.cells #[.slice (some ⟨a,0,none⟩) d.1.length cap,.slice a2 d.2.1.length c2,.slice a3 d.2.2.length c3] 27 (0,0)))
  (p:bG w base (.slice (some ⟨a,0,none⟩) d.1.length cap) data) (q:mP w B (.slice a3 d.2.2.length c3) d.2.2) (j:w.grownBy ws (some gD))
  (l:ws.heap[gD]? =some (.cells #[.slice (some ⟨a,0,none⟩) d.1.length cap,.slice none 0 0,.slice a3 d.2.2.length c3] 27 (0,0))):Dp ws base gD B (data,[],d.2.2):=by
 obtain⟨⟨v,x,m⟩,y,z,r⟩:=yc;have c:∀k,some gD=some k->∃cs t e,w.heap[k]? =some (.cells cs t e)∧t=27:=fun k f=>by cases f;exact⟨_,_,_,hd,rfl⟩
 have s:=p.keptT j (fun k f=>by obtain⟨cs,t,e,h,rfl⟩:=c k f;exact⟨cs,_,e,h,m⟩);have u:=q.keptT j (fun k f=>by obtain⟨cs,t,e,h,rfl⟩:=c k f;exact⟨cs,_,e,h,m,r⟩);refine⟨a,cap,none,0,a3,c3, ?_,n,g,aG i j.size,o, ?_,⟨[],rfl,Xa7 _ _ _ _,by simp⟩,u⟩
 ·show ws.heap[gD]? =some (.cells #[.slice (some ⟨a,0,none⟩) data.length cap,_,_] _ _)
  rw[b];exact l
 show bG ws base (.slice (some ⟨a,0,none⟩) data.length cap) data
 rw[b];exact s
theorem qafk(w0:World)(gD B cnt:Nat)(d:Dk)(N:Int)(x:aA)(m c:Nat)(l:az)(w:World)(hD:Dp w w0.heap.size gD B d)(R:ah w0 w)(ac:Rd w0 (.slice x m c) l)(hm:m=l.length)(hl:l.length<=1000000000)(hw:d.2.1.length<=65536)(hn:d.2.2.length<65536)
  (S:d.1.length=128*cnt) (ap:1<=cnt) (aD:cnt<=4096) (hp:∀p∈d.2.1,dO cnt p=0):
  Calls Tryz.prog 144 #[.pointer (some ⟨gD,0,none⟩),.agg #[.bool true,.int .i64 N,.slice x m c]] w fun e w'=>∃r,e=.returned (.int .i64 r)∧Fe w0 w' gD B (some (nN d.1 d.2.1,[],d.2.2++[(true,N,l)])) r:=by
 have HC:=ag ac;have HM:=ag hm;have HL:=ag hl;have ad:∀p∈d.2.1,0<=p.1∧p.1<1000000∧p.2.length=128:=fun p h=>by have:=wM (hp p h);omega
 have ai:∀p∈d.2.1,0<=p.1∧128*p.1.toNat+128<=d.1.length∧p.2.length=128:=fun p h=>by have:=wM (hp p h);omega
 have aj:∀(k:Int) (l:az) (q:List Pu),(∀p∈q,dO cnt p=0)->jR k q=some l->0<=k∧k<cnt:=by
  intro k l q;induction q with
  |nil=>intro _ h;cases h
  |cons p q ih=>
   intro hq h;have e2:jR k (p::q)=(match jR k q with|some b=>some b|none=>if p.1=k then some p.2 else none):=rfl;rw[e2]at h;cases e:jR k q with
   |some b=>exact ih (fun p hp=>hq p (Xb1 _ hp)) (by rw[e];rw[e]at h;exact h)
   |none=>
    rw[e]at h;have:=wM (hq p (Xb4 ..))
    simp only at h
    split at h
    ·rename_i hk;omega
    cases h
 have Qc:=ag ad;have Qd:=ag ai;have aq:=ag (fun k l=>aj k l d.2.1 hp);have sS:=ag S;have HW:=ag hw;clear ac hm hl hp ad ai aj S hw;obtain⟨D,cap,a2,c2,a3,c3,G,hB,H,sP,mQ,T,Y,U⟩:=hD;have hZ:∀k,(Value.slice a3 d.2.2.length c3).ownBlock=some k->k<w.heap.size∧w0.heap.size<=k:=fun k hk=>by
  obtain⟨z,_,h,_⟩:=U;have:=h.lt k hk
  omega
 have aE:gD<w.heap.size:=(Xd6.1 G).1;obtain⟨I,ew⟩:=au (w.alloc (.cells #[.bool true,.int .i64 N,.slice x m c] 206));have t:ah w I:=by rw[<-ew];exact ae
 have hs1:w.heap.size<I.heap.size:=by rw[<-ew];simp
 have Z:=gI _ _ _ _ G t;obtain⟨k0,k1,k2,_⟩:=cells3 Z;have ar:((65536:Int)<=d.2.2.length)=False:=by simp;omega
 have al:decide ((65536:Int)<=d.2.2.length)=false:=by simp;omega
 have b0:I.cell? ⟨w.heap.size,0,none⟩=some (.bool true):=by rw[<-ew];simp
 have b1:I.cell? ⟨w.heap.size,1,none⟩=some (.int .i64 N):=by rw[<-ew];simp
 have b2:I.cell? ⟨w.heap.size,2,none⟩=some (.slice x m c):=by rw[<-ew];simp
 go_enter Tryz.func144,Tryz.ntmps144;go_wp2;have J:B<=I.heap.size:=aG sP t.size;have u:(fun a=>a.cell? ⟨w.heap.size,0,none⟩=some (.bool true)∧a.cell? ⟨w.heap.size,1,none⟩=some (.int .i64 N)∧a.cell? ⟨w.heap.size,2,none⟩=some (.slice x m c)∧(a.cell? ⟨gD,0,none⟩=some (.slice (some ⟨D,0,none⟩) d.1.length cap)∧a.cell? ⟨gD,1,none⟩=some (.slice a2 d.2.1.length c2)∧a.cell? ⟨gD,2,none⟩=some (.slice a3 d.2.2.length c3))∧ah w0 a) I:=⟨b0,b1,b2,⟨k0,k1,k2⟩,R.trans (t.mono R.size)⟩;have V:aN (fun a=>a.cell? ⟨w.heap.size,0,none⟩=some (.bool true)∧a.cell? ⟨w.heap.size,1,none⟩=some (.int .i64 N)∧a.cell? ⟨w.heap.size,2,none⟩=some (.slice x m c)∧(a.cell? ⟨gD,0,none⟩=some (.slice (some ⟨D,0,none⟩) d.1.length cap)∧a.cell? ⟨gD,1,none⟩=some (.slice a2 d.2.1.length c2)∧a.cell? ⟨gD,2,none⟩=some (.slice a3 d.2.2.length c3))∧ah w0 a):=(aV _ _).and ((aV _ _).and ((aV _ _).and (((aV _ _).and ((aV _ _).and (aV _ _))).and (pQ _))));have av:=G;have rF:=T;have BQ:=Y;have BR:=U;clear G T Y U;have G:=Z;have T:=rF.a t;have Y:=BQ.a t;have U:=BR.a t;clear Z rF BQ BR av ew ar al;refine iH V (by kernel_rfl) u ?_
 intro A;refine rP [0,1,2,3,5,6,7,8] 2 ?EX ?sN A ?EY
 case sN=>
  iterate 8 (apply Yl.cons rfl (by kernel_rfl);focus (rintro a⟨x1,x2,x3,⟨x4,x5,x6⟩,W⟩;go_simp<;>rfl);try simp only[aB])
  exact Yl.nil
 refine rC 4 (fun v K=>∃b,v=.map (some b)∧Bm K I.heap.size b d.2.1.length (fun k=>jR k d.2.1)∧ah I K) rfl ((qwj a2 _ c2 d.2.1 I.drew rfl (by have:=HW.o;omega) Qc.o ((Y.a aI).rd)).mono fun e K ⟨b,h1,h2,h3⟩=>⟨_,h1,b,rfl,h2,aF.drew.trans h3⟩) ?_
 rintro v4 w4⟨b,rfl,xJ,E⟩;have BV:=V _ _ u E;have am:=ag xJ;clear xJ;refine⟨BV, ?_⟩;clear A;have A:=BV;try simp only[aB]
 have aa:=gI _ _ _ _ G E;refine rC 9 (fun v K=>v=.tuple #[]∧w4.grownBy K (some D)∧∃f,bG K w0.heap.size (.slice (some ⟨D,0,none⟩) d.1.length cap) f∧f.length=d.1.length∧∀k:Nat,k<cnt->blk f k=(jR k d.2.1).getD (blk d.1 k)) rfl ((qaj5 I.heap.size b d.2.1.length _ w0.heap.size D _ cap cnt d.1 w4 am.o (T.a E) (by omega) sS.o ap (by omega) aq.o).mono fun e K ⟨h1,h2,h3⟩=>⟨_,h1,rfl,h2,h3⟩) ?_
 rintro v9 w9⟨rfl,F,f,Qe,ab,oM⟩;have an:some gD≠some D:=fun e=>by
  obtain⟨cs,h⟩:=zn T D rfl;injection e with e;rw[<-e,G]at h;cases h
 have P:∀j,some (⟨w.heap.size,j,none⟩:Addr).block≠some D:=fun j e=>by
  have:w.heap.size=D:=by simpa using e
  omega
 have Q:=(F.block gD (Xd6.1 aa).1 an).trans aa;have bV:(fun a=>a.cell? ⟨w.heap.size,0,none⟩=some (.bool true)∧a.cell? ⟨w.heap.size,1,none⟩=some (.int .i64 N)∧a.cell? ⟨w.heap.size,2,none⟩=some (.slice x m c)∧(a.cell? ⟨gD,0,none⟩=some (.slice (some ⟨D,0,none⟩) d.1.length cap)∧a.cell? ⟨gD,1,none⟩=some (.slice a2 d.2.1.length c2)∧a.cell? ⟨gD,2,none⟩=some (.slice a3 d.2.2.length c3))∧ah w0 a) w9:=by
  obtain⟨x1,x2,x3,⟨x4,x5,x6⟩,W⟩:=BV;obtain⟨z1,z2,z3,_⟩:=cells3 Q;exact⟨F.cell x1 (P _),F.cell x2 (P _),F.cell x3 (P _),⟨z1,z2,z3⟩,W.grown F W.size (fun k hk=>by cases hk;exact hB)⟩
 refine⟨bV, ?_⟩;try simp only[aB]
 refine rD ?_
 have L:f=nN d.1 d.2.1:=by
  refine qaj4 cnt (ab.trans sS.o) ?_ (fun n hn=>?_)
  ·rw[AO d.1 d.2.1 d.1 rfl Qd.o];exact sS.o
  rw[oM n hn,qrq d.1 n d.2.1 d.1 rfl Qd.o]
 obtain⟨ws,fI,M,g⟩:=R4 (.slice none 0 0) Q;obtain⟨z1,z2,z3,z4⟩:=cells3 Q;have O:=Dp.synced hB H (aG (aG J E.size) F.size) mQ ab Q Qe ((U.a E).grown F H) g M;rw[L]at O;have ao:=ag O;obtain⟨y1,y2,y3,⟨_,_,_⟩,y7⟩:=bV;have C:∀j,some (⟨w.heap.size,j,none⟩:Addr).block≠some gD:=fun j e=>by
  have:w.heap.size=gD:=by simpa using e
  omega
 have c0:=g.cell y1 (C _);have c1:=g.cell y2 (C _);have aw:=g.cell y3 (C _);have ax:ah w0 ws:=y7.grown g y7.size (fun k hk=>by cases hk;exact mQ);clear A BV y1 y2 y3 y7 V u E G T Y U F Q g k0 k1 k2 b0 b1 b2 t J L oM ab Qe O am aa an P;go_wp2;clear fI z1 z2 z3 z4;obtain⟨d1,qK⟩:∃d1:Dk,(nN d.1 d.2.1,[],d.2.2)=d1:=⟨_,rfl⟩;have O:=ao.o;rw[qK]at O
 have aH:d1.2.2.length<65536:=by rw[<-qK];exact hn
 have HR:=ag (show(nN d.1 d.2.1,[],d.2.2++[(true,N,l)])=(d1.1,d1.2.1,d1.2.2++[(true,N,l)])by rw[<-qK]);obtain⟨f1,f2,f3,_⟩:=cells3 M;obtain⟨Kk,Am⟩:=ak a3;rw[<-Am]at hZ f3;have Kl:∀n c k,(Value.slice Kk n c).ownBlock=some k->k<w.heap.size∧w0.heap.size<=k:=fun n c k hk=>hZ k (by cases Kk<;>exact hk)
 clear qK M Am hB H hn hZ ao;obtain⟨D,cap,a2,c2,a3,c3,G,hB,H,J,_,T,Y,U⟩:=O;obtain⟨e1,e2,e3,_⟩:=cells3 G;have Am:a3=Kk:=by
  have eZ:=e3.symm.trans f3;injection eZ with eZ;injection eZ
 have iW:∀k,(Value.slice a3 d1.2.2.length c3).ownBlock=some k->w0.heap.size<=k:=fun k hk=>by rw[Am]at hk;exact(Kl _ _ k hk).2
 have Al:∀k,(Value.slice a3 d1.2.2.length c3).ownBlock=some k->k<w.heap.size:=fun k hk=>by rw[Am]at hk;exact(Kl _ _ k hk).1
 clear f1 f2 f3 Am Kl;have u:(fun a=>a.cell? ⟨w.heap.size,0,none⟩=some (.bool true)∧a.cell? ⟨w.heap.size,1,none⟩=some (.int .i64 N)∧a.cell? ⟨w.heap.size,2,none⟩=some (.slice x m c)∧(a.cell? ⟨gD,0,none⟩=some (.slice (some ⟨D,0,none⟩) d1.1.length cap)∧a.cell? ⟨gD,1,none⟩=some (.slice a2 d1.2.1.length c2)∧a.cell? ⟨gD,2,none⟩=some (.slice a3 d1.2.2.length c3))∧ah w0 a) ws:=⟨c0,c1,aw,⟨e1,e2,e3⟩,ax⟩;have V:aN (fun a=>a.cell? ⟨w.heap.size,0,none⟩=some (.bool true)∧a.cell? ⟨w.heap.size,1,none⟩=some (.int .i64 N)∧a.cell? ⟨w.heap.size,2,none⟩=some (.slice x m c)∧(a.cell? ⟨gD,0,none⟩=some (.slice (some ⟨D,0,none⟩) d1.1.length cap)∧a.cell? ⟨gD,1,none⟩=some (.slice a2 d1.2.1.length c2)∧a.cell? ⟨gD,2,none⟩=some (.slice a3 d1.2.2.length c3))∧ah w0 a):=(aV _ _).and ((aV _ _).and ((aV _ _).and (((aV _ _).and ((aV _ _).and (aV _ _))).and (pQ _))));refine sK V 11 (by kernel_rfl) u ?_
 intro A;refine lP [0,1,2,3,4,5] 6 ?RJ ?BN A ?RN
 case BN=>
  iterate 6 (apply Yl.cons rfl (by kernel_rfl);focus (rintro a⟨x1,x2,x3,⟨x4,x5,x6⟩,W⟩;go_simp<;>rfl);try simp only[aB])
  exact Yl.nil
 refine lC 6 (fun v K=>∃p k,v=.agg #[.bool true,.int .i64 N,.slice p l.length k]∧bG K B (.slice p l.length k) l∧ah ws K) rfl ((Qo true N x m c l _ HM.o HL.o (HC.o.a A.2.2.2.2)).mono fun e K ⟨v,h1,h2,h3⟩=>by obtain⟨p,k,rfl⟩:=h2.form;exact⟨_,h1,p,k,rfl,h2.mono J,aF.drew.trans h3⟩) ?_
 rintro v7 w7⟨p7,k7,rfl,sQ,bE⟩;have dQ:=V _ _ u bE;obtain⟨a9,c9,w9,aW,F,Q,X⟩:=tN (s:=true) (N:=N) (d:=d1) hB H (aG J bE.size) mQ (gI _ _ _ _ G bE) (T.a bE) (Y.a bE) (U.a bE) sQ (by omega);have HF:=ag X;have bV:(fun a=>a.cell? ⟨w.heap.size,0,none⟩=some (.bool true)∧a.cell? ⟨w.heap.size,1,none⟩=some (.int .i64 N)∧a.cell? ⟨w.heap.size,2,none⟩=some (.slice x m c)∧(a.cell? ⟨gD,0,none⟩=some (.slice (some ⟨D,0,none⟩) d1.1.length cap)∧a.cell? ⟨gD,1,none⟩=some (.slice a2 d1.2.1.length c2)∧a.cell? ⟨gD,2,none⟩=some (.slice a3 d1.2.2.length c3))∧ah w0 a) w9:=by
  obtain⟨x1,x2,x3,⟨x4,x5,x6⟩,W⟩:=dQ;obtain⟨z1,z2,z3,_⟩:=cells3 Q;have C:∀j,some (⟨w.heap.size,j,none⟩:Addr).block≠(Value.slice a3 d1.2.2.length c3).ownBlock:=fun j e=>by
   have h:=Al _ e.symm;exact absurd h (Nat.lt_irrefl _)
  exact⟨F.cell x1 (C _),F.cell x2 (C _),F.cell x3 (C _),⟨z1,z2,z3⟩,W.grown F W.size (fun k hk=>iW k hk)⟩
 obtain⟨wt,Fg,M,g⟩:=R5 (.slice a9 (d1.2.2.length+1) c9) Q;obtain⟨z1,z2,z3,z4⟩:=cells3 Q;refine⟨dQ, ?_⟩;clear A X;have A:=dQ;try simp only[aB]
 refine lR 7 (.slice (some ⟨w7.heap.size,0,none⟩) 1 1) (w7.alloc (.cells #[.bool true,.int .i64 N,.slice p7 l.length k7] 206)) rfl (by go_simp) (fun _=>V _ _ A (ae)) ?_
 try simp only[aB]
 refine lR 8 (.slice a9 (d1.2.2.length+1) c9) w9 rfl (Ep (v:=.slice a3 d1.2.2.length c3) (y:=.slice (some ⟨w7.heap.size,0,none⟩) 1 1) rfl rfl rfl aW) (fun _=>bV) ?_
 clear A;have A:=bV;try simp only[aB]
 refine J9 (i:=9) (v:=?qbv9) rfl (by kernel_rfl) (by rfl) ?Km (fun _=>A) ?qbr9
 case Km=>(go_simp<;>rfl)
 try simp only[aB]
 refine lT 10 ?R8 rfl ?BU A ?R9
 case BU=>(rintro a⟨x1,x2,x3,⟨x4,x5,x6⟩,W⟩;go_simp<;>rfl)
 try simp only[aB]
 refine lL 11 wt rfl (by rw[<-Fg];go_simp) ?_
 try simp only[aB]
 refine lD ?_
 have O:=HF.o wt g M;obtain⟨_,_,_,⟨_,_,_⟩,y7⟩:=bV;have ay:ah w0 wt:=y7.grown g y7.size (fun k hk=>by cases hk;exact mQ);rw[<-HR.o]at O;have HD:=ag O;clear O A HF dQ aW Fg z1 z2 z3 z4 y7 V u;go_wp2;go_ret;exact⟨_,rfl,ay,.inr ⟨_,rfl,rfl,HD.o⟩⟩
theorem qafl(w0:World)(gD B:Nat)(d:Dk)(s:Bool)(N:Int)(x:aA)(m c:Nat)(w:World)(l:Dp w w0.heap.size gD B d)(a:ah w0 w)(n:65536<=d.2.2.length∨(s=false∧65536<=d.2.1.length)):
  Calls Tryz.prog 144 #[.pointer (some ⟨gD,0,none⟩),.agg #[.bool s,.int .i64 N,.slice x m c]] w fun e w'=>∃r,e=.returned (.int .i64 r)∧Fe w0 w' gD B none r:=by
 obtain⟨y,cap,a2,c2,a3,c3,j,z,o,A,C,p,q,t⟩:=l;obtain⟨i,k⟩:=au (w.alloc (.cells #[.bool s,.int .i64 N,.slice x m c] 206));have b:ah w i:=by rw[<-k];exact ae
 have f:=gI _ _ _ _ j b;obtain⟨D,E,F,_⟩:=cells3 f;have G:i.cell? ⟨w.heap.size,0,none⟩=some (.bool s):=by rw[<-k];simp
 have g:ah w0 i:=a.trans (b.mono a.size);clear p q t j f b;by_cases u:65536<=d.2.2.length
 ·have v:(65536:Int)<=d.2.2.length:=by omega
  go_enter Tryz.func144,Tryz.ntmps144;go_wp2;go_ret;exact⟨_,rfl,g,.inl ⟨rfl,rfl⟩⟩
 obtain⟨rfl,H⟩:s=false∧65536<=d.2.1.length:=by rcases n with h|h;exact absurd h u;exact h
 have v:decide ((65536:Int)<=d.2.2.length)=false:=by simp;omega
 have I:(65536:Int)<=d.2.1.length:=by omega
 go_enter Tryz.func144,Tryz.ntmps144;go_wp2;go_ret;exact⟨_,rfl,g,.inl ⟨rfl,rfl⟩⟩
theorem qaj6(w0:World)(gD B cnt:Nat)(d:Dk)(s:Bool)(N:Int)(x:aA)(m c:Nat)(l:az)(w:World)(i:Dp w w0.heap.size gD B d)(a:ah w0 w)(b:Rd w0 (.slice x m c) l)(k:m=l.length)(hl:l.length<=1000000000)(n:d.2.1.length<=65536)(q:d.2.2.length<=65536)
  (f:d.1.length=128*cnt) (j:1<=cnt) (g:cnt<=4096) (o:∀p∈d.2.1,dO cnt p=0):
  Calls Tryz.prog 144 #[.pointer (some ⟨gD,0,none⟩),.agg #[.bool s,.int .i64 N,.slice x m c]] w fun e w'=>∃r,e=.returned (.int .i64 r)∧Fe w0 w' gD B (fq d (s,N,l)) r:=by
 by_cases h:65536<=d.2.2.length∨(s=false∧65536<=d.2.1.length)
 ·have e:fq d (s,N,l)=none:=by unfold fq;rw[if_pos h]
  rw[e];exact qafl w0 gD B d s N x m c w i a h
 have e:fq d (s,N,l)=if s then some (nN d.1 d.2.1,[],d.2.2++[(s,N,l)])else some (d.1,d.2.1++[(N,l)],d.2.2++[(s,N,l)]):=by unfold fq;rw[if_neg h]
 rw[e];cases s
 ·exact qabb w0 gD B d N x m c l w i a b k hl (by simp at h;omega) (by omega)
 exact qafk w0 gD B cnt d N x m c l w i a b k hl n (by omega) f j g o
theorem qlp(w:World)(h:kN w v d):
  Calls Tryz.prog 141 #[v] w fun e w'=>e=.returned (.int .i64 (jQ d))∧ah w w':=by
 obtain⟨a1,c1,a2,c2,a3,c3,rfl,g,i,j⟩:=h.form;have m:=ag g;have n:=ag i;have p:=ag j;clear g i j h;have c:∀o,ah w (w.alloc o):=fun o=>ae
 generalize e1:d.1.length=n1 at *;generalize k:d.2.1.length=n2 at *;generalize l:d.2.2.length=n3 at *;have q:=ag e1;have r:=ag k;have s:=ag l;clear e1 k l;go_enter Tryz.func141,Tryz.ntmps141;go_wp2_with fail
 refine(qaa4 (d:=d) a1 a2 a3 n1 c1 n2 c2 n3 c3 _ (m.o.a (c _)) (n.o.a (c _)) (p.o.a (c _)) q.o.symm r.o.symm s.o.symm).mono ?_
 rintro e t⟨rfl,a⟩;have b:ah w t:=(c _).trans (a.mono (by simp));clear a;have f:af (jQ d=if okD d then 0 else 20):=rfl;generalize okD d=ok at f;cases ok
 ·go_wp2
  go_ret;exact⟨by rw[f.o];rfl,b⟩
 go_wp2;go_ret;exact⟨by rw[f.o];rfl,b⟩
theorem Hd(d:Dk):(okD d=true∧jQ d=0)∨(okD d=false∧jQ d=20):=by
 unfold jQ;cases okD d
 ·exact .inr ⟨rfl,rfl⟩
 exact .inl ⟨rfl,rfl⟩
theorem tT(a:Ac):∀(l:List Ac) (d:Dk),qJ d (l++[a])=(qJ d l).bind (fun x=>fq x a)
 |[],d=>by
  show(match fq d a with|none=>none|some x=>some x)=fq d a
  cases fq d a<;>rfl
 |b::l,d=>by
  show(match fq d b with|none=>none|some x=>qJ x (l++[a]))=(match fq d b with|none=>none|some x=>qJ x l).bind _
  cases e:fq d b with
  |none=>rfl
  |some x=>exact tT a l x
theorem qyq(d:Dk)(l b:List Ac)(h:qJ d l=none):qJ d (l++b)=none:=by
 induction b generalizing l with
 |nil=>simpa using h
 |cons a b ih=>
  have:=ih (l++[a]) (by rw[tT,h];rfl)
  simpa using this
theorem qlq(k:Nat):∀(l:List Ac),(∀a∈l,cB k a=0)->xG k l=0
 |[],_=>rfl
 |a::l,h=>by
  unfold xG;rw[if_pos (h a (Xb4 ..))];exact qlq k l (fun b c=>h b (Xb1 _ c))
theorem qrs(k:Nat):∀(l:List Ac) (j:Nat) (d:j<l.length),(∀a∈l.take j,cB k a=0)->cB k l[j]≠0->xG k l=cB k l[j]
 |a::l,0,_,_,h=>by
  have c:¬cB k a=0:=h;unfold xG;rw[if_neg c];rfl
 |a::l,j+1,d,h,c=>by
  unfold xG;rw[if_pos (h a (by simp))];exact qrs k l j (by simpa using d) (fun b e=>h b (by simp[e])) (by simpa using c)
theorem qhp(k:Nat):∀(l:List Ac),xG k l=0->∀a∈l,cB k a=0
 |[],_,a,ha=>by cases ha
 |b::l,h,a,ha=>by
  unfold xG at h;split at h
  ·rename_i hb
   rcases List.mem_cons.1 ha with rfl|ha
   ·exact hb
   exact qhp k l h a ha
  rename_i hb;exact absurd h hb
def mR (cnt:Nat) (d:Dk):Prop:=d.1.length=128*cnt∧d.2.1.length<=65536∧d.2.2.length<=65536∧∀p∈d.2.1,dO cnt p=0
theorem mR.one{cnt:Nat}{e:Dk}{a:Ac}(h:mR cnt d)(f:cB cnt a=0)(b:fq d a=some e):mR cnt e∧e.2.2=d.2.2++[a]:=by
 obtain⟨j,l,m,k⟩:=h;unfold fq at b;split at b
 ·cases b
 rename_i hf
 split at b
 ·rename_i hs
  cases b;refine⟨⟨?_,by simp,by simp;omega,by simp⟩,rfl⟩;show(nN d.1 d.2.1).length=_
  rw[AO d.1 d.2.1 d.1 rfl (fun p g=>by have:=wM (k p g);omega)];exact j
 rename_i hs
 cases b;have c:a.1=false:=by simpa using hs
 have i:dO cnt a.2=0:=by unfold cB at f;rw[c]at f;exact f
 refine⟨⟨j,by simp;simp[c]at hf;omega,by simp;omega,fun p g=>?_⟩,rfl⟩;rcases Xa5.1 g with h|h
 ·exact k p h
 rw[Xb3.1 h];exact i
theorem mR.of_ok(h:okD d=true):mR (bD d) d∧1<=bD d∧bD d<=4096:=by
 obtain⟨g,a,b,c,e,f,i⟩:=(sM d).1 h;refine⟨⟨by unfold bD at *;omega,c,e,f⟩,a,b⟩
theorem Ig{k:Nat}{a:Ac}(h:cB k a=0):a.2.2.length<=128:=by
 unfold cB at h;split at h
 ·split at h
  ·cases h
  rename_i h'
  have:a.2.2=[]:=Classical.byContradiction fun e=>h' (.inr e)
  rw[this];simp
 have:=wM h;omega
theorem Fh(w:World)(base:Nat):kP w base (.agg #[.slice none 0 0,.slice none 0 0,.slice none 0 0]) dz:=
 ⟨_,_,_,rfl,Xa7 _ _ _ _,⟨[],rfl,Xa7 _ _ _ _,by simp⟩,⟨[],rfl,Xa7 _ _ _ _,by simp⟩⟩
theorem take_split{α:Type}(l:List α)(a b:Nat)(h:a<=b):l.take b=l.take a++(l.take b).drop a:=by
 have:=Xc0 a (l.take b)
 rw[List.take_take,Xc3 h]at this;exact this.symm
theorem pJ.cap_le{a:aA}{n c:Nat}{l:List Ac}(h:pJ w (.slice a n c) l):n<=c:=by
 rcases h with⟨_,h|⟨_,_,h⟩⟩|⟨b,d,f,h,e,_⟩
 ·cases h;exact Nat.le_refl _
 ·cases h;exact Xd5 _
 cases h;exact e
theorem qud{l:az}(h:bG w base v l)(hl:0<l.length):∃g cap,v=.slice (some ⟨g,0,none⟩) l.length cap∧base<=g:=by
 rcases h.2 with⟨_,h⟩|⟨g,cap,a,h,b,_⟩
 ·exact absurd h (by omega)
 exact⟨g,cap,h,b⟩
theorem Sa(l:List Ac)(a:aA)(n c:Nat)(j:Int)(w:World)(hD:kN w v d)(hA:pJ w (.slice a n c) l)(hn:n=l.length):
  Calls Tryz.prog 73 #[v,.slice a n c,.int .i64 j] w fun e w'=>∃dv,e=.returned (.tuple #[dv,.int .i64 (iR d l j).2])∧kP w' w.heap.size dv (iR d l j).1∧ah w w':=by
 obtain⟨a1,c1,a2,c2,a3,c3,rfl,h1,h2,h3⟩:=hD.form;have wO:=hA.len_le;have Kn:=h1.len_le;have HD:=ag hD;have HA:=ag hA;have HN:=ag hn;have aW:n<=maxLen:=by omega
 clear hD hA hn wO;unfold maxLen at aW;generalize e1:d.1.length=n1 at *;generalize e2:d.2.1.length=n2 at *;generalize e3:d.2.2.length=n3 at *;have E1:=ag e1;have E2:=ag e2;have E3:=ag e3;have H1:=ag h1;have H2:=ag h2;have H3:=ag h3;clear e1 e2 e3 h1 h2 h3;obtain⟨w1,ew⟩:=au ((w.alloc (.cells #[.slice a1 n1 c1,.slice a2 n2 c2,.slice a3 n3 c3] 27)).alloc (.cells #[.slice none 0 0,.slice none 0 0,.slice none 0 0] 27));have U:ah w w1:=by rw[<-ew];exact(ae).alloc (by simp) _
 have k0:w1.cell? ⟨w.heap.size,0,none⟩=some (.slice a1 n1 c1):=by rw[<-ew];simp
 have k1:w1.cell? ⟨w.heap.size,1,none⟩=some (.slice a2 n2 c2):=by rw[<-ew];simp
 have k2:w1.cell? ⟨w.heap.size,2,none⟩=some (.slice a3 n3 c3):=by rw[<-ew];simp
 have ao:w1.heap[w.heap.size+1]? =some (.cells #[.slice none 0 0,.slice none 0 0,.slice none 0 0] 27 (0,0)):=by rw[<-ew];exact uN _ _ _
 go_enter Tryz.func73,Tryz.ntmps73;go_wp2_with fail
 refine(qlp (d:=d) _ (HD.o.a U)).mono ?_
 rintro e w2⟨rfl,L⟩;have F:ah w w2:=U.trans (L.mono U.size);have Ag:=aV _ _ _ _ k0 L;have X:=aV _ _ _ _ k1 L;have Y:=aV _ _ _ _ k2 L;have O:=gI _ _ _ _ ao L;clear ew k0 k1 k2 ao U L;rcases Hd d with⟨P,A⟩|⟨P,A⟩
 ·rw[A]
  obtain⟨oq,aY,a0⟩:=mR.of_ok P;have HF:=ag oq;have HM:=ag (show bD d=n1 / 128 by rw[<-E1.o];rfl);have HK:=ag A;have HO:=ag P;clear A P oq;go_wp2;go_loopw [24] (fun i wr=>∃k:Nat,k<=n∧i=.int .i64 k∧af (∀p∈l.take k,cB (bD d) p=0)∧ah w2 wr) (fun i _=>n-(intOf i).toNat)
  case atStart=>exact⟨0,Xd5 _,rfl,ag (by simp),aF⟩
  obtain⟨k,M,rfl,J,f⟩:=hrel;have s:ah w wr:=F.trans (f.mono F.size);by_cases ap:k<n
  ·have K:(k:Int)<n:=by omega
   have C:k<l.length:=by have:=HN.o;omega
   obtain⟨b,a4,rfl,q0,pU,x,m,c',Q,V,R⟩:=(HA.o.a s).at k C;have s0:=fun o=>aV _ _ _ _ Ag (f.alloc f.size o)
   have s1:=fun o=>aV _ _ _ _ X (f.alloc f.size o)
   have s2:=fun o=>aV _ _ _ _ Y (f.alloc f.size o)
   have HX:=ag R;clear V R;go_wp2_with fail
   refine(qjv a1 a2 a3 n1 c1 n2 c2 n3 c3 (by have:=E1.o;omega) (l[k]).1 (l[k]).2.1 x m c' (l[k]).2.2 HX.o _).mono ?_
   rintro e wc⟨rfl,aq⟩;have ji:=(f.alloc f.size _).trans (aq.mono (aG f.size (by simp)));have ar:ah w wc:=F.trans (ji.mono F.size);have av:=gI _ _ _ _ O ji;clear aq;have Bl:=ag (show cB (n1 / 128) ((l[k]).1,(l[k]).2.1,(l[k]).2.2)=cB (bD d) l[k]by rw[HM.o]);rw[Bl.o];clear Bl;by_cases G:cB (bD d) l[k]=0
   ·rw[G]
    have HP:=ag G;clear G;go_wp2;go_roundw
    case rel=>
     refine⟨k+1,by omega,by go_num,ag ?_,ji⟩;intro p G;rw[Xa2 C]at G;rcases Xa5.1 G with h|h
     ·exact J.o p h
     rw[Xb3.1 h];exact HP.o
    simp[intOf]<;>omega
   have T:=ag (show iR d l j=(dz,cB (bD d) l[k])by
    have hf:=qrs (bD d) l k C J.o G;unfold iR;rw[if_neg (by rw[HK.o];decide),hf,if_pos G])
   have bc:(cB (bD d) l[k] !=0)=true:=by simpa using G
   generalize cB (bD d) l[k]=pe at *;clear q0 pU Q s0 s1 s2;obtain⟨ws,fI,q,g⟩:=sO (.slice none 0 0) (.slice none 0 0) (.slice none 0 0) av;obtain⟨z1,z2,z3,z4⟩:=cells3 av;obtain⟨Q,V,R,q4⟩:=cells3 q;have t:=ar.grown g ar.size (fun k M=>by cases M;simp);clear q g;go_wp2;refine bodyPost_ret (v:=.tuple #[.agg #[.slice none 0 0,.slice none 0 0,.slice none 0 0],.int .i64 pe]) ?_ rfl ?_
   ·simp[results,Tryz.results73,go_sem, *]
   rw[T.o];exact⟨_,rfl,Fh _ _,t⟩
  have Sb:=ag (show xG (bD d) l=0 by
   refine qlq _ _ (fun p G=>?_);have:=J.o
   rw[Xa1 (by have:=HN.o;omega)]at this;exact this p G)
  have K:decide ((k:Int)<n)=false:=aC (by omega);have r0:=aV _ _ _ _ Ag f;have r1:=aV _ _ _ _ X f;have r2:=aV _ _ _ _ Y f;have H:=gI _ _ _ _ O f;clear Ag X Y O f J F;by_cases Z:j<0
  ·have T:=ag (show iR d l j=(dz,2)by
    unfold iR;rw[if_neg (by rw[HK.o];decide),if_neg (by rw[Sb.o];decide),if_pos (.inl Z)])
   obtain⟨ws,fI,q,g⟩:=sO (.slice none 0 0) (.slice none 0 0) (.slice none 0 0) H;obtain⟨z1,z2,z3,z4⟩:=cells3 H;obtain⟨Q,V,R,q4⟩:=cells3 q;have t:=s.grown g s.size (fun k M=>by cases M;simp);clear q g;go_wp2;refine bodyPost_ret (v:=.tuple #[.agg #[.slice none 0 0,.slice none 0 0,.slice none 0 0],.int .i64 2]) ?_ rfl ?_
   ·simp[results,Tryz.results73,go_sem, *]
   rw[T.o];exact⟨_,rfl,Fh _ _,t⟩
  by_cases aa:(n:Int)<j
  ·have aw:decide (j<0)=false:=by simpa using Z
   have T:=ag (show iR d l j=(dz,2)by
    unfold iR;rw[if_neg (by rw[HK.o];decide),if_neg (by rw[Sb.o];decide),if_pos (.inr (by rw[<-HN.o];exact aa))])
   obtain⟨ws,fI,q,g⟩:=sO (.slice none 0 0) (.slice none 0 0) (.slice none 0 0) H;obtain⟨z1,z2,z3,z4⟩:=cells3 H;obtain⟨Q,V,R,q4⟩:=cells3 q;have t:=s.grown g s.size (fun k M=>by cases M;simp);clear q g;go_wp2;refine bodyPost_ret (v:=.tuple #[.agg #[.slice none 0 0,.slice none 0 0,.slice none 0 0],.int .i64 2]) ?_ rfl ?_
   ·simp[results,Tryz.results73,go_sem, *]
   rw[T.o];exact⟨_,rfl,Fh _ _,t⟩
  obtain⟨D,rfl⟩:∃D:Nat,j=D:=⟨j.toNat,by omega⟩
  have bd:D<=n:=by omega
  have T:=ag (show iR d l D=(match qJ d (l.take D)with|none=>(dz,9)|some x=>(x,0))by
   unfold iR;rw[if_neg (by rw[HK.o];decide),if_neg (by rw[Sb.o];decide),if_neg (by have:=HN.o;omega)];rfl)
  have a5:=ag (qhp _ _ Sb.o);have aw:decide ((D:Int)<0)=false:=by simp
  have ba:decide ((n:Int)<D)=false:=by simpa using aa
  clear Sb Z aa;have bb:=HA.o.cap_le;have I:d.1.length<=1000000000:=by have:=HF.o.1;omega
  have ax:∀p∈d.2.1,p.2.length<=1000000000:=fun p G=>by have:=wM (HF.o.2.2.2 p G);omega
  have ay:∀p∈d.2.2,p.2.2.length<=1000000000:=fun p G=>by have:=Ig (((sM d).1 HO.o).2.2.2.2.2.2 p G);omega
  have aD:=ag (qrp d a1 a2 a3 n1 c1 n2 c2 n3 c3 wr (H1.o.a s) (H2.o.a s) (H3.o.a s) E1.o.symm E2.o.symm E3.o.symm I (by have:=HF.o.2.1;omega) (by have:=HF.o.2.2.1;omega) ax ay);clear I ax ay;go_wp2_with fail
  refine aD.o.mono ?_
  rintro e w3⟨x,y,z,B,rfl,be,o1,rF,o2,o3,rG,I⟩;have Sc:0<d.1.length:=by have:=HF.o.1;omega
  obtain⟨g0,cp,rfl,a6⟩:=qud o1 Sc;obtain⟨y2,aE,rfl⟩:=o2.rd.form;obtain⟨y3,aH,rfl⟩:=o3.rd.form;obtain⟨w4,ab⟩:=au (w3.alloc (.cells #[.slice (some ⟨g0,0,none⟩) d.1.length cp,.slice y2 d.2.1.length aE,.slice y3 d.2.2.length aH] 27));have N:ah w3 w4:=by rw[<-ab];exact ae
  have aJ:Dp w4 wr.heap.size w3.heap.size B d:=⟨g0,cp,y2,aE,y3,aH,by rw[<-ab];exact heap_alloc_new _ _,a6,rF g0 rfl,aG rG N.size,I.size,o1.a N,o2.a N,o3.a N⟩;have a7:=ag aJ;have aK:ah wr w4:=I.trans (N.mono I.size);clear o1 rF o2 o3 aJ N I aD Sc;go_wp2;go_loopw [51] (fun i wq=>∃(k:Nat) (E:Dk),k<=D∧i=.int .i64 k∧af (qJ d (l.take k)=some E∧mR (bD d) E∧Dp wq wr.heap.size w3.heap.size B E)∧ah wr wq) (fun i _=>D-(intOf i).toNat)
  case atStart=>exact⟨0,d,Xd5 _,rfl,⟨rfl,HF.o,a7.o⟩,aK⟩
  obtain⟨k,E,M,rfl,u,f⟩:=hrel;clear aK ab ap K r0 r1 r2;have ac:=s.trans (f.mono s.size);by_cases ap:k<D
  ·have K:(k:Int)<D:=by omega
   have C:k<l.length:=by have:=HN.o;omega
   obtain⟨b,a4,rfl,q0,pU,x,m,c',Q,V,R⟩:=(HA.o.a ac).at k C;obtain⟨_,_,e9,_,_,x9,m9,c9,p1,p2,p3⟩:=(HA.o.a s).at k C;cases e9;have ex:x9=x∧m9=m∧c9=c':=by
    have:=(aV _ _ _ _ p1 f).symm.trans Q
    injection this with this;injection this with t1 t2 t3;exact⟨t1,t2,t3⟩
   obtain⟨rfl,rfl,rfl⟩:=ex;have HX:=ag R;have HR:=ag p2;have aM:=ag (a5.o _ (Xa3 C));clear V R p1 p2 p3;go_wp2_with fail
   refine(qaj6 _ w3.heap.size B (bD d) E (l[k]).1 (l[k]).2.1 _ _ _ (l[k]).2.2 _ (u.o.2.2.a (ae)) (f.alloc f.size _) HR.o HX.o (by have:=Ig aM.o;omega) u.o.2.1.2.1 u.o.2.1.2.2.1 u.o.2.1.1 aY a0 u.o.2.1.2.2.2).mono ?_
   rintro e w5⟨r,rfl,S⟩;obtain⟨ad,S⟩:=S;have Er:=s.trans (ad.mono s.size);have Bn:=gI _ _ _ _ H ad;have W:l.take (k+1)=l.take k++[l[k]]:=Xa2 C;rcases S with⟨eo,rfl⟩|⟨d',eo,rfl,Sd⟩
   ·have a8:=ag (show iR d l D=(dz,9)by
     have e1:qJ d (l.take (k+1))=none:=by rw[W,tT,u.o.1];exact eo
     have e2:l.take D=l.take (k+1)++(l.take D).drop (k+1):=take_split l _ _ (by omega);rw[T.o,e2,qyq _ _ _ e1])
    clear q0 pU Q eo W;obtain⟨ws,fI,q,g⟩:=sO (.slice none 0 0) (.slice none 0 0) (.slice none 0 0) Bn;obtain⟨z1,z2,z3,z4⟩:=cells3 Bn;obtain⟨Q,V,R,q4⟩:=cells3 q;have t:=Er.grown g Er.size (fun k M=>by cases M;simp);clear q g;go_wp2;refine bodyPost_ret (v:=.tuple #[.agg #[.slice none 0 0,.slice none 0 0,.slice none 0 0],.int .i64 9]) ?_ rfl ?_
    ·simp[results,Tryz.results73,go_sem, *]
    rw[a8.o];exact⟨_,rfl,Fh _ _,t⟩
   have mI:=ag (show qJ d (l.take (k+1))=some d' by rw[W,tT,u.o.1];exact eo);have uG:=ag (u.o.2.1.one aM.o eo).1;have qL:=ag Sd;clear q0 pU Q eo W Sd Bn;go_wp2;go_roundw
   case rel=>exact⟨k+1,d',by omega,by go_num,⟨mI.o,uG.o,qL.o⟩,ad⟩
   simp[intOf]<;>omega
  have K:decide ((k:Int)<D)=false:=aC (by omega);have wP:=ag (show iR d l D=(E,0)by
   have:k=D:=by omega
   rw[T.o,<-this,u.o.1])
  have ai:=gI _ _ _ _ H f;obtain⟨aj,al,am,Ko,an,Kq,aO,bg,bh,bj,bk,o1,o2,o3⟩:=u.o.2.2;obtain⟨z1,z2,z3,z4⟩:=cells3 aO;obtain⟨ws,fI,q,g⟩:=sO (.slice (some ⟨aj,0,none⟩) E.1.length al) (.slice am E.2.1.length Ko) (.slice an E.2.2.length Kq) ai;obtain⟨x1,x2,x3,x4⟩:=cells3 ai;obtain⟨Q,V,R,q4⟩:=cells3 q;have t:=ac.grown g ac.size (fun k M=>by cases M;simp);have aS:w.heap.size+1<_:=(Xd6.1 H).1;have a9:af (kP ws w.heap.size (.agg #[.slice (some ⟨aj,0,none⟩) E.1.length al,.slice am E.2.1.length Ko,.slice an E.2.2.length Kq]) E):=
   ⟨_,_,_,rfl,(o1.grown g aS).mono (by omega),(o2.grown g (by omega)).mono (by omega),(o3.grown g (by omega)).mono (by omega)⟩
  clear q g aO o1 o2 o3 ai;go_wp2;refine bodyPost_ret (v:=.tuple #[.agg #[.slice (some ⟨aj,0,none⟩) E.1.length al,.slice am E.2.1.length Ko,.slice an E.2.2.length Kq],.int .i64 0]) ?_ rfl ?_
  ·simp[results,Tryz.results73,go_sem, *]
  rw[wP.o];exact⟨_,rfl,a9.o,t⟩
 rw[A]
 have T:=ag (show iR d l j=(dz,20)by unfold iR;rw[if_pos (by rw[A];decide),A]);obtain⟨ws,fI,q,g⟩:=sO (.slice none 0 0) (.slice none 0 0) (.slice none 0 0) O;obtain⟨z1,z2,z3,z4⟩:=cells3 O;obtain⟨Q,V,R,q4⟩:=cells3 q;have t:=F.grown g F.size (fun k M=>by cases M;simp);clear A P q g;go_wp2;refine bodyPost_ret (v:=.tuple #[.agg #[.slice none 0 0,.slice none 0 0,.slice none 0 0],.int .i64 20]) ?_ rfl ?_
 ·simp[results,Tryz.results73,go_sem, *]
 rw[T.o];exact⟨_,rfl,Fh _ _,t⟩
end Go.Proofs.YtmeaiocohalphaaGreatDoor
