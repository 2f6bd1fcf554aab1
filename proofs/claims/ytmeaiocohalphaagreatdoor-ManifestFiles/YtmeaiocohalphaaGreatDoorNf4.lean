/-
  What manifest's reader does: a version.
-/
import Derived.Test.YtmeaiocohalphaaGreatDoorROne2
import Derived.Test.YtmeaiocohalphaaGreatDoorNf3
set_option maxHeartbeats 4000000
set_option maxRecDepth 100000
namespace Go.Proofs.YtmeaiocohalphaaGreatDoor
open Go.RowKit
set_option linter.all false
variable {a b w w':World}{base c g n:Nat}{v:Value}{l:az}{t:TypeId}
theorem kP.keptT3{d:Dk}{cs:Array Value}(h:kP w base v d)(f:w.grownBy w' (some g))(i:w.heap[g]? =some (.cells cs 27 (0,0))):kP w' base v d:=by
 obtain⟨⟨q,r,j⟩,s,l,m⟩:=yc;obtain⟨a,b,c,rfl,n,o,p⟩:=h;exact⟨a,b,c,rfl,n.keptT f (fun k e=>by cases e;exact⟨_,_,_,i,j⟩),o.keptT f (fun k e=>by cases e;exact⟨_,_,_,i,j,l⟩),p.keptT f (fun k e=>by cases e;exact⟨_,_,_,i,j,m⟩)⟩
def qZ (d:Dk) (l:List Ac):Int:=if jQ d≠0 then jQ d else xG (bD d) l
theorem qahp(d:Dk)(l:List Ac)(a:Int)(h:qZ d l≠0):iR d l a=(dz,qZ d l):=by
 unfold iR;unfold qZ at h⊢;by_cases b:jQ d=0
 ·have c:¬(jQ d≠0):=by simpa using b
  simp only[if_neg c]at h⊢;rw[if_pos h]
 rw[if_pos b,if_pos b]
theorem qad0(d:Dk)(l:List Ac)(h:qZ d l=0):jQ d=0∧xG (bD d) l=0:=by
 unfold qZ at h;by_cases a:jQ d=0
 ·rw[if_neg (by simpa using a)]at h
  exact⟨a,h⟩
 rw[if_pos a]at h;exact absurd h a
theorem Nn(d:Dk)(l:List Ac)(a:Nat)(h:qZ d l=0)(e:a<=l.length):iR d l a=(match qJ d (l.take a)with|none=>(dz,9)|some x=>(x,0)):=by
 obtain⟨b,c⟩:=qad0 d l h;unfold iR;rw[if_neg (by rw[b];decide),if_neg (by rw[c];decide),if_neg (by omega)];rfl
def Turned (w w':World):Prop:=w.heap.size<=w'.heap.size∧(∀(i:Nat) cs t fr,w.heap[i]? =some (.cells cs t fr)->t≠5->w'.heap[i]? =some (.cells cs t fr))∧
 ∀(base g n c:Nat) (l:az),bG w base (.slice (some ⟨g,0,none⟩) n c) l->∃l',bG w' base (.slice (some ⟨g,0,none⟩) n c) l'
theorem Turned.refl(w:World):Turned w w:=⟨Nat.le_refl _,fun _ _ _ _ h _=>h,fun _ _ _ _ l h=>⟨l,h⟩⟩
theorem Turned.trans{c:World}(h:Turned a b)(k:Turned b c):Turned a c:=
 ⟨aG h.1 k.1,fun i cs t d hi e=>k.2.1 i cs t d (h.2.1 i cs t d hi e) e,fun base g n f l j=>by
  obtain⟨m,o⟩:=h.2.2 base g n f l j;exact k.2.2 base g n f m o⟩
theorem Turned.of_below(h:ah a b):Turned a b:=
 ⟨h.size,fun i cs t e hi _=>gI _ _ _ _ hi h,fun base g n c l d=>⟨l,d.a h⟩⟩
theorem Turned.set(h:bG w base (.slice (some ⟨g,0,none⟩) n c) l)(j:Nat)(b:UInt8):Turned w (w.setCell ⟨g,j,none⟩ (.int .u8 b.toNat)):=by
 have a:=(h.stored j b).2;refine⟨a.size,fun i cs t r hi m=>?_,fun d o s u p f=>?_⟩
 ·refine(a.block i (Xd6.1 hi).1 fun e=>?_).trans hi
  cases e;obtain⟨q,k⟩:=zn h g rfl;rw[hi]at k;cases k;exact m rfl
 by_cases e:o=g
 ·subst e
  exact⟨_,(f.stored j b).1⟩
 exact⟨p,World.ownsRow.kept f a (.inr (by simp[Value.ownBlock];omega))⟩
theorem bG.turned(h:bG w base v l)(a:Turned w w'):∃b,bG w' base v b:=by
 rcases id h with⟨_,⟨rfl,d⟩|⟨g,cap,c,rfl,_⟩⟩
 ·exact⟨[],Xa7 _ _ _ _⟩
 exact a.2.2 _ _ _ _ _ h
theorem bG.len'{a:aA}(h:bG w base (.slice a n c) l):n=l.length:=by
 obtain⟨a,b,e⟩:=h.form;cases e;rfl
theorem I1(b:UInt8):IntKind.u8.wrap ((b.toNat:Int)+1)=((b+1).toNat:Int):=by
 rw[IntKind.wrap_u8,UInt8.toNat_add];have:(1:UInt8).toNat=1:=rfl
 rw[this];omega
theorem qad1{wr:World}{a:aA}(f:bG b base (.slice a n c) l)(m:Turned b wr)(p:Below base b wr)(k:Nat)(t:k<n):
  ∃(g:Nat) (o h:Int),a=some ⟨g,0,none⟩∧wr.cell? ⟨g,k,none⟩=some (.int .u8 o)∧wr.frozen? ⟨g,k,none⟩=false∧IntKind.u8.wrap (o+1)=h∧
   af (Turned b (wr.drew.setCell ⟨g,k,none⟩ (.int .u8 h))∧Below base b (wr.drew.setCell ⟨g,k,none⟩ (.int .u8 h))):=by
 have u:=f.len';rcases id f with⟨_,⟨_,v⟩|⟨g,cap,q,e,r,_⟩⟩
 ·omega
 cases e;obtain⟨i,d⟩:=f.turned m;have s:=d.len';have j:k<i.length:=by omega
 refine⟨g,(i[k]).toNat,_,rfl,d.at k j,d.fz k,I1 _, ?_, ?_⟩
 ·have:=(d.a (Below.refl wr.heap.size wr).drew).stored k (i[k]+1)
  exact(m.trans (Turned.of_below (Below.refl wr.heap.size wr).drew)).trans (Turned.set (d.a (Below.refl wr.heap.size wr).drew) k _)
 exact p.drew.setCell r _
theorem qahq{P:Program}{o:Oper}{a:Act}{s x:Operand}{c d:Value}(e:o.op=.call {callee:=.builtin .append,args:=#[s,x],argTypes:=#[t,t]})(f:a.eval s=c)(g:a.eval x=d)(b:(Builtin.append_ #[t,t] o.type #[c,d]).run P w=.ok v w'):(execOp a.eval o).run P w=.ok (.value v) w':=by
 simp[execOp,e,resolve,invoke,builtin,f,g,b,Result.andThen]
theorem dM.keepT9{R:dL}(h:dM w base v R)(a:bF t w w')(b:124≠t)(c:105≠t):dM w' base v R:=
 ⟨cO.keep h.1 a c,fun p d=>cO.keep (h.2 p d) a b⟩
theorem qad2{S:dL}{k:Nat}(h:k<S.length):aT (S.take (k+1))=aT (S.take k)++[(S[k]).2]:=by
 show(S.take (k+1)).map (·.2)=_
 rw[Xa2 h,Xd0];rfl
theorem qzn(w0:World)(q:Nat)(s:lK)(w:World)(h:pq w0 w q s):
  Calls Tryz.prog 49 #[.pointer (some ⟨q,0,none⟩)] w fun e w'=>∃a c S,e=.returned (.agg #[.slice a 4 c,.int .i64 (jh s).1.2.1,.int .i64 (jh s).1.2.2.1,.string (bs (jh s).1.2.2.2)])∧dM w' w.heap.size (.slice a 4 c) S∧aT S=(jh s).1.1∧pq w0 w' q (jh s).2∧lG w w':=by
 obtain⟨P,D⟩:∃P,P=w.alloc (.cells #[.slice none 0 0,.int .i64 0,.int .i64 0,.string {data:=#[]}] 36):=⟨_,rfl⟩
 have aa:ah w P:=by rw[D];exact ae
 have hs1:P.heap.size=w.heap.size+1:=by rw[D];simp
 have B:Bx P w.heap.size 36 #[.slice none 0 0,.int .i64 0,.int .i64 0,.string {data:=#[]}]:=by rw[D];exact Bx.new w _ _
 obtain⟨E,ax,o2,b2⟩:=Nb P 4 (by omega);have Gg:(Instr.makeSlice 34 (.int .i64 4) (.int .i64 4)).run Tryz.prog P=.ok (.slice (some ⟨P.heap.size,0,none⟩) 4 4) E:=ax;rw[hs1]at Gg o2;have g:=B.a b2;obtain⟨G,H,I,J⟩:E.cell? ⟨w.heap.size,0,none⟩=some (.slice none 0 0)∧E.cell? ⟨w.heap.size,1,none⟩=some (.int .i64 0)∧E.cell? ⟨w.heap.size,2,none⟩=some (.int .i64 0)∧E.cell? ⟨w.heap.size,3,none⟩=some (.string {data:=#[]}):=⟨g.at 0 rfl,g.at 1 rfl,g.at 2 rfl,g.at 3 rfl⟩;have f0:=g.fz 0;have ab:w0.heap.size<=w.heap.size:=h.bel.size;have ay:=(h.a aa).a b2;have aD:lG w E:=(lG.below aa).trans (lG.below b2);have qV:=uL ay g (by decide) (by decide) ab 0 (.slice (some ⟨w.heap.size+1,0,none⟩) 4 4);have ac:=aD.hi aL 0 (.slice (some ⟨w.heap.size+1,0,none⟩) 4 4);have x:Bx (E.setCell ⟨w.heap.size,0,none⟩ (.slice (some ⟨w.heap.size+1,0,none⟩) 4 4)) w.heap.size 36 #[.slice (some ⟨w.heap.size+1,0,none⟩) 4 4,.int .i64 0,.int .i64 0,.string {data:=#[]}]:=g.put 0 (.slice (some ⟨w.heap.size+1,0,none⟩) 4 4);have aE:cO 1 yB 105 (E.setCell ⟨w.heap.size,0,none⟩ (.slice (some ⟨w.heap.size+1,0,none⟩) 4 4)) (w.heap.size+1) (.slice (some ⟨w.heap.size+1,0,none⟩) 4 4) (List.replicate 4 pm):=cO.keep o2 (CV g 0 _) (by decide);have ad:EL (E.setCell ⟨w.heap.size,0,none⟩ (.slice (some ⟨w.heap.size+1,0,none⟩) 4 4)) (w.heap.size+1) (w.heap.size+1) 0 (List.replicate 4 pm):=
  ⟨aE,rfl,fun k _ hk=>absurd hk (by omega),fun k hk _=>by rw[List.getElem_replicate];rfl,by have:=b2.size;simp;omega⟩
 obtain⟨w3,ai⟩:=ak (E.setCell ⟨w.heap.size,0,none⟩ (.slice (some ⟨w.heap.size+1,0,none⟩) 4 4));rw[<-ai]at qV ac x ad;have Ck:=ag qV;have zB:=ag ac;have Ce:=ag x;have aH:=ag ad;have K:=ag ab;have e3:=ai.symm;obtain⟨u0,u1,u2,u3⟩:w3.cell? ⟨w.heap.size,0,none⟩=some (.slice (some ⟨w.heap.size+1,0,none⟩) 4 4)∧w3.cell? ⟨w.heap.size,1,none⟩=some (.int .i64 0)∧w3.cell? ⟨w.heap.size,2,none⟩=some (.int .i64 0)∧w3.cell? ⟨w.heap.size,3,none⟩=some (.string {data:=#[]}):=⟨x.at 0 rfl,x.at 1 rfl,x.at 2 rfl,x.at 3 rfl⟩;clear qV ac x ad aE ay aD g B ab ax o2 b2 aa h ai;go_enter Tryz.func49,Tryz.ntmps49;go_wp2_with (first|(refine qzg rfl _ _ _ rfl rfl rfl (w':=E) (v':=.slice (some ⟨w.heap.size+1,0,none⟩) 4 4) (by rw[<-D];exact Gg) ?_)|fail)
 clear D Gg G H I J f0 e3 u0 u1 u2 u3 hs1;go_loopw [9] (fun i wr=>∃(k:Nat) (S:dL),k<=4∧i=.int .i64 k∧af (EL wr (w.heap.size+1) (w.heap.size+1) k S)∧af (aT (S.take k)=(dA k s).1)∧af (pq w0 wr q (dA k s).2)∧af (Bx wr w.heap.size 36 #[.slice (some ⟨w.heap.size+1,0,none⟩) 4 4,.int .i64 0,.int .i64 0,.string {data:=#[]}])∧af (lG w wr)) (fun i _=>4-(intOf i).toNat)
 case atStart=>exact⟨0,_,by omega,rfl,aH,ag rfl,Ck,Ce,zB⟩
 clear Ck zB Ce aH;obtain⟨k,S,hk,rfl,hL,hE,L,z,Q⟩:=hrel;by_cases a5:k<4
 ·have bo:(k:Int)<4:=by omega
  obtain⟨N,hN⟩:=ak (dU 32 (dA k s).2);have aJ:=ag hN;have b:=WV w0 q 32 (dA k s).2 wr L.o (by decide);rw[<-hN]at b;have aK:N.1<=32:=by rw[hN];exact Rw _ _
  clear hN;go_wp2_with fail
  refine b.mono ?_
  rintro e w4⟨rfl,m,n⟩;have EO:=ag m;have Ul:=ag (z.o.keep n.1 (by decide));have aj:=ag ((hL.o.keep n.1 (by decide) (by decide) n.2).begin);have rM:=ag (Q.o.trans n);obtain⟨hi,aO⟩:=ak w4.heap.size;rw[<-aO]at aj;have BH:=ag hL.o.up;clear b m n aO L z Q;obtain⟨nn,al⟩:=ak N.1;rw[<-al]at aK⊢;have zy:=ag al;clear al;go_wp2;go_loopw [14] (fun i wr=>∃(j:Nat) (T:dL),j<=nn∧i=.int .i64 j∧af (vN wr (w.heap.size+1) hi (w.heap.size+1) k T)∧af (aT (T.take k)=(dA k s).1∧∀h:k<T.length,(T[k]).2=(fV j N.2).1)∧af (pq w0 wr q (fV j N.2).2)∧af (Bx wr w.heap.size 36 #[.slice (some ⟨w.heap.size+1,0,none⟩) 4 4,.int .i64 0,.int .i64 0,.string {data:=#[]}])∧af (lG w wr)) (fun i _=>nn-(intOf i).toNat)
  case atStart=>exact⟨0,S,by omega,rfl,aj,ag ⟨hE.o,fun m=>by rw[BH.o k m aL];rfl⟩,EO,Ul,rM⟩
  clear EO Ul aj rM;obtain⟨j,T,hj,rfl,U,hT,L,z,Q⟩:=hrel;by_cases bp:j<nn
  ·have WK:(j:Int)<nn:=by omega
   have p:k<T.length:=by have:=U.o.len;omega
   have dr:ah wr wr.drew:=aI;obtain⟨a0,n0,c0,l0,A,a6⟩:=U.o.row p;have am:l0=(fV j N.2).1:=by have:=hT.o.2 p;rw[A]at this;exact this
   have WY:l0.length<=100000:=by rw[am,dI];omega
   have a7:=ag (U.o.a dr);have a8:=ag (L.o.a dr);have a9:=ag (z.o.a dr);have ba:=ag (Q.o.trans (lG.below dr));obtain⟨M,aS⟩:=ak (mo (fV j N.2).2);have x8:=ag aS;clear aS;have hK:aN (fun t=>Bx t w.heap.size 36 #[.slice (some ⟨w.heap.size+1,0,none⟩) 4 4,.int .i64 0,.int .i64 0,.string {data:=#[]}]∧t.cell? ⟨w.heap.size+1,k,none⟩=some (.slice a0 n0 c0)):=fun t F m hb=>⟨m.1.a hb,aV _ _ t F m.2 hb⟩
   have aW:(fun t=>Bx t w.heap.size 36 #[.slice (some ⟨w.heap.size+1,0,none⟩) 4 4,.int .i64 0,.int .i64 0,.string {data:=#[]}]∧t.cell? ⟨w.heap.size+1,k,none⟩=some (.slice a0 n0 c0)) wr:=⟨z.o,by have:=U.o.cell p;rw[A]at this;exact this⟩;have h0:=z.o.at 0 rfl;have WZ:=ag A;have bb:=ag am;have aY:=ag WY;have HT:=ag hT.o.1;clear U hT L z Q dr A am WY a6;go_wp2;refine sK hK 13 (by kernel_rfl) aW ?_
   clear aW h0;intro u;generalize wr.drew=wd at *;refine lU 0 ?qvv0 rfl ?qvy0 u ?qvr0
   case qvy0=>(rintro t⟨d,l⟩;(have V:=d.at 0 rfl);go_simp<;>rfl)
   try simp only[aB]
   refine lU 1 ?qvv1 rfl ?qvy1 u ?qvr1
   case qvy1=>(rintro t⟨d,l⟩;(have V:=d.at 0 rfl);go_simp<;>rfl)
   try simp only[aB]
   refine lU 2 ?qvv2 rfl ?qvy2 u ?qvr2
   case qvy2=>(rintro t⟨d,l⟩;(have V:=d.at 0 rfl);go_simp<;>rfl)
   try simp only[aB]
   refine lU 3 ?qvv3 rfl ?qvy3 u ?qvr3
   case qvy3=>(rintro t⟨d,l⟩;(have V:=d.at 0 rfl);go_simp<;>rfl)
   try simp only[aB]
   refine lU 4 ?qvv4 rfl ?qvy4 u ?qvr4
   case qvy4=>(rintro t⟨d,l⟩;(have V:=d.at 0 rfl);go_simp<;>rfl)
   try simp only[aB]
   refine lU 5 ?qvv5 rfl ?qvy5 u ?qvr5
   case qvy5=>(rintro t⟨d,l⟩;(have V:=d.at 0 rfl);go_simp<;>rfl)
   try simp only[aB]
   refine lU 6 ?qvv6 rfl ?qvy6 u ?qvr6
   case qvy6=>(rintro t⟨d,l⟩;(have V:=d.at 0 rfl);go_simp<;>rfl)
   try simp only[aB]
   refine lU 7 ?qvv7 rfl ?qvy7 u ?qvr7
   case qvy7=>(rintro t⟨d,l⟩;(have V:=d.at 0 rfl);go_simp<;>rfl)
   try simp only[aB]
   refine lU 8 ?qvv8 rfl ?qvy8 u ?qvr8
   case qvy8=>(rintro t⟨d,l⟩;(have V:=d.at 0 rfl);go_simp<;>rfl)
   try simp only[aB]
   have b:=qahm w0 q (fV j N.2).2 wd a8.o;rw[<-x8.o]at b;refine RF (i:=9) (R:=fun v F=>v=MR M.1∧pq w0 F q M.2∧lG wd F) rfl (by kernel_rfl) (by kernel_rfl) (by go_simp;try rfl) (b.mono fun e F m=>⟨_,m.1,rfl,m.2.1,m.2.2⟩) ?_
   rintro v9 F⟨rfl,EC,Xa⟩;have O:=a9.o.keep Xa.1 (by decide);have Xb:=a7.o.keep Xa.1 (by decide) (by decide) Xa.2;have a1:=ba.o.trans Xa;have an:=Xb.cell p;rw[WZ.o]at an;refine⟨⟨O,an⟩, ?_⟩;have a2:Bx F w.heap.size 36 #[.slice (some ⟨w.heap.size+1,0,none⟩) 4 4,.int .i64 0,.int .i64 0,.string {data:=#[]}]∧F.cell? ⟨w.heap.size+1,k,none⟩=some (.slice a0 n0 c0):=⟨O,an⟩;clear u b;have u:=a2;clear a2;obtain⟨W,X,Y,w8,Z,ao,ap,aq,bc,a3,bd,ar⟩:=Xb.app p WZ.o aY.o M.1;have I6:=O.keep ap (by decide);have xC:=(pq.keep EC ap (by decide) (by decide) (EC.bel.trans (ao.mono (by have:=Xb.bh;have:=K.o;omega))));unfold MR;try simp only[aB]
   refine J9 (i:=10) (v:=.slice (some ⟨F.heap.size,0,none⟩) 1 1) (w':=F.alloc (.cells #[.string (bs M.1.1),.int .i64 M.1.2.1,.int .i64 M.1.2.2.1,.string (bs (gG M.1)),.string (bs (gH M.1))] 124)) rfl (by kernel_rfl) (by kernel_rfl) (by go_simp) (fun _=>hK _ _ u (ae)) ?_
   try simp only[aB]
   refine J9 (i:=11) (v:=.slice (some ⟨W,0,none⟩) X Y) (w':=w8) rfl (by kernel_rfl) (by kernel_rfl) (qahq rfl rfl rfl Z) (fun _=>⟨I6,aq⟩) ?_
   clear u;have u:Bx w8 w.heap.size 36 #[.slice (some ⟨w.heap.size+1,0,none⟩) 4 4,.int .i64 0,.int .i64 0,.string {data:=#[]}]∧w8.cell? ⟨w.heap.size+1,k,none⟩=some (.slice a0 n0 c0):=⟨I6,aq⟩;try simp only[aB]
   refine J9 (i:=12) (v:=.pointer (some ⟨w.heap.size+1,k,none⟩)) (w':=w8) rfl (by kernel_rfl) (by kernel_rfl) (by go_simp) (fun _=>u) ?_
   try simp only[aB]
   refine qrj (i:=13) (w':=w8.setCell ⟨w.heap.size+1,k,none⟩ (.slice (some ⟨W,0,none⟩) X Y)) rfl (by kernel_rfl) (by kernel_rfl) (by kernel_rfl) (by go_simp) ?_
   try simp only[aB]
   refine lD ?_
   have be:=ag a3;have Hw:=ag (I6.keep ar (by decide));have yH:=ag (show pq w0 (w8.setCell ⟨w.heap.size+1,k,none⟩ (.slice (some ⟨W,0,none⟩) X Y)) q (fV (j+1) N.2).2 by
    rw[fV,<-x8.o];exact xC.keep ar (by decide) (by decide) (Gd xC.bel (by have:=K.o;omega) _ _))
   have a4:=ag ((a1.low ao (by have:=Xb.bh;omega)).hi (show w.heap.size<=w.heap.size+1 by omega) k (.slice (some ⟨W,0,none⟩) X Y));have bg:aT ((T.set k (.slice (some ⟨W,0,none⟩) X Y,l0++[M.1])).take k)=(dA k s).1∧∀h:k<(T.set k (.slice (some ⟨W,0,none⟩) X Y,l0++[M.1])).length,((T.set k (.slice (some ⟨W,0,none⟩) X Y,l0++[M.1]))[k]).2=(fV (j+1) N.2).1:=by
    refine⟨?_,fun m=>?_⟩
    ·rw[List.take_set_of_le aL];exact HT.o
    rw[List.getElem_set_self,fV,<-x8.o,<-bb.o]
   clear u hK O Xb a1 EC Xa Z ao ap aq a3 bd ar I6 xC;generalize w8.setCell ⟨w.heap.size+1,k,none⟩ (.slice (some ⟨W,0,none⟩) X Y)=w9 at *;clear bc;go_wp2;go_roundw
   case rel=>exact⟨j+1,_,by omega,by go_num,be,ag bg,yH,Hw,a4⟩
   simp only[intOf];omega
  have hd:decide ((j:Int)<nn)=false:=aC (by omega);obtain rfl:j=nn:=by omega
  have p:k<T.length:=by have:=U.o.len;omega
  have Xc:=ag U.o.done;have bj:=ag (show aT (T.take (k+1))=(dA (k+1) s).1 by
   rw[qad2 p,hT.o.1,hT.o.2 p,dA,<-aJ.o,<-zy.o])
  have yH:=ag (show pq w0 wr q (dA (k+1) s).2 by
   rw[dA,<-aJ.o,<-zy.o];exact L.o)
  clear U hT L p;go_wp2;go_roundw
  case rel=>exact⟨k+1,T,by omega,by go_num,Xc,bj,yH,z,Q⟩
  simp only[intOf];omega
 have hd:decide ((k:Int)<4)=false:=aC (by omega);obtain rfl:k=4:=by omega
 have HO:=ag hL.o.all;have HE:=ag (show aT S=(dA 4 s).1 by have:=hE.o;rw[Xa1 (by have:=hL.o.len;omega)]at this;exact this);clear hL hE a5 hk;have b:=WV w0 q 1099511627776 ((dA 4 s).2) wr L.o (by decide);obtain⟨r,av⟩:=ak (dU 1099511627776 ((dA 4 s).2));rw[<-av]at b;have bk:=ag av;clear av;have G:=z.o.at 0 rfl;have H:=z.o.at 1 rfl;have I:=z.o.at 2 rfl;have J:=z.o.at 3 rfl;go_wp2_with fail
 refine b.mono ?_
 rintro e tJ⟨rfl,m,n⟩;have f:=z.o.keep n.1 (by decide);have oM:=Q.o.trans n;have bK:=HO.o.keepT9 n.1 (by decide) (by decide);clear b L z Q HO n G H I J;have s0:=f.at 0 rfl;have s1:=f.at 1 rfl;have s2:=f.at 2 rfl;have s3:=f.at 3 rfl;have g0:=f.fz 1;have aw:=ag (uL m f (by decide) (by decide) K.o 1 (.int .i64 (r.1:Nat)));have y:=ag (show Bx (tJ.setCell ⟨w.heap.size,1,none⟩ (.int .i64 (r.1:Nat))) w.heap.size 36 #[.slice (some ⟨w.heap.size+1,0,none⟩) 4 4,.int .i64 (r.1:Nat),.int .i64 0,.string {data:=#[]}]from f.put 1 (.int .i64 (r.1:Nat)));have tF:=ag (oM.hi aL 1 (.int .i64 (r.1:Nat)));have Bw:=ag (bK.keepT9 (CV f 1 (.int .i64 (r.1:Nat))) (by decide) (by decide));obtain⟨uO,qd⟩:=ak (tJ.setCell ⟨w.heap.size,1,none⟩ (.int .i64 (r.1:Nat)));rw[<-qd]at aw y tF Bw;clear m f oM bK;have b:=WV w0 q 1099511627776 (r.2) uO aw.o (by decide);obtain⟨d,B⟩:=ak (dU 1099511627776 (r.2));rw[<-B]at b;have bl:=ag B;clear B;have G:=y.o.at 0 rfl;have H:=y.o.at 1 rfl;have I:=y.o.at 2 rfl;have J:=y.o.at 3 rfl;go_wp2_with fail
 rw[<-qd];clear qd s0 s1 s2 s3 g0;refine b.mono ?_
 rintro e Af⟨rfl,m,n⟩;have f:=y.o.keep n.1 (by decide);have oM:=tF.o.trans n;have bK:=Bw.o.keepT9 n.1 (by decide) (by decide);clear b aw y tF Bw n G H I J;have s0:=f.at 0 rfl;have s1:=f.at 1 rfl;have s2:=f.at 2 rfl;have s3:=f.at 3 rfl;have g1:=f.fz 2;have BZ:=ag (uL m f (by decide) (by decide) K.o 2 (.int .i64 (d.1:Nat)));have ng:=ag (show Bx (Af.setCell ⟨w.heap.size,2,none⟩ (.int .i64 (d.1:Nat))) w.heap.size 36 #[.slice (some ⟨w.heap.size+1,0,none⟩) 4 4,.int .i64 (r.1:Nat),.int .i64 (d.1:Nat),.string {data:=#[]}]from f.put 2 (.int .i64 (d.1:Nat)));have mK:=ag (oM.hi aL 2 (.int .i64 (d.1:Nat)));have uF:=ag (bK.keepT9 (CV f 2 (.int .i64 (d.1:Nat))) (by decide) (by decide));obtain⟨Xd,Dn⟩:=ak (Af.setCell ⟨w.heap.size,2,none⟩ (.int .i64 (d.1:Nat)));rw[<-Dn]at BZ ng mK uF;clear m f oM bK;have b:=iE w0 q (d.2) Xd BZ.o;obtain⟨l,g⟩:=ak (ik (d.2));rw[<-g]at b;have bm:=ag g;clear g;have G:=ng.o.at 0 rfl;have H:=ng.o.at 1 rfl;have I:=ng.o.at 2 rfl;have J:=ng.o.at 3 rfl;go_wp2_with fail
 rw[<-Dn];clear Dn s0 s1 s2 s3 g1;refine b.mono ?_
 rintro e BC⟨rfl,m,n⟩;have f:=ng.o.keep n.1 (by decide);have oM:=mK.o.trans n;have bK:=uF.o.keepT9 n.1 (by decide) (by decide);clear b BZ ng mK uF n G H I J;have s0:=f.at 0 rfl;have s1:=f.at 1 rfl;have s2:=f.at 2 rfl;have s3:=f.at 3 rfl;have g2:=f.fz 3;have gP:=ag (uL m f (by decide) (by decide) K.o 3 (.string (bs l.1)));have C:=ag (show Bx (BC.setCell ⟨w.heap.size,3,none⟩ (.string (bs l.1))) w.heap.size 36 #[.slice (some ⟨w.heap.size+1,0,none⟩) 4 4,.int .i64 (r.1:Nat),.int .i64 (d.1:Nat),.string (bs l.1)]from f.put 3 (.string (bs l.1)));have zA:=ag (oM.hi aL 3 (.string (bs l.1)));have iC:=ag (bK.keepT9 (CV f 3 (.string (bs l.1))) (by decide) (by decide));obtain⟨ME,Dq⟩:=ak (BC.setCell ⟨w.heap.size,3,none⟩ (.string (bs l.1)));rw[<-Dq]at gP C zA iC;clear m f oM bK;have G:=C.o.at 0 rfl;have H:=C.o.at 1 rfl;have I:=C.o.at 2 rfl;have J:=C.o.at 3 rfl;have f0:=C.o.fz 0;have f1:=C.o.fz 1;have f2:=C.o.fz 2;have f3:=C.o.fz 3;have p1:=C.o.put 0 (.slice (some ⟨w.heap.size+1,0,none⟩) 4 4);have p2:=p1.put 1 (.int .i64 (r.1:Nat));have p3:=p2.put 2 (.int .i64 (d.1:Nat));have p4:=p3.put 3 (.string (bs l.1));have m1:=uL gP.o C.o (by decide) (by decide) K.o 0 (.slice (some ⟨w.heap.size+1,0,none⟩) 4 4);have m2:=uL m1 p1 (by decide) (by decide) K.o 1 (.int .i64 (r.1:Nat));have m3:=uL m2 p2 (by decide) (by decide) K.o 2 (.int .i64 (d.1:Nat));have m4:=uL m3 p3 (by decide) (by decide) K.o 3 (.string (bs l.1));have q4:=(((zA.o.hi aL 0 (.slice (some ⟨w.heap.size+1,0,none⟩) 4 4)).hi aL 1 (.int .i64 (r.1:Nat))).hi aL 2 (.int .i64 (d.1:Nat))).hi aL 3 (.string (bs l.1));have o4:=(((iC.o.keepT9 (CV C.o 0 (.slice (some ⟨w.heap.size+1,0,none⟩) 4 4)) (by decide) (by decide)).keepT9 (CV p1 1 (.int .i64 (r.1:Nat))) (by decide) (by decide)).keepT9 (CV p2 2 (.int .i64 (d.1:Nat))) (by decide) (by decide)).keepT9 (CV p3 3 (.string (bs l.1))) (by decide) (by decide);obtain⟨w9,aM⟩:=ak ((((ME.setCell ⟨w.heap.size,0,none⟩ (.slice (some ⟨w.heap.size+1,0,none⟩) 4 4)).setCell ⟨w.heap.size,1,none⟩ (.int .i64 (r.1:Nat))).setCell ⟨w.heap.size,2,none⟩ (.int .i64 (d.1:Nat))).setCell ⟨w.heap.size,3,none⟩ (.string (bs l.1)));rw[<-aM]at p4 m4 q4 o4;have HM:=ag m4;have HK:=ag q4;have HO:=ag (o4.mono (show w.heap.size<=w.heap.size+1 by omega));have P5:=ag (show Bx w9 w.heap.size 36 #[.slice (some ⟨w.heap.size+1,0,none⟩) 4 4,.int .i64 (r.1:Nat),.int .i64 (d.1:Nat),.string (bs l.1)]from p4);clear p1 p2 p3 p4 m1 m2 m3 m4 q4 o4 gP C zA iC;have bn:=Dq.symm;clear Dq;go_wp2;rw[<-aM];clear aM s0 s1 s2 s3 g2 bn G H I J f0 f1 f2 f3;have z0:=P5.o.at 0 rfl;have z1:=P5.o.at 1 rfl;have z2:=P5.o.at 2 rfl;have z3:=P5.o.at 3 rfl;have zS:jh s=(((dA 4 s).1,(r.1:Int),(d.1:Int),l.1),l.2):=by unfold jh;rw[<-bk.o,<-bl.o,<-bm.o]
 refine bodyPost_ret (v:=.agg #[.slice (some ⟨w.heap.size+1,0,none⟩) 4 4,.int .i64 (r.1:Nat),.int .i64 (d.1:Nat),.string (bs l.1)]) ?_ rfl ⟨_,_,S,by rw[zS],HO.o,by rw[zS];exact HE.o,by rw[zS];exact HM.o,HK.o⟩
 clear zS;simp[results,Tryz.results49,go_sem, *]
end Go.Proofs.YtmeaiocohalphaaGreatDoor
