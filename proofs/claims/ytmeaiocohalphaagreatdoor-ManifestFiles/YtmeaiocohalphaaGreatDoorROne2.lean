/-
  What the document's one does: a sync, a disk that is full, any act.
-/
import Derived.Test.YtmeaiocohalphaaGreatDoorSLat
set_option maxHeartbeats 1000000
set_option maxRecDepth 100000
namespace Go.Proofs.YtmeaiocohalphaaGreatDoor
open Go.RowKit
set_option linter.all false
variable {a b w:World}{B base:Nat}{v:Value}{d:Dk}
def Dv (w:World) (base B:Nat) (v:Value) (d:Dk):Prop:=∃g0 cap a2 c2 a3 c3,
 v=.agg #[.slice (some ⟨g0,0,none⟩) d.1.length cap,.slice a2 d.2.1.length c2,.slice a3 d.2.2.length c3]∧base<=g0∧g0<B∧B<=w.heap.size∧
 bG w base (.slice (some ⟨g0,0,none⟩) d.1.length cap) d.1∧lM w B (.slice a2 d.2.1.length c2) d.2.1∧mP w B (.slice a3 d.2.2.length c3) d.2.2
theorem Dv.own(h:Dv w base B v d):kP w base v d:=by
 obtain⟨e,cap,a2,c2,a3,c3,rfl,f,g,i,a,b,c⟩:=h;exact⟨_,_,_,rfl,a,b.mono (by omega),c.mono (by omega)⟩
def KD (w wx:World):Prop:=w.heap.size<=wx.heap.size∧∀(i:Nat) (cs:Array Value) (fr:Nat×Nat),w.heap[i]? =some (.cells cs 27 fr)->wx.heap[i]? =some (.cells cs 27 fr)
theorem KD.refl(w:World):KD w w:=⟨Nat.le_refl _,fun _ _ _ h=>h⟩
theorem KD.below(h:KD w a)(hb:ah a b):KD w b:=⟨aG h.1 hb.size,fun i cs c hi=>gI _ _ _ _ (h.2 i cs c hi) hb⟩
theorem KD.grown{row:Option Nat}(h:KD w a)(g:a.grownBy b row)(j:∀k,row=some k->w.heap.size<=k∨∃cs t c,a.heap[k]? =some (.cells cs t c)∧t≠27):KD w b:=⟨aG h.1 g.size,fun i cs c hi=>by
 have d:=h.2 i cs c hi;refine(g.block i (Xd6.1 d).1 (fun e=>?_)).trans d;rcases j i e.symm with f|⟨l,t,m,f,n⟩
 ·have:=(Xd6.1 hi).1
  omega
 rw[d]at f
 cases f;exact n rfl⟩
theorem Dv.mono{a:Nat}(h:Dv w base B v d)(hb:a<=base):Dv w a B v d:=by
 obtain⟨e,cap,a2,c2,a3,c3,rfl,j,b,c,f,g,i⟩:=h;exact⟨e,cap,a2,c2,a3,c3,rfl,by omega,b,c,f.mono hb,g,i⟩
theorem qalk(w:World)(l:kN w v d)(a:okD d=true):
  Calls Tryz.prog 53 #[v] w fun e w'=>∃v' B,e=.returned v'∧Dv w' w.heap.size B v' d∧ah w w':=by
 obtain⟨E,m,n,F,G,o,q⟩:=(sM d).1 a;have hl:d.1.length<=1000000∧0<d.1.length:=by unfold bD at m n;omega
 refine(qwq w l (by omega) (by omega) (by omega) (fun p b=>by have:=wM (o p b);omega) (fun p b=>by have:=Ig (q p b);omega)).mono ?_
 rintro e w'⟨x,y,z,B,rfl,r,h,s,i,j,t,u⟩;obtain⟨k,A,rfl,c⟩:=qud h hl.2;obtain⟨C,f,rfl⟩:=i.rd.form;obtain⟨D,g,rfl⟩:=j.rd.form;exact⟨_,B,rfl,⟨k,A,C,f,D,g,rfl,c,s k rfl,t,h,i,j⟩,u⟩
def Gw (w0 w w':World) (B:Nat) (o:Option Dk) (v:Value) (r:Int):Prop:=KD w w'∧(∃a1 n1 c1 a2 n2 c2 a3 n3 c3,v=.agg #[.slice a1 n1 c1,.slice a2 n2 c2,.slice a3 n3 c3])∧ah w0 w'∧((o=none∧r=9)∨∃d,o=some d∧r=0∧Dv w' w0.heap.size B v d)
theorem Dp.value{ws:World}{gD gR:Nat}{a cap:Nat}{a2 a3:aA}{c2 c3:Nat}(h:base<=a)(f:a<B)(g:B<=w.heap.size)(b:∃cs,w.heap[gR]? =some (.cells cs 27 (0,0)))
  (i:bG w base (.slice (some ⟨a,0,none⟩) d.1.length cap) d.1) (j:lM w B (.slice a2 d.2.1.length c2) d.2.1) (l:mP w B (.slice a3 d.2.2.length c3) d.2.2) (e:w.grownBy ws (some gR)):Dv ws base B (.agg #[.slice (some ⟨a,0,none⟩) d.1.length cap,.slice a2 d.2.1.length c2,.slice a3 d.2.2.length c3]) d:=by
 obtain⟨cs,b⟩:=b;refine⟨a,cap,a2,c2,a3,c3,rfl,h,f,aG g e.size,i.keptT e (fun k c=>by cases c;exact⟨_,_,_,b,by decide⟩),j.keptT e (fun k c=>by cases c;exact⟨_,_,_,b,by decide,by decide⟩),l.keptT e (fun k c=>by cases c;exact⟨_,_,_,b,by decide,by decide⟩)⟩
theorem qadz(w0:World)(B:Nat)(d:Dk)(v:Value)(N:Int)(x:aA)(m c:Nat)(l:az)(w:World)(hD:Dv w w0.heap.size B v d)(J:ah w0 w)(ad:Rd w0 (.slice x m c) l)(hm:m=l.length)(hl:l.length<=140737488355328)(hw:d.2.1.length<65536)(hn:d.2.2.length<65536):
  Calls Tryz.prog 199 #[v,.agg #[.bool false,.int .i64 N,.slice x m c]] w fun e w'=>∃v' r,e=.returned (.tuple #[v',.int .i64 r])∧Gw w0 w w' B (some (d.1,d.2.1++[(N,l)],d.2.2++[(false,N,l)])) v' r:=by
 have HC:=ag ad;have HM:=ag hm;have HL:=ag hl;clear ad hm hl;obtain⟨I,cap,a2,c2,a3,c3,rfl,hB,t,sP,K,G,H⟩:=hD;have ai:=ag (show ∀k,(Value.slice a3 d.2.2.length c3).ownBlock=some k->k<w.heap.size from fun k u=>by
  obtain⟨z,_,h,_⟩:=H;exact(h.lt k u).2)
 have iW:∀k,(Value.slice a3 d.2.2.length c3).ownBlock=some k->w0.heap.size<=k:=fun k u=>by
  obtain⟨z,_,h,_⟩:=H;have:=(h.lt k u).1
  omega
 have vJ:=ag (show ∀i,(i=w.heap.size+1∨i=w.heap.size+2)->some i≠(Value.slice a3 d.2.2.length c3).ownBlock from fun i hi e=>by
  have:=ai.o _ e.symm
  omega)
 obtain⟨w1,ew⟩:=au (((w.alloc (.cells #[.slice (some ⟨I,0,none⟩) d.1.length cap,.slice a2 d.2.1.length c2,.slice a3 d.2.2.length c3] 27)).alloc (.cells #[.bool false,.int .i64 N,.slice x m c] 206)).alloc (.cells #[.slice none 0 0,.slice none 0 0,.slice none 0 0] 27));have A:ah w w1:=by rw[<-ew];exact((ae).alloc (by simp) _).alloc (by simp;omega) _
 have U:w1.heap[w.heap.size]? =some (.cells #[.slice (some ⟨I,0,none⟩) d.1.length cap,.slice a2 d.2.1.length c2,.slice a3 d.2.2.length c3] 27 (0,0)):=by
  rw[<-ew,heap_alloc_old _ _ (by simp;omega),heap_alloc_old _ _ (by simp)];exact heap_alloc_new _ _
 have ab:w1.heap[w.heap.size+1]? =some (.cells #[.bool false,.int .i64 N,.slice x m c] 206 (0,0)):=by
  rw[<-ew,heap_alloc_old _ _ (by simp)];exact uN _ _ _
 have qz:w1.heap[w.heap.size+2]? =some (.cells #[.slice none 0 0,.slice none 0 0,.slice none 0 0] 27 (0,0)):=by
  rw[<-ew];have:=uN (w.alloc (.cells #[.slice (some ⟨I,0,none⟩) d.1.length cap,.slice a2 d.2.1.length c2,.slice a3 d.2.2.length c3] 27)) (.cells #[.bool false,.int .i64 N,.slice x m c] 206) (.cells #[.slice none 0 0,.slice none 0 0,.slice none 0 0] 27)
  simpa using this
 obtain⟨k0,k1,k2,_⟩:=cells3 U;obtain⟨b0,b1,b2,_⟩:=cells3 ab;have C:KD w w1:=(KD.refl w).below A;have al:((65536:Int)<=d.2.1.length)=False:=by simp;omega
 have Ff:decide ((65536:Int)<=d.2.1.length)=false:=by simp;omega
 have am:((65536:Int)<=d.2.2.length)=False:=by simp;omega
 have aj:decide ((65536:Int)<=d.2.2.length)=false:=by simp;omega
 go_enter Tryz.func199,Tryz.ntmps199;go_wp2;have mQ:w0.heap.size<=w.heap.size:=J.size;have g:B<=w1.heap.size:=aG sP A.size;have D:(fun a=>a.heap[w.heap.size+1]? =some (.cells #[.bool false,.int .i64 N,.slice x m c] 206 (0,0))∧a.heap[w.heap.size]? =some (.cells #[.slice (some ⟨I,0,none⟩) d.1.length cap,.slice a2 d.2.1.length c2,.slice a3 d.2.2.length c3] 27 (0,0))∧a.heap[w.heap.size+2]? =some (.cells #[.slice none 0 0,.slice none 0 0,.slice none 0 0] 27 (0,0))∧ah w0 a) w1:=⟨ab,U,qz,J.trans (A.mono J.size)⟩;have V:aN (fun a=>a.heap[w.heap.size+1]? =some (.cells #[.bool false,.int .i64 N,.slice x m c] 206 (0,0))∧a.heap[w.heap.size]? =some (.cells #[.slice (some ⟨I,0,none⟩) d.1.length cap,.slice a2 d.2.1.length c2,.slice a3 d.2.2.length c3] 27 (0,0))∧a.heap[w.heap.size+2]? =some (.cells #[.slice none 0 0,.slice none 0 0,.slice none 0 0] 27 (0,0))∧ah w0 a):=(gI _ _).and ((gI _ _).and ((gI _ _).and (pQ _)));have rF:=K;have BQ:=G;have BR:=H;clear K G H;have Q:=U;have K:=rF.a A;have G:=BQ.a A;have H:=BR.a A;clear U rF BQ BR ew am aj al Ff k0 k1 k2 b0 b1 b2 ab qz;refine sK V 11 (by kernel_rfl) D ?_
 intro f;refine lP [0,1,2,3,4,5] 6 ?jS ?dP f ?jT
 case dP=>
  iterate 6 (apply Yl.cons rfl (by kernel_rfl);focus (rintro a⟨E,L,S,T⟩;obtain⟨c1,c2,c3,c4⟩:=cells3 E;obtain⟨d1,d2,d3,d4⟩:=cells3 L;go_simp<;>rfl);try simp only[aB])
  exact Yl.nil
 refine RF (i:=6) (R:=fun v wy=>∃p k,v=.agg #[.int .i64 N,.slice p l.length k]∧bG wy B (.slice p l.length k) l∧ah w1 wy) rfl (by kernel_rfl) (by rfl) (by obtain⟨c1,c2,c3,c4⟩:=cells3 f.1;obtain⟨d1,d2,d3,d4⟩:=cells3 f.2.1;go_simp) ((Tp N x m c l _ HM.o HL.o (HC.o.a f.2.2.2)).mono fun e wy ⟨v,h1,h2,h3⟩=>by obtain⟨p,k,rfl⟩:=h2.form;exact⟨_,h1,p,k,rfl,h2.mono g,aF.drew.trans h3⟩) ?_
 rintro v7 w7⟨p7,k7,rfl,sQ,n⟩;have W:=V _ _ D n;obtain⟨a9,c9,w9,aW,M,X,q⟩:=tN (s:=false) (N:=N) (d:=d) hB t (aG g n.size) mQ (gI _ _ _ _ Q n) (K.a n) (G.a n) (H.a n) sQ (by omega);have HF:=ag q;have vO:=(C.below n).grown M (fun j Y=>.inr (by obtain⟨z,_,h,_⟩:=H.a n;obtain⟨cs,hh⟩:=zn h j Y;exact⟨cs,_,_,hh,by decide⟩));clear C;have bV:(fun a=>a.heap[w.heap.size+1]? =some (.cells #[.bool false,.int .i64 N,.slice x m c] 206 (0,0))∧a.heap[w.heap.size]? =some (.cells #[.slice (some ⟨I,0,none⟩) d.1.length cap,.slice a2 d.2.1.length c2,.slice a3 d.2.2.length c3] 27 (0,0))∧a.heap[w.heap.size+2]? =some (.cells #[.slice none 0 0,.slice none 0 0,.slice none 0 0] 27 (0,0))∧ah w0 a) w9:=by
  obtain⟨E,L,S,T⟩:=W;exact⟨(M.block _ (Xd6.1 E).1 (vJ.o _ (.inl rfl))).trans E,X,(M.block _ (Xd6.1 S).1 (vJ.o _ (.inr rfl))).trans S,T.grown M T.size (fun k u=>iW k u)⟩
 obtain⟨ws,fI,O,b⟩:=R5 (.slice a9 (d.2.2.length+1) c9) X;obtain⟨z1,z2,z3,z4⟩:=cells3 X;refine⟨W, ?_⟩;clear f q;have f:=W;try simp only[aB]
 refine lT 7 ?qav7 rfl ?Nl f ?qar7
 case Nl=>(rintro a⟨E,L,S,T⟩;obtain⟨c1,c2,c3,c4⟩:=cells3 E;obtain⟨d1,d2,d3,d4⟩:=cells3 L;go_simp<;>rfl)
 try simp only[aB]
 refine lR 8 (.slice (some ⟨w7.heap.size,0,none⟩) 1 1) (w7.alloc (.cells #[.bool false,.int .i64 N,.slice p7 l.length k7] 206)) rfl (by go_simp) (fun _=>V _ _ f (ae)) ?_
 try simp only[aB]
 refine lR 9 (.slice a9 (d.2.2.length+1) c9) w9 rfl (Ep (v:=.slice a3 d.2.2.length c3) (y:=.slice (some ⟨w7.heap.size,0,none⟩) 1 1) rfl rfl rfl aW) (fun _=>bV) ?_
 clear f;have f:=bV;try simp only[aB]
 refine lT 10 ?uR rfl ?kR f ?uS
 case kR=>(rintro a⟨E,L,S,T⟩;obtain⟨c1,c2,c3,c4⟩:=cells3 E;obtain⟨d1,d2,d3,d4⟩:=cells3 L;go_simp<;>rfl)
 try simp only[aB]
 refine lL 11 ws rfl (by rw[<-fI];go_simp) ?_
 try simp only[aB]
 refine lD ?_
 have C:=vO.grown b (fun j Y=>by cases Y;exact .inl aL);clear vO;have om:=HF.o ws b O;obtain⟨yA,_,yR,y7⟩:=bV;have Z:ws.heap[w.heap.size+1]? =some (.cells #[.bool false,.int .i64 N,.slice x m c] 206 (0,0)):=(b.block _ (Xd6.1 yA).1 (by simp)).trans yA
 have F:ws.heap[w.heap.size+2]? =some (.cells #[.slice none 0 0,.slice none 0 0,.slice none 0 0] 27 (0,0)):=(b.block _ (Xd6.1 yR).1 (by simp)).trans yR
 have P:ah w0 ws:=y7.grown b y7.size (fun k u=>by cases u;exact mQ);clear f HF W aW fI z1 z2 z3 z4 yA yR y7 V D n sQ Q K G H M X b A g iW vJ ai O;obtain⟨d1,qK⟩:∃d1:Dk,(d.1,d.2.1,d.2.2++[(false,N,l)])=d1:=⟨_,rfl⟩;rw[qK]at om;clear hB t;obtain⟨b0,b1,b2,_⟩:=cells3 Z
 have ap:d1.2.1.length<65536:=by rw[<-qK];exact hw
 have HR:=ag (show(d.1,d.2.1++[(N,l)],d.2.2++[(false,N,l)])=(d1.1,d1.2.1++[(N,l)],d1.2.2)by rw[<-qK]);clear qK hw hn;obtain⟨I,cap,a2,c2,a3,c3,Q,hB,t,g,_,K,G,H⟩:=om;obtain⟨k0,k1,k2,_⟩:=cells3 Q;have iW:∀k,(Value.slice a2 d1.2.1.length c2).ownBlock=some k->w0.heap.size<=k:=fun k u=>by
  obtain⟨z,_,h,_⟩:=G;have:=(h.lt k u).1
  omega
 have vJ:=ag (show ∀i,(i=w.heap.size+1∨i=w.heap.size+2)->some i≠(Value.slice a2 d1.2.1.length c2).ownBlock from fun i hi e=>by
  obtain⟨z,_,h,_⟩:=G;obtain⟨cs,hh⟩:=zn h i e.symm;rcases hi with rfl|rfl
  ·rw[Z]at hh;cases hh
  rw[F]at hh;cases hh)
 go_wp2;clear k0 k1 k2 b0 b1 b2;have D:(fun a=>a.heap[w.heap.size+1]? =some (.cells #[.bool false,.int .i64 N,.slice x m c] 206 (0,0))∧a.heap[w.heap.size]? =some (.cells #[.slice (some ⟨I,0,none⟩) d1.1.length cap,.slice a2 d1.2.1.length c2,.slice a3 d1.2.2.length c3] 27 (0,0))∧a.heap[w.heap.size+2]? =some (.cells #[.slice none 0 0,.slice none 0 0,.slice none 0 0] 27 (0,0))∧ah w0 a) ws:=⟨Z,Q,F,P⟩;have V:aN (fun a=>a.heap[w.heap.size+1]? =some (.cells #[.bool false,.int .i64 N,.slice x m c] 206 (0,0))∧a.heap[w.heap.size]? =some (.cells #[.slice (some ⟨I,0,none⟩) d1.1.length cap,.slice a2 d1.2.1.length c2,.slice a3 d1.2.2.length c3] 27 (0,0))∧a.heap[w.heap.size+2]? =some (.cells #[.slice none 0 0,.slice none 0 0,.slice none 0 0] 27 (0,0))∧ah w0 a):=(gI _ _).and ((gI _ _).and ((gI _ _).and (pQ _)));clear Z F P;refine sK V 8 (by kernel_rfl) D ?_
 intro f;refine lP [0,1,2,3] 5 ?oI ?iA f ?oJ
 case iA=>
  iterate 4 (apply Yl.cons rfl (by kernel_rfl);focus (rintro a⟨E,L,S,T⟩;obtain⟨c1,c2,c3,c4⟩:=cells3 E;obtain⟨d1,d2,d3,d4⟩:=cells3 L;go_simp<;>rfl);try simp only[aB])
  exact Yl.nil
 refine RF (i:=4) (R:=fun v wy=>∃p k,v=.agg #[.int .i64 N,.slice p l.length k]∧bG wy B (.slice p l.length k) l∧ah ws wy) rfl (by kernel_rfl) (by rfl) (by obtain⟨c1,c2,c3,c4⟩:=cells3 f.1;obtain⟨d1,d2,d3,d4⟩:=cells3 f.2.1;go_simp) ((Tp N x m c l _ HM.o HL.o (HC.o.a f.2.2.2)).mono fun e wy ⟨v,h1,h2,h3⟩=>by obtain⟨p,k,rfl⟩:=h2.form;exact⟨_,h1,p,k,rfl,h2.mono g,aF.drew.trans h3⟩) ?_
 rintro v7 w7⟨p7,k7,rfl,sQ,n⟩;have W:=V _ _ D n;obtain⟨a9,c9,w9,aW,M,X,q⟩:=qlo (N:=N) (d:=d1) hB t (aG g n.size) mQ (gI _ _ _ _ Q n) (K.a n) (G.a n) (H.a n) sQ (by omega);have HF:=ag q;have vO:=(C.below n).grown M (fun j Y=>.inr (by obtain⟨z,_,h,_⟩:=G.a n;obtain⟨cs,hh⟩:=zn h j Y;exact⟨cs,_,_,hh,by decide⟩));clear C;have bV:(fun a=>a.heap[w.heap.size+1]? =some (.cells #[.bool false,.int .i64 N,.slice x m c] 206 (0,0))∧a.heap[w.heap.size]? =some (.cells #[.slice (some ⟨I,0,none⟩) d1.1.length cap,.slice a2 d1.2.1.length c2,.slice a3 d1.2.2.length c3] 27 (0,0))∧a.heap[w.heap.size+2]? =some (.cells #[.slice none 0 0,.slice none 0 0,.slice none 0 0] 27 (0,0))∧ah w0 a) w9:=by
  obtain⟨E,L,S,T⟩:=W;exact⟨(M.block _ (Xd6.1 E).1 (vJ.o _ (.inl rfl))).trans E,X,(M.block _ (Xd6.1 S).1 (vJ.o _ (.inr rfl))).trans S,T.grown M T.size (fun k u=>iW k u)⟩
 obtain⟨wt,Fg,O,b⟩:=R4 (.slice a9 (d1.2.1.length+1) c9) X;obtain⟨z1,z2,z3,z4⟩:=cells3 X;refine⟨W, ?_⟩;clear f q;have f:=W;try simp only[aB]
 refine lR 5 (.slice (some ⟨w7.heap.size,0,none⟩) 1 1) (w7.alloc (.cells #[.int .i64 N,.slice p7 l.length k7] 133)) rfl (by go_simp) (fun _=>V _ _ f (ae)) ?_
 try simp only[aB]
 refine lR 6 (.slice a9 (d1.2.1.length+1) c9) w9 rfl (Ep (v:=.slice a2 d1.2.1.length c2) (y:=.slice (some ⟨w7.heap.size,0,none⟩) 1 1) rfl rfl rfl aW) (fun _=>bV) ?_
 clear f;have f:=bV;try simp only[aB]
 refine lT 7 ?qbv7 rfl ?qby7 f ?qbr7
 case qby7=>(rintro a⟨E,L,S,T⟩;obtain⟨c1,c2,c3,c4⟩:=cells3 E;obtain⟨d1,d2,d3,d4⟩:=cells3 L;go_simp<;>rfl)
 try simp only[aB]
 refine lL 8 wt rfl (by rw[<-Fg];go_simp) ?_
 try simp only[aB]
 refine lD ?_
 have C:=vO.grown b (fun j Y=>by cases Y;exact .inl aL);clear vO;have om:=HF.o wt b O;obtain⟨_,_,yR,y7⟩:=bV;have F:wt.heap[w.heap.size+2]? =some (.cells #[.slice none 0 0,.slice none 0 0,.slice none 0 0] 27 (0,0)):=(b.block _ (Xd6.1 yR).1 (by simp)).trans yR
 have P:ah w0 wt:=y7.grown b y7.size (fun k u=>by cases u;exact mQ);clear f HF W aW Fg z1 z2 z3 z4 yR y7 V D n sQ Q K G H M X b g iW vJ O;obtain⟨d2,ac⟩:∃d2:Dk,(d1.1,d1.2.1++[(N,l)],d1.2.2)=d2:=⟨_,rfl⟩;rw[ac]at om;have an:=ag (HR.o.trans ac);clear hB t HR ac;obtain⟨I,cap,a2,c2,a3,c3,Q,hB,t,g,_,K,G,H⟩:=om;obtain⟨k0,k1,k2,_⟩:=cells3 Q;obtain⟨wu,aq,Hg,aa⟩:=sO (.slice (some ⟨I,0,none⟩) d2.1.length cap) (.slice a2 d2.2.1.length c2) (.slice a3 d2.2.2.length c3) F;obtain⟨z1,z2,z3,z4⟩:=cells3 F;obtain⟨q1,q2,q3,q4⟩:=cells3 Hg;have ao:=P.grown aa P.size (fun k u=>by cases u;omega);have A7:=C.grown aa (fun j Y=>by cases Y;exact .inl (by omega));have HV:=ag (Dp.value (gD:=0) hB t g ⟨_,F⟩ K G H aa);clear Hg aa K G H Q;go_wp2
 refine bodyPost_ret (v:=.tuple #[.agg #[.slice (some ⟨I,0,none⟩) d2.1.length cap,.slice a2 d2.2.1.length c2,.slice a3 d2.2.2.length c3],.int .i64 0]) ?_ rfl ?_
 ·simp[results,Tryz.results199,go_sem, *]
 exact⟨_,_,rfl,A7,⟨_,_,_,_,_,_,_,_,_,rfl⟩,ao,.inr ⟨_,congrArg some an.o,rfl,HV.o⟩⟩
theorem lM.at{n c:Nat}{a:aA}{l:List Pu}(h:lM w base (.slice a n c) l)(j:Nat)(k:j<l.length):∃g,a=some ⟨g,0,none⟩∧base<=g∧w.cell? ⟨g,j*2,none⟩=some (.int .i64 (l[j]).1)∧∃v,w.cell? ⟨g,j*2+1,none⟩=some v∧bG w base v (l[j]).2:=by
 obtain⟨z,rfl,d,m⟩:=h;have b:j<z.length:=by simpa using k
 have o:=d;rcases d.2 with⟨_,i⟩|⟨g,cap,p,e,f,_⟩
 ·simp at i;rw[i]at b;exact absurd b (by simp)
 cases e;obtain⟨e1,q⟩:=qjc z j b;have c1:=d.cells (g:=g) rfl _ _ e1;have c2:=d.cells (g:=g) rfl _ _ q;rw[Addr.add_lit]at c1 c2;refine⟨g,rfl,f,by simpa using c1,(z[j]).2,by simpa [Nat.add_assoc]using c2, ?_⟩;have:=m z[j] (Xa3 b)
 simpa using this
theorem qzl(data:az)(l:List Pu)(k:Nat)(a:k<l.length):nN data (l.take (k+1))=oH (nN data (l.take k)) l[k]:=by
 unfold nN;rw[Xa2 a,List.foldl_append];rfl
theorem qzm(data:az)(l:List Pu)(k cnt:Nat)(a:data.length=128*cnt)(c:∀p∈l,dO cnt p=0):(nN data (l.take k)).length=128*cnt:=by
 rw[AO data _ data rfl (fun p b=>by
  obtain⟨d,f,e⟩:=wM (c p (Xb9 b));exact⟨d,by omega,e⟩)]
 exact a
theorem qahn(w0:World)(B cnt:Nat)(d:Dk)(v:Value)(N:Int)(x:aA)(m c:Nat)(l:az)(w:World)(hD:Dv w w0.heap.size B v d)(F:ah w0 w)(am:Rd w0 (.slice x m c) l)(hm:m=l.length)(hl:l.length<=140737488355328)(hw:d.2.1.length<=65536)(hn:d.2.2.length<65536)
  (P:d.1.length=128*cnt) (an:cnt<=4096) (hp:∀p∈d.2.1,dO cnt p=0):
  Calls Tryz.prog 199 #[v,.agg #[.bool true,.int .i64 N,.slice x m c]] w fun e w'=>∃v' r,e=.returned (.tuple #[v',.int .i64 r])∧Gw w0 w w' B (some (nN d.1 d.2.1,[],d.2.2++[(true,N,l)])) v' r:=by
 have Q:=ag P;have HP:=ag hp;clear P hp;have HC:=ag am;have HM:=ag hm;have HL:=ag hl;clear am hm hl;obtain⟨b,cap,a2,c2,a3,c3,rfl,hB,t,sP,S,T,G⟩:=hD;have ao:=ag (show ∀k,(Value.slice a3 d.2.2.length c3).ownBlock=some k->k<w.heap.size from fun k U=>by
  obtain⟨z,_,h,_⟩:=G;exact(h.lt k U).2)
 have iW:∀k,(Value.slice a3 d.2.2.length c3).ownBlock=some k->w0.heap.size<=k:=fun k U=>by
  obtain⟨z,_,h,_⟩:=G;have:=(h.lt k U).1
  omega
 have vJ:=ag (show ∀i,(i=w.heap.size+1∨i=w.heap.size+2)->some i≠(Value.slice a3 d.2.2.length c3).ownBlock from fun i hi e=>by
  have:=ao.o _ e.symm
  omega)
 obtain⟨V,ew⟩:=au (((w.alloc (.cells #[.slice (some ⟨b,0,none⟩) d.1.length cap,.slice a2 d.2.1.length c2,.slice a3 d.2.2.length c3] 27)).alloc (.cells #[.bool true,.int .i64 N,.slice x m c] 206)).alloc (.cells #[.slice none 0 0,.slice none 0 0,.slice none 0 0] 27));have u:ah w V:=by rw[<-ew];exact((ae).alloc (by simp) _).alloc (by simp;omega) _
 have K:V.heap[w.heap.size]? =some (.cells #[.slice (some ⟨b,0,none⟩) d.1.length cap,.slice a2 d.2.1.length c2,.slice a3 d.2.2.length c3] 27 (0,0)):=by
  rw[<-ew,heap_alloc_old _ _ (by simp;omega),heap_alloc_old _ _ (by simp)];exact heap_alloc_new _ _
 have Y:V.heap[w.heap.size+1]? =some (.cells #[.bool true,.int .i64 N,.slice x m c] 206 (0,0)):=by
  rw[<-ew,heap_alloc_old _ _ (by simp)];exact uN _ _ _
 have qz:V.heap[w.heap.size+2]? =some (.cells #[.slice none 0 0,.slice none 0 0,.slice none 0 0] 27 (0,0)):=by
  rw[<-ew];have:=uN (w.alloc (.cells #[.slice (some ⟨b,0,none⟩) d.1.length cap,.slice a2 d.2.1.length c2,.slice a3 d.2.2.length c3] 27)) (.cells #[.bool true,.int .i64 N,.slice x m c] 206) (.cells #[.slice none 0 0,.slice none 0 0,.slice none 0 0] 27)
  simpa using this
 obtain⟨k0,k1,k2,_⟩:=cells3 K;obtain⟨b0,b1,b2,_⟩:=cells3 Y;have L:KD w V:=(KD.refl w).below u;have ay:((65536:Int)<=d.2.2.length)=False:=by simp;omega
 have ap:decide ((65536:Int)<=d.2.2.length)=false:=by simp;omega
 go_enter Tryz.func199,Tryz.ntmps199;go_wp2;have mQ:w0.heap.size<=w.heap.size:=F.size;have H:B<=V.heap.size:=aG sP u.size;have Z:(fun a=>a.heap[w.heap.size+1]? =some (.cells #[.bool true,.int .i64 N,.slice x m c] 206 (0,0))∧a.heap[w.heap.size]? =some (.cells #[.slice (some ⟨b,0,none⟩) d.1.length cap,.slice a2 d.2.1.length c2,.slice a3 d.2.2.length c3] 27 (0,0))∧a.heap[w.heap.size+2]? =some (.cells #[.slice none 0 0,.slice none 0 0,.slice none 0 0] 27 (0,0))∧ah w0 a) V:=⟨Y,K,qz,F.trans (u.mono F.size)⟩;have hK:aN (fun a=>a.heap[w.heap.size+1]? =some (.cells #[.bool true,.int .i64 N,.slice x m c] 206 (0,0))∧a.heap[w.heap.size]? =some (.cells #[.slice (some ⟨b,0,none⟩) d.1.length cap,.slice a2 d.2.1.length c2,.slice a3 d.2.2.length c3] 27 (0,0))∧a.heap[w.heap.size+2]? =some (.cells #[.slice none 0 0,.slice none 0 0,.slice none 0 0] 27 (0,0))∧ah w0 a):=(gI _ _).and ((gI _ _).and ((gI _ _).and (pQ _)));have rF:=S;have BQ:=T;have BR:=G;clear S T G;have hd:=K;have S:=rF.a u;have T:=BQ.a u;have G:=BR.a u;clear K rF BQ BR ew ay ap k0 k1 k2 b0 b1 b2 Y qz;refine sK hK 11 (by kernel_rfl) Z ?_
 intro f;refine lP [0,1,2,3,4,5] 6 ?jS ?dP f ?jT
 case dP=>
  iterate 6 (apply Yl.cons rfl (by kernel_rfl);focus (rintro a⟨W,xD,xR,x7⟩;obtain⟨c1,c2,c3,c4⟩:=cells3 W;obtain⟨d1,d2,d3,d4⟩:=cells3 xD;go_simp<;>rfl);try simp only[aB])
  exact Yl.nil
 refine RF (i:=6) (R:=fun v wy=>∃p k,v=.agg #[.int .i64 N,.slice p l.length k]∧bG wy B (.slice p l.length k) l∧ah V wy) rfl (by kernel_rfl) (by rfl) (by obtain⟨c1,c2,c3,c4⟩:=cells3 f.1;obtain⟨d1,d2,d3,d4⟩:=cells3 f.2.1;go_simp) ((Tp N x m c l _ HM.o HL.o (HC.o.a f.2.2.2)).mono fun e wy ⟨v,h1,h2,h3⟩=>by obtain⟨p,k,rfl⟩:=h2.form;exact⟨_,h1,p,k,rfl,h2.mono H,aF.drew.trans h3⟩) ?_
 rintro v7 w7⟨p7,k7,rfl,sQ,M⟩;have dQ:=hK _ _ Z M;obtain⟨a9,c9,w9,aW,D,iI,X⟩:=tN (s:=true) (N:=N) (d:=d) hB t (aG H M.size) mQ (gI _ _ _ _ hd M) (S.a M) (T.a M) (G.a M) sQ (by omega);have HF:=ag X;have vO:=(L.below M).grown D (fun j g=>.inr (by obtain⟨z,_,h,_⟩:=G.a M;obtain⟨cs,hh⟩:=zn h j g;exact⟨cs,_,_,hh,by decide⟩));clear L;have bV:(fun a=>a.heap[w.heap.size+1]? =some (.cells #[.bool true,.int .i64 N,.slice x m c] 206 (0,0))∧a.heap[w.heap.size]? =some (.cells #[.slice (some ⟨b,0,none⟩) d.1.length cap,.slice a2 d.2.1.length c2,.slice a3 d.2.2.length c3] 27 (0,0))∧a.heap[w.heap.size+2]? =some (.cells #[.slice none 0 0,.slice none 0 0,.slice none 0 0] 27 (0,0))∧ah w0 a) w9:=by
  obtain⟨W,xD,xR,x7⟩:=dQ;exact⟨(D.block _ (Xd6.1 W).1 (vJ.o _ (.inl rfl))).trans W,iI,(D.block _ (Xd6.1 xR).1 (vJ.o _ (.inr rfl))).trans xR,x7.grown D x7.size (fun k U=>iW k U)⟩
 obtain⟨ws,fI,aq,E⟩:=R5 (.slice a9 (d.2.2.length+1) c9) iI;obtain⟨z1,z2,z3,z4⟩:=cells3 iI;refine⟨dQ, ?_⟩;clear f X;have f:=dQ;try simp only[aB]
 refine lT 7 ?qav7 rfl ?Nl f ?qar7
 case Nl=>(rintro a⟨W,xD,xR,x7⟩;obtain⟨c1,c2,c3,c4⟩:=cells3 W;obtain⟨d1,d2,d3,d4⟩:=cells3 xD;go_simp<;>rfl)
 try simp only[aB]
 refine lR 8 (.slice (some ⟨w7.heap.size,0,none⟩) 1 1) (w7.alloc (.cells #[.bool true,.int .i64 N,.slice p7 l.length k7] 206)) rfl (by go_simp) (fun _=>hK _ _ f (ae)) ?_
 try simp only[aB]
 refine lR 9 (.slice a9 (d.2.2.length+1) c9) w9 rfl (Ep (v:=.slice a3 d.2.2.length c3) (y:=.slice (some ⟨w7.heap.size,0,none⟩) 1 1) rfl rfl rfl aW) (fun _=>bV) ?_
 clear f;have f:=bV;try simp only[aB]
 refine lT 10 ?uR rfl ?kR f ?uS
 case kR=>(rintro a⟨W,xD,xR,x7⟩;obtain⟨c1,c2,c3,c4⟩:=cells3 W;obtain⟨d1,d2,d3,d4⟩:=cells3 xD;go_simp<;>rfl)
 try simp only[aB]
 refine lL 11 ws rfl (by rw[<-fI];go_simp) ?_
 try simp only[aB]
 refine lD ?_
 have L:=vO.grown E (fun j g=>by cases g;exact .inl aL);clear vO;have om:=HF.o ws E aq;obtain⟨yA,_,yR,y7⟩:=bV;have aD:ws.heap[w.heap.size+1]? =some (.cells #[.bool true,.int .i64 N,.slice x m c] 206 (0,0)):=(E.block _ (Xd6.1 yA).1 (by simp)).trans yA
 have ar:ws.heap[w.heap.size+2]? =some (.cells #[.slice none 0 0,.slice none 0 0,.slice none 0 0] 27 (0,0)):=(E.block _ (Xd6.1 yR).1 (by simp)).trans yR
 have av:ah w0 ws:=y7.grown E y7.size (fun k U=>by cases U;exact mQ);clear f HF dQ aW fI z1 z2 z3 z4 yA yR y7 hK Z M sQ hd S T G D iI E u H iW vJ ao aq;obtain⟨d1,qK⟩:∃d1:Dk,(d.1,d.2.1,d.2.2++[(true,N,l)])=d1:=⟨_,rfl⟩;rw[qK]at om;clear hB t;obtain⟨b0,b1,b2,_⟩:=cells3 aD
 have aS:d1.2.1.length<=65536:=by rw[<-qK];exact hw
 have I:d1.1.length=128*cnt:=by rw[<-qK];exact Q.o
 have Qc:=ag (show ∀p∈d1.2.1,dO cnt p=0 by rw[<-qK];exact HP.o);have HR:=ag (show(nN d.1 d.2.1,[],d.2.2++[(true,N,l)])=(nN d1.1 d1.2.1,([]:List Pu),d1.2.2)by rw[<-qK]);clear qK hw hn Q HP;obtain⟨b,cap,a2,c2,a3,c3,hd,hB,t,H,_,S,T,G⟩:=om;obtain⟨k0,k1,k2,_⟩:=cells3 hd;have O1:=ag S;have O2:=ag T;have O3:=ag G;have rE:=ag I;clear S T G I;generalize e1:d1.1.length=n1 at *;generalize e2:d1.2.1.length=n2 at *;generalize e3:d1.2.2.length=n3 at *;have E1:=ag e1;have E2:=ag e2;have E3:=ag e3;clear e1 e2 e3;go_wp2;clear k0 k1 k2 b0 b1 b2;go_loopw [6] (fun i wr=>∃k:Nat,k<=n2∧i=.int .i64 k∧af (bG wr w0.heap.size (.slice (some ⟨b,0,none⟩) n1 cap) (nN d1.1 (d1.2.1.take k)))∧ws.grownBy wr (some b)) (fun i _=>n2-(intOf i).toNat)
 case atStart=>exact⟨0,Xd5 _,rfl,O1.o,Xc6 _ _⟩
 obtain⟨k,U,rfl,ho,n⟩:=hrel;have J:wr.heap[w.heap.size]? =some (.cells #[.slice (some ⟨b,0,none⟩) n1 cap,.slice a2 n2 c2,.slice a3 n3 c3] 27 (0,0)):=(n.block _ (Xd6.1 hd).1 (by simp;omega)).trans hd
 obtain⟨k0,k1,k2,k3⟩:=cells3 J;by_cases aY:k<n2
 ·have aw:(k:Int)<n2:=by omega
  have aa:k<d1.2.1.length:=by have:=E2.o;omega
  obtain⟨gw,rfl,a0,q0,vv,q1,q2⟩:=(O2.o.grown n t).at k aa;obtain⟨p1,p2,p3⟩:=wM (Qc.o _ (Xa3 aa));obtain⟨gp,cp,rfl,_⟩:=qud q2 (by omega);obtain⟨q,ab⟩:∃q:Nat,(d1.2.1[k]).1=(q:Int):=⟨(d1.2.1[k]).1.toNat,by omega⟩;obtain⟨LB,ac⟩:=ak ((d1.2.1[k]).2);have aE:=ag (show d1.2.1[k]=((q:Int),LB)by rw[<-ab,ac]);rw[ab]at q0 p1 p2;rw[<-ac]at p3 q2 q1;rw[p3]at q1 q2
  have hq:q<cnt:=by omega
  have Qg:=ag p3;have vK:=ag q2;have aH:=ag (qzm d1.1 d1.2.1 k cnt (E1.o.trans rE.o) Qc.o);clear q2 p1 p2 p3 ab ac k3;have hK:aN (fun a=>(a.cell? ⟨w.heap.size,0,none⟩=some (.slice (some ⟨b,0,none⟩) n1 cap)∧a.cell? ⟨w.heap.size,1,none⟩=some (.slice (some ⟨gw,0,none⟩) n2 c2)∧a.cell? ⟨w.heap.size,2,none⟩=some (.slice a3 n3 c3))∧(a.cell? ⟨gw,k*2,none⟩=some (.int .i64 q)∧a.cell? ⟨gw,k*2+1,none⟩=some (.slice (some ⟨gp,0,none⟩) 128 cp))):=((aV _ _).and ((aV _ _).and (aV _ _))).and ((aV _ _).and (aV _ _));go_wp2;refine iH hK (by kernel_rfl) ⟨⟨k0,k1,k2⟩,q0,q1⟩ ?_
  intro f;refine rP [0,1,2,3,4,5] 1 ?oI ?iA f ?oJ
  case iA=>
   iterate 6 (apply Yl.cons rfl (by kernel_rfl);focus (rintro a⟨⟨x1,x2,x3⟩,x4,x5⟩;go_simp<;>rfl);try simp only[aB])
   exact Yl.nil
  refine pR (i:=6) (R:=fun v wy=>v=.tuple #[]∧wr.drew.grownBy wy (some b)∧bG wy w0.heap.size (.slice (some ⟨b,0,none⟩) n1 cap) (oH (nN d1.1 (d1.2.1.take k)) (q,LB))) rfl (by kernel_rfl) (by rfl) (by obtain⟨⟨x1,x2,x3⟩,x4,x5⟩:=f;go_simp) ((qabp w0.heap.size B b gp n1 cap cp cnt q (nN d1.1 (d1.2.1.take k)) LB (.slice (some ⟨gw,0,none⟩) n2 c2) (.slice a3 n3 c3) wr.drew (ho.o.a aI) t (vK.o.a aI) aH.o an hq Qg.o).mono fun e wy ⟨h1,h2,h3⟩=>⟨_,h1,rfl,h2,h3⟩) ?_
  rintro a1 w9⟨rfl,D,bK⟩;have bV:(fun a=>(a.cell? ⟨w.heap.size,0,none⟩=some (.slice (some ⟨b,0,none⟩) n1 cap)∧a.cell? ⟨w.heap.size,1,none⟩=some (.slice (some ⟨gw,0,none⟩) n2 c2)∧a.cell? ⟨w.heap.size,2,none⟩=some (.slice a3 n3 c3))∧(a.cell? ⟨gw,k*2,none⟩=some (.int .i64 q)∧a.cell? ⟨gw,k*2+1,none⟩=some (.slice (some ⟨gp,0,none⟩) 128 cp))) w9:=by
   obtain⟨⟨x1,x2,x3⟩,x4,x5⟩:=f;exact⟨⟨D.cell x1 (by simp;omega),D.cell x2 (by simp;omega),D.cell x3 (by simp;omega)⟩,D.cell x4 (by simp;omega),D.cell x5 (by simp;omega)⟩
  refine⟨bV, ?_⟩;clear f;have f:=bV;try simp only[aB]
  refine rD ?_
  have aJ:=ag (show bG w9 w0.heap.size (.slice (some ⟨b,0,none⟩) n1 cap) (nN d1.1 (d1.2.1.take (k+1)))by rw[qzl _ _ _ aa,aE.o];exact bK);have aK:=Ah (Ah n (xn (Aj (Below.refl wr.heap.size wr).drew) (some b))) D;clear f bV bK D hK;go_wp2;go_roundw
  case rel=>exact⟨k+1,by omega,by go_num,aJ.o,aK⟩
  simp[intOf]<;>omega
 have aw:decide ((k:Int)<n2)=false:=aC (by omega);have A:bG wr w0.heap.size (.slice (some ⟨b,0,none⟩) n1 cap) (nN d1.1 d1.2.1):=by
  have:=ho.o
  rwa [Xa1 (by have:=E2.o;omega)]at this
 obtain⟨wt,Fg,ax,C⟩:=R4 (.slice none 0 0) J;have ad:wr.heap[w.heap.size+2]? =some (.cells #[.slice none 0 0,.slice none 0 0,.slice none 0 0] 27 (0,0)):=(n.block _ (Xd6.1 ar).1 (by simp;omega)).trans ar
 have KV:wt.heap[w.heap.size+2]? =some (.cells #[.slice none 0 0,.slice none 0 0,.slice none 0 0] 27 (0,0)):=(C.block _ (Xd6.1 ad).1 (by simp)).trans ad
 have ai:ah w0 wr:=av.grown n av.size (fun j g=>by cases g;exact hB);have aj:ah w0 wt:=ai.grown C ai.size (fun j g=>by cases g;exact mQ);have al:(nN d1.1 d1.2.1).length=n1:=by
  have:=A.len
  omega
 have uF:=ag (A.keptT C (fun j g=>by cases g;exact⟨_,_,_,J,by decide⟩));have sV:=ag ((O3.o.grown n t).keptT C (fun j g=>by cases g;exact⟨_,_,_,J,by decide,by decide⟩));have aM:B<=wt.heap.size:=aG H (aG n.size C.size);obtain⟨m0,m1,m2,m3⟩:=cells3 ax;obtain⟨wu,a4,Hg,O⟩:=sO (.slice (some ⟨b,0,none⟩) n1 cap) (.slice none 0 0) (.slice a3 n3 c3) KV;obtain⟨z1,z2,z3,z4⟩:=cells3 KV;obtain⟨q1,q2,q3,q4⟩:=cells3 Hg;have aO:=aj.grown O aj.size (fun j g=>by cases g;omega);have A7:=((L.grown n (fun j g=>by cases g;exact .inr (by obtain⟨cs,hh⟩:=zn O1.o b rfl;exact⟨cs,_,_,hh,by decide⟩))).grown C (fun j g=>by cases g;exact .inl aL)).grown O (fun j g=>by cases g;exact .inl (by omega));have HV:af (Dv wu w0.heap.size B (.agg #[.slice (some ⟨b,0,none⟩) n1 cap,.slice none 0 0,.slice a3 n3 c3]) (nN d1.1 d1.2.1,[],d1.2.2)):=by
  have h:=Dp.value (gD:=0) (gR:=w.heap.size+2) (ws:=wu) (d:=(nN d1.1 d1.2.1,[],d1.2.2)) (cap:=cap) (a2:=none) (c2:=0) (a3:=a3) (c3:=c3) hB t aM ⟨_,KV⟩ (by dsimp only;rw[al];exact uF.o) ⟨[],rfl,Xa7 _ _ _ _,by simp⟩ (by dsimp only;rw[E3.o];exact sV.o) O;dsimp only at h;rw[al,E3.o]at h;exact h
 clear J A ax C ad KV ai aj al uF sV Hg O n ho;go_wp2;refine bodyPost_ret (v:=.tuple #[.agg #[.slice (some ⟨b,0,none⟩) n1 cap,.slice none 0 0,.slice a3 n3 c3],.int .i64 0]) ?_ rfl ?_
 ·simp[results,Tryz.results199,go_sem, *]
 exact⟨_,_,rfl,A7,⟨_,_,_,_,_,_,_,_,_,rfl⟩,aO,.inr ⟨_,congrArg some HR.o,rfl,HV.o⟩⟩
theorem qaho(w0:World)(B:Nat)(d:Dk)(v:Value)(s:Bool)(N:Int)(x:aA)(m c:Nat)(w:World)(C:Dv w w0.heap.size B v d)(a:ah w0 w)(D:65536<=d.2.2.length∨(s=false∧65536<=d.2.1.length)):
  Calls Tryz.prog 199 #[v,.agg #[.bool s,.int .i64 N,.slice x m c]] w fun e w'=>∃v' r,e=.returned (.tuple #[v',.int .i64 r])∧Gw w0 w w' B none v' r:=by
 obtain⟨f,cap,a2,c2,a3,c3,rfl,L,E,M,F,G,H⟩:=C;clear F G H;obtain⟨g,p⟩:=au (((w.alloc (.cells #[.slice (some ⟨f,0,none⟩) d.1.length cap,.slice a2 d.2.1.length c2,.slice a3 d.2.2.length c3] 27)).alloc (.cells #[.bool s,.int .i64 N,.slice x m c] 206)).alloc (.cells #[.slice none 0 0,.slice none 0 0,.slice none 0 0] 27));have i:ah w g:=by rw[<-p];exact((ae).alloc (by simp) _).alloc (by simp;omega) _
 have k:g.heap[w.heap.size]? =some (.cells #[.slice (some ⟨f,0,none⟩) d.1.length cap,.slice a2 d.2.1.length c2,.slice a3 d.2.2.length c3] 27 (0,0)):=by
  rw[<-p,heap_alloc_old _ _ (by simp;omega),heap_alloc_old _ _ (by simp)];exact heap_alloc_new _ _
 have l:g.heap[w.heap.size+1]? =some (.cells #[.bool s,.int .i64 N,.slice x m c] 206 (0,0)):=by
  rw[<-p,heap_alloc_old _ _ (by simp)];exact uN _ _ _
 have q:g.heap[w.heap.size+2]? =some (.cells #[.slice none 0 0,.slice none 0 0,.slice none 0 0] 27 (0,0)):=by
  rw[<-p];have:=uN (w.alloc (.cells #[.slice (some ⟨f,0,none⟩) d.1.length cap,.slice a2 d.2.1.length c2,.slice a3 d.2.2.length c3] 27)) (.cells #[.bool s,.int .i64 N,.slice x m c] 206) (.cells #[.slice none 0 0,.slice none 0 0,.slice none 0 0] 27)
  simpa using this
 have t:ah w0 g:=a.trans (i.mono a.size);have I:=a.size;obtain⟨O,P,Q,_⟩:=cells3 k;obtain⟨R,S,T,_⟩:=cells3 l;obtain⟨ws,U,z,b⟩:=sO (.slice (some ⟨f,0,none⟩) d.1.length cap) (.slice a2 d.2.1.length c2) (.slice a3 d.2.2.length c3) q;obtain⟨V,W,X,Y⟩:=cells3 q;obtain⟨Z,q2,q3,q4⟩:=cells3 z;have n:=t.grown b t.size (fun j u=>by cases u;omega);have A:=((KD.refl w).below i).grown b (fun j u=>by cases u;exact .inl (by omega));clear k l q z b t;by_cases J:65536<=d.2.2.length
 ·have y:((65536:Int)<=d.2.2.length)=True:=by simp;omega
  have o:decide ((65536:Int)<=d.2.2.length)=true:=by simp;omega
  go_enter Tryz.func199,Tryz.ntmps199;go_wp2;refine bodyPost_ret (v:=.tuple #[.agg #[.slice (some ⟨f,0,none⟩) d.1.length cap,.slice a2 d.2.1.length c2,.slice a3 d.2.2.length c3],.int .i64 9]) ?_ rfl ?_
  ·simp[results,Tryz.results199,go_sem, *]
  exact⟨_,_,rfl,A,⟨_,_,_,_,_,_,_,_,_,rfl⟩,n,.inl ⟨rfl,rfl⟩⟩
 obtain⟨rfl,h2⟩:s=false∧65536<=d.2.1.length:=by rcases D with h|h;exact absurd h J;exact h
 have K:((65536:Int)<=d.2.1.length)=True:=by simp;omega
 have Ff:decide ((65536:Int)<=d.2.1.length)=true:=by simp;omega
 have y:((65536:Int)<=d.2.2.length)=False:=by simp;omega
 have o:decide ((65536:Int)<=d.2.2.length)=false:=by simp;omega
 go_enter Tryz.func199,Tryz.ntmps199;go_wp2;refine bodyPost_ret (v:=.tuple #[.agg #[.slice (some ⟨f,0,none⟩) d.1.length cap,.slice a2 d.2.1.length c2,.slice a3 d.2.2.length c3],.int .i64 9]) ?_ rfl ?_
 ·simp[results,Tryz.results199,go_sem, *]
 exact⟨_,_,rfl,A,⟨_,_,_,_,_,_,_,_,_,rfl⟩,n,.inl ⟨rfl,rfl⟩⟩
theorem qall(w0:World)(B cnt:Nat)(d:Dk)(v:Value)(s:Bool)(N:Int)(x:aA)(m c:Nat)(l:az)(w:World)(i:Dv w w0.heap.size B v d)(a:ah w0 w)(f:Rd w0 (.slice x m c) l)(j:m=l.length)(hl:l.length<=140737488355328)(k:mR cnt d)(g:cnt<=4096):
  Calls Tryz.prog 199 #[v,.agg #[.bool s,.int .i64 N,.slice x m c]] w fun e w'=>∃v' r,e=.returned (.tuple #[v',.int .i64 r])∧Gw w0 w w' B (fq d (s,N,l)) v' r:=by
 obtain⟨n,o,q,p⟩:=k;by_cases b:65536<=d.2.2.length∨(s=false∧65536<=d.2.1.length)
 ·have e:fq d (s,N,l)=none:=by unfold fq;rw[if_pos b]
  rw[e];exact qaho w0 B d v s N x m c w i a b
 cases s with
 |false=>
  have e:fq d (false,N,l)=some (d.1,d.2.1++[(N,l)],d.2.2++[(false,N,l)]):=by unfold fq;rw[if_neg b];rfl
  rw[e];exact qadz w0 B d v N x m c l w i a f j hl (by have:¬65536<=d.2.1.length:=fun h=>b (.inr ⟨rfl,h⟩);omega) (by have:¬65536<=d.2.2.length:=fun h=>b (.inl h);omega)
 |true=>
  have e:fq d (true,N,l)=some (nN d.1 d.2.1,[],d.2.2++[(true,N,l)]):=by unfold fq;rw[if_neg b];rfl
  rw[e];exact qahn w0 B cnt d v N x m c l w i a f j hl o (by have:¬65536<=d.2.2.length:=fun h=>b (.inl h);omega) n g p
end Go.Proofs.YtmeaiocohalphaaGreatDoor
