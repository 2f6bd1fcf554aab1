/-
  What manifest's reader does: a table; levels of one's own that are under way.
-/
import Derived.Test.YtmeaiocohalphaaGreatDoorVn8
set_option maxHeartbeats 2000000
set_option maxRecDepth 100000
namespace Go.Proofs.YtmeaiocohalphaaGreatDoor
open Go.RowKit
set_option linter.all false
variable {W w w' w0:World}{B G base c i n q:Nat}{v:Value}{l:az}{b t:TypeId}{s:lK}{S:dL}
def vM (w:World) (v:Value) (l:az):Prop:=∀w':World,(∀(k:Nat) (cs:Array Value) (fr:Nat×Nat),w.heap[k]? =some (.cells cs 5 fr)->w'.heap[k]? =some (.cells cs 5 fr))->Rd w' v l
theorem fB.rdk(h:fB w base v l):vM w v l:=by
 intro w' c;have a:fB w' base v l:=by
  refine⟨h.1, ?_⟩;rcases h.2 with h|⟨g,cap,b,e,d,a,f⟩
  ·exact .inl h
  exact .inr ⟨g,cap,b,e,d,c g _ _ a,f⟩
 exact a.rd
theorem vM.keep(h:vM w v l)(b:bF t w w')(c:5≠t):vM w' v l:=fun d e=>h d fun k cs a f=>e k cs a (b k cs _ a c f)
theorem vM.a(h:vM w v l)(hb:ah w w'):vM w' v l:=fun b c=>h b fun k cs d a=>c k cs d ((hb.block k (Xd6.1 a).1).trans a)
def BG (w0 w:World) (v:Value) (l:az):Prop:=Rd w0 v l∨vM w v l
theorem BG.rd(h:BG w0 w v l)(hb:ah w0 w):Rd w v l:=by
 rcases h with h|h
 ·exact h.a hb
 exact h w fun _ _ _ a=>a
theorem BG.keep(h:BG w0 w v l)(a:bF t w w')(b:5≠t):BG w0 w' v l:=by
 rcases h with h|h
 ·exact .inl h
 exact .inr (h.keep a b)
theorem BG.a(h:BG w0 w v l)(hb:ah w w'):BG w0 w' v l:=by
 rcases h with h|h
 ·exact .inl h
 exact .inr (h.a hb)
def qY (w:World) (q:Nat) (v:Value) (bad:Bool):Prop:=Bx w q 100 #[v,.bool bad]
theorem qY.cells{bad:Bool}(h:qY w q v bad):w.cell? ⟨q,0,none⟩=some v∧w.cell? ⟨q,1,none⟩=some (.bool bad):=⟨Bx.at h 0 rfl,Bx.at h 1 rfl⟩
structure pq (w0 w:World) (q:Nat) (s:lK):Prop where
 st:∃a n c l,qY w q (.slice a n c) s.isNone∧n=l.length∧BG w0 w (.slice a n c) l∧l.length<=1000000∧∀l',s=some l'->l'=l
 ge:w0.heap.size<=q
 bel:ah w0 w
theorem pq.a(h:pq w0 w q s)(hb:ah w w'):pq w0 w' q s:=by
 obtain⟨a,n,c,l,b,d,e,f⟩:=h.st;exact⟨⟨a,n,c,l,Bx.a b hb,d,e.a hb,f⟩,h.ge,h.bel.trans (hb.mono h.bel.size)⟩
theorem pq.keep(h:pq w0 w q s)(b:bF t w w')(d:100≠t)(e:5≠t)(hb:ah w0 w'):pq w0 w' q s:=by
 obtain⟨a,n,c,l,f,g,i,j⟩:=h.st;exact⟨⟨a,n,c,l,Bx.keep f b d,g,i.keep b e,j⟩,h.ge,hb⟩
def lG (w w':World):Prop:=bF 100 w w'∧w.heap.size<=w'.heap.size
theorem lG.refl(w:World):lG w w:=⟨fun _ _ _ _ _ h=>h,Nat.le_refl _⟩
theorem lG.trans{a b c:World}(h:lG a b)(k:lG b c):lG a c:=⟨bF.trans h.1 k.1,aG h.2 k.2⟩
theorem lG.below{a b:World}(h:ah a b):lG a b:=⟨bF.below h,h.size⟩
theorem Nc{f:World}{s:lK}{a:aA}{b:Bool}(g:qY w q (.slice a n c) b)(j:n=l.length)(k:BG w0 w (.slice a n c) l)(hl:l.length<=1000000)(d:w0.heap.size<=q)(hb:ah w0 w)(i:lG f w):
  pq w0 (w.setCell ⟨q,1,none⟩ (.bool true)) q none∧lG f (w.setCell ⟨q,1,none⟩ (.bool true)):=by
 have m:=Bx.put g 1 (.bool true);have e:bF 100 w (w.setCell ⟨q,1,none⟩ (.bool true)):=CV g 1 _;refine⟨⟨⟨a,n,c,l,m,j,k.keep e (by decide),hl,fun o h=>by cases h⟩,d,Gd hb d _ _⟩,bF.trans i.1 e,by simpa using i.2⟩
theorem WU{k:World}{a e:aA}{d f:Nat}{b:Bool}(m:qY w q (.slice a n c) b)(j:b=false)(p:d=l.length)(r:BG w0 w (.slice e d f) l)(hl:l.length<=1000000)(g:w0.heap.size<=q)(hb:ah w0 w)(o:lG k w):
  pq w0 (w.setCell ⟨q,0,none⟩ (.slice e d f)) q (some l)∧lG k (w.setCell ⟨q,0,none⟩ (.slice e d f)):=by
 subst j;have s:=Bx.put m 0 (.slice e d f);have i:bF 100 w (w.setCell ⟨q,0,none⟩ (.slice e d f)):=CV m 0 _;refine⟨⟨⟨e,d,f,l,s,p,r.keep i (by decide),hl,fun t h=>by cases h;rfl⟩,g,Gd hb g _ _⟩,bF.trans o.1 i,by simpa using o.2⟩
theorem WV(w0:World)(q d:Nat)(s:lK)(w:World)(h:pq w0 w q s)(U:d<9223372036854775808):
  Calls Tryz.prog 108 #[.pointer (some ⟨q,0,none⟩),.int .u64 d] w fun e w'=>e=.returned (.int .i64 ((dU d s).1:Nat))∧pq w0 w' q (dU d s).2∧lG w w':=by
 obtain⟨a,n,c,l,J,N,K,hl,O⟩:=h.st;have j:=K.rd h.bel;have b:=qly w j;have t:=ag J;have B:=ag N;have C:=ag K;have D:=ag hl;have E:=ag h.ge;have F:=ag h.bel;have G:=ag (lG.refl w);obtain⟨H,u⟩:=J.cells;cases s with
 |none=>
  have e0:dU d none=(0,none):=rfl;rw[e0];clear O J K hl N h e0 j;have u:w.cell? ⟨q,1,none⟩=some (.bool true):=u;cases e:rd l with
  |none=>
   rw[e]at b;unfold nZ at b;clear e;go_enter Tryz.func108,Tryz.ntmps108;go_wp2_with fail
   refine b.mono ?_
   rintro e v⟨rfl,rfl⟩;clear b;have z:=Bx.fz t.o 1;have g:=ag (Nc (s:=none) t.o B.o C.o D.o E.o F.o G.o);obtain⟨L,f⟩:=ak (v.setCell ⟨q,1,none⟩ (.bool true));rw[<-f]at g;go_wp2;rw[<-f];clear f H u z;go_ret;exact⟨rfl,g.o⟩
  |some p=>
   obtain⟨m,k⟩:=p;rw[e]at b;unfold nZ at b;clear e;go_enter Tryz.func108,Tryz.ntmps108;go_wp2_with fail
   refine b.mono ?_
   rintro e v⟨rfl,rfl⟩;clear b;have z:=Bx.fz t.o 1;have g:=ag (Nc (s:=none) t.o B.o C.o D.o E.o F.o G.o);obtain⟨L,f⟩:=ak (v.setCell ⟨q,1,none⟩ (.bool true));rw[<-f]at g;go_wp2;rw[<-f];clear f H u z;go_ret;exact⟨rfl,g.o⟩
 |some l1=>
  obtain rfl:=O l1 rfl;have u:w.cell? ⟨q,1,none⟩=some (.bool false):=u;clear O J K hl N h;cases e:rd l1 with
  |none=>
   have e0:dU d (some l1)=(0,none):=Rv (by
    cases e9:jO d l1 with
    |none=>rfl
    |some p=>obtain⟨m,r⟩:=p;obtain⟨k,i,_⟩:=P7 e9;rw[e]at i;cases i)
   rw[e0];rw[e]at b;unfold nZ at b;clear e e0 j;go_enter Tryz.func108,Tryz.ntmps108;go_wp2_with fail
   refine b.mono ?_
   rintro e v⟨rfl,rfl⟩;clear b;have z:=Bx.fz t.o 1;have g:=ag (Nc (s:=none) t.o B.o C.o D.o E.o F.o G.o);obtain⟨L,f⟩:=ak (v.setCell ⟨q,1,none⟩ (.bool true));rw[<-f]at g;go_wp2;rw[<-f];clear f H u z;go_ret;exact⟨rfl,g.o⟩
  |some p=>
   obtain⟨m,k⟩:=p;rw[e]at b;unfold nZ at b;by_cases A:m<=d
   ·have e0:dU d (some l1)=(m,some (l1.drop k)):=Du (by
     cases e9:jO d l1 with
     |none=>
      rcases qnl e9 with i|⟨x,y,i,M⟩
      ·rw[e]at i;cases i
      rw[e]at i;cases i;omega
     |some p=>
      obtain⟨x,r⟩:=p;obtain⟨y,i,_,M⟩:=P7 e9;rw[e]at i;cases i;rw[M])
    rw[e0];obtain⟨P,Q,I,W⟩:=JV e;have X:decide ((d:Int)<m)=false:=aC (by omega);have Y:decide (d<m)=false:=Xd7 (by omega);have g2:IntKind.i64.wrap (m:Int)=m:=by rw[IntKind.wrap_i64];omega
    obtain⟨a2,c2,Z,R⟩:=VV j k Q;have HR:=ag (show BG w0 w (.slice a2 (n-k) c2) (l1.drop k)by
     rcases C.o with S|S
     ·exact .inl (R w0 S)
     exact .inr fun V hx=>R V (S V hx))
    have jy:=ag (show n-k=(l1.drop k).length by rw[Xa9,B.o]);have T:=ag (show(l1.drop k).length<=1000000 by rw[Xa9];have:=D.o;omega);clear e e0 j R P I W A U;go_enter Tryz.func108,Tryz.ntmps108;go_wp2_with fail
    refine b.mono ?_
    rintro e v⟨rfl,rfl⟩;clear b;have f0:=Bx.fz t.o 0;have g:=ag (WU t.o rfl jy.o HR.o T.o E.o F.o G.o);obtain⟨L,f⟩:=ak (v.setCell ⟨q,0,none⟩ (.slice a2 (n-k) c2));rw[<-f]at g;go_wp2;rw[<-f];clear f H u f0;go_ret;exact⟨rfl,g.o⟩
   have e0:dU d (some l1)=(0,none):=Rv (by
    cases e9:jO d l1 with
    |none=>rfl
    |some p=>obtain⟨x,r⟩:=p;obtain⟨y,i,M,_⟩:=P7 e9;rw[e]at i;cases i;exact absurd M A)
   rw[e0];have X:(d:Int)<m:=by omega
   have Y:d<m:=by omega
   clear e e0 j A U;go_enter Tryz.func108,Tryz.ntmps108;go_wp2_with fail
   refine b.mono ?_
   rintro e v⟨rfl,rfl⟩;clear b;have z:=Bx.fz t.o 1;have g:=ag (Nc (s:=none) t.o B.o C.o D.o E.o F.o G.o);obtain⟨L,f⟩:=ak (v.setCell ⟨q,1,none⟩ (.bool true));rw[<-f]at g;go_wp2;rw[<-f];clear f H u z;go_ret;exact⟨rfl,g.o⟩
theorem iE(w0:World)(q:Nat)(s:lK)(w:World)(h:pq w0 w q s):
  Calls Tryz.prog 110 #[.pointer (some ⟨q,0,none⟩)] w fun e w'=>e=.returned (.string (bs (ik s).1))∧pq w0 w' q (ik s).2∧lG w w':=by
 obtain⟨a,n,c,l,x,z,y,hl,A⟩:=h.st;have d:=y.rd h.bel;have u:=ag x;have E:=ag z;have F:=ag y;have G:=ag hl;have D:=ag h.ge;have v:=ag h.bel;obtain⟨j,f⟩:=x.cells;cases s with
 |none=>
  have e0:ik none=([],none):=rfl;rw[e0];have f:w.cell? ⟨q,1,none⟩=some (.bool true):=f;cases e:ct l with
  |none=>
   have hcut:=qmn a n c l w hl d e;clear A x y hl z h e0 d e;go_enter Tryz.func110,Tryz.ntmps110;go_wp2_with fail
   refine hcut.mono ?_
   rintro e m⟨a2,n2,c2,rfl,b⟩;clear hcut j f;have g:=ag (show qY m q (.slice a n c) true from Bx.a u.o b);obtain⟨j,f⟩:=g.o.cells;have B:=Bx.fz g.o 1;have k:=ag (Nc (s:=none) g.o E.o (F.o.a b) G.o D.o (v.o.trans (b.mono v.o.size)) (lG.below b));obtain⟨H,i⟩:=ak (m.setCell ⟨q,1,none⟩ (.bool true));rw[<-i]at k;clear b u;go_wp2;rw[<-i];clear i j f B;go_ret;exact⟨rfl,k.o⟩
  |some p=>
   obtain⟨t,r⟩:=p;have hcut:=qmm a n c l t r w hl d e;clear A x y hl z h e0 d e;go_enter Tryz.func110,Tryz.ntmps110;go_wp2_with fail
   refine hcut.mono ?_
   rintro e m⟨a2,c2,rfl, -,b⟩;clear hcut j f;have g:=ag (show qY m q (.slice a n c) true from Bx.a u.o b);obtain⟨j,f⟩:=g.o.cells;have B:=Bx.fz g.o 1;have k:=ag (Nc (s:=none) g.o E.o (F.o.a b) G.o D.o (v.o.trans (b.mono v.o.size)) (lG.below b));obtain⟨H,i⟩:=ak (m.setCell ⟨q,1,none⟩ (.bool true));rw[<-i]at k;clear b u;go_wp2;rw[<-i];clear i j f B;go_ret;exact⟨rfl,k.o⟩
 |some l1=>
  obtain rfl:=A l1 rfl;have f:w.cell? ⟨q,1,none⟩=some (.bool false):=f;cases e:ct l1 with
  |none=>
   rw[Us e];have hcut:=qmn a n c l1 w hl d e;clear A x y hl z h d e;go_enter Tryz.func110,Tryz.ntmps110;go_wp2_with fail
   refine hcut.mono ?_
   rintro e m⟨a2,n2,c2,rfl,b⟩;clear hcut j f;have g:=ag (show qY m q (.slice a n c) false from Bx.a u.o b);obtain⟨j,f⟩:=g.o.cells;have B:=Bx.fz g.o 1;have k:=ag (Nc (s:=none) g.o E.o (F.o.a b) G.o D.o (v.o.trans (b.mono v.o.size)) (lG.below b));obtain⟨H,i⟩:=ak (m.setCell ⟨q,1,none⟩ (.bool true));rw[<-i]at k;clear b u;go_wp2;rw[<-i];clear i j f B;go_ret;exact⟨rfl,k.o⟩
  |some p=>
   obtain⟨t,r⟩:=p;rw[XH e];have hcut:=qmm a n c l1 t r w hl d e;have I:=ag (show r.length<=1000000 by have:=(Ru e).1;omega);clear A x y hl z h d e;go_enter Tryz.func110,Tryz.ntmps110;go_wp2_with fail
   refine hcut.mono ?_
   rintro e m⟨a2,c2,rfl,J,b⟩;clear hcut j f;have g:=ag (show qY m q (.slice a n c) false from Bx.a u.o b);obtain⟨j,f⟩:=g.o.cells;have K:=Bx.fz g.o 0;have k:=ag (WU g.o rfl rfl (.inr J.rdk) I.o D.o (v.o.trans (b.mono v.o.size)) (lG.below b));obtain⟨L,C⟩:=ak r.length;rw[<-C]at k⊢;clear C J;obtain⟨H,i⟩:=ak (m.setCell ⟨q,0,none⟩ (.slice a2 L c2));rw[<-i]at k;clear b u;go_wp2;rw[<-i];clear i j f K;go_ret;exact⟨rfl,k.o⟩
theorem KP(c:bF b W w)(i:W.heap.size<=q)(j:Nat)(v:Value):bF b W (w.setCell ⟨q,j,none⟩ v):=by
 intro k cs t d f a;have g:=c k cs t d f a;have h:=(Xd6.1 a).1;exact(heap_setCell_other w ⟨q,j,none⟩ k v (fun e:k=q=>by omega)).trans g
theorem qahl(c:bF b W w)(hb:Below B w w')(g:W.heap.size<=B):bF b W w':=by
 intro k cs t d e a;have f:=(Xd6.1 a).1;exact(hb.block k (by omega)).trans (c k cs t d e a)
theorem lG.hi(h:lG W w)(a:W.heap.size<=q)(j:Nat)(v:Value):lG W (w.setCell ⟨q,j,none⟩ v):=⟨KP h.1 a j v,by simpa using h.2⟩
theorem lG.low(h:lG W w)(hb:Below B w w')(a:W.heap.size<=B):lG W w':=⟨qahl h.1 hb a,aG h.2 hb.size⟩
theorem uL{a:World}{A:Nat}{cs:Array Value}(h:pq w0 a q s)(c:Bx a A t cs)(d:100≠t)(e:5≠t)(b:w0.heap.size<=A)(j:Nat)(v:Value):
  pq w0 (a.setCell ⟨A,j,none⟩ v) q s:=h.keep (CV c j v) d e (Gd h.bel b j v)
theorem qahm(w0:World)(q:Nat)(s:lK)(w:World)(h:pq w0 w q s):
  Calls Tryz.prog 109 #[.pointer (some ⟨q,0,none⟩)] w fun e w'=>e=.returned (MR (mo s).1)∧pq w0 w' q (mo s).2∧lG w w':=by
 obtain⟨G,n⟩:∃G,G=w.alloc (.cells #[.string {data:=#[]},.int .i64 0,.int .i64 0,.string {data:=#[]},.string {data:=#[]}] 124):=⟨_,rfl⟩
 have y:ah w G:=by rw[n];exact ae
 have nk:=ag (h.a y);have ng:=ag (show Bx G w.heap.size 124 #[.string {data:=#[]},.int .i64 0,.int .i64 0,.string {data:=#[]},.string {data:=#[]}]by rw[n];exact Bx.new w _ _);have mK:=ag (lG.below y);have m:=ag (show w0.heap.size<=w.heap.size from h.bel.size);have J:mo s=mo s:=rfl;obtain⟨T,K⟩:=ak (mo s);rw[<-K];have HT:=ag K;clear y h J K;go_enter Tryz.func109,Tryz.ntmps109;have a:=iE w0 q (s) G nk.o;obtain⟨c,z⟩:=ak (ik (s));rw[<-z]at a;have L:=ag z;clear z;go_wp2_with fail
 rw[<-n];clear n;refine a.mono ?_
 rintro e w2⟨rfl,j,d⟩;have b:=ng.o.keep d.1 (by decide);have zA:=ag (mK.o.trans d);clear a nk ng mK d;have p:=b.at 0 rfl;have r:=b.at 1 rfl;have t:=b.at 2 rfl;have u:=b.at 3 rfl;have x:=b.at 4 rfl;have f0:=b.fz 0;have M:=ag (uL j b (by decide) (by decide) m.o 0 (.string (bs c.1)));have N:=ag (show Bx (w2.setCell ⟨w.heap.size,0,none⟩ (.string (bs c.1))) w.heap.size 124 #[.string (bs c.1),.int .i64 0,.int .i64 0,.string {data:=#[]},.string {data:=#[]}]from b.put 0 (.string (bs c.1)));have O:=ag (zA.o.hi aL 0 (.string (bs c.1)));obtain⟨w3,P⟩:=ak (w2.setCell ⟨w.heap.size,0,none⟩ (.string (bs c.1)));rw[<-P]at M N O;clear j b zA;go_wp2_with fail
 rw[<-P];clear P p r t u x f0;have a:=WV w0 q 16384 (c.2) w3 M.o (by decide);obtain⟨f,A⟩:=ak (dU 16384 (c.2));rw[<-A]at a;have Q:=ag A;clear A;go_wp2_with fail
 refine a.mono ?_
 rintro e w4⟨rfl,j,d⟩;have b:=N.o.keep d.1 (by decide);have rM:=ag (O.o.trans d);clear a M N O d;have p:=b.at 0 rfl;have r:=b.at 1 rfl;have t:=b.at 2 rfl;have u:=b.at 3 rfl;have x:=b.at 4 rfl;have f1:=b.fz 1;have R:=ag (uL j b (by decide) (by decide) m.o 1 (.int .i64 (f.1:Nat)));have S:=ag (show Bx (w4.setCell ⟨w.heap.size,1,none⟩ (.int .i64 (f.1:Nat))) w.heap.size 124 #[.string (bs c.1),.int .i64 (f.1:Nat),.int .i64 0,.string {data:=#[]},.string {data:=#[]}]from b.put 1 (.int .i64 (f.1:Nat)));have U:=ag (rM.o.hi aL 1 (.int .i64 (f.1:Nat)));obtain⟨w5,V⟩:=ak (w4.setCell ⟨w.heap.size,1,none⟩ (.int .i64 (f.1:Nat)));rw[<-V]at R S U;clear j b rM;go_wp2_with fail
 rw[<-V];clear V p r t u x f1;have a:=WV w0 q 65536 (f.2) w5 R.o (by decide);obtain⟨g,B⟩:=ak (dU 65536 (f.2));rw[<-B]at a;have W:=ag B;clear B;go_wp2_with fail
 refine a.mono ?_
 rintro e w6⟨rfl,j,d⟩;have b:=S.o.keep d.1 (by decide);have La:=ag (U.o.trans d);clear a R S U d;have p:=b.at 0 rfl;have r:=b.at 1 rfl;have t:=b.at 2 rfl;have u:=b.at 3 rfl;have x:=b.at 4 rfl;have f2:=b.fz 2;have C:=ag (uL j b (by decide) (by decide) m.o 2 (.int .i64 (g.1:Nat)));have X:=ag (show Bx (w6.setCell ⟨w.heap.size,2,none⟩ (.int .i64 (g.1:Nat))) w.heap.size 124 #[.string (bs c.1),.int .i64 (f.1:Nat),.int .i64 (g.1:Nat),.string {data:=#[]},.string {data:=#[]}]from b.put 2 (.int .i64 (g.1:Nat)));have D:=ag (La.o.hi aL 2 (.int .i64 (g.1:Nat)));obtain⟨w7,Y⟩:=ak (w6.setCell ⟨w.heap.size,2,none⟩ (.int .i64 (g.1:Nat)));rw[<-Y]at C X D;clear j b La;go_wp2_with fail
 rw[<-Y];clear Y p r t u x f2;have a:=iE w0 q (g.2) w7 C.o;obtain⟨i,E⟩:=ak (ik (g.2));rw[<-E]at a;have Z:=ag E;clear E;go_wp2_with fail
 refine a.mono ?_
 rintro e w8⟨rfl,j,d⟩;have b:=X.o.keep d.1 (by decide);have H:=ag (D.o.trans d);clear a C X D d;have p:=b.at 0 rfl;have r:=b.at 1 rfl;have t:=b.at 2 rfl;have u:=b.at 3 rfl;have x:=b.at 4 rfl;have f3:=b.fz 3;have zD:=ag (uL j b (by decide) (by decide) m.o 3 (.string (bs i.1)));have Hw:=ag (show Bx (w8.setCell ⟨w.heap.size,3,none⟩ (.string (bs i.1))) w.heap.size 124 #[.string (bs c.1),.int .i64 (f.1:Nat),.int .i64 (g.1:Nat),.string (bs i.1),.string {data:=#[]}]from b.put 3 (.string (bs i.1)));have il:=ag (H.o.hi aL 3 (.string (bs i.1)));obtain⟨w9,Ni⟩:=ak (w8.setCell ⟨w.heap.size,3,none⟩ (.string (bs i.1)));rw[<-Ni]at zD Hw il;clear j b H;go_wp2_with fail
 rw[<-Ni];clear Ni p r t u x f3;have a:=iE w0 q (i.2) w9 zD.o;obtain⟨k,F⟩:=ak (ik (i.2));rw[<-F]at a;have aa:=ag F;clear F;go_wp2_with fail
 refine a.mono ?_
 rintro e tJ⟨rfl,j,d⟩;have b:=Hw.o.keep d.1 (by decide);have WW:=ag (il.o.trans d);clear a zD Hw il d;have p:=b.at 0 rfl;have r:=b.at 1 rfl;have t:=b.at 2 rfl;have u:=b.at 3 rfl;have x:=b.at 4 rfl;have f4:=b.fz 4;have Nj:=ag (uL j b (by decide) (by decide) m.o 4 (.string (bs k.1)));have l:=ag (show Bx (tJ.setCell ⟨w.heap.size,4,none⟩ (.string (bs k.1))) w.heap.size 124 #[.string (bs c.1),.int .i64 (f.1:Nat),.int .i64 (g.1:Nat),.string (bs i.1),.string (bs k.1)]from b.put 4 (.string (bs k.1)));have Nk:=ag (WW.o.hi aL 4 (.string (bs k.1)));obtain⟨uO,qd⟩:=ak (tJ.setCell ⟨w.heap.size,4,none⟩ (.string (bs k.1)));rw[<-qd]at Nj l Nk;clear j b WW;have s0:=l.o.at 0 rfl;have s1:=l.o.at 1 rfl;have s2:=l.o.at 2 rfl;have s3:=l.o.at 3 rfl;have s4:=l.o.at 4 rfl;have g0:=l.o.fz 0;have g1:=l.o.fz 1;have g2:=l.o.fz 2;have g3:=l.o.fz 3;have g4:=l.o.fz 4;have p1:=l.o.put 0 (.string (bs c.1));have p2:=p1.put 1 (.int .i64 (f.1:Nat));have p3:=p2.put 2 (.int .i64 (g.1:Nat));have p4:=p3.put 3 (.string (bs i.1));have p5:=p4.put 4 (.string (bs k.1));have m1:=uL Nj.o l.o (by decide) (by decide) m.o 0 (.string (bs c.1));have m2:=uL m1 p1 (by decide) (by decide) m.o 1 (.int .i64 (f.1:Nat));have m3:=uL m2 p2 (by decide) (by decide) m.o 2 (.int .i64 (g.1:Nat));have m4:=uL m3 p3 (by decide) (by decide) m.o 3 (.string (bs i.1));have m5:=uL m4 p4 (by decide) (by decide) m.o 4 (.string (bs k.1));have HK:=ag (((((Nk.o.hi aL 0 (.string (bs c.1))).hi aL 1 (.int .i64 (f.1:Nat))).hi aL 2 (.int .i64 (g.1:Nat))).hi aL 3 (.string (bs i.1))).hi aL 4 (.string (bs k.1)));obtain⟨w9,aM⟩:=ak (((((uO.setCell ⟨w.heap.size,0,none⟩ (.string (bs c.1))).setCell ⟨w.heap.size,1,none⟩ (.int .i64 (f.1:Nat))).setCell ⟨w.heap.size,2,none⟩ (.int .i64 (g.1:Nat))).setCell ⟨w.heap.size,3,none⟩ (.string (bs i.1))).setCell ⟨w.heap.size,4,none⟩ (.string (bs k.1)));rw[<-aM]at p5 m5 HK;have HM:=ag m5;have I:=ag (show Bx w9 w.heap.size 124 #[.string (bs c.1),.int .i64 (f.1:Nat),.int .i64 (g.1:Nat),.string (bs i.1),.string (bs k.1)]from p5);clear p1 p2 p3 p4 p5 m1 m2 m3 m4 m5 Nj l Nk;have ab:=qd.symm;clear qd;go_wp2;rw[<-aM];clear aM s0 s1 s2 s3 s4 g0 g1 g2 g3 g4 ab p r t u x f4;have z0:=I.o.at 0 rfl;have z1:=I.o.at 1 rfl;have z2:=I.o.at 2 rfl;have z3:=I.o.at 3 rfl;have z4:=I.o.at 4 rfl;have zS:T=((c.1,(f.1:Int),(g.1:Int),i.1,k.1),k.2):=by rw[HT.o];unfold mo;rw[<-L.o,<-Q.o,<-W.o,<-Z.o,<-aa.o]
 refine bodyPost_ret (v:=.agg #[.string (bs c.1),.int .i64 (f.1:Nat),.int .i64 (g.1:Nat),.string (bs i.1),.string (bs k.1)]) ?_ rfl ⟨by rw[zS];rfl,by rw[zS];exact HM.o,HK.o⟩
 clear zS;simp[results,Tryz.results109,go_sem, *]
structure EL (w:World) (base G i:Nat) (S:dL):Prop where
 ow:cO 1 yB 105 w base (.slice (some ⟨G,0,none⟩) 4 4) S
 len:S.length=4
 lo:∀k (h:k<S.length),k<i->zQ w base (S[k]).1 (S[k]).2
 up:∀k (h:k<S.length),i<=k->S[k]=(.slice none 0 0,[])
 bw:base<=w.heap.size
structure vN (w:World) (base hi G i:Nat) (S:dL):Prop where
 ow:cO 1 yB 105 w base (.slice (some ⟨G,0,none⟩) 4 4) S
 len:S.length=4
 lo:∀k (h:k<S.length),k<i->zQ w base (S[k]).1 (S[k]).2∧∀gg,(S[k]).1.ownBlock=some gg->gg<hi
 at_:∀h:i<S.length,zQ w hi (S[i]).1 (S[i]).2
 up:∀k (h:k<S.length),i<k->S[k]=(.slice none 0 0,[])
 bh:base<=hi
 hw:hi<=w.heap.size
theorem EL.keep(h:EL w base G i S)(c:bF t w w')(d:124≠t)(e:105≠t)(f:w.heap.size<=w'.heap.size):EL w' base G i S:=
 ⟨cO.keep h.ow c e,h.len,fun k a b=>cO.keep (h.lo k a b) c d,h.up,aG h.bw f⟩
theorem vN.keep{hi:Nat}(h:vN w base hi G i S)(c:bF t w w')(d:124≠t)(e:105≠t)(f:w.heap.size<=w'.heap.size):vN w' base hi G i S:=
 ⟨cO.keep h.ow c e,h.len,fun k a b=>⟨cO.keep (h.lo k a b).1 c d,(h.lo k a b).2⟩,fun g=>cO.keep (h.at_ g) c d,h.up,h.bh,aG h.hw f⟩
theorem vN.a{hi:Nat}(h:vN w base hi G i S)(hb:ah w w'):vN w' base hi G i S:=
 ⟨cO.a h.ow hb,h.len,fun k a b=>⟨cO.a (h.lo k a b).1 hb,(h.lo k a b).2⟩,fun c=>cO.a (h.at_ c) hb,h.up,h.bh,aG h.hw hb.size⟩
theorem EL.begin(h:EL w base G i S):vN w base w.heap.size G i S:=
 ⟨h.ow,h.len,fun k a b=>⟨h.lo k a b,fun e c=>(cO.ltV (h.lo k a b) c).2⟩,fun d=>by rw[h.up i d aL];exact cO.nil _ _,fun k a b=>h.up k a (by omega),h.bw,Nat.le_refl _⟩
theorem vN.done{hi:Nat}(h:vN w base hi G i S):EL w base G (i+1) S:=
 ⟨h.ow,h.len,fun k a b=>by
  rcases Nat.lt_or_ge k i with q|q
  ·exact(h.lo k a q).1
  obtain rfl:k=i:=by omega
  exact(h.at_ a).mono h.bh,fun k a b=>h.up k a (by omega),aG h.bh h.hw⟩
theorem EL.all(h:EL w base G 4 S):dM w base (.slice (some ⟨G,0,none⟩) 4 4) S:=by
 refine⟨h.ow,fun p a=>?_⟩;obtain⟨k,b,rfl⟩:=Xb7.1 a;exact h.lo k b (by have:=h.len;omega)
theorem vN.cell{hi:Nat}(h:vN w base hi G i S)(c:i<S.length):w.cell? ⟨G,i,none⟩=some (S[i]).1:=by
 obtain⟨b,d,e,f⟩:=oZ.atB (cO.rd Wd h.ow) aF i c;have g:=f 0 (S[i]).1 rfl;have a:b=G∧d=0:=by
  injection e with e;injection e with e1 e2 e3;exact⟨e1.symm,e2.symm⟩
 obtain⟨rfl,rfl⟩:=a;simpa using g
theorem vN.row{hi:Nat}(h:vN w base hi G i S)(b:i<S.length):∃g d c0 f,S[i]=(.slice g d c0,f)∧d=f.length:=by
 obtain⟨a,c,e⟩:=oZ.form (cO.rd QO (h.at_ b));exact⟨a,_,c,(S[i]).2,Prod.ext e rfl,rfl⟩
theorem vN.app{hi:Nat}(h:vN w base hi G i S)(r:i<S.length){s:aA}{t c0:Nat}{g:List dn}(B:S[i]=(.slice s t c0,g))(hl:g.length<=100000)(m:dn):
  ∃c d f a,(Builtin.append_ #[105,105] 105 #[.slice s t c0,.slice (some ⟨w.heap.size,0,none⟩) 1 1]).run Tryz.prog (w.alloc (.cells #[.string (bs m.1),.int .i64 m.2.1,.int .i64 m.2.2.1,.string (bs (gG m)),.string (bs (gH m))] 124))=.ok (.slice (some ⟨c,0,none⟩) d f) a∧
   Below hi w a∧bF 124 w a∧a.cell? ⟨G,i,none⟩=some (.slice s t c0)∧a.frozen? ⟨G,i,none⟩=false∧
   vN (a.setCell ⟨G,i,none⟩ (.slice (some ⟨c,0,none⟩) d f)) base hi G i (S.set i (.slice (some ⟨c,0,none⟩) d f,g++[m]))∧Below base w (a.setCell ⟨G,i,none⟩ (.slice (some ⟨c,0,none⟩) d f))∧bF 105 a (a.setCell ⟨G,i,none⟩ (.slice (some ⟨c,0,none⟩) d f)):=by
 have l:=h.at_ r;rw[B]at l;obtain⟨c,d,f,a,Q,u,F,j,C,x⟩:=qtf (base:=hi) l h.hw (by show g.length<=1000000;omega) m;have n:cO 1 yB 105 a base (.slice (some ⟨G,0,none⟩) 4 4) S:=cO.keep h.ow C (by decide);have H:base<=a.heap.size:=aG h.bh (aG h.hw j.size);obtain⟨I,J,y⟩:=n.setW1 i (.slice (some ⟨c,0,none⟩) d f,g++[m]) H;have z:a.cell? ⟨G,i,none⟩=some (.slice s t c0):=by
  obtain⟨b,A,e,K⟩:=oZ.atB (cO.rd Wd n) aF i r;have D:=K 0 (S[i]).1 rfl;have v:b=G∧A=0:=by
   injection e with e;injection e with e1 e2 e3;exact⟨e1.symm,e2.symm⟩
  obtain⟨rfl,rfl⟩:=v;rw[B]at D;simpa using D
 refine⟨c,d,f,a,u,j,C,z,n.fzV i,⟨I,by simpa using h.len,fun k o p=>?_,fun R=>?_,fun k o p=>?_,h.bh, ?_⟩,(j.mono h.bh).trans J,y⟩
 ·have q:k<S.length:=by simpa using o
  have e:(S.set i (.slice (some ⟨c,0,none⟩) d f,g++[m]))[k]=S[k]:=by rw[List.getElem_set_ne (by omega)]
  rw[e];obtain⟨L,E⟩:=h.lo k q p;refine⟨cO.keep (cO.only L x fun M N O=>?_) y (by decide),E⟩;have P:zQ w hi (.slice s t c0) g:=l;have:=(cO.ltV P O).1
  have:=E M N
  omega
 ·have e:(S.set i (.slice (some ⟨c,0,none⟩) d f,g++[m]))[i]=(.slice (some ⟨c,0,none⟩) d f,g++[m]):=by rw[List.getElem_set_self]
  rw[e];exact cO.keep F y (by decide)
 ·have q:k<S.length:=by simpa using o
  have e:(S.set i (.slice (some ⟨c,0,none⟩) d f,g++[m]))[k]=S[k]:=by rw[List.getElem_set_ne (by omega)]
  rw[e];exact h.up k q p
 have:=aG h.hw j.size
 simpa using this
end Go.Proofs.YtmeaiocohalphaaGreatDoor
