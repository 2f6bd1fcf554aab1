/-
  What the document's one does: a sync, a disk that is full, any act.
-/
import Derived.Test.YthpammbgcidloaaGreatRm6
set_option maxHeartbeats 1000000
set_option maxRecDepth 100000
namespace Go.Proofs.YthpammbgcidloaaGreat
open Go.RowKit
set_option linter.all false
def Dv (w:World) (base B:Nat) (v:Value) (d:Dk):Prop:=∃g0 cap a2 c2 a3 c3,
 v=.agg #[.slice (some ⟨g0,0,none⟩) d.1.length cap,.slice a2 d.2.1.length c2,.slice a3 d.2.2.length c3]∧base<=g0∧g0<B∧B<=w.heap.size∧
 aX w base (.slice (some ⟨g0,0,none⟩) d.1.length cap) d.1∧kG w B (.slice a2 d.2.1.length c2) d.2.1∧lQ w B (.slice a3 d.2.2.length c3) d.2.2
theorem Dv.own {w:World} {base B:Nat} {v:Value} {d:Dk} (h:Dv w base B v d):jL w base v d:=by
 obtain ⟨e,cap,a2,c2,a3,c3,rfl,f,g,i,a,b,c⟩:=h;exact ⟨_,_,_,rfl,a,b.mono (by omega),c.mono (by omega)⟩
def KD (w wx:World):Prop:=w.heap.size<=wx.heap.size∧∀(i:Nat) (cs:Array Value) (fr:Nat × Nat),w.heap[i]? =some (.cells cs 26 fr)->wx.heap[i]? =some (.cells cs 26 fr)
theorem KD.refl (w:World):KD w w:=⟨Nat.le_refl _,fun _ _ _ h=>h⟩
theorem KD.below {w a b:World} (h:KD w a) (hb:ah a b):KD w b:=⟨aC h.1 hb.size,fun i cs c d=>eH _ _ _ _ (h.2 i cs c d) hb⟩
theorem KD.grown {w a b:World} {row:Option Nat} (h:KD w a) (g:a.grownBy b row) (l:∀k,row=some k->w.heap.size<=k∨∃cs t c,a.heap[k]? =some (.cells cs t c)∧t≠26):KD w b:=⟨aC h.1 g.size,fun i cs c j=>by
 have d:=h.2 i cs c j;refine (g.block i (Array.getElem?_eq_some_iff.1 d).1 (fun e=>?_)).trans d;rcases l i e.symm with f | ⟨m,t,n,f,o⟩
 ·have:=(Array.getElem?_eq_some_iff.1 j).1
  omega
 ·rw [d] at f
  cases f;exact o rfl⟩
theorem Dv.mono {w:World} {base a B:Nat} {v:Value} {d:Dk} (h:Dv w base B v d) (hb:a<=base):Dv w a B v d:=by
 obtain ⟨e,cap,a2,c2,a3,c3,rfl,j,b,c,f,g,i⟩:=h;exact ⟨e,cap,a2,c2,a3,c3,rfl,by omega,b,c,f.mono hb,g,i⟩
theorem Su {d:Dk} {v:Value} (w:World) (k:RdD w v d) (a:okD d=true):
  Calls Tryz.prog 18 #[v] w fun e w'=>∃f B,e=.returned f∧Dv w' w.heap.size B f d∧ah w w':=by
 obtain ⟨G,l,m,H,I,n,o⟩:=(qp d).1 a;have q:d.1.length<=1000000∧0<d.1.length:=by unfold bq at l m;omega
 refine (qv3 w k (by omega) (by omega) (by omega) (fun p b=>by have:=sH (n p b);omega) (fun p b=>by have:=Zd (o p b);omega)).mono ?_
 rintro e w' ⟨x,y,z,B,rfl,r,g,s,h,i,t,u⟩;obtain ⟨j,A,rfl,c⟩:=Ze g q.2;obtain ⟨C,D,rfl⟩:=h.rd.form;obtain ⟨E,F,rfl⟩:=i.rd.form;exact ⟨_,B,rfl,⟨j,A,C,D,E,F,rfl,c,s j rfl,t,g,h,i⟩,u⟩
def DU (w0 w w':World) (B:Nat) (o:Option Dk) (v:Value) (r:Int):Prop:=KD w w'∧(∃a1 n1 c1 a2 n2 c2 a3 n3 c3,v=.agg #[.slice a1 n1 c1,.slice a2 n2 c2,.slice a3 n3 c3])∧ah w0 w'∧((o=none∧r=9)∨∃d,o=some d∧r=0∧Dv w' w0.heap.size B v d)
theorem Dp.value {w ws:World} {base gD B gR:Nat} {d:Dk} {a cap:Nat} {a2 a3:au} {c2 c3:Nat} (h:base<=a) (f:a<B) (g:B<=w.heap.size) (b:∃cs,w.heap[gR]? =some (.cells cs 26 (0,0)))
  (i:aX w base (.slice (some ⟨a,0,none⟩) d.1.length cap) d.1) (j:kG w B (.slice a2 d.2.1.length c2) d.2.1) (l:lQ w B (.slice a3 d.2.2.length c3) d.2.2) (e:w.grownBy ws (some gR)):Dv ws base B (.agg #[.slice (some ⟨a,0,none⟩) d.1.length cap,.slice a2 d.2.1.length c2,.slice a3 d.2.2.length c3]) d:=by
 obtain ⟨cs,b⟩:=b;refine ⟨a,cap,a2,c2,a3,c3,rfl,h,f,aC g e.size,i.keptT e (fun k c=>by cases c;exact ⟨_,_,_,b,by decide⟩),j.keptT e (fun k c=>by cases c;exact ⟨_,_,_,b,by decide,by decide⟩),l.keptT e (fun k c=>by cases c;exact ⟨_,_,_,b,by decide,by decide⟩)⟩
theorem qac8 (w0:World) (B:Nat) (d:Dk) (v:Value) (N:Int) (x:au) (m c:Nat) (l:ak) (w:World) (hD:Dv w w0.heap.size B v d) (J:ah w0 w) (ad:Rd w0 (.slice x m c) l) (hm:m=l.length) (hl:l.length<=140737488355328) (hw:d.2.1.length<65536) (hn:d.2.2.length<65536):
  Calls Tryz.prog 125 #[v,.agg #[.bool false,.int .i64 N,.slice x m c]] w fun e w'=>∃v' r,e=.returned (.tuple #[v',.int .i64 r])∧DU w0 w w' B (some (d.1,d.2.1++[(N,l)],d.2.2++[(false,N,l)])) v' r:=by
 have HC:=ag ad;have HM:=ag hm;have HL:=ag hl;clear ad hm hl;obtain ⟨I,cap,a2,c2,a3,c3,rfl,hB,t,qw,K,G,H⟩:=hD;have al:=ag (show ∀k,(Value.slice a3 d.2.2.length c3).ownBlock=some k->k<w.heap.size from fun k u=>by
  obtain ⟨z,_,h,_⟩:=H;exact (h.lt k u).2)
 have iF:∀k,(Value.slice a3 d.2.2.length c3).ownBlock=some k->w0.heap.size<=k:=fun k u=>by
  obtain ⟨z,_,h,_⟩:=H;have:=(h.lt k u).1
  omega
 have vW:=ag (show ∀i,(i=w.heap.size+1∨i=w.heap.size+2)->some i≠(Value.slice a3 d.2.2.length c3).ownBlock from fun i hi e=>by
  have:=al.o _ e.symm
  omega)
 obtain ⟨w1,ew⟩:=aj (((w.alloc (.cells #[.slice (some ⟨I,0,none⟩) d.1.length cap,.slice a2 d.2.1.length c2,.slice a3 d.2.2.length c3] 26)).alloc (.cells #[.bool false,.int .i64 N,.slice x m c] 151)).alloc (.cells #[.slice none 0 0,.slice none 0 0,.slice none 0 0] 26));have A:ah w w1:=by rw [<-ew];exact ((ae).alloc (by simp) _).alloc (by simp;omega) _
 have U:w1.heap[w.heap.size]? =some (.cells #[.slice (some ⟨I,0,none⟩) d.1.length cap,.slice a2 d.2.1.length c2,.slice a3 d.2.2.length c3] 26 (0,0)):=by
  rw [<-ew,heap_alloc_old _ _ (by simp;omega),heap_alloc_old _ _ (by simp)];exact heap_alloc_new _ _
 have ab:w1.heap[w.heap.size+1]? =some (.cells #[.bool false,.int .i64 N,.slice x m c] 151 (0,0)):=by
  rw [<-ew,heap_alloc_old _ _ (by simp)];exact pq _ _ _
 have nQ:w1.heap[w.heap.size+2]? =some (.cells #[.slice none 0 0,.slice none 0 0,.slice none 0 0] 26 (0,0)):=by
  rw [<-ew];have:=pq (w.alloc (.cells #[.slice (some ⟨I,0,none⟩) d.1.length cap,.slice a2 d.2.1.length c2,.slice a3 d.2.2.length c3] 26)) (.cells #[.bool false,.int .i64 N,.slice x m c] 151) (.cells #[.slice none 0 0,.slice none 0 0,.slice none 0 0] 26)
  simpa using this
 obtain ⟨k0,k1,k2,_⟩:=cells3 U;obtain ⟨b0,b1,b2,_⟩:=cells3 ab;have C:KD w w1:=(KD.refl w).below A;have an:((65536:Int)<=d.2.1.length)=False:=by simp;omega
 have Ci:decide ((65536:Int)<=d.2.1.length)=false:=by simp;omega
 have ao:((65536:Int)<=d.2.2.length)=False:=by simp;omega
 have am:decide ((65536:Int)<=d.2.2.length)=false:=by simp;omega
 go_enter Tryz.func125,Tryz.ntmps125;go_wp2;have lT:w0.heap.size<=w.heap.size:=J.size;have g:B<=w1.heap.size:=aC qw A.size;have D:(fun a=>a.heap[w.heap.size+1]? =some (.cells #[.bool false,.int .i64 N,.slice x m c] 151 (0,0))∧a.heap[w.heap.size]? =some (.cells #[.slice (some ⟨I,0,none⟩) d.1.length cap,.slice a2 d.2.1.length c2,.slice a3 d.2.2.length c3] 26 (0,0))∧a.heap[w.heap.size+2]? =some (.cells #[.slice none 0 0,.slice none 0 0,.slice none 0 0] 26 (0,0))∧ah w0 a) w1:=⟨ab,U,nQ,J.trans (A.mono J.size)⟩;have V:aL (fun a=>a.heap[w.heap.size+1]? =some (.cells #[.bool false,.int .i64 N,.slice x m c] 151 (0,0))∧a.heap[w.heap.size]? =some (.cells #[.slice (some ⟨I,0,none⟩) d.1.length cap,.slice a2 d.2.1.length c2,.slice a3 d.2.2.length c3] 26 (0,0))∧a.heap[w.heap.size+2]? =some (.cells #[.slice none 0 0,.slice none 0 0,.slice none 0 0] 26 (0,0))∧ah w0 a):=(eH _ _).and ((eH _ _).and ((eH _ _).and (jW _)));have pX:=K;have yF:=G;have zu:=H;clear K G H;have Q:=U;have K:=pX.a A;have G:=yF.a A;have H:=zu.a A;clear U pX yF zu ew ao am an Ci k0 k1 k2 b0 b1 b2 ab nQ;refine rH V 11 (by kernel_rfl) D ?_
 intro f;refine pg [0,1,2,3,4,5] (fuel:=6) (a':=?iD) (by kernel_rfl) (by kernel_rfl) (by kernel_rfl) ?dn f ?iE
 case dn=>
  iterate 6 (apply Yl.cons rfl (by kernel_rfl);focus (rintro a ⟨E,L,S,T⟩;obtain ⟨c1,c2,c3,c4⟩:=cells3 E;obtain ⟨d1,d2,d3,d4⟩:=cells3 L;go_simp<;>with_reducible rfl);try simp only [az])
  exact Yl.nil
 refine uU (i:=6) (R:=fun v wy=>∃p k,v=.agg #[.int .i64 N,.slice p l.length k]∧aX wy B (.slice p l.length k) l∧ah w1 wy) rfl (by kernel_rfl) (by rfl) (by obtain ⟨c1,c2,c3,c4⟩:=cells3 f.1;obtain ⟨d1,d2,d3,d4⟩:=cells3 f.2.1;go_simp) ((OZ N x m c l _ HM.o HL.o (HC.o.a f.2.2.2)).mono fun e wy ⟨v,h1,h2,h3⟩=>by obtain ⟨p,k,rfl⟩:=h2.form;exact ⟨_,h1,p,k,rfl,h2.mono g,aB.drew.trans h3⟩) ?_
 rintro v7 w7 ⟨p7,k7,rfl,mi,n⟩;have W:=V _ _ D n;obtain ⟨a9,c9,w9,bD,M,X,q⟩:=Vx (s:=false) (N:=N) (d:=d) hB t (aC g n.size) lT (eH _ _ _ _ Q n) (K.a n) (G.a n) (H.a n) mi (by omega);have HF:=ag q;have tZ:=(C.below n).grown M (fun j Y=>.inr (by obtain ⟨z,_,h,_⟩:=H.a n;obtain ⟨cs,hh⟩:=vk h j Y;exact ⟨cs,_,_,hh,by decide⟩));clear C;have bO:(fun a=>a.heap[w.heap.size+1]? =some (.cells #[.bool false,.int .i64 N,.slice x m c] 151 (0,0))∧a.heap[w.heap.size]? =some (.cells #[.slice (some ⟨I,0,none⟩) d.1.length cap,.slice a2 d.2.1.length c2,.slice a3 d.2.2.length c3] 26 (0,0))∧a.heap[w.heap.size+2]? =some (.cells #[.slice none 0 0,.slice none 0 0,.slice none 0 0] 26 (0,0))∧ah w0 a) w9:=by
  obtain ⟨E,L,S,T⟩:=W;exact ⟨(M.block _ (Array.getElem?_eq_some_iff.1 E).1 (vW.o _ (.inl rfl))).trans E,X,(M.block _ (Array.getElem?_eq_some_iff.1 S).1 (vW.o _ (.inr rfl))).trans S,T.grown M T.size (fun k u=>iF k u)⟩
 obtain ⟨ws,bP,O,b⟩:=Nn (.slice a9 (d.2.2.length+1) c9) X;obtain ⟨z1,z2,z3,z4⟩:=cells3 X;refine ⟨W, ?_⟩;clear f q;have f:=W;try simp only [az]
 refine uy (i:=7) (v:=?qav7) rfl (by kernel_rfl) (by kernel_rfl) (by kernel_rfl) rfl (by kernel_rfl) (by kernel_rfl) (by rfl) ?Ji f ?qar7
 case Ji=>(rintro a ⟨E,L,S,T⟩;obtain ⟨c1,c2,c3,c4⟩:=cells3 E;obtain ⟨d1,d2,d3,d4⟩:=cells3 L;go_simp<;>with_reducible rfl)
 try simp only [az]
 refine lL (i:=8) (v:=.slice (some ⟨w7.heap.size,0,none⟩) 1 1) (w':=w7.alloc (.cells #[.bool false,.int .i64 N,.slice p7 l.length k7] 151)) rfl (by kernel_rfl) (by rfl) (by go_simp) (fun _=>V _ _ f (ae)) ?_
 try simp only [az]
 refine lL (i:=9) (v:=.slice a9 (d.2.2.length+1) c9) (w':=w9) rfl (by kernel_rfl) (by rfl) (BG (v:=.slice a3 d.2.2.length c3) (y:=.slice (some ⟨w7.heap.size,0,none⟩) 1 1) rfl rfl rfl bD) (fun _=>bO) ?_
 clear f;have f:=bO;try simp only [az]
 refine uy (i:=10) (v:=?wK) rfl (by kernel_rfl) (by kernel_rfl) (by kernel_rfl) rfl (by kernel_rfl) (by kernel_rfl) (by rfl) ?lU f ?wL
 case lU=>(rintro a ⟨E,L,S,T⟩;obtain ⟨c1,c2,c3,c4⟩:=cells3 E;obtain ⟨d1,d2,d3,d4⟩:=cells3 L;go_simp<;>with_reducible rfl)
 try simp only [az]
 refine rJ (i:=11) (w':=ws) rfl (by kernel_rfl) (by kernel_rfl) (by rfl) (by rw [<-bP];go_simp) ?_
 try simp only [az]
 refine rM (by kernel_rfl) ?_ _
 refine NoPanic.normal ?_
 have C:=tZ.grown b (fun j Y=>by cases Y;exact .inl aI);clear tZ;have nk:=HF.o ws b O;obtain ⟨yA,_,yR,y7⟩:=bO;have Z:ws.heap[w.heap.size+1]? =some (.cells #[.bool false,.int .i64 N,.slice x m c] 151 (0,0)):=(b.block _ (Array.getElem?_eq_some_iff.1 yA).1 (by simp)).trans yA
 have F:ws.heap[w.heap.size+2]? =some (.cells #[.slice none 0 0,.slice none 0 0,.slice none 0 0] 26 (0,0)):=(b.block _ (Array.getElem?_eq_some_iff.1 yR).1 (by simp)).trans yR
 have P:ah w0 ws:=y7.grown b y7.size (fun k u=>by cases u;exact lT);clear f HF W bD bP z1 z2 z3 z4 yA yR y7 V D n mi Q K G H M X b A g iF vW al O;obtain ⟨d1,pu⟩:∃d1:Dk,(d.1,d.2.1,d.2.2++[(false,N,l)])=d1:=⟨_,rfl⟩;rw [pu] at nk;clear hB t;obtain ⟨b0,b1,b2,_⟩:=cells3 Z
 have ar:d1.2.1.length<65536:=by rw [<-pu];exact hw
 have HR:=ag (show (d.1,d.2.1++[(N,l)],d.2.2++[(false,N,l)])=(d1.1,d1.2.1++[(N,l)],d1.2.2) by rw [<-pu]);clear pu hw hn;obtain ⟨I,cap,a2,c2,a3,c3,Q,hB,t,g,_,K,G,H⟩:=nk;obtain ⟨k0,k1,k2,_⟩:=cells3 Q;have iF:∀k,(Value.slice a2 d1.2.1.length c2).ownBlock=some k->w0.heap.size<=k:=fun k u=>by
  obtain ⟨z,_,h,_⟩:=G;have:=(h.lt k u).1
  omega
 have vW:=ag (show ∀i,(i=w.heap.size+1∨i=w.heap.size+2)->some i≠(Value.slice a2 d1.2.1.length c2).ownBlock from fun i hi e=>by
  obtain ⟨z,_,h,_⟩:=G;obtain ⟨cs,hh⟩:=vk h i e.symm;rcases hi with rfl | rfl
  ·rw [Z] at hh;cases hh
  ·rw [F] at hh;cases hh)
 go_wp2;clear k0 k1 k2 b0 b1 b2;have D:(fun a=>a.heap[w.heap.size+1]? =some (.cells #[.bool false,.int .i64 N,.slice x m c] 151 (0,0))∧a.heap[w.heap.size]? =some (.cells #[.slice (some ⟨I,0,none⟩) d1.1.length cap,.slice a2 d1.2.1.length c2,.slice a3 d1.2.2.length c3] 26 (0,0))∧a.heap[w.heap.size+2]? =some (.cells #[.slice none 0 0,.slice none 0 0,.slice none 0 0] 26 (0,0))∧ah w0 a) ws:=⟨Z,Q,F,P⟩;have V:aL (fun a=>a.heap[w.heap.size+1]? =some (.cells #[.bool false,.int .i64 N,.slice x m c] 151 (0,0))∧a.heap[w.heap.size]? =some (.cells #[.slice (some ⟨I,0,none⟩) d1.1.length cap,.slice a2 d1.2.1.length c2,.slice a3 d1.2.2.length c3] 26 (0,0))∧a.heap[w.heap.size+2]? =some (.cells #[.slice none 0 0,.slice none 0 0,.slice none 0 0] 26 (0,0))∧ah w0 a):=(eH _ _).and ((eH _ _).and ((eH _ _).and (jW _)));clear Z F P;refine rH V 8 (by kernel_rfl) D ?_
 intro f;refine pg [0,1,2,3] (fuel:=5) (a':=?lM) (by kernel_rfl) (by kernel_rfl) (by kernel_rfl) ?fU f ?lN
 case fU=>
  iterate 4 (apply Yl.cons rfl (by kernel_rfl);focus (rintro a ⟨E,L,S,T⟩;obtain ⟨c1,c2,c3,c4⟩:=cells3 E;obtain ⟨d1,d2,d3,d4⟩:=cells3 L;go_simp<;>with_reducible rfl);try simp only [az])
  exact Yl.nil
 refine uU (i:=4) (R:=fun v wy=>∃p k,v=.agg #[.int .i64 N,.slice p l.length k]∧aX wy B (.slice p l.length k) l∧ah ws wy) rfl (by kernel_rfl) (by rfl) (by obtain ⟨c1,c2,c3,c4⟩:=cells3 f.1;obtain ⟨d1,d2,d3,d4⟩:=cells3 f.2.1;go_simp) ((OZ N x m c l _ HM.o HL.o (HC.o.a f.2.2.2)).mono fun e wy ⟨v,h1,h2,h3⟩=>by obtain ⟨p,k,rfl⟩:=h2.form;exact ⟨_,h1,p,k,rfl,h2.mono g,aB.drew.trans h3⟩) ?_
 rintro v7 w7 ⟨p7,k7,rfl,mi,n⟩;have W:=V _ _ D n;obtain ⟨a9,c9,w9,bD,M,X,q⟩:=qlq (N:=N) (d:=d1) hB t (aC g n.size) lT (eH _ _ _ _ Q n) (K.a n) (G.a n) (H.a n) mi (by omega);have HF:=ag q;have tZ:=(C.below n).grown M (fun j Y=>.inr (by obtain ⟨z,_,h,_⟩:=G.a n;obtain ⟨cs,hh⟩:=vk h j Y;exact ⟨cs,_,_,hh,by decide⟩));clear C;have bO:(fun a=>a.heap[w.heap.size+1]? =some (.cells #[.bool false,.int .i64 N,.slice x m c] 151 (0,0))∧a.heap[w.heap.size]? =some (.cells #[.slice (some ⟨I,0,none⟩) d1.1.length cap,.slice a2 d1.2.1.length c2,.slice a3 d1.2.2.length c3] 26 (0,0))∧a.heap[w.heap.size+2]? =some (.cells #[.slice none 0 0,.slice none 0 0,.slice none 0 0] 26 (0,0))∧ah w0 a) w9:=by
  obtain ⟨E,L,S,T⟩:=W;exact ⟨(M.block _ (Array.getElem?_eq_some_iff.1 E).1 (vW.o _ (.inl rfl))).trans E,X,(M.block _ (Array.getElem?_eq_some_iff.1 S).1 (vW.o _ (.inr rfl))).trans S,T.grown M T.size (fun k u=>iF k u)⟩
 obtain ⟨wt,Cj,O,b⟩:=Nl (.slice a9 (d1.2.1.length+1) c9) X;obtain ⟨z1,z2,z3,z4⟩:=cells3 X;refine ⟨W, ?_⟩;clear f q;have f:=W;try simp only [az]
 refine lL (i:=5) (v:=.slice (some ⟨w7.heap.size,0,none⟩) 1 1) (w':=w7.alloc (.cells #[.int .i64 N,.slice p7 l.length k7] 94)) rfl (by kernel_rfl) (by rfl) (by go_simp) (fun _=>V _ _ f (ae)) ?_
 try simp only [az]
 refine lL (i:=6) (v:=.slice a9 (d1.2.1.length+1) c9) (w':=w9) rfl (by kernel_rfl) (by rfl) (BG (v:=.slice a2 d1.2.1.length c2) (y:=.slice (some ⟨w7.heap.size,0,none⟩) 1 1) rfl rfl rfl bD) (fun _=>bO) ?_
 clear f;have f:=bO;try simp only [az]
 refine uy (i:=7) (v:=?qbv7) rfl (by kernel_rfl) (by kernel_rfl) (by kernel_rfl) rfl (by kernel_rfl) (by kernel_rfl) (by rfl) ?qby7 f ?qbr7
 case qby7=>(rintro a ⟨E,L,S,T⟩;obtain ⟨c1,c2,c3,c4⟩:=cells3 E;obtain ⟨d1,d2,d3,d4⟩:=cells3 L;go_simp<;>with_reducible rfl)
 try simp only [az]
 refine rJ (i:=8) (w':=wt) rfl (by kernel_rfl) (by kernel_rfl) (by rfl) (by rw [<-Cj];go_simp) ?_
 try simp only [az]
 refine rM (by kernel_rfl) ?_ _
 refine NoPanic.normal ?_
 have C:=tZ.grown b (fun j Y=>by cases Y;exact .inl aI);clear tZ;have nk:=HF.o wt b O;obtain ⟨_,_,yR,y7⟩:=bO;have F:wt.heap[w.heap.size+2]? =some (.cells #[.slice none 0 0,.slice none 0 0,.slice none 0 0] 26 (0,0)):=(b.block _ (Array.getElem?_eq_some_iff.1 yR).1 (by simp)).trans yR
 have P:ah w0 wt:=y7.grown b y7.size (fun k u=>by cases u;exact lT);clear f HF W bD Cj z1 z2 z3 z4 yR y7 V D n mi Q K G H M X b g iF vW O;obtain ⟨d2,ac⟩:∃d2:Dk,(d1.1,d1.2.1++[(N,l)],d1.2.2)=d2:=⟨_,rfl⟩;rw [ac] at nk;have ap:=ag (HR.o.trans ac);clear hB t HR ac;obtain ⟨I,cap,a2,c2,a3,c3,Q,hB,t,g,_,K,G,H⟩:=nk;obtain ⟨k0,k1,k2,_⟩:=cells3 Q;obtain ⟨wu,av,Em,aa⟩:=ou (.slice (some ⟨I,0,none⟩) d2.1.length cap) (.slice a2 d2.2.1.length c2) (.slice a3 d2.2.2.length c3) F;obtain ⟨z1,z2,z3,z4⟩:=cells3 F;obtain ⟨q1,q2,q3,q4⟩:=cells3 Em;have aq:=P.grown aa P.size (fun k u=>by cases u;omega);have yx:=C.grown aa (fun j Y=>by cases Y;exact .inl (by omega));have HV:=ag (Dp.value (gD:=0) hB t g ⟨_,F⟩ K G H aa);clear Em aa K G H Q;go_wp2
 refine bodyPost_ret (v:=.tuple #[.agg #[.slice (some ⟨I,0,none⟩) d2.1.length cap,.slice a2 d2.2.1.length c2,.slice a3 d2.2.2.length c3],.int .i64 0]) ?_ rfl ?_
 ·simp [results,Tryz.results125,go_sem, *]
 ·exact ⟨_,_,rfl,yx,⟨_,_,_,_,_,_,_,_,_,rfl⟩,aq,.inr ⟨_,congrArg some ap.o,rfl,HV.o⟩⟩
theorem kG.at {w:World} {base n c:Nat} {a:au} {l:List Pu} (h:kG w base (.slice a n c) l) (j:Nat) (k:j<l.length):∃g,a=some ⟨g,0,none⟩∧base<=g∧w.cell? ⟨g,j*2,none⟩=some (.int .i64 (l[j]).1)∧∃v,w.cell? ⟨g,j*2+1,none⟩=some v∧aX w base v (l[j]).2:=by
 obtain ⟨z,rfl,d,m⟩:=h;have b:j<z.length:=by simpa using k
 have o:=d;rcases d.2 with ⟨_,i⟩ | ⟨g,cap,p,e,f,_⟩
 ·simp at i;rw [i] at b;exact absurd b (by simp)
 ·cases e
  obtain ⟨e1,q⟩:=YE z j b;have c1:=d.cells (g:=g) rfl _ _ e1;have c2:=d.cells (g:=g) rfl _ _ q;rw [Addr.add_lit] at c1 c2;refine ⟨g,rfl,f,by simpa using c1,(z[j]).2,by simpa [Nat.add_assoc] using c2, ?_⟩;have:=m z[j] (List.getElem_mem b)
  simpa using this
theorem qy4 (data:ak) (l:List Pu) (k:Nat) (a:k<l.length):mg data (l.take (k+1))=nM (mg data (l.take k)) l[k]:=by
 unfold mg;rw [List.take_succ_eq_append_getElem a,List.foldl_append];rfl
theorem qy5 (data:ak) (l:List Pu) (k cnt:Nat) (a:data.length=128*cnt) (c:∀p∈l,dP cnt p=0):(mg data (l.take k)).length=128*cnt:=by
 rw [Vu data _ data rfl (fun p b=>by
  obtain ⟨d,f,e⟩:=sH (c p (List.mem_of_mem_take b));exact ⟨d,by omega,e⟩)]
 exact a
theorem qags (w0:World) (B cnt:Nat) (d:Dk) (v:Value) (N:Int) (x:au) (m c:Nat) (l:ak) (w:World) (hD:Dv w w0.heap.size B v d) (F:ah w0 w) (ao:Rd w0 (.slice x m c) l) (hm:m=l.length) (hl:l.length<=140737488355328) (hw:d.2.1.length<=65536) (hn:d.2.2.length<65536)
  (P:d.1.length=128*cnt) (ap:cnt<=4096) (hp:∀p∈d.2.1,dP cnt p=0):
  Calls Tryz.prog 125 #[v,.agg #[.bool true,.int .i64 N,.slice x m c]] w fun e w'=>∃v' r,e=.returned (.tuple #[v',.int .i64 r])∧DU w0 w w' B (some (mg d.1 d.2.1,[],d.2.2++[(true,N,l)])) v' r:=by
 have Q:=ag P;have HP:=ag hp;clear P hp;have HC:=ag ao;have HM:=ag hm;have HL:=ag hl;clear ao hm hl;obtain ⟨b,cap,a2,c2,a3,c3,rfl,hB,t,qw,S,T,G⟩:=hD;have aq:=ag (show ∀k,(Value.slice a3 d.2.2.length c3).ownBlock=some k->k<w.heap.size from fun k U=>by
  obtain ⟨z,_,h,_⟩:=G;exact (h.lt k U).2)
 have iF:∀k,(Value.slice a3 d.2.2.length c3).ownBlock=some k->w0.heap.size<=k:=fun k U=>by
  obtain ⟨z,_,h,_⟩:=G;have:=(h.lt k U).1
  omega
 have vW:=ag (show ∀i,(i=w.heap.size+1∨i=w.heap.size+2)->some i≠(Value.slice a3 d.2.2.length c3).ownBlock from fun i hi e=>by
  have:=aq.o _ e.symm
  omega)
 obtain ⟨V,ew⟩:=aj (((w.alloc (.cells #[.slice (some ⟨b,0,none⟩) d.1.length cap,.slice a2 d.2.1.length c2,.slice a3 d.2.2.length c3] 26)).alloc (.cells #[.bool true,.int .i64 N,.slice x m c] 151)).alloc (.cells #[.slice none 0 0,.slice none 0 0,.slice none 0 0] 26));have u:ah w V:=by rw [<-ew];exact ((ae).alloc (by simp) _).alloc (by simp;omega) _
 have K:V.heap[w.heap.size]? =some (.cells #[.slice (some ⟨b,0,none⟩) d.1.length cap,.slice a2 d.2.1.length c2,.slice a3 d.2.2.length c3] 26 (0,0)):=by
  rw [<-ew,heap_alloc_old _ _ (by simp;omega),heap_alloc_old _ _ (by simp)];exact heap_alloc_new _ _
 have Y:V.heap[w.heap.size+1]? =some (.cells #[.bool true,.int .i64 N,.slice x m c] 151 (0,0)):=by
  rw [<-ew,heap_alloc_old _ _ (by simp)];exact pq _ _ _
 have nQ:V.heap[w.heap.size+2]? =some (.cells #[.slice none 0 0,.slice none 0 0,.slice none 0 0] 26 (0,0)):=by
  rw [<-ew];have:=pq (w.alloc (.cells #[.slice (some ⟨b,0,none⟩) d.1.length cap,.slice a2 d.2.1.length c2,.slice a3 d.2.2.length c3] 26)) (.cells #[.bool true,.int .i64 N,.slice x m c] 151) (.cells #[.slice none 0 0,.slice none 0 0,.slice none 0 0] 26)
  simpa using this
 obtain ⟨k0,k1,k2,_⟩:=cells3 K;obtain ⟨b0,b1,b2,_⟩:=cells3 Y;have L:KD w V:=(KD.refl w).below u;have aE:((65536:Int)<=d.2.2.length)=False:=by simp;omega
 have ar:decide ((65536:Int)<=d.2.2.length)=false:=by simp;omega
 go_enter Tryz.func125,Tryz.ntmps125;go_wp2;have lT:w0.heap.size<=w.heap.size:=F.size;have H:B<=V.heap.size:=aC qw u.size;have Z:(fun a=>a.heap[w.heap.size+1]? =some (.cells #[.bool true,.int .i64 N,.slice x m c] 151 (0,0))∧a.heap[w.heap.size]? =some (.cells #[.slice (some ⟨b,0,none⟩) d.1.length cap,.slice a2 d.2.1.length c2,.slice a3 d.2.2.length c3] 26 (0,0))∧a.heap[w.heap.size+2]? =some (.cells #[.slice none 0 0,.slice none 0 0,.slice none 0 0] 26 (0,0))∧ah w0 a) V:=⟨Y,K,nQ,F.trans (u.mono F.size)⟩;have hK:aL (fun a=>a.heap[w.heap.size+1]? =some (.cells #[.bool true,.int .i64 N,.slice x m c] 151 (0,0))∧a.heap[w.heap.size]? =some (.cells #[.slice (some ⟨b,0,none⟩) d.1.length cap,.slice a2 d.2.1.length c2,.slice a3 d.2.2.length c3] 26 (0,0))∧a.heap[w.heap.size+2]? =some (.cells #[.slice none 0 0,.slice none 0 0,.slice none 0 0] 26 (0,0))∧ah w0 a):=(eH _ _).and ((eH _ _).and ((eH _ _).and (jW _)));have pX:=S;have yF:=T;have zu:=G;clear S T G;have hd:=K;have S:=pX.a u;have T:=yF.a u;have G:=zu.a u;clear K pX yF zu ew aE ar k0 k1 k2 b0 b1 b2 Y nQ;refine rH hK 11 (by kernel_rfl) Z ?_
 intro f;refine pg [0,1,2,3,4,5] (fuel:=6) (a':=?iD) (by kernel_rfl) (by kernel_rfl) (by kernel_rfl) ?dn f ?iE
 case dn=>
  iterate 6 (apply Yl.cons rfl (by kernel_rfl);focus (rintro a ⟨W,xD,xR,x7⟩;obtain ⟨c1,c2,c3,c4⟩:=cells3 W;obtain ⟨d1,d2,d3,d4⟩:=cells3 xD;go_simp<;>with_reducible rfl);try simp only [az])
  exact Yl.nil
 refine uU (i:=6) (R:=fun v wy=>∃p k,v=.agg #[.int .i64 N,.slice p l.length k]∧aX wy B (.slice p l.length k) l∧ah V wy) rfl (by kernel_rfl) (by rfl) (by obtain ⟨c1,c2,c3,c4⟩:=cells3 f.1;obtain ⟨d1,d2,d3,d4⟩:=cells3 f.2.1;go_simp) ((OZ N x m c l _ HM.o HL.o (HC.o.a f.2.2.2)).mono fun e wy ⟨v,h1,h2,h3⟩=>by obtain ⟨p,k,rfl⟩:=h2.form;exact ⟨_,h1,p,k,rfl,h2.mono H,aB.drew.trans h3⟩) ?_
 rintro v7 w7 ⟨p7,k7,rfl,mi,M⟩;have eu:=hK _ _ Z M;obtain ⟨a9,c9,w9,bD,D,ib,X⟩:=Vx (s:=true) (N:=N) (d:=d) hB t (aC H M.size) lT (eH _ _ _ _ hd M) (S.a M) (T.a M) (G.a M) mi (by omega);have HF:=ag X;have tZ:=(L.below M).grown D (fun j g=>.inr (by obtain ⟨z,_,h,_⟩:=G.a M;obtain ⟨cs,hh⟩:=vk h j g;exact ⟨cs,_,_,hh,by decide⟩));clear L;have bO:(fun a=>a.heap[w.heap.size+1]? =some (.cells #[.bool true,.int .i64 N,.slice x m c] 151 (0,0))∧a.heap[w.heap.size]? =some (.cells #[.slice (some ⟨b,0,none⟩) d.1.length cap,.slice a2 d.2.1.length c2,.slice a3 d.2.2.length c3] 26 (0,0))∧a.heap[w.heap.size+2]? =some (.cells #[.slice none 0 0,.slice none 0 0,.slice none 0 0] 26 (0,0))∧ah w0 a) w9:=by
  obtain ⟨W,xD,xR,x7⟩:=eu;exact ⟨(D.block _ (Array.getElem?_eq_some_iff.1 W).1 (vW.o _ (.inl rfl))).trans W,ib,(D.block _ (Array.getElem?_eq_some_iff.1 xR).1 (vW.o _ (.inr rfl))).trans xR,x7.grown D x7.size (fun k U=>iF k U)⟩
 obtain ⟨ws,bP,av,E⟩:=Nn (.slice a9 (d.2.2.length+1) c9) ib;obtain ⟨z1,z2,z3,z4⟩:=cells3 ib;refine ⟨eu, ?_⟩;clear f X;have f:=eu;try simp only [az]
 refine uy (i:=7) (v:=?qav7) rfl (by kernel_rfl) (by kernel_rfl) (by kernel_rfl) rfl (by kernel_rfl) (by kernel_rfl) (by rfl) ?Ji f ?qar7
 case Ji=>(rintro a ⟨W,xD,xR,x7⟩;obtain ⟨c1,c2,c3,c4⟩:=cells3 W;obtain ⟨d1,d2,d3,d4⟩:=cells3 xD;go_simp<;>with_reducible rfl)
 try simp only [az]
 refine lL (i:=8) (v:=.slice (some ⟨w7.heap.size,0,none⟩) 1 1) (w':=w7.alloc (.cells #[.bool true,.int .i64 N,.slice p7 l.length k7] 151)) rfl (by kernel_rfl) (by rfl) (by go_simp) (fun _=>hK _ _ f (ae)) ?_
 try simp only [az]
 refine lL (i:=9) (v:=.slice a9 (d.2.2.length+1) c9) (w':=w9) rfl (by kernel_rfl) (by rfl) (BG (v:=.slice a3 d.2.2.length c3) (y:=.slice (some ⟨w7.heap.size,0,none⟩) 1 1) rfl rfl rfl bD) (fun _=>bO) ?_
 clear f;have f:=bO;try simp only [az]
 refine uy (i:=10) (v:=?wK) rfl (by kernel_rfl) (by kernel_rfl) (by kernel_rfl) rfl (by kernel_rfl) (by kernel_rfl) (by rfl) ?lU f ?wL
 case lU=>(rintro a ⟨W,xD,xR,x7⟩;obtain ⟨c1,c2,c3,c4⟩:=cells3 W;obtain ⟨d1,d2,d3,d4⟩:=cells3 xD;go_simp<;>with_reducible rfl)
 try simp only [az]
 refine rJ (i:=11) (w':=ws) rfl (by kernel_rfl) (by kernel_rfl) (by rfl) (by rw [<-bP];go_simp) ?_
 try simp only [az]
 refine rM (by kernel_rfl) ?_ _
 refine NoPanic.normal ?_
 have L:=tZ.grown E (fun j g=>by cases g;exact .inl aI);clear tZ;have nk:=HF.o ws E av;obtain ⟨yA,_,yR,y7⟩:=bO;have aF:ws.heap[w.heap.size+1]? =some (.cells #[.bool true,.int .i64 N,.slice x m c] 151 (0,0)):=(E.block _ (Array.getElem?_eq_some_iff.1 yA).1 (by simp)).trans yA
 have aw:ws.heap[w.heap.size+2]? =some (.cells #[.slice none 0 0,.slice none 0 0,.slice none 0 0] 26 (0,0)):=(E.block _ (Array.getElem?_eq_some_iff.1 yR).1 (by simp)).trans yR
 have ax:ah w0 ws:=y7.grown E y7.size (fun k U=>by cases U;exact lT);clear f HF eu bD bP z1 z2 z3 z4 yA yR y7 hK Z M mi hd S T G D ib E u H iF vW aq av;obtain ⟨d1,pu⟩:∃d1:Dk,(d.1,d.2.1,d.2.2++[(true,N,l)])=d1:=⟨_,rfl⟩;rw [pu] at nk;clear hB t;obtain ⟨b0,b1,b2,_⟩:=cells3 aF
 have aS:d1.2.1.length<=65536:=by rw [<-pu];exact hw
 have I:d1.1.length=128*cnt:=by rw [<-pu];exact Q.o
 have yG:=ag (show ∀p∈d1.2.1,dP cnt p=0 by rw [<-pu];exact HP.o);have HR:=ag (show (mg d.1 d.2.1,[],d.2.2++[(true,N,l)])=(mg d1.1 d1.2.1,([]:List Pu),d1.2.2) by rw [<-pu]);clear pu hw hn Q HP;obtain ⟨b,cap,a2,c2,a3,c3,hd,hB,t,H,_,S,T,G⟩:=nk;obtain ⟨k0,k1,k2,_⟩:=cells3 hd;have O1:=ag S;have O2:=ag T;have O3:=ag G;have uz:=ag I;clear S T G I;generalize e1:d1.1.length=n1 at *;generalize e2:d1.2.1.length=n2 at *;generalize e3:d1.2.2.length=n3 at *;have E1:=ag e1;have E2:=ag e2;have E3:=ag e3;clear e1 e2 e3;go_wp2;clear k0 k1 k2 b0 b1 b2;go_loopw [6] (fun i wr=>∃k:Nat,k<=n2∧i=.int .i64 k∧af (aX wr w0.heap.size (.slice (some ⟨b,0,none⟩) n1 cap) (mg d1.1 (d1.2.1.take k)))∧ws.grownBy wr (some b)) (fun i _=>n2 - (intOf i).toNat)
 case atStart=>exact ⟨0,Nat.zero_le _,rfl,O1.o,World.grownBy.refl _ _⟩
 case round=>
  obtain ⟨k,U,rfl,ho,n⟩:=hrel;have J:wr.heap[w.heap.size]? =some (.cells #[.slice (some ⟨b,0,none⟩) n1 cap,.slice a2 n2 c2,.slice a3 n3 c3] 26 (0,0)):=(n.block _ (Array.getElem?_eq_some_iff.1 hd).1 (by simp;omega)).trans hd
  obtain ⟨k0,k1,k2,k3⟩:=cells3 J;by_cases aT:k<n2
  ·have ay:(k:Int)<n2:=by omega
   have aa:k<d1.2.1.length:=by have:=E2.o;omega
   obtain ⟨gw,rfl,a0,q0,vv,q1,q2⟩:=(O2.o.grown n t).at k aa;obtain ⟨p1,p2,p3⟩:=sH (yG.o _ (List.getElem_mem aa));obtain ⟨gp,cp,rfl,_⟩:=Ze q2 (by omega);obtain ⟨q,ab⟩:∃q:Nat,(d1.2.1[k]).1=(q:Int):=⟨(d1.2.1[k]).1.toNat,by omega⟩;obtain ⟨LB,ac⟩:=ai ((d1.2.1[k]).2);have aH:=ag (show d1.2.1[k]=((q:Int),LB) by rw [<-ab,ac]);rw [ab] at q0 p1 p2;rw [<-ac] at p3 q2 q1;rw [p3] at q1 q2
   have hq:q<cnt:=by omega
   have LF:=ag p3;have aJ:=ag q2;have aK:=ag (qy5 d1.1 d1.2.1 k cnt (E1.o.trans uz.o) yG.o);clear q2 p1 p2 p3 ab ac k3;have hK:aL (fun a=>(a.cell? ⟨w.heap.size,0,none⟩=some (.slice (some ⟨b,0,none⟩) n1 cap)∧a.cell? ⟨w.heap.size,1,none⟩=some (.slice (some ⟨gw,0,none⟩) n2 c2)∧a.cell? ⟨w.heap.size,2,none⟩=some (.slice a3 n3 c3))∧(a.cell? ⟨gw,k*2,none⟩=some (.int .i64 q)∧a.cell? ⟨gw,k*2+1,none⟩=some (.slice (some ⟨gp,0,none⟩) 128 cp))):=((aR _ _).and ((aR _ _).and (aR _ _))).and ((aR _ _).and (aR _ _));go_wp2;refine gH hK (by kernel_rfl) ⟨⟨k0,k1,k2⟩,q0,q1⟩ ?_
   intro f;refine dm [0,1,2,3,4,5] (fuel:=1) (a':=?lM) (by kernel_rfl) (by kernel_rfl) (by kernel_rfl) ?fU f ?lN
   case fU=>
    iterate 6 (apply Yl.cons rfl (by kernel_rfl);focus (rintro a ⟨⟨x1,x2,x3⟩,x4,x5⟩;go_simp<;>with_reducible rfl);try simp only [az])
    exact Yl.nil
   refine nZ (i:=6) (R:=fun v wy=>v=.tuple #[]∧wr.drew.grownBy wy (some b)∧aX wy w0.heap.size (.slice (some ⟨b,0,none⟩) n1 cap) (nM (mg d1.1 (d1.2.1.take k)) (q,LB))) rfl (by kernel_rfl) (by rfl) (by obtain ⟨⟨x1,x2,x3⟩,x4,x5⟩:=f;go_simp) ((qaau w0.heap.size B b gp n1 cap cp cnt q (mg d1.1 (d1.2.1.take k)) LB (.slice (some ⟨gw,0,none⟩) n2 c2) (.slice a3 n3 c3) wr.drew (ho.o.a aG) t (aJ.o.a aG) aK.o ap hq LF.o).mono fun e wy ⟨h1,h2,h3⟩=>⟨_,h1,rfl,h2,h3⟩) ?_
   rintro a1 w9 ⟨rfl,D,bN⟩;have bO:(fun a=>(a.cell? ⟨w.heap.size,0,none⟩=some (.slice (some ⟨b,0,none⟩) n1 cap)∧a.cell? ⟨w.heap.size,1,none⟩=some (.slice (some ⟨gw,0,none⟩) n2 c2)∧a.cell? ⟨w.heap.size,2,none⟩=some (.slice a3 n3 c3))∧(a.cell? ⟨gw,k*2,none⟩=some (.int .i64 q)∧a.cell? ⟨gw,k*2+1,none⟩=some (.slice (some ⟨gp,0,none⟩) 128 cp))) w9:=by
    obtain ⟨⟨x1,x2,x3⟩,x4,x5⟩:=f;exact ⟨⟨D.cell x1 (by simp;omega),D.cell x2 (by simp;omega),D.cell x3 (by simp;omega)⟩,D.cell x4 (by simp;omega),D.cell x5 (by simp;omega)⟩
   refine ⟨bO, ?_⟩;clear f;have f:=bO;try simp only [az]
   refine wpAnyH_done (by kernel_rfl) ?_ _
   refine NoPanic.normal ?_
   have aM:=ag (show aX w9 w0.heap.size (.slice (some ⟨b,0,none⟩) n1 cap) (mg d1.1 (d1.2.1.take (k+1))) by rw [qy4 _ _ _ aa,aH.o];exact bN);have aN:=nP (nP n (Vv (xB (Below.refl wr.heap.size wr).drew) (some b))) D;clear f bO bN D hK;go_wp2;go_roundw
   case rel=>exact ⟨k+1,by omega,by go_num,aM.o,aN⟩
   case measure=>simp [intOf]<;>omega
  ·have ay:decide ((k:Int)<n2)=false:=aA (by omega)
   have A:aX wr w0.heap.size (.slice (some ⟨b,0,none⟩) n1 cap) (mg d1.1 d1.2.1):=by
    have:=ho.o
    rwa [List.take_of_length_le (by have:=E2.o;omega)] at this
   obtain ⟨wt,Cj,aD,C⟩:=Nl (.slice none 0 0) J;have ad:wr.heap[w.heap.size+2]? =some (.cells #[.slice none 0 0,.slice none 0 0,.slice none 0 0] 26 (0,0)):=(n.block _ (Array.getElem?_eq_some_iff.1 aw).1 (by simp;omega)).trans aw
   have GD:wt.heap[w.heap.size+2]? =some (.cells #[.slice none 0 0,.slice none 0 0,.slice none 0 0] 26 (0,0)):=(C.block _ (Array.getElem?_eq_some_iff.1 ad).1 (by simp)).trans ad
   have al:ah w0 wr:=ax.grown n ax.size (fun j g=>by cases g;exact hB);have am:ah w0 wt:=al.grown C al.size (fun j g=>by cases g;exact lT);have an:(mg d1.1 d1.2.1).length=n1:=by
    have:=A.len
    omega
   have rO:=ag (A.keptT C (fun j g=>by cases g;exact ⟨_,_,_,J,by decide⟩));have nC:=ag ((O3.o.grown n t).keptT C (fun j g=>by cases g;exact ⟨_,_,_,J,by decide,by decide⟩));have aO:B<=wt.heap.size:=aC H (aC n.size C.size);obtain ⟨m0,m1,m2,m3⟩:=cells3 aD;obtain ⟨wu,a4,Em,O⟩:=ou (.slice (some ⟨b,0,none⟩) n1 cap) (.slice none 0 0) (.slice a3 n3 c3) GD;obtain ⟨z1,z2,z3,z4⟩:=cells3 GD;obtain ⟨q1,q2,q3,q4⟩:=cells3 Em;have aP:=am.grown O am.size (fun j g=>by cases g;omega);have yx:=((L.grown n (fun j g=>by cases g;exact .inr (by obtain ⟨cs,hh⟩:=vk O1.o b rfl;exact ⟨cs,_,_,hh,by decide⟩))).grown C (fun j g=>by cases g;exact .inl aI)).grown O (fun j g=>by cases g;exact .inl (by omega));have HV:af (Dv wu w0.heap.size B (.agg #[.slice (some ⟨b,0,none⟩) n1 cap,.slice none 0 0,.slice a3 n3 c3]) (mg d1.1 d1.2.1,[],d1.2.2)):=by
    have h:=Dp.value (gD:=0) (gR:=w.heap.size+2) (ws:=wu) (d:=(mg d1.1 d1.2.1,[],d1.2.2)) (cap:=cap) (a2:=none) (c2:=0) (a3:=a3) (c3:=c3) hB t aO ⟨_,GD⟩ (by dsimp only;rw [an];exact rO.o) ⟨[],rfl,World.ownsRow_nil _ _ _ _,by simp⟩ (by dsimp only;rw [E3.o];exact nC.o) O;dsimp only at h;rw [an,E3.o] at h;exact h
   clear J A aD C ad GD al am an rO nC Em O n ho;go_wp2;refine bodyPost_ret (v:=.tuple #[.agg #[.slice (some ⟨b,0,none⟩) n1 cap,.slice none 0 0,.slice a3 n3 c3],.int .i64 0]) ?_ rfl ?_
   ·simp [results,Tryz.results125,go_sem, *]
   ·exact ⟨_,_,rfl,yx,⟨_,_,_,_,_,_,_,_,_,rfl⟩,aP,.inr ⟨_,congrArg some HR.o,rfl,HV.o⟩⟩
theorem yc (w0:World) (B:Nat) (d:Dk) (v:Value) (s:Bool) (N:Int) (x:au) (m c:Nat) (w:World) (D:Dv w w0.heap.size B v d) (a:ah w0 w) (E:65536<=d.2.2.length∨(s=false∧65536<=d.2.1.length)):
  Calls Tryz.prog 125 #[v,.agg #[.bool s,.int .i64 N,.slice x m c]] w fun e w'=>∃z r,e=.returned (.tuple #[z,.int .i64 r])∧DU w0 w w' B none z r:=by
 obtain ⟨f,cap,a2,c2,a3,c3,rfl,M,F,O,G,H,I⟩:=D;clear G H I;obtain ⟨g,p⟩:=aj (((w.alloc (.cells #[.slice (some ⟨f,0,none⟩) d.1.length cap,.slice a2 d.2.1.length c2,.slice a3 d.2.2.length c3] 26)).alloc (.cells #[.bool s,.int .i64 N,.slice x m c] 151)).alloc (.cells #[.slice none 0 0,.slice none 0 0,.slice none 0 0] 26));have i:ah w g:=by rw [<-p];exact ((ae).alloc (by simp) _).alloc (by simp;omega) _
 have k:g.heap[w.heap.size]? =some (.cells #[.slice (some ⟨f,0,none⟩) d.1.length cap,.slice a2 d.2.1.length c2,.slice a3 d.2.2.length c3] 26 (0,0)):=by
  rw [<-p,heap_alloc_old _ _ (by simp;omega),heap_alloc_old _ _ (by simp)];exact heap_alloc_new _ _
 have l:g.heap[w.heap.size+1]? =some (.cells #[.bool s,.int .i64 N,.slice x m c] 151 (0,0)):=by
  rw [<-p,heap_alloc_old _ _ (by simp)];exact pq _ _ _
 have q:g.heap[w.heap.size+2]? =some (.cells #[.slice none 0 0,.slice none 0 0,.slice none 0 0] 26 (0,0)):=by
  rw [<-p];have:=pq (w.alloc (.cells #[.slice (some ⟨f,0,none⟩) d.1.length cap,.slice a2 d.2.1.length c2,.slice a3 d.2.2.length c3] 26)) (.cells #[.bool s,.int .i64 N,.slice x m c] 151) (.cells #[.slice none 0 0,.slice none 0 0,.slice none 0 0] 26)
  simpa using this
 have t:ah w0 g:=a.trans (i.mono a.size);have J:=a.size;obtain ⟨P,Q,R,_⟩:=cells3 k;obtain ⟨S,T,U,_⟩:=cells3 l;obtain ⟨ws,V,A,b⟩:=ou (.slice (some ⟨f,0,none⟩) d.1.length cap) (.slice a2 d.2.1.length c2) (.slice a3 d.2.2.length c3) q;obtain ⟨W,X,Y,Z⟩:=cells3 q;obtain ⟨q1,q2,q3,q4⟩:=cells3 A;have n:=t.grown b t.size (fun j u=>by cases u;omega);have C:=((KD.refl w).below i).grown b (fun j u=>by cases u;exact .inl (by omega));clear k l q A b t;by_cases K:65536<=d.2.2.length
 ·have y:((65536:Int)<=d.2.2.length)=True:=by simp;omega
  have o:decide ((65536:Int)<=d.2.2.length)=true:=by simp;omega
  go_enter Tryz.func125,Tryz.ntmps125;go_wp2;refine bodyPost_ret (v:=.tuple #[.agg #[.slice (some ⟨f,0,none⟩) d.1.length cap,.slice a2 d.2.1.length c2,.slice a3 d.2.2.length c3],.int .i64 9]) ?_ rfl ?_
  ·simp [results,Tryz.results125,go_sem, *]
  ·exact ⟨_,_,rfl,C,⟨_,_,_,_,_,_,_,_,_,rfl⟩,n,.inl ⟨rfl,rfl⟩⟩
 ·obtain ⟨rfl,h2⟩:s=false∧65536<=d.2.1.length:=by rcases E with h | h;exact absurd h K;exact h
  have L:((65536:Int)<=d.2.1.length)=True:=by simp;omega
  have Ci:decide ((65536:Int)<=d.2.1.length)=true:=by simp;omega
  have y:((65536:Int)<=d.2.2.length)=False:=by simp;omega
  have o:decide ((65536:Int)<=d.2.2.length)=false:=by simp;omega
  go_enter Tryz.func125,Tryz.ntmps125;go_wp2;refine bodyPost_ret (v:=.tuple #[.agg #[.slice (some ⟨f,0,none⟩) d.1.length cap,.slice a2 d.2.1.length c2,.slice a3 d.2.2.length c3],.int .i64 9]) ?_ rfl ?_
  ·simp [results,Tryz.results125,go_sem, *]
  ·exact ⟨_,_,rfl,C,⟨_,_,_,_,_,_,_,_,_,rfl⟩,n,.inl ⟨rfl,rfl⟩⟩
theorem Sv (w0:World) (B cnt:Nat) (d:Dk) (v:Value) (s:Bool) (N:Int) (x:au) (m c:Nat) (l:ak) (w:World) (i:Dv w w0.heap.size B v d) (a:ah w0 w) (f:Rd w0 (.slice x m c) l) (j:m=l.length) (k:l.length<=140737488355328) (o:kJ cnt d) (g:cnt<=4096):
  Calls Tryz.prog 125 #[v,.agg #[.bool s,.int .i64 N,.slice x m c]] w fun e w'=>∃n r,e=.returned (.tuple #[n,.int .i64 r])∧DU w0 w w' B (dX d (s,N,l)) n r:=by
 obtain ⟨p,q,u,t⟩:=o;by_cases b:65536<=d.2.2.length∨(s=false∧65536<=d.2.1.length)
 ·have e:dX d (s,N,l)=none:=by unfold dX;rw [if_pos b]
  rw [e];exact yc w0 B d v s N x m c w i a b
 ·cases s with
  | false=>
   have e:dX d (false,N,l)=some (d.1,d.2.1++[(N,l)],d.2.2++[(false,N,l)]):=by unfold dX;rw [if_neg b];rfl
   rw [e];exact qac8 w0 B d v N x m c l w i a f j k (by have:¬65536<=d.2.1.length:=fun h=>b (.inr ⟨rfl,h⟩);omega) (by have:¬65536<=d.2.2.length:=fun h=>b (.inl h);omega)
  | true=>
   have e:dX d (true,N,l)=some (mg d.1 d.2.1,[],d.2.2++[(true,N,l)]):=by unfold dX;rw [if_neg b];rfl
   rw [e];exact qags w0 B cnt d v N x m c l w i a f j k q (by have:¬65536<=d.2.2.length:=fun h=>b (.inl h);omega) p g t
end Go.Proofs.YthpammbgcidloaaGreat
