/-
  What the document's first and blocks of layer 9 do.
-/
import Derived.Test.YthpammbgcidloaaGreatROne2
set_option maxHeartbeats 4000000
set_option maxRecDepth 100000
namespace Go.Proofs.YthpammbgcidloaaGreat
open Go.RowKit
set_option linter.all false
theorem jL.keptT3 {w w':World} {base g:Nat} {v:Value} {d:Dk} {cs:Array Value} (h:jL w base v d) (f:w.grownBy w' (some g)) (i:w.heap[g]? =some (.cells cs 26 (0,0))):jL w' base v d:=by
 obtain ⟨⟨q,r,j⟩,s,l,m⟩:=Vw;obtain ⟨a,b,c,rfl,n,o,p⟩:=h;exact ⟨a,b,c,rfl,n.keptT f (fun k e=>by cases e;exact ⟨_,_,_,i,j⟩),o.keptT f (fun k e=>by cases e;exact ⟨_,_,_,i,j,l⟩),p.keptT f (fun k e=>by cases e;exact ⟨_,_,_,i,j,m⟩)⟩
def nY (d:Dk) (l:List Ac):Int:=if jD d≠0 then jD d else uV (bq d) l
theorem Gt (d:Dk) (l:List Ac) (a:Int) (h:nY d l≠0):fC d l a=(dz,nY d l):=by
 unfold fC;unfold nY at h ⊢;by_cases b:jD d=0
 ·have c:¬(jD d≠0):=by simpa using b
  simp only [if_neg c] at h ⊢;rw [if_pos h]
 ·rw [if_pos b,if_pos b]
theorem wK (d:Dk) (l:List Ac) (h:nY d l=0):jD d=0∧uV (bq d) l=0:=by
 unfold nY at h;by_cases a:jD d=0
 ·rw [if_neg (by simpa using a)] at h
  exact ⟨a,h⟩
 ·rw [if_pos a] at h;exact absurd h a
theorem Sw (d:Dk) (l:List Ac) (a:Nat) (h:nY d l=0) (e:a<=l.length):fC d l a=(match oh d (l.take a) with | none=>(dz,9) | some x=>(x,0)):=by
 obtain ⟨b,c⟩:=wK d l h;unfold fC;rw [if_neg (by rw [b];decide),if_neg (by rw [c];decide),if_neg (by omega)];rfl
theorem qy6 (n:Int) (l:List Pu) (k:Nat) (a:k<l.length):jk n (l.take (k+1))=if n=(l[k]).1 then some (l[k]).2 else jk n (l.take k):=by
 rw [List.take_succ_eq_append_getElem a,YU]
theorem qxn {n:Int} {l:List Pu} (k:Nat) (a:k<l.length) (h:jk n l=jk n (l.take (k+1))):jk n l=if n=(l[k]).1 then some (l[k]).2 else jk n (l.take k):=h.trans (qy6 n l k a)
theorem OD {d:Dk} {v:Value} (k cnt:Nat) (w:World) (H:RdD w v d) (B:kJ cnt d) (hk:k<cnt) (I:cnt<=4096):
  Calls Tryz.prog 123 #[v,.int .i64 k] w fun e w'=>∃J,e=.returned J∧aX w' w.heap.size J (di d k)∧ah w w':=by
 obtain ⟨K,c1,a2,c2,a3,c3,rfl,L,M,_⟩:=H.form;have W:=ag L;have X:=ag M;have O:=ag B;have Y:d.2.1.length<=65536:=B.2.1;clear H L M B;generalize e1:d.1.length=n1 at *;generalize P:d.2.1.length=n2 at *;generalize Z:d.2.2.length=n3 at *;have E1:=ag e1;have Q:=ag P;clear e1 P Z;obtain ⟨z,A⟩:=aj (w.alloc (.cells #[.slice K n1 c1,.slice a2 n2 c2,.slice a3 n3 c3] 26));have b:ah w z:=by rw [<-A];exact ae
 have k0:z.cell? ⟨w.heap.size,0,none⟩=some (.slice K n1 c1):=by rw [<-A];simp
 have k1:z.cell? ⟨w.heap.size,1,none⟩=some (.slice a2 n2 c2):=by rw [<-A];simp
 have g:=b.size;go_enter Tryz.func123,Tryz.ntmps123;go_wp2;clear A;go_loopw [5] (fun i wr=>∃j:Nat,j<=n2∧i=.int .i64 ((j:Int) - 1)∧af (jk k d.2.1=jk k (d.2.1.take j))∧wr=z) (fun i _=>(intOf i+1).toNat)
 case atStart=>
  refine ⟨n2,Nat.le_refl _,by go_num, ?_,rfl⟩;show _=_
  rw [List.take_of_length_le (by have:=Q.o;omega)]
 case round=>
  obtain ⟨j,hj,rfl,r,rfl⟩:=hrel;cases j with
  | zero=>
   have R:decide ((0:Int)<=((0:Nat):Int) - 1)=false:=by decide
   have C:=ag (show di d k=blk d.1 k by
    unfold di;have:=r.o
    rw [List.take_zero] at this;rw [this];rfl)
   have l:d.1.length=128*cnt:=O.o.1;obtain ⟨b9,o9,rfl,S,aa,n⟩:=yK (W.o.a b) (k*128) (k*128+128) (by omega) (by omega);have T:(d.1.drop (k*128)).take (k*128+128 - k*128)=blk d.1 k:=by
    unfold blk;rw [show k*128+128 - k*128=128 by omega,Nat.mul_comm]
   rw [T] at n;have Cr:n1=128*cnt:=by rw [S];exact l
   have LF:=ag (show (blk d.1 k).length=128 by unfold blk;rw [List.length_take,List.length_drop];omega);have ab:wrap64 ((k:Int)*128)=((k*128:Nat):Int):=by unfold wrap64;omega
   have ac:wrap64 (((k*128:Nat):Int)+128)=((k*128+128:Nat):Int):=by unfold wrap64;omega
   have ad:k*128+128<=n1:=by omega
   have Ee:¬k*128=c1:=by omega
   have al:k*128+128<=c1:=by omega
   obtain ⟨D,w',c,s,f⟩:=Wd wr wr.heap.size aI (.slice none 0 0) [] (World.ownsRow_nil _ _ _ _) _ _ n (by rw [LF.o];decide);have p:ah w w':=b.grown f g (fun q E=>by cases E);have F:=ag ((show aX w' wr.heap.size D (blk d.1 k) from s).mono g);clear r n Cr S l T s f hj;go_wp2_with (at_builtin;go_must (refine Zo wr rfl _ (.tmp 36) 22 rfl (v:=_) (y:=.slice (some ⟨b9,o9+k*128,none⟩) (k*128+128 - k*128) (c1 - k*128)) rfl rfl c ?_))
   go_ret;rw [C.o];exact ⟨_,rfl,F.o,p⟩
  | succ j=>
   have h:j<d.2.1.length:=by have:=Q.o;omega
   have t:(((j+1:Nat):Int) - 1)=(j:Int):=by omega
   rw [t];obtain ⟨b2,o2,rfl,q0,x,m,c',q1,G,U⟩:=(X.o.a b).at j h;have am:(j:Int)<n2:=by omega
   by_cases a:(d.2.1[j]).1=k
   ·have C:=ag (show di d k=(d.2.1[j]).2 by
     unfold di;rw [qxn j h r.o,if_pos a.symm];rfl)
    have u:(d.2.1[j]).2.length=128:=(sH (O.o.2.2.2 _ (List.getElem_mem h))).2.2;rw [a] at q0;obtain ⟨D,w',c,s,f⟩:=Wd wr wr.heap.size aI (.slice none 0 0) [] (World.ownsRow_nil _ _ _ _) _ _ G (by rw [u];decide);have p:ah w w':=b.grown f g (fun q E=>by cases E);have F:=ag ((show aX w' wr.heap.size D (d.2.1[j]).2 from s).mono g);clear r s f G U a u t;go_wp2_with (at_builtin;go_must (refine Zo wr rfl _ (.tmp 27) 22 rfl (v:=_) (y:=.slice x m c') rfl rfl c ?_))
    go_ret;rw [C.o];exact ⟨_,rfl,F.o,p⟩
   ·have HL:=ag (show jk k d.2.1=jk k (d.2.1.take j) by rw [qxn j h r.o,if_neg (fun e=>a e.symm)])
    have V:((d.2.1[j]).1==(k:Int))=false:=by simpa using a
    generalize (d.2.1[j]).1=N at *;clear r G U a;go_wp2;go_roundw
    case rel=>exact ⟨j,by omega,by go_num,HL.o,trivial⟩
    case measure=>simp [intOf]<;>omega
theorem Ql {f:Fsd} (h:bL f) {s:ak} (a:gN f.2.2.1 s=0):il f s=0∧dA f s=0∧aU f s=uD (jR f.2.2.1 s):=by
 obtain ⟨l,c⟩:=(Cv _ _).1 (qn0 a).2.2;have b:=yh h c;exact ⟨b.2.2.1,b.2.2.2.2,by unfold aU;rw [if_neg (by rw [a];decide)]⟩
theorem Ce {f:Fsd} (h:bL f) {s:ak} (a:gN f.2.2.1 s≠0):dA f s=gN f.2.2.1 s∧aU f s=[]:=by
 refine ⟨by unfold dA il;rw [if_neg (by rw [uG h];decide),if_pos a],by unfold aU;rw [if_pos a]⟩
def Cb (f:Fsd) (s:ak):List Int:=if fe f≠0 then [] else aU f s
theorem X0 {f:Fsd} (h:bL f) (s:ak):Cb f s=aU f s:=by unfold Cb;rw [if_neg (by rw [uG h];decide)]
theorem qaks {f:Fsd} (h:fe f≠0) (s:ak):Cb f s=[]:=by unfold Cb;rw [if_pos h]
theorem FL {f:Fsd} (h:fe f≠0) (s:ak):dA f s=fe f∧uF f s=0:=by unfold dA uF;rw [if_pos h,if_pos h];exact ⟨rfl,rfl⟩
theorem Y5 (f:Fsd) (s:ak):uF f s=(Cb f s).length:=by
 unfold uF Cb;by_cases h:fe f≠0
 ·rw [if_pos h,if_pos h];rfl
 ·rw [if_neg h,if_neg h]
theorem Np (x:FsV) (f:Fsd) (s:ak) (w:World) (h:RdX w x f) (N:WfX f):
  Calls Tryz.prog 73 #[x.val,.string (bs s)] w fun e w'=>∃v,e=.returned (.tuple #[v,.int .i64 (dA f s)])∧kL w' w.heap.size v (Cb f s)∧ah w w':=by
 have y:=ag N;have z:=ag h;clear N h;obtain ⟨A,m⟩:=aj (w.alloc (.cells x.cs 32));have n:ah w A:=by rw [<-m];exact ae
 have O:=ag (show bf A w.heap.size x by rw [<-m];exact Bq.new _ _ _);have P:=ag n;clear n;unfold FsV.val;unfold FsV.cs at m;go_enter Tryz.func73,Tryz.ntmps73;obtain ⟨B,C,D,E,F,G⟩:=aV O.o;have b:=XT x f A (z.o.a P.o) y.o;go_wp2_with fail
 try rw [m]
 refine b.mono ?_
 rintro e X ⟨rfl,d⟩;have Q:=ag (O.o.a d);have H:=bT P d;clear b d B C D E F G;try clear m
 rcases (wP f).symm with ⟨_,g⟩ | ⟨p,g⟩
 ·have i:=ag (FL (f:=f) (by rw [g];decide) s)
  have q:=ag (qaks (f:=f) (by rw [g];decide) s);rw [g] at i ⊢;clear g;go_wp2;go_ret2;rw [i.o.1,q.o];exact ⟨_,rfl,World.ownsRow_nil _ _ _ _,H.o⟩
 rw [g];clear g;have t:=ag p;clear p;obtain ⟨B,C,D,E,F,G⟩:=aV Q.o;have b:=qsi _ _ _ f.2.2.1 s X (z.o.fl.a H.o) z.o.n4 y.o.fl;go_wp2_with fail
 refine b.mono ?_
 rintro e I ⟨Y,rfl,j,d⟩;have AY:=ag (Q.o.a d);have Z:=bT H d;clear b d B C D E F G;obtain ⟨u,k⟩:=ai ((nu f.2.2.1 s).2.length);obtain ⟨J,K,e2⟩:∃a c,Y=.slice a u c:=by rw [k];exact j.form
 subst e2;have R:=ag j.rd;have S:=ag k;clear j k;obtain ⟨n9,T⟩:=ai ((nu f.2.2.1 s).1);rw [<-T];clear T;obtain ⟨L,M⟩:=aj (I.alloc (.cells #[.string (bs n9),.slice J u K] 98));have l:ah I L:=by rw [<-M];exact ae
 have U:=bT Z l;have V:=ag (R.o.a l);have k9:L.cell? ⟨I.heap.size,1,none⟩=some (.slice J u K):=by rw [<-M];simp
 clear l R;by_cases g:¬gN f.2.2.1 s=0
 ·have i:=ag (Ce t.o g)
  have q:=ag (X0 t.o s);go_wp2;go_ret2;rw [q.o,i.o.1,i.o.2];exact ⟨_,rfl,World.ownsRow_nil _ _ _ _,by assumption⟩
 rw [Decidable.not_not] at g;have i:=ag (Ql t.o g);have q:=ag (X0 t.o s);rw [qsl g] at V S;rw [g];clear g;have b:=qun J u K (jR f.2.2.1 s) L V.o S.o (Qd y.o.fl s);go_wp2_with fail
 try rw [M]
 refine b.mono ?_
 rintro e w4 ⟨v4,rfl,W,r⟩;have jB:=bT U r;have mD:=ag (W.mono U.o.size);clear r W k9 b;go_wp2;go_ret2;rw [q.o,i.o.2.1,i.o.2.2];exact ⟨_,rfl,mD.o,jB.o⟩
theorem qpa (x:FsV) (f:Fsd) (s:ak) (w:World) (h:RdX w x f) (m:WfX f):
  Calls Tryz.prog 70 #[x.val,.string (bs s)] w fun e w'=>e=.returned (.tuple #[.int .i64 (uF f s),.int .i64 (dA f s)])∧ah w w':=by
 have q:=ag m;have r:=ag h;clear m h;obtain ⟨l,j⟩:=aj (w.alloc (.cells x.cs 32));have k:ah w l:=by rw [<-j];exact ae
 have n:=ag (show bf l w.heap.size x by rw [<-j];exact Bq.new _ _ _);have p:=ag k;clear k;unfold FsV.val;unfold FsV.cs at j;go_enter Tryz.func70,Tryz.ntmps70;obtain ⟨t,u,v,y,z,A⟩:=aV n.o;have b:=Np x f s l (r.o.a p.o) q.o;go_wp2_with fail
 try rw [j]
 refine b.mono ?_
 rintro e G ⟨B,rfl,d,g⟩;have H:=ag (n.o.a g);have C:=bT p g;clear b g t u v y z A;try clear j
 obtain ⟨D,i⟩:=ai ((Cb f s).length);obtain ⟨I,J,E⟩:∃a c,B=.slice a D c:=by rw [i];exact d.rd6.form
 subst E;have K:=ag d.rd6;have F:=ag i;clear d i;go_wp2;go_ret2;rw [Y5,<-F.o];exact ⟨rfl,C.o⟩
theorem S9 {f:Fsd} {s:ak} (h:dA f s≠0) (i:Int):lX f s i=dA f s∧lq f s i=[]:=by
 unfold dA at h ⊢;unfold lX lq;by_cases a:fe f≠0
 ·rw [if_pos a,if_pos a,if_pos a];exact ⟨rfl,rfl⟩
 ·rw [if_neg a] at h
  have e:jl f s i=il f s:=by unfold jl;rw [if_pos h]
  rw [if_neg a,if_neg a,if_neg a,e,if_pos h,if_pos h];exact ⟨rfl,rfl⟩
theorem Sy {f:Fsd} {s:ak} (h:dA f s=0) {i:Int} (b:i<0∨((aU f s).length:Int)<=i):lX f s i=2∧lq f s i=[]:=by
 obtain ⟨a,c,_⟩:=IM h;have e:jl f s i=2:=by unfold jl;rw [if_neg (by rw [c];decide),if_pos b]
 have e0:fe f=0:=by first | exact a | exact uG a
 unfold lX lq;simp [e0,e]
theorem X3 {f:Fsd} {s:ak} (h:dA f s=0):bL f:=by
 rcases wP f with ⟨a,_⟩ | ⟨_,e⟩
 ·exact a
 ·unfold dA at h;rw [if_pos (by rw [e];decide),e] at h;cases h
theorem qadd (x:FsV) (f:Fsd) (s:ak) (i:Int) (w:World) (h:RdX w x f) (Y:WfX f):
  Calls Tryz.prog 71 #[x.val,.string (bs s),.int .i64 i] w fun e w'=>∃v,e=.returned (.tuple #[v,.int .i64 (lX f s i)])∧aX w' w.heap.size v (lq f s i)∧ah w w':=by
 have HW:=ag Y;have Z:=ag h;clear Y h;obtain ⟨D,y⟩:=aj (w.alloc (.cells x.cs 32));have z:ah w D:=by rw [<-y];exact ae
 have oM:=ag (show bf D w.heap.size x by rw [<-y];exact Bq.new _ _ _);have bi:=ag z;clear z;unfold FsV.val;unfold FsV.cs at y;go_enter Tryz.func71,Tryz.ntmps71;obtain ⟨H,I,J,K,L,M⟩:=aV oM.o;have l:=Np x f s D (Z.o.a bi.o) HW.o;go_wp2_with fail
 try rw [y]
 refine l.mono ?_
 rintro e E ⟨v2,rfl,n,b⟩;have lG:=ag (oM.o.a b);have p:=bT bi b;clear l b H I J K L M;try clear y
 obtain ⟨F,q⟩:=ai ((Cb f s).length);obtain ⟨y2,z2,e2⟩:∃a c,v2=.slice a F c:=by rw [q];exact n.rd6.form
 subst e2;have jm:=ag n.rd6;have N:=ag q;clear n q;by_cases t:¬dA f s=0
 ·have m:=ag (S9 t i)
  go_wp2;go_ret2;rw [m.o.1,m.o.2];exact ⟨_,rfl,World.ownsRow_nil _ _ _ _,p.o⟩
 rw [Decidable.not_not] at t;have A:=ag t;have HL:=ag (X0 (X3 t) s);rw [HL.o] at N jm;rw [t];clear t;by_cases g2:i<0
 ·have m:=ag (Sy A.o (.inl g2))
  go_wp2;go_ret2;rw [m.o.1,m.o.2];exact ⟨_,rfl,World.ownsRow_nil _ _ _ _,p.o⟩
 by_cases g3:(F:Int)<=i
 ·have m:=ag (Sy A.o (.inr (by rw [<-N.o];exact g3)))
  go_wp2;go_ret2;rw [m.o.1,m.o.2];exact ⟨_,rfl,World.ownsRow_nil _ _ _ _,p.o⟩
 obtain ⟨k,O⟩:∃k:Nat,(k:Int)=i:=⟨i.toNat,by omega⟩;subst O
 have P:k<(aU f s).length:=by rw [<-N.o];omega
 have aa:decide ((k:Int)<0)=false:=decide_eq_false g2;have ab:decide ((F:Int)<=k)=false:=decide_eq_false g3;have ac:(k:Int)<F:=by omega
 obtain ⟨Q,S,el,B⟩:=jm.o.at6 k P;subst el;have G:=ag (MQ A.o P);have T:=ag (AB A.o _ (List.getElem_mem P));obtain ⟨u,qd⟩:∃u:Nat,(u:Int)=(aU f s)[k]:=⟨((aU f s)[k]).toNat,by have:=T.o.1;omega⟩;rw [<-qd] at B G T;rw [Int.toNat_natCast] at G;clear qd;have xe:=ag (show gu E Q (S+k) (.int .i64 (u:Int)) from B);have C:=ag (kJ.of_ok (ny (X3 A.o)).1);clear B
 go_wp2_with fail
 have U:aL (fun g=>ah E g):=fun D E h hb=>h.trans (hb.mono h.size)
 refine gH U (by kernel_rfl) aB ?_
 intro j;generalize E.drew=wdd at *;refine dm [0,1,2,3,4,5] (fuel:=3) (a':=?iD) (by kernel_rfl) (by kernel_rfl) (by kernel_rfl) ?dn j ?iE
 case dn=>
  iterate 6 (apply Yl.cons rfl (by kernel_rfl);focus (rintro g r;(obtain ⟨H,I,J,K,L,M⟩:=aV (lG.o.a r));have B:g.cell? ⟨Q,S+k,none⟩=some (.int .i64 (u:Int)):=xe.o.a r;clear r;go_simp<;>with_reducible rfl);try simp only [az])
  exact Yl.nil
 refine nZ (i:=6) (R:=fun v g=>aX g w.heap.size v (lq f s k)∧ah wdd g) rfl (by kernel_rfl) (by kernel_rfl) (by go_simp;first | done | rfl) ((OD (d:=f.1) u (bq f.1) wdd (Z.o.d.a (p.o.trans (j.mono p.o.size))) C.o.1 (by have:=T.o.2;omega) C.o.2.2).mono fun e g ⟨v,h1,h2,h3⟩=>by
  rw [G.o.2.2.2];exact ⟨_,h1,h2.mono (aC p.o.size j.size),h3⟩) ?_
 rintro bv wg ⟨QU,b⟩;have V:=U _ _ j b;refine ⟨V, ?_⟩;clear j b;have j:=V;clear V;try simp only [az]
 refine dm [7,8] (fuel:=0) (a':=?lM) (by kernel_rfl) (by kernel_rfl) (by kernel_rfl) ?fU j ?lN
 case fU=>
  iterate 2 (apply Yl.cons rfl (by kernel_rfl);focus (rintro g r;(obtain ⟨H,I,J,K,L,M⟩:=aV (lG.o.a r));have B:g.cell? ⟨Q,S+k,none⟩=some (.int .i64 (u:Int)):=xe.o.a r;clear r;go_simp<;>with_reducible rfl);try simp only [az])
  exact Yl.nil
 refine wpAnyH_done (by kernel_rfl) ?_ _
 refine NoPanic.normal ?_
 try simp only [az]
 have W:=ag QU;have X:=bT p j;clear QU j U;go_wp2;go_ret2;rw [G.o.2.2.1];exact ⟨_,rfl,W.o,X.o⟩
theorem qy7 (n:Nat) (h:n<4294967296):∃a b c d:UInt8,dB n=[a,b,c,d]∧(n:Int) % 256=a.toNat∧(n:Int) / 256 % 256=b.toNat∧(n:Int) / 65536 % 256=c.toNat∧(n:Int) / 16777216=d.toNat:=by
 refine ⟨_,_,_,_,rfl, ?_, ?_, ?_, ?_⟩<;>simp only [UInt8.toNat_ofNat']<;>omega
theorem X4 {w:World} {g n c:Nat} {l:ak} (h:Rd w (.slice (some ⟨g,0,none⟩) n c) l) (j:Nat) (a:j<l.length):w.cell? ⟨g,j,none⟩=some (.int .u8 (l[j]).toNat):=by
 rcases h with ⟨rfl,_⟩ | ⟨b,d,i,e,k,m,f⟩
 ·simp at a
 ·cases e
  have:=f j a
  rwa [Nat.zero_add] at this
theorem l6 (x:Nat) (w:World) (A:x<4294967296):
  Calls Tryz.prog 31 #[.int .u32 x] w fun e w'=>∃v,e=.returned v∧aX w' w.heap.size v (headW x)∧ah w w':=by
 obtain ⟨c,B,a,b⟩:=qus w;obtain ⟨h,i,l,m,d,e0,e1,F,G⟩:=qy7 x A;obtain ⟨n,p⟩:=aX.stored a 0 h;obtain ⟨q,r⟩:=aX.stored n 1 i;obtain ⟨s,t⟩:=aX.stored q 2 l;obtain ⟨y,z⟩:=aX.stored s 3 m;have g:=nP (nP (nP p r) t) z;have C:=ag (show aX _ w.heap.size (.slice (some ⟨w.heap.size,0,none⟩) 128 128) (headW x) from by
  have e:((((List.replicate 128 (0:UInt8)).set 0 h).set 1 i).set 2 l).set 3 m=headW x:=by
   unfold headW;rw [d];rfl
  rw [<-e];exact y)
 have D:=ag (show ah w _ from b.grown g b.size (by intro k E;cases E;exact Nat.le_refl _));have c0:∃u,c.cell? ⟨w.heap.size,0,none⟩=some u:=⟨_,X4 a.rd 0 (by simp)⟩;have c1:∃u,c.cell? ⟨w.heap.size,1,none⟩=some u:=⟨_,X4 a.rd 1 (by simp)⟩;have c2:∃u,c.cell? ⟨w.heap.size,2,none⟩=some u:=⟨_,X4 a.rd 2 (by simp)⟩;have c3:∃u,c.cell? ⟨w.heap.size,3,none⟩=some u:=⟨_,X4 a.rd 3 (by simp)⟩;obtain ⟨u0,c0⟩:=c0;obtain ⟨u1,c1⟩:=c1;obtain ⟨u2,c2⟩:=c2;obtain ⟨u3,c3⟩:=c3
 have f:∀j,c.frozen? ⟨w.heap.size,j,none⟩=false:=fun j=>World.ownsRow.frozenAt a j
 have H:=f 0;have I:=f 1;have J:=f 2;have K:=f 3;clear a b n q s y p r t z g d f;go_enter Tryz.func31,Tryz.ntmps31;go_wp2;go_ret;exact ⟨_,rfl,C.o,D.o⟩
theorem qkl (x:FsV) (f:Fsd) (s:ak) (w:World) (h:RdX w x f) (P:WfX f):
  Calls Tryz.prog 28 #[x.val,.string (bs s)] w fun e w'=>∃v,e=.returned (.tuple #[v,.int .i64 (dA f s)])∧bu w' w.heap.size v (bE f s)∧ah w w':=by
 have Q:=ag P;clear P;obtain ⟨B,t⟩:=aj (w.alloc (.cells x.cs 32));have p:ah w B:=by rw [<-t];exact ae
 have R:=ag (show bf B w.heap.size x by rw [<-t];exact Bq.new _ _ _);obtain ⟨C,D,E,F,G,H⟩:=aV R.o;have S:=ag h;have T:=ag p;clear h p;unfold FsV.val;unfold FsV.cs at t;go_enter Tryz.func28,Tryz.ntmps28;go_wp2_with fail
 refine (qpa x f s B (S.o.a T.o) Q.o).mono ?_
 rintro e w2 ⟨rfl,j⟩;have mO:=ag (R.o.a j);have U:=bT T j;clear C D E F G H t j;by_cases d:dA f s=0
 ·have V:=ag d
  obtain ⟨m,u⟩:=ai ((bE f s).length);have Cn:m<=4096:=by rw [u];exact uP f s
  have I:=ag u;rw [d,Rm d,<-u];clear d u;go_wp2;go_loopw [9,8] (fun i v wr=>∃k:Nat,k<=m∧i=.int .i64 k∧af (bu wr (w.heap.size+1) v ((bE f s).take k))∧af (bf wr w.heap.size x)∧af (ah w wr)) (fun i _ _=>m - (intOf i).toNat)
  case atStart=>exact ⟨0,Nat.zero_le _,rfl,ag (by simpa using bu.nil _ _),mO,U⟩
  case round=>
   obtain ⟨k,hk,rfl,a,y,q⟩:=hrel;by_cases J:k<m
   ·have W:(k:Int)<m:=by omega
    have K:=ag (show ((bE f s).take k).length=k by rw [List.length_take,<-I.o];omega);have r:k<(bE f s).length:=by rw [<-I.o];exact J
    have L:=ag (show (bE f s).take (k+1)=(bE f s).take k++[(bE f s)[k]] from List.take_succ_eq_append_getElem r);obtain ⟨av,cv,X⟩:=a.o.form;rw [K.o] at X;subst X;obtain ⟨C,D,E,F,G,H⟩:=aV y.o;have M:=ag (qxg V.o r);go_wp2_with fail
    refine (qadd x f s k wr (S.o.a q.o) Q.o).mono ?_
    rintro e w3 ⟨v3,rfl,c,b⟩;obtain ⟨Y,l⟩:=ai ((bE f s)[k]);rw [M.o.2,<-l] at c;rw [M.o.1];rw [<-l] at L;obtain ⟨y3,z3,rfl⟩:=c.form;have n:w.heap.size+1<=wr.heap.size:=by have:=y.o.lt;omega
    obtain ⟨g9,c9,w9,g,A,N⟩:=Qr (a.o.a b) (aC n b.size) (by rw [K.o];omega) y3 Y.length z3 Y (c.mono n);rw [K.o] at g A;rw [<-L.o] at A;have jT:=ag A;have Z:=y.o.a b;have yH:=ag (Z.below (by omega) N);have lh:=ag ((q.o.trans (b.mono q.o.size)).trans (N.mono (by omega)));clear A N c b a y Z q l C D E F G H M L n;go_wp2_with (at_builtin;refine zh rfl (.tmp 33) (.tmp 35) 42 rfl rfl rfl rfl g ?_)
    go_roundw
    case rel=>exact ⟨k+1,by omega,by go_num,jT,yH,lh⟩
    case measure=>simp only [intOf];omega
   ·have hd:decide ((k:Int)<m)=false:=aA (by omega)
    have HO:=ag (show bu wr (w.heap.size+1) _ (bE f s) by
     have:=a.o
     rwa [List.take_of_length_le (by rw [<-I.o];omega)] at this)
    clear a;go_wp2;go_ret2;exact ⟨_,by rw [V.o];rfl,HO.o.mono (by omega),q.o⟩
 ·have HZ:=ag (Rn d)
  obtain ⟨z,hz⟩:=ai (uF f s);obtain ⟨e,O⟩:=ai (dA f s);rw [<-O] at d ⊢;rw [<-hz];have ge:(e==0)=false:=by simpa using d
  have XD:=ag O;clear hz O d;go_wp2;go_ret2;exact ⟨_,by rw [<-XD.o];rfl,by rw [HZ.o];exact bu.nil _ _,U.o⟩
end Go.Proofs.YthpammbgcidloaaGreat
