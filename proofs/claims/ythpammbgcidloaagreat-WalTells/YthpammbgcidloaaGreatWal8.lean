/-
  What wal's Append does.
-/
import Derived.Test.YthpammbgcidloaaGreatWal5
set_option maxHeartbeats 8000000
set_option maxRecDepth 100000
namespace Go.Proofs.YthpammbgcidloaaGreat
open Go.RowKit
set_option linter.all false
def Dy (w:World) (q:Nat):Prop:=∃y0 y1 y2,Bq w q 26 #[y0,y1,y2]
theorem Dy.a {w w':World} {r:Nat} (h:Dy w r) (hb:ah w w'):Dy w' r:=by
 obtain ⟨a,b,c,h⟩:=h;exact ⟨a,b,c,h.a hb⟩
theorem Dy.new (w:World):Dy (w.alloc (.cells #[.slice none 0 0,.slice none 0 0,.slice none 0 0] 26)) w.heap.size:=⟨_,_,_,Bq.new _ _ _⟩
def ab7:List Fl:=[([97],[(34,1)])]
def ma (x:ak):Fsd:=((x,[],[]),1,ab7,[])
section
variable {x:ak}
end
def gu (w:World) (b o:Nat) (v:Value):Prop:=w.cell? ⟨b,o,none⟩=some v
theorem gu.a {w w':World} {b o:Nat} {v:Value} (h:gu w b o v) (hb:ah w w'):gu w' b o v:=aR _ _ _ _ h hb
theorem IZ {f:Fsd} (h:bL f):WfX f:=by
 have d:=((qp f.1).1 (ny h).1).2.2.1;have c:=(zW (qw8 h)).2;refine ⟨(qry h).2, ?_, ?_⟩
 ·intro g a x b
  have:=Ct (Du h).2.2.1 x ((MP a).subset b)
  unfold wfX;omega
 ·intro g a x b
  have:=Ct c.2.2.1 x ((MP a).subset b)
  unfold wfX;omega
def kV (w0 w:World):Prop:=ah w0 w
theorem kV.refl (w:World):kV w w:=aB
theorem kV.a {w0 w w':World} (h:kV w0 w) (hb:ah w w'):kV w0 w':=Below.trans h (hb.mono (Below.size h))
theorem kV.size {w0 w:World} (h:kV w0 w):w0.heap.size<=w.heap.size:=Below.size h
theorem FE {x y:FsV} (h:x.val=y.val):x=y:=by
 cases x;cases y;simp at h
 simp [h];omega
def yj (w wr:World) (x xk:FsV) (f d:Fsd):Prop:=(xk=x∧d=f)∨aW wr w.heap.size xk.val d
theorem yj.rd {w wr:World} {x a:FsV} {f d:Fsd} (h:yj w wr x a f d) (b:RdX w x f) (hb:ah w wr):RdX wr a d:=by
 rcases h with ⟨rfl,rfl⟩ | h
 ·exact b.a hb
 ·obtain ⟨y,e,c,_⟩:=h.bx
  have:a=y:=FE e
  rw [this];exact c
theorem XH {f:Fsd} {s:ak} {eU:Int} {l:List (ak)} (hw:WfX f):∀k,(j6 f s eU l k).2=0->WfX (j6 f s eU l k).1
 | 0,_=>hw
 | k+1,h=>by
  rw [j6] at h ⊢;by_cases a:(j6 f s eU l k).2=0
  ·rw [if_neg (fun e=>e a)] at h ⊢
   exact IZ (qxc h).1
  ·rw [if_pos a] at h;exact absurd h a
theorem qs7 {f:Fsd} {s:ak} {eU:Int} {l:List (ak)} {k:Nat} (a:(j6 f s eU l k).2=0) (b:k<l.length):j6 f s eU l (k+1)=jM (j6 f s eU l k).1 s (eU+k) l[k]:=by
 rw [j6,if_neg (fun e=>e a),List.getD_eq_getElem?_getD,List.getElem?_eq_getElem b];rfl
theorem qxi {f:Fsd} {s:ak} {eU:Int} {l:List (ak)} {k:Nat} (a:¬(j6 f s eU l k).2=0) (b:k<=l.length):uO f s eU l=j6 f s eU l k:=by
 have:=qs1 a (l.length - k)
 unfold uO;rw [<-this];congr 1;omega
theorem Ru (eU k:Nat) (a:eU<=100000) (b:k<=100000):wrap64 ((eU:Int)+(k:Int))=(eU:Int)+(k:Int)∧wrap64 ((k:Int)+1)=((k+1:Nat):Int)∧IntKind.i64.wrap ((eU:Int)+(k:Int))=(eU:Int)+(k:Int):=by
 refine ⟨by unfold wrap64;omega,by unfold wrap64;omega,by rw [IntKind.wrap_i64];omega⟩
theorem qakh (x:FsV) (f:Fsd) (s:ak) (eU:Nat) (a:au) (n c:Nat) (l:List (ak)) (w:World) (h:RdX w x f) (hw:WfX f) (hl:jC w (.slice a n c) l) (ha:eU<=100000) (lJ:n<=100000):
  Calls Tryz.prog 39 #[x.val,.string (bs s),.int .i64 eU,.slice a n c] w fun e w'=>∃y:FsV,e=.returned (.tuple #[y.val,.int .i64 (uO f s eU l).2])∧yj w w' x y f (uO f s eU l).1∧ah w w':=by
 have HX:=ag h;have HW:=ag hw;have HL:=ag hl;have HN:=ag hl.le.1;have q0:ah w (w.alloc (.cells x.cs 32)):=ae;have G:(w.alloc (.cells x.cs 32)).heap.size=w.heap.size+1:=by simp
 obtain ⟨H,X⟩:=aj ((w.alloc (.cells x.cs 32)).alloc (.cells #[.slice none 0 0,.slice none 0 0,.slice none 0 0,.int .u32 0,.slice none 0 0,.slice none 0 0] 32));have q1:Below (w.alloc (.cells x.cs 32)).heap.size (w.alloc (.cells x.cs 32)) H:=by rw [<-X];exact ae
 have fG:=ag (show bf H w.heap.size x from (Bq.new w 32 x.cs).a q1);have EX:=ag (show dE H (w.heap.size+1) by rw [<-X,<-G];exact dE.new _);have bi:=ag (show ah w H from q0.trans (q1.mono (by omega)));obtain ⟨k0,k1,k2,k3,k4,k5⟩:=aV fG.o;obtain ⟨b,m⟩:=EX.o.put x;obtain ⟨⟨d0,e0⟩,⟨d1,e1⟩,⟨d2,I⟩,⟨d3,e3⟩,⟨d4,e4⟩,⟨d5,e5⟩,d⟩:=EX.o.cells;have J:=d 0;have K:=d 1;have L:=d 2;have M:=d 3;have N:=d 4;have O:=d 5;obtain ⟨w2,Y⟩:=aj (aY H (w.heap.size+1) x);rw [Y] at b m;have mO:=ag b;have bg:=ag (show ah w w2 from bi.o.grown m bi.o.size (by intro k Z;cases Z;omega));unfold aY at Y;have P:=ag Y;clear h hw hl q0 q1 G b m d Y;unfold FsV.val;unfold FsV.cs at X;go_enter Tryz.func39,Tryz.ntmps39;go_wp2;rw [P.o];clear k0 k1 k2 k3 k4 k5 e0 e1 I e3 e4 e5 J K L M N O X P;go_loopw [10,9] (fun i e wr=>∃(k:Nat) (p:FsV),k<=n∧i=.int .i64 k∧e=.int .i64 (j6 f s eU l k).2∧af (bf wr (w.heap.size+1) p)∧af (yj w wr x p f (j6 f s eU l k).1)∧af (ah w wr)) (fun i _ _=>n - (intOf i).toNat)
 case atStart=>exact ⟨0,x,Nat.zero_le _,rfl,rfl,mO,ag (.inl ⟨rfl,rfl⟩),bg⟩
 case round=>
  obtain ⟨k,p,Z,rfl,rfl,g,hP,t⟩:=hrel;obtain ⟨E,hE⟩:=ai ((j6 f s eU l k).2);have Q:=ag hE;rw [<-hE];clear hE;by_cases u:k<n∧E=0
  ·obtain ⟨A,aa⟩:=u
   subst aa;have am:(k:Int)<n:=by omega
   have S:k<l.length:=by rw [<-HN.o];exact A
   obtain ⟨⟨F9,E9⟩,h9⟩:∃D:Fsd × Int,D=j6 f s eU l (k+1):=⟨_,rfl⟩;have rP:=ag h9;have B:=qs7 (f:=f) (s:=s) (eU:=eU) Q.o.symm S;rw [<-h9] at B;obtain ⟨rb,ro,ry,rz,rfl,T,U⟩:=HL.o.at k S;have EY:=ag (show gu wr rb (ro+k) (.slice ry (l[k]).length rz) from gu.a T t.o);have ab:=ag (U.a t.o)
   have pU:=ag (show ∀j:World,kV wr j->Calls Tryz.prog 24 #[p.val,.string (bs s),.int .i64 ((eU:Int)+(k:Int)),.slice ry (l[k]).length rz] j fun e w'=>∃v,e=.returned (.tuple #[v,.int .i64 E9])∧aW w' j.heap.size v F9∧ah j w' by
    intro j hx;have hh:=Q6 p (j6 f s eU l k).1 s ((eU:Int)+(k:Int)) ry (l[k]).length rz l[k] j ((hP.o.rd HX.o t.o).a hx) (XH HW.o k Q.o.symm) (ab.o.a hx);rw [<-B] at hh;exact hh)
   obtain ⟨a1,a2,a3⟩:=Ru eU k ha (by omega);have ac:=g.o;clear T U h9 B hP Q;go_wp2;have V:aL (fun j=>bf j (w.heap.size+1) p∧kV wr j):=fun _ _ h hb=>⟨h.1.a hb,h.2.a hb⟩
   refine rH V 13 (by kernel_rfl) ⟨g.o,kV.refl wr⟩ ?_
   intro z;clear ac g;generalize wr.drew=wd at *;refine pg [0,1,2,3,4,5,6,7,8] (fuel:=6) (a':=?iD) (by kernel_rfl) (by kernel_rfl) (by kernel_rfl) ?dn z ?iE
   case dn=>
    iterate 9 (apply Yl.cons rfl (by kernel_rfl);focus (rintro j ⟨x1,x2⟩;obtain ⟨j0,j1,j2,j3,j4,j5⟩:=aV x1;(have r1:j.cell? ⟨rb,ro+k,none⟩=some (.slice ry (l[k]).length rz):=gu.a EY.o x2);go_simp<;>with_reducible rfl);try simp only [az])
    exact Yl.nil
   refine Yz V (i:=9) (R:=fun v wy=>∃y:FsV,v=.tuple #[y.val,.int .i64 E9]∧aW wy w.heap.size y.val F9) rfl (by kernel_rfl) (by rfl) (by go_simp) z ((pU.o wd (z.2)).mono fun e wy ⟨v,h1,h2,h3⟩=>by obtain ⟨y,ey,_,h4⟩:=h2.bx;subst ey;exact ⟨_,h1,⟨y,rfl,h4.mono (aC t.o.size (kV.size z.2))⟩,h3⟩) (fun v _ _ ⟨y,h,h'⟩ hb=>⟨y,h,h'.a hb⟩) ?_
   intro an ad W jK eY;clear V z;have V:=W;have z:=eY;clear W eY;obtain ⟨y9,rfl,bN⟩:=jK;try simp only [az]
   refine pg [10,11] (fuel:=3) (a':=?lM) (by kernel_rfl) (by kernel_rfl) (by kernel_rfl) ?fU z ?lN
   case fU=>
    iterate 2 (apply Yl.cons rfl (by kernel_rfl);focus (rintro j ⟨⟨x1,x2⟩,_⟩;go_simp<;>with_reducible rfl);try simp only [az])
    exact Yl.nil
   refine Vm (i:=12) (v:=?qpv12) rfl (by kernel_rfl) (by kernel_rfl) (by kernel_rfl) rfl (by rfl) ?Rv (fun _=>z) ?qpr12
   case Rv=>(intro j;go_simp<;>with_reducible rfl)
   try simp only [az]
   obtain ⟨⟨s1,s2⟩, -⟩:=z;have q:=bN.assign (dE.of s1) (w0:=w) (t.o.trans (Below.mono s2 t.o.size)) (by omega);obtain ⟨⟨d0,e0⟩,⟨d1,e1⟩,⟨d2,I⟩,⟨d3,e3⟩,⟨d4,e4⟩,⟨d5,e5⟩,d⟩:=(dE.of s1).cells;have J:=d 0;have K:=d 1;have L:=d 2;have M:=d 3;have N:=d 4;have O:=d 5;obtain ⟨ws,r⟩:=aj (aY ad (w.heap.size+1) y9);rw [r] at q;have C:=ag q;unfold aY at r;clear d s1 s2 q bN;refine rJ (i:=13) (w':=ws) rfl (by kernel_rfl) (by kernel_rfl) (by rfl) (by rw [<-r];go_simp) ?_
   clear r e0 e1 I e3 e4 e5 J K L M N O;try simp only [az]
   refine Vm (i:=14) (v:=?qpv14) rfl (by kernel_rfl) (by kernel_rfl) (by kernel_rfl) rfl (by rfl) ?Rw (fun h=>absurd h (by decide)) ?qpr14
   case Rw=>(intro j;go_simp<;>with_reducible rfl)
   try simp only [az]
   refine rM (by kernel_rfl) ?_ _
   refine NoPanic.normal ?_
   try simp only [az]
   clear V;go_wp2;go_roundw
   case rel=>exact ⟨k+1,y9,by omega,rfl,by rw [<-rP.o],ag C.o.2.2.1,ag (.inr (by rw [<-rP.o];exact C.o.1)),ag C.o.2.1⟩
   case measure=>simp only [intOf];omega
  ·have q:=g.o
   obtain ⟨j0,j1,j2,j3,j4,j5⟩:=aV g.o;have J:=g.o.fz 0;have K:=g.o.fz 1;have L:=g.o.fz 2;have M:=g.o.fz 3;have N:=g.o.fz 4;have O:=g.o.fz 5;obtain ⟨b,m⟩:=(dE.of g.o).put p;obtain ⟨ws,r⟩:=aj (aY wr (w.heap.size+1) p);have vO:=ag (show ah w ws∧yj w ws x p f (j6 f s eU l k).1 by
    have wM:ah w ws:=by rw [<-r];exact t.o.grown m t.o.size (by intro k Z;cases Z;omega)
    refine ⟨wM, ?_⟩;rcases hP.o with ⟨e1,I⟩ | hO
    ·exact .inl ⟨e1,I⟩
    ·have h4:=(hO.assign (dE.of g.o) (w0:=w) t.o (by omega)).1
     rw [r] at h4;exact .inr h4)
   rw [r] at b;have al:=ag b;unfold aY at r;have oq:=ag r;have kU:=ag (show uO f s eU l=j6 f s eU l k by
    by_cases h0:E=0
    ·have:k=l.length:=by have:=HN.o;have:¬k<n:=fun h=>u ⟨h,h0⟩;omega
     rw [this];rfl
    ·exact qxi (by rw [<-Q.o];exact h0) (by have:=HN.o;omega))
   have F:(¬k<n∧decide ((k:Int)<n)=false)∨(k<n∧(k:Int)<n∧(E==0)=false):=by
    by_cases h1:k<n
    ·exact .inr ⟨h1,by omega,by simpa using fun h=>u ⟨h1,h⟩⟩
    ·exact .inl ⟨h1,decide_eq_false (by omega)⟩
   clear u q b m r hP g;rcases F with ⟨A,g1⟩ | ⟨A,g1,g2⟩
   all_goals
    go_wp2;rw [oq.o];obtain ⟨p0,p1,p2,p3,p4,p5⟩:=aV al.o;clear oq j0 j1 j2 j3 j4 j5 J K L M N O g1;refine bodyPost_ret (v:=.tuple #[p.val,.int .i64 E]) ?_ rfl ⟨p, ?_, ?_,vO.o.1⟩
    ·simp [results,Tryz.results39,go_sem,p0,p1,p2,p3,p4,p5]
    ·rw [kU.o,<-Q.o]
    ·rw [kU.o];exact vO.o.2
def o8 (w:World) (r:Nat):Prop:=∃v0 v1 v2 v3 v4 v5,Bq w r 34 #[v0,v1,v2,v3,v4,v5]
theorem o8.a {w w':World} {r:Nat} (h:o8 w r) (hb:ah w w'):o8 w' r:=by
 obtain ⟨a,b,c,d,e,f,h⟩:=h;exact ⟨a,b,c,d,e,f,h.a hb⟩
theorem o8.grown {w w':World} {r p:Nat} (h:o8 w r) (b:w.grownBy w' (some p)) (a:r≠p):o8 w' r:=by
 obtain ⟨c,d,e,f,g,i,h⟩:=h;exact ⟨c,d,e,f,g,i,h.grown b a⟩
theorem o8.new (w:World):o8 (w.alloc (.cells #[.string ⟨#[]⟩,.int .u32 0,.int .i64 0,.int .u32 0,.int .u32 0,.int .i64 0] 34)) w.heap.size:=⟨_,_,_,_,_,_,Bq.new _ _ _⟩
theorem zk (e:Int) (w:World):
  Calls Tryz.prog 21 #[.int .i64 e] w fun x w'=>x=.returned (.tuple #[.agg #[.slice none 0 0,.slice none 0 0,.slice none 0 0,.int .u32 0,.slice none 0 0,.slice none 0 0],.agg #[.string ⟨#[]⟩,.int .u32 0,.int .i64 0,.int .u32 0,.int .u32 0,.int .i64 0],.int .i64 e])∧ah w w':=by
 have n:ah w (w.alloc (.cells #[.slice none 0 0,.slice none 0 0,.slice none 0 0,.int .u32 0,.slice none 0 0,.slice none 0 0] 32)):=ae;have c:(w.alloc (.cells #[.slice none 0 0,.slice none 0 0,.slice none 0 0,.int .u32 0,.slice none 0 0,.slice none 0 0] 32)).heap.size=w.heap.size+1:=by simp
 obtain ⟨d,p⟩:=aj ((w.alloc (.cells #[.slice none 0 0,.slice none 0 0,.slice none 0 0,.int .u32 0,.slice none 0 0,.slice none 0 0] 32)).alloc (.cells #[.string ⟨#[]⟩,.int .u32 0,.int .i64 0,.int .u32 0,.int .u32 0,.int .i64 0] 34));have h:Below (w.alloc (.cells #[.slice none 0 0,.slice none 0 0,.slice none 0 0,.int .u32 0,.slice none 0 0,.slice none 0 0] 32)).heap.size (w.alloc (.cells #[.slice none 0 0,.slice none 0 0,.slice none 0 0,.int .u32 0,.slice none 0 0,.slice none 0 0] 32)) d:=by rw [<-p];exact ae
 have q:dE d w.heap.size:=(dE.new w).a h;have y:o8 d (w.heap.size+1):=by rw [<-p,<-c];exact ⟨_,_,_,_,_,_,Bq.new _ _ _⟩
 have i:=ag (show ah w d from n.trans (h.mono (by omega)));clear n h c;obtain ⟨⟨P,e0⟩,⟨d1,e1⟩,⟨d2,Q⟩,⟨R,S⟩,⟨T,U⟩,⟨V,W⟩,b⟩:=q.cells;have X:=b 0;have Y:=b 1;have Z:=b 2;have f3:=b 3;have f4:=b 4;have f5:=b 5;obtain ⟨_,_,_,_,_,_,r⟩:=q;obtain ⟨j,f⟩:=aa0 r;obtain ⟨z,s⟩:=ab0 d (w.heap.size);rw [s] at j f;obtain ⟨_,_,_,_,_,_,t⟩:=y;have a:=t.grown f (by omega);obtain ⟨c0,c1,c2,c3,c4,c5⟩:=cu a;have g0:=a.fz 0;have g1:=a.fz 1;have g2:=a.fz 2;have g3:=a.fz 3;have g4:=a.fz 4;have g5:=a.fz 5;obtain ⟨l,g⟩:=ac0 a;obtain ⟨ws,u⟩:=ae0 z (w.heap.size+1);rw [u] at l g;have A:=ag (j.grown g (by omega));have B:=ag l;have C:=ag (show ah w ws from (i.o.grown f i.o.size (by intro k m;cases m;omega)).grown g (aC i.o.size f.size) (by intro k m;cases m;omega));unfold bV at s u;go_enter Tryz.func21,Tryz.ntmps21;clear j f l g a r t b;go_wp2;obtain ⟨D,E,F,G,H,I⟩:=cu A.o;obtain ⟨J,K,L,M,N,O⟩:=cu B.o;refine bodyPost_ret (v:=.tuple #[.agg #[.slice none 0 0,.slice none 0 0,.slice none 0 0,.int .u32 0,.slice none 0 0,.slice none 0 0],.agg #[.string ⟨#[]⟩,.int .u32 0,.int .i64 0,.int .u32 0,.int .u32 0,.int .i64 0],.int .i64 e]) ?_ rfl ⟨rfl,C.o⟩
 ·simp [results,Tryz.results21,go_sem,D,E,F,G,H,I,J,K,L,M,N,O]
structure tK (w wx:World) (xk:FsV) (W:Wl):Prop where
 f:bf wx w.heap.size xk
 l:iw wx (w.heap.size+1) W
 r:dE wx (w.heap.size+2)
 q:o8 wx (w.heap.size+2+1)
 b:ah w wx
theorem tK.a {w a c:World} {d:FsV} {W:Wl} (h:tK w a d W) (hb:ah a c):tK w c d W:=⟨h.f.a hb,h.l.a hb,h.r.a hb,h.q.a hb,h.b.trans (hb.mono h.b.size)⟩
theorem tK.set {w c:World} {d:FsV} {W:Wl} (h:tK w c d W) (y:FsV):tK w (aY c w.heap.size y) y W∧c.grownBy (aY c w.heap.size y) (some w.heap.size):=by
 obtain ⟨e,a⟩:=(dE.of h.f).put y;exact ⟨⟨e,h.l.grown a (by omega),h.r.grown a (by omega),h.q.grown a (by omega),h.b.grown a h.b.size (by intro k g;cases g;exact Nat.le_refl _)⟩,a⟩
structure yl (w wx:World) (xk:FsV):Prop where
 f:bf wx w.heap.size xk
 r:dE wx (w.heap.size+1)
 q:o8 wx (w.heap.size+1+1)
 b:ah w wx
theorem yl.a {w a c:World} {d:FsV} (h:yl w a d) (hb:ah a c):yl w c d:=⟨h.f.a hb,h.r.a hb,h.q.a hb,h.b.trans (hb.mono h.b.size)⟩
theorem yl.set {w a:World} {d:FsV} (h:yl w a d) (y:FsV):yl w (aY a w.heap.size y) y∧a.grownBy (aY a w.heap.size y) (some w.heap.size):=by
 obtain ⟨e,c⟩:=(dE.of h.f).put y;exact ⟨⟨e,h.r.grown c (by omega),h.q.grown c (by omega),h.b.grown c h.b.size (by intro k g;cases g;exact Nat.le_refl _)⟩,c⟩
theorem tK.start (w:World) (x:FsV) (W:Wl):tK w ((((w.alloc (.cells x.cs 32)).alloc (.cells (o7 W) 34)).alloc (.cells #[.slice none 0 0,.slice none 0 0,.slice none 0 0,.int .u32 0,.slice none 0 0,.slice none 0 0] 32)).alloc (.cells #[.string ⟨#[]⟩,.int .u32 0,.int .i64 0,.int .u32 0,.int .u32 0,.int .i64 0] 34)) x W:=by
 have e:(w.alloc (.cells x.cs 32)).heap.size=w.heap.size+1:=by simp
 have f:((w.alloc (.cells x.cs 32)).alloc (.cells (o7 W) 34)).heap.size=w.heap.size+2:=by simp
 have g:(((w.alloc (.cells x.cs 32)).alloc (.cells (o7 W) 34)).alloc (.cells #[.slice none 0 0,.slice none 0 0,.slice none 0 0,.int .u32 0,.slice none 0 0,.slice none 0 0] 32)).heap.size=w.heap.size+2+1:=by simp
 have a:∀(u:World) (o:Obj),ah u (u.alloc o):=fun u o=>ae
 have h:=a w (.cells x.cs 32);have d:=a (w.alloc (.cells x.cs 32)) (.cells (o7 W) 34);have c:=a ((w.alloc (.cells x.cs 32)).alloc (.cells (o7 W) 34)) (.cells #[.slice none 0 0,.slice none 0 0,.slice none 0 0,.int .u32 0,.slice none 0 0,.slice none 0 0] 32);have b:=a (((w.alloc (.cells x.cs 32)).alloc (.cells (o7 W) 34)).alloc (.cells #[.slice none 0 0,.slice none 0 0,.slice none 0 0,.int .u32 0,.slice none 0 0,.slice none 0 0] 32)) (.cells #[.string ⟨#[]⟩,.int .u32 0,.int .i64 0,.int .u32 0,.int .u32 0,.int .i64 0] 34);have i:bf _ w.heap.size x:=Bq.new w 32 x.cs;have j:iw _ (w.heap.size+1) W:=e ▸ Bq.new (w.alloc (.cells x.cs 32)) 34 (o7 W);have k:dE _ (w.heap.size+2):=f ▸ dE.new ((w.alloc (.cells x.cs 32)).alloc (.cells (o7 W) 34));have l:o8 _ (w.heap.size+2+1):=g ▸ o8.new (((w.alloc (.cells x.cs 32)).alloc (.cells (o7 W) 34)).alloc (.cells #[.slice none 0 0,.slice none 0 0,.slice none 0 0,.int .u32 0,.slice none 0 0,.slice none 0 0] 32));exact ⟨((i.a d).a c).a b,(j.a c).a b,k.a b,l,((h.trans (d.mono (by omega))).trans (c.mono (by omega))).trans (b.mono (by omega))⟩
theorem yl.start (w:World) (x:FsV):yl w (((w.alloc (.cells x.cs 32)).alloc (.cells #[.slice none 0 0,.slice none 0 0,.slice none 0 0,.int .u32 0,.slice none 0 0,.slice none 0 0] 32)).alloc (.cells #[.string ⟨#[]⟩,.int .u32 0,.int .i64 0,.int .u32 0,.int .u32 0,.int .i64 0] 34)) x:=by
 have d:(w.alloc (.cells x.cs 32)).heap.size=w.heap.size+1:=by simp
 have e:((w.alloc (.cells x.cs 32)).alloc (.cells #[.slice none 0 0,.slice none 0 0,.slice none 0 0,.int .u32 0,.slice none 0 0,.slice none 0 0] 32)).heap.size=w.heap.size+1+1:=by simp
 have a:∀(u:World) (o:Obj),ah u (u.alloc o):=fun u o=>ae
 have f:=a w (.cells x.cs 32);have c:=a (w.alloc (.cells x.cs 32)) (.cells #[.slice none 0 0,.slice none 0 0,.slice none 0 0,.int .u32 0,.slice none 0 0,.slice none 0 0] 32);have b:=a ((w.alloc (.cells x.cs 32)).alloc (.cells #[.slice none 0 0,.slice none 0 0,.slice none 0 0,.int .u32 0,.slice none 0 0,.slice none 0 0] 32)) (.cells #[.string ⟨#[]⟩,.int .u32 0,.int .i64 0,.int .u32 0,.int .u32 0,.int .i64 0] 34);have g:bf _ w.heap.size x:=Bq.new w 32 x.cs;have h:dE _ (w.heap.size+1):=d ▸ dE.new (w.alloc (.cells x.cs 32));have i:o8 _ (w.heap.size+1+1):=e ▸ o8.new ((w.alloc (.cells x.cs 32)).alloc (.cells #[.slice none 0 0,.slice none 0 0,.slice none 0 0,.int .u32 0,.slice none 0 0,.slice none 0 0] 32));exact ⟨(g.a c).a b,h.a b,i,(f.trans (c.mono (by omega))).trans (b.mono (by omega))⟩
theorem I1 {f:Fsd} {W:Wl} {r:ak} (h:¬fM f W=0):appW f W r=(fz,wz,fM f W):=by
 have e:kF f W r=(fz,fM f W):=by unfold kF;rw [if_pos h]
 unfold appW;rw [e,if_pos h]
theorem I4 {f:Fsd} {W:Wl} {r:ak} (a:fM f W=0) (h:¬lm W r=0):appW f W r=(fz,wz,lm W r):=by
 have e:kF f W r=(fz,lm W r):=by unfold kF;rw [if_neg (fun e=>e a),if_pos h]
 unfold appW;rw [e,if_pos h]
theorem Rx {f:Fsd} {W:Wl} {r:ak} (a:fM f W=0) (b:lm W r=0) (h:gP f W<((lF W r).length:Int)):appW f W r=(fz,wz,90):=by
 have e:kF f W r=(fz,90):=by unfold kF;rw [if_neg (fun e=>e a),if_neg (fun e=>e b),if_pos h]
 unfold appW;rw [e,if_pos (by show ¬(90:Int)=0;decide)]
theorem Ry {f:Fsd} {W:Wl} {r:ak} (a:fM f W=0) (b:lm W r=0) (c:((lF W r).length:Int)<=gP f W) {P:Fsd × Int} (d:P=uO f W.1 (1+(W.2.2.2.2.2:Int)) (lF W r)) (h:¬P.2=0):appW f W r=(fz,wz,P.2):=by
 have e:kF f W r=(fz,P.2):=by unfold kF;rw [if_neg (fun e=>e a),if_neg (fun e=>e b),if_neg (Int.not_lt.2 c),<-d,if_pos h]
 unfold appW;rw [e,if_pos h]
theorem Rz {f:Fsd} {W:Wl} {r:ak} (a:fM f W=0) (b:lm W r=0) (c:((lF W r).length:Int)<=gP f W) {P:Fsd × Int} (d:P=uO f W.1 (1+(W.2.2.2.2.2:Int)) (lF W r)) (g:P.2=0) (h:¬(jc P.1).2=0):appW f W r=(fz,wz,(jc P.1).2):=by
 have e:kF f W r=(fz,(jc P.1).2):=by unfold kF;rw [if_neg (fun e=>e a),if_neg (fun e=>e b),if_neg (Int.not_lt.2 c),<-d,if_neg (fun e=>e g),if_pos h]
 unfold appW;rw [e,if_pos h]
theorem RA {f:Fsd} {W:Wl} {r:ak} (a:fM f W=0) (b:lm W r=0) (c:((lF W r).length:Int)<=gP f W) {P:Fsd × Int} (d:P=uO f W.1 (1+(W.2.2.2.2.2:Int)) (lF W r)) (g:P.2=0) (h:(jc P.1).2=0):appW f W r=((jc P.1).1,fP (jc P.1).1 W.1,gZ (jc P.1).1 W.1):=by
 have e:kF f W r=jc P.1:=by unfold kF;rw [if_neg (fun e=>e a),if_neg (fun e=>e b),if_neg (Int.not_lt.2 c),<-d,if_neg (fun e=>e g),if_neg (fun e=>e h)]
 unfold appW;rw [e,if_neg (fun e=>e h)]
theorem XI {f:Fsd} {W:Wl} (h:fM f W=0):gZ f W.1=0∧fP f W.1=W:=by
 have b:gZ f W.1=0:=by
  by_cases a:gZ f W.1=0
  ·exact a
  ·rw [(Rt a).1] at h;exact absurd h a
 exact ⟨b,Classical.byContradiction fun a=>by rw [(qs5 b a).1] at h;cases h⟩
theorem I5 {f:Fsd} {W:Wl} (h:fM f W=0):W.2.1<4294967296∧W.2.2.1<=1000000∧W.2.2.2.1<4294967296∧W.2.2.2.2.1<4294967296∧W.2.2.2.2.2<=4096:=by
 obtain ⟨b,c⟩:=XI h;have a:=xL W.1 (bE f W.1) (uP _ _);rw [<-(MS b).2.2.2.1,c] at a;have:=uP f W.1
 exact ⟨a.1,by omega,a.2.2.1,a.2.2.2.1,by omega⟩
theorem RB {f:Fsd} (h:(jc f).2=0):WfX (jc f).1:=IZ (qxd h).2.1
theorem qo8 {W:Wl} {r:ak} (h:lm W r=0):(lF W r).length<=154:=by
 unfold lF;rw [if_neg (fun e=>e h),BV];refine qqi _ ?_
 unfold lm at h;split at h
 ·cases h
 ·omega
theorem qyz (x:FsV) (f:Fsd) (W:Wl) (ar:au) (nr cr:Nat) (r:ak) (w:World) (h:RdX w x f) (hw:WfX f) (hr:Rd w (.slice ar nr cr) r) (hn:nr=r.length):
  Calls Tryz.prog 10 #[x.val,pR W,.slice ar nr cr] w fun e w'=>∃v,e=.returned (.tuple #[v,pR (appW f W r).2.1,.int .i64 (appW f W r).2.2])∧aW w' w.heap.size v (appW f W r).1∧ah w w':=by
 have HW:=ag hw;have HX:=ag h;have HR:=ag hr;have HN:=ag hn;obtain ⟨w1,ew⟩:=aj ((((w.alloc (.cells x.cs 32)).alloc (.cells (o7 W) 34)).alloc (.cells #[.slice none 0 0,.slice none 0 0,.slice none 0 0,.int .u32 0,.slice none 0 0,.slice none 0 0] 32)).alloc (.cells #[.string ⟨#[]⟩,.int .u32 0,.int .i64 0,.int .u32 0,.int .u32 0,.int .i64 0] 34));have eO:=ag (show tK w w1 x W by rw [<-ew];exact tK.start w x W);clear h hw hr hn;unfold FsV.val;unfold FsV.cs o7 at ew;obtain ⟨gJ,A,C,fT,gy,gK⟩:=aV eO.o.f;obtain ⟨m,n,p,s,t,j⟩:=jJ eO.o.l;go_enter Tryz.func10,Tryz.ntmps10;go_wp2_with fail
 try rw [ew]
 refine (qyy x f W w1 (HX.o.a eO.o.b) HW.o).mono ?_
 rintro e w2 ⟨rfl,am⟩;have fo:=ag (eO.o.a am);clear am ew gJ A C fT gy gK m n p s t j;by_cases d:¬fM f W=0
 ·have L:=ag (show appW f W r=(fz,wz,fM f W) by exact I1 d)
  obtain ⟨e,N⟩:=ai (fM f W);have iB:=ag N;rw [<-N] at d ⊢;have ge:(e==0)=false:=by simpa using d
  clear N d;go_wp2_with fail
  refine (zk _ w2).mono ?_
  rintro e' wc ⟨rfl,u⟩;have D:=fo.o.a u;have R:=D.r;have gQ:=D.q;have H:=ag D.b;try clear m n p s t j
  try clear gJ A C fT gy gK
  clear D u;obtain ⟨⟨d0,e0⟩,⟨d1,e1⟩,⟨d2,e2⟩,⟨d3,e3⟩,⟨d4,e4⟩,⟨d5,e5⟩,c⟩:=R.cells;have S:=c 0;have T:=c 1;have U:=c 2;have X:=c 3;have Y:=c 4;have Z:=c 5;obtain ⟨_,_,_,_,_,_,dN⟩:=R;obtain ⟨I,y⟩:=aa0 dN;obtain ⟨w8,e8⟩:=ab0 wc (w.heap.size+2);rw [e8] at I y;obtain ⟨_,_,_,_,_,_,dO⟩:=gQ;have a:=dO.grown y (by omega);obtain ⟨c0,c1,c2,c3,c4,c5⟩:=cu a;have g0:=a.fz 0;have d:=a.fz 1;have g2:=a.fz 2;have g3:=a.fz 3;have g4:=a.fz 4;have g5:=a.fz 5;obtain ⟨J,F⟩:=ac0 a;obtain ⟨ws,es⟩:=ae0 w8 (w.heap.size+2+1);rw [es] at J F;have gF:=ag (I.grown F (by omega));have gG:=ag J;have eX:=ag (show ah w ws from (H.o.grown y H.o.size (by intro k G;cases G;omega)).grown F (aC H.o.size y.size) (by intro k G;cases G;omega));unfold bV at e8 es;clear I y J F a dN dO c;go_wp2;obtain ⟨p0,p1,p2,p3,p4,p5⟩:=cu gF.o;obtain ⟨r0,r1,r2,r3,r4,r5⟩:=cu gG.o;refine bodyPost_ret (v:=.tuple #[.agg #[.slice none 0 0,.slice none 0 0,.slice none 0 0,.int .u32 0,.slice none 0 0,.slice none 0 0],.agg #[.string ⟨#[]⟩,.int .u32 0,.int .i64 0,.int .u32 0,.int .u32 0,.int .i64 0],.int .i64 e]) ?_ rfl ⟨.agg #[.slice none 0 0,.slice none 0 0,.slice none 0 0,.int .u32 0,.slice none 0 0,.slice none 0 0], ?_, ?_,eX.o⟩
  ·simp [results,Tryz.results10,go_sem,p0,p1,p2,p3,p4,p5,r0,r1,r2,r3,r4,r5]
  ·rw [L.o,<-iB.o];rfl
  ·rw [L.o];exact jO _ _
 rw [Decidable.not_not] at d;rw [d];have fF:=ag d;have mK:=ag (I5 d);obtain ⟨fr,ac⟩:=ai (gP f W);have yP:=ag ac;rw [<-ac];clear d ac;obtain ⟨m,n,p,s,t,j⟩:=jJ fo.o.l;go_wp2_with fail
 refine (Gv W ar nr cr r w2 (HR.o.a fo.o.b) HN.o mK.o.1 mK.o.2.1 mK.o.2.2.1 mK.o.2.2.2.1).mono ?_
 rintro e w3 ⟨v3,rfl,an,ao⟩;have pM:=ag (fo.o.a ao);have nC:=ag an;clear ao an m n p s t j;by_cases d:¬lm W r=0
 ·have L:=ag (show appW f W r=(fz,wz,lm W r) by exact I4 fF.o d)
  obtain ⟨e,N⟩:=ai (lm W r);have iB:=ag N;rw [<-N] at d ⊢;have ge:(e==0)=false:=by simpa using d
  clear N d;go_wp2_with fail
  refine (zk _ w3).mono ?_
  rintro e' wc ⟨rfl,u⟩;have D:=pM.o.a u;have R:=D.r;have gQ:=D.q;have H:=ag D.b;try clear m n p s t j
  try clear gJ A C fT gy gK
  clear D u;obtain ⟨⟨d0,e0⟩,⟨d1,e1⟩,⟨d2,e2⟩,⟨d3,e3⟩,⟨d4,e4⟩,⟨d5,e5⟩,c⟩:=R.cells;have S:=c 0;have T:=c 1;have U:=c 2;have X:=c 3;have Y:=c 4;have Z:=c 5;obtain ⟨_,_,_,_,_,_,dN⟩:=R;obtain ⟨I,y⟩:=aa0 dN;obtain ⟨w8,e8⟩:=ab0 wc (w.heap.size+2);rw [e8] at I y;obtain ⟨_,_,_,_,_,_,dO⟩:=gQ;have a:=dO.grown y (by omega);obtain ⟨c0,c1,c2,c3,c4,c5⟩:=cu a;have g0:=a.fz 0;have d:=a.fz 1;have g2:=a.fz 2;have g3:=a.fz 3;have g4:=a.fz 4;have g5:=a.fz 5;obtain ⟨J,F⟩:=ac0 a;obtain ⟨ws,es⟩:=ae0 w8 (w.heap.size+2+1);rw [es] at J F;have gF:=ag (I.grown F (by omega));have gG:=ag J;have eX:=ag (show ah w ws from (H.o.grown y H.o.size (by intro k G;cases G;omega)).grown F (aC H.o.size y.size) (by intro k G;cases G;omega));unfold bV at e8 es;clear I y J F a dN dO c;go_wp2;obtain ⟨p0,p1,p2,p3,p4,p5⟩:=cu gF.o;obtain ⟨r0,r1,r2,r3,r4,r5⟩:=cu gG.o;refine bodyPost_ret (v:=.tuple #[.agg #[.slice none 0 0,.slice none 0 0,.slice none 0 0,.int .u32 0,.slice none 0 0,.slice none 0 0],.agg #[.string ⟨#[]⟩,.int .u32 0,.int .i64 0,.int .u32 0,.int .u32 0,.int .i64 0],.int .i64 e]) ?_ rfl ⟨.agg #[.slice none 0 0,.slice none 0 0,.slice none 0 0,.int .u32 0,.slice none 0 0,.slice none 0 0], ?_, ?_,eX.o⟩
  ·simp [results,Tryz.results10,go_sem,p0,p1,p2,p3,p4,p5,r0,r1,r2,r3,r4,r5]
  ·rw [L.o,<-iB.o];rfl
  ·rw [L.o];exact jO _ _
 rw [Decidable.not_not] at d;rw [d];have ab:=ag d;have aF:=ag (qo8 d);clear d;obtain ⟨a3,c3,rfl⟩:=nC.o.form;obtain ⟨n3,mI⟩:=ai ((lF W r).length);have Xq:=ag mI;rw [<-mI] at nC ⊢;have I6:=ag nC.o.rdL;have lJ:n3<=154:=by rw [mI];exact aF.o
 clear mI;by_cases d:fr<n3
 ·have L:=ag (Rx (r:=r) fF.o ab.o (by rw [<-yP.o,<-Xq.o];exact d))
  go_wp2_with fail
  refine (zk _ w3).mono ?_
  rintro e' wc ⟨rfl,u⟩;have D:=pM.o.a u;have R:=D.r;have gQ:=D.q;have H:=ag D.b;try clear m n p s t j
  try clear gJ A C fT gy gK
  clear D u;obtain ⟨⟨d0,e0⟩,⟨d1,e1⟩,⟨d2,e2⟩,⟨d3,e3⟩,⟨d4,e4⟩,⟨d5,e5⟩,c⟩:=R.cells;have S:=c 0;have T:=c 1;have U:=c 2;have X:=c 3;have Y:=c 4;have Z:=c 5;obtain ⟨_,_,_,_,_,_,dN⟩:=R;obtain ⟨I,y⟩:=aa0 dN;obtain ⟨w8,e8⟩:=ab0 wc (w.heap.size+2);rw [e8] at I y;obtain ⟨_,_,_,_,_,_,dO⟩:=gQ;have a:=dO.grown y (by omega);obtain ⟨c0,c1,c2,c3,c4,c5⟩:=cu a;have g0:=a.fz 0;have d:=a.fz 1;have g2:=a.fz 2;have g3:=a.fz 3;have g4:=a.fz 4;have g5:=a.fz 5;obtain ⟨J,F⟩:=ac0 a;obtain ⟨ws,es⟩:=ae0 w8 (w.heap.size+2+1);rw [es] at J F;have gF:=ag (I.grown F (by omega));have gG:=ag J;have eX:=ag (show ah w ws from (H.o.grown y H.o.size (by intro k G;cases G;omega)).grown F (aC H.o.size y.size) (by intro k G;cases G;omega));unfold bV at e8 es;clear I y J F a dN dO c;go_wp2;obtain ⟨p0,p1,p2,p3,p4,p5⟩:=cu gF.o;obtain ⟨r0,r1,r2,r3,r4,r5⟩:=cu gG.o;refine bodyPost_ret (v:=.tuple #[.agg #[.slice none 0 0,.slice none 0 0,.slice none 0 0,.int .u32 0,.slice none 0 0,.slice none 0 0],.agg #[.string ⟨#[]⟩,.int .u32 0,.int .i64 0,.int .u32 0,.int .u32 0,.int .i64 0],.int .i64 90]) ?_ rfl ⟨.agg #[.slice none 0 0,.slice none 0 0,.slice none 0 0,.int .u32 0,.slice none 0 0,.slice none 0 0], ?_, ?_,eX.o⟩
  ·simp [results,Tryz.results10,go_sem,p0,p1,p2,p3,p4,p5,r0,r1,r2,r3,r4,r5]
  ·rw [L.o];rfl
  ·rw [L.o];exact jO _ _
 have aS:decide (fr<(n3:Int))=false:=decide_eq_false d;have qH:=ag (show ((lF W r).length:Int)<=gP f W by rw [<-yP.o,<-Xq.o];exact Int.not_lt.1 d);clear d;obtain ⟨B,hB⟩:=ai W.2.2.2.2.2;have aT:B<=4096:=by rw [hB];exact mK.o.2.2.2.2
 have Xt:wrap64 (1+(B:Int))=((1+B:Nat):Int):=by unfold wrap64;omega
 have aa:=qakh x f W.1 (1+B) a3 n3 c3 (lF W r) w3 (HX.o.a pM.o.b) HW.o I6.o (by omega) (by omega);have eB:((1+B:Nat):Int)=1+(W.2.2.2.2.2:Int):=by rw [<-hB];omega
 obtain ⟨P,hP⟩:∃P:Fsd × Int,P=uO f W.1 ((1+B:Nat):Int) (lF W r):=⟨_,rfl⟩;rw [<-hP] at aa;rw [eB] at hP;have mh:=ag hP;have cz:=ag aa;obtain ⟨gJ,A,C,fT,gy,gK⟩:=aV pM.o.f;obtain ⟨m,n,p,s,t,j⟩:=jJ pM.o.l;rw [<-hB] at j;clear aa hP eB hB
 go_wp2_with fail
 refine cz.o.mono ?_
 rintro e w4 ⟨y4,rfl,ap,aq⟩;have RD:=pM.o.a aq;obtain ⟨RF,g⟩:=RD.set y4;have ad:=(show RdX (aY w4 w.heap.size y4) y4 P.1 by
  rcases ap with ⟨e1,e2⟩ | hO
  ·rw [e1,e2];rw [e1] at RF;exact HX.o.a RF.b
  ·exact (hO.assign (dE.of RD.f) (w0:=w) RD.b aI).2.2.2.1)
 obtain ⟨⟨d0,e0⟩,⟨d1,e1⟩,⟨d2,e2⟩,⟨d3,e3⟩,⟨d4,e4⟩,⟨d5,e5⟩,c⟩:=(dE.of RD.f).cells;have S:=c 0;have T:=c 1;have U:=c 2;have X:=c 3;have Y:=c 4;have Z:=c 5;obtain ⟨w5,al⟩:=aj (aY w4 w.heap.size y4);rw [al] at RF g ad;have Dz:=ag RF;have aH:=ag ad;unfold aY at al;clear RD RF g ad c aq ap Xt gJ A C fT gy gK m n p s t j;by_cases d:¬P.2=0
 ·have L:=ag (show appW f W r=(fz,wz,P.2) by exact Ry fF.o ab.o qH.o mh.o d)
  obtain ⟨e,N⟩:=ai P.2;have iB:=ag N;rw [<-N] at d ⊢;have ge:(e==0)=false:=by simpa using d
  clear N d;go_wp2_with fail
  refine (zk _ w5).mono ?_
  rintro e' wc ⟨rfl,u⟩;have D:=Dz.o.a u;have R:=D.r;have gQ:=D.q;have H:=ag D.b;try clear m n p s t j
  try clear gJ A C fT gy gK
  clear D u;obtain ⟨⟨d0,e0⟩,⟨d1,e1⟩,⟨d2,e2⟩,⟨d3,e3⟩,⟨d4,e4⟩,⟨d5,e5⟩,c⟩:=R.cells;have S:=c 0;have T:=c 1;have U:=c 2;have X:=c 3;have Y:=c 4;have Z:=c 5;obtain ⟨_,_,_,_,_,_,dN⟩:=R;obtain ⟨I,y⟩:=aa0 dN;obtain ⟨w8,e8⟩:=ab0 wc (w.heap.size+2);rw [e8] at I y;obtain ⟨_,_,_,_,_,_,dO⟩:=gQ;have a:=dO.grown y (by omega);obtain ⟨c0,c1,c2,c3,c4,c5⟩:=cu a;have g0:=a.fz 0;have d:=a.fz 1;have g2:=a.fz 2;have g3:=a.fz 3;have g4:=a.fz 4;have g5:=a.fz 5;obtain ⟨J,F⟩:=ac0 a;obtain ⟨ws,es⟩:=ae0 w8 (w.heap.size+2+1);rw [es] at J F;have gF:=ag (I.grown F (by omega));have gG:=ag J;have eX:=ag (show ah w ws from (H.o.grown y H.o.size (by intro k G;cases G;omega)).grown F (aC H.o.size y.size) (by intro k G;cases G;omega));unfold bV at e8 es;clear I y J F a dN dO c;go_wp2;obtain ⟨p0,p1,p2,p3,p4,p5⟩:=cu gF.o;obtain ⟨r0,r1,r2,r3,r4,r5⟩:=cu gG.o;refine bodyPost_ret (v:=.tuple #[.agg #[.slice none 0 0,.slice none 0 0,.slice none 0 0,.int .u32 0,.slice none 0 0,.slice none 0 0],.agg #[.string ⟨#[]⟩,.int .u32 0,.int .i64 0,.int .u32 0,.int .u32 0,.int .i64 0],.int .i64 e]) ?_ rfl ⟨.agg #[.slice none 0 0,.slice none 0 0,.slice none 0 0,.int .u32 0,.slice none 0 0,.slice none 0 0], ?_, ?_,eX.o⟩
  ·simp [results,Tryz.results10,go_sem,p0,p1,p2,p3,p4,p5,r0,r1,r2,r3,r4,r5]
  ·rw [L.o,<-iB.o];rfl
  ·rw [L.o];exact jO _ _
 rw [Decidable.not_not] at d;rw [d];have ym:=ag d;have aK:=ag (show WfX P.1 by rw [mh.o];exact XH HW.o _ (by have:=d;rw [mh.o] at this;exact this));clear d;obtain ⟨gJ,A,C,fT,gy,gK⟩:=aV Dz.o.f;go_wp2_with fail
 refine (Y4 y4 P.1 w5 aH.o aK.o).mono ?_
 rintro e w6 ⟨v6,rfl,lu,av⟩;obtain ⟨O,e6,aN,BZ⟩:=lu.bx;subst e6;have si:=Dz.o.a av;obtain ⟨I7,g⟩:=si.set O;have mi:=(BZ.assign (dE.of si.f) (w0:=w) si.b aI);clear al e0 e1 e2 e3 e4 e5 S T U X Y Z d0 d1 d2 d3 d4 d5;obtain ⟨⟨d0,e0⟩,⟨d1,e1⟩,⟨d2,e2⟩,⟨d3,e3⟩,⟨d4,e4⟩,⟨d5,e5⟩,c⟩:=(dE.of si.f).cells;have S:=c 0;have T:=c 1;have U:=c 2;have X:=c 3;have Y:=c 4;have Z:=c 5;obtain ⟨w7,oH⟩:=aj (aY w6 w.heap.size O);rw [oH] at I7 g mi;have qR:=ag I7;have aw:w.heap.size<=w5.heap.size:=Dz.o.b.size;have RG:=ag (mi.1.mono aw);have DC:=ag mi.2.2.2.1;unfold aY at oH;unfold FsV.val;clear si I7 g mi c av lu aN BZ aw gJ A C fT gy gK;by_cases d:¬(jc P.1).2=0
 ·have L:=ag (show appW f W r=(fz,wz,(jc P.1).2) by exact Rz fF.o ab.o qH.o mh.o ym.o d)
  obtain ⟨e,N⟩:=ai ((jc P.1).2);have iB:=ag N;rw [<-N] at d ⊢;have ge:(e==0)=false:=by simpa using d
  clear N d;go_wp2_with fail
  refine (zk _ w7).mono ?_
  rintro e' wc ⟨rfl,u⟩;have D:=qR.o.a u;have R:=D.r;have gQ:=D.q;have H:=ag D.b;try clear m n p s t j
  try clear gJ A C fT gy gK
  clear D u;obtain ⟨⟨d0,e0⟩,⟨d1,e1⟩,⟨d2,e2⟩,⟨d3,e3⟩,⟨d4,e4⟩,⟨d5,e5⟩,c⟩:=R.cells;have S:=c 0;have T:=c 1;have U:=c 2;have X:=c 3;have Y:=c 4;have Z:=c 5;obtain ⟨_,_,_,_,_,_,dN⟩:=R;obtain ⟨I,y⟩:=aa0 dN;obtain ⟨w8,e8⟩:=ab0 wc (w.heap.size+2);rw [e8] at I y;obtain ⟨_,_,_,_,_,_,dO⟩:=gQ;have a:=dO.grown y (by omega);obtain ⟨c0,c1,c2,c3,c4,c5⟩:=cu a;have g0:=a.fz 0;have d:=a.fz 1;have g2:=a.fz 2;have g3:=a.fz 3;have g4:=a.fz 4;have g5:=a.fz 5;obtain ⟨J,F⟩:=ac0 a;obtain ⟨ws,es⟩:=ae0 w8 (w.heap.size+2+1);rw [es] at J F;have gF:=ag (I.grown F (by omega));have gG:=ag J;have eX:=ag (show ah w ws from (H.o.grown y H.o.size (by intro k G;cases G;omega)).grown F (aC H.o.size y.size) (by intro k G;cases G;omega));unfold bV at e8 es;clear I y J F a dN dO c;go_wp2;obtain ⟨p0,p1,p2,p3,p4,p5⟩:=cu gF.o;obtain ⟨r0,r1,r2,r3,r4,r5⟩:=cu gG.o;refine bodyPost_ret (v:=.tuple #[.agg #[.slice none 0 0,.slice none 0 0,.slice none 0 0,.int .u32 0,.slice none 0 0,.slice none 0 0],.agg #[.string ⟨#[]⟩,.int .u32 0,.int .i64 0,.int .u32 0,.int .u32 0,.int .i64 0],.int .i64 e]) ?_ rfl ⟨.agg #[.slice none 0 0,.slice none 0 0,.slice none 0 0,.int .u32 0,.slice none 0 0,.slice none 0 0], ?_, ?_,eX.o⟩
  ·simp [results,Tryz.results10,go_sem,p0,p1,p2,p3,p4,p5,r0,r1,r2,r3,r4,r5]
  ·rw [L.o,<-iB.o];rfl
  ·rw [L.o];exact jO _ _
 rw [Decidable.not_not] at d;rw [d];have L:=ag (RA fF.o ab.o qH.o mh.o ym.o d);have ax:=ag (RB d);clear d;obtain ⟨gJ,A,C,fT,gy,gK⟩:=aV qR.o.f;obtain ⟨m,n,p,s,t,j⟩:=jJ qR.o.l;go_wp2_with fail
 refine (XE O (jc P.1).1 W.1 w7 DC.o ax.o).mono ?_
 rintro e w8 ⟨rv,rfl,zl,dD⟩;obtain ⟨V,hV⟩:=ai (fP (jc P.1).1 W.1);obtain ⟨E,hE⟩:=ai (gZ (jc P.1).1 W.1);have ay:=ag (And.intro hV hE);rw [<-hV,<-hE];have Q:=qR.o.a dD;have RH:=ag (RG.o.a dD);clear oH e0 e1 e2 e3 e4 e5 S T U X Y Z d0 d1 d2 d3 d4 d5 gJ A C fT gy gK m n p s t j hV hE zl dD;obtain ⟨m,n,p,s,t,j⟩:=jJ Q.l;have S:=Q.l.fz 0;have T:=Q.l.fz 1;have U:=Q.l.fz 2;have X:=Q.l.fz 3;have Y:=Q.l.fz 4;have Z:=Q.l.fz 5;obtain ⟨M,g⟩:=bK Q.l (.string (bs V.1)) (.int .u32 V.2.1) (.int .i64 V.2.2.1) (.int .u32 V.2.2.2.1) (.int .u32 V.2.2.2.2.1) (.int .i64 V.2.2.2.2.2);obtain ⟨w9,E5⟩:=aj (bV w8 (w.heap.size+1) (.string (bs V.1)) (.int .u32 V.2.1) (.int .i64 V.2.2.1) (.int .u32 V.2.2.2.1) (.int .u32 V.2.2.2.2.1) (.int .i64 V.2.2.2.2.2));rw [E5] at M g;have nX:=ag (show tK w w9 O V from ⟨Q.f.grown g (by omega),M,Q.r.grown g (by omega),Q.q.grown g (by omega),Q.b.grown g Q.b.size (by intro k G;cases G;omega)⟩);have I8:=ag (RH.o.keptS g Q.l (by decide) (by decide) (by decide) (by decide) (by decide));unfold bV at E5;clear Q M g;go_wp2;try rw [E5]
 clear E5 S T U X Y Z m n p s t j;have hK:aL (fun z=>(bf z w.heap.size O∧iw z (w.heap.size+1) V∧dE z (w.heap.size+2)∧o8 z (w.heap.size+2+1))∧ah w z∧aW z w.heap.size O.val (jc P.1).1):=fun _ _ h hb=>⟨⟨h.1.1.a hb,h.1.2.1.a hb,h.1.2.2.1.a hb,h.1.2.2.2.a hb⟩,h.2.1.trans (hb.mono h.2.1.size),h.2.2.a hb⟩
 have aD:(fun z=>(bf z w.heap.size O∧iw z (w.heap.size+1) V∧dE z (w.heap.size+2)∧o8 z (w.heap.size+2+1))∧ah w z∧aW z w.heap.size O.val (jc P.1).1) w9:=⟨⟨nX.o.f,nX.o.l,nX.o.r,nX.o.q⟩,nX.o.b,I8.o⟩;refine gH hK (by kernel_rfl) aD ?_
 clear aD;intro hS;generalize w9.drew=wd at *;refine dm [0,1,2] (fuel:=3) (a':=?iD) (by kernel_rfl) (by kernel_rfl) (by kernel_rfl) ?dn hS ?iE
 case dn=>
  iterate 3 (apply Yl.cons rfl (by kernel_rfl);focus (rintro z ⟨⟨x1,x2,x3,x4⟩,x5,x6⟩;obtain ⟨k0,k1,k2,k3,k4,k5⟩:=aV x1;obtain ⟨j0,j1,j2,j3,j4,j5⟩:=jJ x2;go_simp<;>with_reducible rfl);try simp only [az])
  exact Yl.nil
 obtain ⟨⟨s1,s2,s3,s4⟩,s5,s6⟩:=hS;have K:=s6.assign s3 (w0:=w) s5 (by omega);obtain ⟨⟨d0,e0⟩,⟨d1,e1⟩,⟨d2,e2⟩,⟨d3,e3⟩,⟨d4,e4⟩,⟨d5,e5⟩,c⟩:=s3.cells;have S:=c 0;have T:=c 1;have U:=c 2;have X:=c 3;have Y:=c 4;have Z:=c 5;obtain ⟨wa,wX⟩:=aj (aY wd (w.heap.size+2) O);rw [wX] at K;have gF:=ag K.2.2.1;have bO:(fun z=>(bf z w.heap.size O∧iw z (w.heap.size+1) V∧dE z (w.heap.size+2)∧o8 z (w.heap.size+2+1))∧ah w z∧aW z w.heap.size O.val (jc P.1).1) wa:=⟨⟨s1.grown K.2.2.2.2 (by omega),s2.grown K.2.2.2.2 (by omega),dE.of K.2.2.1,s4.grown K.2.2.2.2 (by omega)⟩,K.2.1,K.1⟩;unfold aY at wX;clear s1 s2 s3 s4 s5 s6 K c;refine nL (i:=3) (w':=wa) rfl (by kernel_rfl) (by rfl) (by rw [<-wX];go_simp) bO ?_
 clear wX e0 e1 e2 e3 e4 e5 S T U X Y Z;have hS:=bO;clear bO;try simp only [az]
 obtain ⟨⟨s1,s2,s3,s4⟩,s5,s6⟩:=hS;obtain ⟨_,_,_,_,_,_,Ca⟩:=s4;obtain ⟨c0,c1,c2,c3,c4,c5⟩:=cu Ca;have S:=Ca.fz 0;have T:=Ca.fz 1;have U:=Ca.fz 2;have X:=Ca.fz 3;have Y:=Ca.fz 4;have Z:=Ca.fz 5;obtain ⟨M,g⟩:=bK Ca (.string (bs V.1)) (.int .u32 V.2.1) (.int .i64 V.2.2.1) (.int .u32 V.2.2.2.1) (.int .u32 V.2.2.2.2.1) (.int .i64 V.2.2.2.2.2);obtain ⟨wb,DF⟩:=aj (bV wa (w.heap.size+2+1) (.string (bs V.1)) (.int .u32 V.2.1) (.int .i64 V.2.2.1) (.int .u32 V.2.2.2.1) (.int .u32 V.2.2.2.2.1) (.int .i64 V.2.2.2.2.2));rw [DF] at M g;have gG:=ag M;have aE:=ag (gF.o.grown g (by omega));have bO:(fun z=>(bf z w.heap.size O∧iw z (w.heap.size+1) V∧dE z (w.heap.size+2)∧o8 z (w.heap.size+2+1))∧ah w z∧aW z w.heap.size O.val (jc P.1).1) wb:=⟨⟨s1.grown g (by omega),s2.grown g (by omega),s3.grown g (by omega),⟨_,_,_,_,_,_,M⟩⟩,s5.grown g s5.size (by intro k G;cases G;omega),s6.keptS g Ca (by decide) (by decide) (by decide) (by decide) (by decide)⟩;unfold bV at DF;clear s1 s2 s3 Ca s5 s6 M g;refine nL (i:=4) (w':=wb) rfl (by kernel_rfl) (by rfl) (by rw [<-DF];go_simp) bO ?_
 clear DF c0 c1 c2 c3 c4 c5 S T U X Y Z;have hS:=bO;clear bO;try simp only [az]
 refine bZ (i:=5) (v:=?qzv5) rfl (by kernel_rfl) (by kernel_rfl) (by kernel_rfl) (by rfl) ?qzy5 hS ?qzr5
 case qzy5=>(rintro z ⟨⟨x1,x2,x3,x4⟩,x5,x6⟩;obtain ⟨k0,k1,k2,k3,k4,k5⟩:=aV x1;obtain ⟨j0,j1,j2,j3,j4,j5⟩:=jJ x2;go_simp<;>with_reducible rfl)
 try simp only [az]
 refine wpAnyH_done (by kernel_rfl) ?_ _
 refine NoPanic.normal ?_
 try simp only [az]
 obtain ⟨p0,p1,p2,p3,p4,p5⟩:=aV aE.o;obtain ⟨r0,r1,r2,r3,r4,r5⟩:=cu gG.o;have Rs:=ag hS;clear hS hK;go_wp2;refine bodyPost_ret (v:=.tuple #[O.val,pR V,.int .i64 E]) ?_ rfl ⟨O.val, ?_, ?_,Rs.o.2.1⟩
 ·simp [results,Tryz.results10,go_sem,p0,p1,p2,p3,p4,p5,r0,r1,r2,r3,r4,r5]
 ·rw [L.o,ay.o.1,ay.o.2]
 ·rw [L.o];exact Rs.o.2.2
end Go.Proofs.YthpammbgcidloaaGreat
