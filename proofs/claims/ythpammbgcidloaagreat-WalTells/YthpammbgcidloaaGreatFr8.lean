/-
  What frame's Read does: the log of some blocks.
-/
import Derived.Test.YthpammbgcidloaaGreatFr5
set_option maxHeartbeats 4000000
set_option maxRecDepth 100000
namespace Go.Proofs.YthpammbgcidloaaGreat
open Go.RowKit
set_option linter.all false
theorem Xh (g n p:Nat):opn g n p []=([],0,0):=MB (by simp [nV])
theorem qsu {g n p:Nat} {l:List (ak)} (h:l.length<cntF (l.headD [])):opn g n p l=([],0,0):=MB (by
 cases e:nV g n p l
 ·rfl
 ·have:=((Qy g n p l).1 e).2.1;omega)
theorem Xi {g n p:Nat} {l:List (ak)} (h:dQ (g,n,ji (l.headD []),p) (gY l)≠0):opn g n p l=([],0,0):=MB (by
 cases e:nV g n p l
 ·rfl
 ·exact absurd ((Qy g n p l).1 e).2.2.1 h)
theorem QI {g n p:Nat} {l:List (ak)} (h:fZ (g,n,ji (l.headD []),p) (gY l)≠l.take (cntF (l.headD []))):opn g n p l=([],0,0):=MB (by
 cases e:nV g n p l
 ·rfl
 ·exact absurd ((Qy g n p l).1 e).2.2.2 h)
theorem QJ {g n p:Nat} {l:List (ak)} (a:l≠[]) (b:cntF (l.headD [])<=l.length) (c:dQ (g,n,ji (l.headD []),p) (gY l)=0) (d:fZ (g,n,ji (l.headD []),p) (gY l)=l.take (cntF (l.headD []))):opn g n p l=(gY l,ji (l.headD []),cntF (l.headD [])):=
 qL ((Qy g n p l).2 ⟨a,b,c,d⟩)
theorem qwz (l:List (ak)) (h:0<l.length):l.headD []=l[0]:=by
 cases l with
 | nil=>simp at h
 | cons x t=>rfl
theorem qyn (f h j:Nat) (a:au) (n c:Nat) (l:List (ak)) (w:World) (hg:f<4294967296) (N:h<4294967296) (O:j<4294967296) (u:jC w (.slice a n c) l) (hl:l.length<=4096) (m:∀b∈l,b.length=128):
  Calls Tryz.prog 79 #[.int .u32 f,.int .u32 h,.int .u32 j,.slice a n c] w fun e w'=>∃v,e=.returned (.tuple #[v,.int .u32 (opn f h j l).2.1,.int .i64 (opn f h j l).2.2])∧aX w' w.heap.size v (opn f h j l).1∧ah w w':=by
 obtain ⟨hn,ad,Y⟩:=u.le;have HN:=ag hn;have HR:=ag u;have HA:=ag m;have HG:=ag (show f<4294967296∧h<4294967296∧j<4294967296 from ⟨hg,N,O⟩);by_cases h0:n=0
 ·have F:=ag (show opn f h j l=([],0,0) by rw [List.length_eq_zero_iff.1 (show l.length=0 by omega)];exact Xh _ _ _)
  have al:((n:Int)==0)=true:=by simpa using h0
  clear hn ad Y u m hl hg N O h0;go_enter Tryz.func79,Tryz.ntmps79;go_wp2;go_ret3;rw [F.o];exact ⟨_,rfl,World.ownsRow_nil _ _ _ _,aB⟩
 ·have al:((n:Int)==0)=false:=by simpa using (by omega:¬(n:Int)=0)
  have A:0<l.length:=by omega
  obtain ⟨b,P,y,z,rfl,Q,C⟩:=u.at 0 A;obtain ⟨q,G⟩:=ai (l[0]);have H:=ag (show q.length=128 by rw [G];exact m _ (List.getElem_mem A));have QK:=ag (show l.headD []=q by rw [G];exact qwz l A);rw [<-G,H.o] at Q C;obtain ⟨g,S,rfl, -⟩:=yY C (by intro e;have:=H.o;rw [e] at this;simp at this);have lI:w.cell? ⟨b,P,none⟩=some (.slice (some ⟨g,S,none⟩) 128 z):=Q;have am:=Tryz.ix2 (dh q) (mR q) (ji q) (qN q);have lJ:n<=4096:=by omega
  have aD:0<n:=by omega
  have Ev:=ag C;clear hn Y u m hl hg N O h0 G Q C;go_enter Tryz.func79,Tryz.ntmps79;go_wp2;have J:aL (fun D=>D.cell? ⟨b,P,none⟩=some (.slice (some ⟨g,S,none⟩) 128 z)∧Rd D (.slice (some ⟨g,S,none⟩) 128 z) q∧ah w D):=(aR _ _).and ((LA _ _).and (jW w));have Z:(fun D=>D.cell? ⟨b,P,none⟩=some (.slice (some ⟨g,S,none⟩) 128 z)∧Rd D (.slice (some ⟨g,S,none⟩) 128 z) q∧ah w D) w:=⟨lI,Ev.o,aB⟩;refine gH J (by kernel_rfl) Z ?_
  clear Z lI;intro t;generalize w.drew=wd at *;refine dm [0,1,2,5,6,7] (fuel:=5) (a':=?iD) (by kernel_rfl) (by kernel_rfl) (by kernel_rfl) ?dn t ?iE
  case dn=>
   iterate 6 (apply Yl.cons rfl (by kernel_rfl);focus (rintro D ⟨x1,x2,x3⟩;go_simp<;>with_reducible rfl);try simp only [az])
   exact Yl.nil
  refine qo J (i:=3) (v:=xY q) rfl (by kernel_rfl) (by rfl) (by go_simp) t (qmt g S z q _ t.2.1 H.o) ?_
  clear t;intro Av t;unfold xY;try simp only [az]
  refine bZ (i:=4) (v:=?qav4) rfl (by kernel_rfl) (by kernel_rfl) (by kernel_rfl) (by rfl) ?qay4 t ?qar4
  case qay4=>(rintro D ⟨x1,x2,x3⟩;go_simp<;>with_reducible rfl)
  try simp only [az]
  refine qo J (i:=8) (v:=.int .i64 (cntF q)) rfl (by kernel_rfl) (by rfl) (by go_simp) t ((Xj g S z q _ t.2.1 H.o).mono fun e w1 ⟨h1,h2⟩=>⟨h1,by rw [h2];exact aB⟩) ?_
  clear t;intro aE t;try simp only [az]
  refine dm [9,10] (fuel:=0) (a':=?lM) (by kernel_rfl) (by kernel_rfl) (by kernel_rfl) ?fU t ?lN
  case fU=>
   iterate 2 (apply Yl.cons rfl (by kernel_rfl);focus (rintro D ⟨x1,x2,x3⟩;go_simp<;>with_reducible rfl);try simp only [az])
   exact Yl.nil
  refine wpAnyH_done (by kernel_rfl) ?_ _
  refine NoPanic.normal ?_
  obtain ⟨-, -,T⟩:=t;clear J am;obtain ⟨K,J⟩:=ai (cntF q);obtain ⟨s,hs⟩:=ai (ji q);have W:=ag (show cntF (l.headD [])=K by rw [QK.o,J]);have nW:=ag (show ji (l.headD [])=s by rw [QK.o,hs]);have xZ:=ag (show s<4294967296 by rw [hs];exact Qw _);rw [<-J,<-hs];clear J hs;by_cases aa:n<K
  ·have L:(n:Int)<K:=by omega
   have F:=ag (qsu (g:=f) (n:=h) (p:=j) (show l.length<cntF (l.headD []) by rw [W.o,<-HN.o];exact aa));go_wp2;go_ret3;rw [F.o];exact ⟨_,rfl,World.ownsRow_nil _ _ _ _,T⟩
  ·have L:decide ((n:Int)<K)=false:=aA (by omega)
   have an:(K:Int)<=c:=by omega
   have aw:K<=c:=by omega
   have ab:K<=n:=by omega
   have aF:¬c=0:=by omega
   have ac:decide (n<K)=false:=by simpa using aa
   go_wp2;clear L an ac;go_loopw [8,35] (fun rv i wr=>∃k:Nat,k<=K∧i=.int .i64 k∧af (aX wr w.heap.size rv (rW (l.take k)))∧ah w wr) (fun _ i _=>K - (intOf i).toNat)
   case atStart=>exact ⟨0,Nat.zero_le _,rfl,ag (World.ownsRow_nil _ _ _ _),T⟩
   case round=>
    clear T;obtain ⟨k,hk,rfl,X,d⟩:=hrel;by_cases aH:k<K
    ·have ax:(k:Int)<K:=by omega
     have B:k<l.length:=by have:=HN.o;omega
     obtain ⟨b',ay,y,z',e',Q,C⟩:=(HR.o.a d).at k B;cases e';have bR:(l[k]).length=128:=HA.o _ (List.getElem_mem B);obtain ⟨x,hx⟩:=ai (l[k]);rw [<-hx] at Q C bR;rw [bR] at Q C;have HX:=ag bR;obtain ⟨g',o',rfl, -⟩:=yY C (by intro e;have:=HX.o;rw [e] at this;simp at this);have HQ:=ag C;have HJ:=ag (show rW (l.take (k+1))=rW (l.take k)++ze x by rw [qov _ _ B,hx]);have ao:=ag (show (rW (l.take k)).length+(ze x).length<=1000000000000 by
      have h1:=qms (l.take k);have h2:=Qf x;rw [List.length_take] at h1;omega)
     clear C bR hx;go_wp2_with fail
     refine (qajj g' o' z' x _ HQ.o HX.o).mono ?_
     rintro e w3 ⟨rfl,I⟩;have ap:ah w w3:=d.trans (I.mono d.size);have aq:iT x<256:=by unfold iT;exact UInt8.toNat_lt _
     have HP:=ag (show Rd w3 (.slice (some ⟨g',o'+21,none⟩) (min (iT x) 107) (z' - 21)) (ze x) from Hm (HQ.o.a I) 21 (min (iT x) 107) (by rw [HX.o];omega) (by rw [HX.o];omega));have HO:=ag (X.o.a I);generalize min (iT x) 107=mm at *;clear aq X I Q;go_wp2_with (at_builtin;go_must (refine Vk w w3 rfl (.tmp 39) (.tmp 41) 22 rfl w.heap.size 5 Tryz.underlying22 Tryz.infoB _ (rW (l.take k)) HO.o rfl ap aI _ (ze x) HP.o rfl ao.o ?_);intro v' w4 QL iX)
     go_roundw
     case rel=>exact ⟨k+1,by omega,rfl,ag (by rw [HJ.o];exact QL),iX⟩
     case measure=>simp only [intOf];omega
    ·have hd:decide ((k:Int)<K)=false:=aA (by omega)
     obtain rfl:k=K:=by omega
     obtain ⟨R,hR⟩:=ai (rW (l.take k));have wV:=ag (show gY l=R by unfold gY;rw [W.o,hR]);rw [<-hR] at X;obtain ⟨ra,rc,U⟩:=X.o.form;subst U;have HO:=ag X.o;clear X hR;go_wp2_with fail
     refine (qst (f,h,s,j) ra R.length rc R _ ⟨HG.o.1,HG.o.2.1,xZ.o,HG.o.2.2⟩ rfl HO.o.rd).mono ?_
     rintro e w5 ⟨v5,rfl,xJ,V⟩;have jh:ah w w5:=d.trans (V.mono d.size);have sW:=ag xJ;have ar:=ag (HO.o.a V);clear xJ V HO hd;by_cases M:dQ (f,h,s,j) R=0
     ·have qx:=ag M
      rw [M];rw [Xe M] at sW;obtain ⟨a5,c5,GR⟩:=sW.o.form;subst GR;have av:=ag ((HR.o.a jh).take k (by rw [<-HN.o];exact ab));clear M;go_wp2_with fail
      refine (qajr _ _ _ _ _ _ _ _ _ sW.o.rdL av.o).mono ?_
      rintro e w6 ⟨rfl,rfl⟩;by_cases r:fZ (f,h,s,j) R=l.take k
      ·have F:=ag (QJ (g:=f) (n:=h) (p:=j) (l:=l) (by intro e;rw [e] at A;simp at A) (by rw [W.o,<-HN.o];exact ab) (by rw [nW.o,wV.o];exact qx.o) (by rw [nW.o,wV.o,W.o];exact r))
       rw [decide_eq_true r];clear r;go_wp2;go_ret3;rw [F.o,wV.o,nW.o,W.o];exact ⟨_,rfl,ar.o,jh⟩
      ·have F:=ag (QI (g:=f) (n:=h) (p:=j) (l:=l) (by rw [nW.o,wV.o,W.o];exact r))
       rw [decide_eq_false r];clear r;go_wp2;go_ret3;rw [F.o];exact ⟨_,rfl,World.ownsRow_nil _ _ _ _,jh⟩
     ·have F:=ag (Xi (g:=f) (n:=h) (p:=j) (l:=l) (by rw [nW.o,wV.o];exact M))
      obtain ⟨E,hE⟩:=ai (dQ (f,h,s,j) R);rw [<-hE] at M ⊢;have aJ:(E !=0)=true:=by simpa using M
      clear hE M;go_wp2;go_ret3;rw [F.o];exact ⟨_,rfl,World.ownsRow_nil _ _ _ _,jh⟩
theorem qox (g:Nat) (l:List (ak)) (k:Nat) (a:k<l.length):oW g (l.take (k+1))=tq g (oW g (l.take k)) l[k]:=by
 unfold oW;rw [List.take_succ_eq_append_getElem a,List.foldl_append];rfl
theorem qsv (l:List (ak)) (k:Nat) (a:k<l.length):l9 (l.take (k+1))=max (l9 (l.take k)) (dh l[k]):=by
 unfold l9;rw [List.take_succ_eq_append_getElem a,List.foldl_append];rfl
theorem QM (a b c:Nat):(if (if a<b then (b:Int) else a)<c then (c:Int) else if a<b then (b:Int) else a)=((max a (max b c):Nat):Int):=by
 by_cases h:a<b
 ·simp only [if_pos h];split<;>omega
 ·simp only [if_neg h];split<;>omega
theorem QN (a b:Nat):(if a<b then (b:Int) else a)=((max a b:Nat):Int):=by split<;>omega
theorem Am (f:Nat) (a:au) (n c:Nat) (l:List (ak)) (w:World) (h:jC w (.slice a n c) l) (Q:l.length<=4096) (g:∀b∈l,b.length=128):
  Calls Tryz.prog 80 #[.int .u32 f,.slice a n c] w fun e w'=>e=.returned (.int .u32 (oW f l))∧ah w w':=by
 have E:=ag h.le.1;have lJ:n<=4096:=by have:=E.o;omega
 have R:=ag h;have S:=ag g;clear h g Q;go_enter Tryz.func80,Tryz.ntmps80;go_wp2;go_loopw [4,10] (fun m i wr=>∃k:Nat,k<=n∧i=.int .i64 k∧m=.int .u32 (oW f (l.take k))∧ah w wr) (fun _ i _=>n - (intOf i).toNat)
 case atStart=>exact ⟨0,Nat.zero_le _,rfl,rfl,aB⟩
 case round=>
  obtain ⟨k,hk,rfl,rfl,d⟩:=hrel;by_cases T:k<n
  ·have J:(k:Int)<n:=by omega
   have j:k<l.length:=by have:=E.o;omega
   obtain ⟨b,U,y,z,rfl,F,s⟩:=(R.o.a d).at k j;have D:(l[k]).length=128:=S.o _ (List.getElem_mem j);obtain ⟨x,G⟩:=ai (l[k]);rw [<-G] at F s D;rw [D] at F s;have K:=ag D;obtain ⟨V,W,rfl, -⟩:=yY s (by intro e;have:=K.o;rw [e] at this;simp at this);have X:=ag s;obtain ⟨M,H⟩:=ai (oW f (l.take k));have L:=ag (show oW f (l.take (k+1))=tq f M x by rw [qox _ _ _ j,H,G]);rw [<-H];clear s D G H;go_wp2_with fail
   refine (qmt V W z x _ X.o K.o).mono ?_
   rintro e N ⟨rfl,t⟩;have u:ah w N:=d.trans (t.mono d.size);unfold xY;obtain ⟨v,p⟩:=ai (dh x);obtain ⟨n1,A⟩:=ai (mR x);obtain ⟨n2,q⟩:=ai (ji x);obtain ⟨n3,I⟩:=ai (qN x);have O:=ag (show tq f M x=if v=f then max M (max n2 n3) else M by unfold tq;rw [p,q,I]);rw [<-p,<-A,<-q,<-I];have B:∀o,ah w (N.alloc o):=fun o=>u.alloc u.size o
   clear p A q I t F d;by_cases C:v=f
   ·subst C
    have r:=ag (show oW v (l.take (k+1))=max M (max n2 n3) by rw [L.o,O.o,if_pos rfl]);have Y:=ag (QM M n2 n3);go_wp2;refine ⟨⟨k+1,by omega,rfl,congrArg (Value.int .u32) (by rw [r.o];exact Y.o),B _⟩,by simp only [intOf];omega⟩
   ·have P:((v:Int)==f)=false:=by simpa using (by omega:¬(v:Int)=f)
    have r:=ag (show oW f (l.take (k+1))=M by rw [L.o,O.o,if_neg C]);go_wp2;refine ⟨⟨k+1,by omega,rfl,congrArg (Value.int .u32) (by rw [r.o]),B _⟩,by simp only [intOf];omega⟩
  ·have hd:decide ((k:Int)<n)=false:=aA (by omega)
   have Z:=ag (show l.take k=l by rw [List.take_of_length_le (by rw [<-E.o];omega)]);go_wp2;go_ret;rw [Z.o];exact ⟨rfl,d⟩
def tF (l:List (ak)):Nat:=if fw l≠0 then 0 else l9 l
theorem qw0 (a:au) (n c:Nat) (l:List (ak)) (w:World) (g:jC w (.slice a n c) l):
  Calls Tryz.prog 54 #[.slice a n c] w fun e w'=>e=.returned (.tuple #[.int .u32 (tF l),.int .i64 (fw l)])∧ah w w':=by
 have t:=ag g.le.1;have u:=ag g;clear g;by_cases f:fw l=0
 ·have v:=ag (show tF l=l9 l by unfold tF;rw [if_neg (fun h=>h f)])
  have Z:n<=4096:=by have:=(Hu f).1;have:=t.o;omega
  have N:=ag (Hu f).2;have I:=ag f;clear f;go_enter Tryz.func54,Tryz.ntmps54;go_wp2_with fail
  refine (Xg a n c l _ u.o).mono ?_
  rintro e A ⟨rfl,rfl⟩;rw [I.o];go_wp2;go_loopw [5,15] (fun m i wr=>∃k:Nat,k<=n∧i=.int .i64 k∧m=.int .u32 (l9 (l.take k))∧ah A wr) (fun _ i _=>n - (intOf i).toNat)
  case atStart=>exact ⟨0,Nat.zero_le _,rfl,rfl,aB⟩
  case round=>
   obtain ⟨k,hk,rfl,rfl,d⟩:=hrel;by_cases O:k<n
   ·have J:(k:Int)<n:=by omega
    have j:k<l.length:=by have:=t.o;omega
    obtain ⟨b,P,y,z,rfl,B,q⟩:=(u.o.a d).at k j;have s:(l[k]).length=128:=N.o _ (List.getElem_mem j);obtain ⟨x,C⟩:=ai (l[k]);rw [<-C] at B q s;rw [s] at B q;have K:=ag s;obtain ⟨Q,R,rfl, -⟩:=yY q (by intro e;have:=K.o;rw [e] at this;simp at this);have S:=ag q;obtain ⟨M,D⟩:=ai (l9 (l.take k));obtain ⟨F,p⟩:=ai (dh x);have T:=ag (show l9 (l.take (k+1))=max M F by rw [qsv _ _ j,D,p,C]);rw [<-D];clear q s C D;go_wp2_with fail
    refine (qmt Q R z x _ S.o K.o).mono ?_
    rintro e U ⟨rfl,r⟩;have G:ah A U:=d.trans (r.mono d.size);unfold xY;rw [<-p];have V:=Tryz.ix0 F (mR x) (ji x) (qN x);have W:=ag (QN M F);clear p r B d;go_wp2;refine ⟨⟨k+1,by omega,rfl,congrArg (Value.int .u32) (by rw [T.o];exact W.o),G⟩,by simp only [intOf];omega⟩
   ·have hd:decide ((k:Int)<n)=false:=aA (by omega)
    have X:=ag (show l.take k=l by rw [List.take_of_length_le (by rw [<-t.o];omega)]);go_wp2;go_ret2;rw [X.o,v.o,I.o];exact ⟨rfl,d⟩
 ·have v:=ag (show tF l=0 by unfold tF;rw [if_pos f])
  obtain ⟨E,H⟩:=ai (fw l);have L:=ag H;rw [<-H] at f;have Y:(E !=0)=true:=by simpa using f
  clear H f;go_enter Tryz.func54,Tryz.ntmps54;go_wp2_with fail
  refine (Xg a n c l _ u.o).mono ?_
  rintro e A ⟨rfl,rfl⟩;rw [<-L.o];go_wp2;go_ret2;rw [v.o,<-L.o];exact ⟨rfl,aB⟩
def aZ (w:World) (B:Nat) (rv:Value) (k p m:Nat):Prop:=w.heap[B]? =some (.cells #[rv,.int .i64 k,.int .u32 p,.int .u32 m] 80 (0,0))
theorem aZ.cells {w:World} {B:Nat} {a:Value} {k p m:Nat} (h:aZ w B a k p m):w.cell? ⟨B,0,none⟩=some a∧w.cell? ⟨B,1,none⟩=some (.int .i64 k)∧w.cell? ⟨B,2,none⟩=some (.int .u32 p)∧w.cell? ⟨B,3,none⟩=some (.int .u32 m)∧∀j,w.frozen? ⟨B,j,none⟩=false:=Au h
theorem aZ.lt {w:World} {B:Nat} {a:Value} {k p m:Nat} (h:aZ w B a k p m):B<w.heap.size:=(Array.getElem?_eq_some_iff.1 h).1
theorem aZ.a {w w':World} {B base:Nat} {a:Value} {k p m:Nat} (h:aZ w B a k p m) (hb:Below base w w') (c:B<base) (b:base<=w.heap.size):aZ w' B a k p m:=by
 unfold aZ at *;rw [hb.block B (by omega)];exact h
theorem aZ.set0 {w:World} {B:Nat} {a:Value} {k p m:Nat} (h:aZ w B a k p m) (v:Value):aZ (w.setCell ⟨B,0,none⟩ v) B v k p m:=heap_setCell_same _ _ 0 _ _ _ h
theorem aZ.set1 {w:World} {B:Nat} {a:Value} {k p m:Nat} (h:aZ w B a k p m) (b:Nat):aZ (w.setCell ⟨B,1,none⟩ (.int .i64 b)) B a b p m:=heap_setCell_same _ _ 1 _ _ _ h
theorem aZ.set2 {w:World} {B:Nat} {a:Value} {k p m:Nat} (h:aZ w B a k p m) (b:Nat):aZ (w.setCell ⟨B,2,none⟩ (.int .u32 b)) B a k b m:=heap_setCell_same _ _ 2 _ _ _ h
theorem aZ.set3 {w:World} {B:Nat} {a:Value} {k p m:Nat} (h:aZ w B a k p m) (b:Nat):aZ (w.setCell ⟨B,3,none⟩ (.int .u32 b)) B a k p b:=heap_setCell_same _ _ 3 _ _ _ h
abbrev Lg:=List (ak) × Nat × Nat × Nat
def Ay (g:Nat) (l:List (ak)):Int:=if g=0 then 2 else fw l
def x8 (g:Nat) (l:List (ak)):Lg:=if Ay g l≠0 then ([],0,0,0) else ((fD g l).map (·.1),dF (fD g l),gB 0 (fD g l),oW g (l.drop (dF (fD g l))))
def MI (g:Nat) (l:List (ak)) (S:List Op):Prop:=
 fD g l=S++zf g (l.length+1 - S.length) (1+S.length) (gB 0 S) (l.drop (dF S))∧S.length<=dF S∧dF S<=l.length∧gB 0 S<4294967296
theorem qsw (g:Nat) (l:List (ak)):MI g l []:=⟨by simp [fD,gB,dF],Nat.le_refl _,Nat.zero_le _,by show (0:Nat)<_;omega⟩
theorem Xk {g:Nat} {l:List (ak)} {S:List Op} (h:MI g l S) (a:(opn g (1+S.length) (gB 0 S) (l.drop (dF S))).2.2=0):fD g l=S:=by
 rw [h.1,qyj a,List.append_nil]
theorem qoy {g:Nat} {l:List (ak)} {S:List Op} (h:MI g l S) (c:(opn g (1+S.length) (gB 0 S) (l.drop (dF S))).2.2≠0):MI g l (S++[opn g (1+S.length) (gB 0 S) (l.drop (dF S))]):=by
 obtain ⟨d,j,k,m⟩:=h;have a:=Xb g (1+S.length) (gB 0 S) (l.drop (dF S));rw [List.length_drop] at a;have b:=Xc g (1+S.length) (gB 0 S) (l.drop (dF S));generalize e:opn g (1+S.length) (gB 0 S) (l.drop (dF S))=o at *;refine ⟨?_, ?_, ?_, ?_⟩
 ·rw [MC,Qz,List.length_append,List.length_singleton]
  obtain ⟨f,i⟩:∃f,l.length+1 - S.length=f+1:=⟨l.length - S.length,by omega⟩;rw [d,i,zf,e,if_neg c,List.drop_drop,List.append_assoc];rw [show l.length+1 - (S.length+1)=f by omega,show 1+S.length+1=1+(S.length+1) by omega];rfl
 ·rw [MC,List.length_append,List.length_singleton];omega
 ·rw [MC];omega
 ·rw [Qz];exact b
theorem QO (N a:Nat) (h:a=1+N) (b:N<=4096):IntKind.i64.wrap ((N:Int)+1)=(a:Int)∧wrap64 ((N:Int)+1)=(a:Int)∧IntKind.u32.wrap (a:Int)=(a:Int)∧a<4294967296:=by
 refine ⟨?_, ?_, ?_,by omega⟩
 ·rw [IntKind.wrap_i64];omega
 ·unfold wrap64;omega
 ·rw [IntKind.wrap_u32'];omega
theorem Hw (k a b n:Nat) (h:b=k+a) (c:a<=n - k) (d:k<=n) (e:a≠0) (f:n<=4096):wrap64 ((k:Int)+(a:Int))=(b:Int)∧IntKind.i64.wrap ((k:Int)+(a:Int))=(b:Int)∧n+1 - b<n+1 - k:=by
 refine ⟨?_, ?_,by omega⟩
 ·unfold wrap64;omega
 ·rw [IntKind.wrap_i64];omega
theorem aZ.other {w:World} {B:Nat} {c:Value} {k p m:Nat} (h:aZ w B c k p m) (a:Addr) (v:Value) (b:B≠a.block):aZ (w.setCell a v) B c k p m:=by
 unfold aZ at *;rw [heap_setCell_other w a B v b];exact h
theorem QP {l:List (ak)} {k:Nat} (h:l.length<=4096):(l.drop k).length<=4096:=by rw [List.length_drop];omega
def lgK:Option Value->Nat
 | some (.int _ k)=>k.toNat
 | _=>0
theorem pm (f:Nat) (a:au) (n c:Nat) (l:List (ak)) (w:World) (hg:f<4294967296) (ac:jC w (.slice a n c) l):
  Calls Tryz.prog 34 #[.int .u32 f,.slice a n c] w fun e w'=>∃rv,e=.returned (.tuple #[.agg #[rv,.int .i64 (x8 f l).2.1,.int .u32 (x8 f l).2.2.1,.int .u32 (x8 f l).2.2.2],.int .i64 (Ay f l)])∧bu w' w.heap.size rv (x8 f l).1∧ah w w':=by
 have HN:=ag ac.le.1;have HR:=ag ac;have ay:=ag hg;clear ac hg;by_cases h0:f=0
 ·have HE:=ag (show Ay f l=2 by unfold Ay;rw [if_pos h0])
  have HV:=ag (show x8 f l=([],0,0,0) by unfold x8;rw [if_pos (by rw [HE.o];decide)]);have ap:((f:Int)==0)=true:=by simpa using h0
  have hB:∀o,ah w (w.alloc o):=fun o=>aB.alloc aI o
  clear h0;go_enter Tryz.func34,Tryz.ntmps34;go_wp2;refine bodyPost_ret (v:=.tuple #[.agg #[.slice none 0 0,.int .i64 0,.int .u32 0,.int .u32 0],.int .i64 2]) ?_ rfl ⟨.slice none 0 0, ?_, ?_,hB _⟩
  ·simp [results,Tryz.results34,go_sem]
  ·rw [HE.o,HV.o];rfl
  ·rw [HV.o];exact bu.nil _ _
 ·have ap:((f:Int)==0)=false:=by simpa using (by omega:¬(f:Int)=0)
  by_cases he:fw l=0
  ·have HE:=ag (show Ay f l=0 by unfold Ay;rw [if_neg h0,he])
   have uL:=ag (show x8 f l=((fD f l).map (·.1),dF (fD f l),gB 0 (fD f l),oW f (l.drop (dF (fD f l)))) by unfold x8;rw [if_neg (fun h=>h HE.o)]);have zg:=ag (Hu he).1;have HA:=ag (Hu he).2;have HC:=ag he;have lJ:n<=4096:=by have:=zg.o;have:=HN.o;omega
   clear he h0;go_enter Tryz.func34,Tryz.ntmps34;go_wp2_with fail
   have V:∀o,ah w (w.alloc o):=fun o=>aB.alloc aI o
   refine (Xg a n c l _ (HR.o.a (V _))).mono ?_
   rintro e w1 ⟨rfl,rfl⟩;rw [HC.o];go_wp2;clear ap V;go_loopw [10] (fun _ wr=>∃(S:List Op) (r:au) (s:Nat),af (MI f l S)∧af (aZ wr (w.heap.size+1) (.slice r S.length s) (dF S) (gB 0 S) 0)∧af (bu wr (w.heap.size+2) (.slice r S.length s) (S.map (·.1)))∧af (aZ wr w.heap.size (.slice none 0 0) 0 0 0)∧ah w wr∧w.heap.size+2<=wr.heap.size) (fun _ wr=>n+1 - lgK (wr.cell? ⟨w.heap.size+1,1,none⟩))
   case atStart=>
    refine ⟨[],none,0,ag (qsw _ _),ag ?_,ag (bu.nil _ _),ag ?_,(ae).alloc (by simp) _,by simp⟩
    ·exact pq _ _ _
    ·unfold aZ
     rw [((Below.refl _ (w.alloc (.cells #[.slice none 0 0,.int .i64 0,.int .u32 0,.int .u32 0] 80))).alloc aI _).block _ (by simp)];exact heap_alloc_new w _
   case round=>
    obtain ⟨S,r,s,vL,oF,Q,W,X,al⟩:=hrel;obtain ⟨m,oG⟩:=ai (S.map (·.1));obtain ⟨N,hN⟩:=ai S.length;obtain ⟨k,hk⟩:=ai (dF S);obtain ⟨p,hp⟩:=ai (gB 0 S);obtain ⟨N1,am⟩:=ai (1+N);obtain ⟨⟨A,P,q⟩,ho⟩:=ai (opn f N1 p (l.drop k));have Y:k<=n:=by rw [hk,HN.o];exact vL.o.2.2.1
    have aD:N<=k:=by rw [hN,hk];exact vL.o.2.1
    have D:=ag (show dF S=k∧gB 0 S=p∧S.map (·.1)=m∧(A,P,q)=opn f (1+S.length) (gB 0 S) (l.drop (dF S)) from ⟨hk.symm,hp.symm,oG.symm,by rw [ho,am,hN,hp,hk]⟩);have QQ:=ag (show S.length=N from hN.symm);have aE:p<4294967296:=by rw [hp];exact vL.o.2.2.2
    rw [<-hN,<-hk,<-hp] at oF;rw [<-hN,<-oG] at Q;obtain ⟨aF,aH,Xl,MJ⟩:=QO N N1 am (aC aD (aC Y lJ));have aO:(k:Int)<=n:=Int.ofNat_le.2 Y;have an:=ag (show ∀(d:World),ah w d->∀(sa:au) (sn sc:Nat),jC d (.slice sa sn sc) (l.drop k)->Calls Tryz.prog 79 #[.int .u32 f,.int .u32 N1,.int .u32 p,.slice sa sn sc] d fun e w'=>∃v,e=.returned (.tuple #[v,.int .u32 P,.int .i64 q])∧aX w' d.heap.size v A∧ah d w' by
     intro d hx sa sn sc hr;have hh:=qyn f N1 p sa sn sc (l.drop k) d ay.o MJ aE hr (QP zg.o) (fun b B=>HA.o b (List.mem_of_mem_drop B));rw [<-ho] at hh;exact hh)
    obtain ⟨aP,hcut⟩:=HR.o.cut k (by rw [<-HN.o];exact Y);have HM:=ag (show lgK (wr.cell? ⟨w.heap.size+1,1,none⟩)=k by rw [oF.o.cells.2.1];rfl);have jo:=ag (show q<=n - k∧P<4294967296 from ⟨by have:=Xb f N1 p (l.drop k);rwa [List.length_drop,<-HN.o,<-ho] at this,by have:=Xc f N1 p (l.drop k);rwa [<-ho] at this⟩);clear oG hN hk hp am;rcases hcut with ⟨rfl,rfl,hR⟩ | ⟨b,aq,rfl,aJ,hR⟩ | ⟨ad,rfl,rfl,rfl,aJ,ar⟩
    ·have HZ:=ag (show l.drop c=[] by rw [List.drop_of_length_le (by rw [<-HN.o];exact Nat.le_refl _)])
     have xZ:=ag hR;have z:=(show q=0 by have:=congrArg (fun x:Op=>x.2.2) ho;rw [HZ.o,Xh] at this;exact this);clear hR ho;go_wp2;have C:aL (fun d=>aZ d (w.heap.size+1) (.slice r N s) c p 0∧aZ d w.heap.size (.slice none 0 0) 0 0 0∧bu d (w.heap.size+2) (.slice r N s) m∧ah w d∧w.heap.size+2<=d.heap.size):=(eH _ _).and ((eH _ _).and (aL.and (fun _ _ h B=>h.a B) ((jW w).and (FK _))));have F:(fun d=>aZ d (w.heap.size+1) (.slice r N s) c p 0∧aZ d w.heap.size (.slice none 0 0) 0 0 0∧bu d (w.heap.size+2) (.slice r N s) m∧ah w d∧w.heap.size+2<=d.heap.size) wr:=⟨oF.o,W.o,Q.o,X,al⟩;refine gH C (by kernel_rfl) F ?_
     clear F;intro j;generalize wr.drew=wd at *;refine dm [0,1,2,3,4,5,6,7,8,9,10,11] (fuel:=8) (a':=?iD) (by kernel_rfl) (by kernel_rfl) (by kernel_rfl) ?dn j ?iE
     case dn=>
      iterate 12 (apply Yl.cons rfl (by kernel_rfl);focus (rintro d ⟨x1,x2,x3,x4,x5⟩;obtain ⟨y0,y1,y2,y3,y4⟩:=x1.cells;go_simp<;>with_reducible rfl);try simp only [az])
      exact Yl.nil
     refine uT C (i:=12) (R:=fun v wy=>∃t u,v=.tuple #[.slice t A.length u,.int .u32 P,.int .i64 q]∧aX wy (w.heap.size+2) (.slice t A.length u) A) rfl (by kernel_rfl) (by rfl) (by go_simp) j ((an.o _ j.2.2.2.1 a 0 0 (by exact xZ.o.a j.2.2.2.1)).mono fun e w1 ⟨v,h1,h2,h3⟩=>by obtain ⟨t,u,rfl⟩:=h2.form;exact ⟨_,h1,⟨t,u,rfl,h2.mono j.2.2.2.2⟩,h3⟩) (fun v _ _ ⟨t,u,h,h'⟩ B=>⟨t,u,h,h'.a B⟩) ?_
     intro av aw H jK eY;clear C j;have C:=H;have j:=eY;clear H eY;obtain ⟨t,u,rfl,hV⟩:=jK;try simp only [az]
     refine dm [13,14,15,16,17,18,19] (fuel:=0) (a':=?lM) (by kernel_rfl) (by kernel_rfl) (by kernel_rfl) ?fU j ?lN
     case fU=>
      iterate 7 (apply Yl.cons rfl (by kernel_rfl);focus (rintro d ⟨⟨x1,x2,x3,x4,x5⟩,_⟩;go_simp<;>with_reducible rfl);try simp only [az])
      exact Yl.nil
     refine wpAnyH_done (by kernel_rfl) ?_ _
     refine NoPanic.normal ?_
     subst z;have Z:=ag (Xk vL.o (by have:=congrArg (fun x:Op=>x.2.2) D.o.2.2.2;exact this.symm));obtain ⟨⟨u1,u2,u3,u4,u5⟩, -⟩:=j;have sU:=ag u1;have vM:=ag u2;have BQ:=ag u3;obtain ⟨c0,c1,c2,c3,cf⟩:=u1.cells;clear C hV u1 u2 u3 cf;go_wp2_with fail
     refine (Am f a 0 0 (l.drop c) _ (xZ.o.a u4) (QP zg.o) (fun b B=>HA.o b (List.mem_of_mem_drop B))).mono ?_
     rintro e I ⟨rfl,g⟩;obtain ⟨G,hG⟩:=ai (oW f (l.drop c));rw [<-hG];have T:=sU.o.a g sU.o.lt aI;have h6:=vM.o.a g vM.o.lt aI;have h7:=BQ.o.a g;have jh:ah w I:=u4.trans (g.mono u4.size);have ax:=T.cells.2.2.2.2 3;obtain ⟨d0,d1,d2,d3, -⟩:=T.cells;have J:=nO I ⟨w.heap.size+1,3,none⟩ (.int .u32 G);have h8:=T.set3 G;have h9:aZ (I.setCell ⟨w.heap.size+1,3,none⟩ (.int .u32 G)) w.heap.size (.slice none 0 0) 0 0 0:=by
      unfold aZ at *;rw [J.block _ (Array.getElem?_eq_some_iff.1 h6).1 (by simp)];exact h6
     have K:=h7.grown J (by show w.heap.size+1<_;omega);have qE:ah w (I.setCell ⟨w.heap.size+1,3,none⟩ (.int .u32 G)):=jh.grown J jh.size (fun i U=>by cases U;show w.heap.size<=w.heap.size+1;omega);have HW:=ag (⟨_,rfl⟩:∃w6,w6=I.setCell ⟨w.heap.size+1,3,none⟩ (.int .u32 G));obtain ⟨ws,bP,L,y⟩:=QD (.slice r N s) (.int .i64 c) (.int .u32 p) (.int .u32 G) h9;have M:=K.grown y (by omega);have qa:ah w ws:=qE.grown y qE.size (fun i U=>by cases U;exact Nat.le_refl _);obtain ⟨p0,p1,p2,p3, -⟩:=Au L;obtain ⟨q0,q1,q2,q3,O⟩:=h9.cells;obtain ⟨r0,r1,r2,r3, -⟩:=h8.cells;have oq:=ag bP;have Hy:=ag M;have qP:=ag hG;have f0:=O 0;have f1:=O 1;have f2:=O 2;have f3:=O 3;clear L y bP T h6 h7 h8 h9 K M J g HW hG O c0 c1 c2 c3;go_wp2;rw [oq.o];refine bodyPost_ret (v:=.tuple #[.agg #[.slice r N s,.int .i64 c,.int .u32 p,.int .u32 G],.int .i64 0]) ?_ rfl ⟨.slice r N s, ?_, ?_,qa⟩
     ·simp [results,Tryz.results34,go_sem,p0,p1,p2,p3]
     ·rw [HE.o,uL.o,Z.o,qP.o,D.o.1,D.o.2.1];try rfl
     ·rw [uL.o,Z.o,D.o.2.2.1];exact Hy.o.mono (by omega)
    ·have xZ:=ag hR
     have jN:=ag (show m.length=N by rw [<-D.o.2.2.1,List.length_map];exact QQ.o);clear hR ho;go_wp2;have C:aL (fun d=>aZ d (w.heap.size+1) (.slice r N s) k p 0∧aZ d w.heap.size (.slice none 0 0) 0 0 0∧bu d (w.heap.size+2) (.slice r N s) m∧ah w d∧w.heap.size+2<=d.heap.size):=(eH _ _).and ((eH _ _).and (aL.and (fun _ _ h B=>h.a B) ((jW w).and (FK _))));have F:(fun d=>aZ d (w.heap.size+1) (.slice r N s) k p 0∧aZ d w.heap.size (.slice none 0 0) 0 0 0∧bu d (w.heap.size+2) (.slice r N s) m∧ah w d∧w.heap.size+2<=d.heap.size) wr:=⟨oF.o,W.o,Q.o,X,al⟩;refine gH C (by kernel_rfl) F ?_
     clear F;intro j;generalize wr.drew=wd at *;refine dm [0,1,2,3,4,5,6,7,8,9,10,11] (fuel:=8) (a':=?FE) (by kernel_rfl) (by kernel_rfl) (by kernel_rfl) ?uW j ?FH
     case uW=>
      iterate 12 (apply Yl.cons rfl (by kernel_rfl);focus (rintro d ⟨x1,x2,x3,x4,x5⟩;obtain ⟨y0,y1,y2,y3,y4⟩:=x1.cells;go_simp<;>with_reducible rfl);try simp only [az])
      exact Yl.nil
     refine uT C (i:=12) (R:=fun v wy=>∃t u,v=.tuple #[.slice t A.length u,.int .u32 P,.int .i64 q]∧aX wy (w.heap.size+2) (.slice t A.length u) A) rfl (by kernel_rfl) (by rfl) (by go_simp) j ((an.o _ j.2.2.2.1 (some ⟨b,aq+k,none⟩) (n - k) (c - k) (by exact xZ.o.a j.2.2.2.1)).mono fun e w1 ⟨v,h1,h2,h3⟩=>by obtain ⟨t,u,rfl⟩:=h2.form;exact ⟨_,h1,⟨t,u,rfl,h2.mono j.2.2.2.2⟩,h3⟩) (fun v _ _ ⟨t,u,h,h'⟩ B=>⟨t,u,h,h'.a B⟩) ?_
     intro av aw H jK eY;clear C j;have C:=H;have j:=eY;clear H eY;obtain ⟨t,u,rfl,hV⟩:=jK;try simp only [az]
     refine dm [13,14,15,16,17,18,19] (fuel:=0) (a':=?FI) (by kernel_rfl) (by kernel_rfl) (by kernel_rfl) ?uX j ?FJ
     case uX=>
      iterate 7 (apply Yl.cons rfl (by kernel_rfl);focus (rintro d ⟨⟨x1,x2,x3,x4,x5⟩,_⟩;go_simp<;>with_reducible rfl);try simp only [az])
      exact Yl.nil
     refine wpAnyH_done (by kernel_rfl) ?_ _
     refine NoPanic.normal ?_
     by_cases z:q=0
     ·skip
      subst z;have Z:=ag (Xk vL.o (by have:=congrArg (fun x:Op=>x.2.2) D.o.2.2.2;exact this.symm));obtain ⟨⟨u1,u2,u3,u4,u5⟩, -⟩:=j;have sU:=ag u1;have vM:=ag u2;have BQ:=ag u3;obtain ⟨c0,c1,c2,c3,cf⟩:=u1.cells;clear C hV u1 u2 u3 cf;go_wp2_with fail
      refine (Am f (some ⟨b,aq+k,none⟩) (n - k) (c - k) (l.drop k) _ (xZ.o.a u4) (QP zg.o) (fun b B=>HA.o b (List.mem_of_mem_drop B))).mono ?_
      rintro e I ⟨rfl,g⟩;obtain ⟨G,hG⟩:=ai (oW f (l.drop k));rw [<-hG];have T:=sU.o.a g sU.o.lt aI;have h6:=vM.o.a g vM.o.lt aI;have h7:=BQ.o.a g;have jh:ah w I:=u4.trans (g.mono u4.size);have ax:=T.cells.2.2.2.2 3;obtain ⟨d0,d1,d2,d3, -⟩:=T.cells;have J:=nO I ⟨w.heap.size+1,3,none⟩ (.int .u32 G);have h8:=T.set3 G;have h9:aZ (I.setCell ⟨w.heap.size+1,3,none⟩ (.int .u32 G)) w.heap.size (.slice none 0 0) 0 0 0:=by
       unfold aZ at *;rw [J.block _ (Array.getElem?_eq_some_iff.1 h6).1 (by simp)];exact h6
      have K:=h7.grown J (by show w.heap.size+1<_;omega);have qE:ah w (I.setCell ⟨w.heap.size+1,3,none⟩ (.int .u32 G)):=jh.grown J jh.size (fun i U=>by cases U;show w.heap.size<=w.heap.size+1;omega);have HW:=ag (⟨_,rfl⟩:∃w6,w6=I.setCell ⟨w.heap.size+1,3,none⟩ (.int .u32 G));obtain ⟨ws,bP,L,y⟩:=QD (.slice r N s) (.int .i64 k) (.int .u32 p) (.int .u32 G) h9;have M:=K.grown y (by omega);have qa:ah w ws:=qE.grown y qE.size (fun i U=>by cases U;exact Nat.le_refl _);obtain ⟨p0,p1,p2,p3, -⟩:=Au L;obtain ⟨q0,q1,q2,q3,O⟩:=h9.cells;obtain ⟨r0,r1,r2,r3, -⟩:=h8.cells;have oq:=ag bP;have Hy:=ag M;have qP:=ag hG;have f0:=O 0;have f1:=O 1;have f2:=O 2;have f3:=O 3;clear L y bP T h6 h7 h8 h9 K M J g HW hG O c0 c1 c2 c3;go_wp2;rw [oq.o];refine bodyPost_ret (v:=.tuple #[.agg #[.slice r N s,.int .i64 k,.int .u32 p,.int .u32 G],.int .i64 0]) ?_ rfl ⟨.slice r N s, ?_, ?_,qa⟩
      ·simp [results,Tryz.results34,go_sem,p0,p1,p2,p3]
      ·rw [HE.o,uL.o,Z.o,qP.o,D.o.1,D.o.2.1];try rfl
      ·rw [uL.o,Z.o,D.o.2.2.1];exact Hy.o.mono (by omega)
     ·have aS:((q:Int)==0)=false:=by simpa using z
      obtain ⟨⟨u1,u2,u3,u4,u5⟩, -⟩:=j;obtain ⟨g9,c9,w9,ab,bN,bI⟩:=Qr u3 u5 (by rw [jN.o];omega) t A.length u A hV;rw [jN.o] at ab bN;have ao:=jo.o.1;have aK:=ag (Hw k q (k+q) n rfl ao Y z lJ).2.2;have aN:wrap64 ((k:Int)+(q:Int))=(k:Int)+(q:Int):=(Hw k q (k+q) n rfl ao Y z lJ).1;have h1:=u1.a bI (Nat.lt_succ_self _) u5;have h2:=u2.a bI (by omega) u5;obtain ⟨c0,c1,c2,c3,cf⟩:=u1.cells;obtain ⟨d0,d1,d2,d3,df⟩:=h1.cells;have f0:=df 0;have f1:=df 1;have f2:=df 2;have Z:=ag (((h1.set0 (.slice (some ⟨g9,0,none⟩) (N+1) c9)).set1 (k+q)).set2 P);have vO:=ag (((h2.other ⟨w.heap.size+1,0,none⟩ (.slice (some ⟨g9,0,none⟩) (N+1) c9) (Nat.ne_of_lt (Nat.lt_succ_self _))).other ⟨w.heap.size+1,1,none⟩ (.int .i64 ((k+q:Nat):Int)) (Nat.ne_of_lt (Nat.lt_succ_self _))).other ⟨w.heap.size+1,2,none⟩ (.int .u32 P) (Nat.ne_of_lt (Nat.lt_succ_self _)));have g0:=nO w9 ⟨w.heap.size+1,0,none⟩ (.slice (some ⟨g9,0,none⟩) (N+1) c9);have J:=nO (w9.setCell ⟨w.heap.size+1,0,none⟩ (.slice (some ⟨g9,0,none⟩) (N+1) c9)) ⟨w.heap.size+1,1,none⟩ (.int .i64 ((k+q:Nat):Int));have g2:=nO ((w9.setCell ⟨w.heap.size+1,0,none⟩ (.slice (some ⟨g9,0,none⟩) (N+1) c9)).setCell ⟨w.heap.size+1,1,none⟩ (.int .i64 ((k+q:Nat):Int))) ⟨w.heap.size+1,2,none⟩ (.int .u32 P);have aa:=nP (nP g0 J) g2;have aM:=ag (bN.grown aa (Nat.lt_succ_self _));have vX:ah w w9:=u4.trans (bI.mono (by omega));have iO:=ag (vX.grown aa vX.size (fun i U=>by cases U;exact Nat.le_succ _));have jy:=ag (aC (aC u5 bI.size) aa.size);have mF:=ag (qoy vL.o (by rw [<-D.o.2.2.2];exact z));rw [<-D.o.2.2.2] at mF;clear C hV u1 u2 u3 u4 h1 h2 g0 J g2 aa bI vX bN cf df z aF aH Xl MJ ao;go_wp2_with (at_builtin;refine ku rfl (.tmp 40) (.tmp 42) 42 rfl rfl rfl rfl ab ?_)
      have e1:(S++[(A,P,q)]).length=N+1:=by rw [List.length_append,QQ.o];rfl
      have e2:dF (S++[(A,P,q)])=k+q:=by rw [MC,D.o.1]
      have e3:gB 0 (S++[(A,P,q)])=P:=Qz _ _ _;have e4:(S++[(A,P,q)]).map (·.1)=m++[A]:=by rw [List.map_append,D.o.2.2.1];rfl
      refine ⟨⟨S++[(A,P,q)],some ⟨g9,0,none⟩,c9,mF,ag (by rw [e1,e2,e3];exact Z.o),ag (by rw [e1,e4];exact aM.o),vO,iO.o,jy.o⟩, ?_⟩;have e5:=congrArg lgK Z.o.cells.2.1;rw [HM.o];exact Nat.lt_of_le_of_lt (Nat.le_of_eq (congrArg (fun x=>n+1 - x) e5)) aK.o
    ·have HZ:=ag (show l.drop 0=[] by rw [ar];rfl)
     have xZ:=ag (show jC w (.slice (some ad) 0 c) (l.drop 0) by rw [HZ.o];exact .inl ⟨rfl,.inr ⟨_,_,rfl⟩⟩);have z:=(show q=0 by have:=congrArg (fun x:Op=>x.2.2) ho;rw [HZ.o,Xh] at this;exact this);clear ho ar;go_wp2;have C:aL (fun d=>aZ d (w.heap.size+1) (.slice r N s) 0 p 0∧aZ d w.heap.size (.slice none 0 0) 0 0 0∧bu d (w.heap.size+2) (.slice r N s) m∧ah w d∧w.heap.size+2<=d.heap.size):=(eH _ _).and ((eH _ _).and (aL.and (fun _ _ h B=>h.a B) ((jW w).and (FK _))));have F:(fun d=>aZ d (w.heap.size+1) (.slice r N s) 0 p 0∧aZ d w.heap.size (.slice none 0 0) 0 0 0∧bu d (w.heap.size+2) (.slice r N s) m∧ah w d∧w.heap.size+2<=d.heap.size) wr:=⟨oF.o,W.o,Q.o,X,al⟩;refine gH C (by kernel_rfl) F ?_
     clear F;intro j;generalize wr.drew=wd at *;refine dm [0,1,2,3,4,5,6,7,8,9,10,11] (fuel:=8) (a':=?Na) (by kernel_rfl) (by kernel_rfl) (by kernel_rfl) ?zo j ?Nb
     case zo=>
      iterate 12 (apply Yl.cons rfl (by kernel_rfl);focus (rintro d ⟨x1,x2,x3,x4,x5⟩;obtain ⟨y0,y1,y2,y3,y4⟩:=x1.cells;go_simp<;>with_reducible rfl);try simp only [az])
      exact Yl.nil
     refine uT C (i:=12) (R:=fun v wy=>∃t u,v=.tuple #[.slice t A.length u,.int .u32 P,.int .i64 q]∧aX wy (w.heap.size+2) (.slice t A.length u) A) rfl (by kernel_rfl) (by rfl) (by go_simp) j ((an.o _ j.2.2.2.1 (some ad) 0 c (by exact xZ.o.a j.2.2.2.1)).mono fun e w1 ⟨v,h1,h2,h3⟩=>by obtain ⟨t,u,rfl⟩:=h2.form;exact ⟨_,h1,⟨t,u,rfl,h2.mono j.2.2.2.2⟩,h3⟩) (fun v _ _ ⟨t,u,h,h'⟩ B=>⟨t,u,h,h'.a B⟩) ?_
     intro av aw H jK eY;clear C j;have C:=H;have j:=eY;clear H eY;obtain ⟨t,u,rfl,hV⟩:=jK;try simp only [az]
     refine dm [13,14,15,16,17,18,19] (fuel:=0) (a':=?zp6a) (by kernel_rfl) (by kernel_rfl) (by kernel_rfl) ?zp6p j ?zp6n
     case zp6p=>
      iterate 7 (apply Yl.cons rfl (by kernel_rfl);focus (rintro d ⟨⟨x1,x2,x3,x4,x5⟩,_⟩;go_simp<;>with_reducible rfl);try simp only [az])
      exact Yl.nil
     refine wpAnyH_done (by kernel_rfl) ?_ _
     refine NoPanic.normal ?_
     subst z;have Z:=ag (Xk vL.o (by have:=congrArg (fun x:Op=>x.2.2) D.o.2.2.2;exact this.symm));obtain ⟨⟨u1,u2,u3,u4,u5⟩, -⟩:=j;have sU:=ag u1;have vM:=ag u2;have BQ:=ag u3;obtain ⟨c0,c1,c2,c3,cf⟩:=u1.cells;clear C hV u1 u2 u3 cf;go_wp2_with fail
     refine (Am f (some ad) 0 c (l.drop 0) _ (xZ.o.a u4) (QP zg.o) (fun b B=>HA.o b (List.mem_of_mem_drop B))).mono ?_
     rintro e I ⟨rfl,g⟩;obtain ⟨G,hG⟩:=ai (oW f (l.drop 0));rw [<-hG];have T:=sU.o.a g sU.o.lt aI;have h6:=vM.o.a g vM.o.lt aI;have h7:=BQ.o.a g;have jh:ah w I:=u4.trans (g.mono u4.size);have ax:=T.cells.2.2.2.2 3;obtain ⟨d0,d1,d2,d3, -⟩:=T.cells;have J:=nO I ⟨w.heap.size+1,3,none⟩ (.int .u32 G);have h8:=T.set3 G;have h9:aZ (I.setCell ⟨w.heap.size+1,3,none⟩ (.int .u32 G)) w.heap.size (.slice none 0 0) 0 0 0:=by
      unfold aZ at *;rw [J.block _ (Array.getElem?_eq_some_iff.1 h6).1 (by simp)];exact h6
     have K:=h7.grown J (by show w.heap.size+1<_;omega);have qE:ah w (I.setCell ⟨w.heap.size+1,3,none⟩ (.int .u32 G)):=jh.grown J jh.size (fun i U=>by cases U;show w.heap.size<=w.heap.size+1;omega);have HW:=ag (⟨_,rfl⟩:∃w6,w6=I.setCell ⟨w.heap.size+1,3,none⟩ (.int .u32 G));obtain ⟨ws,bP,L,y⟩:=QD (.slice r N s) (.int .i64 0) (.int .u32 p) (.int .u32 G) h9;have M:=K.grown y (by omega);have qa:ah w ws:=qE.grown y qE.size (fun i U=>by cases U;exact Nat.le_refl _);obtain ⟨p0,p1,p2,p3, -⟩:=Au L;obtain ⟨q0,q1,q2,q3,O⟩:=h9.cells;obtain ⟨r0,r1,r2,r3, -⟩:=h8.cells;have oq:=ag bP;have Hy:=ag M;have qP:=ag hG;have f0:=O 0;have f1:=O 1;have f2:=O 2;have f3:=O 3;clear L y bP T h6 h7 h8 h9 K M J g HW hG O c0 c1 c2 c3;go_wp2;rw [oq.o];refine bodyPost_ret (v:=.tuple #[.agg #[.slice r N s,.int .i64 0,.int .u32 p,.int .u32 G],.int .i64 0]) ?_ rfl ⟨.slice r N s, ?_, ?_,qa⟩
     ·simp [results,Tryz.results34,go_sem,p0,p1,p2,p3]
     ·rw [HE.o,uL.o,Z.o,qP.o,D.o.1,D.o.2.1];try rfl
     ·rw [uL.o,Z.o,D.o.2.2.1];exact Hy.o.mono (by omega)
  ·have HE:=ag (show Ay f l=fw l by unfold Ay;rw [if_neg h0])
   have HV:=ag (show x8 f l=([],0,0,0) by unfold x8;rw [if_pos (by rw [HE.o];exact he)]);obtain ⟨E,hE⟩:=ai (fw l);have iB:=ag hE;rw [<-hE] at he;have aT:(E !=0)=true:=by simpa using he
   clear hE he h0;have V:∀o,ah w (w.alloc o):=fun o=>aB.alloc aI o
   go_enter Tryz.func34,Tryz.ntmps34;go_wp2_with fail
   refine (Xg a n c l _ (HR.o.a (V _))).mono ?_
   rintro e w1 ⟨rfl,rfl⟩;rw [<-iB.o];go_wp2;refine bodyPost_ret (v:=.tuple #[.agg #[.slice none 0 0,.int .i64 0,.int .u32 0,.int .u32 0],.int .i64 E]) ?_ rfl ⟨.slice none 0 0, ?_, ?_,V _⟩
   ·simp [results,Tryz.results34,go_sem]
   ·rw [HE.o,HV.o,iB.o];rfl
   ·rw [HV.o];exact bu.nil _ _
end Go.Proofs.YthpammbgcidloaaGreat
