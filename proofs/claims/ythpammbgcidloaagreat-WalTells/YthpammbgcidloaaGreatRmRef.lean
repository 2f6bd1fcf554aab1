/-
  What the document's own Check, Blocks, Free and Take do.
-/
import Derived.Test.YthpammbgcidloaaGreatFiCut5
set_option maxHeartbeats 1000000
set_option maxRecDepth 100000
namespace Go.Proofs.YthpammbgcidloaaGreat
open Go.RowKit
set_option linter.all false
structure FsV where
 a1:au
 n1:Nat
 c1:Nat
 a2:au
 n2:Nat
 c2:Nat
 a3:au
 n3:Nat
 c3:Nat
 g:Nat
 a4:au
 n4:Nat
 c4:Nat
 a5:au
 n5:Nat
 c5:Nat
abbrev FsV.dv (x:FsV):Value:=.agg #[.slice x.a1 x.n1 x.c1,.slice x.a2 x.n2 x.c2,.slice x.a3 x.n3 x.c3]
abbrev FsV.val (x:FsV):Value:=.agg #[.slice x.a1 x.n1 x.c1,.slice x.a2 x.n2 x.c2,.slice x.a3 x.n3 x.c3,.int .u32 x.g,.slice x.a4 x.n4 x.c4,.slice x.a5 x.n5 x.c5]
abbrev FsV.cs (x:FsV):Array Value:=#[.slice x.a1 x.n1 x.c1,.slice x.a2 x.n2 x.c2,.slice x.a3 x.n3 x.c3,.int .u32 x.g,.slice x.a4 x.n4 x.c4,.slice x.a5 x.n5 x.c5]
structure RdX (w:World) (x:FsV) (f:Fsd):Prop where
 d:RdD w x.dv f.1
 n1:x.n1=f.1.1.length
 n2:x.n2=f.1.2.1.length
 g:x.g=f.2.1
 fl:RdF w (.slice x.a4 x.n4 x.c4) f.2.2.1
 n4:x.n4=f.2.2.1.length
 kl:RdF w (.slice x.a5 x.n5 x.c5) f.2.2.2
 n5:x.n5=f.2.2.2.length
theorem RdX.a {w w':World} {x:FsV} {f:Fsd} (h:RdX w x f) (hb:ah w w'):RdX w' x f:=⟨h.d.a hb,h.n1,h.n2,h.g,h.fl.a hb,h.n4,h.kl.a hb,h.n5⟩
structure WfX (f:Fsd):Prop where
 g:f.2.1<4294967296
 fl:wfFs f.2.2.1
 kl:wfFs f.2.2.2
theorem RdD.mk3 {w:World} {f:au} {a d1:Nat} {g:au} {b d2:Nat} {i:au} {j k:Nat} {d:Dk} (h:RdD w (.agg #[.slice f a d1,.slice g b d2,.slice i j k]) d):a=d.1.length∧b=d.2.1.length:=by
 obtain ⟨l,c1,a2,c2,a3,c3,e,_⟩:=h.form;injection e with e;have e1:=congrArg (fun (z:Array Value)=>z[0]!) e;have c:=congrArg (fun (z:Array Value)=>z[1]!) e;simp at e1 c
 exact ⟨e1.2.1,c.2.1⟩
def RdFs (w:World) (v:Value) (f:Fsd):Prop:=∃d1 d2 d3 x y,v=.agg #[d1,d2,d3,.int .u32 f.2.1,x,y]∧RdD w (.agg #[d1,d2,d3]) f.1∧RdF w x f.2.2.1∧RdF w y f.2.2.2
theorem RdFs.form {w:World} {v:Value} {f:Fsd} (h:RdFs w v f):∃x:FsV,v=x.val∧RdX w x f:=by
 obtain ⟨d1,d2,i,y,z,rfl,a,b,c⟩:=h;obtain ⟨j,c1,a2,c2,a3,c3,e,_⟩:=a.form;have e1:d1=_:=congrArg (fun v:Value=>match v with | .agg z=>z[0]! | _=>undef) e;have d:d2=_:=congrArg (fun v:Value=>match v with | .agg z=>z[1]! | _=>undef) e;have g:i=_:=congrArg (fun v:Value=>match v with | .agg z=>z[2]! | _=>undef) e;simp at e1 d g
 subst e1 d g;obtain ⟨k,c4,rfl⟩:=b.form;obtain ⟨l,m,rfl⟩:=c.form;exact ⟨⟨j,_,c1,a2,_,c2,a3,_,c3,f.2.1,k,_,c4,l,_,m⟩,rfl,a,rfl,rfl,rfl,b,rfl,c,rfl⟩
def aW (w:World) (base:Nat) (v:Value) (f:Fsd):Prop:=∃d1 d2 d3 x y,v=.agg #[d1,d2,d3,.int .u32 f.2.1,x,y]∧jL w base (.agg #[d1,d2,d3]) f.1∧bJ w base x f.2.2.1∧bJ w base y f.2.2.2
theorem aW.rd {w:World} {base:Nat} {v:Value} {f:Fsd} (h:aW w base v f):RdFs w v f:=by
 obtain ⟨d1,d2,a,x,y,rfl,b,c,d⟩:=h;exact ⟨d1,d2,a,x,y,rfl,b.rd,c.rd,d.rd⟩
theorem aW.a {w w':World} {base:Nat} {v:Value} {f:Fsd} (h:aW w base v f) (hb:ah w w'):aW w' base v f:=by
 obtain ⟨d1,d2,a,x,y,rfl,b,c,d⟩:=h;exact ⟨d1,d2,a,x,y,rfl,b.a hb,c.a hb,d.a hb⟩
theorem aW.mono {w:World} {base a:Nat} {v:Value} {f:Fsd} (h:aW w base v f) (hb:a<=base):aW w a v f:=by
 obtain ⟨d1,d2,b,x,y,rfl,c,d,e⟩:=h;exact ⟨d1,d2,b,x,y,rfl,c.mono hb,d.mono hb,e.mono hb⟩
/-! ### variables -/
def Bq (w:World) (p:Nat) (t:TypeId) (cs:Array Value):Prop:=w.heap[p]? =some (.cells cs t (0,0))
theorem Bq.lt {w:World} {p:Nat} {t:TypeId} {cs:Array Value} (h:Bq w p t cs):p<w.heap.size:=(Array.getElem?_eq_some_iff.1 h).1
theorem Bq.a {w w':World} {p:Nat} {t:TypeId} {cs:Array Value} (h:Bq w p t cs) (hb:ah w w'):Bq w' p t cs:=(hb.block _ h.lt).trans h
theorem Bq.below {w w':World} {p B:Nat} {t:TypeId} {cs:Array Value} (h:Bq w p t cs) (a:p<B) (hb:Below B w w'):Bq w' p t cs:=(hb.block _ a).trans h
theorem Bq.grown {w w':World} {p q:Nat} {t:TypeId} {cs:Array Value} (h:Bq w p t cs) (hb:w.grownBy w' (some q)) (a:p≠q):Bq w' p t cs:=(hb.block _ h.lt (by intro e;cases e;exact a rfl)).trans h
theorem Bq.cell {w:World} {p:Nat} {t:TypeId} {cs:Array Value} (h:Bq w p t cs) (j:Nat):w.cell? ⟨p,j,none⟩=cs[j]?:=cell_of_row w p j cs t (0,0) h
theorem Bq.fz {w:World} {p:Nat} {t:TypeId} {cs:Array Value} (h:Bq w p t cs) (j:Nat):w.frozen? ⟨p,j,none⟩=false:=frozen_of_row w p j _ _ h
theorem Bq.new (w:World) (t:TypeId) (cs:Array Value):Bq (w.alloc (.cells cs t)) w.heap.size t cs:=heap_alloc_new w _
theorem Bq.put {w:World} {p:Nat} {t:TypeId} {cs:Array Value} (h:Bq w p t cs) (j:Nat) (v:Value):Bq (w.setCell ⟨p,j,none⟩ v) p t (cs.setIfInBounds j v):=heap_setCell_same w p j cs t v h
abbrev bf (w:World) (p:Nat) (x:FsV):Prop:=Bq w p 32 x.cs
theorem aV {w:World} {p:Nat} {x:FsV} (h:bf w p x):w.cell? ⟨p,0,none⟩=some (.slice x.a1 x.n1 x.c1)∧w.cell? ⟨p,1,none⟩=some (.slice x.a2 x.n2 x.c2)∧w.cell? ⟨p,2,none⟩=some (.slice x.a3 x.n3 x.c3)∧w.cell? ⟨p,3,none⟩=some (.int .u32 x.g)∧w.cell? ⟨p,4,none⟩=some (.slice x.a4 x.n4 x.c4)∧w.cell? ⟨p,5,none⟩=some (.slice x.a5 x.n5 x.c5):=
 ⟨h.cell 0,h.cell 1,h.cell 2,h.cell 3,h.cell 4,h.cell 5⟩
theorem vU (x:FsV) (f:Fsd) (w:World) (h:RdX w x f):
  Calls Tryz.prog 94 #[x.val] w fun e w'=>e=.returned (.int .i64 (fQ f))∧ah w w':=by
 obtain ⟨g,c⟩:=aj (w.alloc (.cells x.cs 32));have a:ah w g:=by rw [<-c];exact ae
 have j:=ag (show bf g w.heap.size x by rw [<-c];exact Bq.new _ _ _);obtain ⟨k,l,m,n,p,q⟩:=aV j.o;have r:=ag h;have i:=ag a;clear h a;unfold FsV.val;unfold FsV.cs at c;go_enter Tryz.func94,Tryz.ntmps94;go_wp2_with fail
 refine (qvo (d:=f.1) g (r.o.d.a i.o)).mono ?_
 rintro e t ⟨rfl,b⟩;have s:=bT i b;clear k l m n p q c b;go_wp2;go_ret;exact ⟨rfl,s.o⟩
theorem WI (fs:List Fl):(mq fs).length<=4096:=by
 unfold mq;by_cases h:bA fs 4096=0
 ·rw [if_pos h]
  have a:=(zW h).2.2.2.1.1;exact (Ma a).1
 ·rw [if_neg h];simp
theorem qwm (fs:List Fl):∀x∈mq fs,wfX x:=by
 unfold mq;by_cases h:bA fs 4096=0
 ·rw [if_pos h]
  intro x a;have b:=(zW h).2.2.2.1.1;have:=(Ma b).2 x a
  unfold wfX;omega
 ·rw [if_neg h];simp
theorem qsd (f:Fsd):∀x∈fO f,wfX x:=by
 intro x a;rcases List.mem_append.1 a with h | h
 ·exact qwm _ x h
 ·exact qwm _ x h
theorem Bw (x:FsV) (f:Fsd) (w:World) (h:RdX w x f) (z:WfX f):
  Calls Tryz.prog 102 #[x.val] w fun e w'=>∃v,e=.returned v∧bB w' w.heap.size v (fO f)∧ah w w':=by
 obtain ⟨A,r⟩:=aj (w.alloc (.cells x.cs 32));have l:ah w A:=by rw [<-r];exact ae
 have O:=ag (show bf A w.heap.size x by rw [<-r];exact Bq.new _ _ _);obtain ⟨B,C,D,E,F,G⟩:=aV O.o;have s:=ag h;have H:=ag l;clear h l;unfold FsV.val;unfold FsV.cs at r;go_enter Tryz.func102,Tryz.ntmps102;go_wp2_with fail
 refine (qwg _ _ _ f.2.2.1 A (s.o.fl.a H.o) s.o.n4 z.fl).mono ?_
 rintro e T ⟨U,rfl,g,i⟩;have P:=ag (O.o.a i);have I:=bT H i;obtain ⟨t,j⟩:=ai ((mq f.2.2.1).length);obtain ⟨J,K,V⟩:∃a c,U=.slice a t c:=by rw [j];exact g.form
 subst V;have Q:=ag (g.mono H.o.size);have W:=ag j;clear B C D E F G r i g j;obtain ⟨B,C,D,E,F,G⟩:=aV P.o;go_wp2_with fail
 refine (qwg _ _ _ f.2.2.2 T (s.o.kl.a I.o) s.o.n5 z.kl).mono ?_
 rintro e m ⟨X,rfl,k,d⟩;have vP:=ag (P.o.a d);have R:=bT I d;obtain ⟨u,L⟩:=ai ((mq f.2.2.2).length);obtain ⟨M,N,Y⟩:∃a c,X=.slice a u c:=by rw [L];exact k.form
 subst Y;have Z:=ag (k.mono I.o.size);have n:=ag (Q.o.a d);have WJ:=ag L;clear B C D E F G d k L Q z;have b:ah m (m.alloc (.cells #[.slice J t K,.slice M u N] 96)):=ae;have p:=qom m.heap.size J t K M u N (mq f.2.2.1) (mq f.2.2.2) (m.alloc (.cells #[.slice J t K,.slice M u N] 96)) (heap_alloc_new m _) (n.o.rd.a b) W.o (Z.o.rd.a b) WJ.o (by have:=WI f.2.2.1;have:=WI f.2.2.2;omega);have y:=ag b;clear b;go_wp2_with fail
 refine p.mono ?_
 rintro e w4 ⟨v4,rfl,S,q⟩;have b:=y.o.trans (q.mono (y.o.size));have iR:=bT R b;have mD:=ag (S.mono (aC R.o.size y.o.size));clear p b y q S;go_wp2;go_ret;exact ⟨_,rfl,mD.o,iR.o⟩
theorem PO (l:List Pu) (k:Nat) (a:k<l.length):(l.take (k+1)).any (fun p=>decide (p.1<34))=((l.take k).any (fun p=>decide (p.1<34)) || decide ((l[k]).1<34)):=by
 rw [List.take_succ_eq_append_getElem a,List.any_append];simp
theorem qne (N:Int) (u:Value) (w:World) (b:u.oneCell'=true):
  Calls Tryz.prog 92 #[.agg #[.int .i64 N,u]] w fun e w'=>e=.returned (.bool (decide (N<34)))∧ah w w':=by
 have a:∀o,ah w (w.alloc o):=fun o=>ae
 go_enter Tryz.func92,Tryz.ntmps92;go_wp2;go_ret;exact ⟨rfl,a _⟩
theorem qse (a:au) (n c:Nat) (l:List Pu) (w:World) (h:RdW w (.slice a n c) l) (s:n=l.length):
  Calls Tryz.prog 138 #[.slice a n c,.func (.func 92) #[] #[]] w fun e w'=>∃i:Int,e=.returned (.int .i64 i)∧decide (0<=i)=l.any (fun p=>decide (p.1<34))∧ah w w':=by
 have A:n<=maxLen:=s ▸ h.len_le;unfold maxLen at A;have B:=ag h;have v:=ag s;clear h s;go_enter Tryz.func138,Tryz.ntmps138;go_wp2;go_loopw [8] (fun i wr=>∃k:Nat,k<=n∧i=.int .i64 k∧af ((l.take k).any (fun p=>decide (p.1<34))=false)∧ah w wr) (fun i _=>n - (intOf i).toNat)
 case atStart=>exact ⟨0,Nat.zero_le _,rfl,ag (by simp),aB⟩
 case round=>
  obtain ⟨k,I,rfl,f,d⟩:=hrel;by_cases C:k<n
  ·have x:(k:Int)<n:=by omega
   have j:k<l.length:=by have:=v.o;omega
   obtain ⟨b,D,rfl,y,J,K,L,E,F,G⟩:=(B.o.a d).at k j;obtain ⟨N,t⟩:=ai ((l[k]).1);rw [<-t] at y;have z:=ag t;clear F G t;go_wp2_with fail
   refine (qne N _ _ rfl).mono ?_
   rintro e H ⟨rfl,q⟩;have g:ah w H:=d.trans (q.mono d.size);clear q y E;by_cases m:N<34
   ·have r:=ag (show l.any (fun p=>decide (p.1<34))=true by
     rw [List.any_eq_true];exact ⟨l[k],List.getElem_mem j,by rw [<-z.o];simpa using m⟩)
    have u:decide (N<34)=true:=by simpa using m
    clear m;go_wp2;go_ret;exact ⟨_,rfl,by rw [r.o];simp,g⟩
   ·have r:=ag (show (l.take (k+1)).any (fun p=>decide (p.1<34))=false by
     rw [PO l k j,f.o,<-z.o];simpa using m)
    have u:decide (N<34)=false:=by simpa using m
    clear m;go_wp2;go_roundw
    case rel=>exact ⟨k+1,by omega,rfl,r,g⟩
    case measure=>simp only [intOf];omega
  ·have M:decide ((k:Int)<n)=false:=aA (by omega)
   have r:=ag (show l.any (fun p=>decide (p.1<34))=false by
    have:=f.o
    rwa [List.take_of_length_le (by have:=v.o;omega)] at this)
   go_wp2;go_ret;exact ⟨_,rfl,by rw [r.o];rfl,d⟩
theorem qmd (a:au) (n c:Nat) (l:List Pu) (w:World) (b:RdW w (.slice a n c) l) (g:n=l.length):
  Calls Tryz.prog 91 #[.slice a n c,.func (.func 92) #[] #[]] w fun e w'=>e=.returned (.bool (l.any (fun p=>decide (p.1<34))))∧ah w w':=by
 have d:=qse a n c l w b g;clear b g;go_enter Tryz.func91,Tryz.ntmps91;go_wp2_with fail
 refine d.mono ?_
 rintro e k ⟨i,rfl,h,f⟩;have j:=ag h;clear h;go_wp2;go_ret;exact ⟨by rw [<-j.o];rfl,f⟩
theorem DD {l:List Ex} {k j:Nat} (c:k<l.length) (d:j<k) (e:l.length<=4096) (h:ol l[k] (l[j]'(by omega))=true):dY l=8:=by
 by_cases b:dI l=0
 ·refine qnr (k:=k+1) c b ?_
  rw [oO l k c,LH,Bool.and_eq_false_iff];right
  rw [List.all_eq_false];refine ⟨l[j]'(by omega), ?_,by rw [h];simp⟩;rw [List.mem_take_iff_getElem];exact ⟨j,by omega,rfl⟩
 ·rw [VD b]
  rcases qno l with ⟨_,a⟩ | ⟨a,_⟩ | ⟨a,_⟩
  ·omega
  ·exact a
  ·exact absurd a b
theorem Ww {l:List Ex} {k:Nat} (a:k<l.length) (b:l.length<=4096) (h:eP l[k]=false):dY l=8:=by
 have:=Zt a b h
 rw [VD (by rw [this];decide),this]
theorem Dq {l:List Ex} (h:4096<l.length):dY l=4:=by
 have:dI l=4:=by unfold dI;rw [if_pos h]
 rw [VD (by rw [this];decide),this]
theorem qop (a:au) (n c:Nat) (l:List Ex) (w:World) (p:RdE w (.slice a n c) l) (G:n=l.length) (z:∀x∈l,wfX x):
  Calls Tryz.prog 160 #[.slice a n c] w fun e w'=>e=.returned (.int .i64 (dY l))∧ah w w':=by
 have P:n<=maxLen:=G ▸ p.len_le;unfold maxLen at P;have H:=ag p;have A:=ag G;have V:=ag z;clear p G z;by_cases g1:n > 4096
 ·have q:=ag (Dq (l:=l) (by have:=A.o;omega))
  have I:(4096:Int)<n:=by omega
  go_enter Tryz.func160,Tryz.ntmps160;go_wp2;go_ret;exact ⟨by rw [q.o];rfl,aB⟩
 have I:decide ((4096:Int)<n)=false:=aA (by omega);clear P;go_enter Tryz.func160,Tryz.ntmps160;go_wp2;go_loopw [3] (fun i wr=>∃k:Nat,k<=n∧i=.int .i64 k∧af (∀x∈l.take k,eP x=true)∧af (kY (l.take k)=true)∧ah w wr) (fun i _=>n - (intOf i).toNat)
 case atStart=>exact ⟨0,Nat.zero_le _,rfl,ag (by simp),ag (by simp [kY]),aB⟩
 case round=>
  obtain ⟨k,hk,rfl,m,B,d⟩:=hrel;by_cases W:k<n
  ·have Q:(k:Int)<n:=by omega
   have f:k<l.length:=by have:=A.o;omega
   have X:wrap64 ((k:Int)+1)=(k:Int)+1:=vo (by omega);obtain ⟨b,g,e,J,K⟩:=(H.o.a d).at k f;subst e;go_wp2_with fail
   refine (qvt (l[k]) (V.o _ (List.getElem_mem f)) _).mono ?_
   rintro e wc ⟨rfl,C⟩;have R:ah w wc:=d.trans (C.mono d.size);clear C;cases hp:eP l[k] with
   | false=>
    have q:=ag (Ww f (by have:=A.o;omega) hp);clear hp;go_wp2;go_ret;exact ⟨by rw [q.o];rfl,R⟩
   | true=>
    have Y:=ag hp;have T:=ag (show ∀x∈l.take (k+1),eP x=true by
     intro x s;rw [oO l k f] at s;rcases List.mem_append.1 s with s | s
     ·exact m.o x s
     ·rw [List.mem_singleton.1 s];exact hp)
    clear hp J K d;go_wp2;go_loopw [4] (fun i wr=>∃j:Nat,j<=k∧i=.int .i64 j∧af (∀y∈l.take j,ol l[k] y=false)∧ah w wr) (fun i _=>k - (intOf i).toNat)
    case atStart=>exact ⟨0,Nat.zero_le _,rfl,ag (by simp),R⟩
    case round=>
     obtain ⟨j,hj,rfl,D,d⟩:=hrel;by_cases L:j<k
     ·have U:(j:Int)<k:=by omega
      have E:j<l.length:=by omega
      have Z:j<n:=by omega
      have aa:wrap64 ((j:Int)+1)=(j:Int)+1:=vo (by omega);obtain ⟨b,g,e,J,K⟩:=(H.o.a d).at k f;cases e;obtain ⟨b,g,e,q2,q3⟩:=(H.o.a d).at j E;cases e;have M:=ag (T.o (l[j]) (by rw [List.mem_take_iff_getElem];exact ⟨j,by omega,rfl⟩));obtain ⟨S,N⟩:∃S:World->Prop,S=fun t=>(t.cell? ⟨b,g+k*2,none⟩=some (.int .i64 (l[k]).1)∧t.cell? ⟨b,g+k*2+1,none⟩=some (.int .i64 (l[k]).2))∧(t.cell? ⟨b,g+j*2,none⟩=some (.int .i64 (l[j]).1)∧t.cell? ⟨b,g+j*2+1,none⟩=some (.int .i64 (l[j]).2))∧ah wr t:=⟨_,rfl⟩
      have O:aL S:=by rw [N];exact ((aR _ _).and (aR _ _)).and (((aR _ _).and (aR _ _)).and (jW wr))
      have F:S wr:=by rw [N];exact ⟨⟨J,K⟩,⟨q2,q3⟩,aB⟩
      go_wp2;rw [N] at O F;refine gH O (by kernel_rfl) F ?_
      intro u;refine dm [0,1,2,3,4,5,6,7] (fuel:=1) (a':=?Mg) (by kernel_rfl) (by kernel_rfl) (by kernel_rfl) ?xO u ?Mh
      case xO=>
       iterate 8 (apply Yl.cons rfl rfl;focus (rintro t ⟨⟨x1,x2⟩,⟨x3,x4⟩,x5⟩;go_simp<;>with_reducible rfl);try simp only [az])
       exact Yl.nil
      refine qo O (i:=8) (v:=.bool (ol l[k] l[j])) rfl (by kernel_rfl) (by rfl) (by go_simp) u (qz6 (l[k]) (l[j]) Y.o M.o _) ?_
      clear u;intro ab u;try simp only [az]
      refine wpAnyH_done (by kernel_rfl) ?_ _
      refine NoPanic.normal ?_
      cases hmt:ol l[k] l[j] with
      | true=>
       have q:=ag (DD f L (by have:=A.o;omega) hmt);have r:=d.trans (u.2.2.mono d.size);clear hmt;go_wp2;go_ret;exact ⟨by rw [q.o];rfl,r⟩
      | false=>
       have yS:=ag (show ∀y∈l.take (j+1),ol l[k] y=false by
        intro y h;rw [oO l j E] at h;rcases List.mem_append.1 h with h | h
        ·exact D.o y h
        ·rw [List.mem_singleton.1 h];exact hmt)
       have r:=d.trans (u.2.2.mono d.size);clear hmt;go_wp2;go_roundw
       case rel=>exact ⟨j+1,by omega,rfl,yS,r⟩
       case measure=>simp only [intOf];omega
     ·have hd:decide ((j:Int)<k)=false:=aA (by omega)
      have ZQ:=ag (show kY (l.take (k+1))=true by
       rw [oO l k f,LH,B.o,Bool.true_and,List.all_eq_true];intro y h;rw [show k=j by omega] at h;rw [D.o y h];rfl)
      go_wp2;go_roundw
      case rel=>exact ⟨k+1,by omega,rfl,T,ZQ,d⟩
      case measure=>simp only [intOf];omega
  ·have hd:decide ((k:Int)<n)=false:=aA (by omega)
   have e:k=l.length:=by have:=A.o;omega
   have q:=ag (show dY l=0 from VE (Zu (by omega) (by rw [<-e];exact m.o)) (by have:=B.o;rwa [e,List.take_length] at this));clear e;go_wp2;go_ret;exact ⟨by rw [q.o];rfl,d⟩
theorem qun (a:au) (n c:Nat) (l:List Ex) (w:World) (g:RdE w (.slice a n c) l) (A:n=l.length) (t:∀x∈l,wfX x):
  Calls Tryz.prog 124 #[.slice a n c] w fun e w'=>∃v,e=.returned (.tuple #[v,.int .i64 (dY l)])∧kL w' w.heap.size v (uD l)∧ah w w':=by
 have G:=ag g;have B:=ag A;have S:=ag (qop a n c l w g A t);clear g A t;go_enter Tryz.func124,Tryz.ntmps124;go_wp2_with fail
 refine S.o.mono ?_
 rintro e wa ⟨rfl,H⟩;by_cases h:dY l=0
 ·have C:=ag (LJ h).1
  have D:=ag (show uD l=gM l by unfold uD;rw [if_pos h]);rw [h];have T:=ag h;have lJ:n<=4096:=by have:=(uB C.o).1;have:=B.o;omega
  clear h;go_wp2;go_loopw [5,6] (fun s i wr=>∃k:Nat,k<=n∧i=.int .i64 k∧af (kL wr w.heap.size s (gM (l.take k)))∧ah w wr) (fun _ i _=>n - (intOf i).toNat)
  case atStart=>exact ⟨0,Nat.zero_le _,rfl,ag (kL.nil _ _),H⟩
  case round=>
   obtain ⟨k,hk,rfl,I,d⟩:=hrel;by_cases U:k<n
   ·have J:(k:Int)<n:=by omega
    have f:k<l.length:=by have:=B.o;omega
    have V:wrap64 ((k:Int)+1)=(k:Int)+1:=vo (by omega);obtain ⟨b,W,e,Y,Z⟩:=(G.o.a d).at k f;subst e;have K:=ag (fun wx (hb:ah w wx)=>(G.o.a hb).at k f);have y:=ag (show gM (l.take (k+1))=gM (l.take k)++gL l[k] (l[k]).2.toNat by rw [oO l k f,qkb]);have hx:=(uB C.o).2 _ (List.getElem_mem f);have L:=ag (fun m hm=>qnx (m:=m) C.o f hm);generalize hX:l[k]=X at *;obtain ⟨P,R⟩:=X;simp only at hx y Y Z L K
    obtain ⟨r,rfl⟩:∃r:Nat,R=r:=⟨R.toNat,by omega⟩
    have aa:wrap64 (P+(r:Int))=P+(r:Int):=by unfold wrap64;omega
    have ab:IntKind.i64.wrap (P+(r:Int))=P+(r:Int):=by rw [IntKind.wrap_i64];omega
    clear hX;go_wp2;go_loopw [5,7] (fun s i wr=>∃j:Nat,j<=r∧i=.int .i64 (P+(j:Int))∧af (kL wr w.heap.size s (gM (l.take k)++gL (P,(r:Int)) j))∧ah w wr) (fun _ i _=>(P+r - intOf i).toNat)
    case atStart=>exact ⟨0,Nat.zero_le _,by simp,ag (by simpa [gL] using I.o),d⟩
    case round=>
     obtain ⟨j,hj,rfl,p,z⟩:=hrel;obtain ⟨b',M,e,p0,p1⟩:=K.o wr z;cases e;by_cases ac:j<r
     ·have ZT:P+(j:Int)<P+(r:Int):=by omega
      have N:=L.o j (by omega);have qG:=ag (fun nq:Nat=>qz5 (w:=wr.drewN nq) p.o z.size (by omega) (P+j));have ad:wrap64 (P+(j:Int)+1)=P+(j:Int)+1:=by unfold wrap64;omega
      go_wp2;go_quiet (fail)
      obtain ⟨g9,c9,O,u,Q,q, -⟩:=qG.o nq;have F:=ag (show kL O w.heap.size (.slice (some ⟨g9,0,none⟩) ((gM (l.take k)++gL (P,(r:Int)) j).length+1) c9) (gM (l.take k)++gL (P,(r:Int)) (j+1)) by
       rw [qrh,<-List.append_assoc];exact Q)
      have bI:ah w O:=z.trans ⟨q.os,q.tape,q.output,q.size,q.block⟩;clear Q q;go_wp2_with (at_builtin;refine ku rfl (.tmp 39) (.tmp 41) 130 rfl rfl rfl rfl u ?_)
      go_roundw
      case rel=>exact ⟨j+1,by omega,congrArg (Value.int .i64) (by omega),by rw [<-List.length_append];exact F,bI⟩
      case measure=>simp only [intOf];omega
     ·have hd:decide (P+(j:Int)<P+(r:Int))=false:=aA (by omega)
      have al:decide ((j:Int)<(r:Int))=false:=aA (by omega);have F:=ag (show kL wr w.heap.size _ (gM (l.take (k+1))) by
       rw [y.o,Int.toNat_natCast];have e:j=r:=by omega
       rw [<-e];rw [<-e] at p;exact p.o)
      go_wp2;go_quiet (fail)
      go_wp2;go_roundw
      case rel=>exact ⟨k+1,by omega,rfl,F,below_drewN z _⟩
      case measure=>simp only [intOf];omega
   ·have hd:decide ((k:Int)<n)=false:=aA (by omega)
    have y:=ag (show gM (l.take k)=uD l by rw [D.o,List.take_of_length_le (by have:=B.o;omega)]);go_wp2;go_ret2;exact ⟨_,by rw [T.o];rfl,by rw [<-y.o];exact I.o,d⟩
 ·have D:=ag (show uD l=[] by unfold uD;rw [if_neg h])
  generalize hE:dY l=E at *;have am:(E==0)=false:=by simpa using h
  go_wp2;go_ret2;exact ⟨_,by rw [hE];rfl,by rw [D.o];exact kL.nil _ _,H⟩
end Go.Proofs.YthpammbgcidloaaGreat
