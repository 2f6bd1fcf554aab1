/-
  Of the document's side of layer 5: Read: what its steps do to memory.
-/
import Derived.Test.YthpammbgcidloaaGreatWal9
set_option maxHeartbeats 2000000
set_option maxRecDepth 100000
namespace Go.Proofs.YthpammbgcidloaaGreat
open Go.RowKit
set_option linter.all false
theorem aW.rdx {w:World} {base:Nat} {x:FsV} {f:Fsd} (h:aW w base x.val f):RdX w x f:=by
 obtain ⟨c,a,b⟩:=h.form;have e:c=x:=FsV.ext_val a.symm;subst e;exact b
theorem qy0 (x:FsV) (f:Fsd) (w:World) (h:RdX w x f) (B:(∀g∈f.2.2.1,g.2.length<=1000000000000000)∧∀g∈f.2.2.2,g.2.length<=1000000000000000):
  Calls Tryz.prog 4 #[x.val] w fun e w'=>∃r,e=.returned (.bool r)∧(r=false->(f.1.1.length<=100000∧f.1.2.1.length<=2000∧f.1.2.2.length<=2000)∧WC f.2.2.1∧WC f.2.2.2)∧ah w w':=by
 have C:=ag B;clear B;obtain ⟨y,v⟩:=aj (w.alloc (.cells x.cs 32));have c:ah w y:=by rw [<-v];exact ae
 have D:=ag (show bf y w.heap.size x by rw [<-v];exact Bq.new _ _ _);obtain ⟨i,j,k,l,m,n⟩:=aV D.o;have p:=ag h;have E:=ag c;clear h c;unfold FsV.val;unfold FsV.cs at v;go_enter Tryz.func4,Tryz.ntmps4;go_wp2_with fail
 refine (qz0 (d:=f.1) y (p.o.d.a E.o)).mono ?_
 rintro e G ⟨⟨H,rfl,q⟩,a⟩;have F:=ag (D.o.a a);have z:=bT E a;clear i j k l m n v a;have I:=ag q;clear q;cases H with
 | true=>
  go_wp2;go_ret;exact ⟨_,rfl,(fun h=>by cases h),z.o⟩
 | false=>
 obtain ⟨i,j,k,l,m,n⟩:=aV F.o;go_wp2_with fail
 refine (qon _ _ _ f.2.2.1 G (p.o.fl.a z.o) p.o.n4 C.o.1).mono ?_
 rintro e J ⟨K,rfl,s,b⟩;have L:=ag (F.o.a b);have A:=bT z b;clear i j k l m n b;have M:=ag s;clear s;cases K with
 | true=>
  go_wp2;go_ret;exact ⟨_,rfl,(fun h=>by cases h),A.o⟩
 | false=>
 obtain ⟨i,j,k,l,m,n⟩:=aV L.o;go_wp2_with fail
 refine (qon _ _ _ f.2.2.2 J (p.o.kl.a A.o) p.o.n5 C.o.2).mono ?_
 rintro e Q ⟨N,rfl,t,u⟩;have O:=bT A u;clear i j k l m n u;have P:=ag t;clear t;go_wp2;go_ret;exact ⟨N,rfl,fun h=>⟨I.o (by trivial),M.o (by trivial),P.o h⟩,O.o⟩
def bM (w:World) (q:Nat) (v:Value) (bad:Bool):Prop:=w.heap[q]? =some (.cells #[v,.bool bad] 180 (0,0))
theorem bM.cell0 {w:World} {q:Nat} {v:Value} {bad:Bool} (h:bM w q v bad):w.cell? ⟨q,0,none⟩=some v:=by rw [cell_of_row w q 0 _ _ (0,0) h];rfl
theorem bM.cell1 {w:World} {q:Nat} {v:Value} {bad:Bool} (h:bM w q v bad):w.cell? ⟨q,1,none⟩=some (.bool bad):=by rw [cell_of_row w q 1 _ _ (0,0) h];rfl
theorem bM.a {w w':World} {q:Nat} {v:Value} {bad:Bool} (h:bM w q v bad) (hb:ah w w'):bM w' q v bad:=(hb.block q (Array.getElem?_eq_some_iff.1 h).1).trans h
theorem bM.new (w:World) (v:Value) (bad:Bool):bM (w.alloc (.cells #[v,.bool bad] 180)) w.heap.size v bad:=heap_alloc_new w _
theorem bM.put0 {w:World} {q:Nat} {v:Value} {bad:Bool} (h:bM w q v bad) (u:Value):bM (w.setCell ⟨q,0,none⟩ u) q u bad:=by
 have a:=heap_setCell_same w q 0 _ 180 u h;unfold bM;rw [a];rfl
theorem bM.put1 {w:World} {q:Nat} {v:Value} {bad:Bool} (h:bM w q v bad) (u:Bool):bM (w.setCell ⟨q,1,none⟩ (.bool u)) q v u:=by
 have a:=heap_setCell_same w q 1 _ 180 (.bool u) h;unfold bM;rw [a];rfl
theorem NL (q:Nat) (a:au) (n c:Nat) (l:ak) (bad:Bool) (m k g:Nat) (w:World) (t:bM w q (.slice a n c) bad) (p:Rd w (.slice a n c) l) (u:l.length<=1000000) (h:rd l=some (m,k)) (F:m<=g):
  Calls Tryz.prog 116 #[.pointer (some ⟨q,0,none⟩),.int .u64 g] w fun e w'=>∃a2 c2,e=.returned (.int .u64 m)∧iq (.slice a n c) l (.slice a2 (l.drop k).length c2) (l.drop k)∧w'=w.setCell ⟨q,0,none⟩ (.slice a2 (l.drop k).length c2):=by
 have d:=Wj w (by omega) p;rw [h] at d;unfold qm at d;obtain ⟨D,i,z,G⟩:=NM h;have H:=t.cell0;have I:=frozen_of_row w q 0 _ _ t;rcases p with ⟨u,_⟩ | ⟨b,f,J,e,x,A,B⟩
 ·rw [u] at i;simp at i;omega
 obtain ⟨K,j⟩:=ai l.length;rw [<-j] at e x i;cases e;have L:decide ((g:Int)<m)=false:=aA (by omega);have M:(k:Int)<=n:=by omega
 have N:(0:Int)<=k:=by omega
 have O:(n:Int)<=c:=by omega
 unfold maxLen at A;have v:=ag (show (l.drop k).length=n - k by rw [List.length_drop,<-j]);by_cases r:k=c
 ·have s:=ag (show iq (.slice (some ⟨b,f,none⟩) n c) l (.slice (some ⟨b,f,none⟩) (l.drop k).length 0) (l.drop k) from WE (List.drop_of_length_le (by omega)) 0)
  have y:n=k:=by omega
  have C:=ag (show (l.drop k).length=0 by have:=v.o;omega);rw [C.o] at s ⊢;subst r;subst y;clear B h j i x A u t v C;go_enter Tryz.func116,Tryz.ntmps116;go_wp2_with fail
  refine d.mono ?_
  rintro e E ⟨rfl,rfl⟩;clear d;go_wp2;go_ret;exact ⟨some ⟨b,f,none⟩,0,rfl,s.o,rfl⟩
 ·have s:=ag (show iq (.slice (some ⟨b,f,none⟩) n c) l (.slice (some ⟨b,f+k,none⟩) (l.drop k).length (c - k)) (l.drop k) from FJ j x (by unfold maxLen;omega) i r)
  rw [v.o] at s ⊢;clear B h j u t v;go_enter Tryz.func116,Tryz.ntmps116;go_wp2_with fail
  refine d.mono ?_
  rintro e E ⟨rfl,rfl⟩;clear d;go_wp2;go_ret;exact ⟨some ⟨b,f+k,none⟩,c - k,rfl,s.o,rfl⟩
theorem qy1 (q:Nat) (a:au) (n c:Nat) (l:ak) (bad:Bool) (d:Nat) (w:World) (g:bM w q (.slice a n c) bad) (f:Rd w (.slice a n c) l) (j:l.length<=1000000) (h:∀m k,rd l=some (m,k)->d<m):
  Calls Tryz.prog 116 #[.pointer (some ⟨q,0,none⟩),.int .u64 d] w fun e w'=>e=.returned (.int .u64 0)∧w'=w.setCell ⟨q,1,none⟩ (.bool true):=by
 have b:=Wj w (by omega) f;have o:=g.cell0;have r:=g.cell1;have s:=frozen_of_row w q 1 _ _ g;cases e:rd l with
 | none=>
  rw [e] at b;unfold qm at b;clear f h e g;go_enter Tryz.func116,Tryz.ntmps116;go_wp2_with fail
  refine b.mono ?_
  rintro e i ⟨rfl,rfl⟩;clear b;go_wp2;go_ret;exact ⟨rfl,rfl⟩
 | some p=>
  obtain ⟨m,k⟩:=p;have t:=h m k e;rw [e] at b;unfold qm at b;have u:(d:Int)<m:=by omega
  clear f h e g;go_enter Tryz.func116,Tryz.ntmps116;go_wp2_with fail
  refine b.mono ?_
  rintro e i ⟨rfl,rfl⟩;clear b;go_wp2;go_ret;exact ⟨rfl,rfl⟩
theorem qm5 (m:Nat) (h:m<=1000000):wrap64 (m:Int)=(m:Int):=by unfold wrap64;omega
theorem wo (k m s:Nat) (h:k+m<=1000000) (a:s=k+m):wrap64 ((k:Int)+m)=(s:Int):=by unfold wrap64;omega
theorem qakl {n k m:Nat} (h:k+m<=n):decide ((n:Int) - k<m)=false:=decide_eq_false (by omega)
theorem Dw {n k m:Nat} (a:k<=n) (h:¬m<=n - k):(n:Int) - k<m:=by omega
theorem qakn {w:World} {b a n c k m:Nat} {l:ak} (p:n=l.length) (u:k+m<=n) (v:c<=maxLen) (q:n<=c) (h:Rd w (.slice (some ⟨b,a,none⟩) n c) l) (d:0<n) (f:Nat) (r:m<=f) (g:f<=maxLen):Rd w (.slice (some ⟨b,a+k,none⟩) m f) ((l.drop k).take m):=by
 subst p;have i:((l.drop k).take m).length=m:=by rw [List.length_take,List.length_drop];omega
 rcases h with ⟨h,_⟩ | ⟨x,o,c1,e,y,z,s⟩
 ·rw [h] at d;simp at d
 ·cases e
  refine .inr ⟨b,a+k,f,by rw [i],by omega,g,fun j t=>?_⟩;rw [i] at t;rw [show a+k+j=a+(k+j) by omega,s (k+j) (by omega)];simp
theorem qako (q:Nat) (a:au) (n c:Nat) (l:ak) (bad:Bool) (s r:ak) (w:World) (E:bM w q (.slice a n c) bad) (z:Rd w (.slice a n c) l) (P:l.length<=1000000) (h:ct l=some (s,r)):
  Calls Tryz.prog 117 #[.pointer (some ⟨q,0,none⟩)] w fun e w'=>∃a2 c2,e=.returned (.string (bs s))∧iq (.slice a n c) l (.slice a2 r.length c2) r∧w'=w.setCell ⟨q,0,none⟩ (.slice a2 r.length c2):=by
 cases hr:rd l with
 | none=>rw [ZX hr] at h;cases h
 | some p=>
 obtain ⟨m,k⟩:=p;by_cases i:m<=l.length - k
 case neg=>rw [ZY hr i] at h;cases h
 rw [NN hr i] at h;injection h with h;injection h with es er;have f:=Wj w (by omega) z;rw [hr] at f;unfold qm at f;obtain ⟨Q,t,al,zP⟩:=NM hr;have x0:=E.cell0;have z0:=frozen_of_row w q 0 _ _ E;have L:=z;rcases z with ⟨R,_⟩ | ⟨b,g,c',e,F,M,S⟩
 ·rw [R] at t;simp at t;omega
 obtain ⟨nn,j⟩:=ai l.length;rw [<-j] at e F t i;have G:nn<=1000000:=by omega
 cases e;have A:=ag M;clear M zP;have H:m<=n - k:=i;obtain ⟨d,N⟩:=ai (n - k);rw [<-N] at i H;have u:k+d=n:=by rw [N];exact Nat.add_sub_cancel' t
 have x:k+m<=1000000:=aC (aC (Nat.add_le_add_left i k) (Nat.le_of_eq u)) G;have T:d<=1000000:=aC (aC (Nat.le_add_left d k) (Nat.le_of_eq u)) G;have B:k+m<=n:=aC (Nat.add_le_add_left i k) (Nat.le_of_eq u);have g1:decide ((n:Int) - k<m)=false:=qakl B;have g2:wrap64 (m:Int)=m:=qm5 m (aC (Nat.le_add_left m k) x);have I:wrap64 ((k:Int)+m)=((k+m:Nat):Int):=wo k m _ x rfl;have El:=ag N;have ao:=ag u;clear N u H;have g3:(k:Int)<=n:=Int.ofNat_le.2 t;have g4:(0:Int)<=k:=Int.natCast_nonneg k;have g5:(n:Int)<=c:=Int.ofNat_le.2 F;have g6:((k+m:Nat):Int)<=n:=Int.ofNat_le.2 B;have g7:((k+m:Nat):Int)<=c:=Int.ofNat_le.2 (aC B F);have g8:(k:Int)<=((k+m:Nat):Int):=Int.ofNat_le.2 (Nat.le_add_right k m);have D:=ag (show r.length=n - (k+m) by rw [<-er,List.length_drop,<-j]);have v:∀U V,Rd w (.slice U m V) s->(convert 22 9 (.slice U m V)).run Tryz.prog w=.ok (.string (bs s)) w:=fun U V h=>ik _ _ _ Tryz.underlying22 Tryz.underlying5 Tryz.underlying9 h
 have O:=ag (fun c' M h4=>qakn (m:=m) (k:=k) j B A.o F L (Nat.lt_of_lt_of_le Q t) c' M h4);have ap:=es;subst es;have W:=ag er;by_cases X:k=c
 ·have Y:n=k:=by omega
  have Z:m=0:=by omega
  subst Z;subst X;subst Y;have y:=ag (show iq (.slice (some ⟨b,g,none⟩) n n) l (.slice (some ⟨b,g,none⟩) r.length 0) r from WE (by rw [<-er];exact List.drop_of_length_le (by omega)) 0);have J:r.length=0:=by have:=D.o;omega
  rw [J] at y ⊢;have K:=v (some ⟨b,g,none⟩) 0 (by rw [List.take_zero];exact .inl ⟨rfl,.inr ⟨_,_,rfl⟩⟩);rw [List.take_zero] at K ⊢;clear v O D J W er S hr j P E L g1 g2 I g6 g7 g8 x T B i;have k1:wrap64 ((n:Int) - n)=0:=by rw [Int.sub_self];exact qm5 0 (by omega)
  go_enter Tryz.func117,Tryz.ntmps117;go_wp2_with fail
  refine f.mono ?_
  rintro e w1 ⟨rfl,rfl⟩;clear f;go_wp2;go_ret;exact ⟨some ⟨b,g,none⟩,0,rfl,y.o,rfl⟩
 ·have C:=ag (v (some ⟨b,g+k,none⟩) (c - k) (O.o (c - k) (by omega) (aC (Nat.sub_le c k) A.o)))
  have I9:=C.o;obtain ⟨s,hs⟩:=ai ((l.drop k).take m);rw [<-hs] at I9 ⊢;by_cases om:k+m=c
  ·have y:=ag (show iq (.slice (some ⟨b,g,none⟩) n c) l (.slice (some ⟨b,g,none⟩) r.length 0) r from WE (by rw [<-er];exact List.drop_of_length_le (by omega)) 0)
   have J:r.length=0:=by have:=D.o;omega
   obtain ⟨tt,ab⟩:=ai (k+m);have ac:n=tt:=by omega
   have ad:c=tt:=by omega
   subst ad;subst ac;rw [J] at y ⊢;have e1:m=n - k:=by omega
   have am:(convert 22 9 (.slice (some ⟨b,g+k,none⟩) (n - k) (n - k))).run Tryz.prog w=.ok (.string (bs s)) w:=by
    have:=I9
    rw [<-e1] at this ⊢;exact this
   have an:(k:Int)+(m:Int)=(n:Int):=by omega
   have aq:¬k=n:=by omega
   clear v O D J W er S hr j P E L C hs ab om I g6 g7 g8 e1 B x;go_enter Tryz.func117,Tryz.ntmps117;go_wp2_with fail
   refine f.mono ?_
   rintro e w1 ⟨rfl,rfl⟩;clear f;go_wp2;go_ret
   first
    | exact ⟨some ⟨b,g,none⟩,0,rfl,y.o,rfl⟩
    | exact ⟨rfl,some ⟨b,g,none⟩,0,y.o,rfl⟩
  ·have y:=ag (show iq (.slice (some ⟨b,g,none⟩) n c) l (.slice (some ⟨b,g+(k+m),none⟩) r.length (c - (k+m))) r by rw [<-er];exact FJ j F A.o B om)
   rw [D.o] at y ⊢;clear v O D W er S hr j P E L C hs;go_enter Tryz.func117,Tryz.ntmps117;go_wp2_with fail
   refine f.mono ?_
   rintro e w1 ⟨rfl,rfl⟩;clear f;go_wp2;go_ret;exact ⟨some ⟨b,g+(k+m),none⟩,c - (k+m),rfl,y.o,rfl⟩
theorem qagj (q:Nat) (a:au) (n c:Nat) (l:ak) (bad:Bool) (w:World) (g:bM w q (.slice a n c) bad) (f:Rd w (.slice a n c) l) (j:n=l.length) (u:l.length<=1000000) (h:ct l=none):
  Calls Tryz.prog 117 #[.pointer (some ⟨q,0,none⟩)] w fun e w'=>e=.returned (.string {data:=#[]})∧w'=w.setCell ⟨q,1,none⟩ (.bool true):=by
 have b:=Wj w (by omega) f;have v:=g.cell0;have x:=g.cell1;have y:=frozen_of_row w q 1 _ _ g;cases e:rd l with
 | none=>
  rw [e] at b;unfold qm at b;clear f h e g j;go_enter Tryz.func117,Tryz.ntmps117;go_wp2_with fail
  refine b.mono ?_
  rintro e r ⟨rfl,rfl⟩;clear b;go_wp2;go_ret;exact ⟨rfl,rfl⟩
 | some p=>
  obtain ⟨m,k⟩:=p;obtain ⟨s,i,o,z⟩:=NM e;have d:¬m<=l.length - k:=fun d=>by rw [NN e d] at h;cases h
  rw [e] at b;unfold qm at b;rw [<-j] at d i;have A:(n:Int) - k<m:=Dw i d;have t:n<=1000000:=by omega
  clear f h e g j d;go_enter Tryz.func117,Tryz.ntmps117;go_wp2_with fail
  refine b.mono ?_
  rintro e r ⟨rfl,rfl⟩;clear b;go_wp2;go_ret;exact ⟨rfl,rfl⟩
def pV (most:Nat) (l:ak) (bad:Bool) (m:Nat) (l':ak) (bad':Bool):Prop:=
 (∃k,rd l=some (m,k)∧m<=most∧l'=l.drop k∧bad'=bad)∨((∀x k,rd l=some (x,k)->most<x)∧m=0∧l'=l∧bad'=true)
def yo (l:ak) (bad:Bool) (s:ak) (l':ak) (bad':Bool):Prop:=
 (ct l=some (s,l')∧bad'=bad)∨(ct l=none∧s=[]∧l'=l∧bad'=true)
theorem pV.le {a:Nat} {l c:ak} {bad b:Bool} {m:Nat} (h:pV a l bad m c b):m<=a∧c.length<=l.length:=by
 rcases h with ⟨k,_,h,rfl,_⟩ | ⟨_,rfl,rfl,_⟩
 ·exact ⟨h,by rw [List.length_drop];omega⟩
 ·exact ⟨Nat.zero_le _,Nat.le_refl _⟩
theorem pV.exact {a:Nat} {d r:ak} {bad b:Bool} {m v:Nat} (h:pV a (sm v++r) bad m d b) (hv:v<=a) (f:v<18446744073709551616):m=v∧d=r∧b=bad:=by
 have e:=Ga v f r;rcases h with ⟨k,c,j,g,i⟩ | ⟨c,_⟩
 ·rw [e] at c
  injection c with c;injection c with a1 a2;subst a1 a2;exact ⟨rfl,by rw [g];simp,i⟩
 ·have:=c _ _ e
  omega
theorem yo.le {l b s:ak} {bad a:Bool} (h:yo l bad s b a):b.length<=l.length:=by
 rcases h with ⟨h,_⟩ | ⟨_,_,rfl,_⟩
 ·have:=congrArg List.length (NV h)
  rw [List.length_append] at this;omega
 ·exact Nat.le_refl _
theorem yo.exact {c r s t:ak} {bad a:Bool} (h:yo (tx t++r) bad s c a) (d:t.length<18446744073709551616):s=t∧c=r∧a=bad:=by
 have e:=Ej t r d;rcases h with ⟨b,f⟩ | ⟨b,_⟩
 ·rw [e] at b
  injection b with b;injection b with a1 a2;exact ⟨a1.symm,a2.symm,f⟩
 ·rw [e] at b;cases b
def RX (q:Nat) (v:Value) (l:ak) (w:World) (l':ak) (bad':Bool) (w':World):Prop:=
 ∃a2 c2,iq v l (.slice a2 l'.length c2) l'∧bM w' q (.slice a2 l'.length c2) bad'∧w.grownBy w' (some q)∧bY 180 w w'
theorem XK (q:Nat) (a:au) (n c:Nat) (l:ak) (bad:Bool) (b:Nat) (w:World) (f:bM w q (.slice a n c) bad) (g:Rd w (.slice a n c) l) (j:n=l.length) (o:l.length<=1000000):
  Calls Tryz.prog 116 #[.pointer (some ⟨q,0,none⟩),.int .u64 b] w fun e w'=>∃m p d,e=.returned (.int .u64 (m:Nat))∧pV b l bad m p d∧RX q (.slice a n c) l w p d w':=by
 by_cases h:∃m k,rd l=some (m,k)∧m<=b
 ·obtain ⟨m,k,r,s⟩:=h
  refine (NL q a n c l bad m k b w f g o r s).mono ?_
  rintro e w' ⟨a2,c2,rfl,t,rfl⟩;exact ⟨m,l.drop k,bad,rfl,.inl ⟨k,r,s,rfl,rfl⟩,a2,c2,t,f.put0 _,lV w ⟨q,0,none⟩ _,bY.set f⟩
 ·refine (qy1 q a n c l bad b w f g o (fun m k e=>?_)).mono ?_
  ·by_cases i:m<=b
   ·exact absurd ⟨m,k,e,i⟩ h
   ·omega
  ·rintro e w' ⟨rfl,rfl⟩
   refine ⟨0,l,true,rfl,.inr ⟨fun m k e=>?_,rfl,rfl,rfl⟩,a,c, ?_, ?_,lV w ⟨q,1,none⟩ _,bY.set f⟩
   ·by_cases i:m<=b
    ·exact absurd ⟨m,k,e,i⟩ h
    ·omega
   ·rw [j];exact iq.refl _ _
   ·rw [<-j];exact f.put1 true
theorem Eo (q:Nat) (a:au) (n c:Nat) (l:ak) (bad:Bool) (w:World) (d:bM w q (.slice a n c) bad) (f:Rd w (.slice a n c) l) (g:n=l.length) (i:l.length<=1000000):
  Calls Tryz.prog 117 #[.pointer (some ⟨q,0,none⟩)] w fun e w'=>∃s j b,e=.returned (.string (bs s))∧yo l bad s j b∧RX q (.slice a n c) l w j b w':=by
 cases h:ct l with
 | some p=>
  obtain ⟨s,r⟩:=p;refine (qako q a n c l bad s r w d f i h).mono ?_
  rintro e w' ⟨a2,c2,rfl,k,rfl⟩;exact ⟨s,r,bad,rfl,.inl ⟨h,rfl⟩,a2,c2,k,d.put0 _,lV w ⟨q,0,none⟩ _,bY.set d⟩
 | none=>
  refine (qagj q a n c l bad w d f g i h).mono ?_
  rintro e w' ⟨rfl,rfl⟩;refine ⟨[],l,true,rfl,.inr ⟨h,rfl,rfl,rfl⟩,a,c, ?_, ?_,lV w ⟨q,1,none⟩ _,bY.set d⟩
  ·rw [g];exact iq.refl _ _
  ·rw [<-g];exact d.put1 true
theorem RY {a x b:World} {r:Option Nat} (h:a.grownBy x r) (hb:Below a.heap.size x b):a.grownBy b r:=⟨hb.os.trans h.os,hb.tape.trans h.tape,hb.output.trans h.output,aC h.size hb.size,fun k c d=>(hb.block k c).trans (h.block k c d)⟩
theorem bG.keepT {w w':World} {q:Nat} {y:Value} {t:TypeId} (h:bG w q y) (a:30≠t) (b:bY t w w'):bG w' q y:=b q _ _ _ a h
theorem dV.keepT {w w':World} {q:Nat} {t:TypeId} (h:dV w q) (a:30≠t) (b:bY t w w'):dV w' q:=by obtain ⟨y,h⟩:=h;exact ⟨y,b q _ _ _ a h⟩
theorem aQ.keepT {w w':World} {q:Nat} {s:ByteArray} {y:Value} {t:TypeId} (h:aQ w q s y) (a:98≠t) (b:bY t w w'):aQ w' q s y:=b q _ _ _ a h
theorem dH.keepT {w w':World} {q:Nat} {x y:Value} {t:TypeId} (h:dH w q x y) (a:185≠t) (b:bY t w w'):dH w' q x y:=b q _ _ _ a h
theorem bM.keepT {w w':World} {q:Nat} {v:Value} {bad:Bool} {t:TypeId} (h:bM w q v bad) (a:180≠t) (b:bY t w w'):bM w' q v bad:=b q _ _ _ a h
def Ja (fs:List Fl):Prop:=fs.length<=40∧∀f∈fs,f.1.length<=16∧f.2.length<=64∧∀x∈f.2,qB x
theorem wL {fs:List Fl} {B:Int} (h:eD fs B) (b:B<=4096):Ja fs:=by
 refine ⟨h.1,fun f a=>?_⟩;have c:=LV (h.2.1.1 f a);exact ⟨by omega,by omega,((NY h b).2 f a).2.2⟩
def yt (b:ak) (nn k:Nat) (ds:List Fl) (l:ak) (bad:Bool):Prop:=
 ∀fs,dS fs=b->Ja fs->nn=fs.length∧ds=fs.take k∧l=(fs.drop k).flatMap kv∧bad=false
def RZ (b:ak) (k:Nat) (s:ak) (m j:Nat) (es:List Ex) (l:ak) (bad:Bool):Prop:=
 ∀fs,dS fs=b->Ja fs->∃hk:k<fs.length,s=(fs[k]).1∧m=(fs[k]).2.length∧es=(fs[k]).2.take j∧l=dZ ((fs[k]).2.drop j)++(fs.drop (k+1)).flatMap kv∧bad=false
theorem qy2 {b l:ak} {m:Nat} {bad:Bool} (h:pV 40 b false m l bad):yt b m 0 [] l bad:=by
 rintro fs rfl a;obtain ⟨c,a2,a3⟩:=pV.exact (v:=fs.length) (r:=fs.flatMap kv) h a.1 (by have:=a.1;omega);exact ⟨c,by simp,by simpa using a2,a3⟩
theorem Cg {b l c d:ak} {f k:Nat} {p:List Fl} {s:ak} {m:Nat} {g i:Bool} (h:yt b f k p l false) (w:k<f) (j:yo l false s c g) (n:pV 64 c g m d i):RZ b k s m 0 [] d i:=by
 rintro fs q o;obtain ⟨x,a2,a3,_⟩:=h fs q o;have a:k<fs.length:=by omega
 have r:=o.2 _ (List.getElem_mem a);have e:(fs.drop k).flatMap kv=tx (fs[k]).1++(sm (fs[k]).2.length++(dZ (fs[k]).2++(fs.drop (k+1)).flatMap kv)):=by
  rw [Mr fs k a,List.flatMap_cons];unfold kv;simp
 rw [a3,e] at j;obtain ⟨t,u,v⟩:=j.exact (by omega);rw [u,v] at n;obtain ⟨c1,c2,c3⟩:=n.exact r.2.1 (by omega);exact ⟨a,t,c1,by simp,by rw [c2];simp,c3⟩
theorem zX {b l c d:ak} {k:Nat} {s:ak} {m j:Nat} {es:List Ex} {x y:Nat} {f g:Bool} (h:RZ b k s m j es l false) (A:j<m) (i:pV 4096 l false x c f) (n:pV 4096 c f y d g):RZ b k s m (j+1) (es++[((x:Int),(y:Int))]) d g:=by
 rintro fs q o;obtain ⟨p,r,a2,a3,t,_⟩:=h fs q o;have a:j<(fs[k]).2.length:=by omega
 have u:=(o.2 _ (List.getElem_mem p)).2.2 _ (List.getElem_mem a);have e:dZ ((fs[k]).2.drop j)=sm ((fs[k]).2[j]).1.toNat++(sm ((fs[k]).2[j]).2.toNat++dZ ((fs[k]).2.drop (j+1))):=by
  unfold dZ;rw [Mr (fs[k]).2 j a,List.flatMap_cons];unfold kM;simp
 unfold qB at u;rw [t,e,List.append_assoc] at i;obtain ⟨v,w,z⟩:=i.exact (by omega) (by omega);rw [w,z,List.append_assoc] at n;obtain ⟨c1,c2,c3⟩:=n.exact (by omega) (by omega);refine ⟨p,r,a2, ?_,c2,c3⟩;rw [uE (fs[k]).2 j a,a3,v,c1];congr 2
 exact Prod.ext (by simp only;omega) (by simp only;omega)
theorem qs9 {b l d:ak} {f k:Nat} {g:List Fl} {s:ak} {m j:Nat} {es:List Ex} {bad:Bool} (h:yt b f k g l false) (p:RZ b k s m j es d bad) (w:j<=m) (a:¬(j<m∧bad=false)):yt b f (k+1) (g++[(s,es)]) d bad:=by
 rintro fs i n;obtain ⟨q,a2,a3,_⟩:=h fs i n;obtain ⟨r,t,x,u,v,o⟩:=p fs i n;have e:j=(fs[k]).2.length:=by
  by_cases c:j<m
  ·exact absurd ⟨c,o⟩ a
  ·omega
 subst e;refine ⟨q, ?_, ?_,o⟩
 ·rw [uE fs k r,a2,t,u,List.take_length]
 ·rw [v,List.drop_length]
  simp [dZ]
theorem qakq {b:ak} {B:Int} (c:fq B) (d:¬2048<b.length) (e:kZ b B≠0):kZ b B=8:=by
 cases h:pY b with
 | none=>exact qob c d h
 | some p=>
  obtain ⟨fs,r⟩:=p;cases r with
  | cons x r=>exact qoc c d h (by simp)
  | nil=>
   have a:=(qod c d h).1;by_cases f:eD fs B
   ·rw [if_pos f] at a;exact absurd a e
   ·rw [if_neg f] at a;exact a
theorem RS {b l:ak} {d k:Nat} {a:List Fl} {bad:Bool} {B:Int} (i:fq B) (m:¬2048<b.length) (h:yt b d k a l bad) (p:k<=d) (c:¬(k<d∧bad=false)):
  (bad=false->bA a B=0->dS a=b->kZ b B=0∧rT b B=a)∧(¬(bad=false∧bA a B=0∧dS a=b)->kZ b B=8):=by
 refine ⟨?_, ?_⟩
 ·rintro _ n rfl
  exact qaan n
 ·intro o
  by_cases e:kZ b B=0
  ·exfalso
   obtain ⟨c1,c2⟩:=Wt e;obtain ⟨q,a2,a3,j⟩:=h _ c2 (wL (Cu c1).2 i.2);have f:k=(rT b B).length:=by
    by_cases g:k<d
    ·exact absurd ⟨g,j⟩ c
    ·omega
   rw [f,List.take_length] at a2;exact o ⟨j,by rw [a2];exact c1,by rw [a2];exact c2⟩
  ·exact qakq i m e
theorem qy3 (w:World) (r:Option Nat):w.grownBy w r:=⟨rfl,rfl,rfl,Nat.le_refl _,fun _ _ _=>rfl⟩
theorem qta {w:World} {base q i:Nat} (hb:base<=q) (a:base<=w.heap.size) (u:Value):Below base w (w.setCell ⟨q,i,none⟩ u):=aB.grown (lV w ⟨q,i,none⟩ u) a (by intro k b;cases b;exact hb)
theorem own_lt {w:World} {base:Nat} {v:Value} {l:List Ex} (h:bB w base v l):∀g,v.ownBlock=some g->g<w.heap.size:=by
 intro g e;rcases h.2 with ⟨rfl,_⟩ | ⟨c,cap,b,rfl,_,a,_⟩
 ·cases e
 ·cases e
  exact (Array.getElem?_eq_some_iff.1 a).1
def Mem (y1:World) (Rb F Bf:Nat) (s:ByteArray) (ve:Value) (es:List Ex) (w:World):Prop:=
 aQ w F s ve∧bB w Bf ve es∧y1.grownBy w (some Rb)∧Bf<=w.heap.size∧(Rb<y1.heap.size∧F=y1.heap.size∧Bf=F+1)
theorem Mem.rdr {c w w':World} {a F d:Nat} {s:ByteArray} {e:Value} {es:List Ex} {v:Value} {bad:Bool} (h:Mem c a F d s e es w) (f:bM w a v bad) (b:w.grownBy w' (some a)) (g:bY 180 w w'):Mem c a F d s e es w':=
 ⟨h.1.keepT (by decide) g,yO h.2.1 b f (by decide),NF h.2.2.1 b,aC h.2.2.2.1 b.size,h.2.2.2.2⟩
theorem Mem.a {a w w':World} {b F c:Nat} {s:ByteArray} {d:Value} {es:List Ex} (h:Mem a b F c s d es w) (hb:ah w w'):Mem a b F c s d es w':=
 ⟨h.1.a hb,h.2.1.a hb,RY h.2.2.1 (hb.mono h.2.2.1.size),aC h.2.2.2.1 hb.size,h.2.2.2.2⟩
theorem Mem.setX {d w:World} {f F a X:Nat} {s:ByteArray} {b:Value} {es:List Ex} {p q:Value} (h:Mem d f F a s b es w) (k:dH w X p q) (c:∀g,b.ownBlock=some g->g<X) (v:a<=X) (u:Value):Mem d f F a s b es (w.setCell ⟨X,1,none⟩ u):=by
 have i:=lV w ⟨X,1,none⟩ u;obtain ⟨l,m,j,n,o,r,t⟩:=h;refine ⟨l.keepT (by decide) (bY.set k),World.ownsRow.kept m i (.inr ?_),RY j (qta (by omega) j.size u),aC n i.size,o,r,t⟩;intro e;have:=c X e
 omega
theorem dH.put1 {w:World} {q:Nat} {x y:Value} (h:dH w q x y) (v:Value):dH (w.setCell ⟨q,1,none⟩ v) q x v:=by
 have a:=heap_setCell_same w q 1 _ 185 v h;unfold dH;rw [a];rfl
theorem Mem.app {j w:World} {d F k:Nat} {s:ByteArray} {f:Value} {es:List Ex} {v:Value} {bad:Bool} (h:Mem j d F k s f es w) (q:bM w d v bad) (r:es.length<=1000000) (x y:Int):
  ∃g c a,(Builtin.append_ #[96,96] 96 #[f,.slice (some ⟨w.heap.size,0,none⟩) 1 1]).run Tryz.prog (w.alloc (.cells #[.int .i64 x,.int .i64 y] 185))=.ok (.slice (some ⟨g,0,none⟩) (es.length+1) c) a∧
   aQ a F s f∧Mem j d F k s (.slice (some ⟨g,0,none⟩) (es.length+1) c) (es++[(x,y)]) (a.setCell ⟨F,1,none⟩ (.slice (some ⟨g,0,none⟩) (es.length+1) c))∧bM (a.setCell ⟨F,1,none⟩ (.slice (some ⟨g,0,none⟩) (es.length+1) c)) d v bad:=by
 obtain ⟨t,u,z,l,A,B,C⟩:=h;obtain ⟨g,c,a,b,D,m,n⟩:=qwk u l r x y;have e:=t.keepT (by decide) n;have i:=q.keepT (by decide) n;have o:=lV a ⟨F,1,none⟩ (.slice (some ⟨g,0,none⟩) (es.length+1) c);have p:=RY z (m.mono (by omega));refine ⟨g,c,a,b,e,⟨e.put1 _,yO D o e (by decide),RY p (qta (by omega) p.size _),aC (aC l m.size) o.size,A,B,C⟩, ?_⟩;exact i.keepT (by decide) (bY.set e)
def mf (w0:World) (R0 Rb Db Bs:Nat) (vd:Value) (ds:List Fl) (w:World):Prop:=
 bG w Db vd∧bJ w Bs vd ds∧dV w R0∧ah w0 w∧Bs<=w.heap.size∧(w0.heap.size<=R0∧w0.heap.size<=Rb∧w0.heap.size<=Db∧R0<Bs∧Rb<Bs∧Db<Bs∧R0≠Db∧Rb≠Db∧R0≠Rb)
theorem mf.rdr {w0 w w':World} {c a d f:Nat} {g:Value} {i:List Fl} {v:Value} {bad:Bool} (h:mf w0 c a d f g i w) (l:bM w a v bad) (b:w.grownBy w' (some a)) (j:bY 180 w w'):mf w0 c a d f g i w':=
 ⟨h.1.keepT (by decide) j,h.2.1.keptS b l (by decide) (by decide),h.2.2.1.keepT (by decide) j,h.2.2.2.1.grown b h.2.2.2.1.size (by intro k e;cases e;exact h.2.2.2.2.2.2.1),aC h.2.2.2.2.1 b.size,h.2.2.2.2.2⟩
theorem mf.a {w0 w w':World} {a b c d:Nat} {e:Value} {f:List Fl} (h:mf w0 a b c d e f w) (hb:ah w w'):mf w0 a b c d e f w':=
 ⟨h.1.a hb,h.2.1.a hb,h.2.2.1.a hb,h.2.2.2.1.trans (hb.mono h.2.2.2.1.size),aC h.2.2.2.2.1 hb.size,h.2.2.2.2.2⟩
theorem mf.after {w0 w w':World} {c b d f:Nat} {g:Value} {i:List Fl} {v:Value} {bad:Bool} (h:mf w0 c b d f g i w) (o:bM w b v bad) (a:w.grownBy w' (some b)):mf w0 c b d f g i w':=by
 obtain ⟨p,q,⟨y,r⟩,j,s,e1,l,t,u,x,z,A,m,n⟩:=h;refine ⟨(a.block d (by omega) (by intro e;injection e with e;exact m e.symm)).trans p,q.keptS a o (by decide) (by decide),⟨y,(a.block c (by omega) (by intro e;injection e with e;exact n e)).trans r⟩,j.grown a j.size (by intro k e;cases e;exact l),aC s a.size,e1,l,t,u,x,z,A,m,n⟩
theorem mf.app {w0 w:World} {j m d o:Nat} {p:Value} {a:List Fl} {v:Value} {bad:Bool} (h:mf w0 j m d o p a w) (D:bM w m v bad) (E:a.length<=1000000) (s:ak) (x:Value) (l:List Ex) (F:bB w o x l):
  ∃g c b,(Builtin.append_ #[28,28] 28 #[p,.slice (some ⟨w.heap.size,0,none⟩) 1 1]).run Tryz.prog (w.alloc (.cells #[.string (bs s),x] 98))=.ok (.slice (some ⟨g,0,none⟩) (a.length+1) c) b∧
   bG b d p∧mf w0 j m d o (.slice (some ⟨g,0,none⟩) (a.length+1) c) (a++[(s,l)]) (b.setCell ⟨d,0,none⟩ (.slice (some ⟨g,0,none⟩) (a.length+1) c))∧bM (b.setCell ⟨d,0,none⟩ (.slice (some ⟨g,0,none⟩) (a.length+1) c)) m v bad:=by
 obtain ⟨G,H,⟨y,I⟩,J,z,e1,K,A,L,M,N,B,O,P⟩:=h;obtain ⟨g,c,b,f,Q,C,q⟩:=qsb H z E s x l F;have n:=G.keepT (by decide) q;have r:=D.keepT (by decide) q;have R:=q j _ _ _ (by decide) I;have t:=lV b ⟨d,0,none⟩ (.slice (some ⟨g,0,none⟩) (a.length+1) c);have i:ah w0 b:=J.trans (C.mono (by omega));have u:bG (b.setCell ⟨d,0,none⟩ (.slice (some ⟨g,0,none⟩) (a.length+1) c)) d (.slice (some ⟨g,0,none⟩) (a.length+1) c):=by
  have:=heap_setCell_same b d 0 _ 30 (.slice (some ⟨g,0,none⟩) (a.length+1) c) n
  unfold bG;rw [this];rfl
 refine ⟨g,c,b,f,n,⟨u,Q.keptS t n (by decide) (by decide),⟨y,(heap_setCell_other b ⟨d,0,none⟩ j _ B).trans R⟩,i.grown t i.size (by intro k e;cases e;exact A),aC (aC z C.size) t.size,e1,K,A,L,M,N,B,O,P⟩, ?_⟩;exact r.keepT (by decide) (bY.set n)
end Go.Proofs.YthpammbgcidloaaGreat
