/-
  What room's grow, unmarked, cut, Free, Take do.
-/
import Derived.Test.YthpammbgcidloaaGreatRmKit
import Derived.BigQuiet
set_option maxHeartbeats 1000000
namespace Go.Proofs.YthpammbgcidloaaGreat
open Go.RowKit
set_option linter.all false
theorem Eg {x:Ex} (a:0<=x.1) (b:1<=x.2) (c:x.1+x.2<=4096):eP x=true:=(qz x).2 ⟨a,b,c⟩
theorem F4 {x:Ex} (h:¬(0<=x.1∧1<=x.2∧x.1+x.2<=4096)):eP x=false:=by rw [<-Bool.not_eq_true,qz];exact h
theorem qx1 (x:Ex) (f:wfX x) (w:World):Calls Tryz.prog 210 #[.agg #[.int .i64 x.1,.int .i64 x.2]] w fun e w'=>e=.returned (.bool (eP x))∧ah w w':=by
 obtain ⟨p,q⟩:=x;obtain ⟨g,a2,a3,h⟩:=f;simp only at g a2 a3 h ⊢
 have b:∀o,ah w (World.alloc w o):=fun o=>ae
 by_cases c:0<=p
 ·by_cases d:1<=q
  ·have m:wrap64 (4096 - p)=4096 - p:=by unfold wrap64;omega
   by_cases i:q<=4096 - p
   ·have a:=ag (Eg (x:=(p,q)) c d (by simp;omega))
    go_enter Tryz.func210,Tryz.ntmps210;go_wp2;go_ret;exact ⟨by rw [a.o];rfl,b _⟩
   ·have a:=ag (F4 (x:=(p,q)) (by simp;omega))
    have j:decide (q<=4096 - p)=false:=by simpa using i
    go_enter Tryz.func210,Tryz.ntmps210;go_wp2;go_ret;exact ⟨by rw [a.o];rfl,b _⟩
  ·have a:=ag (F4 (x:=(p,q)) (by simp;omega))
   have k:decide (1<=q)=false:=by simpa using d
   go_enter Tryz.func210,Tryz.ntmps210;go_wp2;go_ret;exact ⟨by rw [a.o];rfl,b _⟩
 ·have a:=ag (F4 (x:=(p,q)) (by simp;omega))
  have l:decide (0<=p)=false:=by simpa using c
  go_enter Tryz.func210,Tryz.ntmps210;go_wp2;go_ret;exact ⟨by rw [a.o];rfl,b _⟩
theorem qvt (x:Ex) (f:wfX x) (w:World):Calls Tryz.prog 166 #[.agg #[.int .i64 x.1,.int .i64 x.2]] w fun e w'=>e=.returned (.bool (eP x))∧ah w w':=by
 obtain ⟨p,q⟩:=x;obtain ⟨g,a2,a3,h⟩:=f;simp only at g a2 a3 h ⊢
 have b:∀o,ah w (World.alloc w o):=fun o=>ae
 by_cases c:0<=p
 ·by_cases i:p<=4096
  ·by_cases d:1<=q
   ·have r:wrap64 (4096 - p)=4096 - p:=by unfold wrap64;omega
    by_cases j:q<=4096 - p
    ·have a:=ag (Eg (x:=(p,q)) c d (by simp;omega))
     go_enter Tryz.func166,Tryz.ntmps166;go_wp2;go_ret;exact ⟨by rw [a.o];rfl,b _⟩
    ·have a:=ag (F4 (x:=(p,q)) (by simp;omega))
     have k:decide (q<=4096 - p)=false:=by simpa using j
     go_enter Tryz.func166,Tryz.ntmps166;go_wp2;go_ret;exact ⟨by rw [a.o];rfl,b _⟩
   ·have a:=ag (F4 (x:=(p,q)) (by simp;omega))
    have l:decide (1<=q)=false:=by simpa using d
    go_enter Tryz.func166,Tryz.ntmps166;go_wp2;go_ret;exact ⟨by rw [a.o];rfl,b _⟩
  ·have a:=ag (F4 (x:=(p,q)) (by simp;omega))
   have m:decide (p<=4096)=false:=by simpa using i
   go_enter Tryz.func166,Tryz.ntmps166;go_wp2;go_ret;exact ⟨by rw [a.o];rfl,b _⟩
 ·have a:=ag (F4 (x:=(p,q)) (by simp;omega))
  have n:decide (0<=p)=false:=by simpa using c
  go_enter Tryz.func166,Tryz.ntmps166;go_wp2;go_ret;exact ⟨by rw [a.o];rfl,b _⟩
theorem ZG (x:Ex) (f:eP x=true) (n:Int) (w:World):Calls Tryz.prog 167 #[.agg #[.int .i64 x.1,.int .i64 x.2],.int .i64 n] w fun e w'=>e=.returned (.bool (iA x n))∧ah w w':=by
 rw [qz] at f;obtain ⟨p,q⟩:=x;obtain ⟨g,a2,a3⟩:=f;simp only at g a2 a3 ⊢
 have c:∀o,ah w (World.alloc w o):=fun o=>ae
 have j:wrap64 (p+q)=p+q:=by unfold wrap64;omega
 by_cases b:p<=n
 ·by_cases d:n<p+q
  ·have a:=ag (show iA (p,q) n=true by simp [iA,b,d])
   go_enter Tryz.func167,Tryz.ntmps167;go_wp2;go_ret;exact ⟨by rw [a.o];rfl,c _⟩
  ·have a:=ag (show iA (p,q) n=false by simp [iA,b,d])
   have h:decide (n<p+q)=false:=by simpa using d
   go_enter Tryz.func167,Tryz.ntmps167;go_wp2;go_ret;exact ⟨by rw [a.o];rfl,c _⟩
 ·have a:=ag (show iA (p,q) n=false by simp [iA,b])
  have i:decide (p<=n)=false:=by simpa using b
  go_enter Tryz.func167,Tryz.ntmps167;go_wp2;go_ret;exact ⟨by rw [a.o];rfl,c _⟩
theorem qz6 (x y:Ex) (f:eP x=true) (g:eP y=true) (w:World):Calls Tryz.prog 194 #[.agg #[.int .i64 x.1,.int .i64 x.2],.agg #[.int .i64 y.1,.int .i64 y.2]] w fun e w'=>e=.returned (.bool (ol x y))∧ah w w':=by
 rw [qz] at f g;obtain ⟨p,q⟩:=x;obtain ⟨r,s⟩:=y;obtain ⟨i,a2,a3⟩:=f;obtain ⟨j,k,l⟩:=g;simp only at i a2 a3 j k l ⊢
 have c:∀o h,ah w (World.alloc (World.alloc w o) h):=fun o h=>(ae).alloc (by simp) _
 have u:wrap64 (p+q)=p+q:=by unfold wrap64;omega
 have m:wrap64 (r+s)=r+s:=by unfold wrap64;omega
 by_cases b:p<r+s
 ·by_cases d:r<p+q
  ·have a:=ag (show ol (p,q) (r,s)=true by simp [ol,b,d])
   go_enter Tryz.func194,Tryz.ntmps194;go_wp2;go_ret;exact ⟨by rw [a.o];rfl,c _ _⟩
  ·have a:=ag (show ol (p,q) (r,s)=false by simp [ol,b,d])
   have n:decide (r<p+q)=false:=by simpa using d
   go_enter Tryz.func194,Tryz.ntmps194;go_wp2;go_ret;exact ⟨by rw [a.o];rfl,c _ _⟩
 ·have a:=ag (show ol (p,q) (r,s)=false by simp [ol,b])
  have t:decide (p<r+s)=false:=by simpa using b
  go_enter Tryz.func194,Tryz.ntmps194;go_wp2;go_ret;exact ⟨by rw [a.o];rfl,c _ _⟩
theorem qkc (a:au) (n c:Nat) (l:List Ex) (w:World) (h:RdE w (.slice a n c) l) (s:n=l.length) (m:∀x∈l,wfX x):
  Calls Tryz.prog 184 #[.slice a n c] w fun e w'=>e=.returned (.int .i64 (dI l))∧ah w w':=by
 have y:n<=maxLen:=s ▸ h.len_le;unfold maxLen at y;have z:=ag h;have p:=ag s;have A:=ag m;clear h s m;by_cases E:n > 4096
 ·have q:=ag (show dI l=4 by have:=p.o;unfold dI;rw [if_pos (by omega)])
  have t:(4096:Int)<n:=by omega
  go_enter Tryz.func184,Tryz.ntmps184;go_wp2;go_ret;exact ⟨by rw [q.o];rfl,aB⟩
 have t:decide ((4096:Int)<n)=false:=aA (by omega);go_enter Tryz.func184,Tryz.ntmps184;go_wp2;go_loopw [10] (fun i wr=>∃k:Nat,k<=n∧i=.int .i64 k∧af (∀x∈l.take k,eP x=true)∧ah w wr) (fun i _=>n - (intOf i).toNat)
 case atStart=>exact ⟨0,Nat.zero_le _,rfl,ag (by simp),aB⟩
 case round=>
  obtain ⟨k,F,rfl,g,d⟩:=hrel;by_cases B:k<n
  ·have u:(k:Int)<n:=by omega
   have f:k<l.length:=by have:=p.o;omega
   obtain ⟨b,C,rfl,G,H⟩:=(z.o.a d).at k f;go_wp2_with fail
   refine (qx1 (l[k]) (A.o _ (List.getElem_mem f)) _).mono ?_
   rintro e wc ⟨rfl,r⟩;have v:ah w wc:=(d.alloc d.size _).trans (r.mono (aC d.size (by simp)));clear r;cases hp:eP l[k] with
   | true=>
    have D:=ag (show ∀x∈l.take (k+1),eP x=true by
     intro x j;rw [oO l k f] at j;rcases List.mem_append.1 j with j | j
     ·exact g.o x j
     ·rw [List.mem_singleton.1 j];exact hp)
    clear hp;go_wp2;go_roundw
    case rel=>exact ⟨k+1,by omega,rfl,D,v⟩
    case measure=>simp only [intOf];omega
   | false=>
    have q:=ag (show dI l=8 from Zt f (by have:=p.o;omega) hp);clear hp;go_wp2;go_ret;exact ⟨by rw [q.o];rfl,v⟩
  ·have I:decide ((k:Int)<n)=false:=aA (by omega)
   have e:k=l.length:=by have:=p.o;omega
   have q:=ag (show dI l=0 from Zu (by have:=p.o;omega) (by rw [<-e];exact g.o));clear e;go_wp2;go_ret;exact ⟨by rw [q.o];rfl,d⟩
theorem qz7 (f:Nat->Bool) (r k n:Nat):(if n=r+k then true else (f n || iA ((r:Int),(k:Int)) n))=(f n || iA ((r:Int),((k+1:Nat):Int)) n):=by
 rw [Bool.eq_iff_iff];by_cases e:n=r+k
 ·rw [if_pos e];simp only [Bool.or_eq_true,iA,Bool.and_eq_true,decide_eq_true_eq]
  exact ⟨fun _=>.inr (by omega),fun _=>trivial⟩
 ·rw [if_neg e];simp only [Bool.or_eq_true,iA,Bool.and_eq_true,decide_eq_true_eq]
  constructor
  ·rintro (h | h)
   ·exact .inl h
   ·right;omega
  ·rintro (h | h)
   ·exact .inl h
   ·right;omega
theorem ZH (b:Nat) (f:Nat->Bool) (x:Ex) (j:eP x=true) (w:World) (c:Mk w b f):
  Calls Tryz.prog 185 #[.pointer (some ⟨b,0,none⟩),.agg #[.int .i64 x.1,.int .i64 x.2]] w fun e w'=>e=.returned (.tuple #[])∧Mk w' b (fun n=>f n || iA x n)∧w.grownBy w' (some b):=by
 rw [qz] at j;obtain ⟨p,q⟩:=x;obtain ⟨u,a2,a3⟩:=j;simp only at u a2 a3 ⊢
 obtain ⟨m,rfl⟩:∃m:Nat,q=m:=⟨q.toNat,by omega⟩;obtain ⟨r,rfl⟩:∃r:Nat,p=r:=⟨p.toNat,by omega⟩;have y:=c.lt;have z:=ag (c.a ((Below.refl w.heap.size w).alloc aI (.cells #[.int .i64 r,.int .i64 m] 185)));clear c
 have d:(w.alloc (.cells #[.int .i64 r,.int .i64 m] 185)).cell? ⟨w.heap.size,0,none⟩=some (.int .i64 r):=by simp
 have F:(w.alloc (.cells #[.int .i64 r,.int .i64 m] 185)).cell? ⟨w.heap.size,1,none⟩=some (.int .i64 m):=by simp
 have g:w.grownBy (w.alloc (.cells #[.int .i64 r,.int .i64 m] 185)) (some b):=World.grownBy_alloc _ _ _;go_enter Tryz.func185,Tryz.ntmps185;go_wp2;go_loopw [7] (fun i wr=>∃k:Nat,k<=m∧i=.int .i64 k∧af (Mk wr b (fun n=>f n || iA ((r:Int),(k:Int)) n))∧w.grownBy wr (some b)∧wr.cell? ⟨w.heap.size,0,none⟩=some (.int .i64 r)) (fun i _=>m - (intOf i).toNat)
 case atStart=>exact ⟨0,Nat.zero_le _,rfl,ag (z.o.same fun n=>by simp [iA];omega),g,d⟩
 case round=>
  obtain ⟨k,G,rfl,a,l,A⟩:=hrel;by_cases s:k<m
  ·have t:(k:Int)<m:=by omega
   have h:=a.o.cell (r+k) (by omega);have B:=a.o.frozen (r+k);have C:wrap64 ((r:Int)+k)=((r+k:Nat):Int):=by unfold wrap64;omega
   have D:((r+k:Nat):Int)<4096:=by omega
   have E:=ag (a.o.set (r+k) true);go_wp2;go_region
   go_wp2;go_roundw
   case rel=>
    refine ⟨k+1,by omega,rfl,ag (E.o.same fun n=>?_),VK (NF l (lV _ _ _)), ?_⟩
    ·exact qz7 f r k n
    ·exact (lV _ _ _).cell A (by simp;omega)
   case measure=>simp only [intOf];omega
  ·have H:decide ((k:Int)<m)=false:=aA (by omega)
   obtain rfl:k=m:=by omega
   go_wp2;refine bodyPost_end (v:=.tuple #[]) ?_ rfl ⟨rfl,a.o,l⟩
   simp [results,Tryz.results185,go_sem]
theorem ZI {f:Nat->Bool} {r k m:Nat} (h:∀n:Nat,f n=true->iA ((r:Int),(k:Int)) n=false) (b:f (r+k)=false):∀n:Nat,f n=true->iA ((r:Int),((k+1:Nat):Int)) n=false:=by
 intro n a;have c:=h n a;have d:n≠r+k:=by rintro rfl;rw [b] at a;cases a
 simp only [iA,Bool.and_eq_false_iff,decide_eq_false_iff_not] at c ⊢;omega
theorem qt0 (b:Nat) (f:Nat->Bool) (x:Ex) (t:eP x=true) (w:World) (h:Mk w b f):
  Calls Tryz.prog 213 #[.pointer (some ⟨b,0,none⟩),.agg #[.int .i64 x.1,.int .i64 x.2]] w fun e w'=>w.grownBy w' (some b)∧
   ((e=.returned (.bool true)∧Mk w' b (fun n=>f n || iA x n)∧∀n:Nat,f n=true->iA x n=false)∨(e=.returned (.bool false)∧∃n:Nat,n<4096∧f n=true∧iA x n=true)):=by
 rw [qz] at t;obtain ⟨p,q⟩:=x;obtain ⟨y,a2,a3⟩:=t;simp only at y a2 a3 ⊢
 obtain ⟨m,rfl⟩:∃m:Nat,q=m:=⟨q.toNat,by omega⟩;obtain ⟨r,rfl⟩:∃r:Nat,p=r:=⟨p.toNat,by omega⟩;have z:=h.lt;have A:=ag (h.a ((Below.refl w.heap.size w).alloc aI (.cells #[.int .i64 r,.int .i64 m] 185)));clear h
 have j:(w.alloc (.cells #[.int .i64 r,.int .i64 m] 185)).cell? ⟨w.heap.size,0,none⟩=some (.int .i64 r):=by simp
 have I:(w.alloc (.cells #[.int .i64 r,.int .i64 m] 185)).cell? ⟨w.heap.size,1,none⟩=some (.int .i64 m):=by simp
 have l:w.grownBy (w.alloc (.cells #[.int .i64 r,.int .i64 m] 185)) (some b):=World.grownBy_alloc _ _ _;go_enter Tryz.func213,Tryz.ntmps213;go_wp2;go_loopw [8] (fun i wr=>∃k:Nat,k<=m∧i=.int .i64 k∧af (Mk wr b (fun n=>f n || iA ((r:Int),(k:Int)) n))∧af (∀n:Nat,f n=true->iA ((r:Int),(k:Int)) n=false)∧w.grownBy wr (some b)∧wr.cell? ⟨w.heap.size,0,none⟩=some (.int .i64 r)) (fun i _=>m - (intOf i).toNat)
 case atStart=>exact ⟨0,Nat.zero_le _,rfl,ag (A.o.same fun n=>by simp [iA];omega),ag (fun n _=>by simp only [iA,Bool.and_eq_false_iff,decide_eq_false_iff_not];omega),l,j⟩
 case round=>
  obtain ⟨k,J,rfl,c,d,s,B⟩:=hrel;by_cases u:k<m
  ·have v:(k:Int)<m:=by omega
   have a:=c.o.cell (r+k) (by omega);have C:=c.o.frozen (r+k);have D:wrap64 ((r:Int)+k)=((r+k:Nat):Int):=by unfold wrap64;omega
   have E:((r+k:Nat):Int)<4096:=by omega
   have F:=ag (c.o.set (r+k) true);have g:iA ((r:Int),(k:Int)) ((r+k:Nat):Int)=false:=by simp only [iA,Bool.and_eq_false_iff,decide_eq_false_iff_not];omega
   rw [g,Bool.or_false] at a;clear g;cases hf:f (r+k) with
   | false=>
    rw [hf] at a;have G:=ag (ZI (m:=m) d.o hf);clear hf;go_wp2;go_region
    go_wp2;go_region
    go_wp2;go_roundw
    case rel=>
     refine ⟨k+1,by omega,rfl,ag (F.o.same fun n=>?_),G,VK (VK (NF s (lV _ _ _))), ?_⟩
     ·exact qz7 f r k n
     ·exact (lV _ _ _).cell B (by simp;omega)
    case measure=>simp only [intOf];omega
   | true=>
    rw [hf] at a;have H:=ag (show ∃n:Nat,n<4096∧f n=true∧iA ((r:Int),(m:Int)) n=true from ⟨r+k,by omega,hf,by simp [iA];omega⟩);clear hf;go_wp2;go_region
    go_wp2;go_ret;exact ⟨VK s,.inr ⟨rfl,H.o⟩⟩
  ·have K:decide ((k:Int)<m)=false:=aA (by omega)
   obtain rfl:k=m:=by omega
   go_wp2;go_ret;exact ⟨s,.inl ⟨rfl,c.o,d.o⟩⟩
theorem qrk {l:List Ex} {k:Nat} {N:Int} (b:k<l.length) (a:k+1=l.length) (h:l[k].1+l[k].2=N):l.set k (l[k].1,l[k].2+1)=xK l N:=by
 rcases List.eq_nil_or_concat l with rfl | ⟨c,x,rfl⟩
 ·simp at a
 ·have e:k=c.length:=by simp at a;omega
  subst e;simp only [List.concat_eq_append,List.getElem_append_right aI,Nat.sub_self,List.getElem_cons_zero] at h ⊢;rw [NE,if_pos h];simp
theorem qrl {l:List Ex} {k:Nat} {N:Int} (b:k<l.length) (a:k+1=l.length) (h:¬l[k].1+l[k].2=N):l++[(N,1)]=xK l N:=by
 rcases List.eq_nil_or_concat l with rfl | ⟨c,x,rfl⟩
 ·simp at a
 ·have e:k=c.length:=by simp at a;omega
  subst e;simp only [List.concat_eq_append,List.getElem_append_right aI,Nat.sub_self,List.getElem_cons_zero] at h ⊢;rw [NE,if_neg h]
theorem qvu {w:World} {base:Nat} {v:Value} {l:List Ex} (h:bB w base v l) (hb:base<=w.heap.size) (b:l.length<=1000000) (x y:Int) (nq:Nat):
  ∃g c w',(Builtin.append_ #[96,96] 96 #[v,.slice (some ⟨w.heap.size,0,none⟩) 1 1]).run Tryz.prog ((w.drewN nq).alloc (.cells #[.int .i64 x,.int .i64 y] 185))=.ok (.slice (some ⟨g,0,none⟩) (l.length+1) c) w'∧
   bB w' base (.slice (some ⟨g,0,none⟩) (l.length+1) c) (l++[(x,y)])∧Below base w w':=by
 obtain ⟨g,c,w',d,e,a⟩:=ZE (w:=w.drewN nq) h hb b x y;exact ⟨g,c,w',d,e,⟨a.os,a.tape,a.output,a.size,a.block⟩⟩
theorem ZJ (base:Nat) (a:au) (n c:Nat) (l:List Ex) (N:Int) (w:World) (h:bB w base (.slice a n c) l) (hb:base<=w.heap.size) (m:n=l.length) (X:l.length<=4096) (t:∀x∈l,eP x=true):
  Calls Tryz.prog 211 #[.slice a n c,.int .i64 N] w fun e w'=>∃v,e=.returned v∧bB w' base v (xK l N)∧Below base w w':=by
 have F:=ag (qvu h hb (by omega) N 1);cases hz:l.length with
 | zero=>
  obtain rfl:l=[]:=List.length_eq_zero_iff.1 hz;have u:n=0:=by simpa using m
  subst u;clear h m t;go_enter Tryz.func211,Tryz.ntmps211;go_wp2;go_quiet (fail)
  obtain ⟨J,K,L,b,r,y⟩:=F.o nq;have z:=ag r;clear r;go_wp2_with (at_builtin;refine ku rfl (.tmp 35) (.tmp 38) 96 rfl rfl rfl rfl b ?_)
  go_ret;exact ⟨_,rfl,z.o,y⟩
 | succ k=>
  obtain ⟨g,rfl,s, -,M,A⟩:=h.lies (by intro e;rw [e] at hz;simp at hz);have B:n=k+1:=by omega
  subst B;have d:k<l.length:=by omega
  have Y:=(qz _).1 (t _ (List.getElem_mem d));obtain ⟨e1,G⟩:=VM l k d;have c1:w.cell? ⟨g,k*2,none⟩=some (.int .i64 (l[k]).1):=by have:=h.cells (g:=g) rfl _ _ e1;rw [Addr.add_lit] at this;simpa using this
  have c2:w.cell? ⟨g,k*2+1,none⟩=some (.int .i64 (l[k]).2):=by have:=h.cells (g:=g) rfl _ _ G;rw [Addr.add_lit] at this;simpa [Nat.add_assoc] using this
  have Z:=fun j=>World.ownsRow.frozenAt (m ▸ h:w.ownsRow base 185 2 (.slice (some ⟨g,0,none⟩) (k+1) c) (k+1) (cellsE l)) j
  obtain ⟨H,I⟩:=h.stored m k d ((l[k]).2+1);have C:=ag (fun f=>qrk (N:=N) d hz.symm f);have i:=ag (fun f=>qrl (N:=N) d hz.symm f);have O:=ag H;have HG:=ag I;have P:=ag s;have Q:wrap64 ((k:Int)+1 - 1)=k:=by unfold wrap64;unfold maxLen at A;omega
  have D:=m;clear D e1 G H I h m t hz s;generalize R:(l[k]).1=p at *;generalize S:(l[k]).2=q at *;have T:wrap64 (p+q)=p+q:=by unfold wrap64;omega
  have U:wrap64 (q+1)=q+1:=by unfold wrap64;omega
  have V:(k:Int)<((k+1:Nat):Int):=by omega
  clear R S;by_cases f:p+q=N
  ·have E:=ag (C.o f)
   clear C i;go_enter Tryz.func211,Tryz.ntmps211;go_wp2;go_quiet (fail)
   go_wp2;go_ret;refine ⟨_,rfl, ?_, ?_⟩
   ·rw [<-E.o];exact O.o
   ·exact Below.setCell (below_drewN (Below.refl base w) nq) P.o _
  ·have E:=ag (i.o f)
   have W:(p+q==N)=false:=by simpa using f
   clear C i;go_enter Tryz.func211,Tryz.ntmps211;go_wp2;go_quiet (fail)
   obtain ⟨J,K,L,b,r,y⟩:=F.o nq;have z:=ag r;clear r;go_wp2_with (at_builtin;refine ku rfl (.tmp 35) (.tmp 38) 96 rfl rfl rfl rfl b ?_)
   go_ret;refine ⟨_,rfl, ?_, ?_⟩
   ·rw [<-E.o];exact z.o
   ·exact y
theorem qrm {u:Int->Bool} {a:Int} {k:Nat} (c:0<=a) (d:a+k<=4096):∀x∈jX u a k,eP x=true:=by
 intro x b;have:=(Zz u a k).1.1 x b
 rw [qz];omega
theorem qrn (b:Nat) (f:Nat->Bool) (p m:Nat) (T:Int) (w:World) (r:Mk w b f) (D:p+m<=4096) (x:T=p+m):
  Calls Tryz.prog 186 #[.pointer (some ⟨b,0,none⟩),.int .i64 p,.int .i64 T] w fun e w'=>∃v,e=.returned v∧bB w' w.heap.size v (jX (fun n=>f n.toNat) p m)∧ah w w':=by
 have s:=r.lt;have E:=ag r;have y:=ag x;clear r x;go_enter Tryz.func186,Tryz.ntmps186;go_wp2;go_loopw [7,8] (fun v i wr=>∃k:Nat,k<=m∧i=.int .i64 ((p:Int)+(k:Int))∧af (bB wr w.heap.size v (jX (fun n=>f n.toNat) p k))∧ah w wr) (fun _ i _=>p+m - (intOf i).toNat)
 case atStart=>exact ⟨0,Nat.zero_le _,by simp,ag (bB.nil _ _),aB⟩
 case round=>
  obtain ⟨k,M,rfl,q,c⟩:=hrel;by_cases z:k<m
  ·have A:(p:Int)+(k:Int)<T:=by have:=y.o;omega
   have j:Mk wr b f:=(c.block b s).trans E.o;have d:=j.cell (p+k) (by omega);have F:(p:Int)+(k:Int)<4096:=by omega
   have B:0<=(p:Int)+(k:Int):=by omega
   have g:((p:Int)+(k:Int)).toNat=p+k:=by omega
   have G:wrap64 ((p:Int)+(k:Int)+1)=(p:Int)+(k:Int)+1:=by unfold wrap64;omega
   clear j;cases hf:f (p+k) with
   | true=>
    rw [hf] at d;have t:=ag (show jX (fun n=>f n.toNat) p (k+1)=jX (fun n=>f n.toNat) p k by
     rw [jX,if_pos];show f ((p:Int)+k).toNat=true
     rw [g];exact hf)
    clear hf;go_wp2;go_roundw
    case rel=>exact ⟨k+1,by omega,congrArg (Value.int .i64) (by omega),ag (by rw [t.o];exact q.o),c⟩
    case measure=>simp only [intOf];omega
   | false=>
    rw [hf] at d;have t:=ag (show jX (fun n=>f n.toNat) p (k+1)=xK (jX (fun n=>f n.toNat) p k) ((p:Int)+(k:Int)) by
     rw [jX,if_neg];show ¬f ((p:Int)+k).toNat=true
     rw [g,hf];simp)
    clear hf;obtain ⟨H,I,rfl⟩:=q.o.form;have J:=VH (fun n=>f n.toNat) p k;have C:=ag (qrm (u:=fun n=>f n.toNat) (a:=p) (k:=k) (by omega) (by omega));go_wp2_with fail
    refine (ZJ w.heap.size H _ I _ ((p:Int)+(k:Int)) wr q.o c.size rfl (by omega) C.o).mono ?_
    rintro e wc ⟨v,rfl,h,l⟩;have K:=ag (show bB wc w.heap.size v (jX (fun n=>f n.toNat) p (k+1)) by rw [t.o];exact h);have L:=c.trans l;clear l h C J;go_wp2;go_roundw
    case rel=>exact ⟨k+1,by omega,congrArg (Value.int .i64) (by omega),K,L⟩
    case measure=>simp only [intOf];omega
  ·have N:decide ((p:Int)+(k:Int)<T)=false:=by simpa using (by have:=y.o;omega:¬(p:Int)+(k:Int)<T)
   obtain rfl:k=m:=by omega
   go_wp2;go_ret;exact ⟨_,rfl,q.o,c⟩
theorem ZK {l:List Ex} {k:Nat} (h:k<l.length) (y:Ex):(l.set k y).take (k+1)=l.take k++[y]:=by
 rw [oO _ _ (by simpa using h)];simp [List.take_set_of_le]
theorem ZL {l:List Ex} {k:Nat} {Z W:Int} (a:k<l.length) (b:Z=W - gz (l.take k)) (c:1<=Z) (d:∀x∈l,1<=x.2) (e:Z<=(l[k]).2):fI l W=some ((l.set k ((l[k]).1,Z)).take (k+1)):=by
 rw [qrj (w:=W) a (by omega) d (by omega),ZK a,b]
theorem ZM {l:List Ex} {k:Nat} {Z W:Int} (a:k<l.length) (b:Z=W - gz (l.take k)):Z - (l[k]).2=W - gz (l.take (k+1)):=by
 rw [oO l k a,VG];omega
theorem ZN (base:Nat) (a:au) (n c:Nat) (l:List Ex) (W:Int) (w:World) (h:bB w base (.slice a n c) l) (hb:base<=w.heap.size) (J:n=l.length) (S:l.length<=4096) (y:∀x∈l,0<=x.1∧1<=x.2∧x.1+x.2<=4096) (T:1<=W) (A:W<=4096):
  Calls Tryz.prog 148 #[.slice a n c,.int .i64 W] w fun e w'=>∃v,e=.returned (.tuple #[v,.int .i64 (qA l W)])∧bB w' base v ((fI l W).getD [])∧Below base w w':=by
 have K:=ag y;have B:=ag (fun x L=>(y x L).2.1:∀x∈l,1<=x.2);have C:=ag h;have q:=ag J;have lJ:n<=4096:=by omega
 clear h y J S;go_enter Tryz.func148,Tryz.ntmps148;go_wp2;go_loopw [1,10] (fun z i wr=>∃(k:Nat) (Z:Int),k<=n∧z=.int .i64 Z∧i=.int .i64 k∧af (Z=W - gz (l.take k))∧1<=Z∧Z<=4096∧ah w wr) (fun _ i _=>n - (intOf i).toNat)
 case atStart=>exact ⟨0,W,Nat.zero_le _,rfl,rfl,ag (by simp [gz]),T,A,aB⟩
 case round=>
  obtain ⟨k,Z,hk,rfl,rfl,u,D,U,d⟩:=hrel;by_cases E:k<n
  ·have M:(k:Int)<n:=by omega
   have f:k<l.length:=by have:=q.o;omega
   obtain ⟨g,rfl,r, -,F, -⟩:=C.o.lies (by intro e;rw [e] at f;simp at f);have m:=C.o.a d;obtain ⟨b,V,e,X,Y⟩:=m.rd.at k f;cases e;rw [Nat.zero_add] at X Y;by_cases s:Z<=(l[k]).2
   ·have t:=ag (ZL f u.o D B.o s)
    have j:=m.a (aB.alloc aI (.cells #[.int .i64 (l[k]).1,.int .i64 (l[k]).2] 185));obtain ⟨N,g1⟩:=j.stored q.o k f Z;have HS:=ag (N.take (by simpa using q.o) (k+1) (by simp;omega));have aa:=j.frozen q.o (k*2+1);have p:Below base w (wr.alloc (.cells #[.int .i64 (l[k]).1,.int .i64 (l[k]).2] 185)):=(d.mono hb).alloc (aC hb d.size) _;obtain ⟨b',O,e',lI,G⟩:=j.rd.at k f;cases e';rw [Nat.zero_add] at G;clear lI;have iO:=ag p;have NK:=ag r;have H:wrap64 ((k:Int)+1)=(k:Int)+1:=vo (by omega);have ab:(k:Int)+1<=c:=by have I:k+1<=c:=aC E F;exact Int.ofNat_le.2 I
    clear N g1 m j p K B C q u d hb r;generalize (l[k]).1=P at *;generalize (l[k]).2=R at *;go_wp2;go_ret2;exact ⟨_,by unfold qA;rw [t.o];rfl,by rw [t.o];exact HS.o,iO.o.setCell NK.o _⟩
   ·have Q:decide (Z<=(l[k]).2)=false:=by simpa using s
    have L:=K.o _ (List.getElem_mem f);have HZ:=ag (ZM f u.o);have H:wrap64 (Z - (l[k]).2)=Z - (l[k]).2:=by unfold wrap64;omega
    have p:=d.alloc d.size (.cells #[.int .i64 (l[k]).1,.int .i64 (l[k]).2] 185);clear m;go_wp2;go_roundw
    case rel=>exact ⟨k+1,_,by omega,rfl,rfl,HZ,by omega,by omega,p⟩
    case measure=>simp only [intOf];omega
  ·have hd:decide ((k:Int)<n)=false:=aA (by omega)
   have t:=ag (show fI l W=none from qvs (by have I:=u.o;have:=q.o;rw [List.take_of_length_le (by omega)] at I;omega) B.o);go_wp2;go_ret2;exact ⟨_,by unfold qA;rw [t.o];rfl,by rw [t.o];exact bB.nil _ _,d.mono hb⟩
end Go.Proofs.YthpammbgcidloaaGreat
