/-
  Where a name has its place: place, and the library's binary search.
-/
import Derived.Test.YtmeaiocohalphaaGreatDoorFiKit
set_option maxHeartbeats 2000000
set_option maxRecDepth 100000
namespace Go.Proofs.YtmeaiocohalphaaGreatDoor
open Go.RowKit
set_option linter.all false
variable {fs:List Fl}{w w':World}{base:Nat}{v:Value}{B:Int}
theorem uS(s:az):(bs s).toList=s:=by rw[ByteArray.toList_eq,zk]
theorem TF(s:az)(w:World):Calls Tryz.prog 201 #[.string (bs s)] w fun e w'=>e=.returned (.bool (gT s))∧w'=w:=by
 have g:=rf s;by_cases b:1<=s.length
 ·have c:(1:Int)<=s.length:=by omega
  by_cases f:s.length<=16
  ·have a:=ag (show gT s=true by simp[gT,b,f])
   have d:(s.length:Int)<=16:=by omega
   go_enter Tryz.func201,Tryz.ntmps201;go_wp2;go_ret;exact⟨by rw[a.o];rfl,rfl⟩
  have a:=ag (show gT s=false by simp[gT,b,f]);have d:(16:Int)<s.length:=by omega
  go_enter Tryz.func201,Tryz.ntmps201;go_wp2;go_ret;exact⟨by rw[a.o];first|rfl|(simp;done)|(simp;omega),rfl⟩
 have a:=ag (show gT s=false by simp[gT,b]);have c:(s.length:Int)<1:=by omega
 go_enter Tryz.func201,Tryz.ntmps201;go_wp2;go_ret;exact⟨by rw[a.o];first|rfl|(simp;omega),rfl⟩
theorem qf9(b:Int)(w:World):Calls Tryz.prog 217 #[.int .i64 b] w fun e w'=>e=.returned (.bool (decide (eX b)))∧w'=w:=by
 by_cases c:34<b
 ·by_cases d:b<=4096
  ·have a:=ag (show decide (eX b)=true by simp[eX,c,d])
   go_enter Tryz.func217,Tryz.ntmps217;go_wp2;go_ret;exact⟨by rw[a.o];rfl,rfl⟩
  have a:=ag (show decide (eX b)=false by simp[eX,d]);have f:4096<b:=by omega
  go_enter Tryz.func217,Tryz.ntmps217;go_wp2;go_ret;exact⟨by rw[a.o];first|rfl|(simp;done)|(simp;omega),rfl⟩
 have a:=ag (show decide (eX b)=false by simp[eX,c]);have g:b<=34:=by omega
 go_enter Tryz.func217,Tryz.ntmps217;go_wp2;go_ret;exact⟨by rw[a.o];first|rfl|(simp;omega),rfl⟩
theorem Qr(s t:az):Op.bytesLess (bs s).toList (bs t).toList=eu s t:=by rw[uS,uS,Rf]
theorem zq(s t:az):((bs s).toList==(bs t).toList)=(s==t):=by rw[uS,uS]
theorem qpz(a:aA)(n c:Nat)(fs:List Fl)(w:World)(q:fQ w (.slice a n c) fs)(z:n=fs.length):
  Calls Tryz.prog 258 #[.slice a n c] w fun e w'=>e=.returned (.bool (decide (qx fs)))∧ah w w':=by
 have T:n<=maxLen:=z▸q.len_le;unfold maxLen at T;have U:=ag q;have H:=ag z;clear q z;go_enter Tryz.func258,Tryz.ntmps258;go_wp2;go_loopw [7] (fun i wr=>∃k:Nat,k<=n∧i=.int .i64 k∧af (qx (fs.take k))∧ah w wr) (fun i _=>n-(intOf i).toNat)
 case atStart=>exact⟨0,Xd5 _,rfl,ag (by simpa using qra),aF⟩
 obtain⟨k,hk,rfl,l,h⟩:=hrel;by_cases V:k<n
 ·have I:(k:Int)<n:=by omega
  have g:k<fs.length:=by have:=H.o;omega
  have J:=ag (U.o.a h);obtain⟨b,A,a2,c2,rfl,K,B,L⟩:=J.o.at k g;have v:=ag L;clear L;obtain⟨f,C⟩:=ak (fs[k]);rw[<-C]at K B v;have t:=ag C;clear C;have x:∀o,ah w (wr.alloc o):=fun o=>h.alloc h.size o
  have d:=TF f.1;cases hnm:gT f.1 with
  |false=>
   have p:=ag (show decide (qx fs)=false by
    have:jv fs[k]=false:=by rw[<-t.o];simp[jv,hnm]
    simpa using ZP g this)
   rw[hnm]at d;clear hnm;go_wp2_with (go_at_call 201;refine(d _).mono ?_;rintro e wc⟨rfl,rfl⟩)
   go_ret;exact⟨by rw[p.o];rfl,x _⟩
  |true=>
   rw[hnm]at d;obtain⟨m,r⟩:=ak f.2.length;rw[<-r]at B v;have u:=ag r;clear r;by_cases M:m=0
   ·have p:=ag (show decide (qx fs)=false by
     have:jv fs[k]=false:=by rw[<-t.o];have:=u.o;simp[jv,hnm];omega
     simpa using ZP g this)
    clear hnm u v;subst M;go_wp2_with (go_at_call 201;refine(d _).mono ?_;rintro e wc⟨rfl,rfl⟩)
    go_ret;exact⟨by rw[p.o];rfl,x _⟩
   have W:((m:Int)==0)=false:=by simpa using M
   by_cases g2:64<m
   ·have p:=ag (show decide (qx fs)=false by
     have:jv fs[k]=false:=by rw[<-t.o];have:=u.o;simp[jv,hnm];omega
     simpa using ZP g this)
    have D:(64:Int)<m:=by omega
    clear hnm u v;go_wp2_with (go_at_call 201;refine(d _).mono ?_;rintro e wc⟨rfl,rfl⟩)
    go_ret;exact⟨by rw[p.o];rfl,x _⟩
   have D:decide ((64:Int)<m)=false:=aC (by omega);have N:=ag (show jv fs[k]=true by rw[<-t.o];have:=u.o;simp[jv,hnm];omega);clear hnm u v;have y:af (∀o,ah w (wr.alloc o)):=x;clear x;by_cases E:k=0
   ·subst E
    rw[Nat.zero_mul,Nat.add_zero]at K B;have F:=ag (show qx (fs.take (0+1))from R7 g l.o N.o (fun j hj=>by omega));go_wp2_with (go_at_call 201;refine(d _).mono ?_;rintro e wc⟨rfl,rfl⟩)
    go_quiet (fail)
    go_wp2;go_roundw
    case rel=>exact⟨1,by omega,rfl,F,by have:=y.o;first|exact below_drewN (this _) _|exact(this _).drew|exact this _⟩
    simp only[intOf];omega
   obtain⟨j,rfl⟩:∃j,k=j+1:=⟨k-1,by omega⟩
   obtain⟨b',O,a3,c3,X,P,Y,Z⟩:=J.o.at j (by omega);cases X;have aa:(j:Int)<n:=by omega
   have hw:IntKind.i64.wrap (j:Int)=j:=by rw[IntKind.wrap_i64];omega
   obtain⟨s,G⟩:=ak ((fs[j]).1);rw[<-G]at P;have Q:=ag G;have q6:∀o,(wr.alloc o).cell? ⟨b,A+j*2,none⟩=some (.string (bs s)):=fun o=>Lib.cell?_alloc_some _ P
   clear Y Z G;cases hl:eu s f.1 with
   |true=>
    have F:=ag (show qx (fs.take (j+1+1))from R7 g l.o N.o (fun i hi=>by
     obtain rfl:i=j:=by omega
     rw[<-Q.o,<-t.o];exact hl))
    have R:Op.bytesLess (bs f.1).toList (bs s).toList=false:=by rw[Qr];exact ZN hl
    have S:((bs f.1).toList==(bs s).toList)=false:=by rw[zq];simpa using(ZO hl).symm
    clear hl;go_wp2_with (go_at_call 201;refine(d _).mono ?_;rintro e wc⟨rfl,rfl⟩)
    go_quiet (fail)
    go_wp2;go_roundw
    case rel=>exact⟨j+2,by omega,by go_num,F,by have:=y.o;first|exact below_drewN (this _) _|exact(this _).drew|exact this _⟩
    simp only[intOf];omega
   |false=>
    have p:=ag (show decide (qx fs)=false by
     have:eu (fs[j]).1 (fs[j+1]).1=false:=by rw[<-Q.o,<-t.o];exact hl
     simpa using qna g this)
    by_cases e0:f.1=s
    ·have R:Op.bytesLess (bs f.1).toList (bs s).toList=false:=by rw[Qr,e0];exact PX s
     have S:((bs f.1).toList==(bs s).toList)=true:=by rw[zq,e0];simp
     clear hl e0;go_wp2_with (go_at_call 201;refine(d _).mono ?_;rintro e wc⟨rfl,rfl⟩)
     go_quiet (fail)
     go_wp2;go_ret;exact⟨by rw[p.o];rfl,by have:=y.o;first|exact below_drewN (this _) _|exact(this _).drew|exact this _⟩
    have R:Op.bytesLess (bs f.1).toList (bs s).toList=true:=by rw[Qr];exact Rh _ _ hl (fun e=>e0 e.symm)
    have S:((bs f.1).toList==(bs s).toList)=false:=by rw[zq];simpa using e0
    clear hl e0;go_wp2_with (go_at_call 201;refine(d _).mono ?_;rintro e wc⟨rfl,rfl⟩)
    go_quiet (fail)
    go_wp2;go_ret;exact⟨by rw[p.o];rfl,by have:=y.o;first|exact below_drewN (this _) _|exact(this _).drew|exact this _⟩
 have hd:decide ((k:Int)<n)=false:=aC (by omega);have e:k=fs.length:=by have:=H.o;omega
 have p:=ag (show decide (qx fs)=true by have:=l.o;rw[e,Xb5]at this;simpa using this);clear e;go_wp2;go_ret;exact⟨by rw[p.o];rfl,h⟩
theorem TG{l:List Ex}(h:dY l=0):l.length<=4096∧∀x∈l,0<=x.1∧1<=x.2∧x.1+x.2<=4096:=by
 have a:dE l=0:=by
  unfold dY at h;by_cases e:dE l=0
  ·exact e
  rw[if_pos e]at h;exact absurd h e
 unfold dE at a;split at a
 ·cases a
 split at a
 ·rename_i h2 h3
  refine⟨by omega,fun x b=>?_⟩;have:=Xc5.1 h3 x b
  simp only[eP,Xe0,decide_eq_true_eq]at this;omega
 cases a
theorem KJ(a:aA)(n c:Nat)(l:List Ex)(B:Int)(w:World)(f:iB w (.slice a n c) l)(u:n=l.length)(t:∀x∈l,jg x):
  Calls Tryz.prog 236 #[.slice a n c,.int .i64 B] w fun e w'=>e=.returned (.bool (decide (dK l B)))∧ah w w':=by
 have K:n<=maxLen:=u▸f.len_le;unfold maxLen at K;have v:=qr4 a n c l w f u t;have L:=ag f;have E:=ag u;clear f u t;by_cases s:dY l=0
 ·have M:=ag (TG s)
  have N:=ag s;rw[s]at v;clear s;go_enter Tryz.func236,Tryz.ntmps236;go_wp2_with (go_at_call 181;refine v.mono ?_;rintro e O⟨rfl,g⟩)
  clear v;go_loopw [12] (fun i wr=>∃k:Nat,k<=n∧i=.int .i64 k∧af (∀x∈l.take k,34<=x.1∧x.1+x.2<=B)∧ah w wr) (fun i _=>n-(intOf i).toNat)
  case atStart=>exact⟨0,Xd5 _,rfl,ag (by simp),g⟩
  obtain⟨k,W,rfl,q,d⟩:=hrel;clear g;by_cases Q:k<n
  ·have F:(k:Int)<n:=by omega
   have j:k<l.length:=by have:=E.o;omega
   obtain⟨b,R,rfl,G,H⟩:=(L.o.a d).at k j;have m:=M.o.2 _ (Xa3 j);have z:=ag (show ∀P:Prop,P=(34<=(l[k]).1∧(l[k]).1+(l[k]).2<=B)->(P->∀x∈l.take (k+1),34<=x.1∧x.1+x.2<=B)∧(¬P->decide (dK l B)=false)by
    rintro P rfl;refine⟨fun h x m=>?_,fun h=>?_⟩
    ·rw[qF l k j]at m
     rcases Xa5.1 m with m|m
     ·exact q.o x m
     rw[Xb3.1 m];exact h
    simp only[Xd9]
    exact fun S=>h (S.2 _ (Xa3 j)))
   obtain⟨p,I⟩:=ak (l[k]);rw[<-I]at G H m z;clear I;obtain⟨x,y⟩:=p;simp only at G H m
   have A:=ag (show ∀o,ah w (wr.alloc o)from fun o=>d.alloc d.size o);have X:wrap64 (x+y)=x+y:=by unfold wrap64;omega
   by_cases J:x<34
   ·have r:=ag ((z.o _ rfl).2 (fun h=>by simp only at h;omega))
    go_wp2;all_goals first|(go_ret;exact⟨by rw[r.o];rfl,A.o _⟩)|(exfalso;omega)
   by_cases T:B<x+y
   ·have r:=ag ((z.o _ rfl).2 (fun h=>by simp only at h;omega))
    have C:decide (x<34)=false:=by simpa using J
    go_wp2;all_goals first|(go_ret;exact⟨by rw[r.o];rfl,A.o _⟩)|(exfalso;omega)
   have D:=ag ((z.o _ rfl).1 ⟨by simp only;omega,by simp only;omega⟩);have C:decide (x<34)=false:=by simpa using J
   have U:decide (B<x+y)=false:=by simpa using T
   go_wp2;go_roundw
   case rel=>exact⟨k+1,by omega,rfl,D,A.o _⟩
   simp only[intOf];omega
  have Y:decide ((k:Int)<n)=false:=aC (by omega);have e:k=l.length:=by have:=E.o;omega
  have r:=ag (show decide (dK l B)=true by
   have:=q.o
   rw[e,Xb5]at this;exact Xd8 (⟨N.o,this⟩:dK l B))
  clear e;go_wp2;go_ret;exact⟨by rw[r.o];rfl,d⟩
 have r:=ag (show decide (dK l B)=false by simp[dK,s]);have V:(dY l==0)=false:=by simpa using s
 go_enter Tryz.func236,Tryz.ntmps236;go_wp2_with (go_at_call 181;refine v.mono ?_;rintro e O⟨rfl,g⟩)
 all_goals first|(go_ret;exact⟨by rw[r.o];rfl,g⟩)|(exfalso;simp_all;done)
theorem qhs(a:aA)(n c:Nat)(fs:List Fl)(w:World)(h:fQ w (.slice a n c) fs)(s:n=fs.length)(hl:(cz fs).length<=1000000):
  Calls Tryz.prog 237 #[.slice a n c] w fun e w'=>∃v,e=.returned v∧bA w' w.heap.size v (cz fs)∧ah w w':=by
 have H:n<=maxLen:=s▸h.len_le;unfold maxLen at H;have I:=ag h;have z:=ag s;have J:=ag hl;clear h s hl;go_enter Tryz.func237,Tryz.ntmps237;go_wp2;go_loopw [8,3] (fun i v wr=>∃k:Nat,k<=n∧i=.int .i64 k∧af (bA wr w.heap.size v (cz (fs.take k)))∧ah w wr) (fun i _ _=>n-(intOf i).toNat)
 case atStart=>exact⟨0,Xd5 _,rfl,ag (by simpa [cz]using bA.nil _ _),aF⟩
 obtain⟨k,T,rfl,d,g⟩:=hrel;by_cases K:k<n
 ·have A:(k:Int)<n:=by omega
  have l:k<fs.length:=by have:=z.o;omega
  have r:=ag (qi9 fs k l);have t:=ag (show(cz (fs.take k)).length+(fs[k]).2.length<=1000000 by
   have M:(cz (fs.take (k+1))).length<=(cz fs).length:=by
    have:cz fs=cz (fs.take (k+1))++cz (fs.drop (k+1)):=by unfold cz;rw[<-List.flatMap_append,Xc0]
    rw[this,Xa0];omega
   have U:=J.o;rw[r.o,Xa0]at M;omega)
  obtain⟨b,N,a2,c2,rfl,O,B,C⟩:=(I.o.a g).at k l;have u:=ag C;clear C;obtain⟨f,D⟩:=ak (fs[k]);rw[<-D]at O B u r t;clear D;have x:∀o,ah w (wr.alloc o):=fun o=>g.alloc g.size o
  have j:∀o,ah wr (wr.alloc o):=fun o=>ae
  obtain⟨L,E⟩:=ak (cz (fs.take k));rw[<-E]at d r t;clear E;have y:=ag (fun o=>Hm (d.o.a (j o)) (x o).size (u.o.a (j o)) rfl t.o);have P:=ag x;clear x j;obtain⟨m,p⟩:=ak f.2.length;rw[<-p]at B y;clear p u;obtain⟨V,Q⟩:=ak (wr.alloc (.cells #[.string (bs f.1),.slice a2 m c2] 98));obtain⟨W,X,Y,q,F,G⟩:=y.o (.cells #[.string (bs f.1),.slice a2 m c2] 98);have R:=ag F;have S:=ag (P.o (.cells #[.string (bs f.1),.slice a2 m c2] 98)|>.trans G);clear F G y Q;go_wp2_with (at_builtin;refine kS rfl (.tmp 12) (.tmp 14) 96 rfl rfl rfl rfl q ?_)
  go_roundw
  case rel=>exact⟨k+1,by omega,rfl,ag (by rw[r.o,<-Xa0];exact R.o),S.o⟩
  simp only[intOf];omega
 have Z:decide ((k:Int)<n)=false:=aC (by omega);have e:k=fs.length:=by have:=z.o;omega
 rw[e,Xb5]at d;clear e;go_wp2;go_ret;exact⟨_,rfl,d.o,g⟩
/-! ### bytes -/
def okB (fs:List Fl):Prop:=fs.length<=1000∧∀f∈fs,f.1.length<=1000∧f.2.length<=1000∧∀x∈f.2,0<=x.1∧x.1<=4096∧0<=x.2∧x.2<=4096
theorem ET:∀(l:List Ex),(∀x∈l,0<=x.1∧x.1<=4096∧0<=x.2∧x.2<=4096)->(dZ l).length<=20*l.length
 |[],_=>by simp[dZ]
 |x::l,h=>by
  have a:=ET l (fun y b=>h y (by simp[b]));have c:=h x (by simp);have d:=iP (n:=x.1.toNat) (by omega);have e:=iP (n:=x.2.toNat) (by omega);unfold dZ at a⊢;simp only[Xb2,Xa0,Xb0,lV];omega
theorem qabt(f:Fl)(h:f.1.length<=1000∧f.2.length<=1000∧∀x∈f.2,0<=x.1∧x.1<=4096∧0<=x.2∧x.2<=4096):(kJ f).length<=30000:=by
 have a:=iP (n:=f.1.length) (by omega);have b:=iP (n:=f.2.length) (by omega);have c:=ET f.2 h.2.2;simp only[kJ,tx,Xa0];omega
theorem qsd:∀(fs:List Fl),(∀f∈fs,f.1.length<=1000∧f.2.length<=1000∧∀x∈f.2,0<=x.1∧x.1<=4096∧0<=x.2∧x.2<=4096)->(fs.flatMap kJ).length<=30000*fs.length
 |[],_=>by simp
 |f::fs,h=>by
  have b:=qsd fs (fun y a=>h y (by simp[a]));have c:=qabt f (h f (by simp));simp only[Xb2,Xa0,Xb0];omega
theorem qww(h:okB fs)(k:Nat):((fs.take k).flatMap kJ).length<=30000000:=by
 have:=qsd (fs.take k) (fun f a=>h.2 f (Xb9 a))
 have b:(fs.take k).length<=1000:=by rw[Xa4];have:=h.1;omega
 omega
abbrev jF (w:World) (base:Nat) (v:Value) (l:az):Prop:=w.ownsRow base 5 1 v l.length (bO l)
theorem jF.a{l:az}(h:jF w base v l)(hb:ah w w'):jF w' base v l:=pI h hb
def jm (w w':World):Prop:=∀(k:Nat) (cs:Array Value) (t:TypeId) (fr:Nat×Nat),t≠5->w.heap[k]? =some (Obj.cells cs t fr)->w'.heap[k]? =some (Obj.cells cs t fr)
theorem jm.of_below(h:ah w w'):jm w w':=fun k cs t b _ a=>by rw[h.block k (Xd6.1 a).1];exact a
theorem jm.refl(w:World):jm w w:=fun _ _ _ _ _ h=>h
theorem Ho{l:az}(h:jF w base v l)(hb:base<=w.heap.size){p:Value}{a:az}(F:Rd w p a)(hl:l.length+a.length<=1000000000):
  ∃v' w',(Builtin.append_ #[23,23] 23 #[v,p]).run Tryz.prog w=.ok v' w'∧jF w' base v' (l++a)∧Below base w w'∧jm w w':=by
 obtain⟨B,hi,r,s,y⟩:=info_parts Tryz.infoB;have i:∀q m c,p=.slice (some q) m c->m=a.length->(∀j u,(bO a)[j]? =some u->w.cell? (q.add j)=some u)->∃v' w',(Builtin.append_ #[23,23] 23 #[v,p]).run Tryz.prog w=.ok v' w'∧jF w' base v' (l++a)∧Below base w w'∧jm w w':=by
  rintro q m c rfl rfl G;obtain⟨H,C,I,D,E,_⟩:=run_append_own (P:=Tryz.prog) w base 23 23 5 B _ 1 1 Tryz.underlying23 hi r s y rfl (by decide) _ _ _ h q a.length c (bO a) (by simp[bO]) G (JM a) (by unfold maxLen;omega) (by omega) hb;have J:Below base w C:=aF.grown E hb fun k n=>(h.lt k n).1
  rw[<-Xa0,<-PR]at D;refine⟨H,C,I,D,J,fun k cs t N K n=>?_⟩;rw[E.block k (Xd6.1 n).1 ?_]
  ·exact n
  intro e;rcases h.2 with⟨rfl,_⟩|⟨g,cap,L,rfl,_,o,_⟩
  ·cases e
  cases e;rw[n]at o;cases o;exact K rfl
 rcases F with⟨rfl,rfl|⟨x,d,rfl⟩⟩|⟨b,M,O,rfl,Q,R,f⟩
 ·refine⟨v,w, ?_,by simpa using h,aF,jm.refl _⟩
  exact run_append_owned_none (P:=Tryz.prog) (w:=w) base 23 23 5 B 1 Tryz.underlying23 hi _ _ _ h
 ·exact i _ _ _ rfl rfl (fun j u z=>by simp[bO]at z)
 refine i _ _ _ rfl rfl fun j u z=>?_
 obtain⟨A,rfl⟩:=JN a j u z;rw[Addr.add_lit];exact f j A
theorem nK(n:Nat)(w:World)(a:n<18446744073709551616):Calls Tryz.prog 86 #[.int .u64 n] w fun e w'=>∃v,e=.returned v∧jF w' w.heap.size v (sm n)∧ah w w':=Nh n w a
theorem Qn(s:az)(w:World)(a:s.length<=1000000):Calls Tryz.prog 60 #[.string (bs s)] w fun e w'=>∃v,e=.returned v∧jF w' w.heap.size v (tx s)∧ah w w':=by
 have:=qws (bs s) w (by rw[rf];omega)
 rwa [zk]at this
theorem qun(a:aA)(n c:Nat)(fs:List Fl)(w:World)(R:fQ w (.slice a n c) fs)(hn:n=fs.length)(E:okB fs):
  Calls Tryz.prog 227 #[.slice a n c] w fun e w'=>∃v,e=.returned v∧jF w' w.heap.size v (dJ fs)∧ah w w':=by
 have hm:n<=1000:=hn▸E.1;have HR:=ag R;have HN:=ag hn;have HK:=ag E;clear R hn E;go_enter Tryz.func227,Tryz.ntmps227;go_wp2_with fail
 refine(nK n _ (by omega)).mono ?_
 rintro e w1⟨v1,rfl,S,T⟩;go_wp2;go_loopw [14,3] (fun i v wr=>∃k:Nat,k<=n∧i=.int .i64 k∧af (jF wr w.heap.size v (sm n++(fs.take k).flatMap kJ))∧ah w wr) (fun i _ _=>n-(intOf i).toNat)
 case atStart=>exact⟨0,Xd5 _,rfl,ag (by simpa using S),T⟩
 obtain⟨k,hk,rfl,d,g⟩:=hrel;clear S T;by_cases U:k<n
 ·have V:(k:Int)<n:=by omega
  have F:k<fs.length:=by have:=HN.o;omega
  have HU:=ag (qq8 fs k F);have qQ:=ag (qww HK.o k);obtain⟨b,ac,a2,c2,rfl,q0,q1,q2⟩:=HR.o.atB g k F;have HQ:=ag q2;clear q2;have G:=ag (HK.o.2 _ (Xa3 F));obtain⟨f,hf⟩:=ak (fs[k]);rw[<-hf]at q0 q1 HQ HU G;clear hf;obtain⟨L,hL⟩:=ak ((fs.take k).flatMap kJ);rw[<-hL]at d HU qQ;clear hL;obtain⟨m,C⟩:=ak f.2.length;rw[<-C]at q1 HQ;have ad:m<=1000:=by rw[C];exact G.o.2.1
  have gP:=ag C;clear C;have qR:=ag (iP (n:=n) (by omega));have uX:=ag (iP (n:=m) (by omega));have zt:=ag (show(tx f.1).length<=1010 by
   have W:=G.o.1;have:=iP (n:=f.1.length) (by omega)
   simp only[tx,Xa0];omega)
  -- the file's copy,its name
  obtain⟨D,h⟩:=ak (wr.alloc (.cells #[.string (bs f.1),.slice a2 m c2] 98));have q:D.heap[wr.heap.size]? =some (.cells #[.string (bs f.1),.slice a2 m c2] 98 (0,0)):=by rw[h];exact heap_alloc_new wr _
  have s:ah wr D:=by rw[h];exact ae
  have X:wr.heap.size<D.heap.size:=by rw[h];simp
  have H:ah w D:=g.trans (s.mono g.size);have Y:=ag (d.o.a s);go_wp2_with fail
  rw[<-h];clear d;refine(Qn f.1 _ (by have:=G.o.1;omega)).mono ?_
  rintro e w3⟨v3,rfl,t,l⟩;have I:ah w w3:=H.trans (l.mono H.size);obtain⟨v4,J,Z,fC,u,z⟩:=Ho (Y.o.a l) I.size (BL t) (by
   have W:=qR.o;have h2:=qQ.o;have h3:=zt.o;rw[Xa0];omega)
  have jY:ah w J:=I.trans u;have P:=z _ _ _ _ (by decide) (jm.of_below l _ _ _ _ (by decide) q);have r4:J.cell? ⟨wr.heap.size,1,none⟩=some (.slice a2 m c2):=by rw[cell_of_row J wr.heap.size 1 _ _ (0,0) P];rfl
  have kV:=ag fC;have K:=ag jY;have rM:=ag P;clear fC jY u z t l I q s h X H Y P g q0 q1;go_wp2_with (first|(at_builtin;refine kS rfl (.tmp 18) (.tmp 21) 23 rfl rfl rfl rfl Z ?_)|fail)
  refine(nK m _ (by omega)).mono ?_
  rintro e w5⟨v5,rfl,ku,r⟩;have N:ah w w5:=K.o.trans (r.mono K.o.size);obtain⟨v6,w6,iZ,ou,A,Es⟩:=Ho (kV.o.a r) N.size (BL ku) (by
   have W:=qR.o;have h2:=qQ.o;have h3:=zt.o;have h4:=uX.o;simp only[Xa0];omega)
  have uY:ah w w6:=N.trans A;have B:=Es _ _ _ _ (by decide) (jm.of_below r _ _ _ _ (by decide) rM.o);have r6:w6.cell? ⟨wr.heap.size,1,none⟩=some (.slice a2 m c2):=by rw[cell_of_row w6 wr.heap.size 1 _ _ (0,0) B];rfl
  have qP:=ag ou;have mJ:=ag uY;clear ou uY A Es ku r N B kV K rM r4 Z;go_wp2_with (at_builtin;refine kS rfl (.tmp 23) (.tmp 28) 23 rfl rfl rfl rfl iZ ?_)
  go_loopw [33,3] (fun i v wx=>∃j:Nat,j<=m∧i=.int .i64 j∧af (jF wx w.heap.size v (sm n++L++tx f.1++sm m++dZ (f.2.take j)))∧ah w wx) (fun i _ _=>m-(intOf i).toNat)
  case atStart=>exact⟨0,Xd5 _,rfl,ag (by simpa [dZ]using qP.o),mJ.o⟩
  obtain⟨j,hj,rfl,d,g⟩:=hrel;have Br:=ag U;clear qP mJ r6 iZ V U;by_cases ai:j<m
  ·have xS:(j:Int)<m:=by omega
   have O:j<f.2.length:=by have:=gP.o;omega
   have HE:=ag (qq9 f.2 j O);obtain⟨bx,ox,rfl,p0,p1⟩:=(HQ.o.a g).at j O;have Q:=ag (G.o.2.2 _ (Xa3 O));have fA:=ag (show(dZ (f.2.take j)).length<=20000 by
    have:=ET (f.2.take j) (fun x hx=>G.o.2.2 x (Xb9 hx))
    have h2:=G.o.2.1;rw[Xa4]at this;omega)
   obtain⟨x,hx⟩:=ak (f.2[j]);rw[<-hx]at p0 p1 HE Q;clear hx;obtain⟨x,y⟩:=x;obtain⟨x,rfl⟩:∃p:Nat,x=p:=⟨x.toNat,by have:=Q.o.1;simp only at this;omega⟩;obtain⟨y,rfl⟩:∃p:Nat,y=p:=⟨y.toNat,by have:=Q.o.2.2.1;simp only at this;omega⟩
   have aj:x<=4096:=by have:=Q.o.2.1;simp only at this;omega
   have al:y<=4096:=by have:=Q.o.2.2.2;simp only at this;omega
   simp only at p0 p1
   have aa:=ag (show dZ (f.2.take (j+1))=dZ (f.2.take j)++(sm x++sm y)by have:=HE.o;simpa [lV]using this);clear HE Q;obtain⟨M,hM⟩:=ak (sm n++L++tx f.1++sm m++dZ (f.2.take j));have Et:=ag (show M.length<=100000000 by
    have W:=qR.o;have h2:=qQ.o;have h3:=zt.o;have h4:=uX.o;have h5:=fA.o;rw[hM];simp only[Xa0];omega)
   rw[<-hM]at d;have HM:=ag hM;clear hM;have TI:=ag (iP (n:=x) (by omega));have ab:=ag (iP (n:=y) (by omega));obtain⟨D,h⟩:=ak (wr.alloc (.cells #[.int .i64 (x:Int),.int .i64 (y:Int)] 237));have q:D.heap[wr.heap.size]? =some (.cells #[.int .i64 (x:Int),.int .i64 (y:Int)] 237 (0,0)):=by rw[h];exact heap_alloc_new wr _
   have s:ah wr D:=by rw[h];exact ae
   have H:ah w D:=g.trans (s.mono g.size);have Y:=ag (d.o.a s);clear d;go_wp2_with fail
   rw[<-h];refine(nK x _ (by omega)).mono ?_
   rintro e w3⟨v3,rfl,t,l⟩;have I:ah w w3:=H.trans (l.mono H.size);obtain⟨v4,J,Z,fC,u,z⟩:=Ho (Y.o.a l) I.size (BL t) (by
    have W:=Et.o;have h2:=TI.o;omega)
   have jY:ah w J:=I.trans u;have P:=z _ _ _ _ (by decide) (jm.of_below l _ _ _ _ (by decide) q);have r4:J.cell? ⟨wr.heap.size,1,none⟩=some (.int .i64 (y:Int)):=by rw[cell_of_row J wr.heap.size 1 _ _ (0,0) P];rfl
   have kV:=ag fC;have K:=ag jY;clear fC jY u z t l I q s h H Y P g p0 p1;go_wp2_with (first|(at_builtin;refine kS rfl (.tmp 37) (.tmp 41) 23 rfl rfl rfl rfl Z ?_)|fail)
   refine(nK y _ (by omega)).mono ?_
   rintro e w5⟨v5,rfl,ku,r⟩;have N:ah w w5:=K.o.trans (r.mono K.o.size);obtain⟨v6,w6,iZ,ou,A,Es⟩:=Ho (kV.o.a r) N.size (BL ku) (by
    have W:=Et.o;have h2:=TI.o;have h3:=ab.o;simp only[Xa0];omega)
   have qP:=ag ou;have mJ:=ag (N.trans A);clear ou A Es ku r N kV K r4 Z;go_wp2_with (at_builtin;refine kS rfl (.tmp 43) (.tmp 47) 23 rfl rfl rfl rfl iZ ?_)
   go_roundw
   case rel=>exact⟨j+1,by omega,rfl,ag (by
    rw[aa.o];have:=qP.o
    rw[HM.o]at this;simpa using this),mJ.o⟩
   simp only[intOf];omega
  have am:decide ((j:Int)<m)=false:=aC (by omega);have e:j=f.2.length:=by have:=gP.o;omega
  rw[e,Xb5]at d;have HO:=ag (d.o);clear e d;go_wp2;go_roundw
  case rel=>exact⟨k+1,Br.o,rfl,ag (by
   rw[HU.o];have:=HO.o
   rw[gP.o]at this;simpa [kJ]using this),g⟩
  have:=Br.o;simp only[intOf];omega
 have hd:decide ((k:Int)<n)=false:=aC (by omega);have e:k=fs.length:=by have:=HN.o;omega
 rw[e,Xb5]at d;clear e;go_wp2;go_ret;exact⟨_,rfl,by have:=d.o;rw[HN.o]at this;exact this,g⟩
theorem Ha:∀(fs:List Fl) (m:Nat),(∀f∈fs,f.2.length<=m)->(cz fs).length<=m*fs.length
 |[],m,_=>by simp[cz]
 |f::fs,m,h=>by
  have a:=Ha fs m (fun g b=>h g (by simp[b]));have c:=h f (by simp);unfold cz at a⊢;simp only[Xb2,Xa0,Xb0,Nat.mul_add];omega
theorem KQ(h:qx fs)(hl:fs.length<=40):(cz fs).length<=2560:=by
 have:=Ha fs 64 (fun f a=>(JY (h.1 f a)).2.2.2)
 omega
theorem KR{B:Int}(hl:fs.length<=1000)(c:∀f∈fs,f.1.length<=1000∧f.2.length<=1000)(d:dY (cz fs)=0):okB fs:=by
 refine⟨hl,fun f a=>⟨(c f a).1,(c f a).2,fun x b=>?_⟩⟩;have:=(TG d).2 x (List.mem_flatMap.2 ⟨f,a,b⟩)
 omega
theorem Hq(hl:fs.length<=40)(a:qx fs)(b:dK (cz fs) B):okB fs:=
 KR (B:=B) (by omega) (fun f c=>by have:=JY (a.1 f c);omega) b.1
theorem qwx(a:aA)(n c:Nat)(fs:List Fl)(w:World)(d:fQ w (.slice a n c) fs)(k:n=fs.length)(f:okB fs):
  Calls Tryz.prog 252 #[.slice a n c] w fun e w'=>e=.returned (.bool (decide ((dJ fs).length<=2048)))∧ah w w':=by
 have b:=qun a n c fs w d k f;clear d k f;obtain⟨L,l⟩:=ak (dJ fs);rw[<-l]at b⊢;clear l;go_enter Tryz.func252,Tryz.ntmps252;go_wp2_with fail
 refine b.mono ?_
 rintro e t⟨p,rfl,h,i⟩;obtain⟨a1,c1,rfl⟩:∃a1 c1,p=.slice a1 L.length c1:=by
   rcases h.2 with⟨rfl,q⟩|⟨g,cap,r,rfl,_⟩
   ·exact⟨_,_,by rw[q]⟩
   exact⟨_,_,rfl⟩
 clear h b;obtain⟨m,j⟩:=ak L.length;rw[<-j];have s:=ag j;clear j;go_wp2;go_ret;exact⟨by have:=s.o;simp;omega,i⟩
theorem qwy(a:aA)(n c:Nat)(fs:List Fl)(B:Int)(w:World)(f:fQ w (.slice a n c) fs)(p:n=fs.length)(l:gL fs):
  Calls Tryz.prog 219 #[.slice a n c,.int .i64 B] w fun e w'=>e=.returned (.bool (decide (dR fs B)))∧ah w w':=by
 have L:n<=maxLen:=p▸f.len_le;unfold maxLen at L;by_cases P:40<n
 ·have q:=ag (show decide (dR fs B)=false by simp only[Xd9];intro h;have:=h.1;omega)
  have y:decide ((n:Int)<=40)=false:=aC (by omega);clear f p;go_enter Tryz.func219,Tryz.ntmps219;go_wp2;all_goals first|(go_ret;exact⟨by rw[q.o];first|rfl|simp[y],aF⟩)|(exfalso;omega)
 have y:(n:Int)<=40:=by omega
 have hl:fs.length<=40:=by omega
 have t:=qpz a n c fs w f p;by_cases m:qx fs
 ·have i:decide (qx fs)=true:=by simpa using m
  rw[i]at t;clear i;have I:=KQ m hl;have J:=ag (fun s (hb1:ah w s)=>qhs a n c fs s (f.a hb1) p (by omega));by_cases u:dK (cz fs) B
  ·have z:=Hq hl m u
   have D:=ag (fun s (hb1:ah w s)=>qwx a n c fs s (f.a hb1) p z);have q:=ag (show decide (dR fs B)=decide ((dJ fs).length<=2048)by
    rw[decide_eq_decide];exact⟨fun h=>h.2.2.2,fun h=>⟨hl,m,u,h⟩⟩)
   have E:=ag u;have F:=ag (TB l);clear f p l m I z u hl;go_enter Tryz.func219,Tryz.ntmps219;go_wp2_with fail
   refine t.mono ?_
   rintro e s⟨rfl,hb1⟩;clear t;go_wp2_with fail
   refine(J.o _ hb1).mono ?_
   rintro e A⟨M,rfl,d,j⟩;have b:ah w A:=hb1.trans (j.mono hb1.size);obtain⟨a2,c2,rfl⟩:=d.form;obtain⟨G,g⟩:=ak ((cz fs).length);rw[<-g]at d⊢;have v:=KJ a2 G c2 (cz fs) B A d.rd g F.o;rw[show decide (dK (cz fs) B)=true by simpa using E.o]at v;clear g d hb1 j;go_wp2_with fail
   refine v.mono ?_
   rintro e H⟨rfl,k⟩;have x:ah w H:=b.trans (k.mono b.size);clear v k b;go_wp2_with fail
   refine(D.o _ x).mono ?_
   rintro e N⟨rfl,C⟩;have O:ah w N:=x.trans (C.mono x.size);clear C x;obtain⟨r,K⟩:=ak (decide ((dJ fs).length<=2048));rw[<-K]at q⊢;clear K;go_wp2;go_ret;exact⟨by rw[q.o];rfl,O⟩
  have q:=ag (show decide (dR fs B)=false by simp only[Xd9];exact fun h=>u h.2.2.1);have E:=ag u;have F:=ag (TB l);clear f p l m I u hl;go_enter Tryz.func219,Tryz.ntmps219;go_wp2_with fail
  refine t.mono ?_
  rintro e s⟨rfl,hb1⟩;clear t;go_wp2_with fail
  refine(J.o _ hb1).mono ?_
  rintro e A⟨M,rfl,d,j⟩;have b:ah w A:=hb1.trans (j.mono hb1.size);obtain⟨a2,c2,rfl⟩:=d.form;obtain⟨G,g⟩:=ak ((cz fs).length);rw[<-g]at d⊢;have v:=KJ a2 G c2 (cz fs) B A d.rd g F.o;rw[show decide (dK (cz fs) B)=false by simpa using E.o]at v;clear g d hb1 j;go_wp2_with fail
  refine v.mono ?_
  rintro e H⟨rfl,k⟩;have x:ah w H:=b.trans (k.mono b.size);clear v k b;go_wp2;go_ret;exact⟨by rw[q.o];rfl,x⟩
 have i:decide (qx fs)=false:=by simpa using m
 rw[i]at t;have q:=ag (show decide (dR fs B)=false by simp only[Xd9];exact fun h=>m h.2.1);clear f p m i hl;go_enter Tryz.func219,Tryz.ntmps219;go_wp2_with fail
 refine t.mono ?_
 rintro e s⟨rfl,hb1⟩;go_wp2;go_ret;exact⟨by rw[q.o];rfl,hb1⟩
theorem TK(a:aA)(n c:Nat)(fs:List Fl)(B:Int)(w:World)(i:fQ w (.slice a n c) fs)(q:n=fs.length)(j:gL fs):
  Calls Tryz.prog 173 #[.agg #[.slice a n c],.int .i64 B] w fun e w'=>e=.returned (.int .i64 (bf fs B))∧ah w w':=by
 have f:∀o,ah w (w.alloc o):=fun o=>ae
 have p:=ag (fun m (hb1:ah w m)=>qwy a n c fs B m (i.a hb1) q j);have g:=ag f;clear i q j;have b:=qf9 B;by_cases h:eX B
 ·rw[show decide (eX B)=true by simpa using h]at b
  have k:=ag (show bf fs B=if decide (dR fs B)=true then 0 else 8 by unfold bf;rw[if_neg (by simpa using h)];simp);clear h;go_enter Tryz.func173,Tryz.ntmps173;go_wp2_with (first|(go_at_call 217;refine(b _).mono ?_;rintro e m⟨rfl,rfl⟩)|fail)
  refine(p.o _ (f _)).mono ?_
  rintro e t⟨rfl,l⟩;have d:ah w t:=(g.o _).trans (l.mono (g.o _).size);obtain⟨r,s⟩:=ak (decide (dR fs B));rw[<-s]at k⊢;clear s l f b;cases r with
  |true=>
   go_wp2;go_ret;exact⟨by rw[k.o];rfl,d⟩
  |false=>
   go_wp2;go_ret;exact⟨by rw[k.o];rfl,d⟩
 rw[show decide (eX B)=false by simpa using h]at b
 have k:=ag (show bf fs B=2 by unfold bf;rw[if_pos h]);clear h;go_enter Tryz.func173,Tryz.ntmps173;go_wp2_with (go_at_call 217;refine(b _).mono ?_;rintro e m⟨rfl,rfl⟩)
 go_ret;exact⟨by rw[k.o];rfl,g.o _⟩
theorem qp0(s t:az)(w:World):
  Calls Tryz.prog 272 #[.string (bs s),.string (bs t)] w fun e w'=>e=.returned (.int .i64 (Lib.compareBytes s t))∧w'=w:=by
 go_enter Tryz.func272,Tryz.ntmps272;go_wp2;rw[run_callFunc_extern Tryz.func289 (by kernel_rfl) (by kernel_rfl) (by kernel_rfl) (e:=Extern.BytealgCompare.compare) (by kernel_rfl),Lib.run_compareString];simp only[Result.andThen,zk];rw[Oper.upon_value];go_wp2;go_ret;exact⟨rfl,rfl⟩
theorem qup(s t:az)(w:World):
  Calls Tryz.prog 248 #[.string (bs s),.string (bs t)] w fun e w'=>e=.returned (.int .i64 (Lib.compareBytes s t))∧w'=w:=by
 go_enter Tryz.func248,Tryz.ntmps248;go_wp2_with (go_at_call 272;refine(qp0 s t _).mono ?_;rintro e wc⟨rfl,rfl⟩)
 go_ret;exact⟨rfl,rfl⟩
theorem qn9(s t:az)(x:Value)(w:World):
  Calls Tryz.prog 247 #[.agg #[.string (bs s),x],.string (bs t)] w fun e w'=>e=.returned (.int .i64 (Lib.compareBytes s t))∧ah w w':=by
 have a:∀o,ah w (w.alloc o):=fun o=>ae
 go_enter Tryz.func247,Tryz.ntmps247;go_wp2_with (go_at_call 248;refine(qup s t _).mono ?_;rintro e wc⟨rfl,rfl⟩)
 go_ret;exact⟨rfl,a _⟩
theorem quq(a:aA)(n c:Nat)(fs:List Fl)(t:az)(w:World)(D:fQ w (.slice a n c) fs)(Y:n=fs.length)(Z:kK fs)(hl:n<=1000000):
  Calls Tryz.prog 246 #[.slice a n c,.string (bs t),.func (.func 247) #[] #[]] w fun e w'=>e=.returned (.tuple #[.int .i64 (dN fs t),.bool (iF fs t)])∧ah w w':=by
 have HR:=ag D;have E:=ag Y;have O:=ag Z;clear D Y Z;go_enter Tryz.func246,Tryz.ntmps246;go_wp2;go_loopw [9,10] (fun x y wr=>∃i j:Nat,i<=j∧j<=n∧x=.int .i64 i∧y=.int .i64 j∧af (∀k,(h:k<fs.length)->(k<i->eu (fs[k]).1 t=true)∧(j<=k->eu (fs[k]).1 t=false))∧ah w wr) (fun x y _=>(intOf y).toNat-(intOf x).toNat)
 case atStart=>exact⟨0,n,Xd5 _,Nat.le_refl _,rfl,rfl,ag (fun k h=>⟨fun h=>by omega,fun F=>by have:=E.o;omega⟩),aF⟩
 obtain⟨i,j,ai,P,rfl,rfl,q,d⟩:=hrel;by_cases aj:i<j
 ·have aa:(i:Int)<j:=by omega
  obtain⟨h,hh⟩:=ak ((i+j) / 2);have Q:i<=h:=by omega
  have al:h<j:=by omega
  have am:h<n:=by omega
  have hsh:((i:Int)+(j:Int)) / 2=(h:Int):=by omega
  have HH:=ag hh;have ab:(h:Int)<n:=by omega
  have r:h<fs.length:=by have:=E.o;omega
  obtain⟨b,R,a2,c2,rfl,G,v,S⟩:=HR.o.atB d h r;clear hh;obtain⟨f,B⟩:=ak (fs[h]);have L:=ag B;rw[<-B]at G v;clear B S;obtain⟨m,H⟩:=ak f.2.length;rw[<-H]at v;clear H;go_wp2_with fail
  refine(qn9 f.1 t _ _).mono ?_
  rintro e T⟨rfl,l⟩;have g:ah w T:=d.trans (l.mono d.size);have C:=ag (XP f.1 t).1;obtain⟨z,I⟩:=ak (Lib.compareBytes f.1 t);rw[<-I]at C⊢;clear I l G v;by_cases A:z<0
  ·have J:=ag (C.o.1 A)
   go_wp2;go_roundw
   case rel=>exact⟨h+1,j,by omega,P,rfl,rfl,ag (fun k M=>⟨fun U=>by
     rcases Nat.lt_or_eq_of_le (Nat.le_of_lt_succ U)with p|p
     ·exact JX _ _ _ (ZQ O.o p r) (by rw[<-L.o];exact J.o)
     subst p;rw[<-L.o];exact J.o,fun V=>(q.o k M).2 V⟩),g⟩
   simp only[intOf];omega
  have J:=ag (show eu f.1 t=false by
   cases hq:eu f.1 t with
   |false=>rfl
   |true=>exact absurd (C.o.2 hq) A)
  have ac:decide (z<0)=false:=by simpa using A
  go_wp2;go_roundw
  case rel=>exact⟨i,h,Q,by omega,rfl,rfl,ag (fun k M=>⟨fun W=>(q.o k M).1 W,fun X=>by
    rcases Nat.lt_or_eq_of_le X with p|p
    ·cases hq:eu (fs[k]).1 t with
     |false=>rfl
     |true=>
      have:=JX _ _ _ (ZQ O.o p M) hq
      rw[<-L.o,J.o]at this;cases this
    subst p;rw[<-L.o];exact J.o⟩),g⟩
  simp only[intOf];omega
 have hd:decide ((i:Int)<j)=false:=aC (by omega);obtain rfl:i=j:=by omega
 have N:=ag (L6 (fs:=fs) (s:=t) (i:=i) (by have:=E.o;omega) (fun k h F=>(q.o k h).1 F) (fun k h F=>(q.o k h).2 F));have HI:=ag (Rj O.o t);by_cases ad:i<n
 ·have K:(i:Int)<n:=by omega
  have r:i<fs.length:=by have:=E.o;omega
  obtain⟨b,R,a2,c2,rfl,G,v,S⟩:=HR.o.atB d i r;have u:=ag (show iF fs t=((fs[i]).1==t)by
   have p:=N.o;rw[HI.o,dif_pos (by omega)];simp only[p])
  obtain⟨f,B⟩:=ak (fs[i]);rw[<-B]at G v u;clear B S;obtain⟨m,H⟩:=ak f.2.length;rw[<-H]at v;clear H;go_wp2_with fail
  refine(qn9 f.1 t _ _).mono ?_
  rintro e T⟨rfl,l⟩;have g:ah w T:=d.trans (l.mono d.size);have C:=ag (XP f.1 t).2;obtain⟨z,I⟩:=ak (Lib.compareBytes f.1 t);rw[<-I]at C⊢;clear I l G v;go_wp2
  all_goals (
   go_ret2;refine⟨?_,g⟩;have hc:(z==0)=(f.1==t):=by rw[Bool.eq_iff_iff];simpa using C.o
   rw[N.o,u.o,<-hc];simp)
 have K:decide ((i:Int)<n)=false:=aC (by omega);have u:=ag (show iF fs t=false by
  have p:=N.o;have F:=E.o;rw[HI.o,dif_neg (by omega)])
 go_wp2;go_ret2;exact⟨by rw[N.o,u.o];rfl,d⟩
theorem ja(a:aA)(n c:Nat)(fs:List Fl)(t:az)(w:World)(b:fQ w (.slice a n c) fs)(g:n=fs.length)(h:kK fs)(hl:n<=1000000):
  Calls Tryz.prog 202 #[.slice a n c,.string (bs t)] w fun e w'=>e=.returned (.tuple #[.int .i64 (dN fs t),.bool (iF fs t)])∧ah w w':=by
 have d:=quq a n c fs t w b g h hl;clear b g h;go_enter Tryz.func202,Tryz.ntmps202;go_wp2_with fail
 refine d.mono ?_
 rintro e i⟨rfl,f⟩;go_wp2;go_ret2;exact⟨rfl,f⟩
end Go.Proofs.YtmeaiocohalphaaGreatDoor
