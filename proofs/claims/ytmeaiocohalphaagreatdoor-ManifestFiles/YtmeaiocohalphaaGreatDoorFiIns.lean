/-
  without; the library's Insert of one file.
-/
import Derived.Test.YtmeaiocohalphaaGreatDoorFiPl
import Derived.Lib.AppendZerosOnto
import Derived.Lib.Overlaps
set_option maxHeartbeats 2000000
set_option maxRecDepth 100000
namespace Go.Proofs.YtmeaiocohalphaaGreatDoor
open Go.RowKit
set_option linter.all false
variable {base c g n p q:Nat}{s:ByteArray}{v x:Value}{w w':World}{fs:List Fl}{d:List (Fl×Value)}{o:Oper}{P:Program}{b:Array Oper}{rest:List Oper}{Q:Exit->Act->World->Prop}
theorem qse(a:aA)(n c:Nat)(l:List Ex)(w:World)(d:iB w (.slice a n c) l)(h:n=l.length)(hl:l.length<=1000000):
  Calls Tryz.prog 170 #[.slice a n c] w fun e w'=>∃v,e=.returned v∧bA w' w.heap.size v l∧ah w w':=by
 have s:=fun p=>Lib.run_eql_slice_nil (P:=Tryz.prog) p 96 237 a n c 0 0 Tryz.underlying96
 cases a with
 |none=>
  have i:=ag (show bA w w.heap.size (.slice none 0 0) l by
   rcases d with⟨rfl,_⟩|⟨b,q,t,e,_⟩
   ·exact bA.nil _ _
   cases e)
  clear d h;go_enter Tryz.func170,Tryz.ntmps170;go_wp2;go_ret;exact⟨_,rfl,i.o,aF⟩
 |some ad=>
  have f:ah w (w.alloc (.cells #[] 237)):=ae;have j:bA (w.alloc (.cells #[] 237)) w.heap.size (.slice (some ⟨w.heap.size,0,none⟩) 0 0) []:=World.ownsRow_made w #[] 0 aL (by decide) rfl;obtain⟨u,x,y,g,k,m⟩:=Hm j f.size (d.a f) h (by simpa using hl);have i:=ag k;have r:=ag (f.trans m);clear j k m d h f;go_enter Tryz.func170,Tryz.ntmps170;go_wp2_with (at_builtin;refine kS rfl (.tmp 5) (.tmp 6) 96 rfl rfl rfl rfl g ?_)
  go_ret;exact⟨_,rfl,by simpa using i.o,r.o⟩
def Qt (w:World) (a:Addr):Value:=(w.cell? a).getD undef
def Two (p q:Nat) (s:ByteArray) (x:Value) (w:World):Prop:=p≠q∧w.heap[p]? =some (.cells #[.string s,x] 98 (0,0))∧∃y z,w.heap[q]? =some (.cells #[y,z] 98 (0,0))
theorem Two.a(h:Two p q s x w)(hb:ah w w'):Two p q s x w':=by
 obtain⟨c,a,y,z,b⟩:=h;exact⟨c,(hb.block p (Xd6.1 a).1).trans a,y,z,(hb.block q (Xd6.1 b).1).trans b⟩
theorem Two.c0(w:World)(h:Two p q s x w):w.cell? ⟨p,0,none⟩=some (.string s):=by rw[cell_of_row w p 0 _ _ (0,0) h.2.1];rfl
theorem Two.c1(w:World)(h:Two p q s x w):w.cell? ⟨p,1,none⟩=some x:=by rw[cell_of_row w p 1 _ _ (0,0) h.2.1];rfl
theorem Two.e0(w:World)(h:Two p q s x w):w.cell? ⟨q,0,none⟩=some (Qt w ⟨q,0,none⟩):=by obtain⟨_,_,y,z,h⟩:=h;unfold Qt;rw[cell_of_row w q 0 _ _ (0,0) h];rfl
theorem Two.e1(w:World)(h:Two p q s x w):w.cell? ⟨q,1,none⟩=some (Qt w ⟨q,1,none⟩):=by obtain⟨_,_,y,z,h⟩:=h;unfold Qt;rw[cell_of_row w q 1 _ _ (0,0) h];rfl
theorem Two.fz(w:World)(h:Two p q s x w)(i:Nat):w.frozen? ⟨q,i,none⟩=false:=by obtain⟨_,_,y,z,h⟩:=h;exact frozen_of_row w q i _ _ h
theorem Two.put(h:Two p q s x w)(u v:Value):Two p q s x ((w.setCell ⟨q,0,none⟩ u).setCell ⟨q,1,none⟩ v)∧((w.setCell ⟨q,0,none⟩ u).setCell ⟨q,1,none⟩ v).heap[q]? =some (.cells #[u,v] 98 (0,0)):=by
 obtain⟨a,b,y,z,c⟩:=h;have a1:=heap_setCell_same w q 0 #[y,z] 98 u c;have a2:=heap_setCell_same (w.setCell ⟨q,0,none⟩ u) q 1 _ 98 v a1;have d:=heap_setCell_other w ⟨q,0,none⟩ p u a;have e:=heap_setCell_other (w.setCell ⟨q,0,none⟩ u) ⟨q,1,none⟩ p v a;have a3:((w.setCell ⟨q,0,none⟩ u).setCell ⟨q,1,none⟩ v).heap[q]? =some (.cells #[u,v] 98 (0,0)):=by rw[a2];rfl
 exact⟨⟨a,(e.trans d).trans b,u,v,a3⟩,a3⟩
theorem zu(u v:Value):w.grownBy ((w.setCell ⟨q,0,none⟩ u).setCell ⟨q,1,none⟩ v) (some q):=Qi (nO w ⟨q,0,none⟩ u) (nO _ ⟨q,1,none⟩ v)
theorem qjj(s:az)(a:aA)(n c:Nat)(l:List Ex)(w:World)(r:iB w (.slice a n c) l)(D:n=l.length)(hl:l.length<=1000000):
  Calls Tryz.prog 180 #[.agg #[.string (bs s),.slice a n c]] w fun e w'=>∃v,e=.returned (.agg #[.string (bs s),v])∧bA w' w.heap.size v l∧ah w w':=by
 have K:=ag (fun E (hb1:ah w E)=>qse a n c l E (r.a hb1) D hl);clear r D hl;obtain⟨g,u⟩:∃g,g=(w.alloc (.cells #[.string (bs s),.slice a n c] 98)).alloc (.cells #[.string {data:=#[]},.slice none 0 0] 98):=⟨_,rfl⟩
 have f:ah w g:=by rw[u];exact(ae).alloc (by simp) _
 have j:Two w.heap.size (w.heap.size+1) (bs s) (.slice a n c) g:=by
  rw[u];refine⟨by omega, ?_,.string {data:=#[]},.slice none 0 0, ?_⟩
  ·have:=heap_alloc_new w (.cells #[.string (bs s),.slice a n c] 98)
   rw[<-this];exact((Below.refl (w.alloc (.cells #[.string (bs s),.slice a n c] 98)).heap.size _).alloc aL _).block _ (by simp)
  have:=heap_alloc_new (w.alloc (.cells #[.string (bs s),.slice a n c] 98)) (.cells #[.string {data:=#[]},.slice none 0 0] 98)
  simpa using this
 have L:=fun d h=>Two.c0 (p:=w.heap.size) (q:=w.heap.size+1) (s:=bs s) (x:=.slice a n c) d h
 have M:=fun d h=>Two.c1 (p:=w.heap.size) (q:=w.heap.size+1) (s:=bs s) (x:=.slice a n c) d h
 have N:=fun d h=>Two.e0 (p:=w.heap.size) (q:=w.heap.size+1) (s:=bs s) (x:=.slice a n c) d h
 have O:=fun d h=>Two.e1 (p:=w.heap.size) (q:=w.heap.size+1) (s:=bs s) (x:=.slice a n c) d h
 have P:=fun d i h=>Two.fz (p:=w.heap.size) (q:=w.heap.size+1) (s:=bs s) (x:=.slice a n c) d h i
 go_enter Tryz.func180,Tryz.ntmps180;go_wp2;rw[<-u];have F:=j;clear j u;go_region_held3 (fun d=>Two w.heap.size (w.heap.size+1) (bs s) (.slice a n c) d) (first|assumption|exact(Two.put (by assumption) _ _).1|exact Two.a (by assumption) (by assumption)) ((go_at_call 170;refine(K.o _ (by exact f.drew)).mono ?_;rintro e A⟨U,rfl,b,G⟩;obtain⟨a2,c2,rfl⟩:=b.form))
 have H:ah g A:=((Below.refl g.heap.size g).drew).trans G;have j:=F.a H;obtain⟨Q,B⟩:=j.put (.string (bs s)) (.slice a2 l.length c2);obtain⟨y,z,I⟩:=j.2.2;have t:ah w A:=f.trans (H.mono f.size);have C:=zu (w:=A) (q:=w.heap.size+1) (.string (bs s)) (.slice a2 l.length c2);obtain⟨m,J⟩:=ak ((A.setCell ⟨w.heap.size+1,0,none⟩ (.string (bs s))).setCell ⟨w.heap.size+1,1,none⟩ (.slice a2 l.length c2));rw[<-J]at B C⊢;have R:=ag (show bA m w.heap.size (.slice a2 l.length c2) l from bA.mono (World.ownsRow.kept b C (.inr (b.apartF I))) f.size);have S:=ag (show ah w m from t.grown C t.size (by intro k T;cases T;omega));have V:m.cell? ⟨w.heap.size+1,0,none⟩=some (.string (bs s)):=by rw[cell_of_row m _ 0 _ _ (0,0) B];rfl
 have W:m.cell? ⟨w.heap.size+1,1,none⟩=some (.slice a2 l.length c2):=by rw[cell_of_row m _ 1 _ _ (0,0) B];rfl
 clear j Q B I C J b G F L M N O P;go_wp2;try simp only[Exit.inBlock,Exit.then]
 refine bodyPost_ret (v:=.agg #[.string (bs s),.slice a2 l.length c2]) ?_ rfl ⟨_,rfl,R.o,S.o⟩
 simp[results,Tryz.results180,go_sem, *]
theorem bi.parts(h:bi w base v fs):∃b a c,b.map Prod.fst=fs∧b.length=fs.length∧v=.slice a fs.length c∧jX w base (.slice a fs.length c) b:=by
 obtain⟨a,c,rfl⟩:=h.form;obtain⟨b,rfl,h⟩:=h;exact⟨b,a,c,rfl,by simp,rfl,h⟩
theorem Fz(h:bi w base v fs)(hb:base<=w.heap.size)(hl:fs.length<=1000000)(s:az)(x:Value)(l:List Ex)(d:bA w base x l):
  ∃g c w',(Builtin.append_ #[29,29] 29 #[v,.slice (some ⟨w.heap.size,0,none⟩) 1 1]).run Tryz.prog (w.alloc (.cells #[.string (bs s),x] 98))=.ok (.slice (some ⟨g,0,none⟩) (fs.length+1) c) w'∧
   bi w' base (.slice (some ⟨g,0,none⟩) (fs.length+1) c) (fs++[(s,l)])∧Below base w w':=by
 obtain⟨e,rfl,h⟩:=h;rw[Xd1]at hl;obtain⟨g,c,w',a,f,b⟩:=qwv h hb hl s x l d;rw[Xd1];exact⟨g,c,w',a,⟨e++[((s,l),x)],by simp,f⟩,b⟩
theorem qoa(a:aA)(n c:Nat)(fs:List Fl)(w:World)(y:fQ w (.slice a n c) fs)(G:n=fs.length)(hl:fs.length<=1000)(z:∀f∈fs,f.2.length<=1000000):
  Calls Tryz.prog 250 #[.slice a n c] w fun e w'=>∃v,e=.returned v∧bi w' w.heap.size v fs∧ah w w':=by
 have hm:n<=1000:=by omega
 have S:=ag y;have H:=ag G;have T:=ag z;clear y G hl z;go_enter Tryz.func250,Tryz.ntmps250;go_wp2;go_loopw [8,3] (fun i v wr=>∃k:Nat,k<=n∧i=.int .i64 k∧af (bi wr w.heap.size v (fs.take k))∧ah w wr) (fun i _ _=>n-(intOf i).toNat)
 case atStart=>exact⟨0,Xd5 _,rfl,ag (by simpa using bi.nil _ _),aF⟩
 obtain⟨k,hk,rfl,h,d⟩:=hrel;by_cases U:k<n
 ·have I:(k:Int)<n:=by omega
  have t:k<fs.length:=by have:=H.o;omega
  have J:=ag (qF fs k t);have K:=ag (show(fs.take k).length=k by rw[Xa4];omega);obtain⟨b,V,a2,c2,rfl,D,B,L⟩:=S.o.atB d k t;have E:=ag L;have M:=ag (T.o _ (Xa3 t));clear L;obtain⟨f,N⟩:=ak (fs[k]);rw[<-N]at D B E J M;clear N;obtain⟨s,l⟩:=f;simp only at D B
  obtain⟨m,j⟩:=ak l.length;have W:=ag (show iB w (.slice a2 m c2) l by rw[j];exact E.o);rw[<-j]at B;have X:=ag j;clear j E;have A:∀o,ah w (wr.alloc o):=fun o=>d.alloc d.size o
  go_wp2_with fail
  refine(qjj s a2 m c2 l _ (W.o.a (A _)) X.o M.o).mono ?_
  rintro e Y⟨Z,rfl,p,q⟩;obtain⟨O,u⟩:=ak (wr.alloc (.cells #[.string (bs s),.slice a2 m c2] 98));rw[<-u]at p q;have x:ah wr O:=by rw[u];exact ae
  have C:ah w O:=d.trans (x.mono d.size);have F:ah w Y:=C.trans (q.mono C.size);obtain⟨g,cc,w9,r,P,Q⟩:=Fz ((h.o.a x).a q) F.size (by have:=K.o;omega) s Z l (p.mono C.size);have R:=ag P;have dG:=ag (F.trans Q);rw[K.o]at r R;obtain⟨av,cv,rfl⟩:=p.form;clear P Q p q u x C F h D B A;go_wp2_with (at_builtin;refine kS rfl (.tmp 12) (.tmp 15) 29 rfl rfl rfl rfl r ?_)
  go_roundw
  case rel=>exact⟨k+1,by omega,rfl,ag (by rw[J.o];exact R.o),dG.o⟩
  simp only[intOf];omega
 have hd:decide ((k:Int)<n)=false:=aC (by omega);have e:k=fs.length:=by have:=H.o;omega
 rw[e,Xb5]at h;clear e;go_wp2;go_ret;exact⟨_,rfl,h.o,d⟩
theorem qsf(w:World)(g:Nat)(cs:Array Value):w.grownBy (w.setRow g cs) (some g):=
 ⟨rfl,rfl,rfl,by simp[World.setRow],fun k _ a=>setRow_other w g k cs (fun e=>a (by rw[e]))⟩
theorem zw(w:World)(m:TypeId)(g o b e:Nat)(a:Addr)(c f:Nat)(d:Array Value)(cs:List Value)
  (n:w.heap[g]? =some (.cells d 98 (0,0))) (p:cs.length=Nat.min c b*2)
  (h:∀j v,cs[j]? =some v->w.cell? (a.add j)=some v) (i:o+cs.length<=d.size) (q:∀v∈cs,v.oneCell'=true):
  (Builtin.copy_ #[29,29] m #[.slice (some ⟨g,o,none⟩) b e,.slice (some a) c f]).run Tryz.prog w=
   .ok (goInt (Nat.min c b)) (w.setRow g (d.toList.take o++cs++d.toList.drop (o+cs.length)).toArray):=by
 have hl:=run_loadCells_list (P:=Tryz.prog) w a cs h;have k:=run_storeCells_at Tryz.prog g o 98 cs 0 d w n (by simpa using i) q;obtain⟨t,hi,r,l,s⟩:=info_parts Tryz.infoFl;simp[Builtin.copy_,run_underlying Tryz.underlying29,Builtin.lenOf,Builtin.firstCells,sizeOf,typeInfo,hi,l,<-p,hl,k]
theorem qy0(w:World)(l:TypeId)(g o n c:Nat)(a:Array Value)(y:0<n)(r:w.heap[g]? =some (.cells a 98 (0,0)))(b:o+n*2<=a.size):
  (Builtin.clear_ #[29] l #[.slice (some ⟨g,o,none⟩) n c]).run Tryz.prog w=
   .ok (.tuple #[]) (w.setRow g (a.toList.take o++eQ (List.replicate n (([],[]),.slice none 0 0))++a.toList.drop (o+n*2)).toArray):=by
 obtain⟨z,hi,h,s,t⟩:=info_parts Tryz.infoFl;have u:∀w,(zeroValue 98).run Tryz.prog w=.ok (.agg #[.string ByteArray.empty,.slice none 0 0]) w:=by intro w;simp[zeroValue,typeInfo,hi,h]
 have e:(Builtin.zeroCells (Value.cells (.agg #[.string ByteArray.empty,.slice none 0 0])) n).toList=eQ (List.replicate n (([],[]),.slice none 0 0)):=by
  have e0:Value.cells (.agg #[.string ByteArray.empty,.slice none 0 0])=#[.string ByteArray.empty,.slice none 0 0]:=rfl;rw[e0];apply List.ext_getElem?;intro i;by_cases d:i<n*2
  ·obtain⟨q,A⟩:=ak (i / 2)
   obtain⟨e1,j⟩:=nY (List.replicate n (([],[]),Value.slice none 0 0)) q (by rw[Xc1];omega);rw[List.getElem_replicate]at e1 j;rcases Nat.mod_two_eq_zero_or_one i with k|k
   ·obtain rfl:i=q*2:=by omega
    rw[e1];simp[Builtin.zeroCells,d];rfl
   obtain rfl:i=q*2+1:=by omega
   rw[j];simp[Builtin.zeroCells,d,k]
  rw[List.getElem?_eq_none (by simp[Builtin.zeroCells];omega),List.getElem?_eq_none (by rw[Bp,Xc1];omega)]
 have f:=run_storeCells_at Tryz.prog g o 98 (eQ (List.replicate n (([],[]),.slice none 0 0))) 0 a w r (by rw[Bp];simpa using b) (by
  intro v hv;obtain⟨p,x,hv⟩:=List.mem_flatMap.1 hv;obtain rfl:=(List.mem_replicate.1 x).2;simp at hv
  rcases hv with rfl|rfl<;>rfl)
 rw[Bp,Xc1]at f;obtain⟨m,rfl⟩:∃m,n=m+1:=⟨n-1,by omega⟩
 simp[Builtin.clear_,run_underlying Tryz.underlying29,u,e,f]
theorem qj2(s t:az)(x:Value)(p:Nat)(w:World)(b:w.cell? ⟨p,0,none⟩=some (.string (bs t))):
  Calls Tryz.prog 251 #[.agg #[.string (bs s),x],.pointer (some ⟨p,0,none⟩)] w fun e w'=>e=.returned (.bool (s==t))∧ah w w':=by
 have a:∀o,ah w (w.alloc o):=fun o=>ae
 have c:=zq s t;have d:∀o,(w.alloc o).cell? ⟨p,0,none⟩=some (.string (bs t)):=fun o=>Lib.cell?_alloc_some _ b
 go_enter Tryz.func251,Tryz.ntmps251;go_wp2;go_ret;exact⟨by first|(rw[<-c];rfl)|rfl,a _⟩
def oU (fs:List Fl) (t:az):Int:=if fs.findIdx (fun f=>f.1==t)<fs.length then(fs.findIdx (fun f=>f.1==t):Nat)else -1
theorem qy1(a:aA)(n c:Nat)(fs:List Fl)(t:az)(p:Nat)(w:World)(q:fQ w (.slice a n c) fs)(x:n=fs.length)(C:w.cell? ⟨p,0,none⟩=some (.string (bs t))):
  Calls Tryz.prog 273 #[.slice a n c,.func (.func 251) #[] #[.pointer (some ⟨p,0,none⟩)]] w fun e w'=>e=.returned (.int .i64 (oU fs t))∧ah w w':=by
 have I:n<=maxLen:=x▸q.len_le;unfold maxLen at I;have J:=ag q;have D:=ag x;have E:=ag C;clear q x C;go_enter Tryz.func273,Tryz.ntmps273;go_wp2;go_loopw [8] (fun i wr=>∃k:Nat,k<=n∧i=.int .i64 k∧af (∀j,(h:j<fs.length)->j<k->((fs[j]).1==t)=false)∧ah w wr) (fun i _=>n-(intOf i).toNat)
 case atStart=>exact⟨0,Xd5 _,rfl,ag (fun j _ h=>by omega),aF⟩
 obtain⟨k,Q,rfl,g,d⟩:=hrel;by_cases K:k<n
 ·have F:(k:Int)<n:=by omega
  have r:k<fs.length:=by have:=D.o;omega
  obtain⟨b,L,a2,c2,rfl,G,y,M⟩:=J.o.atB d k r;clear M;obtain⟨f,z⟩:=ak (fs[k]);rw[<-z]at G y;have H:=ag z;clear z;obtain⟨m,u⟩:=ak f.2.length;rw[<-u]at y;clear u;go_wp2_with fail
  refine(qj2 f.1 t _ p _ (by rw[d.cell (Xa6 w _ E.o)];exact E.o)).mono ?_
  rintro e N⟨rfl,v⟩;have l:ah w N:=d.trans (v.mono d.size);clear v G y;cases hq:(f.1==t)with
  |true=>
   have A:=ag (show oU fs t=k by
    have:fs.findIdx (fun f=>f.1==t)=k:=by
     rw[List.findIdx_eq r];refine⟨by rw[<-H.o];exact hq,fun j B=>?_⟩;have:=g.o j (by omega) B
     simpa using this
    unfold oU;rw[this,if_pos r])
   clear hq;go_wp2;go_ret;exact⟨by rw[A.o];rfl,l⟩
  |false=>
   have O:=ag (show ∀j,(h:j<fs.length)->j<k+1->((fs[j]).1==t)=false by
    intro j h B;rcases Nat.lt_or_eq_of_le (Nat.le_of_lt_succ B)with s|s
    ·exact g.o j h s
    subst s;rw[<-H.o];exact hq)
   clear hq;go_wp2;go_roundw
   case rel=>exact⟨k+1,by omega,rfl,O,l⟩
   simp only[intOf];omega
 have R:decide ((k:Int)<n)=false:=aC (by omega);have A:=ag (show oU fs t=-1 by
  unfold oU;rw[if_neg];intro h;have s:=List.findIdx_getElem (w:=h);have P:=g.o _ h (by have:=D.o;omega);rw[P]at s;cases s)
 go_wp2;go_ret;exact⟨by rw[A.o];rfl,d⟩
theorem qob:∀(a:List (Fl×Value)) (i:Nat) (q:Fl×Value),i<a.length->eQ (a.set i q)=((eQ a).set (i*2) (.string (bs q.1.1))).set (i*2+1) q.2
 |p::a,0,q,_=>by simp[eQ]
 |p::a,i+1,q,h=>by
  have:=qob a i q (by simpa using h)
  rw[List.set_cons_succ,AP,AP,this,show(i+1)*2=i*2+1+1 by omega];rfl
theorem jX.block(h:jX w base (.slice (some ⟨g,0,none⟩) n c) d):
  ∃a:Array Value,n=d.length∧base<=g∧w.heap[g]? =some (.cells a 98 (0,0))∧n<=c∧c<=maxLen∧a.size=c*2∧a.toList.take (n*2)=eQ d:=by
 rcases h.1.2 with⟨e,_⟩|⟨m,cap,a,e,i,j,k,l,f,b⟩
 ·cases e
 cases e;exact⟨a,rfl,i,j,k,l,f,b⟩
theorem jX.stored(h:jX w base (.slice (some ⟨g,0,none⟩) n c) d)(i:Nat)(hi:i<d.length)(q:Fl×Value)(k:bA w base q.2 q.1.2):
  jX ((w.setCell ⟨g,i*2,none⟩ (.string (bs q.1.1))).setCell ⟨g,i*2+1,none⟩ q.2) base (.slice (some ⟨g,0,none⟩) n c) (d.set i q)∧
   w.grownBy ((w.setCell ⟨g,i*2,none⟩ (.string (bs q.1.1))).setCell ⟨g,i*2+1,none⟩ q.2) (some g):=by
 obtain⟨l,rfl,o,m,_⟩:=h.block;have f:=World.ownsRow.stored h.1 (i*2) (.string (bs q.1.1));have j:=World.ownsRow.stored f.1 (i*2+1) q.2;have a:=Qi f.2 j.2;refine⟨⟨?_, ?_⟩,a⟩
 ·rw[qob d i q hi,List.length_set];exact j.1
 intro p e;have b:bA w base p.2 p.1.2:=by
  rcases List.mem_or_eq_of_mem_set e with e|rfl
  ·exact h.2 p e
  exact k
 exact World.ownsRow.kept b a (.inr (b.apartF m))
theorem jX.cells{a:List (Fl×Value)}(h:jX w base (.slice (some ⟨g,0,none⟩) n c) a)(j:Nat)(b:j<a.length):
  w.cell? ⟨g,j*2,none⟩=some (.string (bs (a[j]).1.1))∧w.cell? ⟨g,j*2+1,none⟩=some (a[j]).2:=by
 obtain⟨e1,d⟩:=nY a j b;have c1:=h.1.cells (g:=g) rfl _ _ e1;have c2:=h.1.cells (g:=g) rfl _ _ d;rw[Addr.add_lit]at c1 c2;exact⟨by simpa using c1,by simpa [Nat.add_assoc]using c2⟩
theorem jX.fz{a:List (Fl×Value)}(h:jX w base (.slice (some ⟨g,0,none⟩) n c) a)(j:Nat):w.frozen? ⟨g,j,none⟩=false:=by
 obtain⟨b,rfl,e,d,_⟩:=h.block;exact frozen_of_row w g j _ _ d
theorem jX.laid{m:Nat}{o qs:List (Fl×Value)}(h:jX w base (.slice (some ⟨g,0,none⟩) n c) o)(new:List Value)(d:new.length=c*2)(j:m=qs.length)(p:m<=c)
  (r:new.take (m*2)=eQ qs) (k:∀q∈qs,bA w base q.2 q.1.2):jX (w.setRow g new.toArray) base (.slice (some ⟨g,0,none⟩) m c) qs∧w.grownBy (w.setRow g new.toArray) (some g):=by
 obtain⟨e,rfl,s,l,t,f,u,i⟩:=h.block;have a:=qsf w g new.toArray;refine⟨⟨⟨by rw[Bp],.inr ⟨g,c,new.toArray,by rw[j],s,setRow_heap w g e _ 98 _ l,by omega,f,by simpa using d,by subst j;simpa using r⟩⟩,fun q b=>?_⟩,a⟩;exact World.ownsRow.kept (k q b) a (.inr ((k q b).apartF l))
theorem qm0{a:Act}(d:o.guard=none)(s:Operand)(t:TypeId)
  (e:o.op=.call {callee:=.builtin .clear,args:=#[s],argTypes:=#[t]}) {v v':Value} (f:a.eval s=v)
  (c:(Builtin.clear_ #[t] o.type #[v]).run P w=.ok v' w') (h:wpList P b Q rest (a.put o.dst v') w'):wpList P b Q (o::rest) a w:=by
 refine wpList_plain d fun K g=>?_
 unfold Oper.wp execOp;simp only[e,resolve,invoke,builtin,Sem.run_bind,Sem.run_pure,Result.andThen_ok,List.map_toArray,List.map_cons,List.map_nil,f,c];exact g _ _ h
abbrev dl (t:az):Fl×Value->Bool:=fun p=>!(p.1.1==t)
theorem KS(a:List (Fl×Value))(t:az):(a.filter (dl t)).map Prod.fst=bM (a.map Prod.fst) t:=by
 unfold bM;rw[List.filter_map];rfl
theorem qabu{t:az}{k:Nat}(h:oU fs t=k):∃b:k<fs.length,(fs[k]).1=t∧∀j,(h:j<k)->(fs[j]).1≠t:=by
 unfold oU at h;split at h
 ·rename_i h1
  have e:fs.findIdx (fun f=>f.1==t)=k:=by omega
  subst e;refine⟨h1, ?_,fun j a=>?_⟩
  ·have:=List.findIdx_getElem (w:=h1);simpa using this
  have:=List.not_of_lt_findIdx a;simpa using this
 omega
theorem E5{t:az}(h:oU fs t=-1):∀f∈fs,(f.1==t)=false:=by
 unfold oU at h;split at h
 ·omega
 rename_i h1
 intro f a;have b:fs.findIdx (fun f=>f.1==t)=fs.length:=by have:=List.findIdx_le_length (xs:=fs) (p:=fun f=>f.1==t);omega
 have:=List.findIdx_eq_length.1 b f a
 simpa using this
theorem qaf3(fs:List Fl)(t:az):oU fs t=-1∨∃k:Nat,oU fs t=k:=by
 unfold oU;split
 ·exact .inr ⟨_,rfl⟩
 exact .inl rfl
theorem qur(base:Nat)(v:Value)(a:aA)(n c:Nat)(d:List (Fl×Value))(t:az)(p:Nat)(w:World)(hv:v=.slice a n c)(r:jX w base v d)(hn:n=d.length)(hl:n<=1000)(hb:base<=w.heap.size)(am:p<base)(hp:w.cell? ⟨p,0,none⟩=some (.string (bs t))):
  Calls Tryz.prog 249 #[v,.func (.func 251) #[] #[.pointer (some ⟨p,0,none⟩)]] w fun e w'=>∃v',e=.returned v'∧bi w' base v' (bM (d.map Prod.fst) t)∧Below base w w':=by
 subst hv;have F:=qy1 a n c (d.map Prod.fst) t p w r.rd (by simpa using hn) hp;rcases qaf3 (d.map Prod.fst) t with G|⟨k,G⟩
 ·have HO:=ag (show bi w base (.slice a n c) (bM (d.map Prod.fst) t)by
   refine⟨d, ?_,r⟩;unfold bM;rw[List.filter_eq_self.2];intro f hf;simp[E5 G f hf])
  rw[G]at F;clear G r hn;go_enter Tryz.func249,Tryz.ntmps249;go_wp2_with fail
  refine F.mono ?_
  rintro e w1⟨rfl,C⟩;go_wp2;go_ret;exact⟨_,rfl,HO.o.a C,C.mono hb⟩
 obtain⟨Z,aa,ab⟩:=qabu G
 rw[G]at F;have aE:k<n:=by rw[Xd1]at Z;omega
 obtain⟨g,rfl⟩:∃g,a=some ⟨g,0,none⟩:=by
  rcases r.1.2 with⟨e,h0⟩|⟨g,cap,H,e,_⟩
  ·omega
  cases e;exact⟨g,rfl⟩
 have HT:=ag (show d.take k=(d.take (k+1)).filter (dl t)by
  have an:k<d.length:=by omega
  rw[qF d k an,List.filter_append];have e1:(d.take k).filter (dl t)=d.take k:=by
   rw[List.filter_eq_self];intro q R;obtain⟨j,hj,rfl⟩:=Xb7.1 R;rw[Xa4]at hj;have:=ab j (by omega)
   simp only[List.getElem_map]at this;simp[dl,List.getElem_take,this]
  have e2:[d[k]].filter (dl t)=[]:=by
   have:(d[k]).1.1=t:=by simpa using aa
   simp[dl,this]
  rw[e1,e2,Xc8])
 have ac:=ag r;have HN:=ag hn;have HP:=ag hp;clear G Z aa ab r hn hp;have ad:(k:Int)<n:=by omega
 go_enter Tryz.func249,Tryz.ntmps249;go_wp2_with fail
 refine F.mono ?_
 rintro e w1⟨rfl,C⟩;clear F;have ao:((k:Int)==-1)=false:=by first|(simp;done)|(simp;omega)
 go_wp2;go_loopw [5,6] (fun x y wr=>∃(i j:Nat) (qs:List (Fl×Value)),i<j∧j<=n∧x=.int .i64 i∧y=.int .i64 j∧af (jX wr base (.slice (some ⟨g,0,none⟩) n c) qs∧qs.length=n∧qs.take i=(d.take j).filter (dl t)∧qs.drop j=d.drop j)∧Below base w wr) (fun _ y _=>n-(intOf y).toNat)
 case atStart=>exact⟨k,k+1,d,by omega,by omega,rfl,by go_num,ag ⟨ac.o.a C,HN.o.symm,HT.o,rfl⟩,C.mono hb⟩
 obtain⟨i,j,qs,aH,aJ,rfl,rfl,b,u⟩:=hrel;clear C ad ao;by_cases aK:j<n
 ·have ay:(j:Int)<n:=by omega
  have S:j<qs.length:=by have:=b.o.2.1;omega
  obtain⟨q0,q1⟩:=b.o.1.cells j S;have HQ:=ag (b.o.1.2 _ (Xa3 S));have T:=ag (show ∃h:j<d.length,qs[j]=d[j]by
   have h1:=b.o.2.2.2;have X:j<d.length:=by have:=HN.o;omega
   refine⟨X, ?_⟩;have Y:(qs.drop j)[0]? =(d.drop j)[0]?:=by rw[h1]
   rw[List.getElem?_drop,List.getElem?_drop,Nat.add_zero,List.getElem?_eq_getElem S,List.getElem?_eq_getElem X]at Y;exact Option.some.inj Y)
  obtain⟨q,R⟩:=ak (qs[j]);rw[<-R]at q0 q1 HQ T;have HE:=ag R;clear R;obtain⟨⟨s,l⟩,x⟩:=q;simp only at q0 q1
  obtain⟨L,M,TM⟩:∃L M,x=.slice L l.length M:=HQ.o.form;subst TM;obtain⟨m,hm⟩:=ak l.length;have HM:=ag hm;rw[<-hm]at q1;clear hm
  have U:∀o,ah wr (wr.alloc o):=fun o=>ae
  have Hr:∀o,Below base w (wr.alloc o):=fun o=>u.trans ((U o).mono (aG hb u.size))
  go_wp2_with fail
  obtain⟨w2,N⟩:=ak (wr.alloc (.cells #[.string (bs s),.slice L m M] 98));refine(qj2 s t _ p _ (by rw[(Hr _).cell (p:=⟨p,0,none⟩) am];exact HP.o)).mono ?_
  rintro e P⟨rfl,O⟩;rw[<-N]at O;have I:w2.heap[wr.heap.size]? =some (.cells #[.string (bs s),.slice L m M] 98 (0,0)):=by rw[N];exact heap_alloc_new wr _
  have A:P.heap[wr.heap.size]? =some (.cells #[.string (bs s),.slice L m M] 98 (0,0)):=(O.block _ (Xd6.1 I).1).trans I
  have z0:P.cell? ⟨wr.heap.size,0,none⟩=some (.string (bs s)):=by rw[cell_of_row P _ 0 _ _ (0,0) A];rfl
  have z1:P.cell? ⟨wr.heap.size,1,none⟩=some (.slice L m M):=by rw[cell_of_row P _ 1 _ _ (0,0) A];rfl
  have FB:ah wr P:=by
   have h1:ah wr w2:=by rw[N];exact U _
   exact h1.trans (O.mono h1.size)
  have dH:Below base w P:=u.trans (FB.mono (aG hb u.size));have D:=ag (show jX P base (.slice (some ⟨g,0,none⟩) n c) qs from b.o.1.a FB);have E8:=ag (HQ.o.a FB);clear N O I A Hr U FB q0 q1;by_cases E:s=t
  ·have HF:=ag (show(d.take (j+1)).filter (dl t)=(d.take j).filter (dl t)by
    obtain⟨X,Y⟩:=T.o;rw[qF d j X,List.filter_append,<-Y];simp[dl,E])
   have z:(s==t)=true:=by simp[E]
   rw[z];clear E z;go_wp2;go_roundw
   case rel=>exact⟨i,j+1,qs,by omega,by omega,rfl,rfl,ag ⟨D.o,b.o.2.1,by rw[HF.o];exact b.o.2.2.1,by
    have:=b.o.2.2.2
    rw[<-List.drop_drop,this,List.drop_drop]⟩,dH⟩
   simp only[intOf];omega
  have HF:=ag (show(d.take (j+1)).filter (dl t)=(d.take j).filter (dl t)++[((s,l),.slice L l.length M)]by
   obtain⟨X,Y⟩:=T.o;rw[qF d j X,List.filter_append,<-Y];simp[dl,E])
  have z:(s==t)=false:=by simp[E]
  rw[z];clear E z;have Eu:i<qs.length:=by have:=b.o.2.1;omega
  have aO:(i:Int)<n:=by omega
  obtain⟨y0,y1⟩:=D.o.cells i Eu;have f0:=D.o.fz (i*2);have f1:=D.o.fz (i*2+1);obtain⟨u0,ai⟩:=ak (Value.string (bs (qs[i]).1.1));obtain⟨u1,aj⟩:=ak ((qs[i]).2);rw[<-ai]at y0;rw[<-aj]at y1;clear ai aj;have al:=ag (D.o.stored i Eu ((s,l),.slice L m M) (by rw[HM.o];exact E8.o));have HG:=ag (show base<=g from(D.o.block).choose_spec.2.1);go_wp2;go_roundw
  case rel=>
   refine⟨i+1,j+1,qs.set i ((s,l),.slice L m M),by omega,by omega,rfl,rfl,ag ⟨al.o.1,by rw[List.length_set];exact b.o.2.1, ?_, ?_⟩,dH.grown al.o.2 (aG hb dH.size) (by intro k G;cases G;exact HG.o)⟩
   ·rw[HF.o,<-b.o.2.2.1,qF _ i (by rw[List.length_set];exact Eu),List.take_set_of_le aL,List.getElem_set_self,<-HM.o]
   rw[List.drop_set_of_lt (by omega),<-List.drop_drop,b.o.2.2.2,List.drop_drop]
  simp only[intOf];omega
 have hd:decide ((j:Int)<n)=false:=aC (by omega);obtain rfl:j=n:=by omega
 obtain⟨H,ap,aq,hg,aS,ar,V,J⟩:=b.o.1.block;have Q:=b.o.2.2.1;have av:=b.o.2.1;have K:=fun ty=>qy0 wr ty g (i*2) (j-i) (c-i) H (by omega) hg (by rw[V];omega)
 obtain⟨new,B⟩:=ak (H.toList.take (i*2)++eQ (List.replicate (j-i) (([],[]),.slice none 0 0))++H.toList.drop (i*2+(j-i)*2));rw[<-B]at K;have W:H.toList.length=c*2:=by simpa using V
 have Bu:=ag (b.o.1.laid (m:=i) (qs:=qs.take i) new (by rw[B];simp only[Xa0,Xa4,Xa9,Bp,Xc1,W];omega) (by rw[Xa4];omega) (by omega) (by
  rw[B,Xa8,Xd3 (by rw[Xa4,W];omega),List.take_take,Nat.min_self,<-qhr qs i (by omega),<-J,List.take_take,Xc3 (by omega)]) (fun q R=>b.o.1.2 q (Xb9 R)))
 have aw:=ag (show(qs.take i).map Prod.fst=bM (d.map Prod.fst) t by
  rw[Q,HN.o,Xb5,KS])
 have qU:=ag (show Below base w (wr.setRow g new.toArray)from u.grown Bu.o.2 (aG hb u.size) (by intro k G;cases G;exact aq));obtain⟨w9,aM⟩:=ak (wr.setRow g new.toArray);rw[<-aM]at K Bu qU;have aW:¬c=i:=by omega
 have aD:(i:Int)<=j:=by omega
 have aY:((i:Int)).toNat=i:=by omega
 clear aM B W J ap Q av V hg ar b;go_wp2_with (at_builtin;refine qm0 rfl (.tmp 38) 29 rfl rfl (K _) ?_)
 go_ret;exact⟨_,rfl,⟨_,aw.o,Bu.o.1⟩,qU.o⟩
theorem ql1(a:aA)(n c:Nat)(fs:List Fl)(t:az)(w:World)(m:fQ w (.slice a n c) fs)(D:n=fs.length)(hl:fs.length<=1000)(p:∀f∈fs,f.2.length<=1000000):
  Calls Tryz.prog 203 #[.slice a n c,.string (bs t)] w fun e w'=>∃v,e=.returned v∧bi w' w.heap.size v (bM fs t)∧ah w w':=by
 have j:ah w (w.alloc (.cells #[.string (bs t)] 9)):=ae;have q:=qoa a n c fs (w.alloc (.cells #[.string (bs t)] 9)) (m.a j) D hl p;have r:=ag j;clear m j;have H:=ag hl;clear D hl p;go_enter Tryz.func203,Tryz.ntmps203;go_wp2_with fail
 refine q.mono ?_
 rintro e A⟨J,rfl,k,b⟩;obtain⟨w0,h⟩:=ak (w.alloc (.cells #[.string (bs t)] 9));have s:w0.heap.size=w.heap.size+1:=by rw[h];simp
 have i:w0.heap[w.heap.size]? =some (.cells #[.string (bs t)] 9 (0,0)):=by rw[h];exact heap_alloc_new w _
 rw[<-h]at k b r;clear h q;have d:A.heap[w.heap.size]? =some (.cells #[.string (bs t)] 9 (0,0)):=(b.block _ (by omega)).trans i
 have u:A.cell? ⟨w.heap.size,0,none⟩=some (.string (bs t)):=by rw[cell_of_row A _ 0 _ _ (0,0) d];rfl
 obtain⟨a1,c1,rfl⟩:=k.form;obtain⟨E,l,F⟩:=k;have x:fs.length=E.length:=by rw[<-l];simp
 have g:=qur w0.heap.size _ a1 fs.length c1 E t w.heap.size A rfl F x H.o b.size (by omega) u;rw[l]at g;have B:=bT r b;have G:=ag s;clear i d F l x b s u;go_wp2_with fail
 refine g.mono ?_
 rintro e K⟨L,rfl,y,z⟩;clear g;have I:=ag (y.mono (show w.heap.size<=w0.heap.size by have:=G.o;omega));have C:=ag (B.o.trans (z.mono (show w.heap.size<=w0.heap.size by have:=G.o;omega)));clear y z;go_wp2;go_ret;exact⟨_,rfl,I.o,C.o⟩
theorem qwz{a:Act}{s x:Operand}{t:TypeId}{y v':Value}(c:o.op=.call {callee:=.builtin .copy,args:=#[s,x],argTypes:=#[t,t]})(d:a.eval s=v)(e:a.eval x=y)
  (b:(Builtin.copy_ #[t,t] o.type #[v,y]).run P w=.ok v' w'):(execOp a.eval o).run P w=.ok (.value v') w':=by
 simp[execOp,c,resolve,invoke,builtin,d,e,b,Result.andThen]
theorem qhd{a:Act}(d:o.guard=none)(s x:Operand)(t:TypeId)
  (f:o.op=.call {callee:=.builtin .copy,args:=#[s,x],argTypes:=#[t,t]}) {v e v':Value} (g:a.eval s=v) (i:a.eval x=e)
  (c:(Builtin.copy_ #[t,t] o.type #[v,e]).run P w=.ok v' w') (h:wpList P b Q rest (a.put o.dst v') w'):wpList P b Q (o::rest) a w:=by
 refine wpList_plain d fun K j=>?_
 unfold Oper.wp execOp;simp only[f,resolve,invoke,builtin,Sem.run_bind,Sem.run_pure,Result.andThen_ok,List.map_toArray,List.map_cons,List.map_nil,g,i,c];exact j _ _ h
theorem qhe{a:Act}(d:o.guard=none)(s x:Operand)(t u:TypeId)
  (f:o.op=.call {callee:=.builtin .append,args:=#[s,x],argTypes:=#[t,u]}) {v e v':Value} (g:a.eval s=v) (i:a.eval x=e)
  (c:(Builtin.append_ #[t,u] o.type #[v,e]).run P w=.ok v' w') (h:wpList P b Q rest (a.put o.dst v') w'):wpList P b Q (o::rest) a w:=by
 refine wpList_plain d fun K j=>?_
 unfold Oper.wp execOp;simp only[f,resolve,invoke,builtin,Sem.run_bind,Sem.run_pure,Result.andThen_ok,List.map_toArray,List.map_cons,List.map_nil,g,i,c];exact j _ _ h
theorem qakk(R A B D:List Value)(k:Nat)(a:R.take k=A)(b:A.length=k)(hl:k+B.length+D.length<=R.length):
  (((R.take k++B++R.drop (k+B.length)).take (k+B.length)++D++(R.take k++B++R.drop (k+B.length)).drop (k+B.length+D.length))).take (k+B.length+D.length)=A++B++D:=by
 rw[a];have e1:(A++B++R.drop (k+B.length)).take (k+B.length)=A++B:=by
  rw[Xd3 (by rw[Xa0];omega),Xa1 (by rw[Xa0];omega)]
 rw[e1,Xd3 (by simp only[Xa0];omega),Xa1 (by simp only[Xa0];omega)]
theorem MZ(R A B D:List Value)(k:Nat)(a:R.take k=A)(c:A.length=k)(hl:k+B.length+D.length<=R.length):
  ((R.take (k+B.length)++D++R.drop (k+B.length+D.length)).take k++B++(R.take (k+B.length)++D++R.drop (k+B.length+D.length)).drop (k+B.length)).take (k+B.length+D.length)=A++B++D:=by
 have e0:(R.take (k+B.length)).length=k+B.length:=by rw[Xa4];omega
 have e1:(R.take (k+B.length)++D++R.drop (k+B.length+D.length)).take k=A:=by
  rw[Xa8,Xd3 (by omega),List.take_take,Xc3 (by omega),a]
 have b:(R.take (k+B.length)++D++R.drop (k+B.length+D.length)).drop (k+B.length)=D++R.drop (k+B.length+D.length):=by
  rw[Xa8,List.drop_append_of_le_length (by omega),List.drop_of_length_le (by omega)];rfl
 rw[e1,b,<-Xa8,Xd3 (by simp only[Xa0];omega),Xa1 (by simp only[Xa0];omega)]
theorem pF(R B:List Value)(k:Nat)(hl:k+B.length<=R.length):(R.take k++B++R.drop (k+B.length)).length=R.length:=by
 simp only[Xa0,Xa4,Xa9];omega
end Go.Proofs.YtmeaiocohalphaaGreatDoor
