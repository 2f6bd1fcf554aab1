/-
  What Find, fitting, Delete, Used and Write do.
-/
import Derived.Test.YtmeaiocohalphaaGreatDoorFiIns
set_option maxHeartbeats 2000000
set_option maxRecDepth 100000
namespace Go.Proofs.YtmeaiocohalphaaGreatDoor
open Go.RowKit
set_option linter.all false
variable {base q:Nat}{fs:List Fl}{B:Int}{w w':World}{v:Value}{cs:Array Value}{t:TypeId}
def mZ (ps:List (Fl×Value)) (i:Nat) (q:Fl×Value):List (Fl×Value):=ps.take i++[q]++ps.drop i
theorem qw0(a:List (Fl×Value))(i:Nat)(q:Fl×Value)(hi:i<=a.length):(mZ a i q).length=a.length+1:=by
 simp only[mZ,Xa0,Xa4,Xa9,Xb0,List.length_nil];omega
theorem qaf5(a:List (Fl×Value))(i:Nat)(q:Fl×Value):(mZ a i q).map Prod.fst=(a.map Prod.fst).take i++q.1::(a.map Prod.fst).drop i:=by
 simp[mZ,List.map_take,List.map_drop]
theorem qw1{a:List (Fl×Value)}{i:Nat}{q p:Fl×Value}(h:p∈mZ a i q):p∈a∨p=q:=by
 unfold mZ at h;rcases Xa5.1 h with h|h
 ·rcases Xa5.1 h with h|h
  ·exact .inl (Xb9 h)
  exact .inr (by simpa using h)
 exact .inl (List.mem_of_mem_drop h)
theorem qoc(a:List (Fl×Value))(i:Nat)(q:Fl×Value):eQ (mZ a i q)=eQ (a.take i)++[.string (bs q.1.1),q.2]++eQ (a.drop i):=by
 simp[mZ,TC,eQ]
def FC (base:Nat) (ps:List (Fl×Value)) (i:Nat) (q:Fl×Value) (w:World) (e:Ending) (w':World):Prop:=
 ∃v',e=.returned v'∧jX w' base v' (mZ ps i q)∧Below base w w'
theorem qy2(base:Nat)(a:aA)(n c:Nat)(h:List (Fl×Value))(s:az)(x:Value)(l:List Ex)(w:World)(b:jX w base (.slice a n c) h)(v:n=h.length)(hl:n<=1000)(hb:base<=w.heap.size)(p:bA w base x l):
  Calls Tryz.prog 253 #[.slice a n c,.int .i64 n,.slice (some ⟨w.heap.size,0,none⟩) 1 1] (w.alloc (.cells #[.string (bs s),x] 98)) (FC base h n ((s,l),x) w):=by
 obtain⟨g,q,r,f,i,j⟩:=qwv b hb (by omega) s x l p;have t:n<=c:=by
  rcases b.1.2 with⟨e,y⟩|⟨g,cap,u,e,_,_,z,_⟩
  ·cases e;omega
  cases e;omega
 have k:=ag (show jX r base (.slice (some ⟨g,0,none⟩) (h.length+1) q) (mZ h n ((s,l),x))by
  have e:mZ h n ((s,l),x)=h++[((s,l),x)]:=by
   unfold mZ;rw[Xa1 (by omega),List.drop_of_length_le (by omega),Xc8]
  rw[e];exact i)
 clear i b;have m:(n:Int)<=c:=by omega
 have d:c=n∨¬c=n:=by omega
 go_enter Tryz.func253,Tryz.ntmps253;rcases d with d|d
 ·subst d
  go_wp2_with (at_builtin;refine kS rfl (.tmp 23) (.tmp 24) 29 rfl rfl rfl rfl f ?_)
  go_ret;exact⟨_,rfl,k.o,j⟩
 go_wp2_with (at_builtin;refine kS rfl (.tmp 23) (.tmp 24) 29 rfl rfl rfl rfl f ?_)
 all_goals (go_ret;exact⟨_,rfl,k.o,j⟩)
theorem qsg(base g n c i:Nat)(a:List (Fl×Value))(s:az)(x:Value)(l:List Ex)(w:World)(h:jX w base (.slice (some ⟨g,0,none⟩) n c) a)(hn:n=a.length)(hl:n<=1000)(hb:base<=w.heap.size)(hi:i<n)(I:n+1<=c)(Y:bA w base x l):
  Calls Tryz.prog 253 #[.slice (some ⟨g,0,none⟩) n c,.int .i64 i,.slice (some ⟨w.heap.size,0,none⟩) 1 1] (w.alloc (.cells #[.string (bs s),x] 98)) (FC base a i ((s,l),x) w):=by
 obtain⟨W,T⟩:=ak (w.alloc (.cells #[.string (bs s),x] 98));have C:ah w W:=by rw[T];exact ae
 have b:W.heap[w.heap.size]? =some (.cells #[.string (bs s),x] 98 (0,0)):=by rw[T];exact heap_alloc_new w _
 rw[<-T];clear T;have M:=h.a C;have TN:=Y.a C;obtain⟨d, -,Z,U,ao,aa,D,r⟩:=M.block;have ap:g<w.heap.size:=by
  obtain⟨aj,_,_,ab,_⟩:=h.block;exact(Xd6.1 ab).1
 have N:w.heap.size≠g:=by omega
 unfold maxLen at aa;obtain⟨i0,ac,aq,ad,ar⟩:=info_parts Tryz.infoFl;have ai:∀lb cb,(callFunc 274 #[.slice (some ⟨w.heap.size,0,none⟩) 1 1,.slice (some ⟨g,(i+1)*2,none⟩) lb cb]).run Tryz.prog W=.ok (.value (.bool false)) W:=fun lb cb=>by
  rw[run_callFunc_extern Tryz.func274 (by kernel_rfl) (by kernel_rfl) (by kernel_rfl) (e:=Extern.SlicesOverlaps.overlaps #[29,29] #[4]) (by kernel_rfl),
   Lib.run_overlaps_apart W 29 4 98 Tryz.underlying29 2 (by intro w;simp[sizeOf,typeInfo,ac,ad]) ⟨w.heap.size,0,none⟩ ⟨g,(i+1)*2,none⟩ 1 1 lb cb N 98 98 2 d.size (by simp[World.shape?,b]) (by simp[World.shape?,U]) (by rw[D];omega) (frozen_of_row W _ 0 _ _ b) (frozen_of_row W _ 2 _ _ b)]
  rfl
 have E:d.toList.length=c*2:=by simpa using D
 have J:(eQ (a.drop i)).length=(n-i)*2:=by rw[Bp,Xa9,<-hn]
 have u:∀j v,(eQ (a.drop i))[j]? =some v->W.drew.cell? ((⟨g,i*2,none⟩:Addr).add j)=some v:=by
  intro j v hj;have h1:(eQ a)[i*2+j]? =some v:=by rw[<-hj,<-qlz a i (by omega),List.getElem?_drop]
  have:=M.1.cells (g:=g) rfl _ _ h1
  rw[Addr.add_lit]at this⊢;simpa using this
 have H:∀v∈eQ (a.drop i),v.oneCell'=true:=qn8 (fun p hp=>M.2 p (List.mem_of_mem_drop hp))
 have z:=fun O=>zw W.drew O g ((i+1)*2) (n-i) (c-(i+1)) ⟨g,i*2,none⟩ (n+1-i) (c-i) d (eQ (a.drop i)) U (by rw[J];congr 1;show _=min _ _;omega) u (by rw[J,D];omega) H
 obtain⟨F,V⟩:=ak (d.toList.take ((i+1)*2)++eQ (a.drop i)++d.toList.drop ((i+1)*2+(eQ (a.drop i)).length));rw[<-V]at z;have Ch:F.length=c*2:=by rw[V];have:=pF d.toList (eQ (a.drop i)) ((i+1)*2) (by rw[J,E];omega);rw[this,E]
 obtain⟨K,A⟩:=ak (W.drew.setRow g F.toArray);have P:K.heap[g]? =some (.cells F.toArray 98 (0,0)):=by rw[A];exact setRow_heap W.drew g d _ 98 _ U
 have B:K.heap[w.heap.size]? =some (.cells #[.string (bs s),x] 98 (0,0)):=by rw[A];exact(setRow_other W.drew g _ _ N).trans b
 have f:=fun O=>zw K O g (i*2) (n+1-i) (c-i) ⟨w.heap.size,0,none⟩ 1 1 F.toArray [.string (bs s),x] P (by
  have:Nat.min 1 (n+1-i)=1:=by show min _ _=1;omega
  rw[this];rfl) (by
  intro j v hj;have:=World.news_of_block (w:=K) B j v (by simpa using hj)
  simpa using this) (by simp;omega) (by
  intro v hv;simp at hv
  rcases hv with rfl|rfl
  ·rfl
  exact Y.ownForm)
 rw[show(F.toArray.toList)=F by simp]at f;obtain⟨Q,G⟩:=ak (F.take (i*2)++[Value.string (bs s),x]++F.drop (i*2+[Value.string (bs s),x].length));rw[<-G]at f;have R:K.setRow g Q.toArray=W.drew.setRow g Q.toArray:=by rw[A,setRow_setRow]
 rw[R]at f;have Bu:=ag (show jX W.drew base (.slice (some ⟨g,0,none⟩) n c) a from M);have L:=ag (Bu.o.laid (m:=n+1) (qs:=mZ a i ((s,l),x)) Q (by rw[G,pF F _ _ (by simp;omega),Ch]) (by rw[qw0 _ _ _ (by omega)];omega) I (by
  rw[qoc,G,V];have e:=MZ d.toList (eQ (a.take i)) [.string (bs s),x] (eQ (a.drop i)) (i*2) (by
   rw[<-qhr a i (by omega),<-r,List.take_take,Xc3 (by omega)]) (by rw[Bp,Xa4];omega) (by rw[J,E];simp;omega)
  have e3:i*2+[Value.string (bs s),x].length=(i+1)*2:=by simp;omega
  rw[e3,J]at e;rw[e3,J,show(n+1)*2=(i+1)*2+(n-i)*2 by omega];exact e) (fun q hq=>by
   rcases qw1 hq with hq|rfl
   ·exact Bu.o.2 q hq
   exact TN))
 have fu:=ag (show Below base w (W.drew.setRow g Q.toArray)from((C.mono hb).drew).grown L.o.2 (aG hb C.size) (by intro k hk;cases hk;exact Z));obtain⟨W9,TP⟩:=ak (W.drew.setRow g Q.toArray);rw[<-TP]at f L fu;have TQ:∀O,(Builtin.copy_ #[29,29] O #[.slice (some ⟨g,(i+1)*2,none⟩) (n-i) (c-(i+1)),.slice (some ⟨g,i*2,none⟩) (n+1-i) (c-i)]).run Tryz.prog W.drew=.ok (goInt (Nat.min (n+1-i) (n-i))) K:=by rw[A];exact z
 clear TP R G V A P B Ch z H u J E D r U b M TN Bu Y h hn;have av:IntKind.i64.wrap ((i:Int)+1)=(i:Int)+1:=by rw[IntKind.wrap_i64];omega
 have aw:¬(c=i+1):=by omega
 have ax:(i:Int)<=(n:Int)+1:=by omega
 have ay:¬(c=i):=by omega
 have al:¬((i:Int)=(n:Int)):=by omega
 have X:¬((c:Int)<(n:Int)+1):=by omega
 have am:(i:Int)<=n:=by omega
 have an:i<=n:=by omega
 have aD:(0:Int)<=(i:Int)+1:=by omega
 go_enter Tryz.func253,Tryz.ntmps253;go_wp2_with (simp only[ai])
 refine iH (S:=fun _=>True) qnn (by kernel_rfl) trivial ?_
 intro hS;refine rP [0,1,2,3,4,5,6,7] 1 ?KT ?xX hS ?KU
 case xX=>
  iterate 8 (apply Yl.cons rfl rfl;focus (rintro wx _;go_simp<;>rfl);try simp only[aB])
  exact Yl.nil
 try simp only[aB]
 refine rR 8 (goInt (Nat.min (n+1-i) (n-i))) K rfl (qwz (v:=.slice (some ⟨g,(i+1)*2,none⟩) (n-i) (c-(i+1))) (s:=.tmp 73) (x:=.tmp 76) (t:=29) (y:=.slice (some ⟨g,i*2,none⟩) (n+1-i) (c-i)) rfl (by kernel_rfl) (by kernel_rfl) (TQ _)) trivial ?_
 try simp only[aB]
 refine rD ?_
 go_wp2_with (at_builtin;refine qhd rfl (.tmp 80) (.tmp 81) 29 rfl rfl rfl (f _) ?_)
 go_ret;exact⟨_,rfl,L.o.1,fu.o⟩
theorem qus(base g n c i:Nat)(b:List (Fl×Value))(s:az)(x:Value)(l:List Ex)(w:World)(N:jX w base (.slice (some ⟨g,0,none⟩) n c) b)(hn:n=b.length)(hl:n<=1000)(hb:base<=w.heap.size)(hi:i<n)(al:c<n+1)(hx:bA w base x l):
  Calls Tryz.prog 253 #[.slice (some ⟨g,0,none⟩) n c,.int .i64 i,.slice (some ⟨w.heap.size,0,none⟩) 1 1] (w.alloc (.cells #[.string (bs s),x] 98)) (FC base b i ((s,l),x) w):=by
 obtain⟨W,hW⟩:=ak (w.alloc (.cells #[.string (bs s),x] 98));have f:ah w W:=by rw[hW];exact ae
 have A:W.heap[w.heap.size]? =some (.cells #[.string (bs s),x] 98 (0,0)):=by rw[hW];exact heap_alloc_new w _
 rw[<-hW];clear hW;have Cg:=N.a f;have TN:=hx.a f;obtain⟨am, -,ay,hg,aD,an,ao,B⟩:=Cg.block;have ap:g<W.heap.size:=(Xd6.1 hg).1;have aq:w.heap.size<W.heap.size:=(Xd6.1 A).1;unfold maxLen at an;obtain⟨i0,aa,ab,ac,U⟩:=info_parts Tryz.infoFl;have u:(eQ (b.take i)).length=i*2:=by rw[Bp,Xa4];omega
 have V:(eQ (b.drop i)).length=(n-i)*2:=by rw[Bp,Xa9,<-hn]
 have O:(Builtin.firstCells i0.size i (.slice (some ⟨g,0,none⟩) i c)).run Tryz.prog W.drew=.ok (eQ (b.take i)).toArray W.drew:=by
  rw[ac];exact run_firstCells_some W.drew 2 i ⟨g,0,none⟩ i c (eQ (b.take i)) u (fun j v Q=>by
   have Z:(eQ b)[j]? =some v:=by
    rw[<-qhr b i (by omega),List.getElem?_take]at Q;split at Q
    ·exact Q
    cases Q
   exact Cg.1.cells (g:=g) rfl _ _ Z)
 have C:=fun ty=>Lib.run_append_grow_zeros (P:=Tryz.prog) W 29 3 ty 98 i0 _ .i64 .i64 Tryz.underlying29 Tryz.underlying3 aa ab (some ⟨g,0,none⟩) i c (eQ (b.take i)) O (n+1-i) (by omega) (by omega) (by omega) (by omega) (by rw[U];omega) (by rw[U];exact growslice_fits (by omega) (by omega))
 rw[show i+(n+1-i)=n+1 by omega]at C;obtain⟨G,hG⟩:=ak (grownCap W (n+1) c 98);have ar:n+1<=G:=by rw[hG];exact grownCap_ge W _ _ _
 have TR:G<=maxLen:=by rw[hG];exact grownCap_le_maxLen W _ _ _ (by unfold maxLen;omega)
 rw[<-hG]at C;obtain⟨a,r⟩:∃a:Array Value,a=(eQ (b.take i)).toArray++Builtin.zeroCells (Value.cells (.agg #[.string ByteArray.empty,.slice none 0 0])) (n+1-i)++Builtin.zeroCells (Value.cells (.agg #[.string ByteArray.empty,.slice none 0 0])) (G-(n+1)):=⟨_,rfl⟩;rw[<-r]at C
 have X:a.size=G*2:=by
  have e0:Value.cells (.agg #[.string ByteArray.empty,.slice none 0 0])=#[.string ByteArray.empty,.slice none 0 0]:=rfl;rw[r,e0];simp only[Array.size_append,List.size_toArray,u,Builtin.zeroCells,Array.size_map,Array.size_range,Xd1,List.length_range,Xb0,List.length_nil];omega
 have KV:a.toList.take (i*2)=eQ (b.take i):=by
  rw[r,Array.append_assoc,Array.toList_append,Xd3 (by rw[u];exact Nat.le_refl _),Xa1 (by rw[u];exact Nat.le_refl _)]
 have J:a.toList.length=G*2:=by simpa using X
 obtain⟨z,K⟩:=ak (W.drew.alloc (.cells a 98));rw[<-K]at C;have L:z.heap[W.heap.size]? =some (.cells a 98 (0,0)):=by rw[K];exact heap_alloc_new W.drew _
 have h:ah W z:=by rw[K];exact(Below.refl W.heap.size W).drew.alloc aL _
 have D:z.heap[w.heap.size]? =some (.cells #[.string (bs s),x] 98 (0,0)):=(h.block _ aq).trans A
 have E:=fun ty=>zw z ty W.heap.size (i*2) (n+1-i) (G-i) ⟨w.heap.size,0,none⟩ 1 1 a [.string (bs s),x] L (by
  have:Nat.min 1 (n+1-i)=1:=by show min _ _=1;omega
  rw[this];rfl) (by
  intro j v Q;have:=World.news_of_block (w:=z) D j v (by simpa using Q)
  simpa using this) (by simp;omega) (by
  intro v hv;simp at hv
  rcases hv with rfl|rfl
  ·rfl
  exact hx.ownForm)
 obtain⟨I,qz⟩:=ak (a.toList.take (i*2)++[Value.string (bs s),x]++a.toList.drop (i*2+[Value.string (bs s),x].length));rw[<-qz]at E;have Ch:I.length=G*2:=by rw[qz,pF a.toList _ _ (by rw[J];simp;omega),J]
 obtain⟨R,F⟩:=ak (z.setRow W.heap.size I.toArray);have ad:R.heap[W.heap.size]? =some (.cells I.toArray 98 (0,0)):=by rw[F];exact setRow_heap z _ a _ 98 _ L
 have TS:R.heap[g]? =some (.cells am 98 (0,0)):=by rw[F];exact(setRow_other z _ g _ (by omega)).trans ((h.block g ap).trans hg)
 rw[<-F]at E;have H:∀j v,(eQ (b.drop i))[j]? =some v->R.drew.cell? ((⟨g,i*2,none⟩:Addr).add j)=some v:=by
  intro j v Q;have Z:(eQ b)[i*2+j]? =some v:=by rw[<-Q,<-qlz b i (by omega),List.getElem?_drop]
  rw[Addr.add_lit];show R.cell? _=_
  rw[cell_of_row R g _ _ _ (0,0) TS];rw[<-B,List.getElem?_take]at Z;split at Z
  ·simpa using Z
  cases Z
 have T:∀v∈eQ (b.drop i),v.oneCell'=true:=qn8 (fun p hp=>Cg.2 p (List.mem_of_mem_drop hp))
 have d:=fun ty=>zw R.drew ty W.heap.size ((i+1)*2) (n-i) (G-(i+1)) ⟨g,i*2,none⟩ (n-i) (c-i) I.toArray (eQ (b.drop i)) ad (by rw[V];congr 1;show _=min _ _;omega) H (by rw[V];simp;omega) T
 rw[show(I.toArray.toList)=I by simp]at d;obtain⟨R2,M⟩:=ak (I.take ((i+1)*2)++eQ (b.drop i)++I.drop ((i+1)*2+(eQ (b.drop i)).length));rw[<-M]at d;have ai:R.drew.setRow W.heap.size R2.toArray=z.drew.setRow W.heap.size R2.toArray:=by
  have:R.drew=z.drew.setRow W.heap.size I.toArray:=by rw[F];rfl
  rw[this,setRow_setRow]
 rw[ai]at d;have Bu:=ag (show jX z.drew base (.slice (some ⟨W.heap.size,0,none⟩) 0 G) []from⟨⟨rfl,.inr ⟨W.heap.size,G,a,rfl,aG hb f.size,L,Xd5 _,TR,X,by simp[eQ]⟩⟩,by simp⟩);have Y:=ag (Bu.o.laid (m:=n+1) (qs:=mZ b i ((s,l),x)) R2 (by rw[M,pF I _ _ (by rw[V];omega),Ch]) (by rw[qw0 _ _ _ (by omega)];omega) ar (by
  rw[qoc,M,qz];have e:=qakk a.toList (eQ (b.take i)) [.string (bs s),x] (eQ (b.drop i)) (i*2) KV u (by rw[V,J];simp;omega);have e3:i*2+[Value.string (bs s),x].length=(i+1)*2:=by simp;omega
  rw[e3,V]at e;rw[e3,V,show(n+1)*2=(i+1)*2+(n-i)*2 by omega];exact e) (fun q hq=>by
   rcases qw1 hq with hq|rfl
   ·exact(Cg.2 q hq).a h.drew
   exact TN.a h.drew))
 have fu:=ag (show Below base w (z.drew.setRow W.heap.size R2.toArray)from(((f.mono hb).trans (h.mono (aG hb f.size))).drew).grown Y.o.2 (aG (aG hb f.size) h.size) (by intro k hk;cases hk;exact aG hb f.size));obtain⟨W9,TP⟩:=ak (z.drew.setRow W.heap.size R2.toArray);rw[<-TP]at d Y fu;unfold maxLen at TR;clear TP F ai M qz K L ad TS D Ch T H V u ao B hg A Cg TN Bu hx N hn KV J X r hG O aa ab ac U h;have aE:IntKind.i64.wrap ((i:Int)+1)=(i:Int)+1:=by rw[IntKind.wrap_i64];omega
 have aH:¬(G=i+1):=by omega
 have aJ:¬(c=i):=by omega
 have aK:¬(G=i):=by omega
 have av:¬((i:Int)=(n:Int)):=by omega
 have aj:(c:Int)<(n:Int)+1:=by omega
 have aw:(i:Int)<=n:=by omega
 have ax:i<=n:=by omega
 have aM:(0:Int)<=(i:Int)+1:=by omega
 have bE:(i:Int)<=(n:Int)+1:=by omega
 have aO:(n:Int)+1-(i:Int)=((n+1-i:Nat):Int):=by omega
 go_enter Tryz.func253,Tryz.ntmps253
 go_wp2_with (first
  |(at_builtin;refine qhe rfl (.tmp 34) (.tmp 39) 29 3 rfl rfl rfl (C _) ?_)
  |(at_builtin;refine qhd rfl (.tmp 43) (.tmp 44) 29 rfl rfl rfl (E _) ?_))
 refine iH (S:=fun _=>True) qnn (by kernel_rfl) trivial ?_
 intro hS;refine rP [0,1,2,3,4,5,6,7] 1 ?KT ?xX hS ?KU
 case xX=>
  iterate 8 (apply Yl.cons rfl rfl;focus (rintro wx _;go_simp<;>rfl);try simp only[aB])
  exact Yl.nil
 try simp only[aB]
 refine rR 8 (goInt (Nat.min (n-i) (n-i))) W9 rfl (qwz (v:=.slice (some ⟨W.heap.size,(i+1)*2,none⟩) (n-i) (G-(i+1))) (s:=.tmp 50) (x:=.tmp 53) (t:=29) (y:=.slice (some ⟨g,i*2,none⟩) (n-i) (c-i)) rfl (by kernel_rfl) (by kernel_rfl) (d _)) trivial ?_
 try simp only[aB]
 refine rD ?_
 go_wp2;go_ret;exact⟨_,rfl,Y.o.1,fu.o⟩
theorem qy3(base:Nat)(a:aA)(n c i:Nat)(d:List (Fl×Value))(s:az)(x:Value)(l:List Ex)(w:World)(b:jX w base (.slice a n c) d)(f:n=d.length)(hl:n<=1000)(hb:base<=w.heap.size)(hi:i<=n)(j:bA w base x l):
  Calls Tryz.prog 253 #[.slice a n c,.int .i64 i,.slice (some ⟨w.heap.size,0,none⟩) 1 1] (w.alloc (.cells #[.string (bs s),x] 98)) (FC base d i ((s,l),x) w):=by
 by_cases h:i=n
 ·subst h;exact qy2 base a i c d s x l w b f hl hb j
 obtain⟨g,rfl⟩:∃g,a=some ⟨g,0,none⟩:=by
  rcases b.1.2 with⟨e,o⟩|⟨g,cap,k,e,_⟩
  ·cases e;omega
  cases e;exact⟨g,rfl⟩
 by_cases m:n+1<=c
 ·exact qsg base g n c i d s x l w b f hl hb (by omega) m j
 exact qus base g n c i d s x l w b f hl hb (by omega) (by omega) j
theorem qw2(a:aA)(n c:Nat)(fs:List Fl)(s:az)(a2:aA)(m c2:Nat)(l:List Ex)(w:World)(A:fQ w (.slice a n c) fs)(T:n=fs.length)(hl:fs.length<=1000)(G:∀f∈fs,f.2.length<=1000000)(hr:kK fs)
  (Aw:iB w (.slice a2 m c2) l) (hm:m=l.length) (wO:l.length<=1000000):
  Calls Tryz.prog 205 #[.slice a n c,.agg #[.string (bs s),.slice a2 m c2]] w fun e w'=>∃v,e=.returned v∧bi w' w.heap.size v (bY fs (s,l))∧ah w w':=by
 obtain⟨H,q⟩:=ak (w.alloc (.cells #[.string (bs s),.slice a2 m c2] 98));have B:ah w H:=by rw[q];exact ae
 have h:H.heap[w.heap.size]? =some (.cells #[.string (bs s),.slice a2 m c2] 98 (0,0)):=by rw[q];exact heap_alloc_new w _
 have r0:H.cell? ⟨w.heap.size,0,none⟩=some (.string (bs s)):=by rw[cell_of_row H _ 0 _ _ (0,0) h];rfl
 have I:=ja a n c fs s H (A.a B) T hr (by omega);have HP:=ag (Ri fs s);have HN:=ag T;have ad:n<=1000:=by omega
 have HB:=ag h;have W:=ag (fun d (hb1:ah w d)=>qoa a n c fs d (A.a hb1) T hl G);have Qu:=ag (fun d (hb1:ah w d)=>qjj s a2 m c2 l d (Aw.a hb1) hm wO);have X:=ag B;clear A T hr Aw hm wO G hl h;go_enter Tryz.func205,Tryz.ntmps205;go_wp2_with fail
 rw[<-q];refine I.mono ?_
 rintro e d⟨rfl,hb1⟩;have J:=bT X hb1;have Y:=ag ((hb1.block _ (Xd6.1 HB.o).1).trans HB.o);clear hb1 I q r0 B;obtain⟨i,hi⟩:=ak (dN fs s);rw[<-hi]at HP⊢;have HI:=ag hi;clear hi;have kv:=ag (show w.heap.size+1<=d.heap.size from(Xd6.1 Y.o).1);obtain⟨S,U⟩:∃S:World->Prop,S=fun b=>b.cell? ⟨w.heap.size,0,none⟩=some (.string (bs s))∧b.cell? ⟨w.heap.size,1,none⟩=some (.slice a2 m c2):=⟨_,rfl⟩
 have j:S d:=by
  rw[U];exact⟨by rw[cell_of_row d _ 0 _ _ (0,0) Y.o];rfl,by rw[cell_of_row d _ 1 _ _ (0,0) Y.o];rfl⟩
 have V:aN S:=by rw[U];exact(aV _ _).and (aV _ _)
 have Z:=ag (show ∀wa wb,S wa->Below (w.heap.size+1) wa wb->S wb by
  rw[U];rintro wa wb⟨C,u⟩hb;exact⟨by rw[hb.cell (p:=⟨w.heap.size,0,none⟩) (by show w.heap.size<_;omega)];exact C,by rw[hb.cell (p:=⟨w.heap.size,1,none⟩) (by show w.heap.size<_;omega)];exact u⟩)
 have E:=ag V;go_wp2;rw[U]at V j Z E;refine iH V (by kernel_rfl) j ?_
 intro hS;refine rP [0,2,3] 5 ?KT ?xX hS ?KU
 case xX=>
  iterate 3 (apply Yl.cons rfl rfl;focus (rintro b⟨x1,x2⟩;go_simp<;>rfl);try simp only[aB])
  exact Yl.nil
 try simp only[aB]
 refine rC 1 (fun v b=>bi b (w.heap.size+1) v fs∧ah d b) rfl ((W.o d.drew J.o.drew).mono fun e b ⟨v,C,u,h3⟩=>⟨v,C,u.mono kv.o,((Below.refl d.heap.size d).drew).trans h3⟩) ?_
 rintro v2 w2⟨K,k⟩;refine⟨E.o _ _ j k, ?_⟩;try simp only[aB]
 have L:=bT J k;have D:=E.o _ _ j k;have TU:=ag (show w.heap.size+1<=w2.heap.size from aG kv.o k.size);refine pR (i:=4) (R:=fun v b=>∃x y,v=.agg #[.string (bs s),.slice x l.length y]∧bA b (w.heap.size+1) (.slice x l.length y) l∧ah w2 b) rfl (by kernel_rfl) (by rfl) (by go_simp) ((Qu.o w2 L.o).mono fun e b ⟨v,C,u,h3⟩=>by
  obtain⟨x,y,rfl⟩:=u.form;exact⟨_,C,x,y,rfl,u.mono TU.o,h3⟩) ?_
 rintro v3 F⟨x,y,rfl,M,g⟩;refine⟨E.o _ _ D g, ?_⟩;try simp only[aB]
 have r:=E.o _ _ D g;have aa:=bT L g;obtain⟨ps,ap,cp,N,O,ab,P⟩:=(K.a g).parts;subst ab;have z:=qy3 (w.heap.size+1) ap fs.length cp i ps s (.slice x l.length y) l F P (by omega) (by have:=HN.o;omega) (aG TU.o g.size) HP.o M;have ac:=ag N;have Q:ah F (F.alloc (.cells #[.string (bs s),.slice x l.length y] 98)):=ae;clear P N O;refine rR 5 (.slice (some ⟨F.heap.size,0,none⟩) 1 1) (F.alloc (.cells #[.string (bs s),.slice x l.length y] 98)) rfl (by go_simp) (E.o _ _ r Q) ?_
 try simp only[aB]
 refine rC 6 (fun v b=>bi b w.heap.size v (bY fs (s,l))∧Below (w.heap.size+1) F b) rfl (z.mono fun e b ⟨v,C,u,h3⟩=>⟨v,C,bi.mono ⟨_,by rw[qaf5,ac.o,HI.o];rfl,u⟩ (by omega),h3⟩) ?_
 rintro v4 w4⟨fC,t⟩;refine⟨Z.o _ _ r t, ?_⟩;have BV:=Z.o _ _ r t;have fG:=ag (show ah w w4 from aa.o.trans (t.mono (by omega)));have kV:=ag fC;try simp only[aB]
 refine rP [7] 0 ?qa2 ?KW BV ?qn2
 case KW=>
  iterate 1 (apply Yl.cons rfl rfl;focus (rintro b⟨x1,x2⟩;go_simp<;>rfl);try simp only[aB])
  exact Yl.nil
 try simp only[aB]
 refine rD ?_
 clear fC t BV r Q z M g K k D hS V j;go_wp2;go_ret;exact⟨_,rfl,kV.o,fG.o⟩
theorem Ay(h:bf fs B=0):eX B∧dR fs B:=by
 unfold bf at h;split at h
 ·cases h
 rename_i h1
 split at h
 ·rename_i h2;exact⟨Decidable.of_not_not h1,h2⟩
 cases h
theorem KX(h:dR fs B):kK fs:=h.2.1.2
theorem Lg(h:dR fs B):∀f∈fs,1<=f.1.length∧f.1.length<=16∧1<=f.2.length∧f.2.length<=64:=fun f a=>JY (h.2.1.1 f a)
theorem KY(h:dR fs B):∀f∈fs,f.2.length<=1000000:=fun f a=>by have:=Lg h f a;omega
def Ew (fs:List Fl) (s:az):Int:=if iq fs s=0 then(dN fs s:Nat)else 0
theorem qabw{s:az}(h:iq fs s=0):bf fs 4096=0∧gT s=true∧iF fs s=true:=by
 unfold iq at h;split at h
 ·rename_i h1;exact absurd h h1
 rename_i h1
 split at h
 ·cases h
 rename_i h2
 split at h
 ·rename_i h3;exact⟨Decidable.of_not_not h1,by simpa using h2,h3⟩
 cases h
theorem qabx(a:aA)(n c:Nat)(fs:List Fl)(s:az)(w:World)(j:fQ w (.slice a n c) fs)(u:n=fs.length)(p:gL fs):
  Calls Tryz.prog 179 #[.agg #[.slice a n c],.string (bs s)] w fun e w'=>e=.returned (.tuple #[.int .i64 (Ew fs s),.int .i64 (iq fs s)])∧ah w w':=by
 obtain⟨v,b⟩:=ak (w.alloc (.cells #[.slice a n c] 31));have k:ah w v:=by rw[b];exact ae
 have h:v.heap[w.heap.size]? =some (.cells #[.slice a n c] 31 (0,0)):=by rw[b];exact heap_alloc_new w _
 have l:=TK a n c fs 4096 v (j.a k) u p;have f:=TF s;have C:=ag (fun m (hb1:ah w m) (D:kK fs) (hl:n<=1000000)=>ja a n c fs s m (j.a hb1) u D hl);have E:=ag u;have q:=ag k;have y:=ag h;clear j u p k h;by_cases i:bf fs 4096=0
 ·have A:=ag (Ay i).2
  have x:=ag i;rw[i]at l;clear i;go_enter Tryz.func179,Tryz.ntmps179;go_wp2_with fail
  rw[<-b];refine l.mono ?_
  rintro e m⟨rfl,hb1⟩;have d:=bT q hb1;have F:=ag ((hb1.block _ (Xd6.1 y.o).1).trans y.o);have I:m.cell? ⟨w.heap.size,0,none⟩=some (.slice a n c):=by rw[cell_of_row m _ 0 _ _ (0,0) F.o];rfl
  clear hb1 l b;cases g2:gT s with
  |false=>
   rw[g2]at f;have g:=ag (show iq fs s=50 by unfold iq;rw[if_neg (by simp[x.o]),if_pos g2]);clear g2;go_wp2_with (go_at_call 201;refine(f _).mono ?_;rintro e wc⟨rfl,rfl⟩)
   go_ret2;exact⟨by unfold Ew;rw[g.o];rfl,d.o⟩
  |true=>
   rw[g2]at f;go_wp2_with (first|(go_at_call 201;refine(f _).mono ?_;rintro e wc⟨rfl,rfl⟩)|fail)
   refine(C.o wc d.o (KX A.o) (by have:=A.o.1;have:=E.o;omega)).mono ?_
   rintro e J⟨rfl,r⟩;have t:=bT d r;clear r;cases g3:iF fs s with
   |false=>
    have g:=ag (show iq fs s=6 by unfold iq;rw[if_neg (by simp[x.o]),if_neg (by simp[g2]),if_neg (by simp[g3])]);clear g2 g3;go_wp2;go_ret2;exact⟨by unfold Ew;rw[g.o];rfl,t.o⟩
   |true=>
    have g:=ag (show iq fs s=0 by unfold iq;rw[if_neg (by simp[x.o]),if_neg (by simp[g2]),if_pos (by simp[g3])]);clear g2 g3;go_wp2;go_ret2;exact⟨by unfold Ew;rw[g.o];rfl,t.o⟩
 have g:=ag (show iq fs s=bf fs 4096 by unfold iq;rw[if_pos i]);have G:=ag (show Ew fs s=0 by unfold Ew;rw[g.o,if_neg i]);obtain⟨z,B⟩:=ak (bf fs 4096);rw[<-B]at l g i;have H:(z==0)=false:=Xe2 i
 clear B;go_enter Tryz.func179,Tryz.ntmps179;go_wp2_with fail
 rw[<-b];refine l.mono ?_
 rintro e m⟨rfl,hb1⟩;have d:=bT q hb1;clear hb1 l b;go_wp2;all_goals (go_ret2;exact⟨by rw[G.o,g.o];rfl,d.o⟩)
theorem Bv{e:TypeId}{size:Nat}{n:Nat}{xs:List Value}{b:Nat×Nat}(h:w.ownsRow base e size v n xs)(c:w.grownBy w' (some q))(d:w.heap[q]? =some (.cells cs t b))(f:t≠e):w'.ownsRow base e size v n xs:=by
 refine World.ownsRow.kept h c (.inr ?_);intro e0;rcases h.2 with⟨rfl,_⟩|⟨g,cap,i,rfl,_,a,_⟩
 ·cases e0
 cases e0;rw[d]at a;cases a;exact f rfl
theorem bi.keptS{c:Nat×Nat}(h:bi w base v fs)(a:w.grownBy w' (some q))(b:w.heap[q]? =some (.cells cs t c))(d:t≠98)(f:t≠237):bi w' base v fs:=by
 obtain⟨g,e,i,hi⟩:=h;exact⟨g,e,Bv i a b d,fun p j=>Bv (hi p j) a b f⟩
def bZ (w:World) (q:Nat):Prop:=∃y,w.heap[q]? =some (.cells #[y] 31 (0,0))
theorem bZ.a(h:bZ w q)(hb:ah w w'):bZ w' q:=by
 obtain⟨y,h⟩:=h;exact⟨y,(hb.block q (Xd6.1 h).1).trans h⟩
theorem bZ.cell(h:bZ w q):w.cell? ⟨q,0,none⟩=some (Qt w ⟨q,0,none⟩):=by obtain⟨y,h⟩:=h;unfold Qt;rw[cell_of_row w q 0 _ _ (0,0) h];rfl
theorem bZ.fz(h:bZ w q):w.frozen? ⟨q,0,none⟩=false:=by obtain⟨y,h⟩:=h;exact frozen_of_row w q 0 _ _ h
theorem bZ.put(h:bZ w q)(u:Value):(w.setCell ⟨q,0,none⟩ u).cell? ⟨q,0,none⟩=some u∧w.grownBy (w.setCell ⟨q,0,none⟩ u) (some q)∧bZ (w.setCell ⟨q,0,none⟩ u) q:=by
 obtain⟨y,h⟩:=h;have a1:(w.setCell ⟨q,0,none⟩ u).heap[q]? =some (.cells #[u] 31 (0,0)):=by have:=heap_setCell_same w q 0 #[y] 31 u h;rw[this];rfl
 exact⟨by rw[cell_of_row _ q 0 _ _ (0,0) a1];rfl,nO w ⟨q,0,none⟩ u,u,a1⟩
theorem bZ.new(w:World)(y:Value):bZ (w.alloc (.cells #[y] 31)) w.heap.size:=⟨y,heap_alloc_new w _⟩
theorem qw3(a:aA)(n c:Nat)(fs:List Fl)(s:az)(w:World)(F:fQ w (.slice a n c) fs)(S:n=fs.length)(L:gL fs):
  Calls Tryz.prog 101 #[.agg #[.slice a n c],.string (bs s)] w fun e w'=>∃v,e=.returned (.tuple #[.agg #[.string (bs (og fs s).1),v],.int .i64 (iq fs s)])∧bA w' w.heap.size v (og fs s).2∧ah w w':=by
 obtain⟨J,f⟩:∃J,J=(w.alloc (.cells #[.slice a n c] 31)).alloc (.cells #[.string {data:=#[]},.slice none 0 0] 98):=⟨_,rfl⟩;have d:ah w (w.alloc (.cells #[.slice a n c] 31)):=ae
 have G:ah w J:=by rw[f];exact d.alloc (by simp) _
 have A:J.heap[w.heap.size]? =some (.cells #[.slice a n c] 31 (0,0)):=by
  rw[f,<-heap_alloc_new w (.cells #[.slice a n c] 31)];exact((Below.refl (w.alloc (.cells #[.slice a n c] 31)).heap.size _).alloc aL _).block _ (by simp)
 have B:J.heap[w.heap.size+1]? =some (.cells #[.string {data:=#[]},.slice none 0 0] 98 (0,0)):=by
  have:=heap_alloc_new (w.alloc (.cells #[.slice a n c] 31)) (.cells #[.string {data:=#[]},.slice none 0 0] 98)
  rw[f];simpa using this
 have g:=qabx a n c fs s J (F.a G) S L;have HR:=ag F;have HN:=ag S;have M:=ag G;have X:=ag A;have Q:=ag B;clear F S L G A B d;by_cases u:iq fs s=0
 ·obtain⟨Y,g3,Z⟩:=qabw u
  have HM:=ag (Ay Y).2;obtain⟨i,hi,N,x,hV,hL⟩:∃i,dN fs s=i∧∃N:i<fs.length,(fs[i]).1=s∧og fs s=(s,(fs[i]).2)∧(fs[i]).2.length<=1000000:=by
   obtain⟨N,x,T⟩:=qv5 (KX HM.o) Z;exact⟨_,rfl,N,x,by unfold og;rw[if_pos u,T],KY HM.o _ (Xa3 N)⟩
  have K:=ag hV;have HL:=ag hL;have HG:=ag u;rw[show Ew fs s=(dN fs s:Nat)by unfold Ew;rw[if_pos u],u,hi]at g;clear hV hL;have ab:i<n:=by have:=HN.o;omega
  have aa:(i:Int)<n:=by omega
  clear hi u Y g3 Z;have Qc:=ag x;clear x;go_enter Tryz.func101,Tryz.ntmps101;go_wp2_with fail
  rw[<-f];refine g.mono ?_
  rintro e j⟨rfl,d⟩;have h:=bT M d;have xY:=ag ((d.block _ (Xd6.1 X.o).1).trans X.o);have TV:=ag ((d.block _ (Xd6.1 Q.o).1).trans Q.o);have r0:j.cell? ⟨w.heap.size,0,none⟩=some (.slice a n c):=by rw[cell_of_row j _ 0 _ _ (0,0) xY.o];rfl
  obtain⟨b,ac,a2,c2,rfl,q0,U,q2⟩:=HR.o.atB h.o i N;have V:=ag q2;obtain⟨l,hl⟩:=ak ((fs[i]).2);rw[Qc.o]at q0;rw[<-hl]at U V K HL;obtain⟨m,R⟩:=ak l.length;have oQ:=ag (show iB w (.slice a2 m c2) l by rw[R];exact V.o);rw[<-R]at U;have gP:=ag R;clear d g f R hl q2 V;go_wp2_with fail
  refine(qjj s a2 m c2 l _ (oQ.o.a h.o) gP.o HL.o).mono ?_
  rintro e p⟨v2,rfl,H,I⟩;obtain⟨C,D,TM⟩:=H.form;subst TM;have O:=bT h I;have r:=ag (show p.heap[w.heap.size+1]? =some (.cells #[.string {data:=#[]},.slice none 0 0] 98 (0,0))from(I.block _ (Xd6.1 TV.o).1).trans TV.o);have iC:=ag (H.mono h.o.size);have e0:p.cell? ⟨w.heap.size+1,0,none⟩=some (.string {data:=#[]}):=by rw[cell_of_row p _ 0 _ _ (0,0) r.o];rfl
  have e1:p.cell? ⟨w.heap.size+1,1,none⟩=some (.slice none 0 0):=by rw[cell_of_row p _ 1 _ _ (0,0) r.o];rfl
  have f0:=frozen_of_row p (w.heap.size+1) 0 _ _ r.o;have f1:=frozen_of_row p (w.heap.size+1) 1 _ _ r.o;have E:=zu (w:=p) (q:=w.heap.size+1) (.string (bs s)) (.slice C l.length D);have y:((p.setCell ⟨w.heap.size+1,0,none⟩ (.string (bs s))).setCell ⟨w.heap.size+1,1,none⟩ (.slice C l.length D)).heap[w.heap.size+1]? =some (.cells #[.string (bs s),.slice C l.length D] 98 (0,0)):=by
   have a1:=heap_setCell_same p (w.heap.size+1) 0 _ 98 (.string (bs s)) r.o;have a2:=heap_setCell_same (p.setCell ⟨w.heap.size+1,0,none⟩ (.string (bs s))) (w.heap.size+1) 1 _ 98 (.slice C l.length D) a1;rw[a2];rfl
  clear H I q0 U r0;go_wp2;obtain⟨t,P⟩:=ak ((p.setCell ⟨w.heap.size+1,0,none⟩ (.string (bs s))).setCell ⟨w.heap.size+1,1,none⟩ (.slice C l.length D));rw[<-P]at E y⊢;have z0:t.cell? ⟨w.heap.size+1,0,none⟩=some (.string (bs s)):=by rw[cell_of_row t _ 0 _ _ (0,0) y];rfl
  have z1:t.cell? ⟨w.heap.size+1,1,none⟩=some (.slice C l.length D):=by rw[cell_of_row t _ 1 _ _ (0,0) y];rfl
  refine bodyPost_ret (v:=.tuple #[.agg #[.string (bs s),.slice C l.length D],.int .i64 0]) ?_ rfl ⟨.slice C l.length D,by rw[K.o,HG.o],by rw[K.o];exact World.ownsRow.kept iC.o E (.inr (iC.o.apartF r.o)),O.o.grown E O.o.size (by intro k W;cases W;omega)⟩
  clear y E P e0 e1;simp[results,Tryz.results101,go_sem, *]
 have K:=ag (show og fs s=([],[])by unfold og;rw[if_neg u]);rw[show Ew fs s=0 by unfold Ew;rw[if_neg u]]at g;obtain⟨z,hz⟩:=ak (iq fs s);rw[<-hz]at g u⊢;have ad:(z==0)=false:=Xe2 u
 clear hz;go_enter Tryz.func101,Tryz.ntmps101;go_wp2_with fail
 rw[<-f];refine g.mono ?_
 rintro e j⟨rfl,d⟩;have h:=bT M d;have r:=ag ((d.block _ (Xd6.1 Q.o).1).trans Q.o);have e0:j.cell? ⟨w.heap.size+1,0,none⟩=some (.string {data:=#[]}):=by rw[cell_of_row j _ 0 _ _ (0,0) r.o];rfl
 have e1:j.cell? ⟨w.heap.size+1,1,none⟩=some (.slice none 0 0):=by rw[cell_of_row j _ 1 _ _ (0,0) r.o];rfl
 have f0:=frozen_of_row j (w.heap.size+1) 0 _ _ r.o;have f1:=frozen_of_row j (w.heap.size+1) 1 _ _ r.o;have E:=zu (w:=j) (q:=w.heap.size+1) (.string {data:=#[]}) (.slice none 0 0);have y:((j.setCell ⟨w.heap.size+1,0,none⟩ (.string {data:=#[]})).setCell ⟨w.heap.size+1,1,none⟩ (.slice none 0 0)).heap[w.heap.size+1]? =some (.cells #[.string {data:=#[]},.slice none 0 0] 98 (0,0)):=by
  have a1:=heap_setCell_same j (w.heap.size+1) 0 _ 98 (.string {data:=#[]}) r.o;have a2:=heap_setCell_same (j.setCell ⟨w.heap.size+1,0,none⟩ (.string {data:=#[]})) (w.heap.size+1) 1 _ 98 (.slice none 0 0) a1;rw[a2];rfl
 clear d g f;go_wp2
 all_goals (
  obtain⟨t,P⟩:∃t,t=(j.setCell ⟨w.heap.size+1,0,none⟩ (.string {data:=#[]})).setCell ⟨w.heap.size+1,1,none⟩ (.slice none 0 0):=⟨_,rfl⟩;rw[<-P]at E y⊢
  have z0:t.cell? ⟨w.heap.size+1,0,none⟩=some (.string {data:=#[]}):=by rw[cell_of_row t _ 0 _ _ (0,0) y];rfl
  have z1:t.cell? ⟨w.heap.size+1,1,none⟩=some (.slice none 0 0):=by rw[cell_of_row t _ 1 _ _ (0,0) y];rfl
  refine bodyPost_ret (v:=.tuple #[.agg #[.string {data:=#[]},.slice none 0 0],.int .i64 z]) ?_ rfl ⟨.slice none 0 0,by rw[K.o];rfl,by rw[K.o];exact bA.nil _ _,h.o.grown E h.o.size (by intro k W;cases W;omega)⟩
  clear y E P e0 e1;simp[results,Tryz.results101,go_sem, *])
end Go.Proofs.YtmeaiocohalphaaGreatDoor
