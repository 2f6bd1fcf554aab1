/-
  The library's Insert of one file.
-/
import Derived.Test.YthpammbgcidloaaGreatFiIns
set_option maxHeartbeats 2000000
set_option maxRecDepth 100000
namespace Go.Proofs.YthpammbgcidloaaGreat
open Go.RowKit
set_option linter.all false
def lZ (ps:List (Fl × Value)) (i:Nat) (q:Fl × Value):List (Fl × Value):=ps.take i++[q]++ps.drop i
theorem qwc (a:List (Fl × Value)) (i:Nat) (q:Fl × Value) (b:i<=a.length):(lZ a i q).length=a.length+1:=by
 simp only [lZ,List.length_append,List.length_take,List.length_drop,List.length_cons,List.length_nil];omega
theorem OE (a:List (Fl × Value)) (i:Nat) (q:Fl × Value):(lZ a i q).map Prod.fst=(a.map Prod.fst).take i++q.1::(a.map Prod.fst).drop i:=by
 simp [lZ,List.map_take,List.map_drop]
theorem qwd {a:List (Fl × Value)} {i:Nat} {q p:Fl × Value} (h:p∈lZ a i q):p∈a∨p=q:=by
 unfold lZ at h;rcases List.mem_append.1 h with h | h
 ·rcases List.mem_append.1 h with h | h
  ·exact .inl (List.mem_of_mem_take h)
  ·exact .inr (by simpa using h)
 ·exact .inl (List.mem_of_mem_drop h)
theorem qol (a:List (Fl × Value)) (i:Nat) (q:Fl × Value):fK (lZ a i q)=fK (a.take i)++[.string (bs q.1.1),q.2]++fK (a.drop i):=by
 simp [lZ,Pf,fK]
def CK (base:Nat) (ps:List (Fl × Value)) (i:Nat) (q:Fl × Value) (w:World) (e:Ending) (w':World):Prop:=
 ∃v',e=.returned v'∧mE w' base v' (lZ ps i q)∧Below base w w'
theorem qyc (base:Nat) (a:au) (n c:Nat) (h:List (Fl × Value)) (s:ak) (x:Value) (l:List Ex) (w:World) (b:mE w base (.slice a n c) h) (v:n=h.length) (y:n<=1000) (hb:base<=w.heap.size) (p:bB w base x l):
  Calls Tryz.prog 192 #[.slice a n c,.int .i64 n,.slice (some ⟨w.heap.size,0,none⟩) 1 1] (w.alloc (.cells #[.string (bs s),x] 98)) (CK base h n ((s,l),x) w):=by
 obtain ⟨g,q,r,f,i,j⟩:=qv7 b hb (by omega) s x l p;have t:n<=c:=by
  rcases b.1.2 with ⟨e,z⟩ | ⟨g,cap,u,e,_,_,A,_⟩
  ·cases e;omega
  ·cases e;omega
 have k:=ag (show mE r base (.slice (some ⟨g,0,none⟩) (h.length+1) q) (lZ h n ((s,l),x)) by
  have e:lZ h n ((s,l),x)=h++[((s,l),x)]:=by
   unfold lZ;rw [List.take_of_length_le (by omega),List.drop_of_length_le (by omega),List.append_nil]
  rw [e];exact i)
 clear i b;have m:(n:Int)<=c:=by omega
 have d:c=n∨¬c=n:=by omega
 go_enter Tryz.func192,Tryz.ntmps192;rcases d with d | d
 ·subst d
  go_wp2_with (at_builtin;refine ku rfl (.tmp 23) (.tmp 24) 28 rfl rfl rfl rfl f ?_)
  go_ret;exact ⟨_,rfl,k.o,j⟩
 ·go_wp2_with (at_builtin;refine ku rfl (.tmp 23) (.tmp 24) 28 rfl rfl rfl rfl f ?_)
  all_goals (go_ret;exact ⟨_,rfl,k.o,j⟩)
theorem qr9 (base g n c i:Nat) (a:List (Fl × Value)) (s:ak) (x:Value) (l:List Ex) (w:World) (h:mE w base (.slice (some ⟨g,0,none⟩) n c) a) (hn:n=a.length) (hl:n<=1000) (hb:base<=w.heap.size) (hi:i<n) (I:n+1<=c) (Y:bB w base x l):
  Calls Tryz.prog 192 #[.slice (some ⟨g,0,none⟩) n c,.int .i64 i,.slice (some ⟨w.heap.size,0,none⟩) 1 1] (w.alloc (.cells #[.string (bs s),x] 98)) (CK base a i ((s,l),x) w):=by
 obtain ⟨W,T⟩:=ai (w.alloc (.cells #[.string (bs s),x] 98));have C:ah w W:=by rw [T];exact ae
 have b:W.heap[w.heap.size]? =some (.cells #[.string (bs s),x] 98 (0,0)):=by rw [T];exact heap_alloc_new w _
 rw [<-T];clear T;have M:=h.a C;have Pj:=Y.a C;obtain ⟨d, -,Z,U,aq,aa,D,r⟩:=M.block;have ar:g<w.heap.size:=by
  obtain ⟨am,_,_,ab,_⟩:=h.block;exact (Array.getElem?_eq_some_iff.1 ab).1
 have N:w.heap.size≠g:=by omega
 unfold maxLen at aa;obtain ⟨i0,ac,av,ad,aw⟩:=info_parts Tryz.infoFl;have al:∀lb cb,(callFunc 214 #[.slice (some ⟨w.heap.size,0,none⟩) 1 1,.slice (some ⟨g,(i+1)*2,none⟩) lb cb]).run Tryz.prog W=.ok (.value (.bool false)) W:=fun lb cb=>by
  rw [run_callFunc_extern Tryz.func214 (by kernel_rfl) (by kernel_rfl) (by kernel_rfl) (e:=Extern.SlicesOverlaps.overlaps #[28,28] #[4]) (by kernel_rfl),
   Lib.run_overlaps_apart W 28 4 98 Tryz.underlying28 2 (by intro w;simp [sizeOf,typeInfo,ac,ad]) ⟨w.heap.size,0,none⟩ ⟨g,(i+1)*2,none⟩ 1 1 lb cb N 98 98 2 d.size (by simp [World.shape?,b]) (by simp [World.shape?,U]) (by rw [D];omega) (frozen_of_row W _ 0 _ _ b) (frozen_of_row W _ 2 _ _ b)]
  rfl
 have E:d.toList.length=c*2:=by simpa using D
 have J:(fK (a.drop i)).length=(n - i)*2:=by rw [Ep,List.length_drop,<-hn]
 have u:∀j v,(fK (a.drop i))[j]? =some v->W.drew.cell? ((⟨g,i*2,none⟩:Addr).add j)=some v:=by
  intro j v hj;have h1:(fK a)[i*2+j]? =some v:=by rw [<-hj,<-qma a i (by omega),List.getElem?_drop]
  have:=M.1.cells (g:=g) rfl _ _ h1
  rw [Addr.add_lit] at this ⊢;simpa using this
 have H:∀v∈fK (a.drop i),v.oneCell'=true:=qoj (fun p hp=>M.2 p (List.mem_of_mem_drop hp))
 have z:=fun O=>Wu W.drew O g ((i+1)*2) (n - i) (c - (i+1)) ⟨g,i*2,none⟩ (n+1 - i) (c - i) d (fK (a.drop i)) U (by rw [J];congr 1;show _=min _ _;omega) u (by rw [J,D];omega) H
 obtain ⟨F,V⟩:=ai (d.toList.take ((i+1)*2)++fK (a.drop i)++d.toList.drop ((i+1)*2+(fK (a.drop i)).length));rw [<-V] at z;have zS:F.length=c*2:=by rw [V];have:=Wv d.toList (fK (a.drop i)) ((i+1)*2) (by rw [J,E];omega);rw [this,E]
 obtain ⟨K,A⟩:=ai (W.drew.setRow g F.toArray);have P:K.heap[g]? =some (.cells F.toArray 98 (0,0)):=by rw [A];exact setRow_heap W.drew g d _ 98 _ U
 have B:K.heap[w.heap.size]? =some (.cells #[.string (bs s),x] 98 (0,0)):=by rw [A];exact (setRow_other W.drew g _ _ N).trans b
 have f:=fun O=>Wu K O g (i*2) (n+1 - i) (c - i) ⟨w.heap.size,0,none⟩ 1 1 F.toArray [.string (bs s),x] P (by
  have:Nat.min 1 (n+1 - i)=1:=by show min _ _=1;omega
  rw [this];rfl) (by
  intro j v hj;have:=World.news_of_block (w:=K) B j v (by simpa using hj)
  simpa using this) (by simp;omega) (by
  intro v hv;simp at hv
  rcases hv with rfl | rfl
  ·rfl
  ·exact Y.ownForm)
 rw [show (F.toArray.toList)=F by simp] at f;obtain ⟨Q,G⟩:=ai (F.take (i*2)++[Value.string (bs s),x]++F.drop (i*2+[Value.string (bs s),x].length));rw [<-G] at f;have R:K.setRow g Q.toArray=W.drew.setRow g Q.toArray:=by rw [A,setRow_setRow]
 rw [R] at f;have Mf:=ag (show mE W.drew base (.slice (some ⟨g,0,none⟩) n c) a from M);have L:=ag (Mf.o.laid (m:=n+1) (qs:=lZ a i ((s,l),x)) Q (by rw [G,Wv F _ _ (by simp;omega),zS]) (by rw [qwc _ _ _ (by omega)];omega) I (by
  rw [qol,G,V];have e:=qafj d.toList (fK (a.take i)) [.string (bs s),x] (fK (a.drop i)) (i*2) (by
   rw [<-ql9 a i (by omega),<-r,List.take_take,Nat.min_eq_left (by omega)]) (by rw [Ep,List.length_take];omega) (by rw [J,E];simp;omega)
  have e3:i*2+[Value.string (bs s),x].length=(i+1)*2:=by simp;omega
  rw [e3,J] at e;rw [e3,J,show (n+1)*2=(i+1)*2+(n - i)*2 by omega];exact e) (fun q hq=>by
   rcases qwd hq with hq | rfl
   ·exact Mf.o.2 q hq
   ·exact Pj))
 have iO:=ag (show Below base w (W.drew.setRow g Q.toArray) from ((C.mono hb).drew).grown L.o.2 (aC hb C.size) (by intro k hk;cases hk;exact Z));obtain ⟨W9,Pk⟩:=ai (W.drew.setRow g Q.toArray);rw [<-Pk] at f L iO;have Pm:∀O,(Builtin.copy_ #[28,28] O #[.slice (some ⟨g,(i+1)*2,none⟩) (n - i) (c - (i+1)),.slice (some ⟨g,i*2,none⟩) (n+1 - i) (c - i)]).run Tryz.prog W.drew=.ok (goInt (Nat.min (n+1 - i) (n - i))) K:=by rw [A];exact z
 clear Pk R G V A P B zS z H u J E D r U b M Pj Mf Y h hn;have ax:IntKind.i64.wrap ((i:Int)+1)=(i:Int)+1:=by rw [IntKind.wrap_i64];omega
 have ay:¬(c=i+1):=by omega
 have aD:(i:Int)<=(n:Int)+1:=by omega
 have aE:¬(c=i):=by omega
 have an:¬((i:Int)=(n:Int)):=by omega
 have X:¬((c:Int)<(n:Int)+1):=by omega
 have ao:(i:Int)<=n:=by omega
 have ap:i<=n:=by omega
 have aF:(0:Int)<=(i:Int)+1:=by omega
 go_enter Tryz.func192,Tryz.ntmps192;go_wp2_with (simp only [al])
 refine gH (S:=fun _=>True) qnh (by kernel_rfl) trivial ?_
 intro hS;refine dm [0,1,2,3,4,5,6,7] (fuel:=1) (a':=?Mg) (by kernel_rfl) (by kernel_rfl) (by kernel_rfl) ?xO hS ?Mh
 case xO=>
  iterate 8 (apply Yl.cons rfl rfl;focus (rintro wx _;go_simp<;>with_reducible rfl);try simp only [az])
  exact Yl.nil
 try simp only [az]
 refine uS (i:=8) (v:=goInt (Nat.min (n+1 - i) (n - i))) (w':=K) rfl (by kernel_rfl) (by rfl) (qwb (v:=.slice (some ⟨g,(i+1)*2,none⟩) (n - i) (c - (i+1))) (s:=.tmp 73) (x:=.tmp 76) (t:=28) (y:=.slice (some ⟨g,i*2,none⟩) (n+1 - i) (c - i)) rfl (by kernel_rfl) (by kernel_rfl) (Pm _)) trivial ?_
 try simp only [az]
 refine wpAnyH_done (by kernel_rfl) ?_ _
 refine NoPanic.normal ?_
 go_wp2_with (at_builtin;refine qh3 rfl (.tmp 80) (.tmp 81) 28 rfl rfl rfl (f _) ?_)
 go_ret;exact ⟨_,rfl,L.o.1,iO.o⟩
theorem qug (base g n c i:Nat) (b:List (Fl × Value)) (s:ak) (x:Value) (l:List Ex) (w:World) (N:mE w base (.slice (some ⟨g,0,none⟩) n c) b) (hn:n=b.length) (hl:n<=1000) (hb:base<=w.heap.size) (hi:i<n) (an:c<n+1) (hx:bB w base x l):
  Calls Tryz.prog 192 #[.slice (some ⟨g,0,none⟩) n c,.int .i64 i,.slice (some ⟨w.heap.size,0,none⟩) 1 1] (w.alloc (.cells #[.string (bs s),x] 98)) (CK base b i ((s,l),x) w):=by
 obtain ⟨W,hW⟩:=ai (w.alloc (.cells #[.string (bs s),x] 98));have f:ah w W:=by rw [hW];exact ae
 have A:W.heap[w.heap.size]? =some (.cells #[.string (bs s),x] 98 (0,0)):=by rw [hW];exact heap_alloc_new w _
 rw [<-hW];clear hW;have zR:=N.a f;have Pj:=hx.a f;obtain ⟨ao, -,aE,hg,aF,ap,aq,B⟩:=zR.block;have ar:g<W.heap.size:=(Array.getElem?_eq_some_iff.1 hg).1;have av:w.heap.size<W.heap.size:=(Array.getElem?_eq_some_iff.1 A).1;unfold maxLen at ap;obtain ⟨i0,aa,ab,ac,U⟩:=info_parts Tryz.infoFl;have u:(fK (b.take i)).length=i*2:=by rw [Ep,List.length_take];omega
 have V:(fK (b.drop i)).length=(n - i)*2:=by rw [Ep,List.length_drop,<-hn]
 have O:(Builtin.firstCells i0.size i (.slice (some ⟨g,0,none⟩) i c)).run Tryz.prog W.drew=.ok (fK (b.take i)).toArray W.drew:=by
  rw [ac];exact run_firstCells_some W.drew 2 i ⟨g,0,none⟩ i c (fK (b.take i)) u (fun j v Q=>by
   have Z:(fK b)[j]? =some v:=by
    rw [<-ql9 b i (by omega),List.getElem?_take] at Q;split at Q
    ·exact Q
    ·cases Q
   exact zR.1.cells (g:=g) rfl _ _ Z)
 have C:=fun ty=>Lib.run_append_grow_zeros (P:=Tryz.prog) W 28 3 ty 98 i0 _ .i64 .i64 Tryz.underlying28 Tryz.underlying3 aa ab (some ⟨g,0,none⟩) i c (fK (b.take i)) O (n+1 - i) (by omega) (by omega) (by omega) (by omega) (by rw [U];omega) (by rw [U];exact growslice_fits (by omega) (by omega))
 rw [show i+(n+1 - i)=n+1 by omega] at C;obtain ⟨G,hG⟩:=ai (grownCap W (n+1) c 98);have aw:n+1<=G:=by rw [hG];exact grownCap_ge W _ _ _
 have Pn:G<=maxLen:=by rw [hG];exact grownCap_le_maxLen W _ _ _ (by unfold maxLen;omega)
 rw [<-hG] at C;obtain ⟨a,r⟩:∃a:Array Value,a=(fK (b.take i)).toArray++Builtin.zeroCells (Value.cells (.agg #[.string ByteArray.empty,.slice none 0 0])) (n+1 - i)++Builtin.zeroCells (Value.cells (.agg #[.string ByteArray.empty,.slice none 0 0])) (G - (n+1)):=⟨_,rfl⟩;rw [<-r] at C
 have X:a.size=G*2:=by
  have e0:Value.cells (.agg #[.string ByteArray.empty,.slice none 0 0])=#[.string ByteArray.empty,.slice none 0 0]:=rfl;rw [r,e0];simp only [Array.size_append,List.size_toArray,u,Builtin.zeroCells,Array.size_map,Array.size_range,List.length_map,List.length_range,List.length_cons,List.length_nil];omega
 have GD:a.toList.take (i*2)=fK (b.take i):=by
  rw [r,Array.append_assoc,Array.toList_append,List.take_append_of_le_length (by rw [u];exact Nat.le_refl _),List.take_of_length_le (by rw [u];exact Nat.le_refl _)]
 have J:a.toList.length=G*2:=by simpa using X
 obtain ⟨z,K⟩:=ai (W.drew.alloc (.cells a 98));rw [<-K] at C;have L:z.heap[W.heap.size]? =some (.cells a 98 (0,0)):=by rw [K];exact heap_alloc_new W.drew _
 have h:ah W z:=by rw [K];exact (Below.refl W.heap.size W).drew.alloc aI _
 have D:z.heap[w.heap.size]? =some (.cells #[.string (bs s),x] 98 (0,0)):=(h.block _ av).trans A
 have E:=fun ty=>Wu z ty W.heap.size (i*2) (n+1 - i) (G - i) ⟨w.heap.size,0,none⟩ 1 1 a [.string (bs s),x] L (by
  have:Nat.min 1 (n+1 - i)=1:=by show min _ _=1;omega
  rw [this];rfl) (by
  intro j v Q;have:=World.news_of_block (w:=z) D j v (by simpa using Q)
  simpa using this) (by simp;omega) (by
  intro v hv;simp at hv
  rcases hv with rfl | rfl
  ·rfl
  ·exact hx.ownForm)
 obtain ⟨I,nQ⟩:=ai (a.toList.take (i*2)++[Value.string (bs s),x]++a.toList.drop (i*2+[Value.string (bs s),x].length));rw [<-nQ] at E;have zS:I.length=G*2:=by rw [nQ,Wv a.toList _ _ (by rw [J];simp;omega),J]
 obtain ⟨R,F⟩:=ai (z.setRow W.heap.size I.toArray);have ad:R.heap[W.heap.size]? =some (.cells I.toArray 98 (0,0)):=by rw [F];exact setRow_heap z _ a _ 98 _ L
 have Po:R.heap[g]? =some (.cells ao 98 (0,0)):=by rw [F];exact (setRow_other z _ g _ (by omega)).trans ((h.block g ar).trans hg)
 rw [<-F] at E;have H:∀j v,(fK (b.drop i))[j]? =some v->R.drew.cell? ((⟨g,i*2,none⟩:Addr).add j)=some v:=by
  intro j v Q;have Z:(fK b)[i*2+j]? =some v:=by rw [<-Q,<-qma b i (by omega),List.getElem?_drop]
  rw [Addr.add_lit];show R.cell? _=_
  rw [cell_of_row R g _ _ _ (0,0) Po];rw [<-B,List.getElem?_take] at Z;split at Z
  ·simpa using Z
  ·cases Z
 have T:∀v∈fK (b.drop i),v.oneCell'=true:=qoj (fun p hp=>zR.2 p (List.mem_of_mem_drop hp))
 have d:=fun ty=>Wu R.drew ty W.heap.size ((i+1)*2) (n - i) (G - (i+1)) ⟨g,i*2,none⟩ (n - i) (c - i) I.toArray (fK (b.drop i)) ad (by rw [V];congr 1;show _=min _ _;omega) H (by rw [V];simp;omega) T
 rw [show (I.toArray.toList)=I by simp] at d;obtain ⟨R2,M⟩:=ai (I.take ((i+1)*2)++fK (b.drop i)++I.drop ((i+1)*2+(fK (b.drop i)).length));rw [<-M] at d;have al:R.drew.setRow W.heap.size R2.toArray=z.drew.setRow W.heap.size R2.toArray:=by
  have:R.drew=z.drew.setRow W.heap.size I.toArray:=by rw [F];rfl
  rw [this,setRow_setRow]
 rw [al] at d;have Mf:=ag (show mE z.drew base (.slice (some ⟨W.heap.size,0,none⟩) 0 G) [] from ⟨⟨rfl,.inr ⟨W.heap.size,G,a,rfl,aC hb f.size,L,Nat.zero_le _,Pn,X,by simp [fK]⟩⟩,by simp⟩);have Y:=ag (Mf.o.laid (m:=n+1) (qs:=lZ b i ((s,l),x)) R2 (by rw [M,Wv I _ _ (by rw [V];omega),zS]) (by rw [qwc _ _ _ (by omega)];omega) aw (by
  rw [qol,M,nQ];have e:=zw a.toList (fK (b.take i)) [.string (bs s),x] (fK (b.drop i)) (i*2) GD u (by rw [V,J];simp;omega);have e3:i*2+[Value.string (bs s),x].length=(i+1)*2:=by simp;omega
  rw [e3,V] at e;rw [e3,V,show (n+1)*2=(i+1)*2+(n - i)*2 by omega];exact e) (fun q hq=>by
   rcases qwd hq with hq | rfl
   ·exact (zR.2 q hq).a h.drew
   ·exact Pj.a h.drew))
 have iO:=ag (show Below base w (z.drew.setRow W.heap.size R2.toArray) from (((f.mono hb).trans (h.mono (aC hb f.size))).drew).grown Y.o.2 (aC (aC hb f.size) h.size) (by intro k hk;cases hk;exact aC hb f.size));obtain ⟨W9,Pk⟩:=ai (z.drew.setRow W.heap.size R2.toArray);rw [<-Pk] at d Y iO;unfold maxLen at Pn;clear Pk F al M nQ K L ad Po D zS T H V u aq B hg A zR Pj Mf hx N hn GD J X r hG O aa ab ac U h;have aH:IntKind.i64.wrap ((i:Int)+1)=(i:Int)+1:=by rw [IntKind.wrap_i64];omega
 have aJ:¬(G=i+1):=by omega
 have aK:¬(c=i):=by omega
 have aM:¬(G=i):=by omega
 have ax:¬((i:Int)=(n:Int)):=by omega
 have am:(c:Int)<(n:Int)+1:=by omega
 have ay:(i:Int)<=n:=by omega
 have aD:i<=n:=by omega
 have aN:(0:Int)<=(i:Int)+1:=by omega
 have bH:(i:Int)<=(n:Int)+1:=by omega
 have aO:(n:Int)+1 - (i:Int)=((n+1 - i:Nat):Int):=by omega
 go_enter Tryz.func192,Tryz.ntmps192
 go_wp2_with (first
  | (at_builtin;refine qh4 rfl (.tmp 34) (.tmp 39) 28 3 rfl rfl rfl (C _) ?_)
  | (at_builtin;refine qh3 rfl (.tmp 43) (.tmp 44) 28 rfl rfl rfl (E _) ?_))
 refine gH (S:=fun _=>True) qnh (by kernel_rfl) trivial ?_
 intro hS;refine dm [0,1,2,3,4,5,6,7] (fuel:=1) (a':=?Mg) (by kernel_rfl) (by kernel_rfl) (by kernel_rfl) ?xO hS ?Mh
 case xO=>
  iterate 8 (apply Yl.cons rfl rfl;focus (rintro wx _;go_simp<;>with_reducible rfl);try simp only [az])
  exact Yl.nil
 try simp only [az]
 refine uS (i:=8) (v:=goInt (Nat.min (n - i) (n - i))) (w':=W9) rfl (by kernel_rfl) (by rfl) (qwb (v:=.slice (some ⟨W.heap.size,(i+1)*2,none⟩) (n - i) (G - (i+1))) (s:=.tmp 50) (x:=.tmp 53) (t:=28) (y:=.slice (some ⟨g,i*2,none⟩) (n - i) (c - i)) rfl (by kernel_rfl) (by kernel_rfl) (d _)) trivial ?_
 try simp only [az]
 refine wpAnyH_done (by kernel_rfl) ?_ _
 refine NoPanic.normal ?_
 go_wp2;go_ret;exact ⟨_,rfl,Y.o.1,iO.o⟩
theorem qyd (base:Nat) (a:au) (n c i:Nat) (d:List (Fl × Value)) (s:ak) (x:Value) (l:List Ex) (w:World) (b:mE w base (.slice a n c) d) (f:n=d.length) (j:n<=1000) (hb:base<=w.heap.size) (p:i<=n) (k:bB w base x l):
  Calls Tryz.prog 192 #[.slice a n c,.int .i64 i,.slice (some ⟨w.heap.size,0,none⟩) 1 1] (w.alloc (.cells #[.string (bs s),x] 98)) (CK base d i ((s,l),x) w):=by
 by_cases h:i=n
 ·subst h;exact qyc base a i c d s x l w b f j hb k
 ·obtain ⟨g,rfl⟩:∃g,a=some ⟨g,0,none⟩:=by
   rcases b.1.2 with ⟨e,q⟩ | ⟨g,cap,m,e,_⟩
   ·cases e;omega
   ·cases e;exact ⟨g,rfl⟩
  by_cases o:n+1<=c
  ·exact qr9 base g n c i d s x l w b f j hb (by omega) o k
  ·exact qug base g n c i d s x l w b f j hb (by omega) (by omega) k
theorem qafl (a:au) (n c:Nat) (fs:List Fl) (s:ak) (a2:au) (m c2:Nat) (l:List Ex) (w:World) (z:RdF w (.slice a n c) fs) (T:n=fs.length) (hl:fs.length<=1000) (G:∀f∈fs,f.2.length<=1000000) (hr:mo fs)
  (Pp:RdE w (.slice a2 m c2) l) (hm:m=l.length) (oN:l.length<=1000000):
  Calls Tryz.prog 156 #[.slice a n c,.agg #[.string (bs s),.slice a2 m c2]] w fun e w'=>∃v,e=.returned v∧bJ w' w.heap.size v (cO fs (s,l))∧ah w w':=by
 obtain ⟨H,q⟩:=ai (w.alloc (.cells #[.string (bs s),.slice a2 m c2] 98));have A:ah w H:=by rw [q];exact ae
 have h:H.heap[w.heap.size]? =some (.cells #[.string (bs s),.slice a2 m c2] 98 (0,0)):=by rw [q];exact heap_alloc_new w _
 have r0:H.cell? ⟨w.heap.size,0,none⟩=some (.string (bs s)):=by rw [cell_of_row H _ 0 _ _ (0,0) h];rfl
 have I:=FH a n c fs s H (z.a A) T hr (by omega);have HP:=ag (NR fs s);have HN:=ag T;have ad:n<=1000:=by omega
 have HB:=ag h;have X:=ag (fun d (hb1:ah w d)=>qyb a n c fs d (z.a hb1) T hl G);have Mi:=ag (fun d (hb1:ah w d)=>JS s a2 m c2 l d (Pp.a hb1) hm oN);have Y:=ag A;clear z T hr Pp hm oN G hl h;go_enter Tryz.func156,Tryz.ntmps156;go_wp2_with fail
 rw [<-q];refine I.mono ?_
 rintro e d ⟨rfl,hb1⟩;have J:=bT Y hb1;have Z:=ag ((hb1.block _ (Array.getElem?_eq_some_iff.1 HB.o).1).trans HB.o);clear hb1 I q r0 A;obtain ⟨i,hi⟩:=ai (dU fs s);rw [<-hi] at HP ⊢;have HI:=ag hi;clear hi;have jy:=ag (show w.heap.size+1<=d.heap.size from (Array.getElem?_eq_some_iff.1 Z.o).1);obtain ⟨S,U⟩:∃S:World->Prop,S=fun b=>b.cell? ⟨w.heap.size,0,none⟩=some (.string (bs s))∧b.cell? ⟨w.heap.size,1,none⟩=some (.slice a2 m c2):=⟨_,rfl⟩
 have j:S d:=by
  rw [U];exact ⟨by rw [cell_of_row d _ 0 _ _ (0,0) Z.o];rfl,by rw [cell_of_row d _ 1 _ _ (0,0) Z.o];rfl⟩
 have V:aL S:=by rw [U];exact (aR _ _).and (aR _ _)
 have B:=ag (show ∀wa wb,S wa->Below (w.heap.size+1) wa wb->S wb by
  rw [U];rintro wa wb ⟨C,t⟩ hb;exact ⟨by rw [hb.cell (p:=⟨w.heap.size,0,none⟩) (by show w.heap.size<_;omega)];exact C,by rw [hb.cell (p:=⟨w.heap.size,1,none⟩) (by show w.heap.size<_;omega)];exact t⟩)
 have E:=ag V;go_wp2;rw [U] at V j B E;refine gH V (by kernel_rfl) j ?_
 intro hS;refine dm [0,2,3] (fuel:=5) (a':=?Mg) (by kernel_rfl) (by kernel_rfl) (by kernel_rfl) ?xO hS ?Mh
 case xO=>
  iterate 3 (apply Yl.cons rfl rfl;focus (rintro b ⟨x1,x2⟩;go_simp<;>with_reducible rfl);try simp only [az])
  exact Yl.nil
 try simp only [az]
 refine nZ (i:=1) (R:=fun v b=>bJ b (w.heap.size+1) v fs∧ah d b) rfl (by kernel_rfl) (by rfl) (by go_simp) ((X.o d.drew J.o.drew).mono fun e b ⟨v,C,t,h3⟩=>⟨v,C,t.mono jy.o,((Below.refl d.heap.size d).drew).trans h3⟩) ?_
 rintro v2 w2 ⟨K,k⟩;refine ⟨E.o _ _ j k, ?_⟩;try simp only [az]
 have L:=bT J k;have D:=E.o _ _ j k;have Pq:=ag (show w.heap.size+1<=w2.heap.size from aC jy.o k.size);refine nZ (i:=4) (R:=fun v b=>∃u x,v=.agg #[.string (bs s),.slice u l.length x]∧bB b (w.heap.size+1) (.slice u l.length x) l∧ah w2 b) rfl (by kernel_rfl) (by rfl) (by go_simp) ((Mi.o w2 L.o).mono fun e b ⟨v,C,t,h3⟩=>by
  obtain ⟨u,x,rfl⟩:=t.form;exact ⟨_,C,u,x,rfl,t.mono Pq.o,h3⟩) ?_
 rintro v3 F ⟨u,x,rfl,M,g⟩;refine ⟨E.o _ _ D g, ?_⟩;try simp only [az]
 have W:=E.o _ _ D g;have aa:=bT L g;obtain ⟨ps,ap,cp,N,O,ab,P⟩:=(K.a g).parts;subst ab;have y:=qyd (w.heap.size+1) ap fs.length cp i ps s (.slice u l.length x) l F P (by omega) (by have:=HN.o;omega) (aC Pq.o g.size) HP.o M;have ac:=ag N;have Q:ah F (F.alloc (.cells #[.string (bs s),.slice u l.length x] 98)):=ae;clear P N O;refine uS (i:=5) (v:=.slice (some ⟨F.heap.size,0,none⟩) 1 1) (w':=F.alloc (.cells #[.string (bs s),.slice u l.length x] 98)) rfl (by kernel_rfl) (by rfl) (by go_simp) (E.o _ _ W Q) ?_
 try simp only [az]
 refine nZ (i:=6) (R:=fun v b=>bJ b w.heap.size v (cO fs (s,l))∧Below (w.heap.size+1) F b) rfl (by kernel_rfl) (by rfl) (by go_simp) (y.mono fun e b ⟨v,C,t,h3⟩=>⟨v,C,bJ.mono ⟨_,by rw [OE,ac.o,HI.o];rfl,t⟩ (by omega),h3⟩) ?_
 rintro v4 w4 ⟨iW,r⟩;refine ⟨B.o _ _ W r, ?_⟩;have zA:=B.o _ _ W r;have iR:=ag (show ah w w4 from aa.o.trans (r.mono (by omega)));have mD:=ag iW;try simp only [az]
 refine dm [7] (fuel:=0) (a':=?qa2) (by kernel_rfl) (by kernel_rfl) (by kernel_rfl) ?GG zA ?qn2
 case GG=>
  iterate 1 (apply Yl.cons rfl rfl;focus (rintro b ⟨x1,x2⟩;go_simp<;>with_reducible rfl);try simp only [az])
  exact Yl.nil
 try simp only [az]
 refine wpAnyH_done (by kernel_rfl) ?_ _
 refine NoPanic.normal ?_
 clear iW r zA W Q y M g K k D hS V j;go_wp2;go_ret;exact ⟨_,rfl,mD.o,iR.o⟩
end Go.Proofs.YthpammbgcidloaaGreat
