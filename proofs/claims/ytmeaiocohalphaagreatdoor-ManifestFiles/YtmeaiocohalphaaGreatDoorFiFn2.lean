/-
  What Find, fitting, Delete, Used and Write do.
-/
import Derived.Test.YtmeaiocohalphaaGreatDoorFiIns
set_option maxHeartbeats 2000000
set_option maxRecDepth 100000
namespace Go.Proofs.YtmeaiocohalphaaGreatDoor
open Go.RowKit
set_option linter.all false
def insP (ps:List (Fl × Value)) (i:Nat) (q:Fl × Value):List (Fl × Value):=ps.take i++[q]++ps.drop i
theorem qw0 (ps:List (Fl × Value)) (i:Nat) (q:Fl × Value) (hi:i≤ps.length):(insP ps i q).length=ps.length+1:=by
 simp only [insP,List.length_append,List.length_take,List.length_drop,List.length_cons,List.length_nil];omega
theorem qaf5 (ps:List (Fl × Value)) (i:Nat) (q:Fl × Value):(insP ps i q).map Prod.fst=(ps.map Prod.fst).take i++q.1::(ps.map Prod.fst).drop i:=by
 simp [insP,List.map_take,List.map_drop]
theorem qw1 {ps:List (Fl × Value)} {i:Nat} {q p:Fl × Value} (h:p∈insP ps i q):p∈ps∨p=q:=by
 unfold insP at h
 rcases List.mem_append.1 h with h | h
 ·rcases List.mem_append.1 h with h | h
  ·exact .inl (List.mem_of_mem_take h)
  ·exact .inr (by simpa using h)
 ·exact .inl (List.mem_of_mem_drop h)
theorem qoc (ps:List (Fl × Value)) (i:Nat) (q:Fl × Value):qal (insP ps i q)=qal (ps.take i)++[.string (bs q.1.1),q.2]++qal (ps.drop i):=by
 simp [insP,qdb,qal]
def InsV (base:Nat) (ps:List (Fl × Value)) (i:Nat) (q:Fl × Value) (w:World) (e:Ending) (w':World):Prop:=
 ∃v',e=.returned v'∧OwP w' base v' (insP ps i q)∧Below base w w'
theorem qy2 (base:Nat) (a:Option Addr) (n c:Nat) (ps:List (Fl × Value)) (s:List UInt8) (x:Value) (l:List Ex) (w:World) (hown:OwP w base (.slice a n c) ps) (hn:n=ps.length) (hl:n≤1000) (hb:base≤w.heap.size) (hx:OwE w base x l):
  Calls Tryz.prog 253 #[.slice a n c,.int .i64 n,.slice (some ⟨w.heap.size,0,none⟩) 1 1] (w.alloc (.cells #[.string (bs s),x] 98)) (InsV base ps n ((s,l),x) w):=by
 obtain ⟨g,cc,w9,hrun,ho9,hb9⟩:=qwv hown hb (by omega) s x l hx
 have hnc:n≤c:=by
  rcases hown.1.2 with ⟨e,h0⟩ | ⟨g,cap,cur,e,_,_,h1,_⟩
  ·cases e;omega
  ·cases e;omega
 have HO:=hide (show OwP w9 base (.slice (some ⟨g,0,none⟩) (ps.length+1) cc) (insP ps n ((s,l),x)) by
  have e:insP ps n ((s,l),x)=ps++[((s,l),x)]:=by
   unfold insP;rw [List.take_of_length_le (by omega),List.drop_of_length_le (by omega),List.append_nil]
  rw [e];exact ho9)
 clear ho9 hown
 have hnc':(n:Int)≤c:=by omega
 have hcm:c=n∨¬c=n:=by omega
 go_enter Tryz.func253,Tryz.ntmps253
 rcases hcm with hcm | hcm
 ·subst hcm
  go_wp2_with (at_builtin;refine qaf rfl (.tmp 23) (.tmp 24) 29 rfl rfl rfl rfl hrun ?_)
  go_ret;exact ⟨_,rfl,HO.out,hb9⟩
 ·go_wp2_with (at_builtin;refine qaf rfl (.tmp 23) (.tmp 24) 29 rfl rfl rfl rfl hrun ?_)
  all_goals (go_ret;exact ⟨_,rfl,HO.out,hb9⟩)
theorem qsg (base g n c i:Nat) (ps:List (Fl × Value)) (s:List UInt8) (x:Value) (l:List Ex) (w:World) (hown:OwP w base (.slice (some ⟨g,0,none⟩) n c) ps) (hn:n=ps.length) (hl:n≤1000) (hb:base≤w.heap.size) (hi:i<n) (hroom:n+1≤c) (hx:OwE w base x l):
  Calls Tryz.prog 253 #[.slice (some ⟨g,0,none⟩) n c,.int .i64 i,.slice (some ⟨w.heap.size,0,none⟩) 1 1] (w.alloc (.cells #[.string (bs s),x] 98)) (InsV base ps i ((s,l),x) w):=by
 obtain ⟨W,hW⟩:∃W,W=w.alloc (.cells #[.string (bs s),x] 98):=⟨_,rfl⟩
 have hbW:Below w.heap.size w W:=by rw [hW];exact (Below.refl _ _).alloc (Nat.le_refl _) _
 have hblk:W.heap[w.heap.size]? =some (.cells #[.string (bs s),x] 98 (0,0)):=by rw [hW];exact heap_alloc_new w _
 rw [←hW];clear hW;have hoW:=hown.carry hbW;have hxW:=hx.carry hbW;obtain ⟨cur, -,hbg,hg,hnc,hcm,hsz,htake⟩:=hoW.block
 have hgw:g<w.heap.size:=by
  obtain ⟨cur',_,_,hg',_⟩:=hown.block;exact (Array.getElem?_eq_some_iff.1 hg').1
 have hne:w.heap.size≠g:=by omega
 unfold maxLen at hcm;obtain ⟨i0,hi0,hz0,hz1,hz2⟩:=info_parts Tryz.infoFl
 have hov:∀lb cb,(callFunc 274 #[.slice (some ⟨w.heap.size,0,none⟩) 1 1,.slice (some ⟨g,(i+1)*2,none⟩) lb cb]).run Tryz.prog W=.ok (.value (.bool false)) W:=fun lb cb=>by
  rw [run_callFunc_extern Tryz.func274 (by kernel_rfl) (by kernel_rfl) (by kernel_rfl) (e:=Extern.SlicesOverlaps.overlaps #[29,29] #[4]) (by kernel_rfl),
   Lib.run_overlaps_apart W 29 4 98 Tryz.underlying29 2 (by intro w;simp [sizeOf,typeInfo,hi0,hz1]) ⟨w.heap.size,0,none⟩ ⟨g,(i+1)*2,none⟩ 1 1 lb cb hne 98 98 2 cur.size (by simp [World.shape?,hblk]) (by simp [World.shape?,hg]) (by rw [hsz];omega) (frozen_of_row W _ 0 _ _ hblk) (frozen_of_row W _ 2 _ _ hblk)]
  rfl
 have hcl:cur.toList.length=c*2:=by simpa using hsz
 have hpd:(qal (ps.drop i)).length=(n - i)*2:=by rw [qbt,List.length_drop,←hn]
 have hsrc1:∀j v,(qal (ps.drop i))[j]? =some v→W.drew.cell? ((⟨g,i*2,none⟩:Addr).add j)=some v:=by
  intro j v hj
  have h1:(qal ps)[i*2+j]? =some v:=by rw [←hj,←qlz ps i (by omega),List.getElem?_drop]
  have:=hoW.1.cells (g:=g) rfl _ _ h1
  rw [Addr.add_lit] at this ⊢
  simpa using this
 have hone:∀v∈qal (ps.drop i),v.oneCell'=true:=qn8 (fun p hp=>hoW.2 p (List.mem_of_mem_drop hp))
 have hcp1:=fun ty=>qih W.drew ty g ((i+1)*2) (n - i) (c - (i+1)) ⟨g,i*2,none⟩ (n+1 - i) (c - i) cur (qal (ps.drop i)) hg (by rw [hpd];congr 1;show _=min _ _;omega) hsrc1 (by rw [hpd,hsz];omega) hone
 obtain ⟨R1,hR1⟩:∃R1,R1=cur.toList.take ((i+1)*2)++qal (ps.drop i)++cur.toList.drop ((i+1)*2+(qal (ps.drop i)).length):=⟨_,rfl⟩;rw [←hR1] at hcp1
 have hR1l:R1.length=c*2:=by rw [hR1];have:=qp7 cur.toList (qal (ps.drop i)) ((i+1)*2) (by rw [hpd,hcl];omega);rw [this,hcl]
 obtain ⟨W1,hW1⟩:∃W1,W1=W.drew.setRow g R1.toArray:=⟨_,rfl⟩
 have hg1:W1.heap[g]? =some (.cells R1.toArray 98 (0,0)):=by rw [hW1];exact setRow_heap W.drew g cur _ 98 _ hg
 have hblk1:W1.heap[w.heap.size]? =some (.cells #[.string (bs s),x] 98 (0,0)):=by rw [hW1];exact (setRow_other W.drew g _ _ hne).trans hblk
 have hcp2:=fun ty=>qih W1 ty g (i*2) (n+1 - i) (c - i) ⟨w.heap.size,0,none⟩ 1 1 R1.toArray [.string (bs s),x] hg1 (by
  have:Nat.min 1 (n+1 - i)=1:=by show min _ _=1;omega
  rw [this];rfl) (by
  intro j v hj
  have:=World.news_of_block (w:=W1) hblk1 j v (by simpa using hj)
  simpa using this) (by simp;omega) (by
  intro v hv
  simp at hv
  rcases hv with rfl | rfl
  ·rfl
  ·exact hx.ownForm)
 rw [show (R1.toArray.toList)=R1 by simp] at hcp2;obtain ⟨R2,hR2⟩:∃R2,R2=R1.take (i*2)++[Value.string (bs s),x]++R1.drop (i*2+[Value.string (bs s),x].length):=⟨_,rfl⟩;rw [←hR2] at hcp2
 have hW2:W1.setRow g R2.toArray=W.drew.setRow g R2.toArray:=by rw [hW1,setRow_setRow]
 rw [hW2] at hcp2;have HLA:=hide (show OwP W.drew base (.slice (some ⟨g,0,none⟩) n c) ps from hoW)
 have HL2:=hide (HLA.out.laid (m:=n+1) (qs:=insP ps i ((s,l),x)) R2 (by rw [hR2,qp7 R1 _ _ (by simp;omega),hR1l]) (by rw [qw0 _ _ _ (by omega)];omega) hroom (by
  rw [qoc,hR2,hR1]
  have e:=qaf4 cur.toList (qal (ps.take i)) [.string (bs s),x] (qal (ps.drop i)) (i*2) (by
   rw [←qhr ps i (by omega),←htake,List.take_take,Nat.min_eq_left (by omega)]) (by rw [qbt,List.length_take];omega) (by rw [hpd,hcl];simp;omega)
  have e3:i*2+[Value.string (bs s),x].length=(i+1)*2:=by simp;omega
  rw [e3,hpd] at e;rw [e3,hpd,show (n+1)*2=(i+1)*2+(n - i)*2 by omega]
  exact e) (fun q hq=>by
   rcases qw1 hq with hq | rfl
   ·exact HLA.out.2 q hq
   ·exact hxW))
 have HBB:=hide (show Below base w (W.drew.setRow g R2.toArray) from ((hbW.mono hb).drew).grown HL2.out.2 (Nat.le_trans hb hbW.size) (by intro k hk;cases hk;exact hbg));obtain ⟨W9,hW9⟩:∃W9,W9=W.drew.setRow g R2.toArray:=⟨_,rfl⟩;rw [←hW9] at hcp2 HL2 HBB
 have hcp1':∀ty,(Builtin.copy_ #[29,29] ty #[.slice (some ⟨g,(i+1)*2,none⟩) (n - i) (c - (i+1)),.slice (some ⟨g,i*2,none⟩) (n+1 - i) (c - i)]).run Tryz.prog W.drew=.ok (goInt (Nat.min (n+1 - i) (n - i))) W1:=by rw [hW1];exact hcp1
 clear hW9 hW2 hR2 hR1 hW1 hg1 hblk1 hR1l hcp1 hone hsrc1 hpd hcl hsz htake hg hblk hoW hxW HLA hx hown hn
 have hw1:IntKind.i64.wrap ((i:Int)+1)=(i:Int)+1:=by rw [IntKind.wrap_i64];omega
 have hb2:¬(c=i+1):=by omega
 have hb3:(i:Int)≤(n:Int)+1:=by omega
 have hb4:¬(c=i):=by omega
 have hz2':¬((i:Int)=(n:Int)):=by omega
 have hroom':¬((c:Int)<(n:Int)+1):=by omega
 have hin':(i:Int)≤n:=by omega
 have hin2:i≤n:=by omega
 have hb5:(0:Int)≤(i:Int)+1:=by omega
 go_enter Tryz.func253,Tryz.ntmps253
 go_wp2_with (simp only [hov])
 refine qaj (S:=fun _=>True) qnn (by kernel_rfl) trivial ?_
 intro hS
 refine rP [0,1,2,3,4,5,6,7] 1 ?qa1 ?qp1 hS ?qn1
 case qp1=>
  iterate 8 (apply Yl.cons rfl rfl;focus (rintro wx _;go_simp;all_goals (with_reducible rfl));try simp only [Act.put,sA,sB,sC])
  exact Yl.nil
 try simp only [Act.put,sA,sB,sC]
 refine rR 8 (goInt (Nat.min (n+1 - i) (n - i))) W1 rfl (qwz (v:=.slice (some ⟨g,(i+1)*2,none⟩) (n - i) (c - (i+1))) (s:=.tmp 73) (x:=.tmp 76) (t:=29) (y:=.slice (some ⟨g,i*2,none⟩) (n+1 - i) (c - i)) rfl (by kernel_rfl) (by kernel_rfl) (hcp1' _)) trivial ?_
 try simp only [Act.put,sA,sB,sC]
 refine rD ?_
 go_wp2_with (at_builtin;refine qhd rfl (.tmp 80) (.tmp 81) 29 rfl rfl rfl (hcp2 _) ?_)
 go_ret;exact ⟨_,rfl,HL2.out.1,HBB.out⟩
theorem qus (base g n c i:Nat) (ps:List (Fl × Value)) (s:List UInt8) (x:Value) (l:List Ex) (w:World) (hown:OwP w base (.slice (some ⟨g,0,none⟩) n c) ps) (hn:n=ps.length) (hl:n≤1000) (hb:base≤w.heap.size) (hi:i<n) (hroom:c<n+1) (hx:OwE w base x l):
  Calls Tryz.prog 253 #[.slice (some ⟨g,0,none⟩) n c,.int .i64 i,.slice (some ⟨w.heap.size,0,none⟩) 1 1] (w.alloc (.cells #[.string (bs s),x] 98)) (InsV base ps i ((s,l),x) w):=by
 obtain ⟨W,hW⟩:∃W,W=w.alloc (.cells #[.string (bs s),x] 98):=⟨_,rfl⟩
 have hbW:Below w.heap.size w W:=by rw [hW];exact (Below.refl _ _).alloc (Nat.le_refl _) _
 have hblk:W.heap[w.heap.size]? =some (.cells #[.string (bs s),x] 98 (0,0)):=by rw [hW];exact heap_alloc_new w _
 rw [←hW];clear hW;have hoW:=hown.carry hbW;have hxW:=hx.carry hbW;obtain ⟨cur, -,hbg,hg,hnc,hcm,hsz,htake⟩:=hoW.block;have hgW:g<W.heap.size:=(Array.getElem?_eq_some_iff.1 hg).1;have hvW:w.heap.size<W.heap.size:=(Array.getElem?_eq_some_iff.1 hblk).1;unfold maxLen at hcm;obtain ⟨i0,hi0,hz0,hz1,hz2⟩:=info_parts Tryz.infoFl
 have hpt:(qal (ps.take i)).length=i*2:=by rw [qbt,List.length_take];omega
 have hpd:(qal (ps.drop i)).length=(n - i)*2:=by rw [qbt,List.length_drop,←hn]
 have hold:(Builtin.firstCells i0.size i (.slice (some ⟨g,0,none⟩) i c)).run Tryz.prog W.drew=.ok (qal (ps.take i)).toArray W.drew:=by
  rw [hz1]
  exact run_firstCells_some W.drew 2 i ⟨g,0,none⟩ i c (qal (ps.take i)) hpt (fun j v hj=>by
   have h1:(qal ps)[j]? =some v:=by
    rw [←qhr ps i (by omega),List.getElem?_take] at hj
    split at hj
    ·exact hj
    ·cases hj
   exact hoW.1.cells (g:=g) rfl _ _ h1)
 have hrz:=fun ty=>Lib.run_append_grow_zeros (P:=Tryz.prog) W 29 3 ty 98 i0 _ .i64 .i64 Tryz.underlying29 Tryz.underlying3 hi0 hz0 (some ⟨g,0,none⟩) i c (qal (ps.take i)) hold (n+1 - i) (by omega) (by omega) (by omega) (by omega) (by rw [hz2];omega) (by rw [hz2];exact growslice_fits (by omega) (by omega))
 rw [show i+(n+1 - i)=n+1 by omega] at hrz;obtain ⟨G,hG⟩:∃G,G=grownCap W (n+1) c 98:=⟨_,rfl⟩
 have hGn:n+1≤G:=by rw [hG];exact grownCap_ge W _ _ _
 have hGm:G≤maxLen:=by rw [hG];exact grownCap_le_maxLen W _ _ _ (by unfold maxLen;omega)
 rw [←hG] at hrz;obtain ⟨ROW,hROW⟩:∃ROW:Array Value,ROW=(qal (ps.take i)).toArray++Builtin.zeroCells (Value.cells (.agg #[.string ByteArray.empty,.slice none 0 0])) (n+1 - i)++Builtin.zeroCells (Value.cells (.agg #[.string ByteArray.empty,.slice none 0 0])) (G - (n+1)):=⟨_,rfl⟩;rw [←hROW] at hrz
 have hRs:ROW.size=G*2:=by
  have e0:Value.cells (.agg #[.string ByteArray.empty,.slice none 0 0])=#[.string ByteArray.empty,.slice none 0 0]:=rfl;rw [hROW,e0]
  simp only [Array.size_append,List.size_toArray,hpt,Builtin.zeroCells,Array.size_map,Array.size_range,List.length_map,List.length_range,List.length_cons,List.length_nil]
  omega
 have hRt:ROW.toList.take (i*2)=qal (ps.take i):=by
  rw [hROW,Array.append_assoc,Array.toList_append,List.take_append_of_le_length (by rw [hpt];exact Nat.le_refl _),List.take_of_length_le (by rw [hpt];exact Nat.le_refl _)]
 have hRl:ROW.toList.length=G*2:=by simpa using hRs
 obtain ⟨W1,hW1⟩:∃W1,W1=W.drew.alloc (.cells ROW 98):=⟨_,rfl⟩;rw [←hW1] at hrz
 have hg1:W1.heap[W.heap.size]? =some (.cells ROW 98 (0,0)):=by rw [hW1];exact heap_alloc_new W.drew _
 have hb1:Below W.heap.size W W1:=by rw [hW1];exact (Below.refl W.heap.size W).drew.alloc (Nat.le_refl _) _
 have hblk1:W1.heap[w.heap.size]? =some (.cells #[.string (bs s),x] 98 (0,0)):=(hb1.block _ hvW).trans hblk
 have hcp2:=fun ty=>qih W1 ty W.heap.size (i*2) (n+1 - i) (G - i) ⟨w.heap.size,0,none⟩ 1 1 ROW [.string (bs s),x] hg1 (by
  have:Nat.min 1 (n+1 - i)=1:=by show min _ _=1;omega
  rw [this];rfl) (by
  intro j v hj
  have:=World.news_of_block (w:=W1) hblk1 j v (by simpa using hj)
  simpa using this) (by simp;omega) (by
  intro v hv
  simp at hv
  rcases hv with rfl | rfl
  ·rfl
  ·exact hx.ownForm)
 obtain ⟨R1,hR1⟩:∃R1,R1=ROW.toList.take (i*2)++[Value.string (bs s),x]++ROW.toList.drop (i*2+[Value.string (bs s),x].length):=⟨_,rfl⟩;rw [←hR1] at hcp2
 have hR1l:R1.length=G*2:=by rw [hR1,qp7 ROW.toList _ _ (by rw [hRl];simp;omega),hRl]
 obtain ⟨W2,hW2⟩:∃W2,W2=W1.setRow W.heap.size R1.toArray:=⟨_,rfl⟩
 have hg2:W2.heap[W.heap.size]? =some (.cells R1.toArray 98 (0,0)):=by rw [hW2];exact setRow_heap W1 _ ROW _ 98 _ hg1
 have hgg2:W2.heap[g]? =some (.cells cur 98 (0,0)):=by rw [hW2];exact (setRow_other W1 _ g _ (by omega)).trans ((hb1.block g hgW).trans hg)
 rw [←hW2] at hcp2
 have hsrc1:∀j v,(qal (ps.drop i))[j]? =some v→W2.drew.cell? ((⟨g,i*2,none⟩:Addr).add j)=some v:=by
  intro j v hj
  have h1:(qal ps)[i*2+j]? =some v:=by rw [←hj,←qlz ps i (by omega),List.getElem?_drop]
  rw [Addr.add_lit]
  show W2.cell? _=_
  rw [cell_of_row W2 g _ _ _ (0,0) hgg2];rw [←htake,List.getElem?_take] at h1
  split at h1
  ·simpa using h1
  ·cases h1
 have hone:∀v∈qal (ps.drop i),v.oneCell'=true:=qn8 (fun p hp=>hoW.2 p (List.mem_of_mem_drop hp))
 have hcp1:=fun ty=>qih W2.drew ty W.heap.size ((i+1)*2) (n - i) (G - (i+1)) ⟨g,i*2,none⟩ (n - i) (c - i) R1.toArray (qal (ps.drop i)) hg2 (by rw [hpd];congr 1;show _=min _ _;omega) hsrc1 (by rw [hpd];simp;omega) hone
 rw [show (R1.toArray.toList)=R1 by simp] at hcp1;obtain ⟨R2,hR2⟩:∃R2,R2=R1.take ((i+1)*2)++qal (ps.drop i)++R1.drop ((i+1)*2+(qal (ps.drop i)).length):=⟨_,rfl⟩;rw [←hR2] at hcp1
 have hW3:W2.drew.setRow W.heap.size R2.toArray=W1.drew.setRow W.heap.size R2.toArray:=by
  have:W2.drew=W1.drew.setRow W.heap.size R1.toArray:=by rw [hW2];rfl
  rw [this,setRow_setRow]
 rw [hW3] at hcp1;have HLA:=hide (show OwP W1.drew base (.slice (some ⟨W.heap.size,0,none⟩) 0 G) [] from ⟨⟨rfl,.inr ⟨W.heap.size,G,ROW,rfl,Nat.le_trans hb hbW.size,hg1,Nat.zero_le _,hGm,hRs,by simp [qal]⟩⟩,by simp⟩)
 have HL2:=hide (HLA.out.laid (m:=n+1) (qs:=insP ps i ((s,l),x)) R2 (by rw [hR2,qp7 R1 _ _ (by rw [hpd];omega),hR1l]) (by rw [qw0 _ _ _ (by omega)];omega) hGn (by
  rw [qoc,hR2,hR1];have e:=qakk ROW.toList (qal (ps.take i)) [.string (bs s),x] (qal (ps.drop i)) (i*2) hRt hpt (by rw [hpd,hRl];simp;omega)
  have e3:i*2+[Value.string (bs s),x].length=(i+1)*2:=by simp;omega
  rw [e3,hpd] at e;rw [e3,hpd,show (n+1)*2=(i+1)*2+(n - i)*2 by omega]
  exact e) (fun q hq=>by
   rcases qw1 hq with hq | rfl
   ·exact (hoW.2 q hq).carry hb1.drew
   ·exact hxW.carry hb1.drew))
 have HBB:=hide (show Below base w (W1.drew.setRow W.heap.size R2.toArray) from (((hbW.mono hb).trans (hb1.mono (Nat.le_trans hb hbW.size))).drew).grown HL2.out.2 (Nat.le_trans (Nat.le_trans hb hbW.size) hb1.size) (by intro k hk;cases hk;exact Nat.le_trans hb hbW.size));obtain ⟨W9,hW9⟩:∃W9,W9=W1.drew.setRow W.heap.size R2.toArray:=⟨_,rfl⟩;rw [←hW9] at hcp1 HL2 HBB;unfold maxLen at hGm;clear hW9 hW2 hW3 hR2 hR1 hW1 hg1 hg2 hgg2 hblk1 hR1l hone hsrc1 hpd hpt hsz htake hg hblk hoW hxW HLA hx hown hn hRt hRl hRs hROW hG hold hi0 hz0 hz1 hz2 hb1
 have hw1:IntKind.i64.wrap ((i:Int)+1)=(i:Int)+1:=by rw [IntKind.wrap_i64];omega
 have hb2:¬(G=i+1):=by omega
 have hb4:¬(c=i):=by omega
 have hb6:¬(G=i):=by omega
 have hz2':¬((i:Int)=(n:Int)):=by omega
 have hroom':(c:Int)<(n:Int)+1:=by omega
 have hin':(i:Int)≤n:=by omega
 have hin2:i≤n:=by omega
 have hb5:(0:Int)≤(i:Int)+1:=by omega
 have hb7:(i:Int)≤(n:Int)+1:=by omega
 have hkk:(n:Int)+1 - (i:Int)=((n+1 - i:Nat):Int):=by omega
 go_enter Tryz.func253,Tryz.ntmps253
 go_wp2_with (first
  | (at_builtin;refine qhe rfl (.tmp 34) (.tmp 39) 29 3 rfl rfl rfl (hrz _) ?_)
  | (at_builtin;refine qhd rfl (.tmp 43) (.tmp 44) 29 rfl rfl rfl (hcp2 _) ?_))
 refine qaj (S:=fun _=>True) qnn (by kernel_rfl) trivial ?_
 intro hS
 refine rP [0,1,2,3,4,5,6,7] 1 ?qa1 ?qp1 hS ?qn1
 case qp1=>
  iterate 8 (apply Yl.cons rfl rfl;focus (rintro wx _;go_simp;all_goals (with_reducible rfl));try simp only [Act.put,sA,sB,sC])
  exact Yl.nil
 try simp only [Act.put,sA,sB,sC]
 refine rR 8 (goInt (Nat.min (n - i) (n - i))) W9 rfl (qwz (v:=.slice (some ⟨W.heap.size,(i+1)*2,none⟩) (n - i) (G - (i+1))) (s:=.tmp 50) (x:=.tmp 53) (t:=29) (y:=.slice (some ⟨g,i*2,none⟩) (n - i) (c - i)) rfl (by kernel_rfl) (by kernel_rfl) (hcp1 _)) trivial ?_
 try simp only [Act.put,sA,sB,sC]
 refine rD ?_
 go_wp2;go_ret;exact ⟨_,rfl,HL2.out.1,HBB.out⟩
theorem qy3 (base:Nat) (a:Option Addr) (n c i:Nat) (ps:List (Fl × Value)) (s:List UInt8) (x:Value) (l:List Ex) (w:World) (hown:OwP w base (.slice a n c) ps) (hn:n=ps.length) (hl:n≤1000) (hb:base≤w.heap.size) (hi:i≤n) (hx:OwE w base x l):
  Calls Tryz.prog 253 #[.slice a n c,.int .i64 i,.slice (some ⟨w.heap.size,0,none⟩) 1 1] (w.alloc (.cells #[.string (bs s),x] 98)) (InsV base ps i ((s,l),x) w):=by
 by_cases h:i=n
 ·subst h;exact qy2 base a i c ps s x l w hown hn hl hb hx
 ·obtain ⟨g,rfl⟩:∃g,a=some ⟨g,0,none⟩:=by
   rcases hown.1.2 with ⟨e,h0⟩ | ⟨g,cap,cur,e,_⟩
   ·cases e;omega
   ·cases e;exact ⟨g,rfl⟩
  by_cases hr:n+1≤c
  ·exact qsg base g n c i ps s x l w hown hn hl hb (by omega) hr hx
  ·exact qus base g n c i ps s x l w hown hn hl hb (by omega) (by omega) hx
theorem qw2 (a:Option Addr) (n c:Nat) (fs:List Fl) (s:List UInt8) (a2:Option Addr) (m c2:Nat) (l:List Ex) (w:World) (hrd:RdF w (.slice a n c) fs) (hn:n=fs.length) (hl:fs.length≤1000) (hle:∀f∈fs,f.2.length≤1000000) (hr:qcg fs)
  (hrd2:RdE w (.slice a2 m c2) l) (hm:m=l.length) (hml:l.length≤1000000):
  Calls Tryz.prog 205 #[.slice a n c,.agg #[.string (bs s),.slice a2 m c2]] w fun e w'=>∃v,e=.returned v∧OwF w' w.heap.size v (insF fs (s,l))∧Below w.heap.size w w':=by
 obtain ⟨W0,hW0⟩:∃W0,W0=w.alloc (.cells #[.string (bs s),.slice a2 m c2] 98):=⟨_,rfl⟩
 have hb0:Below w.heap.size w W0:=by rw [hW0];exact (Below.refl _ _).alloc (Nat.le_refl _) _
 have hblk:W0.heap[w.heap.size]? =some (.cells #[.string (bs s),.slice a2 m c2] 98 (0,0)):=by rw [hW0];exact heap_alloc_new w _
 have r0:W0.cell? ⟨w.heap.size,0,none⟩=some (.string (bs s)):=by rw [cell_of_row W0 _ 0 _ _ (0,0) hblk];rfl
 have hpl:=qig a n c fs s W0 (hrd.carry hb0) hn hr (by omega);have HP:=hide (qaah fs s);have HN:=hide hn
 have hn2:n≤1000:=by omega
 have HB:=hide hblk;have HCP:=hide (fun w1 (hb1:Below w.heap.size w w1)=>qoa a n c fs w1 (hrd.carry hb1) hn hl hle);have HCF:=hide (fun w1 (hb1:Below w.heap.size w w1)=>qjj s a2 m c2 l w1 (hrd2.carry hb1) hm hml);have HB0:=hide hb0;clear hrd hn hr hrd2 hm hml hle hl hblk
 go_enter Tryz.func205,Tryz.ntmps205
 go_wp2_with fail
 rw [←hW0]
 refine hpl.mono ?_
 rintro e w1 ⟨rfl,hb1⟩;have HB1:=bT HB0 hb1;have HBK1:=hide ((hb1.block _ (Array.getElem?_eq_some_iff.1 HB.out).1).trans HB.out);clear hb1 hpl hW0 r0 hb0;obtain ⟨i,hi⟩:∃i,i=posF fs s:=⟨_,rfl⟩;rw [←hi] at HP ⊢;have HI:=hide hi;clear hi;have HSZ:=hide (show w.heap.size+1≤w1.heap.size from (Array.getElem?_eq_some_iff.1 HBK1.out).1)
 obtain ⟨S,eS⟩:∃S:World→Prop,S=fun wx=>wx.cell? ⟨w.heap.size,0,none⟩=some (.string (bs s))∧wx.cell? ⟨w.heap.size,1,none⟩=some (.slice a2 m c2):=⟨_,rfl⟩
 have hS0:S w1:=by
  rw [eS];exact ⟨by rw [cell_of_row w1 _ 0 _ _ (0,0) HBK1.out];rfl,by rw [cell_of_row w1 _ 1 _ _ (0,0) HBK1.out];rfl⟩
 have hK:Keeps S:=by rw [eS];exact (qaa _ _).and (qaa _ _)
 have HKB:=hide (show ∀wa wb,S wa→Below (w.heap.size+1) wa wb→S wb by
  rw [eS];rintro wa wb ⟨h1,h2⟩ hb
  exact ⟨by rw [hb.cell (p:=⟨w.heap.size,0,none⟩) (by show w.heap.size<_;omega)];exact h1,by rw [hb.cell (p:=⟨w.heap.size,1,none⟩) (by show w.heap.size<_;omega)];exact h2⟩)
 have HKS:=hide hK;go_wp2;rw [eS] at hK hS0 HKB HKS
 refine qaj hK (by kernel_rfl) hS0 ?_
 intro hS
 refine rP [0,2,3] 5 ?qa1 ?qp1 hS ?qn1
 case qp1=>
  iterate 3 (apply Yl.cons rfl rfl;focus (rintro wx ⟨x1,x2⟩;go_simp;all_goals (with_reducible rfl));try simp only [Act.put,sA,sB,sC])
  exact Yl.nil
 try simp only [Act.put,sA,sB,sC]
 refine rC 1 (fun v wx=>OwF wx (w.heap.size+1) v fs∧Below w1.heap.size w1 wx) rfl ((HCP.out w1.drew HB1.out.drew).mono fun e wx ⟨v,h1,h2,h3⟩=>⟨v,h1,h2.mono HSZ.out,((Below.refl w1.heap.size w1).drew).trans h3⟩) ?_
 rintro v2 w2 ⟨ho2,hb2⟩;refine ⟨HKS.out _ _ hS0 hb2, ?_⟩
 try simp only [Act.put,sA,sB,sC]
 have HB2:=bT HB1 hb2;have hS2:=HKS.out _ _ hS0 hb2;have HSZ2:=hide (show w.heap.size+1≤w2.heap.size from Nat.le_trans HSZ.out hb2.size)
 refine qa9 (i:=4) (R:=fun v wx=>∃ax cx,v=.agg #[.string (bs s),.slice ax l.length cx]∧OwE wx (w.heap.size+1) (.slice ax l.length cx) l∧Below w2.heap.size w2 wx) rfl (by kernel_rfl) (by rfl) (by go_simp) ((HCF.out w2 HB2.out).mono fun e wx ⟨v,h1,h2,h3⟩=>by
  obtain ⟨ax,cx,rfl⟩:=h2.form
  exact ⟨_,h1,ax,cx,rfl,h2.mono HSZ2.out,h3⟩) ?_
 rintro v3 w3 ⟨ax,cx,rfl,ho3,hb3⟩;refine ⟨HKS.out _ _ hS2 hb3, ?_⟩
 try simp only [Act.put,sA,sB,sC]
 have hS3:=HKS.out _ _ hS2 hb3;have HB3:=bT HB2 hb3;obtain ⟨ps,ap,cp,hps,hpsl,hv2,hop⟩:=(ho2.carry hb3).parts;subst hv2;have hins:=qy3 (w.heap.size+1) ap fs.length cp i ps s (.slice ax l.length cx) l w3 hop (by omega) (by have:=HN.out;omega) (Nat.le_trans HSZ2.out hb3.size) HP.out ho3;have HPS:=hide hps;have hb5:Below w3.heap.size w3 (w3.alloc (.cells #[.string (bs s),.slice ax l.length cx] 98)):=(Below.refl _ _).alloc (Nat.le_refl _) _;clear hop hps hpsl
 refine rR 5 (.slice (some ⟨w3.heap.size,0,none⟩) 1 1) (w3.alloc (.cells #[.string (bs s),.slice ax l.length cx] 98)) rfl (by go_simp) (HKS.out _ _ hS3 hb5) ?_
 try simp only [Act.put,sA,sB,sC]
 refine rC 6 (fun v wx=>OwF wx w.heap.size v (insF fs (s,l))∧Below (w.heap.size+1) w3 wx) rfl (hins.mono fun e wx ⟨v,h1,h2,h3⟩=>⟨v,h1,OwF.mono ⟨_,by rw [qaf5,HPS.out,HI.out];rfl,h2⟩ (by omega),h3⟩) ?_
 rintro v4 w4 ⟨ho4,hb4⟩;refine ⟨HKB.out _ _ hS3 hb4, ?_⟩;have hS4:=HKB.out _ _ hS3 hb4;have HB4:=hide (show Below w.heap.size w w4 from HB3.out.trans (hb4.mono (by omega)));have HO4:=hide ho4
 try simp only [Act.put,sA,sB,sC]
 refine rP [7] 0 ?qa2 ?qp2 hS4 ?qn2
 case qp2=>
  iterate 1 (apply Yl.cons rfl rfl;focus (rintro wx ⟨x1,x2⟩;go_simp;all_goals (with_reducible rfl));try simp only [Act.put,sA,sB,sC])
  exact Yl.nil
 try simp only [Act.put,sA,sB,sC]
 refine rD ?_
 clear ho4 hb4 hS4 hS3 hb5 hins ho3 hb3 ho2 hb2 hS2 hS hK hS0;go_wp2;go_ret;exact ⟨_,rfl,HO4.out,HB4.out⟩
theorem qcl {fs:List Fl} {B:Int} (h:chkF fs B=0):blkP B∧mayF fs B:=by
 unfold chkF at h
 split at h
 ·cases h
 ·rename_i h1
  split at h
  ·rename_i h2;exact ⟨Decidable.of_not_not h1,h2⟩
  ·cases h
theorem qfm {fs:List Fl} {B:Int} (h:mayF fs B):qcg fs:=h.2.1.2
theorem qut {fs:List Fl} {B:Int} (h:mayF fs B):∀f∈fs,1≤f.1.length∧f.1.length≤16∧1≤f.2.length∧f.2.length≤64:=fun f hf=>qdg (h.2.1.1 f hf)
theorem ql2 {fs:List Fl} {B:Int} (h:mayF fs B):∀f∈fs,f.2.length≤1000000:=fun f hf=>by have:=qut h f hf;omega
def qhf (fs:List Fl) (s:List UInt8):Int:=if qaw fs s=0 then (posF fs s:Nat) else 0
theorem qabw {fs:List Fl} {s:List UInt8} (h:qaw fs s=0):chkF fs 4096=0∧qbm s=true∧isF fs s=true:=by
 unfold qaw at h
 split at h
 ·rename_i h1;exact absurd h h1
 ·rename_i h1
  split at h
  ·cases h
  ·rename_i h2
   split at h
   ·rename_i h3;exact ⟨Decidable.of_not_not h1,by simpa using h2,h3⟩
   ·cases h
theorem qabx (a:Option Addr) (n c:Nat) (fs:List Fl) (s:List UInt8) (w:World) (hrd:RdF w (.slice a n c) fs) (hn:n=fs.length) (hwf:wfFs fs):
  Calls Tryz.prog 179 #[.agg #[.slice a n c],.string (bs s)] w fun e w'=>e=.returned (.tuple #[.int .i64 (qhf fs s),.int .i64 (qaw fs s)])∧Below w.heap.size w w':=by
 obtain ⟨W0,hW0⟩:∃W0,W0=w.alloc (.cells #[.slice a n c] 31):=⟨_,rfl⟩
 have hb0:Below w.heap.size w W0:=by rw [hW0];exact (Below.refl _ _).alloc (Nat.le_refl _) _
 have hblk:W0.heap[w.heap.size]? =some (.cells #[.slice a n c] 31 (0,0)):=by rw [hW0];exact heap_alloc_new w _
 have hchk:=qe9 a n c fs 4096 W0 (hrd.carry hb0) hn hwf;have hnm:=qe8 s;have HPL:=hide (fun w1 (hb1:Below w.heap.size w w1) (hr:qcg fs) (hl:n≤1000000)=>qig a n c fs s w1 (hrd.carry hb1) hn hr hl);have HN:=hide hn;have HB0:=hide hb0;have HBK:=hide hblk;clear hrd hn hwf hb0 hblk
 by_cases g1:chkF fs 4096=0
 ·have HM:=hide (qcl g1).2
  have HG1:=hide g1;rw [g1] at hchk;clear g1
  go_enter Tryz.func179,Tryz.ntmps179
  go_wp2_with fail
  rw [←hW0]
  refine hchk.mono ?_
  rintro e w1 ⟨rfl,hb1⟩;have HB1:=bT HB0 hb1;have HBK1:=hide ((hb1.block _ (Array.getElem?_eq_some_iff.1 HBK.out).1).trans HBK.out)
  have r0:w1.cell? ⟨w.heap.size,0,none⟩=some (.slice a n c):=by rw [cell_of_row w1 _ 0 _ _ (0,0) HBK1.out];rfl
  clear hb1 hchk hW0
  cases g2:qbm s with
  | false=>
   rw [g2] at hnm;have HE:=hide (show qaw fs s=50 by unfold qaw;rw [if_neg (by simp [HG1.out]),if_pos g2]);clear g2
   go_wp2_with (go_at_call 201;refine (hnm _).mono ?_;rintro e wc ⟨rfl,rfl⟩)
   go_ret2;exact ⟨by unfold qhf;rw [HE.out];rfl,HB1.out⟩
  | true=>
   rw [g2] at hnm
   go_wp2_with (first | (go_at_call 201;refine (hnm _).mono ?_;rintro e wc ⟨rfl,rfl⟩) | fail)
   refine (HPL.out wc HB1.out (qfm HM.out) (by have:=HM.out.1;have:=HN.out;omega)).mono ?_
   rintro e w2 ⟨rfl,hb2⟩;have HB2:=bT HB1 hb2;clear hb2
   cases g3:isF fs s with
   | false=>
    have HE:=hide (show qaw fs s=6 by unfold qaw;rw [if_neg (by simp [HG1.out]),if_neg (by simp [g2]),if_neg (by simp [g3])]);clear g2 g3;go_wp2;go_ret2;exact ⟨by unfold qhf;rw [HE.out];rfl,HB2.out⟩
   | true=>
    have HE:=hide (show qaw fs s=0 by unfold qaw;rw [if_neg (by simp [HG1.out]),if_neg (by simp [g2]),if_pos (by simp [g3])]);clear g2 g3;go_wp2;go_ret2;exact ⟨by unfold qhf;rw [HE.out];rfl,HB2.out⟩
 ·have HE:=hide (show qaw fs s=chkF fs 4096 by unfold qaw;rw [if_pos g1])
  have HI:=hide (show qhf fs s=0 by unfold qhf;rw [HE.out,if_neg g1]);obtain ⟨z,hz⟩:∃z,z=chkF fs 4096:=⟨_,rfl⟩;rw [←hz] at hchk HE g1
  have g1':(z==0)=false:=by simpa using g1
  clear hz
  go_enter Tryz.func179,Tryz.ntmps179
  go_wp2_with fail
  rw [←hW0]
  refine hchk.mono ?_
  rintro e w1 ⟨rfl,hb1⟩;have HB1:=bT HB0 hb1;clear hb1 hchk hW0;go_wp2
  all_goals (go_ret2;exact ⟨by rw [HI.out,HE.out];rfl,HB1.out⟩)
theorem qb8 {w w':World} {base:Nat} {e:TypeId} {size:Nat} {v:Value} {n:Nat} {xs:List Value} {q:Nat} {cs:Array Value} {t:TypeId} {fr:Nat × Nat} (h:w.ownsRow base e size v n xs) (hg:w.grownBy w' (some q)) (hq:w.heap[q]? =some (.cells cs t fr)) (ht:t≠e):w'.ownsRow base e size v n xs:=by
 refine World.ownsRow.kept h hg (.inr ?_);intro e0
 rcases h.2 with ⟨rfl,_⟩ | ⟨g,cap,cur,rfl,_,hgc,_⟩
 ·cases e0
 ·cases e0;rw [hq] at hgc;cases hgc;exact ht rfl
theorem OwF.keptS {w w':World} {base:Nat} {v:Value} {fs:List Fl} {q:Nat} {cs:Array Value} {t:TypeId} {fr:Nat × Nat} (h:OwF w base v fs) (hg:w.grownBy w' (some q)) (hq:w.heap[q]? =some (.cells cs t fr)) (h1:t≠98) (h2:t≠237):OwF w' base v fs:=by
 obtain ⟨ps,e,ho,hi⟩:=h;exact ⟨ps,e,qb8 ho hg hq h1,fun p hp=>qb8 (hi p hp) hg hq h2⟩
def BlkD (w:World) (q:Nat):Prop:=∃y,w.heap[q]? =some (.cells #[y] 31 (0,0))
theorem BlkD.carry {w w':World} {q:Nat} (h:BlkD w q) (hb:Below w.heap.size w w'):BlkD w' q:=by
 obtain ⟨y,h⟩:=h;exact ⟨y,(hb.block q (Array.getElem?_eq_some_iff.1 h).1).trans h⟩
theorem BlkD.cell {w:World} {q:Nat} (h:BlkD w q):w.cell? ⟨q,0,none⟩=some (vAt w ⟨q,0,none⟩):=by obtain ⟨y,h⟩:=h;unfold vAt;rw [cell_of_row w q 0 _ _ (0,0) h];rfl
theorem BlkD.fz {w:World} {q:Nat} (h:BlkD w q):w.frozen? ⟨q,0,none⟩=false:=by obtain ⟨y,h⟩:=h;exact frozen_of_row w q 0 _ _ h
theorem BlkD.put {w:World} {q:Nat} (h:BlkD w q) (u:Value):(w.setCell ⟨q,0,none⟩ u).cell? ⟨q,0,none⟩=some u∧w.grownBy (w.setCell ⟨q,0,none⟩ u) (some q)∧BlkD (w.setCell ⟨q,0,none⟩ u) q:=by
 obtain ⟨y,h⟩:=h
 have a1:(w.setCell ⟨q,0,none⟩ u).heap[q]? =some (.cells #[u] 31 (0,0)):=by have:=heap_setCell_same w q 0 #[y] 31 u h;rw [this];rfl
 exact ⟨by rw [cell_of_row _ q 0 _ _ (0,0) a1];rfl,qai w ⟨q,0,none⟩ u,u,a1⟩
theorem BlkD.new (w:World) (y:Value):BlkD (w.alloc (.cells #[y] 31)) w.heap.size:=⟨y,heap_alloc_new w _⟩
theorem qw3 (a:Option Addr) (n c:Nat) (fs:List Fl) (s:List UInt8) (w:World) (hrd:RdF w (.slice a n c) fs) (hn:n=fs.length) (hwf:wfFs fs):
  Calls Tryz.prog 101 #[.agg #[.slice a n c],.string (bs s)] w fun e w'=>∃v,e=.returned (.tuple #[.agg #[.string (bs (qdq fs s).1),v],.int .i64 (qaw fs s)])∧OwE w' w.heap.size v (qdq fs s).2∧Below w.heap.size w w':=by
 obtain ⟨W0,hW0⟩:∃W0,W0=(w.alloc (.cells #[.slice a n c] 31)).alloc (.cells #[.string {data:=#[]},.slice none 0 0] 98):=⟨_,rfl⟩;have hb1:Below w.heap.size w (w.alloc (.cells #[.slice a n c] 31)):=(Below.refl _ _).alloc (Nat.le_refl _) _
 have hb0:Below w.heap.size w W0:=by rw [hW0];exact hb1.alloc (by simp) _
 have hbk0:W0.heap[w.heap.size]? =some (.cells #[.slice a n c] 31 (0,0)):=by
  rw [hW0,←heap_alloc_new w (.cells #[.slice a n c] 31)];exact ((Below.refl (w.alloc (.cells #[.slice a n c] 31)).heap.size _).alloc (Nat.le_refl _) _).block _ (by simp)
 have hbk1:W0.heap[w.heap.size+1]? =some (.cells #[.string {data:=#[]},.slice none 0 0] 98 (0,0)):=by
  have:=heap_alloc_new (w.alloc (.cells #[.slice a n c] 31)) (.cells #[.string {data:=#[]},.slice none 0 0] 98)
  rw [hW0];simpa using this
 have hth:=qabx a n c fs s W0 (hrd.carry hb0) hn hwf;have HR:=hide hrd;have HN:=hide hn;have HB0:=hide hb0;have HK0:=hide hbk0;have HK1:=hide hbk1;clear hrd hn hwf hb0 hbk0 hbk1 hb1
 by_cases g1:qaw fs s=0
 ·obtain ⟨g2,g3,g4⟩:=qabw g1
  have HM:=hide (qcl g2).2
  obtain ⟨i,hi,hp,hp1,hV,hL⟩:∃i,posF fs s=i∧∃hp:i<fs.length,(fs[i]).1=s∧qdq fs s=(s,(fs[i]).2)∧(fs[i]).2.length≤1000000:=by
   obtain ⟨hp,hp1,hp2⟩:=qv5 (qfm HM.out) g4;exact ⟨_,rfl,hp,hp1,by unfold qdq;rw [if_pos g1,hp2],ql2 HM.out _ (List.getElem_mem hp)⟩
  have HV:=hide hV;have HL:=hide hL;have HG:=hide g1;rw [show qhf fs s=(posF fs s:Nat) by unfold qhf;rw [if_pos g1],g1,hi] at hth;clear hV hL
  have hin:i<n:=by have:=HN.out;omega
  have hin':(i:Int)<n:=by omega
  clear hi g1 g2 g3 g4;have HP1:=hide hp1;clear hp1
  go_enter Tryz.func101,Tryz.ntmps101
  go_wp2_with fail
  rw [←hW0]
  refine hth.mono ?_
  rintro e w1 ⟨rfl,hb1⟩;have HB1:=bT HB0 hb1;have HBK1:=hide ((hb1.block _ (Array.getElem?_eq_some_iff.1 HK0.out).1).trans HK0.out);have HBK2:=hide ((hb1.block _ (Array.getElem?_eq_some_iff.1 HK1.out).1).trans HK1.out)
  have r0:w1.cell? ⟨w.heap.size,0,none⟩=some (.slice a n c):=by rw [cell_of_row w1 _ 0 _ _ (0,0) HBK1.out];rfl
  obtain ⟨b,off,a2,c2,rfl,q0,q1,q2⟩:=HR.out.atB HB1.out i hp;have HQ:=hide q2;obtain ⟨l,hl⟩:∃l,l=(fs[i]).2:=⟨_,rfl⟩;rw [HP1.out] at q0;rw [←hl] at q1 HQ HV HL;obtain ⟨m,hm⟩:∃m,m=l.length:=⟨_,rfl⟩;have HQ2:=hide (show RdE w (.slice a2 m c2) l by rw [hm];exact HQ.out);rw [←hm] at q1;have HM2:=hide hm;clear hb1 hth hW0 hm hl q2 HQ
  go_wp2_with fail
  refine (qjj s a2 m c2 l _ (HQ2.out.carry HB1.out) HM2.out HL.out).mono ?_
  rintro e w2 ⟨v2,rfl,ho2,hb2⟩;obtain ⟨ax,cx,hxf⟩:=ho2.form;subst hxf;have HB2:=bT HB1 hb2;have HTW:=hide (show w2.heap[w.heap.size+1]? =some (.cells #[.string {data:=#[]},.slice none 0 0] 98 (0,0)) from (hb2.block _ (Array.getElem?_eq_some_iff.1 HBK2.out).1).trans HBK2.out);have HO2:=hide (ho2.mono HB1.out.size)
  have e0:w2.cell? ⟨w.heap.size+1,0,none⟩=some (.string {data:=#[]}):=by rw [cell_of_row w2 _ 0 _ _ (0,0) HTW.out];rfl
  have e1:w2.cell? ⟨w.heap.size+1,1,none⟩=some (.slice none 0 0):=by rw [cell_of_row w2 _ 1 _ _ (0,0) HTW.out];rfl
  have f0:=frozen_of_row w2 (w.heap.size+1) 0 _ _ HTW.out;have f1:=frozen_of_row w2 (w.heap.size+1) 1 _ _ HTW.out;have hg:=qbw (w:=w2) (q:=w.heap.size+1) (.string (bs s)) (.slice ax l.length cx)
  have hh:((w2.setCell ⟨w.heap.size+1,0,none⟩ (.string (bs s))).setCell ⟨w.heap.size+1,1,none⟩ (.slice ax l.length cx)).heap[w.heap.size+1]? =some (.cells #[.string (bs s),.slice ax l.length cx] 98 (0,0)):=by
   have a1:=heap_setCell_same w2 (w.heap.size+1) 0 _ 98 (.string (bs s)) HTW.out;have a2:=heap_setCell_same (w2.setCell ⟨w.heap.size+1,0,none⟩ (.string (bs s))) (w.heap.size+1) 1 _ 98 (.slice ax l.length cx) a1
   rw [a2];rfl
  clear ho2 hb2 q0 q1 r0;go_wp2;obtain ⟨w9,hw9⟩:∃w9,w9=(w2.setCell ⟨w.heap.size+1,0,none⟩ (.string (bs s))).setCell ⟨w.heap.size+1,1,none⟩ (.slice ax l.length cx):=⟨_,rfl⟩;rw [←hw9] at hg hh ⊢
  have z0:w9.cell? ⟨w.heap.size+1,0,none⟩=some (.string (bs s)):=by rw [cell_of_row w9 _ 0 _ _ (0,0) hh];rfl
  have z1:w9.cell? ⟨w.heap.size+1,1,none⟩=some (.slice ax l.length cx):=by rw [cell_of_row w9 _ 1 _ _ (0,0) hh];rfl
  refine bodyPost_ret (v:=.tuple #[.agg #[.string (bs s),.slice ax l.length cx],.int .i64 0]) ?_ rfl ⟨.slice ax l.length cx,by rw [HV.out,HG.out],by rw [HV.out];exact World.ownsRow.kept HO2.out hg (.inr (HO2.out.apartF HTW.out)),HB2.out.grown hg HB2.out.size (by intro k hk;cases hk;omega)⟩
  clear hh hg hw9 e0 e1
  simp [results,Tryz.results101,go_sem, *]
 ·have HV:=hide (show qdq fs s=([],[]) by unfold qdq;rw [if_neg g1])
  rw [show qhf fs s=0 by unfold qhf;rw [if_neg g1]] at hth;obtain ⟨z,hz⟩:∃z,z=qaw fs s:=⟨_,rfl⟩;rw [←hz] at hth g1 ⊢
  have g1':(z==0)=false:=by simpa using g1
  clear hz
  go_enter Tryz.func101,Tryz.ntmps101
  go_wp2_with fail
  rw [←hW0]
  refine hth.mono ?_
  rintro e w1 ⟨rfl,hb1⟩;have HB1:=bT HB0 hb1;have HTW:=hide ((hb1.block _ (Array.getElem?_eq_some_iff.1 HK1.out).1).trans HK1.out)
  have e0:w1.cell? ⟨w.heap.size+1,0,none⟩=some (.string {data:=#[]}):=by rw [cell_of_row w1 _ 0 _ _ (0,0) HTW.out];rfl
  have e1:w1.cell? ⟨w.heap.size+1,1,none⟩=some (.slice none 0 0):=by rw [cell_of_row w1 _ 1 _ _ (0,0) HTW.out];rfl
  have f0:=frozen_of_row w1 (w.heap.size+1) 0 _ _ HTW.out;have f1:=frozen_of_row w1 (w.heap.size+1) 1 _ _ HTW.out;have hg:=qbw (w:=w1) (q:=w.heap.size+1) (.string {data:=#[]}) (.slice none 0 0)
  have hh:((w1.setCell ⟨w.heap.size+1,0,none⟩ (.string {data:=#[]})).setCell ⟨w.heap.size+1,1,none⟩ (.slice none 0 0)).heap[w.heap.size+1]? =some (.cells #[.string {data:=#[]},.slice none 0 0] 98 (0,0)):=by
   have a1:=heap_setCell_same w1 (w.heap.size+1) 0 _ 98 (.string {data:=#[]}) HTW.out;have a2:=heap_setCell_same (w1.setCell ⟨w.heap.size+1,0,none⟩ (.string {data:=#[]})) (w.heap.size+1) 1 _ 98 (.slice none 0 0) a1
   rw [a2];rfl
  clear hb1 hth hW0;go_wp2
  all_goals (
   obtain ⟨w9,hw9⟩:∃w9,w9=(w1.setCell ⟨w.heap.size+1,0,none⟩ (.string {data:=#[]})).setCell ⟨w.heap.size+1,1,none⟩ (.slice none 0 0):=⟨_,rfl⟩;rw [←hw9] at hg hh ⊢
   have z0:w9.cell? ⟨w.heap.size+1,0,none⟩=some (.string {data:=#[]}):=by rw [cell_of_row w9 _ 0 _ _ (0,0) hh];rfl
   have z1:w9.cell? ⟨w.heap.size+1,1,none⟩=some (.slice none 0 0):=by rw [cell_of_row w9 _ 1 _ _ (0,0) hh];rfl
   refine bodyPost_ret (v:=.tuple #[.agg #[.string {data:=#[]},.slice none 0 0],.int .i64 z]) ?_ rfl ⟨.slice none 0 0,by rw [HV.out];rfl,by rw [HV.out];exact OwE.nil _ _,HB1.out.grown hg HB1.out.size (by intro k hk;cases hk;omega)⟩
   clear hh hg hw9 e0 e1
   simp [results,Tryz.results101,go_sem, *])
end Go.Proofs.YtmeaiocohalphaaGreatDoor
