/-
  The library's Insert of one file.
-/
import Derived.Test.YtmeaiocohalphaaGreatDoorFiIns
set_option maxHeartbeats 2000000
set_option maxRecDepth 100000
namespace Go.Proofs.YtmeaiocohalphaaGreatDoor
open Go.RowKit
set_option linter.unusedVariables false
set_option linter.unusedSimpArgs false
def insP (ps:List (Fl × Value)) (i:Nat) (q:Fl × Value):List (Fl × Value):=ps.take i++[q]++ps.drop i
theorem qxa (ps:List (Fl × Value)) (i:Nat) (q:Fl × Value) (hi:i≤ps.length):(insP ps i q).length=ps.length+1:=by
 simp only [insP,List.length_append,List.length_take,List.length_drop,List.length_cons,List.length_nil];omega
theorem qaf9 (ps:List (Fl × Value)) (i:Nat) (q:Fl × Value):(insP ps i q).map Prod.fst=(ps.map Prod.fst).take i++q.1::(ps.map Prod.fst).drop i:=by
 simp [insP,List.map_take,List.map_drop]
theorem qxb {ps:List (Fl × Value)} {i:Nat} {q p:Fl × Value} (h:p∈insP ps i q):p∈ps∨p=q:=by
 unfold insP at h
 rcases List.mem_append.1 h with h | h
 ·rcases List.mem_append.1 h with h | h
  ·exact .inl (List.mem_of_mem_take h)
  ·exact .inr (by simpa using h)
 ·exact .inl (List.mem_of_mem_drop h)
theorem qoi (ps:List (Fl × Value)) (i:Nat) (q:Fl × Value):qai (insP ps i q)=qai (ps.take i)++[.string (bs q.1.1),q.2]++qai (ps.drop i):=by
 simp [insP,qcx,qai]
def InsV (base:Nat) (ps:List (Fl × Value)) (i:Nat) (q:Fl × Value) (w:World) (e:Ending) (w':World):Prop:=
 ∃v',e=.returned v'∧OwP w' base v' (insP ps i q)∧Below base w w'
theorem qy8 (base:Nat) (a:Option Addr) (n c:Nat) (ps:List (Fl × Value)) (s:List UInt8) (x:Value) (l:List Ex) (w:World) (hown:OwP w base (.slice a n c) ps) (hn:n=ps.length) (hl:n≤1000) (hb:base≤w.heap.size) (hx:OwE w base x l):
  Calls Tryz.prog 253 #[.slice a n c,.int .i64 n,.slice (some ⟨w.heap.size,0,none⟩) 1 1] (w.alloc (.cells #[.string (bs s),x] 98)) (InsV base ps n ((s,l),x) w):=by
 obtain ⟨g,cc,w9,hrun,ho9,hb9⟩:=qw5 hown hb (by omega) s x l hx
 have hnc:n≤c:=by
  rcases hown.1.2 with ⟨e,h0⟩ | ⟨g,cap,cur,e,_,_,h1,_⟩
  ·cases e;omega
  ·cases e;omega
 have HO:=hide (show OwP w9 base (.slice (some ⟨g,0,none⟩) (ps.length+1) cc) (insP ps n ((s,l),x)) by
  have e:insP ps n ((s,l),x)=ps++[((s,l),x)]:=by
   unfold insP;rw [List.take_of_length_le (by omega),List.drop_of_length_le (by omega),List.append_nil]
  rw [e];exact ho9)
 clear ho9 hown
 have hnc':(n:Int)≤c:=by omega
 have hcm:c=n∨¬c=n:=by omega
 go_enter Tryz.func253,Tryz.ntmps253
 rcases hcm with hcm | hcm
 ·subst hcm
  go_wp2_with (at_builtin;refine qah rfl (.tmp 23) (.tmp 24) 29 rfl rfl rfl rfl hrun ?_)
  go_ret;exact ⟨_,rfl,HO.out,hb9⟩
 ·go_wp2_with (at_builtin;refine qah rfl (.tmp 23) (.tmp 24) 29 rfl rfl rfl rfl hrun ?_)
  all_goals (go_ret;exact ⟨_,rfl,HO.out,hb9⟩)
theorem qr2 (base g n c i:Nat) (ps:List (Fl × Value)) (s:List UInt8) (x:Value) (l:List Ex) (w:World) (hown:OwP w base (.slice (some ⟨g,0,none⟩) n c) ps) (hn:n=ps.length) (hl:n≤1000) (hb:base≤w.heap.size) (hi:i<n) (hroom:n+1≤c) (hx:OwE w base x l):
  Calls Tryz.prog 253 #[.slice (some ⟨g,0,none⟩) n c,.int .i64 i,.slice (some ⟨w.heap.size,0,none⟩) 1 1] (w.alloc (.cells #[.string (bs s),x] 98)) (InsV base ps i ((s,l),x) w):=by
 obtain ⟨W,hW⟩:∃W,W=w.alloc (.cells #[.string (bs s),x] 98):=⟨_,rfl⟩
 have hbW:Below w.heap.size w W:=by rw [hW];exact (Below.refl _ _).alloc (Nat.le_refl _) _
 have hblk:W.heap[w.heap.size]? =some (.cells #[.string (bs s),x] 98 (0,0)):=by rw [hW];exact heap_alloc_new w _
 rw [←hW];clear hW;have hoW:=hown.carry hbW;have hxW:=hx.carry hbW;obtain ⟨cur, -,hbg,hg,hnc,hcm,hsz,htake⟩:=hoW.block
 have hgw:g<w.heap.size:=by
  obtain ⟨cur',_,_,hg',_⟩:=hown.block;exact (Array.getElem?_eq_some_iff.1 hg').1
 have hne:w.heap.size≠g:=by omega
 unfold maxLen at hcm;obtain ⟨i0,hi0,hz0,hz1,hz2⟩:=info_parts Tryz.infoFl
 have hov:∀lb cb,(callFunc 274 #[.slice (some ⟨w.heap.size,0,none⟩) 1 1,.slice (some ⟨g,(i+1)*2,none⟩) lb cb]).run Tryz.prog W=.ok (.value (.bool false)) W:=fun lb cb=>by
  rw [run_callFunc_extern Tryz.func274 (by kernel_rfl) (by kernel_rfl) (by kernel_rfl) (e:=Extern.SlicesOverlaps.overlaps #[29,29] #[4]) (by kernel_rfl),
   Lib.run_overlaps_apart W 29 4 98 Tryz.underlying29 2 (by intro w;simp [sizeOf,typeInfo,hi0,hz1]) ⟨w.heap.size,0,none⟩ ⟨g,(i+1)*2,none⟩ 1 1 lb cb hne 98 98 2 cur.size (by simp [World.shape?,hblk]) (by simp [World.shape?,hg]) (by rw [hsz];omega) (frozen_of_row W _ 0 _ _ hblk) (frozen_of_row W _ 2 _ _ hblk)]
  rfl
 have hcl:cur.toList.length=c*2:=by simpa using hsz
 have hpd:(qai (ps.drop i)).length=(n - i)*2:=by rw [qbn,List.length_drop,←hn]
 have hsrc1:∀j v,(qai (ps.drop i))[j]? =some v→W.drew.cell? ((⟨g,i*2,none⟩:Addr).add j)=some v:=by
  intro j v hj
  have h1:(qai ps)[i*2+j]? =some v:=by rw [←hj,←qlk ps i (by omega),List.getElem?_drop]
  have:=hoW.1.cells (g:=g) rfl _ _ h1
  rw [Addr.add_lit] at this ⊢
  simpa using this
 have hone:∀v∈qai (ps.drop i),v.oneCell'=true:=qoe (fun p hp=>hoW.2 p (List.mem_of_mem_drop hp))
 have hcp1:=fun ty=>qh7 W.drew ty g ((i+1)*2) (n - i) (c - (i+1)) ⟨g,i*2,none⟩ (n+1 - i) (c - i) cur (qai (ps.drop i)) hg (by rw [hpd];congr 1;show _=min _ _;omega) hsrc1 (by rw [hpd,hsz];omega) hone
 obtain ⟨R1,hR1⟩:∃R1,R1=cur.toList.take ((i+1)*2)++qai (ps.drop i)++cur.toList.drop ((i+1)*2+(qai (ps.drop i)).length):=⟨_,rfl⟩;rw [←hR1] at hcp1
 have hR1l:R1.length=c*2:=by rw [hR1];have:=qp3 cur.toList (qai (ps.drop i)) ((i+1)*2) (by rw [hpd,hcl];omega);rw [this,hcl]
 obtain ⟨W1,hW1⟩:∃W1,W1=W.drew.setRow g R1.toArray:=⟨_,rfl⟩
 have hg1:W1.heap[g]? =some (.cells R1.toArray 98 (0,0)):=by rw [hW1];exact setRow_heap W.drew g cur _ 98 _ hg
 have hblk1:W1.heap[w.heap.size]? =some (.cells #[.string (bs s),x] 98 (0,0)):=by rw [hW1];exact (setRow_other W.drew g _ _ hne).trans hblk
 have hcp2:=fun ty=>qh7 W1 ty g (i*2) (n+1 - i) (c - i) ⟨w.heap.size,0,none⟩ 1 1 R1.toArray [.string (bs s),x] hg1 (by
  have:Nat.min 1 (n+1 - i)=1:=by show min _ _=1;omega
  rw [this];rfl) (by
  intro j v hj
  have:=World.news_of_block (w:=W1) hblk1 j v (by simpa using hj)
  simpa using this) (by simp;omega) (by
  intro v hv
  simp at hv
  rcases hv with rfl | rfl
  ·rfl
  ·exact hx.ownForm)
 rw [show (R1.toArray.toList)=R1 by simp] at hcp2;obtain ⟨R2,hR2⟩:∃R2,R2=R1.take (i*2)++[Value.string (bs s),x]++R1.drop (i*2+[Value.string (bs s),x].length):=⟨_,rfl⟩;rw [←hR2] at hcp2
 have hW2:W1.setRow g R2.toArray=W.drew.setRow g R2.toArray:=by rw [hW1,setRow_setRow]
 rw [hW2] at hcp2;have HLA:=hide (show OwP W.drew base (.slice (some ⟨g,0,none⟩) n c) ps from hoW)
 have HL2:=hide (HLA.out.laid (m:=n+1) (qs:=insP ps i ((s,l),x)) R2 (by rw [hR2,qp3 R1 _ _ (by simp;omega),hR1l]) (by rw [qxa _ _ _ (by omega)];omega) hroom (by
  rw [qoi,hR2,hR1]
  have e:=qaf8 cur.toList (qai (ps.take i)) [.string (bs s),x] (qai (ps.drop i)) (i*2) (by
   rw [←qg8 ps i (by omega),←htake,List.take_take,Nat.min_eq_left (by omega)]) (by rw [qbn,List.length_take];omega) (by rw [hpd,hcl];simp;omega)
  have e3:i*2+[Value.string (bs s),x].length=(i+1)*2:=by simp;omega
  rw [e3,hpd] at e;rw [e3,hpd,show (n+1)*2=(i+1)*2+(n - i)*2 by omega]
  exact e) (fun q hq=>by
   rcases qxb hq with hq | rfl
   ·exact HLA.out.2 q hq
   ·exact hxW))
 have HBB:=hide (show Below base w (W.drew.setRow g R2.toArray) from ((hbW.mono hb).drew).grown HL2.out.2 (Nat.le_trans hb hbW.size) (by intro k hk;cases hk;exact hbg));obtain ⟨W9,hW9⟩:∃W9,W9=W.drew.setRow g R2.toArray:=⟨_,rfl⟩;rw [←hW9] at hcp2 HL2 HBB
 have hcp1':∀ty,(Builtin.copy_ #[29,29] ty #[.slice (some ⟨g,(i+1)*2,none⟩) (n - i) (c - (i+1)),.slice (some ⟨g,i*2,none⟩) (n+1 - i) (c - i)]).run Tryz.prog W.drew=.ok (goInt (Nat.min (n+1 - i) (n - i))) W1:=by rw [hW1];exact hcp1
 clear hW9 hW2 hR2 hR1 hW1 hg1 hblk1 hR1l hcp1 hone hsrc1 hpd hcl hsz htake hg hblk hoW hxW HLA hx hown hn
 have hw1:IntKind.i64.wrap ((i:Int)+1)=(i:Int)+1:=by rw [IntKind.wrap_i64];omega
 have hb2:¬(c=i+1):=by omega
 have hb3:(i:Int)≤(n:Int)+1:=by omega
 have hb4:¬(c=i):=by omega
 have hz2':¬((i:Int)=(n:Int)):=by omega
 have hroom':¬((c:Int)<(n:Int)+1):=by omega
 have hin':(i:Int)≤n:=by omega
 have hin2:i≤n:=by omega
 have hb5:(0:Int)≤(i:Int)+1:=by omega
 go_enter Tryz.func253,Tryz.ntmps253
 go_wp2_with (simp only [hov])
 refine qas (S:=fun _=>True) qnv (by kernel_rfl) trivial ?_
 intro hS
 refine qae [0,1,2,3,4,5,6,7] (fuel:=1) (a':=?qa1) (by kernel_rfl) (by kernel_rfl) (by kernel_rfl) ?qp1 hS ?qn1
 case qp1=>
  iterate 8 (apply Yl.cons rfl rfl;focus (rintro wx _;go_simp;all_goals (with_reducible rfl));try simp only [Act.put,List.setIfInBounds_toArray,List.set_cons_zero,List.set_cons_succ])
  exact Yl.nil
 try simp only [Act.put,List.setIfInBounds_toArray,List.set_cons_zero,List.set_cons_succ]
 refine qg4 (i:=8) (v:=goInt (Nat.min (n+1 - i) (n - i))) (w':=W1) rfl (by kernel_rfl) (by rfl) (qw9 (v:=.slice (some ⟨g,(i+1)*2,none⟩) (n - i) (c - (i+1))) (s:=.tmp 73) (x:=.tmp 76) (t:=29) (y:=.slice (some ⟨g,i*2,none⟩) (n+1 - i) (c - i)) rfl (by kernel_rfl) (by kernel_rfl) (hcp1' _)) trivial ?_
 try simp only [Act.put,List.setIfInBounds_toArray,List.set_cons_zero,List.set_cons_succ]
 refine wpAnyH_done (by kernel_rfl) ?_ _
 refine NoPanic.normal ?_
 go_wp2_with (at_builtin;refine qgw rfl (.tmp 80) (.tmp 81) 29 rfl rfl rfl (hcp2 _) ?_)
 go_ret;exact ⟨_,rfl,HL2.out.1,HBB.out⟩
theorem qt1 (base g n c i:Nat) (ps:List (Fl × Value)) (s:List UInt8) (x:Value) (l:List Ex) (w:World) (hown:OwP w base (.slice (some ⟨g,0,none⟩) n c) ps) (hn:n=ps.length) (hl:n≤1000) (hb:base≤w.heap.size) (hi:i<n) (hroom:c<n+1) (hx:OwE w base x l):
  Calls Tryz.prog 253 #[.slice (some ⟨g,0,none⟩) n c,.int .i64 i,.slice (some ⟨w.heap.size,0,none⟩) 1 1] (w.alloc (.cells #[.string (bs s),x] 98)) (InsV base ps i ((s,l),x) w):=by
 obtain ⟨W,hW⟩:∃W,W=w.alloc (.cells #[.string (bs s),x] 98):=⟨_,rfl⟩
 have hbW:Below w.heap.size w W:=by rw [hW];exact (Below.refl _ _).alloc (Nat.le_refl _) _
 have hblk:W.heap[w.heap.size]? =some (.cells #[.string (bs s),x] 98 (0,0)):=by rw [hW];exact heap_alloc_new w _
 rw [←hW];clear hW;have hoW:=hown.carry hbW;have hxW:=hx.carry hbW;obtain ⟨cur, -,hbg,hg,hnc,hcm,hsz,htake⟩:=hoW.block;have hgW:g<W.heap.size:=(Array.getElem?_eq_some_iff.1 hg).1;have hvW:w.heap.size<W.heap.size:=(Array.getElem?_eq_some_iff.1 hblk).1;unfold maxLen at hcm;obtain ⟨i0,hi0,hz0,hz1,hz2⟩:=info_parts Tryz.infoFl
 have hpt:(qai (ps.take i)).length=i*2:=by rw [qbn,List.length_take];omega
 have hpd:(qai (ps.drop i)).length=(n - i)*2:=by rw [qbn,List.length_drop,←hn]
 have hold:(Builtin.firstCells i0.size i (.slice (some ⟨g,0,none⟩) i c)).run Tryz.prog W.drew=.ok (qai (ps.take i)).toArray W.drew:=by
  rw [hz1]
  exact run_firstCells_some W.drew 2 i ⟨g,0,none⟩ i c (qai (ps.take i)) hpt (fun j v hj=>by
   have h1:(qai ps)[j]? =some v:=by
    rw [←qg8 ps i (by omega),List.getElem?_take] at hj
    split at hj
    ·exact hj
    ·cases hj
   exact hoW.1.cells (g:=g) rfl _ _ h1)
 have hrz:=fun ty=>Lib.run_append_grow_zeros (P:=Tryz.prog) W 29 3 ty 98 i0 _ .i64 .i64 Tryz.underlying29 Tryz.underlying3 hi0 hz0 (some ⟨g,0,none⟩) i c (qai (ps.take i)) hold (n+1 - i) (by omega) (by omega) (by omega) (by omega) (by rw [hz2];omega) (by rw [hz2];exact growslice_fits (by omega) (by omega))
 rw [show i+(n+1 - i)=n+1 by omega] at hrz;obtain ⟨G,hG⟩:∃G,G=grownCap W (n+1) c 98:=⟨_,rfl⟩
 have hGn:n+1≤G:=by rw [hG];exact grownCap_ge W _ _ _
 have hGm:G≤maxLen:=by rw [hG];exact grownCap_le_maxLen W _ _ _ (by unfold maxLen;omega)
 rw [←hG] at hrz;obtain ⟨ROW,hROW⟩:∃ROW:Array Value,ROW=(qai (ps.take i)).toArray++Builtin.zeroCells (Value.cells (.agg #[.string ByteArray.empty,.slice none 0 0])) (n+1 - i)++Builtin.zeroCells (Value.cells (.agg #[.string ByteArray.empty,.slice none 0 0])) (G - (n+1)):=⟨_,rfl⟩;rw [←hROW] at hrz
 have hRs:ROW.size=G*2:=by
  have e0:Value.cells (.agg #[.string ByteArray.empty,.slice none 0 0])=#[.string ByteArray.empty,.slice none 0 0]:=rfl;rw [hROW,e0]
  simp only [Array.size_append,List.size_toArray,hpt,Builtin.zeroCells,Array.size_map,Array.size_range,List.length_map,List.length_range,List.length_cons,List.length_nil]
  omega
 have hRt:ROW.toList.take (i*2)=qai (ps.take i):=by
  rw [hROW,Array.append_assoc,Array.toList_append,List.take_append_of_le_length (by rw [hpt];exact Nat.le_refl _),List.take_of_length_le (by rw [hpt];exact Nat.le_refl _)]
 have hRl:ROW.toList.length=G*2:=by simpa using hRs
 obtain ⟨W1,hW1⟩:∃W1,W1=W.drew.alloc (.cells ROW 98):=⟨_,rfl⟩;rw [←hW1] at hrz
 have hg1:W1.heap[W.heap.size]? =some (.cells ROW 98 (0,0)):=by rw [hW1];exact heap_alloc_new W.drew _
 have hb1:Below W.heap.size W W1:=by rw [hW1];exact (Below.refl W.heap.size W).drew.alloc (Nat.le_refl _) _
 have hblk1:W1.heap[w.heap.size]? =some (.cells #[.string (bs s),x] 98 (0,0)):=(hb1.block _ hvW).trans hblk
 have hcp2:=fun ty=>qh7 W1 ty W.heap.size (i*2) (n+1 - i) (G - i) ⟨w.heap.size,0,none⟩ 1 1 ROW [.string (bs s),x] hg1 (by
  have:Nat.min 1 (n+1 - i)=1:=by show min _ _=1;omega
  rw [this];rfl) (by
  intro j v hj
  have:=World.news_of_block (w:=W1) hblk1 j v (by simpa using hj)
  simpa using this) (by simp;omega) (by
  intro v hv
  simp at hv
  rcases hv with rfl | rfl
  ·rfl
  ·exact hx.ownForm)
 obtain ⟨R1,hR1⟩:∃R1,R1=ROW.toList.take (i*2)++[Value.string (bs s),x]++ROW.toList.drop (i*2+[Value.string (bs s),x].length):=⟨_,rfl⟩;rw [←hR1] at hcp2
 have hR1l:R1.length=G*2:=by rw [hR1,qp3 ROW.toList _ _ (by rw [hRl];simp;omega),hRl]
 obtain ⟨W2,hW2⟩:∃W2,W2=W1.setRow W.heap.size R1.toArray:=⟨_,rfl⟩
 have hg2:W2.heap[W.heap.size]? =some (.cells R1.toArray 98 (0,0)):=by rw [hW2];exact setRow_heap W1 _ ROW _ 98 _ hg1
 have hgg2:W2.heap[g]? =some (.cells cur 98 (0,0)):=by rw [hW2];exact (setRow_other W1 _ g _ (by omega)).trans ((hb1.block g hgW).trans hg)
 rw [←hW2] at hcp2
 have hsrc1:∀j v,(qai (ps.drop i))[j]? =some v→W2.drew.cell? ((⟨g,i*2,none⟩:Addr).add j)=some v:=by
  intro j v hj
  have h1:(qai ps)[i*2+j]? =some v:=by rw [←hj,←qlk ps i (by omega),List.getElem?_drop]
  rw [Addr.add_lit]
  show W2.cell? _=_
  rw [cell_of_row W2 g _ _ _ (0,0) hgg2];rw [←htake,List.getElem?_take] at h1
  split at h1
  ·simpa using h1
  ·cases h1
 have hone:∀v∈qai (ps.drop i),v.oneCell'=true:=qoe (fun p hp=>hoW.2 p (List.mem_of_mem_drop hp))
 have hcp1:=fun ty=>qh7 W2.drew ty W.heap.size ((i+1)*2) (n - i) (G - (i+1)) ⟨g,i*2,none⟩ (n - i) (c - i) R1.toArray (qai (ps.drop i)) hg2 (by rw [hpd];congr 1;show _=min _ _;omega) hsrc1 (by rw [hpd];simp;omega) hone
 rw [show (R1.toArray.toList)=R1 by simp] at hcp1;obtain ⟨R2,hR2⟩:∃R2,R2=R1.take ((i+1)*2)++qai (ps.drop i)++R1.drop ((i+1)*2+(qai (ps.drop i)).length):=⟨_,rfl⟩;rw [←hR2] at hcp1
 have hW3:W2.drew.setRow W.heap.size R2.toArray=W1.drew.setRow W.heap.size R2.toArray:=by
  have:W2.drew=W1.drew.setRow W.heap.size R1.toArray:=by rw [hW2];rfl
  rw [this,setRow_setRow]
 rw [hW3] at hcp1;have HLA:=hide (show OwP W1.drew base (.slice (some ⟨W.heap.size,0,none⟩) 0 G) [] from ⟨⟨rfl,.inr ⟨W.heap.size,G,ROW,rfl,Nat.le_trans hb hbW.size,hg1,Nat.zero_le _,hGm,hRs,by simp [qai]⟩⟩,by simp⟩)
 have HL2:=hide (HLA.out.laid (m:=n+1) (qs:=insP ps i ((s,l),x)) R2 (by rw [hR2,qp3 R1 _ _ (by rw [hpd];omega),hR1l]) (by rw [qxa _ _ _ (by omega)];omega) hGn (by
  rw [qoi,hR2,hR1];have e:=qaj7 ROW.toList (qai (ps.take i)) [.string (bs s),x] (qai (ps.drop i)) (i*2) hRt hpt (by rw [hpd,hRl];simp;omega)
  have e3:i*2+[Value.string (bs s),x].length=(i+1)*2:=by simp;omega
  rw [e3,hpd] at e;rw [e3,hpd,show (n+1)*2=(i+1)*2+(n - i)*2 by omega]
  exact e) (fun q hq=>by
   rcases qxb hq with hq | rfl
   ·exact (hoW.2 q hq).carry hb1.drew
   ·exact hxW.carry hb1.drew))
 have HBB:=hide (show Below base w (W1.drew.setRow W.heap.size R2.toArray) from (((hbW.mono hb).trans (hb1.mono (Nat.le_trans hb hbW.size))).drew).grown HL2.out.2 (Nat.le_trans (Nat.le_trans hb hbW.size) hb1.size) (by intro k hk;cases hk;exact Nat.le_trans hb hbW.size));obtain ⟨W9,hW9⟩:∃W9,W9=W1.drew.setRow W.heap.size R2.toArray:=⟨_,rfl⟩;rw [←hW9] at hcp1 HL2 HBB;unfold maxLen at hGm;clear hW9 hW2 hW3 hR2 hR1 hW1 hg1 hg2 hgg2 hblk1 hR1l hone hsrc1 hpd hpt hsz htake hg hblk hoW hxW HLA hx hown hn hRt hRl hRs hROW hG hold hi0 hz0 hz1 hz2 hb1
 have hw1:IntKind.i64.wrap ((i:Int)+1)=(i:Int)+1:=by rw [IntKind.wrap_i64];omega
 have hb2:¬(G=i+1):=by omega
 have hb4:¬(c=i):=by omega
 have hb6:¬(G=i):=by omega
 have hz2':¬((i:Int)=(n:Int)):=by omega
 have hroom':(c:Int)<(n:Int)+1:=by omega
 have hin':(i:Int)≤n:=by omega
 have hin2:i≤n:=by omega
 have hb5:(0:Int)≤(i:Int)+1:=by omega
 have hb7:(i:Int)≤(n:Int)+1:=by omega
 have hkk:(n:Int)+1 - (i:Int)=((n+1 - i:Nat):Int):=by omega
 go_enter Tryz.func253,Tryz.ntmps253
 go_wp2_with (first
  | (at_builtin;refine qgx rfl (.tmp 34) (.tmp 39) 29 3 rfl rfl rfl (hrz _) ?_)
  | (at_builtin;refine qgw rfl (.tmp 43) (.tmp 44) 29 rfl rfl rfl (hcp2 _) ?_))
 refine qas (S:=fun _=>True) qnv (by kernel_rfl) trivial ?_
 intro hS
 refine qae [0,1,2,3,4,5,6,7] (fuel:=1) (a':=?qa1) (by kernel_rfl) (by kernel_rfl) (by kernel_rfl) ?qp1 hS ?qn1
 case qp1=>
  iterate 8 (apply Yl.cons rfl rfl;focus (rintro wx _;go_simp;all_goals (with_reducible rfl));try simp only [Act.put,List.setIfInBounds_toArray,List.set_cons_zero,List.set_cons_succ])
  exact Yl.nil
 try simp only [Act.put,List.setIfInBounds_toArray,List.set_cons_zero,List.set_cons_succ]
 refine qg4 (i:=8) (v:=goInt (Nat.min (n - i) (n - i))) (w':=W9) rfl (by kernel_rfl) (by rfl) (qw9 (v:=.slice (some ⟨W.heap.size,(i+1)*2,none⟩) (n - i) (G - (i+1))) (s:=.tmp 50) (x:=.tmp 53) (t:=29) (y:=.slice (some ⟨g,i*2,none⟩) (n - i) (c - i)) rfl (by kernel_rfl) (by kernel_rfl) (hcp1 _)) trivial ?_
 try simp only [Act.put,List.setIfInBounds_toArray,List.set_cons_zero,List.set_cons_succ]
 refine wpAnyH_done (by kernel_rfl) ?_ _
 refine NoPanic.normal ?_
 go_wp2;go_ret;exact ⟨_,rfl,HL2.out.1,HBB.out⟩
theorem qy9 (base:Nat) (a:Option Addr) (n c i:Nat) (ps:List (Fl × Value)) (s:List UInt8) (x:Value) (l:List Ex) (w:World) (hown:OwP w base (.slice a n c) ps) (hn:n=ps.length) (hl:n≤1000) (hb:base≤w.heap.size) (hi:i≤n) (hx:OwE w base x l):
  Calls Tryz.prog 253 #[.slice a n c,.int .i64 i,.slice (some ⟨w.heap.size,0,none⟩) 1 1] (w.alloc (.cells #[.string (bs s),x] 98)) (InsV base ps i ((s,l),x) w):=by
 by_cases h:i=n
 ·subst h;exact qy8 base a i c ps s x l w hown hn hl hb hx
 ·obtain ⟨g,rfl⟩:∃g,a=some ⟨g,0,none⟩:=by
   rcases hown.1.2 with ⟨e,h0⟩ | ⟨g,cap,cur,e,_⟩
   ·cases e;omega
   ·cases e;exact ⟨g,rfl⟩
  by_cases hr:n+1≤c
  ·exact qr2 base g n c i ps s x l w hown hn hl hb (by omega) hr hx
  ·exact qt1 base g n c i ps s x l w hown hn hl hb (by omega) (by omega) hx
theorem qxc (a:Option Addr) (n c:Nat) (fs:List Fl) (s:List UInt8) (a2:Option Addr) (m c2:Nat) (l:List Ex) (w:World) (hrd:RdF w (.slice a n c) fs) (hn:n=fs.length) (hl:fs.length≤1000) (hle:∀f∈fs,f.2.length≤1000000) (hr:qcf fs)
  (hrd2:RdE w (.slice a2 m c2) l) (hm:m=l.length) (hml:l.length≤1000000):
  Calls Tryz.prog 205 #[.slice a n c,.agg #[.string (bs s),.slice a2 m c2]] w fun e w'=>∃v,e=.returned v∧OwF w' w.heap.size v (insF fs (s,l))∧Below w.heap.size w w':=by
 obtain ⟨W0,hW0⟩:∃W0,W0=w.alloc (.cells #[.string (bs s),.slice a2 m c2] 98):=⟨_,rfl⟩
 have hb0:Below w.heap.size w W0:=by rw [hW0];exact (Below.refl _ _).alloc (Nat.le_refl _) _
 have hblk:W0.heap[w.heap.size]? =some (.cells #[.string (bs s),.slice a2 m c2] 98 (0,0)):=by rw [hW0];exact heap_alloc_new w _
 have r0:W0.cell? ⟨w.heap.size,0,none⟩=some (.string (bs s)):=by rw [cell_of_row W0 _ 0 _ _ (0,0) hblk];rfl
 have hpl:=qh6 a n c fs s W0 (hrd.carry hb0) hn hr (by omega);have HP:=hide (qaan fs s);have HN:=hide hn
 have hn2:n≤1000:=by omega
 have HB:=hide hblk;have HCP:=hide (fun w1 (hb1:Below w.heap.size w w1)=>qog a n c fs w1 (hrd.carry hb1) hn hl hle);have HCF:=hide (fun w1 (hb1:Below w.heap.size w w1)=>qiw s a2 m c2 l w1 (hrd2.carry hb1) hm hml);have HB0:=hide hb0;clear hrd hn hr hrd2 hm hml hle hl hblk
 go_enter Tryz.func205,Tryz.ntmps205
 go_wp2_with fail
 rw [←hW0]
 refine hpl.mono ?_
 rintro e w1 ⟨rfl,hb1⟩;have HB1:=hide (show Below w.heap.size w w1 from HB0.out.trans (hb1.mono HB0.out.size));have HBK1:=hide ((hb1.block _ (Array.getElem?_eq_some_iff.1 HB.out).1).trans HB.out);clear hb1 hpl hW0 r0 hb0;obtain ⟨i,hi⟩:∃i,i=posF fs s:=⟨_,rfl⟩;rw [←hi] at HP ⊢;have HI:=hide hi;clear hi;have HSZ:=hide (show w.heap.size+1≤w1.heap.size from (Array.getElem?_eq_some_iff.1 HBK1.out).1)
 obtain ⟨S,eS⟩:∃S:World→Prop,S=fun wx=>wx.cell? ⟨w.heap.size,0,none⟩=some (.string (bs s))∧wx.cell? ⟨w.heap.size,1,none⟩=some (.slice a2 m c2):=⟨_,rfl⟩
 have hS0:S w1:=by
  rw [eS];exact ⟨by rw [cell_of_row w1 _ 0 _ _ (0,0) HBK1.out];rfl,by rw [cell_of_row w1 _ 1 _ _ (0,0) HBK1.out];rfl⟩
 have hK:Keeps S:=by rw [eS];exact (qaa _ _).and (qaa _ _)
 have HKB:=hide (show ∀wa wb,S wa→Below (w.heap.size+1) wa wb→S wb by
  rw [eS];rintro wa wb ⟨h1,h2⟩ hb
  exact ⟨by rw [hb.cell (p:=⟨w.heap.size,0,none⟩) (by show w.heap.size<_;omega)];exact h1,by rw [hb.cell (p:=⟨w.heap.size,1,none⟩) (by show w.heap.size<_;omega)];exact h2⟩)
 have HKS:=hide hK;go_wp2;rw [eS] at hK hS0 HKB HKS
 refine qas hK (by kernel_rfl) hS0 ?_
 intro hS
 refine qae [0,2,3] (fuel:=5) (a':=?qa1) (by kernel_rfl) (by kernel_rfl) (by kernel_rfl) ?qp1 hS ?qn1
 case qp1=>
  iterate 3 (apply Yl.cons rfl rfl;focus (rintro wx ⟨x1,x2⟩;go_simp;all_goals (with_reducible rfl));try simp only [Act.put,List.setIfInBounds_toArray,List.set_cons_zero,List.set_cons_succ])
  exact Yl.nil
 try simp only [Act.put,List.setIfInBounds_toArray,List.set_cons_zero,List.set_cons_succ]
 refine qbo (i:=1) (R:=fun v wx=>OwF wx (w.heap.size+1) v fs∧Below w1.heap.size w1 wx) rfl (by kernel_rfl) (by rfl) (by go_simp) ((HCP.out w1.drew HB1.out.drew).mono fun e wx ⟨v,h1,h2,h3⟩=>⟨v,h1,h2.mono HSZ.out,((Below.refl w1.heap.size w1).drew).trans h3⟩) ?_
 rintro v2 w2 ⟨ho2,hb2⟩;refine ⟨HKS.out _ _ hS0 hb2, ?_⟩
 try simp only [Act.put,List.setIfInBounds_toArray,List.set_cons_zero,List.set_cons_succ]
 have HB2:=hide (show Below w.heap.size w w2 from HB1.out.trans (hb2.mono HB1.out.size));have hS2:=HKS.out _ _ hS0 hb2;have HSZ2:=hide (show w.heap.size+1≤w2.heap.size from Nat.le_trans HSZ.out hb2.size)
 refine qbo (i:=4) (R:=fun v wx=>∃ax cx,v=.agg #[.string (bs s),.slice ax l.length cx]∧OwE wx (w.heap.size+1) (.slice ax l.length cx) l∧Below w2.heap.size w2 wx) rfl (by kernel_rfl) (by rfl) (by go_simp) ((HCF.out w2 HB2.out).mono fun e wx ⟨v,h1,h2,h3⟩=>by
  obtain ⟨ax,cx,rfl⟩:=h2.form
  exact ⟨_,h1,ax,cx,rfl,h2.mono HSZ2.out,h3⟩) ?_
 rintro v3 w3 ⟨ax,cx,rfl,ho3,hb3⟩;refine ⟨HKS.out _ _ hS2 hb3, ?_⟩
 try simp only [Act.put,List.setIfInBounds_toArray,List.set_cons_zero,List.set_cons_succ]
 have hS3:=HKS.out _ _ hS2 hb3;have HB3:=hide (show Below w.heap.size w w3 from HB2.out.trans (hb3.mono HB2.out.size));obtain ⟨ps,ap,cp,hps,hpsl,hv2,hop⟩:=(ho2.carry hb3).parts;subst hv2;have hins:=qy9 (w.heap.size+1) ap fs.length cp i ps s (.slice ax l.length cx) l w3 hop (by omega) (by have:=HN.out;omega) (Nat.le_trans HSZ2.out hb3.size) HP.out ho3;have HPS:=hide hps;have hb5:Below w3.heap.size w3 (w3.alloc (.cells #[.string (bs s),.slice ax l.length cx] 98)):=(Below.refl _ _).alloc (Nat.le_refl _) _;clear hop hps hpsl
 refine qg4 (i:=5) (v:=.slice (some ⟨w3.heap.size,0,none⟩) 1 1) (w':=w3.alloc (.cells #[.string (bs s),.slice ax l.length cx] 98)) rfl (by kernel_rfl) (by rfl) (by go_simp) (HKS.out _ _ hS3 hb5) ?_
 try simp only [Act.put,List.setIfInBounds_toArray,List.set_cons_zero,List.set_cons_succ]
 refine qbo (i:=6) (R:=fun v wx=>OwF wx w.heap.size v (insF fs (s,l))∧Below (w.heap.size+1) w3 wx) rfl (by kernel_rfl) (by rfl) (by go_simp) (hins.mono fun e wx ⟨v,h1,h2,h3⟩=>⟨v,h1,OwF.mono ⟨_,by rw [qaf9,HPS.out,HI.out];rfl,h2⟩ (by omega),h3⟩) ?_
 rintro v4 w4 ⟨ho4,hb4⟩;refine ⟨HKB.out _ _ hS3 hb4, ?_⟩;have hS4:=HKB.out _ _ hS3 hb4;have HB4:=hide (show Below w.heap.size w w4 from HB3.out.trans (hb4.mono (by omega)));have HO4:=hide ho4
 try simp only [Act.put,List.setIfInBounds_toArray,List.set_cons_zero,List.set_cons_succ]
 refine qae [7] (fuel:=0) (a':=?qa2) (by kernel_rfl) (by kernel_rfl) (by kernel_rfl) ?qp2 hS4 ?qn2
 case qp2=>
  iterate 1 (apply Yl.cons rfl rfl;focus (rintro wx ⟨x1,x2⟩;go_simp;all_goals (with_reducible rfl));try simp only [Act.put,List.setIfInBounds_toArray,List.set_cons_zero,List.set_cons_succ])
  exact Yl.nil
 try simp only [Act.put,List.setIfInBounds_toArray,List.set_cons_zero,List.set_cons_succ]
 refine wpAnyH_done (by kernel_rfl) ?_ _
 refine NoPanic.normal ?_
 clear ho4 hb4 hS4 hS3 hb5 hins ho3 hb3 ho2 hb2 hS2 hS hK hS0;go_wp2;go_ret;exact ⟨_,rfl,HO4.out,HB4.out⟩
end Go.Proofs.YtmeaiocohalphaaGreatDoor
