/-
  Files of a row of one's own, written over: a store, clear, copy. The closure that tells one name; the library's IndexFunc.
-/
import Derived.Test.YtmeaiocohalphaaGreatDoorFiPl
set_option maxHeartbeats 1000000
set_option maxRecDepth 100000
namespace Go.Proofs.YtmeaiocohalphaaGreatDoor
open Go.RowKit
set_option linter.unusedVariables false
set_option linter.unusedSimpArgs false
theorem qrz (a:Option Addr) (n c:Nat) (l:List Ex) (w:World) (hrd:RdE w (.slice a n c) l) (hn:n=l.length) (hl:l.length≤1000000):
  Calls Tryz.prog 170 #[.slice a n c] w fun e w'=>∃v,e=.returned v∧OwE w' w.heap.size v l∧Below w.heap.size w w':=by
 have hq:=fun wx=>Lib.run_eql_slice_nil (P:=Tryz.prog) wx 96 237 a n c 0 0 Tryz.underlying96
 cases a with
 | none=>
  have HO:=hide (show OwE w w.heap.size (.slice none 0 0) l by
   rcases hrd with ⟨rfl,_⟩ | ⟨b,off,c',e,_⟩
   ·exact OwE.nil _ _
   ·cases e)
  clear hrd hn
  go_enter Tryz.func170,Tryz.ntmps170
  go_wp2;go_ret;exact ⟨_,rfl,HO.out,Below.refl _ _⟩
 | some ad=>
  have hb0:Below w.heap.size w (w.alloc (.cells #[] 237)):=(Below.refl _ _).alloc (Nat.le_refl _) _;have h0:OwE (w.alloc (.cells #[] 237)) w.heap.size (.slice (some ⟨w.heap.size,0,none⟩) 0 0) []:=World.ownsRow_made w #[] 0 (Nat.le_refl _) (by decide) rfl;obtain ⟨b9,c9,w9,hrun,ho,hb9⟩:=qpx h0 hb0.size (hrd.carry hb0) hn (by simpa using hl);have HO:=hide ho;have HB:=hide (hb0.trans hb9);clear h0 ho hb9 hrd hn hb0
  go_enter Tryz.func170,Tryz.ntmps170
  go_wp2_with (at_builtin;refine qah rfl (.tmp 5) (.tmp 6) 96 rfl rfl rfl rfl hrun ?_)
  go_ret;exact ⟨_,rfl,by simpa using HO.out,HB.out⟩
def vAt (w:World) (a:Addr):Value:=(w.cell? a).getD undef
def Two (p q:Nat) (s:ByteArray) (x:Value) (w:World):Prop:=p≠q∧w.heap[p]? =some (.cells #[.string s,x] 98 (0,0))∧∃y z,w.heap[q]? =some (.cells #[y,z] 98 (0,0))
theorem Two.carry {p q:Nat} {s:ByteArray} {x:Value} {w w':World} (h:Two p q s x w) (hb:Below w.heap.size w w'):Two p q s x w':=by
 obtain ⟨h0,h1,y,z,h2⟩:=h;exact ⟨h0,(hb.block p (Array.getElem?_eq_some_iff.1 h1).1).trans h1,y,z,(hb.block q (Array.getElem?_eq_some_iff.1 h2).1).trans h2⟩
theorem Two.c0 {p q:Nat} {s:ByteArray} {x:Value} (w:World) (h:Two p q s x w):w.cell? ⟨p,0,none⟩=some (.string s):=by rw [cell_of_row w p 0 _ _ (0,0) h.2.1];rfl
theorem Two.c1 {p q:Nat} {s:ByteArray} {x:Value} (w:World) (h:Two p q s x w):w.cell? ⟨p,1,none⟩=some x:=by rw [cell_of_row w p 1 _ _ (0,0) h.2.1];rfl
theorem Two.e0 {p q:Nat} {s:ByteArray} {x:Value} (w:World) (h:Two p q s x w):w.cell? ⟨q,0,none⟩=some (vAt w ⟨q,0,none⟩):=by obtain ⟨_,_,y,z,h⟩:=h;unfold vAt;rw [cell_of_row w q 0 _ _ (0,0) h];rfl
theorem Two.e1 {p q:Nat} {s:ByteArray} {x:Value} (w:World) (h:Two p q s x w):w.cell? ⟨q,1,none⟩=some (vAt w ⟨q,1,none⟩):=by obtain ⟨_,_,y,z,h⟩:=h;unfold vAt;rw [cell_of_row w q 1 _ _ (0,0) h];rfl
theorem Two.fz {p q:Nat} {s:ByteArray} {x:Value} (w:World) (h:Two p q s x w) (i:Nat):w.frozen? ⟨q,i,none⟩=false:=by obtain ⟨_,_,y,z,h⟩:=h;exact frozen_of_row w q i _ _ h
theorem Two.put {p q:Nat} {s:ByteArray} {x:Value} {w:World} (h:Two p q s x w) (u v:Value):Two p q s x ((w.setCell ⟨q,0,none⟩ u).setCell ⟨q,1,none⟩ v)∧((w.setCell ⟨q,0,none⟩ u).setCell ⟨q,1,none⟩ v).heap[q]? =some (.cells #[u,v] 98 (0,0)):=by
 obtain ⟨h0,h1,y,z,h2⟩:=h;have a1:=heap_setCell_same w q 0 #[y,z] 98 u h2;have a2:=heap_setCell_same (w.setCell ⟨q,0,none⟩ u) q 1 _ 98 v a1;have b1:=heap_setCell_other w ⟨q,0,none⟩ p u h0;have b2:=heap_setCell_other (w.setCell ⟨q,0,none⟩ u) ⟨q,1,none⟩ p v h0
 have a3:((w.setCell ⟨q,0,none⟩ u).setCell ⟨q,1,none⟩ v).heap[q]? =some (.cells #[u,v] 98 (0,0)):=by rw [a2];rfl
 exact ⟨⟨h0,(b2.trans b1).trans h1,u,v,a3⟩,a3⟩
theorem qcg {w:World} {q:Nat} (u v:Value):w.grownBy ((w.setCell ⟨q,0,none⟩ u).setCell ⟨q,1,none⟩ v) (some q):=qdj (qan w ⟨q,0,none⟩ u) (qan _ ⟨q,1,none⟩ v)
theorem qiw (s:List UInt8) (a:Option Addr) (n c:Nat) (l:List Ex) (w:World) (hrd:RdE w (.slice a n c) l) (hn:n=l.length) (hl:l.length≤1000000):
  Calls Tryz.prog 180 #[.agg #[.string (bs s),.slice a n c]] w fun e w'=>∃v,e=.returned (.agg #[.string (bs s),v])∧OwE w' w.heap.size v l∧Below w.heap.size w w':=by
 have HC:=hide (fun w1 (hb1:Below w.heap.size w w1)=>qrz a n c l w1 (hrd.carry hb1) hn hl);clear hrd hn hl;obtain ⟨W0,hW⟩:∃W0,W0=(w.alloc (.cells #[.string (bs s),.slice a n c] 98)).alloc (.cells #[.string {data:=#[]},.slice none 0 0] 98):=⟨_,rfl⟩
 have hb0:Below w.heap.size w W0:=by rw [hW];exact ((Below.refl _ _).alloc (Nat.le_refl _) _).alloc (by simp) _
 have h2:Two w.heap.size (w.heap.size+1) (bs s) (.slice a n c) W0:=by
  rw [hW];refine ⟨by omega, ?_,.string {data:=#[]},.slice none 0 0, ?_⟩
  ·have:=heap_alloc_new w (.cells #[.string (bs s),.slice a n c] 98)
   rw [←this];exact ((Below.refl (w.alloc (.cells #[.string (bs s),.slice a n c] 98)).heap.size _).alloc (Nat.le_refl _) _).block _ (by simp)
  ·have:=heap_alloc_new (w.alloc (.cells #[.string (bs s),.slice a n c] 98)) (.cells #[.string {data:=#[]},.slice none 0 0] 98)
   simpa using this
 have k0:=fun wx h=>Two.c0 (p:=w.heap.size) (q:=w.heap.size+1) (s:=bs s) (x:=.slice a n c) wx h
 have k1:=fun wx h=>Two.c1 (p:=w.heap.size) (q:=w.heap.size+1) (s:=bs s) (x:=.slice a n c) wx h
 have k2:=fun wx h=>Two.e0 (p:=w.heap.size) (q:=w.heap.size+1) (s:=bs s) (x:=.slice a n c) wx h
 have k3:=fun wx h=>Two.e1 (p:=w.heap.size) (q:=w.heap.size+1) (s:=bs s) (x:=.slice a n c) wx h
 have k4:=fun wx i h=>Two.fz (p:=w.heap.size) (q:=w.heap.size+1) (s:=bs s) (x:=.slice a n c) wx h i
 go_enter Tryz.func180,Tryz.ntmps180
 go_wp2;rw [←hW];have hS:=h2;clear h2 hW
 go_region_held3 (fun wx=>Two w.heap.size (w.heap.size+1) (bs s) (.slice a n c) wx) (first | assumption | exact (Two.put (by assumption) _ _).1 | exact Two.carry (by assumption) (by assumption)) ((go_at_call 170;refine (HC.out _ (by exact hb0.drew)).mono ?_;rintro e w2 ⟨v2,rfl,hown2,hbel2⟩;obtain ⟨a2,c2,rfl⟩:=hown2.form))
 have hbel3:Below W0.heap.size W0 w2:=((Below.refl W0.heap.size W0).drew).trans hbel2;have h2:=hS.carry hbel3;obtain ⟨h3,h4⟩:=h2.put (.string (bs s)) (.slice a2 l.length c2);obtain ⟨y,z,hq⟩:=h2.2.2;have hb2:Below w.heap.size w w2:=hb0.trans (hbel3.mono hb0.size);have hg:=qcg (w:=w2) (q:=w.heap.size+1) (.string (bs s)) (.slice a2 l.length c2);obtain ⟨w9,hw9⟩:∃w9,w9=(w2.setCell ⟨w.heap.size+1,0,none⟩ (.string (bs s))).setCell ⟨w.heap.size+1,1,none⟩ (.slice a2 l.length c2):=⟨_,rfl⟩;rw [←hw9] at h4 hg ⊢;have HO:=hide (show OwE w9 w.heap.size (.slice a2 l.length c2) l from OwE.mono (World.ownsRow.kept hown2 hg (.inr (hown2.apartF hq))) hb0.size);have HB:=hide (show Below w.heap.size w w9 from hb2.grown hg hb2.size (by intro k hk;cases hk;omega))
 have r0:w9.cell? ⟨w.heap.size+1,0,none⟩=some (.string (bs s)):=by rw [cell_of_row w9 _ 0 _ _ (0,0) h4];rfl
 have r1:w9.cell? ⟨w.heap.size+1,1,none⟩=some (.slice a2 l.length c2):=by rw [cell_of_row w9 _ 1 _ _ (0,0) h4];rfl
 clear h2 h3 h4 hq hg hw9 hown2 hbel2 hS k0 k1 k2 k3 k4;go_wp2
 try simp only [Exit.inBlock,Exit.then]
 refine bodyPost_ret (v:=.agg #[.string (bs s),.slice a2 l.length c2]) ?_ rfl ⟨_,rfl,HO.out,HB.out⟩
 simp [results,Tryz.results180,go_sem, *]
theorem OwF.parts {w:World} {base:Nat} {v:Value} {fs:List Fl} (h:OwF w base v fs):∃ps a c,ps.map Prod.fst=fs∧ps.length=fs.length∧v=.slice a fs.length c∧OwP w base (.slice a fs.length c) ps:=by
 obtain ⟨a,c,rfl⟩:=h.form;obtain ⟨ps,rfl,h⟩:=h;exact ⟨ps,a,c,rfl,by simp,rfl,h⟩
theorem qr0 {w:World} {base:Nat} {v:Value} {fs:List Fl} (h:OwF w base v fs) (hb:base≤w.heap.size) (hl:fs.length≤1000000) (s:List UInt8) (x:Value) (l:List Ex) (hx:OwE w base x l):
  ∃g c w',(Builtin.append_ #[29,29] 29 #[v,.slice (some ⟨w.heap.size,0,none⟩) 1 1]).run Tryz.prog (w.alloc (.cells #[.string (bs s),x] 98))=.ok (.slice (some ⟨g,0,none⟩) (fs.length+1) c) w'∧
   OwF w' base (.slice (some ⟨g,0,none⟩) (fs.length+1) c) (fs++[(s,l)])∧Below base w w':=by
 obtain ⟨ps,rfl,h⟩:=h;rw [List.length_map] at hl;obtain ⟨g,c,w',hrun,ho,hb'⟩:=qw5 h hb hl s x l hx;rw [List.length_map];exact ⟨g,c,w',hrun,⟨ps++[((s,l),x)],by simp,ho⟩,hb'⟩
theorem qog (a:Option Addr) (n c:Nat) (fs:List Fl) (w:World) (hrd:RdF w (.slice a n c) fs) (hn:n=fs.length) (hl:fs.length≤1000) (hle:∀f∈fs,f.2.length≤1000000):
  Calls Tryz.prog 250 #[.slice a n c] w fun e w'=>∃v,e=.returned v∧OwF w' w.heap.size v fs∧Below w.heap.size w w':=by
 have hm:n≤1000:=by omega
 have HR:=hide hrd;have HN:=hide hn;have HL:=hide hle;clear hrd hn hl hle
 go_enter Tryz.func250,Tryz.ntmps250
 go_wp2
 go_loopw [8,3] (fun i v wr=>∃k:Nat,k≤n∧i=.int .i64 k∧Hid (OwF wr w.heap.size v (fs.take k))∧Below w.heap.size w wr) (fun i _ _=>n - (intOf i).toNat)
 case atStart=>exact ⟨0,Nat.zero_le _,rfl,hide (by simpa using OwF.nil _ _),Below.refl _ _⟩
 case round=>
  obtain ⟨k,hk,rfl,hown,hbel⟩:=hrel
  by_cases hlt:k<n
  ·have hlt':(k:Int)<n:=by omega
   have hkl:k<fs.length:=by have:=HN.out;omega
   have HT:=hide (qbd fs k hkl);have HTL:=hide (show (fs.take k).length=k by rw [List.length_take];omega);obtain ⟨b,off,a2,c2,rfl,q0,q1,q2⟩:=HR.out.atB hbel k hkl;have HQ:=hide q2;have HLk:=hide (HL.out _ (List.getElem_mem hkl));clear q2;obtain ⟨f,hf⟩:∃f,f=fs[k]:=⟨_,rfl⟩;rw [←hf] at q0 q1 HQ HT HLk;clear hf;obtain ⟨s,l⟩:=f
   simp only at q0 q1
   obtain ⟨m,hm2⟩:∃m,m=l.length:=⟨_,rfl⟩;have HQ2:=hide (show RdE w (.slice a2 m c2) l by rw [hm2];exact HQ.out);rw [←hm2] at q1;have HM2:=hide hm2;clear hm2 HQ
   have hb0:∀o,Below w.heap.size w (wr.alloc o):=fun o=>hbel.alloc hbel.size o
   go_wp2_with fail
   refine (qiw s a2 m c2 l _ (HQ2.out.carry (hb0 _)) HM2.out HLk.out).mono ?_
   rintro e w1 ⟨v1,rfl,ho1,hb1⟩;obtain ⟨w2,hw2⟩:∃w2,w2=wr.alloc (.cells #[.string (bs s),.slice a2 m c2] 98):=⟨_,rfl⟩;rw [←hw2] at ho1 hb1
   have hb2:Below wr.heap.size wr w2:=by rw [hw2];exact (Below.refl _ _).alloc (Nat.le_refl _) _
   have hbel2:Below w.heap.size w w2:=hbel.trans (hb2.mono hbel.size);have hbel1:Below w.heap.size w w1:=hbel2.trans (hb1.mono hbel2.size);obtain ⟨g,cc,w9,hrun,ho9,hb9⟩:=qr0 ((hown.out.carry hb2).carry hb1) hbel1.size (by have:=HTL.out;omega) s v1 l (ho1.mono hbel2.size);have HO9:=hide ho9;have HB9:=hide (hbel1.trans hb9);rw [HTL.out] at hrun HO9;obtain ⟨av,cv,rfl⟩:=ho1.form;clear ho9 hb9 ho1 hb1 hw2 hb2 hbel2 hbel1 hown q0 q1 hb0
   go_wp2_with (at_builtin;refine qah rfl (.tmp 12) (.tmp 15) 29 rfl rfl rfl rfl hrun ?_)
   go_roundw
   case rel=>exact ⟨k+1,by omega,rfl,hide (by rw [HT.out];exact HO9.out),HB9.out⟩
   case measure=>simp only [intOf];omega
  ·have hd:decide ((k:Int)<n)=false:=by simpa using (by omega:¬(k:Int)<n)
   have e:k=fs.length:=by have:=HN.out;omega
   rw [e,List.take_length] at hown;clear e;go_wp2;go_ret;exact ⟨_,rfl,hown.out,hbel⟩
theorem qr1 (w:World) (g:Nat) (cs:Array Value):w.grownBy (w.setRow g cs) (some g):=
 ⟨rfl,rfl,rfl,by simp [World.setRow],fun k _ hk=>setRow_other w g k cs (fun e=>hk (by rw [e]))⟩
theorem qh7 (w:World) (ty:TypeId) (g o dLen dCap:Nat) (a:Addr) (sLen sCap:Nat) (cur:Array Value) (cs:List Value)
  (hg:w.heap[g]? =some (.cells cur 98 (0,0))) (hn:cs.length=Nat.min sLen dLen*2)
  (hsrc:∀j v,cs[j]? =some v→w.cell? (a.add j)=some v) (hfit:o+cs.length≤cur.size) (h1:∀v∈cs,v.oneCell'=true):
  (Builtin.copy_ #[29,29] ty #[.slice (some ⟨g,o,none⟩) dLen dCap,.slice (some a) sLen sCap]).run Tryz.prog w=
   .ok (goInt (Nat.min sLen dLen)) (w.setRow g (cur.toList.take o++cs++cur.toList.drop (o+cs.length)).toArray):=by
 have hl:=run_loadCells_list (P:=Tryz.prog) w a cs hsrc;have hst:=run_storeCells_at Tryz.prog g o 98 cs 0 cur w hg (by simpa using hfit) h1;obtain ⟨i0,hi,hz0,hz1,hz2⟩:=info_parts Tryz.infoFl
 simp [Builtin.copy_,run_underlying Tryz.underlying29,Builtin.lenOf,Builtin.firstCells,sizeOf,typeInfo,hi,hz1,←hn,hl,hst]
theorem qy6 (w:World) (ty:TypeId) (g o n c:Nat) (cur:Array Value) (hn:0<n) (hg:w.heap[g]? =some (.cells cur 98 (0,0))) (hfit:o+n*2≤cur.size):
  (Builtin.clear_ #[29] ty #[.slice (some ⟨g,o,none⟩) n c]).run Tryz.prog w=
   .ok (.tuple #[]) (w.setRow g (cur.toList.take o++qai (List.replicate n (([],[]),.slice none 0 0))++cur.toList.drop (o+n*2)).toArray):=by
 obtain ⟨i0,hi,hz0,hz1,hz2⟩:=info_parts Tryz.infoFl
 have hz:∀w,(zeroValue 98).run Tryz.prog w=.ok (.agg #[.string ByteArray.empty,.slice none 0 0]) w:=by intro w;simp [zeroValue,typeInfo,hi,hz0]
 have e:(Builtin.zeroCells (Value.cells (.agg #[.string ByteArray.empty,.slice none 0 0])) n).toList=qai (List.replicate n (([],[]),.slice none 0 0)):=by
  have e0:Value.cells (.agg #[.string ByteArray.empty,.slice none 0 0])=#[.string ByteArray.empty,.slice none 0 0]:=rfl;rw [e0];apply List.ext_getElem?;intro i
  by_cases hin:i<n*2
  ·obtain ⟨q,hq⟩:∃q,q=i / 2:=⟨_,rfl⟩
   obtain ⟨e1,e2⟩:=qgn (List.replicate n (([],[]),Value.slice none 0 0)) q (by rw [List.length_replicate];omega);rw [List.getElem_replicate] at e1 e2
   rcases Nat.mod_two_eq_zero_or_one i with h0 | h0
   ·obtain rfl:i=q*2:=by omega
    rw [e1]
    simp [Builtin.zeroCells,hin]
    rfl
   ·obtain rfl:i=q*2+1:=by omega
    rw [e2]
    simp [Builtin.zeroCells,hin,h0]
  ·rw [List.getElem?_eq_none (by simp [Builtin.zeroCells];omega),List.getElem?_eq_none (by rw [qbn,List.length_replicate];omega)]
 have hst:=run_storeCells_at Tryz.prog g o 98 (qai (List.replicate n (([],[]),.slice none 0 0))) 0 cur w hg (by rw [qbn];simpa using hfit) (by
  intro v hv;obtain ⟨p,hp,hv⟩:=List.mem_flatMap.1 hv;obtain rfl:=(List.mem_replicate.1 hp).2
  simp at hv
  rcases hv with rfl | rfl<;>rfl)
 rw [qbn,List.length_replicate] at hst;obtain ⟨m,rfl⟩:∃m,n=m+1:=⟨n - 1,by omega⟩
 simp [Builtin.clear_,run_underlying Tryz.underlying29,hz,e,hst]
theorem qjo (s t:List UInt8) (x:Value) (p:Nat) (w:World) (hp:w.cell? ⟨p,0,none⟩=some (.string (bs t))):
  Calls Tryz.prog 251 #[.agg #[.string (bs s),x],.pointer (some ⟨p,0,none⟩)] w fun e w'=>e=.returned (.bool (s==t))∧Below w.heap.size w w':=by
 have hb0:∀o,Below w.heap.size w (w.alloc o):=fun o=>(Below.refl _ _).alloc (Nat.le_refl _) _
 have he:=qjn s t
 have hp':∀o,(w.alloc o).cell? ⟨p,0,none⟩=some (.string (bs t)):=fun o=>Lib.cell?_alloc_some _ hp
 go_enter Tryz.func251,Tryz.ntmps251
 go_wp2;go_ret;exact ⟨by first | (rw [←he];rfl) | rfl,hb0 _⟩
def idxF (fs:List Fl) (t:List UInt8):Int:=if fs.findIdx (fun f=>f.1==t)<fs.length then (fs.findIdx (fun f=>f.1==t):Nat) else -1
theorem qy7 (a:Option Addr) (n c:Nat) (fs:List Fl) (t:List UInt8) (p:Nat) (w:World) (hrd:RdF w (.slice a n c) fs) (hn:n=fs.length) (hp:w.cell? ⟨p,0,none⟩=some (.string (bs t))):
  Calls Tryz.prog 273 #[.slice a n c,.func (.func 251) #[] #[.pointer (some ⟨p,0,none⟩)]] w fun e w'=>e=.returned (.int .i64 (idxF fs t))∧Below w.heap.size w w':=by
 have hm:n≤maxLen:=hn ▸ hrd.len_le;unfold maxLen at hm;have HR:=hide hrd;have HN:=hide hn;have HP:=hide hp;clear hrd hn hp
 go_enter Tryz.func273,Tryz.ntmps273
 go_wp2
 go_loopw [8] (fun i wr=>∃k:Nat,k≤n∧i=.int .i64 k∧Hid (∀j,(h:j<fs.length)→j<k→((fs[j]).1==t)=false)∧Below w.heap.size w wr) (fun i _=>n - (intOf i).toNat)
 case atStart=>exact ⟨0,Nat.zero_le _,rfl,hide (fun j _ h=>by omega),Below.refl _ _⟩
 case round=>
  obtain ⟨k,hk,rfl,hall,hbel⟩:=hrel
  by_cases hlt:k<n
  ·have hlt':(k:Int)<n:=by omega
   have hkl:k<fs.length:=by have:=HN.out;omega
   obtain ⟨b,off,a2,c2,rfl,q0,q1,q2⟩:=HR.out.atB hbel k hkl;clear q2;obtain ⟨f,hf⟩:∃f,f=fs[k]:=⟨_,rfl⟩;rw [←hf] at q0 q1;have HF:=hide hf;clear hf;obtain ⟨m,hm2⟩:∃m,m=f.2.length:=⟨_,rfl⟩;rw [←hm2] at q1;clear hm2
   go_wp2_with fail
   refine (qjo f.1 t _ p _ (by rw [hbel.cell (World.block_lt_of_cell? w _ HP.out)];exact HP.out)).mono ?_
   rintro e w1 ⟨rfl,hb1⟩;have hb1':Below w.heap.size w w1:=hbel.trans (hb1.mono hbel.size);clear hb1 q0 q1
   cases hq:(f.1==t) with
   | true=>
    have HM:=hide (show idxF fs t=k by
     have:fs.findIdx (fun f=>f.1==t)=k:=by
      rw [List.findIdx_eq hkl];refine ⟨by rw [←HF.out];exact hq,fun j hj=>?_⟩
      have:=hall.out j (by omega) hj
      simpa using this
     unfold idxF
     rw [this,if_pos hkl])
    clear hq;go_wp2;go_ret;exact ⟨by rw [HM.out];rfl,hb1'⟩
   | false=>
    have HA:=hide (show ∀j,(h:j<fs.length)→j<k+1→((fs[j]).1==t)=false by
     intro j h hj
     rcases Nat.lt_or_eq_of_le (Nat.le_of_lt_succ hj) with h1 | h1
     ·exact hall.out j h h1
     ·subst h1;rw [←HF.out];exact hq)
    clear hq;go_wp2;go_roundw
    case rel=>exact ⟨k+1,by omega,rfl,HA,hb1'⟩
    case measure=>simp only [intOf];omega
  ·have hd:decide ((k:Int)<n)=false:=by simpa using (by omega:¬(k:Int)<n)
   have HM:=hide (show idxF fs t=-1 by
    unfold idxF;rw [if_neg];intro h;have h1:=List.findIdx_getElem (w:=h);have h2:=hall.out _ h (by have:=HN.out;omega)
    rw [h2] at h1;cases h1)
   go_wp2;go_ret;exact ⟨by rw [HM.out];rfl,hbel⟩
end Go.Proofs.YtmeaiocohalphaaGreatDoor
