/-
  without; the library's Insert of one file.
-/
import Derived.Test.YtnmbbpdhjkaidaaGreatFiPl
import Derived.Lib.AppendZerosOnto
import Derived.Lib.Overlaps
set_option maxHeartbeats 1000000
set_option maxRecDepth 100000
namespace Go.Proofs.YtnmbbpdhjkaidaaGreat
open Go.RowKit
set_option linter.all false
theorem qph (a:Option Addr) (n c:Nat) (l:List Ex) (w:World) (hrd:RdE w (.slice a n c) l) (hn:n=l.length) (hl:l.length≤1000000):
  Calls Tryz.prog 146 #[.slice a n c] w fun e w'=>∃v,e=.returned v∧OwE w' w.heap.size v l∧Below w.heap.size w w':=by
 have hq:=fun wx=>Lib.run_eql_slice_nil (P:=Tryz.prog) wx 141 209 a n c 0 0 Tryz.underlying141
 cases a with
 | none=>
  have HO:=hide (show OwE w w.heap.size (.slice none 0 0) l by
   rcases hrd with ⟨rfl,_⟩ | ⟨b,off,c',e,_⟩
   ·exact OwE.nil _ _
   ·cases e)
  clear hrd hn
  go_enter Tryz.func146,Tryz.ntmps146
  go_wp2;go_ret;exact ⟨_,rfl,HO.out,Below.refl _ _⟩
 | some ad=>
  have hb0:Below w.heap.size w (w.alloc (.cells #[] 209)):=(Below.refl _ _).alloc (Nat.le_refl _) _;have h0:OwE (w.alloc (.cells #[] 209)) w.heap.size (.slice (some ⟨w.heap.size,0,none⟩) 0 0) []:=World.ownsRow_made w #[] 0 (Nat.le_refl _) (by decide) rfl;obtain ⟨b9,c9,w9,hrun,ho,hb9⟩:=qnz h0 hb0.size (hrd.carry hb0) hn (by simpa using hl);have HO:=hide ho;have HB:=hide (hb0.trans hb9);clear h0 ho hb9 hrd hn hb0
  go_enter Tryz.func146,Tryz.ntmps146
  go_wp2_with (at_builtin;refine qak rfl (.tmp 5) (.tmp 6) 141 rfl rfl rfl rfl hrun ?_)
  go_ret;exact ⟨_,rfl,by simpa using HO.out,HB.out⟩
def vAt (w:World) (a:Addr):Value:=(w.cell? a).getD undef
def Two (p q:Nat) (s:ByteArray) (x:Value) (w:World):Prop:=p≠q∧w.heap[p]? =some (.cells #[.string s,x] 143 (0,0))∧∃y z,w.heap[q]? =some (.cells #[y,z] 143 (0,0))
theorem Two.carry {p q:Nat} {s:ByteArray} {x:Value} {w w':World} (h:Two p q s x w) (hb:Below w.heap.size w w'):Two p q s x w':=by
 obtain ⟨h0,h1,y,z,h2⟩:=h;exact ⟨h0,(hb.block p (Array.getElem?_eq_some_iff.1 h1).1).trans h1,y,z,(hb.block q (Array.getElem?_eq_some_iff.1 h2).1).trans h2⟩
theorem Two.c0 {p q:Nat} {s:ByteArray} {x:Value} (w:World) (h:Two p q s x w):w.cell? ⟨p,0,none⟩=some (.string s):=by rw [cell_of_row w p 0 _ _ (0,0) h.2.1];rfl
theorem Two.c1 {p q:Nat} {s:ByteArray} {x:Value} (w:World) (h:Two p q s x w):w.cell? ⟨p,1,none⟩=some x:=by rw [cell_of_row w p 1 _ _ (0,0) h.2.1];rfl
theorem Two.e0 {p q:Nat} {s:ByteArray} {x:Value} (w:World) (h:Two p q s x w):w.cell? ⟨q,0,none⟩=some (vAt w ⟨q,0,none⟩):=by obtain ⟨_,_,y,z,h⟩:=h;unfold vAt;rw [cell_of_row w q 0 _ _ (0,0) h];rfl
theorem Two.e1 {p q:Nat} {s:ByteArray} {x:Value} (w:World) (h:Two p q s x w):w.cell? ⟨q,1,none⟩=some (vAt w ⟨q,1,none⟩):=by obtain ⟨_,_,y,z,h⟩:=h;unfold vAt;rw [cell_of_row w q 1 _ _ (0,0) h];rfl
theorem Two.fz {p q:Nat} {s:ByteArray} {x:Value} (w:World) (h:Two p q s x w) (i:Nat):w.frozen? ⟨q,i,none⟩=false:=by obtain ⟨_,_,y,z,h⟩:=h;exact frozen_of_row w q i _ _ h
theorem Two.put {p q:Nat} {s:ByteArray} {x:Value} {w:World} (h:Two p q s x w) (u v:Value):Two p q s x ((w.setCell ⟨q,0,none⟩ u).setCell ⟨q,1,none⟩ v)∧((w.setCell ⟨q,0,none⟩ u).setCell ⟨q,1,none⟩ v).heap[q]? =some (.cells #[u,v] 143 (0,0)):=by
 obtain ⟨h0,h1,y,z,h2⟩:=h;have a1:=heap_setCell_same w q 0 #[y,z] 143 u h2;have a2:=heap_setCell_same (w.setCell ⟨q,0,none⟩ u) q 1 _ 143 v a1;have b1:=heap_setCell_other w ⟨q,0,none⟩ p u h0;have b2:=heap_setCell_other (w.setCell ⟨q,0,none⟩ u) ⟨q,1,none⟩ p v h0
 have a3:((w.setCell ⟨q,0,none⟩ u).setCell ⟨q,1,none⟩ v).heap[q]? =some (.cells #[u,v] 143 (0,0)):=by rw [a2];rfl
 exact ⟨⟨h0,(b2.trans b1).trans h1,u,v,a3⟩,a3⟩
theorem qcx {w:World} {q:Nat} (u v:Value):w.grownBy ((w.setCell ⟨q,0,none⟩ u).setCell ⟨q,1,none⟩ v) (some q):=qet (qas w ⟨q,0,none⟩ u) (qas _ ⟨q,1,none⟩ v)
theorem qit (s:List UInt8) (a:Option Addr) (n c:Nat) (l:List Ex) (w:World) (hrd:RdE w (.slice a n c) l) (hn:n=l.length) (hl:l.length≤1000000):
  Calls Tryz.prog 196 #[.agg #[.string (bs s),.slice a n c]] w fun e w'=>∃v,e=.returned (.agg #[.string (bs s),v])∧OwE w' w.heap.size v l∧Below w.heap.size w w':=by
 have HC:=hide (fun w1 (hb1:Below w.heap.size w w1)=>qph a n c l w1 (hrd.carry hb1) hn hl);clear hrd hn hl;obtain ⟨W0,hW⟩:∃W0,W0=(w.alloc (.cells #[.string (bs s),.slice a n c] 143)).alloc (.cells #[.string {data:=#[]},.slice none 0 0] 143):=⟨_,rfl⟩
 have hb0:Below w.heap.size w W0:=by rw [hW];exact ((Below.refl _ _).alloc (Nat.le_refl _) _).alloc (by simp) _
 have h2:Two w.heap.size (w.heap.size+1) (bs s) (.slice a n c) W0:=by
  rw [hW];refine ⟨by omega, ?_,.string {data:=#[]},.slice none 0 0, ?_⟩
  ·have:=heap_alloc_new w (.cells #[.string (bs s),.slice a n c] 143)
   rw [←this];exact ((Below.refl (w.alloc (.cells #[.string (bs s),.slice a n c] 143)).heap.size _).alloc (Nat.le_refl _) _).block _ (by simp)
  ·have:=heap_alloc_new (w.alloc (.cells #[.string (bs s),.slice a n c] 143)) (.cells #[.string {data:=#[]},.slice none 0 0] 143)
   simpa using this
 have k0:=fun wx h=>Two.c0 (p:=w.heap.size) (q:=w.heap.size+1) (s:=bs s) (x:=.slice a n c) wx h
 have k1:=fun wx h=>Two.c1 (p:=w.heap.size) (q:=w.heap.size+1) (s:=bs s) (x:=.slice a n c) wx h
 have k2:=fun wx h=>Two.e0 (p:=w.heap.size) (q:=w.heap.size+1) (s:=bs s) (x:=.slice a n c) wx h
 have k3:=fun wx h=>Two.e1 (p:=w.heap.size) (q:=w.heap.size+1) (s:=bs s) (x:=.slice a n c) wx h
 have k4:=fun wx i h=>Two.fz (p:=w.heap.size) (q:=w.heap.size+1) (s:=bs s) (x:=.slice a n c) wx h i
 go_enter Tryz.func196,Tryz.ntmps196
 go_wp2;rw [←hW];have hS:=h2;clear h2 hW
 go_region_held3 (fun wx=>Two w.heap.size (w.heap.size+1) (bs s) (.slice a n c) wx) (first | assumption | exact (Two.put (by assumption) _ _).1 | exact Two.carry (by assumption) (by assumption)) ((go_at_call 146;refine (HC.out _ (by exact hb0.drew)).mono ?_;rintro e w2 ⟨v2,rfl,hown2,hbel2⟩;obtain ⟨a2,c2,rfl⟩:=hown2.form))
 have hbel3:Below W0.heap.size W0 w2:=((Below.refl W0.heap.size W0).drew).trans hbel2;have h2:=hS.carry hbel3;obtain ⟨h3,h4⟩:=h2.put (.string (bs s)) (.slice a2 l.length c2);obtain ⟨y,z,hq⟩:=h2.2.2;have hb2:Below w.heap.size w w2:=hb0.trans (hbel3.mono hb0.size);have hg:=qcx (w:=w2) (q:=w.heap.size+1) (.string (bs s)) (.slice a2 l.length c2);obtain ⟨w9,hw9⟩:∃w9,w9=(w2.setCell ⟨w.heap.size+1,0,none⟩ (.string (bs s))).setCell ⟨w.heap.size+1,1,none⟩ (.slice a2 l.length c2):=⟨_,rfl⟩;rw [←hw9] at h4 hg ⊢;have HO:=hide (show OwE w9 w.heap.size (.slice a2 l.length c2) l from OwE.mono (World.ownsRow.kept hown2 hg (.inr (hown2.apartF hq))) hb0.size);have HB:=hide (show Below w.heap.size w w9 from hb2.grown hg hb2.size (by intro k hk;cases hk;omega))
 have r0:w9.cell? ⟨w.heap.size+1,0,none⟩=some (.string (bs s)):=by rw [cell_of_row w9 _ 0 _ _ (0,0) h4];rfl
 have r1:w9.cell? ⟨w.heap.size+1,1,none⟩=some (.slice a2 l.length c2):=by rw [cell_of_row w9 _ 1 _ _ (0,0) h4];rfl
 clear h2 h3 h4 hq hg hw9 hown2 hbel2 hS k0 k1 k2 k3 k4;go_wp2
 try simp only [Exit.inBlock,Exit.then]
 refine bodyPost_ret (v:=.agg #[.string (bs s),.slice a2 l.length c2]) ?_ rfl ⟨_,rfl,HO.out,HB.out⟩
 simp [results,Tryz.results196,go_sem, *]
theorem OwF.parts {w:World} {base:Nat} {v:Value} {fs:List Fl} (h:OwF w base v fs):∃ps a c,ps.map Prod.fst=fs∧ps.length=fs.length∧v=.slice a fs.length c∧OwP w base (.slice a fs.length c) ps:=by
 obtain ⟨a,c,rfl⟩:=h.form;obtain ⟨ps,rfl,h⟩:=h;exact ⟨ps,a,c,rfl,by simp,rfl,h⟩
theorem qpi {w:World} {base:Nat} {v:Value} {fs:List Fl} (h:OwF w base v fs) (hb:base≤w.heap.size) (hl:fs.length≤1000000) (s:List UInt8) (x:Value) (l:List Ex) (hx:OwE w base x l):
  ∃g c w',(Builtin.append_ #[29,29] 29 #[v,.slice (some ⟨w.heap.size,0,none⟩) 1 1]).run Tryz.prog (w.alloc (.cells #[.string (bs s),x] 143))=.ok (.slice (some ⟨g,0,none⟩) (fs.length+1) c) w'∧
   OwF w' base (.slice (some ⟨g,0,none⟩) (fs.length+1) c) (fs++[(s,l)])∧Below base w w':=by
 obtain ⟨ps,rfl,h⟩:=h;rw [List.length_map] at hl;obtain ⟨g,c,w',hrun,ho,hb'⟩:=qsu h hb hl s x l hx;rw [List.length_map];exact ⟨g,c,w',hrun,⟨ps++[((s,l),x)],by simp,ho⟩,hb'⟩
theorem qu1 (a:Option Addr) (n c:Nat) (fs:List Fl) (w:World) (hrd:RdF w (.slice a n c) fs) (hn:n=fs.length) (hl:fs.length≤1000) (hle:∀f∈fs,f.2.length≤1000000):
  Calls Tryz.prog 233 #[.slice a n c] w fun e w'=>∃v,e=.returned v∧OwF w' w.heap.size v fs∧Below w.heap.size w w':=by
 have hm:n≤1000:=by omega
 have HR:=hide hrd;have HN:=hide hn;have HL:=hide hle;clear hrd hn hl hle
 go_enter Tryz.func233,Tryz.ntmps233
 go_wp2
 go_loopw [8,3] (fun i v wr=>∃k:Nat,k≤n∧i=.int .i64 k∧Hid (OwF wr w.heap.size v (fs.take k))∧Below w.heap.size w wr) (fun i _ _=>n - (intOf i).toNat)
 case atStart=>exact ⟨0,Nat.zero_le _,rfl,hide (by simpa using OwF.nil _ _),Below.refl _ _⟩
 case round=>
  obtain ⟨k,hk,rfl,hown,hbel⟩:=hrel
  by_cases hlt:k<n
  ·have hlt':(k:Int)<n:=by omega
   have hkl:k<fs.length:=by have:=HN.out;omega
   have HT:=hide (qdp fs k hkl);have HTL:=hide (show (fs.take k).length=k by rw [List.length_take];omega);obtain ⟨b,off,a2,c2,rfl,q0,q1,q2⟩:=HR.out.atB hbel k hkl;have HQ:=hide q2;have HLk:=hide (HL.out _ (List.getElem_mem hkl));clear q2;obtain ⟨f,hf⟩:∃f,f=fs[k]:=⟨_,rfl⟩;rw [←hf] at q0 q1 HQ HT HLk;clear hf;obtain ⟨s,l⟩:=f
   simp only at q0 q1
   obtain ⟨m,hm2⟩:∃m,m=l.length:=⟨_,rfl⟩;have HQ2:=hide (show RdE w (.slice a2 m c2) l by rw [hm2];exact HQ.out);rw [←hm2] at q1;have HM2:=hide hm2;clear hm2 HQ
   have hb0:∀o,Below w.heap.size w (wr.alloc o):=fun o=>hbel.alloc hbel.size o
   go_wp2_with fail
   refine (qit s a2 m c2 l _ (HQ2.out.carry (hb0 _)) HM2.out HLk.out).mono ?_
   rintro e w1 ⟨v1,rfl,ho1,hb1⟩;obtain ⟨w2,hw2⟩:∃w2,w2=wr.alloc (.cells #[.string (bs s),.slice a2 m c2] 143):=⟨_,rfl⟩;rw [←hw2] at ho1 hb1
   have hb2:Below wr.heap.size wr w2:=by rw [hw2];exact (Below.refl _ _).alloc (Nat.le_refl _) _
   have hbel2:Below w.heap.size w w2:=hbel.trans (hb2.mono hbel.size);have hbel1:Below w.heap.size w w1:=hbel2.trans (hb1.mono hbel2.size);obtain ⟨g,cc,w9,hrun,ho9,hb9⟩:=qpi ((hown.out.carry hb2).carry hb1) hbel1.size (by have:=HTL.out;omega) s v1 l (ho1.mono hbel2.size);have HO9:=hide ho9;have HB9:=hide (hbel1.trans hb9);rw [HTL.out] at hrun HO9;obtain ⟨av,cv,rfl⟩:=ho1.form;clear ho9 hb9 ho1 hb1 hw2 hb2 hbel2 hbel1 hown q0 q1 hb0
   go_wp2_with (at_builtin;refine qak rfl (.tmp 12) (.tmp 15) 29 rfl rfl rfl rfl hrun ?_)
   go_roundw
   case rel=>exact ⟨k+1,by omega,rfl,hide (by rw [HT.out];exact HO9.out),HB9.out⟩
   case measure=>simp only [intOf];omega
  ·have hd:decide ((k:Int)<n)=false:=by simpa using (by omega:¬(k:Int)<n)
   have e:k=fs.length:=by have:=HN.out;omega
   rw [e,List.take_length] at hown;clear e;go_wp2;go_ret;exact ⟨_,rfl,hown.out,hbel⟩
theorem qpj (w:World) (g:Nat) (cs:Array Value):w.grownBy (w.setRow g cs) (some g):=
 ⟨rfl,rfl,rfl,by simp [World.setRow],fun k _ hk=>setRow_other w g k cs (fun e=>hk (by rw [e]))⟩
theorem qh0 (w:World) (ty:TypeId) (g o dLen dCap:Nat) (a:Addr) (sLen sCap:Nat) (cur:Array Value) (cs:List Value)
  (hg:w.heap[g]? =some (.cells cur 143 (0,0))) (hn:cs.length=Nat.min sLen dLen*2)
  (hsrc:∀j v,cs[j]? =some v→w.cell? (a.add j)=some v) (hfit:o+cs.length≤cur.size) (h1:∀v∈cs,v.oneCell'=true):
  (Builtin.copy_ #[29,29] ty #[.slice (some ⟨g,o,none⟩) dLen dCap,.slice (some a) sLen sCap]).run Tryz.prog w=
   .ok (goInt (Nat.min sLen dLen)) (w.setRow g (cur.toList.take o++cs++cur.toList.drop (o+cs.length)).toArray):=by
 have hl:=run_loadCells_list (P:=Tryz.prog) w a cs hsrc;have hst:=run_storeCells_at Tryz.prog g o 143 cs 0 cur w hg (by simpa using hfit) h1;obtain ⟨i0,hi,hz0,hz1,hz2⟩:=info_parts Tryz.infoFl
 simp [Builtin.copy_,run_underlying Tryz.underlying29,Builtin.lenOf,Builtin.firstCells,sizeOf,typeInfo,hi,hz1,←hn,hl,hst]
theorem OwP.block {w:World} {base g n c:Nat} {ps:List (Fl × Value)} (h:OwP w base (.slice (some ⟨g,0,none⟩) n c) ps):
  ∃cur:Array Value,n=ps.length∧base≤g∧w.heap[g]? =some (.cells cur 143 (0,0))∧n≤c∧c≤maxLen∧cur.size=c*2∧cur.toList.take (n*2)=qap ps:=by
 rcases h.1.2 with ⟨e,_⟩ | ⟨g',cap,cur,e,hb,hg,hn,hm,hsz,htake⟩
 ·cases e
 ·cases e;exact ⟨cur,rfl,hb,hg,hn,hm,hsz,htake⟩
theorem OwP.laid {w:World} {base g n c m:Nat} {ps qs:List (Fl × Value)} (h:OwP w base (.slice (some ⟨g,0,none⟩) n c) ps) (new:List Value) (hnl:new.length=c*2) (hm:m=qs.length) (hmc:m≤c)
  (ht:new.take (m*2)=qap qs) (hq:∀q∈qs,OwE w base q.2 q.1.2):OwP (w.setRow g new.toArray) base (.slice (some ⟨g,0,none⟩) m c) qs∧w.grownBy (w.setRow g new.toArray) (some g):=by
 obtain ⟨cur,rfl,hb,hg,hnc,hcm,hsz,htake⟩:=h.block;have hgr:=qpj w g new.toArray;refine ⟨⟨⟨by rw [qdd],.inr ⟨g,c,new.toArray,by rw [hm],hb,setRow_heap w g cur _ 143 _ hg,by omega,hcm,by simpa using hnl,by subst hm;simpa using ht⟩⟩,fun q hq'=>?_⟩,hgr⟩;exact World.ownsRow.kept (hq q hq') hgr (.inr ((hq q hq').apartF hg))
abbrev dl (t:List UInt8):Fl × Value→Bool:=fun p=>!(p.1.1==t)
theorem qsy {P:Program} {o:Oper} {a:Act} {s x:Operand} {t:TypeId} {v y v':Value} {w w':World} (ho:o.op=.call {callee:=.builtin .copy,args:=#[s,x],argTypes:=#[t,t]}) (hs:a.eval s=v) (hx:a.eval x=y)
  (hrun:(Builtin.copy_ #[t,t] o.type #[v,y]).run P w=.ok v' w'):(execOp a.eval o).run P w=.ok (.value v') w':=by
 simp [execOp,ho,resolve,invoke,builtin,hs,hx,hrun,Result.andThen]
theorem qg3 {P:Program} {w w':World} {ops:Array Oper} {rest:List Oper} {o:Oper} {a:Act} {Q:Exit→Act→World→Prop} (hgd:o.guard=none) (s x:Operand) (t:TypeId)
  (ho:o.op=.call {callee:=.builtin .copy,args:=#[s,x],argTypes:=#[t,t]}) {v vx v':Value} (hs:a.eval s=v) (hx:a.eval x=vx)
  (hrun:(Builtin.copy_ #[t,t] o.type #[v,vx]).run P w=.ok v' w') (h:wpList P ops Q rest (a.put o.dst v') w'):wpList P ops Q (o::rest) a w:=by
 refine wpList_plain hgd fun K hK=>?_
 unfold Oper.wp execOp
 simp only [ho,resolve,invoke,builtin,Sem.run_bind,Sem.run_pure,Result.andThen_ok,List.map_toArray,List.map_cons,List.map_nil,hs,hx,hrun]
 exact hK _ _ h
theorem qg4 {P:Program} {w w':World} {ops:Array Oper} {rest:List Oper} {o:Oper} {a:Act} {Q:Exit→Act→World→Prop} (hgd:o.guard=none) (s x:Operand) (t u:TypeId)
  (ho:o.op=.call {callee:=.builtin .append,args:=#[s,x],argTypes:=#[t,u]}) {v vx v':Value} (hs:a.eval s=v) (hx:a.eval x=vx)
  (hrun:(Builtin.append_ #[t,u] o.type #[v,vx]).run P w=.ok v' w') (h:wpList P ops Q rest (a.put o.dst v') w'):wpList P ops Q (o::rest) a w:=by
 refine wpList_plain hgd fun K hK=>?_
 unfold Oper.wp execOp
 simp only [ho,resolve,invoke,builtin,Sem.run_bind,Sem.run_pure,Result.andThen_ok,List.map_toArray,List.map_cons,List.map_nil,hs,hx,hrun]
 exact hK _ _ h
theorem qaen (R A B D:List Value) (k:Nat) (hA:R.take k=A) (hk:A.length=k) (hl:k+B.length+D.length≤R.length):
  (((R.take k++B++R.drop (k+B.length)).take (k+B.length)++D++(R.take k++B++R.drop (k+B.length)).drop (k+B.length+D.length))).take (k+B.length+D.length)=A++B++D:=by
 rw [hA]
 have e1:(A++B++R.drop (k+B.length)).take (k+B.length)=A++B:=by
  rw [List.take_append_of_le_length (by rw [List.length_append];omega),List.take_of_length_le (by rw [List.length_append];omega)]
 rw [e1,List.take_append_of_le_length (by simp only [List.length_append];omega),List.take_of_length_le (by simp only [List.length_append];omega)]
theorem qaba (R A B D:List Value) (k:Nat) (hA:R.take k=A) (hk:A.length=k) (hl:k+B.length+D.length≤R.length):
  ((R.take (k+B.length)++D++R.drop (k+B.length+D.length)).take k++B++(R.take (k+B.length)++D++R.drop (k+B.length+D.length)).drop (k+B.length)).take (k+B.length+D.length)=A++B++D:=by
 have e0:(R.take (k+B.length)).length=k+B.length:=by rw [List.length_take];omega
 have e1:(R.take (k+B.length)++D++R.drop (k+B.length+D.length)).take k=A:=by
  rw [List.append_assoc,List.take_append_of_le_length (by omega),List.take_take,Nat.min_eq_left (by omega),hA]
 have e2:(R.take (k+B.length)++D++R.drop (k+B.length+D.length)).drop (k+B.length)=D++R.drop (k+B.length+D.length):=by
  rw [List.append_assoc,List.drop_append_of_le_length (by omega),List.drop_of_length_le (by omega)];rfl
 rw [e1,e2,←List.append_assoc,List.take_append_of_le_length (by simp only [List.length_append];omega),List.take_of_length_le (by simp only [List.length_append];omega)]
theorem qn6 (R B:List Value) (k:Nat) (hl:k+B.length≤R.length):(R.take k++B++R.drop (k+B.length)).length=R.length:=by
 simp only [List.length_append,List.length_take,List.length_drop];omega
end Go.Proofs.YtnmbbpdhjkaidaaGreat
