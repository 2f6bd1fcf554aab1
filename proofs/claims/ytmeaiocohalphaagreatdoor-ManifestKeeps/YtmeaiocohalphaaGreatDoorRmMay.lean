/-
  What room's mayBe, allMayBe, mark, markNew do; and the document's own May, In, meet.
-/
import Derived.Test.YtmeaiocohalphaaGreatDoorDMay
import Derived.Test.YtmeaiocohalphaaGreatDoorMathRm
import Derived.BigQuiet
set_option maxHeartbeats 1000000
namespace Go.Proofs.YtmeaiocohalphaaGreatDoor
open Go.RowKit
set_option linter.unusedVariables false
set_option linter.unusedSimpArgs false
theorem Tryz.infoEx:(Tryz.prog.info? 237).map (fun i=>(i.zero,i.size,i.bytes))=some (some (.agg #[.int .i64 0,.int .i64 0]),2,16):=by kernel_rfl
theorem Tryz.infoInt:(Tryz.prog.info? 3).map (fun i=>(i.zero,i.size,i.bytes))=some (some (.int .i64 0),1,8):=by kernel_rfl
theorem qhy {w:World} {base base':Nat} {e:TypeId} {size:Nat} {v:Value} {n:Nat} {xs:List Value} (h:w.ownsRow base e size v n xs) (hb:base'≤base):w.ownsRow base' e size v n xs:=by
 refine ⟨h.1, ?_⟩
 rcases h.2 with h | ⟨g,cap,cur,rfl,h1,h2⟩
 ·exact .inl h
 ·exact .inr ⟨g,cap,cur,rfl,Nat.le_trans hb h1,h2⟩
theorem qan (w:World) (a:Addr) (u:Value):w.grownBy (w.setCell a u) (some a.block):=
 ⟨rfl,rfl,rfl,by simp,fun k _ hk=>heap_setCell_other w a k u (fun e=>hk (by simp [e]))⟩
theorem qfn {w w':World} (h:Below w.heap.size w w'):w.grownBy w' none:=⟨h.os,h.tape,h.output,h.size,fun k hk _=>h.block k hk⟩
theorem qdj {w w1 w2:World} {r:Option Nat} (h:w.grownBy w1 r) (k:w1.grownBy w2 r):w.grownBy w2 r:=
 ⟨k.os.trans h.os,k.tape.trans h.tape,k.output.trans h.output,Nat.le_trans h.size k.size,fun i hi hr=>(k.block i (Nat.lt_of_lt_of_le hi h.size) hr).trans (h.block i hi hr)⟩
theorem qy0 {w w1:World} {r:Option Nat} (h:w.grownBy w1 none):w.grownBy w1 r:=⟨h.os,h.tape,h.output,h.size,fun k hk _=>h.block k hk (by simp)⟩
theorem qe2 {w w1:World} {r:Option Nat} (h:w.grownBy w1 r):w.grownBy w1.drew r:=⟨h.os,h.tape,h.output,h.size,h.block⟩
theorem wrapS {k:Nat} (h:k<1000000000):wrap64 ((k:Int)+1)=(k:Int)+1:=by unfold wrap64;omega
theorem qah {P:Program} {w w':World} {ops:Array Oper} {rest:List Oper} {o:Oper} {a:Act} {Q:Exit→Act→World→Prop} (hgd:o.guard=none) (s x:Operand) (t:TypeId)
  (ho:o.op=.call {callee:=.builtin .append,args:=#[s,x],argTypes:=#[t,t]}) (hty:o.type=t) {v vx v':Value} (hs:a.eval s=v) (hx:a.eval x=vx)
  (hrun:(Builtin.append_ #[t,t] t #[v,vx]).run P w=.ok v' w') (h:wpList P ops Q rest (a.put o.dst v') w'):wpList P ops Q (o::rest) a w:=by
 refine wpList_plain hgd fun K hK=>?_
 unfold Oper.wp execOp
 simp only [ho,hty,resolve,invoke,builtin,Sem.run_bind,Sem.run_pure,Result.andThen_ok,List.map_toArray,List.map_cons,List.map_nil,hs,hx,hrun]
 exact hK _ _ h
/-! ### extents -/
def cellsE (l:List Ex):List Value:=(l.map fun x=>[Value.int .i64 x.1,.int .i64 x.2]).flatten
theorem qd5 (x:Ex) (l:List Ex):cellsE (x::l)=.int .i64 x.1::.int .i64 x.2::cellsE l:=rfl
theorem qds (l m:List Ex):cellsE (l++m)=cellsE l++cellsE m:=by simp [cellsE]
theorem qeq:∀l:List Ex,(cellsE l).length=l.length*2
 | []=>rfl
 | x::l=>by rw [qd5,List.length_cons,List.length_cons,List.length_cons,qeq l];omega
theorem qgj:∀(l:List Ex) (j:Nat) (h:j<l.length),(cellsE l)[j*2]? =some (.int .i64 (l[j]).1)∧(cellsE l)[j*2+1]? =some (.int .i64 (l[j]).2)
 | x::l,0,h=>by simp [cellsE]
 | x::l,j+1,h=>by
  have:=qgj l j (by simpa using h)
  rw [qd5,show (j+1)*2=j*2+1+1 by omega]
  simpa using this
theorem qn9:∀(l:List Ex) (j:Nat) (h:j<l.length) (m:Int),(cellsE l).set (j*2+1) (.int .i64 m)=cellsE (l.set j ((l[j]).1,m))
 | x::l,0,h,m=>by simp [cellsE]
 | x::l,j+1,h,m=>by
  have:=qn9 l j (by simpa using h) m
  rw [qd5,show (j+1)*2+1=j*2+1+1+1 by omega]
  simp only [List.set_cons_succ,List.getElem_cons_succ]
  rw [this,qd5]
theorem qtq (l:List Ex) (k:Nat) (h:k≤l.length):(cellsE l).take (k*2)=cellsE (l.take k):=by
 have e:cellsE l=cellsE (l.take k)++cellsE (l.drop k):=by rw [←qds,List.take_append_drop]
 have e2:(cellsE (l.take k)).length=k*2:=by rw [qeq,List.length_take,Nat.min_eq_left h]
 rw [e,←e2,List.take_left]
theorem qy1 (l:List Ex):∀u∈cellsE l,u.oneCell'=true:=by
 induction l with
 | nil=>intro u hu;simp [cellsE] at hu
 | cons x l ih=>
  intro u hu;rw [qd5] at hu
  rcases List.mem_cons.1 hu with rfl | hu
  ·rfl
  ·rcases List.mem_cons.1 hu with rfl | hu
   ·rfl
   ·exact ih u hu
def RdE (w:World) (v:Value) (l:List Ex):Prop:=
 (l=[]∧(v=.slice none 0 0∨∃a c,v=.slice (some a) 0 c))∨
 ∃b off c,v=.slice (some ⟨b,off,none⟩) l.length c∧l.length≤c∧c≤maxLen∧∀j,(h:j<l.length)→
  w.cell? ⟨b,off+j*2,none⟩=some (.int .i64 (l[j]).1)∧w.cell? ⟨b,off+j*2+1,none⟩=some (.int .i64 (l[j]).2)
theorem RdE.carry {w w':World} {v:Value} {l:List Ex} (h:RdE w v l) (hb:Below w.heap.size w w'):RdE w' v l:=by
 rcases h with h | ⟨b,off,c,rfl,hc,hm,hcell⟩
 ·exact .inl h
 ·refine .inr ⟨b,off,c,rfl,hc,hm,fun j hj=>?_⟩
  obtain ⟨h0,h1⟩:=hcell j hj;refine ⟨?_, ?_⟩
  ·rw [hb.cell (World.block_lt_of_cell? w _ h0)];exact h0
  ·rw [hb.cell (World.block_lt_of_cell? w _ h1)];exact h1
theorem RdE.form {w:World} {v:Value} {l:List Ex} (h:RdE w v l):∃a c,v=.slice a l.length c:=by
 rcases h with ⟨rfl,rfl | ⟨a,c,rfl⟩⟩ | ⟨b,off,c,rfl,_⟩<;>exact ⟨_,_,rfl⟩
theorem RdE.len_le {w:World} {v:Value} {l:List Ex} (h:RdE w v l):l.length≤maxLen:=by
 rcases h with ⟨rfl,_⟩ | ⟨b,off,c,rfl,h1,h2,_⟩
 ·simp [maxLen]
 ·omega
theorem RdE.at {w:World} {a:Option Addr} {n c:Nat} {l:List Ex} (h:RdE w (.slice a n c) l) (j:Nat) (hj:j<l.length):
  ∃b off,a=some ⟨b,off,none⟩∧w.cell? ⟨b,off+j*2,none⟩=some (.int .i64 (l[j]).1)∧w.cell? ⟨b,off+j*2+1,none⟩=some (.int .i64 (l[j]).2):=by
 rcases h with ⟨rfl,_⟩ | ⟨b,off,c',e,_,_,hc⟩
 ·exact absurd hj (by simp)
 ·cases e
  exact ⟨b,off,rfl,hc j hj⟩
def OwE (w:World) (base:Nat) (v:Value) (l:List Ex):Prop:=w.ownsRow base 237 2 v l.length (cellsE l)
theorem OwE.rd {w:World} {base:Nat} {v:Value} {l:List Ex} (h:OwE w base v l):RdE w v l:=by
 rcases h.2 with ⟨rfl,hn⟩ | ⟨g,cap,cur,rfl,_,hg,hn,hm,hsz,htake⟩
 ·exact .inl ⟨List.length_eq_zero_iff.1 hn,.inl rfl⟩
 ·refine .inr ⟨g,0,cap,rfl,hn,hm,fun j hj=>?_⟩
  obtain ⟨e1,e2⟩:=qgj l j hj;have c1:=h.cells (g:=g) rfl _ _ e1;have c2:=h.cells (g:=g) rfl _ _ e2;rw [Addr.add_lit] at c1 c2;exact ⟨by simpa using c1,by simpa [Nat.add_assoc] using c2⟩
theorem OwE.form {w:World} {base:Nat} {v:Value} {l:List Ex} (h:OwE w base v l):∃a c,v=.slice a l.length c:=h.rd.form
theorem OwE.carry {w w':World} {base:Nat} {v:Value} {l:List Ex} (h:OwE w base v l) (hb:Below w.heap.size w w'):OwE w' base v l:=qa4 h hb
theorem OwE.mono {w:World} {base base':Nat} {v:Value} {l:List Ex} (h:OwE w base v l) (hb:base'≤base):OwE w base' v l:=qhy h hb
theorem OwE.nil (w:World) (base:Nat):OwE w base (.slice none 0 0) []:=World.ownsRow_nil w base _ _
theorem OwE.lies {w:World} {base:Nat} {a:Option Addr} {n c:Nat} {l:List Ex} (h:OwE w base (.slice a n c) l) (hl:l≠[]):∃g,a=some ⟨g,0,none⟩∧base≤g∧n=l.length∧n≤c∧c≤maxLen:=by
 rcases h.2 with ⟨_,hn⟩ | ⟨g,cap,cur,e,hb,hg,hn,hm,hsz,htake⟩
 ·exact absurd (List.length_eq_zero_iff.1 hn) hl
 ·cases e;exact ⟨g,rfl,hb,rfl,hn,hm⟩
theorem OwE.stored {w:World} {base g n c:Nat} {l:List Ex} (h:OwE w base (.slice (some ⟨g,0,none⟩) n c) l) (hn:n=l.length) (k:Nat) (hk:k<l.length) (m:Int):
  OwE (w.setCell ⟨g,k*2+1,none⟩ (.int .i64 m)) base (.slice (some ⟨g,0,none⟩) n c) (l.set k ((l[k]).1,m))∧w.grownBy (w.setCell ⟨g,k*2+1,none⟩ (.int .i64 m)) (some g):=by
 subst hn
 have:=World.ownsRow.stored h (k*2+1) (.int .i64 m)
 refine ⟨?_,this.2⟩;have h1:=this.1;rw [qn9 l k hk m] at h1;unfold OwE
 rwa [List.length_set]
theorem OwE.frozen {w:World} {base g n c:Nat} {l:List Ex} (h:OwE w base (.slice (some ⟨g,0,none⟩) n c) l) (hn:n=l.length) (j:Nat):w.frozen? ⟨g,j,none⟩=false:=by
 subst hn;exact World.ownsRow.frozenAt h j
theorem OwE.take {w:World} {base g n c:Nat} {l:List Ex} (h:OwE w base (.slice (some ⟨g,0,none⟩) n c) l) (hn:n=l.length) (k:Nat) (hk:k≤l.length):OwE w base (.slice (some ⟨g,0,none⟩) k c) (l.take k):=by
 subst hn
 rcases h.2 with ⟨e,_⟩ | ⟨g',cap,cur,e,hb,hg,hn,hm,hsz,htake⟩
 ·cases e
 ·cases e
  refine ⟨by rw [qeq],.inr ⟨g,c,cur,by simp [Nat.min_eq_left hk],hb,hg,by simp;omega,hm,hsz, ?_⟩⟩;rw [←qtq l k hk,←htake,List.take_take,List.length_take,Nat.min_eq_left hk,Nat.min_eq_left (by omega)]
theorem qajw {w:World} {base:Nat} {v:Value} {l:List Ex} (h:OwE w base v l) (hb:base≤w.heap.size) (hl:l.length≤1000000) (x y:Int):
  ∃g c w',(Builtin.append_ #[96,96] 96 #[v,.slice (some ⟨w.heap.size,0,none⟩) 1 1]).run Tryz.prog (w.alloc (.cells #[.int .i64 x,.int .i64 y] 237))=.ok (.slice (some ⟨g,0,none⟩) (l.length+1) c) w'∧
   OwE w' base (.slice (some ⟨g,0,none⟩) (l.length+1) c) (l++[(x,y)])∧Below base w w':=by
 obtain ⟨w8,ew8⟩:∃w8,w8=w.alloc (.cells #[.int .i64 x,.int .i64 y] 237):=⟨_,rfl⟩;rw [←ew8]
 have hb8:Below w.heap.size w w8:=by rw [ew8];exact (Below.refl _ _).alloc (Nat.le_refl _) _
 have hn8:∀j u,([Value.int .i64 x,.int .i64 y]:List Value)[j]? =some u→w8.cell? ((⟨w.heap.size,0,none⟩:Addr).add j)=some u:=by
  intro j u hj;rw [ew8]
  have:=World.news_of_block (w:=w.alloc (.cells #[.int .i64 x,.int .i64 y] 237)) (heap_alloc_new w _) j u (by simpa using hj)
  simpa using this
 obtain ⟨i0,hi,hz0,hz1,hz2⟩:=info_parts Tryz.infoEx;have q2:w8.ownsRow base 237 2 v l.length (cellsE l):=qa4 h hb8;obtain ⟨v9,w9,hrun9,hown9,hg9,_⟩:=run_append_own (P:=Tryz.prog) w8 base 96 96 237 i0 _ 2 16 Tryz.underlying96 hi hz0 hz1 hz2 rfl (by decide) _ _ _ q2 ⟨w.heap.size,0,none⟩ 1 1 [.int .i64 x,.int .i64 y] rfl hn8 (by intro u hu;simp at hu;rcases hu with rfl | rfl<;>rfl) (by unfold maxLen;omega) (by omega) (Nat.le_trans hb hb8.size)
 have hb9:Below base w w9:=(hb8.mono hb).grown hg9 (Nat.le_trans hb hb8.size) fun k hk=>(q2.lt k hk).1
 have e:cellsE (l++[(x,y)])=cellsE l++[.int .i64 x,.int .i64 y]:=by rw [qds];rfl
 have hle:(l++[(x,y)]).length=l.length+1:=by simp
 rcases hown9.2 with ⟨_,h0⟩ | ⟨g,cap,cur,h0,_⟩
 ·exact absurd h0 (by omega)
 ·subst h0
  exact ⟨g,cap,w9,hrun9,by unfold OwE;rw [hle,e];exact hown9,hb9⟩
/-! ### numbers -/
def qoa (l:List Int):List Value:=l.map fun z=>Value.int .i64 z
def OwI (w:World) (base:Nat) (v:Value) (l:List Int):Prop:=w.ownsRow base 3 1 v l.length (qoa l)
def RdI (w:World) (v:Value) (l:List Int):Prop:=
 (l=[]∧(v=.slice none 0 0∨∃a c,v=.slice (some a) 0 c))∨
 ∃b off c,v=.slice (some ⟨b,off,none⟩) l.length c∧l.length≤c∧c≤maxLen∧∀j,(h:j<l.length)→w.cell? ⟨b,off+j,none⟩=some (.int .i64 l[j])
theorem RdI.form {w:World} {v:Value} {l:List Int} (h:RdI w v l):∃a c,v=.slice a l.length c:=by
 rcases h with ⟨rfl,rfl | ⟨a,c,rfl⟩⟩ | ⟨b,off,c,rfl,_⟩<;>exact ⟨_,_,rfl⟩
theorem OwI.rd {w:World} {base:Nat} {v:Value} {l:List Int} (h:OwI w base v l):RdI w v l:=by
 rcases h.2 with ⟨rfl,hn⟩ | ⟨g,cap,cur,rfl,_,hg,hn,hm,hsz,htake⟩
 ·exact .inl ⟨List.length_eq_zero_iff.1 hn,.inl rfl⟩
 ·refine .inr ⟨g,0,cap,rfl,hn,hm,fun j hj=>?_⟩
  have:=h.cells (g:=g) rfl j (.int .i64 l[j]) (by simp [qoa,List.getElem?_eq_getElem hj])
  simpa [Addr.add_lit] using this
theorem OwI.carry {w w':World} {base:Nat} {v:Value} {l:List Int} (h:OwI w base v l) (hb:Below w.heap.size w w'):OwI w' base v l:=qa4 h hb
theorem OwI.mono {w:World} {base base':Nat} {v:Value} {l:List Int} (h:OwI w base v l) (hb:base'≤base):OwI w base' v l:=qhy h hb
theorem OwI.nil (w:World) (base:Nat):OwI w base (.slice none 0 0) []:=World.ownsRow_nil w base _ _
theorem qajx {w:World} {base:Nat} {v:Value} {l:List Int} (h:OwI w base v l) (hb:base≤w.heap.size) (hl:l.length≤100000000) (x:Int):
  ∃g c w',(Builtin.append_ #[93,93] 93 #[v,.slice (some ⟨w.heap.size,0,none⟩) 1 1]).run Tryz.prog (w.alloc (.cells #[.int .i64 x] 3))=.ok (.slice (some ⟨g,0,none⟩) (l.length+1) c) w'∧
   OwI w' base (.slice (some ⟨g,0,none⟩) (l.length+1) c) (l++[x])∧Below base w w'∧w.grownBy w' v.ownBlock:=by
 obtain ⟨w8,ew8⟩:∃w8,w8=w.alloc (.cells #[.int .i64 x] 3):=⟨_,rfl⟩;rw [←ew8]
 have hb8:Below w.heap.size w w8:=by rw [ew8];exact (Below.refl _ _).alloc (Nat.le_refl _) _
 have hn8:∀j u,([Value.int .i64 x]:List Value)[j]? =some u→w8.cell? ((⟨w.heap.size,0,none⟩:Addr).add j)=some u:=by
  intro j u hj;rw [ew8]
  have:=World.news_of_block (w:=w.alloc (.cells #[.int .i64 x] 3)) (heap_alloc_new w _) j u (by simpa using hj)
  simpa using this
 obtain ⟨i0,hi,hz0,hz1,hz2⟩:=info_parts Tryz.infoInt;have q2:w8.ownsRow base 3 1 v l.length (qoa l):=qa4 h hb8;obtain ⟨v9,w9,hrun9,hown9,hg9,_⟩:=run_append_own (P:=Tryz.prog) w8 base 93 93 3 i0 _ 1 8 Tryz.underlying93 hi hz0 hz1 hz2 rfl (by decide) _ _ _ q2 ⟨w.heap.size,0,none⟩ 1 1 [.int .i64 x] rfl hn8 (by intro u hu;simp at hu;subst hu;rfl) (by unfold maxLen;omega) (by omega) (Nat.le_trans hb hb8.size)
 have hb9:Below base w w9:=(hb8.mono hb).grown hg9 (Nat.le_trans hb hb8.size) fun k hk=>(q2.lt k hk).1
 have e:qoa (l++[x])=qoa l++[.int .i64 x]:=by simp [qoa]
 have hle:(l++[x]).length=l.length+1:=by simp
 rcases hown9.2 with ⟨_,h0⟩ | ⟨g,cap,cur,h0,_⟩
 ·exact absurd h0 (by omega)
 ·subst h0
  exact ⟨g,cap,w9,hrun9,by unfold OwI;rw [hle,e];exact hown9,hb9,qdj (qy0 (qfn hb8)) hg9⟩
theorem OwI.apart {w:World} {base:Nat} {v:Value} {l:List Int} (h:OwI w base v l) {k:Nat} {cs:Array Value} {fr:Nat × Nat} (hk:w.heap[k]? =some (.cells cs 237 fr)):some k≠v.ownBlock:=by
 intro e
 rcases h.2 with ⟨rfl,hn⟩ | ⟨g,cap,cur,rfl,_,hg,_⟩
 ·cases e
 ·cases e
  rw [hk] at hg;cases hg
/-! ### marks -/
def mkC (f:Nat→Bool):Array Value:=((List.range 4096).map fun n=>Value.bool (f n)).toArray
theorem qhz (f:Nat→Bool):(mkC f).size=4096:=by simp [mkC]
theorem qaii (f:Nat→Bool):mkC f≠#[]:=by intro e;have:=qhz f;rw [e] at this;simp at this
theorem qpu (f:Nat→Bool) (i:Nat) (h:i<4096):(mkC f)[i]? =some (.bool (f i)):=by simp [mkC,h]
theorem qajy (f:Nat→Bool) (i:Nat) (b:Bool):(mkC f).setIfInBounds i (.bool b)=mkC (fun n=>if n=i then b else f n):=by
 apply Array.ext_getElem?;intro j;rw [Array.getElem?_setIfInBounds]
 by_cases hj:j<4096
 ·by_cases e:i=j
  ·subst e
   rw [if_pos rfl,if_pos (by rw [qhz];exact hj),qpu _ _ hj];simp
  ·rw [if_neg e,qpu _ _ hj,qpu _ _ hj,if_neg (Ne.symm e)]
 ·have h1:(mkC f)[j]? =none:=Array.getElem?_eq_none (by rw [qhz];omega)
  have h2:(mkC (fun n=>if n=i then b else f n))[j]? =none:=Array.getElem?_eq_none (by rw [qhz];omega)
  rw [h1,h2]
  split
  ·rw [if_neg (by rw [qhz];omega)]
  ·rfl
theorem Tryz.infoMk:(Tryz.prog.info? 293).map (fun i=>(i.zero,i.size,i.bytes))=some (some (.agg (Array.replicate 4096 (.bool false))),4096,4096):=by kernel_rfl
theorem Tryz.zeroMk (w:World):(zeroValue 293).run Tryz.prog w=.ok (.agg (mkC fun _=>false)) w:=by
 obtain ⟨i0,hi,hz0,hz1,hz2⟩:=info_parts Tryz.infoMk
 have e:mkC (fun _=>false)=Array.replicate 4096 (.bool false):=by
  unfold mkC;rw [List.map_const',List.length_range,List.toArray_replicate]
 rw [e]
 simp [zeroValue,typeInfo,hi,hz0]
def Mk (w:World) (b:Nat) (f:Nat→Bool):Prop:=w.heap[b]? =some (.cells (mkC f) 293 (0,0))
theorem Mk.cell {w:World} {b:Nat} {f:Nat→Bool} (h:Mk w b f) (i:Nat) (hi:i<4096):w.cell? ⟨b,i,none⟩=some (.bool (f i)):=by
 rw [cell_of_row w b i (mkC f) _ (0,0) h,qpu f i hi]
theorem Mk.frozen {w:World} {b:Nat} {f:Nat→Bool} (h:Mk w b f) (i:Nat):w.frozen? ⟨b,i,none⟩=false:=frozen_of_row w b i _ _ h
theorem Mk.set {w:World} {b:Nat} {f:Nat→Bool} (h:Mk w b f) (i:Nat) (c:Bool):Mk (w.setCell ⟨b,i,none⟩ (.bool c)) b (fun n=>if n=i then c else f n):=by
 have:=heap_setCell_same w b i (mkC f) 293 (.bool c) h
 rw [qajy] at this;exact this
theorem Mk.kept {w w':World} {b:Nat} {f:Nat→Bool} {r:Option Nat} (h:Mk w b f) (hg:w.grownBy w' r) (hne:some b≠r):Mk w' b f:=(hg.block b (Array.getElem?_eq_some_iff.1 h).1 hne).trans h
theorem Mk.carry {w w':World} {b:Nat} {f:Nat→Bool} (h:Mk w b f) (hb:Below w.heap.size w w'):Mk w' b f:=h.kept (qfn hb) (by simp)
theorem Mk.lt {w:World} {b:Nat} {f:Nat→Bool} (h:Mk w b f):b<w.heap.size:=(Array.getElem?_eq_some_iff.1 h).1
theorem Mk.new (w:World) (f:Nat→Bool):Mk (w.alloc (.cells (mkC f) 293)) w.heap.size f:=heap_alloc_new w _
theorem Mk.same {w:World} {b:Nat} {f g:Nat→Bool} (h:Mk w b f) (e:∀n,f n=g n):Mk w b g:=by rw [←(funext e:f=g)];exact h
theorem may_t {x:Ex} (h1:0≤x.1) (h2:1≤x.2) (h3:x.1+x.2≤4096):mayX x=true:=(qbs x).2 ⟨h1,h2,h3⟩
theorem qajz {x:Ex} (h:¬(0≤x.1∧1≤x.2∧x.1+x.2≤4096)):mayX x=false:=by rw [←Bool.not_eq_true,qbs];exact h
theorem qy2 (x:Ex) (hx:wfX x) (w:World):Calls Tryz.prog 269 #[.agg #[.int .i64 x.1,.int .i64 x.2]] w fun e w'=>e=.returned (.bool (mayX x))∧Below w.heap.size w w':=by
 obtain ⟨p,q⟩:=x;obtain ⟨a1,a2,a3,a4⟩:=hx
 simp only at a1 a2 a3 a4 ⊢
 have hb:∀o,Below w.heap.size w (World.alloc w o):=fun o=>(Below.refl _ _).alloc (Nat.le_refl _) _
 by_cases h1:0≤p
 ·by_cases h2:1≤q
  ·have hw:wrap64 (4096 - p)=4096 - p:=by unfold wrap64;omega
   by_cases h3:q≤4096 - p
   ·have HM:=hide (may_t (x:=(p,q)) h1 h2 (by simp;omega))
    go_enter Tryz.func269,Tryz.ntmps269
    go_wp2;go_ret;exact ⟨by rw [HM.out];rfl,hb _⟩
   ·have HM:=hide (qajz (x:=(p,q)) (by simp;omega))
    have h3':decide (q≤4096 - p)=false:=by simpa using h3
    go_enter Tryz.func269,Tryz.ntmps269
    go_wp2;go_ret;exact ⟨by rw [HM.out];rfl,hb _⟩
  ·have HM:=hide (qajz (x:=(p,q)) (by simp;omega))
   have h2':decide (1≤q)=false:=by simpa using h2
   go_enter Tryz.func269,Tryz.ntmps269
   go_wp2;go_ret;exact ⟨by rw [HM.out];rfl,hb _⟩
 ·have HM:=hide (qajz (x:=(p,q)) (by simp;omega))
  have h1':decide (0≤p)=false:=by simpa using h1
  go_enter Tryz.func269,Tryz.ntmps269
  go_wp2;go_ret;exact ⟨by rw [HM.out];rfl,hb _⟩
theorem qjm (a:Option Addr) (n c:Nat) (l:List Ex) (w:World) (hrd:RdE w (.slice a n c) l) (hn:n=l.length) (hwf:∀x∈l,wfX x):
  Calls Tryz.prog 238 #[.slice a n c] w fun e w'=>e=.returned (.int .i64 (allX l))∧Below w.heap.size w w':=by
 have hm:n≤maxLen:=hn ▸ hrd.len_le;unfold maxLen at hm;have HR:=hide hrd;have HN:=hide hn;have HW:=hide hwf;clear hrd hn hwf
 by_cases g1:n > 4096
 ·have HM:=hide (show allX l=4 by have:=HN.out;unfold allX;rw [if_pos (by omega)])
  have g1':(4096:Int)<n:=by omega
  go_enter Tryz.func238,Tryz.ntmps238
  go_wp2;go_ret;exact ⟨by rw [HM.out];rfl,Below.refl _ _⟩
 have g1':decide ((4096:Int)<n)=false:=by simpa using (by omega:¬(4096:Int)<n)
 go_enter Tryz.func238,Tryz.ntmps238
 go_wp2
 go_loopw [10] (fun i wr=>∃k:Nat,k≤n∧i=.int .i64 k∧Hid (∀x∈l.take k,mayX x=true)∧Below w.heap.size w wr) (fun i _=>n - (intOf i).toNat)
 case atStart=>exact ⟨0,Nat.zero_le _,rfl,hide (by simp),Below.refl _ _⟩
 case round=>
  obtain ⟨k,hk,rfl,hall,hbel⟩:=hrel
  by_cases hlt:k<n
  ·have hlt':(k:Int)<n:=by omega
   have hkl:k<l.length:=by have:=HN.out;omega
   obtain ⟨b,off,rfl,q0,q1⟩:=(HR.out.carry hbel).at k hkl
   go_wp2_with fail
   refine (qy2 (l[k]) (HW.out _ (List.getElem_mem hkl)) _).mono ?_
   rintro e wc ⟨rfl,hbc⟩;have hbc':Below w.heap.size w wc:=(hbel.alloc hbel.size _).trans (hbc.mono (Nat.le_trans hbel.size (by simp)));clear hbc
   cases hp:mayX l[k] with
   | true=>
    have HA:=hide (show ∀x∈l.take (k+1),mayX x=true by
     intro x hx;rw [qbr l k hkl] at hx
     rcases List.mem_append.1 hx with hx | hx
     ·exact hall.out x hx
     ·rw [List.mem_singleton.1 hx];exact hp)
    clear hp;go_wp2;go_roundw
    case rel=>exact ⟨k+1,by omega,rfl,HA,hbc'⟩
    case measure=>simp only [intOf];omega
   | false=>
    have HM:=hide (show allX l=8 from qae4 hkl (by have:=HN.out;omega) hp);clear hp;go_wp2;go_ret;exact ⟨by rw [HM.out];rfl,hbc'⟩
  ·have hd:decide ((k:Int)<n)=false:=by simpa using (by omega:¬(k:Int)<n)
   have e:k=l.length:=by have:=HN.out;omega
   have HM:=hide (show allX l=0 from qaaa (by have:=HN.out;omega) (by rw [←e];exact hall.out));clear e;go_wp2;go_ret;exact ⟨by rw [HM.out];rfl,hbel⟩
theorem qabq (f:Nat→Bool) (r k n:Nat):(if n=r+k then true else (f n || inX ((r:Int),(k:Int)) n))=(f n || inX ((r:Int),((k+1:Nat):Int)) n):=by
 rw [Bool.eq_iff_iff]
 by_cases e:n=r+k
 ·rw [if_pos e];simp only [Bool.or_eq_true,inX,Bool.and_eq_true,decide_eq_true_eq]
  exact ⟨fun _=>.inr (by omega),fun _=>trivial⟩
 ·rw [if_neg e];simp only [Bool.or_eq_true,inX,Bool.and_eq_true,decide_eq_true_eq]
  constructor
  ·rintro (h | h)
   ·exact .inl h
   ·right;omega
  ·rintro (h | h)
   ·exact .inl h
   ·right;omega
theorem qafs (b:Nat) (f:Nat→Bool) (x:Ex) (hx:mayX x=true) (w:World) (hm:Mk w b f):
  Calls Tryz.prog 266 #[.pointer (some ⟨b,0,none⟩),.agg #[.int .i64 x.1,.int .i64 x.2]] w fun e w'=>e=.returned (.tuple #[])∧Mk w' b (fun n=>f n || inX x n)∧w.grownBy w' (some b):=by
 rw [qbs] at hx;obtain ⟨p,q⟩:=x;obtain ⟨a1,a2,a3⟩:=hx
 simp only at a1 a2 a3 ⊢
 obtain ⟨m,rfl⟩:∃m:Nat,q=m:=⟨q.toNat,by omega⟩;obtain ⟨r,rfl⟩:∃r:Nat,p=r:=⟨p.toNat,by omega⟩;have hlt:=hm.lt;have HM:=hide (hm.carry ((Below.refl w.heap.size w).alloc (Nat.le_refl _) (.cells #[.int .i64 r,.int .i64 m] 237)));clear hm
 have hbw:(w.alloc (.cells #[.int .i64 r,.int .i64 m] 237)).cell? ⟨w.heap.size,0,none⟩=some (.int .i64 r):=by simp
 have hbw1:(w.alloc (.cells #[.int .i64 r,.int .i64 m] 237)).cell? ⟨w.heap.size,1,none⟩=some (.int .i64 m):=by simp
 have hg0:w.grownBy (w.alloc (.cells #[.int .i64 r,.int .i64 m] 237)) (some b):=World.grownBy_alloc _ _ _
 go_enter Tryz.func266,Tryz.ntmps266
 go_wp2
 go_loopw [7] (fun i wr=>∃k:Nat,k≤m∧i=.int .i64 k∧Hid (Mk wr b (fun n=>f n || inX ((r:Int),(k:Int)) n))∧w.grownBy wr (some b)∧wr.cell? ⟨w.heap.size,0,none⟩=some (.int .i64 r)) (fun i _=>m - (intOf i).toNat)
 case atStart=>exact ⟨0,Nat.zero_le _,rfl,hide (HM.out.same fun n=>by simp [inX];omega),hg0,hbw⟩
 case round=>
  obtain ⟨k,hk,rfl,hmk,hg,hc⟩:=hrel
  by_cases hlt2:k<m
  ·have hlt':(k:Int)<m:=by omega
   have hcell:=hmk.out.cell (r+k) (by omega);have hfr:=hmk.out.frozen (r+k)
   have hwr:wrap64 ((r:Int)+k)=((r+k:Nat):Int):=by unfold wrap64;omega
   have hin:((r+k:Nat):Int)<4096:=by omega
   have HS:=hide (hmk.out.set (r+k) true);go_wp2
   go_region
   go_wp2;go_roundw
   case rel=>
    refine ⟨k+1,by omega,rfl,hide (HS.out.same fun n=>?_),qe2 (qdj hg (qan _ _ _)), ?_⟩
    ·exact qabq f r k n
    ·exact (qan _ _ _).cell hc (by simp;omega)
   case measure=>simp only [intOf];omega
  ·have hd:decide ((k:Int)<m)=false:=by simpa using (by omega:¬(k:Int)<m)
   obtain rfl:k=m:=by omega
   go_wp2
   refine bodyPost_end (v:=.tuple #[]) ?_ rfl ⟨rfl,hmk.out,hg⟩
   simp [results,Tryz.results266,go_sem]
theorem qaft {f:Nat→Bool} {r k m:Nat} (h:∀n:Nat,f n=true→inX ((r:Int),(k:Int)) n=false) (h1:f (r+k)=false):∀n:Nat,f n=true→inX ((r:Int),((k+1:Nat):Int)) n=false:=by
 intro n hn;have h0:=h n hn
 have hne:n≠r+k:=by rintro rfl;rw [h1] at hn;cases hn
 simp only [inX,Bool.and_eq_false_iff,decide_eq_false_iff_not] at h0 ⊢
 omega
theorem qtr (b:Nat) (f:Nat→Bool) (x:Ex) (hx:mayX x=true) (w:World) (hm:Mk w b f):
  Calls Tryz.prog 239 #[.pointer (some ⟨b,0,none⟩),.agg #[.int .i64 x.1,.int .i64 x.2]] w fun e w'=>w.grownBy w' (some b)∧
   ((e=.returned (.bool true)∧Mk w' b (fun n=>f n || inX x n)∧∀n:Nat,f n=true→inX x n=false)∨(e=.returned (.bool false)∧∃n:Nat,n<4096∧f n=true∧inX x n=true)):=by
 rw [qbs] at hx;obtain ⟨p,q⟩:=x;obtain ⟨a1,a2,a3⟩:=hx
 simp only at a1 a2 a3 ⊢
 obtain ⟨m,rfl⟩:∃m:Nat,q=m:=⟨q.toNat,by omega⟩;obtain ⟨r,rfl⟩:∃r:Nat,p=r:=⟨p.toNat,by omega⟩;have hlt:=hm.lt;have HM:=hide (hm.carry ((Below.refl w.heap.size w).alloc (Nat.le_refl _) (.cells #[.int .i64 r,.int .i64 m] 237)));clear hm
 have hbw:(w.alloc (.cells #[.int .i64 r,.int .i64 m] 237)).cell? ⟨w.heap.size,0,none⟩=some (.int .i64 r):=by simp
 have hbw1:(w.alloc (.cells #[.int .i64 r,.int .i64 m] 237)).cell? ⟨w.heap.size,1,none⟩=some (.int .i64 m):=by simp
 have hg0:w.grownBy (w.alloc (.cells #[.int .i64 r,.int .i64 m] 237)) (some b):=World.grownBy_alloc _ _ _
 go_enter Tryz.func239,Tryz.ntmps239
 go_wp2
 go_loopw [8] (fun i wr=>∃k:Nat,k≤m∧i=.int .i64 k∧Hid (Mk wr b (fun n=>f n || inX ((r:Int),(k:Int)) n))∧Hid (∀n:Nat,f n=true→inX ((r:Int),(k:Int)) n=false)∧w.grownBy wr (some b)∧wr.cell? ⟨w.heap.size,0,none⟩=some (.int .i64 r)) (fun i _=>m - (intOf i).toNat)
 case atStart=>exact ⟨0,Nat.zero_le _,rfl,hide (HM.out.same fun n=>by simp [inX];omega),hide (fun n _=>by simp only [inX,Bool.and_eq_false_iff,decide_eq_false_iff_not];omega),hg0,hbw⟩
 case round=>
  obtain ⟨k,hk,rfl,hmk,hhit,hg,hc⟩:=hrel
  by_cases hlt2:k<m
  ·have hlt':(k:Int)<m:=by omega
   have hcell:=hmk.out.cell (r+k) (by omega);have hfr:=hmk.out.frozen (r+k)
   have hwr:wrap64 ((r:Int)+k)=((r+k:Nat):Int):=by unfold wrap64;omega
   have hin:((r+k:Nat):Int)<4096:=by omega
   have HS:=hide (hmk.out.set (r+k) true)
   have hnx:inX ((r:Int),(k:Int)) ((r+k:Nat):Int)=false:=by simp only [inX,Bool.and_eq_false_iff,decide_eq_false_iff_not];omega
   rw [hnx,Bool.or_false] at hcell;clear hnx
   cases hf:f (r+k) with
   | false=>
    rw [hf] at hcell;have HH:=hide (qaft (m:=m) hhit.out hf);clear hf;go_wp2
    go_region
    go_wp2
    go_region
    go_wp2;go_roundw
    case rel=>
     refine ⟨k+1,by omega,rfl,hide (HS.out.same fun n=>?_),HH,qe2 (qe2 (qdj hg (qan _ _ _))), ?_⟩
     ·exact qabq f r k n
     ·exact (qan _ _ _).cell hc (by simp;omega)
    case measure=>simp only [intOf];omega
   | true=>
    rw [hf] at hcell;have HF:=hide (show ∃n:Nat,n<4096∧f n=true∧inX ((r:Int),(m:Int)) n=true from ⟨r+k,by omega,hf,by simp [inX];omega⟩);clear hf;go_wp2
    go_region
    go_wp2;go_ret;exact ⟨qe2 hg,.inr ⟨rfl,HF.out⟩⟩
  ·have hd:decide ((k:Int)<m)=false:=by simpa using (by omega:¬(k:Int)<m)
   obtain rfl:k=m:=by omega
   go_wp2;go_ret;exact ⟨hg,.inl ⟨rfl,hmk.out,hhit.out⟩⟩
end Go.Proofs.YtmeaiocohalphaaGreatDoor
