/-
  What room's grow, unmarked, cut, Free, Take do.
-/
import Derived.Test.YtmeaiocohalphaaGreatDoorDMay
import Derived.Test.YtmeaiocohalphaaGreatDoorMathFi
import Derived.BigQuiet
set_option maxHeartbeats 1000000
namespace Go.Proofs.YtmeaiocohalphaaGreatDoor
open Go.RowKit
set_option linter.all false
theorem Tryz.infoEx:(Tryz.prog.info? 237).map (fun i=>(i.zero,i.size,i.bytes))=some (some (.agg #[.int .i64 0,.int .i64 0]),2,16):=by kernel_rfl
theorem Tryz.infoInt:(Tryz.prog.info? 3).map (fun i=>(i.zero,i.size,i.bytes))=some (some (.int .i64 0),1,8):=by kernel_rfl
theorem qib {w:World} {base base':Nat} {e:TypeId} {size:Nat} {v:Value} {n:Nat} {xs:List Value} (h:w.ownsRow base e size v n xs) (hb:base'≤base):w.ownsRow base' e size v n xs:=by
 refine ⟨h.1, ?_⟩
 rcases h.2 with h | ⟨g,cap,cur,rfl,h1,h2⟩
 ·exact .inl h
 ·exact .inr ⟨g,cap,cur,rfl,Nat.le_trans hb h1,h2⟩
theorem qai (w:World) (a:Addr) (u:Value):w.grownBy (w.setCell a u) (some a.block):=
 ⟨rfl,rfl,rfl,by simp,fun k _ hk=>heap_setCell_other w a k u (fun e=>hk (by simp [e]))⟩
theorem qf4 {w w':World} (h:Below w.heap.size w w'):w.grownBy w' none:=⟨h.os,h.tape,h.output,h.size,fun k hk _=>h.block k hk⟩
theorem qc7 {w w1 w2:World} {r:Option Nat} (h:w.grownBy w1 r) (k:w1.grownBy w2 r):w.grownBy w2 r:=
 ⟨k.os.trans h.os,k.tape.trans h.tape,k.output.trans h.output,Nat.le_trans h.size k.size,fun i hi hr=>(k.block i (Nat.lt_of_lt_of_le hi h.size) hr).trans (h.block i hi hr)⟩
theorem qys {w w1:World} {r:Option Nat} (h:w.grownBy w1 none):w.grownBy w1 r:=⟨h.os,h.tape,h.output,h.size,fun k hk _=>h.block k hk (by simp)⟩
theorem qfk {w w1:World} {r:Option Nat} (h:w.grownBy w1 r):w.grownBy w1.drew r:=⟨h.os,h.tape,h.output,h.size,h.block⟩
theorem qha {k:Nat} (h:k<1000000000):wrap64 ((k:Int)+1)=(k:Int)+1:=by unfold wrap64;omega
theorem qaf {P:Program} {w w':World} {ops:Array Oper} {rest:List Oper} {o:Oper} {a:Act} {Q:Exit→Act→World→Prop} (hgd:o.guard=none) (s x:Operand) (t:TypeId)
  (ho:o.op=.call {callee:=.builtin .append,args:=#[s,x],argTypes:=#[t,t]}) (hty:o.type=t) {v vx v':Value} (hs:a.eval s=v) (hx:a.eval x=vx)
  (hrun:(Builtin.append_ #[t,t] t #[v,vx]).run P w=.ok v' w') (h:wpList P ops Q rest (a.put o.dst v') w'):wpList P ops Q (o::rest) a w:=by
 refine wpList_plain hgd fun K hK=>?_
 unfold Oper.wp execOp
 simp only [ho,hty,resolve,invoke,builtin,Sem.run_bind,Sem.run_pure,Result.andThen_ok,List.map_toArray,List.map_cons,List.map_nil,hs,hx,hrun]
 exact hK _ _ h
/-! ### extents -/
def cellsE (l:List Ex):List Value:=(l.map fun x=>[Value.int .i64 x.1,.int .i64 x.2]).flatten
theorem qeg (x:Ex) (l:List Ex):cellsE (x::l)=.int .i64 x.1::.int .i64 x.2::cellsE l:=rfl
theorem qd0 (l m:List Ex):cellsE (l++m)=cellsE l++cellsE m:=by simp [cellsE]
theorem qe4:∀l:List Ex,(cellsE l).length=l.length*2
 | []=>rfl
 | x::l=>by rw [qeg,List.length_cons,List.length_cons,List.length_cons,qe4 l];omega
theorem qgx:∀(l:List Ex) (j:Nat) (h:j<l.length),(cellsE l)[j*2]? =some (.int .i64 (l[j]).1)∧(cellsE l)[j*2+1]? =some (.int .i64 (l[j]).2)
 | x::l,0,h=>by simp [cellsE]
 | x::l,j+1,h=>by
  have:=qgx l j (by simpa using h)
  rw [qeg,show (j+1)*2=j*2+1+1 by omega]
  simpa using this
theorem qnv:∀(l:List Ex) (j:Nat) (h:j<l.length) (m:Int),(cellsE l).set (j*2+1) (.int .i64 m)=cellsE (l.set j ((l[j]).1,m))
 | x::l,0,h,m=>by simp [cellsE]
 | x::l,j+1,h,m=>by
  have:=qnv l j (by simpa using h) m
  rw [qeg,show (j+1)*2+1=j*2+1+1+1 by omega]
  simp only [List.set_cons_succ,List.getElem_cons_succ]
  rw [this,qeg]
theorem quf (l:List Ex) (k:Nat) (h:k≤l.length):(cellsE l).take (k*2)=cellsE (l.take k):=by
 have e:cellsE l=cellsE (l.take k)++cellsE (l.drop k):=by rw [←qd0,List.take_append_drop]
 have e2:(cellsE (l.take k)).length=k*2:=by rw [qe4,List.length_take,Nat.min_eq_left h]
 rw [e,←e2,List.take_left]
theorem qyt (l:List Ex):∀u∈cellsE l,u.oneCell'=true:=by
 induction l with
 | nil=>intro u hu;simp [cellsE] at hu
 | cons x l ih=>
  intro u hu;rw [qeg] at hu
  rcases List.mem_cons.1 hu with rfl | hu
  ·rfl
  ·rcases List.mem_cons.1 hu with rfl | hu
   ·rfl
   ·exact ih u hu
def RdE (w:World) (v:Value) (l:List Ex):Prop:=
 (l=[]∧(v=.slice none 0 0∨∃a c,v=.slice (some a) 0 c))∨
 ∃b off c,v=.slice (some ⟨b,off,none⟩) l.length c∧l.length≤c∧c≤maxLen∧∀j,(h:j<l.length)→
  w.cell? ⟨b,off+j*2,none⟩=some (.int .i64 (l[j]).1)∧w.cell? ⟨b,off+j*2+1,none⟩=some (.int .i64 (l[j]).2)
theorem RdE.carry {w w':World} {v:Value} {l:List Ex} (h:RdE w v l) (hb:Below w.heap.size w w'):RdE w' v l:=by
 rcases h with h | ⟨b,off,c,rfl,hc,hm,hcell⟩
 ·exact .inl h
 ·refine .inr ⟨b,off,c,rfl,hc,hm,fun j hj=>?_⟩
  obtain ⟨h0,h1⟩:=hcell j hj;refine ⟨?_, ?_⟩
  ·rw [hb.cell (World.block_lt_of_cell? w _ h0)];exact h0
  ·rw [hb.cell (World.block_lt_of_cell? w _ h1)];exact h1
theorem RdE.form {w:World} {v:Value} {l:List Ex} (h:RdE w v l):∃a c,v=.slice a l.length c:=by
 rcases h with ⟨rfl,rfl | ⟨a,c,rfl⟩⟩ | ⟨b,off,c,rfl,_⟩<;>exact ⟨_,_,rfl⟩
theorem RdE.len_le {w:World} {v:Value} {l:List Ex} (h:RdE w v l):l.length≤maxLen:=by
 rcases h with ⟨rfl,_⟩ | ⟨b,off,c,rfl,h1,h2,_⟩
 ·simp [maxLen]
 ·omega
theorem RdE.at {w:World} {a:Option Addr} {n c:Nat} {l:List Ex} (h:RdE w (.slice a n c) l) (j:Nat) (hj:j<l.length):
  ∃b off,a=some ⟨b,off,none⟩∧w.cell? ⟨b,off+j*2,none⟩=some (.int .i64 (l[j]).1)∧w.cell? ⟨b,off+j*2+1,none⟩=some (.int .i64 (l[j]).2):=by
 rcases h with ⟨rfl,_⟩ | ⟨b,off,c',e,_,_,hc⟩
 ·exact absurd hj (by simp)
 ·cases e
  exact ⟨b,off,rfl,hc j hj⟩
def OwE (w:World) (base:Nat) (v:Value) (l:List Ex):Prop:=w.ownsRow base 237 2 v l.length (cellsE l)
theorem OwE.rd {w:World} {base:Nat} {v:Value} {l:List Ex} (h:OwE w base v l):RdE w v l:=by
 rcases h.2 with ⟨rfl,hn⟩ | ⟨g,cap,cur,rfl,_,hg,hn,hm,hsz,htake⟩
 ·exact .inl ⟨List.length_eq_zero_iff.1 hn,.inl rfl⟩
 ·refine .inr ⟨g,0,cap,rfl,hn,hm,fun j hj=>?_⟩
  obtain ⟨e1,e2⟩:=qgx l j hj;have c1:=h.cells (g:=g) rfl _ _ e1;have c2:=h.cells (g:=g) rfl _ _ e2;rw [Addr.add_lit] at c1 c2;exact ⟨by simpa using c1,by simpa [Nat.add_assoc] using c2⟩
theorem OwE.form {w:World} {base:Nat} {v:Value} {l:List Ex} (h:OwE w base v l):∃a c,v=.slice a l.length c:=h.rd.form
theorem OwE.carry {w w':World} {base:Nat} {v:Value} {l:List Ex} (h:OwE w base v l) (hb:Below w.heap.size w w'):OwE w' base v l:=qa7 h hb
theorem OwE.mono {w:World} {base base':Nat} {v:Value} {l:List Ex} (h:OwE w base v l) (hb:base'≤base):OwE w base' v l:=qib h hb
theorem OwE.nil (w:World) (base:Nat):OwE w base (.slice none 0 0) []:=World.ownsRow_nil w base _ _
theorem OwE.lies {w:World} {base:Nat} {a:Option Addr} {n c:Nat} {l:List Ex} (h:OwE w base (.slice a n c) l) (hl:l≠[]):∃g,a=some ⟨g,0,none⟩∧base≤g∧n=l.length∧n≤c∧c≤maxLen:=by
 rcases h.2 with ⟨_,hn⟩ | ⟨g,cap,cur,e,hb,hg,hn,hm,hsz,htake⟩
 ·exact absurd (List.length_eq_zero_iff.1 hn) hl
 ·cases e;exact ⟨g,rfl,hb,rfl,hn,hm⟩
theorem OwE.stored {w:World} {base g n c:Nat} {l:List Ex} (h:OwE w base (.slice (some ⟨g,0,none⟩) n c) l) (hn:n=l.length) (k:Nat) (hk:k<l.length) (m:Int):
  OwE (w.setCell ⟨g,k*2+1,none⟩ (.int .i64 m)) base (.slice (some ⟨g,0,none⟩) n c) (l.set k ((l[k]).1,m))∧w.grownBy (w.setCell ⟨g,k*2+1,none⟩ (.int .i64 m)) (some g):=by
 subst hn
 have:=World.ownsRow.stored h (k*2+1) (.int .i64 m)
 refine ⟨?_,this.2⟩;have h1:=this.1;rw [qnv l k hk m] at h1;unfold OwE
 rwa [List.length_set]
theorem OwE.frozen {w:World} {base g n c:Nat} {l:List Ex} (h:OwE w base (.slice (some ⟨g,0,none⟩) n c) l) (hn:n=l.length) (j:Nat):w.frozen? ⟨g,j,none⟩=false:=by
 subst hn;exact World.ownsRow.frozenAt h j
theorem OwE.take {w:World} {base g n c:Nat} {l:List Ex} (h:OwE w base (.slice (some ⟨g,0,none⟩) n c) l) (hn:n=l.length) (k:Nat) (hk:k≤l.length):OwE w base (.slice (some ⟨g,0,none⟩) k c) (l.take k):=by
 subst hn
 rcases h.2 with ⟨e,_⟩ | ⟨g',cap,cur,e,hb,hg,hn,hm,hsz,htake⟩
 ·cases e
 ·cases e
  refine ⟨by rw [qe4],.inr ⟨g,c,cur,by simp [Nat.min_eq_left hk],hb,hg,by simp;omega,hm,hsz, ?_⟩⟩;rw [←quf l k hk,←htake,List.take_take,List.length_take,Nat.min_eq_left hk,Nat.min_eq_left (by omega)]
theorem qug {w:World} {base:Nat} {v:Value} {l:List Ex} (h:OwE w base v l) (hb:base≤w.heap.size) (hl:l.length≤1000000) (x y:Int):
  ∃g c w',(Builtin.append_ #[96,96] 96 #[v,.slice (some ⟨w.heap.size,0,none⟩) 1 1]).run Tryz.prog (w.alloc (.cells #[.int .i64 x,.int .i64 y] 237))=.ok (.slice (some ⟨g,0,none⟩) (l.length+1) c) w'∧
   OwE w' base (.slice (some ⟨g,0,none⟩) (l.length+1) c) (l++[(x,y)])∧Below base w w':=by
 obtain ⟨w8,ew8⟩:∃w8,w8=w.alloc (.cells #[.int .i64 x,.int .i64 y] 237):=⟨_,rfl⟩;rw [←ew8]
 have hb8:Below w.heap.size w w8:=by rw [ew8];exact (Below.refl _ _).alloc (Nat.le_refl _) _
 have hn8:∀j u,([Value.int .i64 x,.int .i64 y]:List Value)[j]? =some u→w8.cell? ((⟨w.heap.size,0,none⟩:Addr).add j)=some u:=by
  intro j u hj;rw [ew8]
  have:=World.news_of_block (w:=w.alloc (.cells #[.int .i64 x,.int .i64 y] 237)) (heap_alloc_new w _) j u (by simpa using hj)
  simpa using this
 obtain ⟨i0,hi,hz0,hz1,hz2⟩:=info_parts Tryz.infoEx;have q2:w8.ownsRow base 237 2 v l.length (cellsE l):=qa7 h hb8;obtain ⟨v9,w9,hrun9,hown9,hg9,_⟩:=run_append_own (P:=Tryz.prog) w8 base 96 96 237 i0 _ 2 16 Tryz.underlying96 hi hz0 hz1 hz2 rfl (by decide) _ _ _ q2 ⟨w.heap.size,0,none⟩ 1 1 [.int .i64 x,.int .i64 y] rfl hn8 (by intro u hu;simp at hu;rcases hu with rfl | rfl<;>rfl) (by unfold maxLen;omega) (by omega) (Nat.le_trans hb hb8.size)
 have hb9:Below base w w9:=(hb8.mono hb).grown hg9 (Nat.le_trans hb hb8.size) fun k hk=>(q2.lt k hk).1
 have e:cellsE (l++[(x,y)])=cellsE l++[.int .i64 x,.int .i64 y]:=by rw [qd0];rfl
 have hle:(l++[(x,y)]).length=l.length+1:=by simp
 rcases hown9.2 with ⟨_,h0⟩ | ⟨g,cap,cur,h0,_⟩
 ·exact absurd h0 (by omega)
 ·subst h0
  exact ⟨g,cap,w9,hrun9,by unfold OwE;rw [hle,e];exact hown9,hb9⟩
/-! ### numbers -/
def qnw (l:List Int):List Value:=l.map fun z=>Value.int .i64 z
def OwI (w:World) (base:Nat) (v:Value) (l:List Int):Prop:=w.ownsRow base 3 1 v l.length (qnw l)
def RdI (w:World) (v:Value) (l:List Int):Prop:=
 (l=[]∧(v=.slice none 0 0∨∃a c,v=.slice (some a) 0 c))∨
 ∃b off c,v=.slice (some ⟨b,off,none⟩) l.length c∧l.length≤c∧c≤maxLen∧∀j,(h:j<l.length)→w.cell? ⟨b,off+j,none⟩=some (.int .i64 l[j])
theorem RdI.form {w:World} {v:Value} {l:List Int} (h:RdI w v l):∃a c,v=.slice a l.length c:=by
 rcases h with ⟨rfl,rfl | ⟨a,c,rfl⟩⟩ | ⟨b,off,c,rfl,_⟩<;>exact ⟨_,_,rfl⟩
theorem OwI.rd {w:World} {base:Nat} {v:Value} {l:List Int} (h:OwI w base v l):RdI w v l:=by
 rcases h.2 with ⟨rfl,hn⟩ | ⟨g,cap,cur,rfl,_,hg,hn,hm,hsz,htake⟩
 ·exact .inl ⟨List.length_eq_zero_iff.1 hn,.inl rfl⟩
 ·refine .inr ⟨g,0,cap,rfl,hn,hm,fun j hj=>?_⟩
  have:=h.cells (g:=g) rfl j (.int .i64 l[j]) (by simp [qnw,List.getElem?_eq_getElem hj])
  simpa [Addr.add_lit] using this
theorem OwI.carry {w w':World} {base:Nat} {v:Value} {l:List Int} (h:OwI w base v l) (hb:Below w.heap.size w w'):OwI w' base v l:=qa7 h hb
theorem OwI.mono {w:World} {base base':Nat} {v:Value} {l:List Int} (h:OwI w base v l) (hb:base'≤base):OwI w base' v l:=qib h hb
theorem OwI.nil (w:World) (base:Nat):OwI w base (.slice none 0 0) []:=World.ownsRow_nil w base _ _
theorem qabi {w:World} {base:Nat} {v:Value} {l:List Int} (h:OwI w base v l) (hb:base≤w.heap.size) (hl:l.length≤100000000) (x:Int):
  ∃g c w',(Builtin.append_ #[93,93] 93 #[v,.slice (some ⟨w.heap.size,0,none⟩) 1 1]).run Tryz.prog (w.alloc (.cells #[.int .i64 x] 3))=.ok (.slice (some ⟨g,0,none⟩) (l.length+1) c) w'∧
   OwI w' base (.slice (some ⟨g,0,none⟩) (l.length+1) c) (l++[x])∧Below base w w'∧w.grownBy w' v.ownBlock:=by
 obtain ⟨w8,ew8⟩:∃w8,w8=w.alloc (.cells #[.int .i64 x] 3):=⟨_,rfl⟩;rw [←ew8]
 have hb8:Below w.heap.size w w8:=by rw [ew8];exact (Below.refl _ _).alloc (Nat.le_refl _) _
 have hn8:∀j u,([Value.int .i64 x]:List Value)[j]? =some u→w8.cell? ((⟨w.heap.size,0,none⟩:Addr).add j)=some u:=by
  intro j u hj;rw [ew8]
  have:=World.news_of_block (w:=w.alloc (.cells #[.int .i64 x] 3)) (heap_alloc_new w _) j u (by simpa using hj)
  simpa using this
 obtain ⟨i0,hi,hz0,hz1,hz2⟩:=info_parts Tryz.infoInt;have q2:w8.ownsRow base 3 1 v l.length (qnw l):=qa7 h hb8;obtain ⟨v9,w9,hrun9,hown9,hg9,_⟩:=run_append_own (P:=Tryz.prog) w8 base 93 93 3 i0 _ 1 8 Tryz.underlying93 hi hz0 hz1 hz2 rfl (by decide) _ _ _ q2 ⟨w.heap.size,0,none⟩ 1 1 [.int .i64 x] rfl hn8 (by intro u hu;simp at hu;subst hu;rfl) (by unfold maxLen;omega) (by omega) (Nat.le_trans hb hb8.size)
 have hb9:Below base w w9:=(hb8.mono hb).grown hg9 (Nat.le_trans hb hb8.size) fun k hk=>(q2.lt k hk).1
 have e:qnw (l++[x])=qnw l++[.int .i64 x]:=by simp [qnw]
 have hle:(l++[x]).length=l.length+1:=by simp
 rcases hown9.2 with ⟨_,h0⟩ | ⟨g,cap,cur,h0,_⟩
 ·exact absurd h0 (by omega)
 ·subst h0
  exact ⟨g,cap,w9,hrun9,by unfold OwI;rw [hle,e];exact hown9,hb9,qc7 (qys (qf4 hb8)) hg9⟩
theorem OwI.apart {w:World} {base:Nat} {v:Value} {l:List Int} (h:OwI w base v l) {k:Nat} {cs:Array Value} {fr:Nat × Nat} (hk:w.heap[k]? =some (.cells cs 237 fr)):some k≠v.ownBlock:=by
 intro e
 rcases h.2 with ⟨rfl,hn⟩ | ⟨g,cap,cur,rfl,_,hg,_⟩
 ·cases e
 ·cases e
  rw [hk] at hg;cases hg
/-! ### marks -/
def mkC (f:Nat→Bool):Array Value:=((List.range 4096).map fun n=>Value.bool (f n)).toArray
theorem qic (f:Nat→Bool):(mkC f).size=4096:=by simp [mkC]
theorem qaiv (f:Nat→Bool):mkC f≠#[]:=by intro e;have:=qic f;rw [e] at this;simp at this
theorem qpu (f:Nat→Bool) (i:Nat) (h:i<4096):(mkC f)[i]? =some (.bool (f i)):=by simp [mkC,h]
theorem qakb (f:Nat→Bool) (i:Nat) (b:Bool):(mkC f).setIfInBounds i (.bool b)=mkC (fun n=>if n=i then b else f n):=by
 apply Array.ext_getElem?;intro j;rw [Array.getElem?_setIfInBounds]
 by_cases hj:j<4096
 ·by_cases e:i=j
  ·subst e
   rw [if_pos rfl,if_pos (by rw [qic];exact hj),qpu _ _ hj];simp
  ·rw [if_neg e,qpu _ _ hj,qpu _ _ hj,if_neg (Ne.symm e)]
 ·have h1:(mkC f)[j]? =none:=Array.getElem?_eq_none (by rw [qic];omega)
  have h2:(mkC (fun n=>if n=i then b else f n))[j]? =none:=Array.getElem?_eq_none (by rw [qic];omega)
  rw [h1,h2]
  split
  ·rw [if_neg (by rw [qic];omega)]
  ·rfl
theorem Tryz.infoMk:(Tryz.prog.info? 293).map (fun i=>(i.zero,i.size,i.bytes))=some (some (.agg (Array.replicate 4096 (.bool false))),4096,4096):=by kernel_rfl
theorem Tryz.zeroMk (w:World):(zeroValue 293).run Tryz.prog w=.ok (.agg (mkC fun _=>false)) w:=by
 obtain ⟨i0,hi,hz0,hz1,hz2⟩:=info_parts Tryz.infoMk
 have e:mkC (fun _=>false)=Array.replicate 4096 (.bool false):=by
  unfold mkC;rw [List.map_const',List.length_range,List.toArray_replicate]
 rw [e]
 simp [zeroValue,typeInfo,hi,hz0]
def Mk (w:World) (b:Nat) (f:Nat→Bool):Prop:=w.heap[b]? =some (.cells (mkC f) 293 (0,0))
theorem Mk.cell {w:World} {b:Nat} {f:Nat→Bool} (h:Mk w b f) (i:Nat) (hi:i<4096):w.cell? ⟨b,i,none⟩=some (.bool (f i)):=by
 rw [cell_of_row w b i (mkC f) _ (0,0) h,qpu f i hi]
theorem Mk.frozen {w:World} {b:Nat} {f:Nat→Bool} (h:Mk w b f) (i:Nat):w.frozen? ⟨b,i,none⟩=false:=frozen_of_row w b i _ _ h
theorem Mk.set {w:World} {b:Nat} {f:Nat→Bool} (h:Mk w b f) (i:Nat) (c:Bool):Mk (w.setCell ⟨b,i,none⟩ (.bool c)) b (fun n=>if n=i then c else f n):=by
 have:=heap_setCell_same w b i (mkC f) 293 (.bool c) h
 rw [qakb] at this;exact this
theorem Mk.kept {w w':World} {b:Nat} {f:Nat→Bool} {r:Option Nat} (h:Mk w b f) (hg:w.grownBy w' r) (hne:some b≠r):Mk w' b f:=(hg.block b (Array.getElem?_eq_some_iff.1 h).1 hne).trans h
theorem Mk.carry {w w':World} {b:Nat} {f:Nat→Bool} (h:Mk w b f) (hb:Below w.heap.size w w'):Mk w' b f:=h.kept (qf4 hb) (by simp)
theorem Mk.lt {w:World} {b:Nat} {f:Nat→Bool} (h:Mk w b f):b<w.heap.size:=(Array.getElem?_eq_some_iff.1 h).1
theorem Mk.new (w:World) (f:Nat→Bool):Mk (w.alloc (.cells (mkC f) 293)) w.heap.size f:=heap_alloc_new w _
theorem Mk.same {w:World} {b:Nat} {f g:Nat→Bool} (h:Mk w b f) (e:∀n,f n=g n):Mk w b g:=by rw [←(funext e:f=g)];exact h
theorem may_t {x:Ex} (h1:0≤x.1) (h2:1≤x.2) (h3:x.1+x.2≤4096):mayX x=true:=(qbp x).2 ⟨h1,h2,h3⟩
theorem quh {x:Ex} (h:¬(0≤x.1∧1≤x.2∧x.1+x.2≤4096)):mayX x=false:=by rw [←Bool.not_eq_true,qbp];exact h
theorem qyu (x:Ex) (hx:wfX x) (w:World):Calls Tryz.prog 269 #[.agg #[.int .i64 x.1,.int .i64 x.2]] w fun e w'=>e=.returned (.bool (mayX x))∧Below w.heap.size w w':=by
 obtain ⟨p,q⟩:=x;obtain ⟨a1,a2,a3,a4⟩:=hx
 simp only at a1 a2 a3 a4 ⊢
 have hb:∀o,Below w.heap.size w (World.alloc w o):=fun o=>(Below.refl _ _).alloc (Nat.le_refl _) _
 by_cases h1:0≤p
 ·by_cases h2:1≤q
  ·have hw:wrap64 (4096 - p)=4096 - p:=by unfold wrap64;omega
   by_cases h3:q≤4096 - p
   ·have HM:=hide (may_t (x:=(p,q)) h1 h2 (by simp;omega))
    go_enter Tryz.func269,Tryz.ntmps269
    go_wp2;go_ret;exact ⟨by rw [HM.out];rfl,hb _⟩
   ·have HM:=hide (quh (x:=(p,q)) (by simp;omega))
    have h3':decide (q≤4096 - p)=false:=by simpa using h3
    go_enter Tryz.func269,Tryz.ntmps269
    go_wp2;go_ret;exact ⟨by rw [HM.out];rfl,hb _⟩
  ·have HM:=hide (quh (x:=(p,q)) (by simp;omega))
   have h2':decide (1≤q)=false:=by simpa using h2
   go_enter Tryz.func269,Tryz.ntmps269
   go_wp2;go_ret;exact ⟨by rw [HM.out];rfl,hb _⟩
 ·have HM:=hide (quh (x:=(p,q)) (by simp;omega))
  have h1':decide (0≤p)=false:=by simpa using h1
  go_enter Tryz.func269,Tryz.ntmps269
  go_wp2;go_ret;exact ⟨by rw [HM.out];rfl,hb _⟩
theorem qwn (x:Ex) (hx:wfX x) (w:World):Calls Tryz.prog 243 #[.agg #[.int .i64 x.1,.int .i64 x.2]] w fun e w'=>e=.returned (.bool (mayX x))∧Below w.heap.size w w':=by
 obtain ⟨p,q⟩:=x;obtain ⟨a1,a2,a3,a4⟩:=hx
 simp only at a1 a2 a3 a4 ⊢
 have hb:∀o,Below w.heap.size w (World.alloc w o):=fun o=>(Below.refl _ _).alloc (Nat.le_refl _) _
 by_cases h1:0≤p
 ·by_cases h0:p≤4096
  ·by_cases h2:1≤q
   ·have hw:wrap64 (4096 - p)=4096 - p:=by unfold wrap64;omega
    by_cases h3:q≤4096 - p
    ·have HM:=hide (may_t (x:=(p,q)) h1 h2 (by simp;omega))
     go_enter Tryz.func243,Tryz.ntmps243
     go_wp2;go_ret;exact ⟨by rw [HM.out];rfl,hb _⟩
    ·have HM:=hide (quh (x:=(p,q)) (by simp;omega))
     have h3':decide (q≤4096 - p)=false:=by simpa using h3
     go_enter Tryz.func243,Tryz.ntmps243
     go_wp2;go_ret;exact ⟨by rw [HM.out];rfl,hb _⟩
   ·have HM:=hide (quh (x:=(p,q)) (by simp;omega))
    have h2':decide (1≤q)=false:=by simpa using h2
    go_enter Tryz.func243,Tryz.ntmps243
    go_wp2;go_ret;exact ⟨by rw [HM.out];rfl,hb _⟩
  ·have HM:=hide (quh (x:=(p,q)) (by simp;omega))
   have h0':decide (p≤4096)=false:=by simpa using h0
   go_enter Tryz.func243,Tryz.ntmps243
   go_wp2;go_ret;exact ⟨by rw [HM.out];rfl,hb _⟩
 ·have HM:=hide (quh (x:=(p,q)) (by simp;omega))
  have h1':decide (0≤p)=false:=by simpa using h1
  go_enter Tryz.func243,Tryz.ntmps243
  go_wp2;go_ret;exact ⟨by rw [HM.out];rfl,hb _⟩
theorem qakc (x:Ex) (hx:mayX x=true) (n:Int) (w:World):Calls Tryz.prog 244 #[.agg #[.int .i64 x.1,.int .i64 x.2],.int .i64 n] w fun e w'=>e=.returned (.bool (inX x n))∧Below w.heap.size w w':=by
 rw [qbp] at hx;obtain ⟨p,q⟩:=x;obtain ⟨a1,a2,a3⟩:=hx
 simp only at a1 a2 a3 ⊢
 have hb:∀o,Below w.heap.size w (World.alloc w o):=fun o=>(Below.refl _ _).alloc (Nat.le_refl _) _
 have hw:wrap64 (p+q)=p+q:=by unfold wrap64;omega
 by_cases h1:p≤n
 ·by_cases h2:n<p+q
  ·have HM:=hide (show inX (p,q) n=true by simp [inX,h1,h2])
   go_enter Tryz.func244,Tryz.ntmps244
   go_wp2;go_ret;exact ⟨by rw [HM.out];rfl,hb _⟩
  ·have HM:=hide (show inX (p,q) n=false by simp [inX,h1,h2])
   have h2':decide (n<p+q)=false:=by simpa using h2
   go_enter Tryz.func244,Tryz.ntmps244
   go_wp2;go_ret;exact ⟨by rw [HM.out];rfl,hb _⟩
 ·have HM:=hide (show inX (p,q) n=false by simp [inX,h1])
  have h1':decide (p≤n)=false:=by simpa using h1
  go_enter Tryz.func244,Tryz.ntmps244
  go_wp2;go_ret;exact ⟨by rw [HM.out];rfl,hb _⟩
theorem qabj (x y:Ex) (hx:mayX x=true) (hy:mayX y=true) (w:World):Calls Tryz.prog 270 #[.agg #[.int .i64 x.1,.int .i64 x.2],.agg #[.int .i64 y.1,.int .i64 y.2]] w fun e w'=>e=.returned (.bool (qdx x y))∧Below w.heap.size w w':=by
 rw [qbp] at hx hy;obtain ⟨p,q⟩:=x;obtain ⟨r,s⟩:=y;obtain ⟨a1,a2,a3⟩:=hx;obtain ⟨b1,b2,b3⟩:=hy
 simp only at a1 a2 a3 b1 b2 b3 ⊢
 have hb:∀o o',Below w.heap.size w (World.alloc (World.alloc w o) o'):=fun o o'=>((Below.refl _ _).alloc (Nat.le_refl _) _).alloc (by simp) _
 have hw:wrap64 (p+q)=p+q:=by unfold wrap64;omega
 have hw':wrap64 (r+s)=r+s:=by unfold wrap64;omega
 by_cases h1:p<r+s
 ·by_cases h2:r<p+q
  ·have HM:=hide (show qdx (p,q) (r,s)=true by simp [qdx,h1,h2])
   go_enter Tryz.func270,Tryz.ntmps270
   go_wp2;go_ret;exact ⟨by rw [HM.out];rfl,hb _ _⟩
  ·have HM:=hide (show qdx (p,q) (r,s)=false by simp [qdx,h1,h2])
   have h2':decide (r<p+q)=false:=by simpa using h2
   go_enter Tryz.func270,Tryz.ntmps270
   go_wp2;go_ret;exact ⟨by rw [HM.out];rfl,hb _ _⟩
 ·have HM:=hide (show qdx (p,q) (r,s)=false by simp [qdx,h1])
  have h1':decide (p<r+s)=false:=by simpa using h1
  go_enter Tryz.func270,Tryz.ntmps270
  go_wp2;go_ret;exact ⟨by rw [HM.out];rfl,hb _ _⟩
theorem qjz (a:Option Addr) (n c:Nat) (l:List Ex) (w:World) (hrd:RdE w (.slice a n c) l) (hn:n=l.length) (hwf:∀x∈l,wfX x):
  Calls Tryz.prog 238 #[.slice a n c] w fun e w'=>e=.returned (.int .i64 (allX l))∧Below w.heap.size w w':=by
 have hm:n≤maxLen:=hn ▸ hrd.len_le;unfold maxLen at hm;have HR:=hide hrd;have HN:=hide hn;have HW:=hide hwf;clear hrd hn hwf
 by_cases g1:n > 4096
 ·have HM:=hide (show allX l=4 by have:=HN.out;unfold allX;rw [if_pos (by omega)])
  have g1':(4096:Int)<n:=by omega
  go_enter Tryz.func238,Tryz.ntmps238
  go_wp2;go_ret;exact ⟨by rw [HM.out];rfl,Below.refl _ _⟩
 have g1':decide ((4096:Int)<n)=false:=by simpa using (by omega:¬(4096:Int)<n)
 go_enter Tryz.func238,Tryz.ntmps238
 go_wp2
 go_loopw [10] (fun i wr=>∃k:Nat,k≤n∧i=.int .i64 k∧Hid (∀x∈l.take k,mayX x=true)∧Below w.heap.size w wr) (fun i _=>n - (intOf i).toNat)
 case atStart=>exact ⟨0,Nat.zero_le _,rfl,hide (by simp),Below.refl _ _⟩
 case round=>
  obtain ⟨k,hk,rfl,hall,hbel⟩:=hrel
  by_cases hlt:k<n
  ·have hlt':(k:Int)<n:=by omega
   have hkl:k<l.length:=by have:=HN.out;omega
   obtain ⟨b,off,rfl,q0,q1⟩:=(HR.out.carry hbel).at k hkl
   go_wp2_with fail
   refine (qyu (l[k]) (HW.out _ (List.getElem_mem hkl)) _).mono ?_
   rintro e wc ⟨rfl,hbc⟩;have hbc':Below w.heap.size w wc:=(hbel.alloc hbel.size _).trans (hbc.mono (Nat.le_trans hbel.size (by simp)));clear hbc
   cases hp:mayX l[k] with
   | true=>
    have HA:=hide (show ∀x∈l.take (k+1),mayX x=true by
     intro x hx;rw [qbc l k hkl] at hx
     rcases List.mem_append.1 hx with hx | hx
     ·exact hall.out x hx
     ·rw [List.mem_singleton.1 hx];exact hp)
    clear hp;go_wp2;go_roundw
    case rel=>exact ⟨k+1,by omega,rfl,HA,hbc'⟩
    case measure=>simp only [intOf];omega
   | false=>
    have HM:=hide (show allX l=8 from qoz hkl (by have:=HN.out;omega) hp);clear hp;go_wp2;go_ret;exact ⟨by rw [HM.out];rfl,hbc'⟩
  ·have hd:decide ((k:Int)<n)=false:=by simpa using (by omega:¬(k:Int)<n)
   have e:k=l.length:=by have:=HN.out;omega
   have HM:=hide (show allX l=0 from qk2 (by have:=HN.out;omega) (by rw [←e];exact hall.out));clear e;go_wp2;go_ret;exact ⟨by rw [HM.out];rfl,hbel⟩
theorem qabk (f:Nat→Bool) (r k n:Nat):(if n=r+k then true else (f n || inX ((r:Int),(k:Int)) n))=(f n || inX ((r:Int),((k+1:Nat):Int)) n):=by
 rw [Bool.eq_iff_iff]
 by_cases e:n=r+k
 ·rw [if_pos e];simp only [Bool.or_eq_true,inX,Bool.and_eq_true,decide_eq_true_eq]
  exact ⟨fun _=>.inr (by omega),fun _=>trivial⟩
 ·rw [if_neg e];simp only [Bool.or_eq_true,inX,Bool.and_eq_true,decide_eq_true_eq]
  constructor
  ·rintro (h | h)
   ·exact .inl h
   ·right;omega
  ·rintro (h | h)
   ·exact .inl h
   ·right;omega
theorem qafo (b:Nat) (f:Nat→Bool) (x:Ex) (hx:mayX x=true) (w:World) (hm:Mk w b f):
  Calls Tryz.prog 266 #[.pointer (some ⟨b,0,none⟩),.agg #[.int .i64 x.1,.int .i64 x.2]] w fun e w'=>e=.returned (.tuple #[])∧Mk w' b (fun n=>f n || inX x n)∧w.grownBy w' (some b):=by
 rw [qbp] at hx;obtain ⟨p,q⟩:=x;obtain ⟨a1,a2,a3⟩:=hx
 simp only at a1 a2 a3 ⊢
 obtain ⟨m,rfl⟩:∃m:Nat,q=m:=⟨q.toNat,by omega⟩;obtain ⟨r,rfl⟩:∃r:Nat,p=r:=⟨p.toNat,by omega⟩;have hlt:=hm.lt;have HM:=hide (hm.carry ((Below.refl w.heap.size w).alloc (Nat.le_refl _) (.cells #[.int .i64 r,.int .i64 m] 237)));clear hm
 have hbw:(w.alloc (.cells #[.int .i64 r,.int .i64 m] 237)).cell? ⟨w.heap.size,0,none⟩=some (.int .i64 r):=by simp
 have hbw1:(w.alloc (.cells #[.int .i64 r,.int .i64 m] 237)).cell? ⟨w.heap.size,1,none⟩=some (.int .i64 m):=by simp
 have hg0:w.grownBy (w.alloc (.cells #[.int .i64 r,.int .i64 m] 237)) (some b):=World.grownBy_alloc _ _ _
 go_enter Tryz.func266,Tryz.ntmps266
 go_wp2
 go_loopw [7] (fun i wr=>∃k:Nat,k≤m∧i=.int .i64 k∧Hid (Mk wr b (fun n=>f n || inX ((r:Int),(k:Int)) n))∧w.grownBy wr (some b)∧wr.cell? ⟨w.heap.size,0,none⟩=some (.int .i64 r)) (fun i _=>m - (intOf i).toNat)
 case atStart=>exact ⟨0,Nat.zero_le _,rfl,hide (HM.out.same fun n=>by simp [inX];omega),hg0,hbw⟩
 case round=>
  obtain ⟨k,hk,rfl,hmk,hg,hc⟩:=hrel
  by_cases hlt2:k<m
  ·have hlt':(k:Int)<m:=by omega
   have hcell:=hmk.out.cell (r+k) (by omega);have hfr:=hmk.out.frozen (r+k)
   have hwr:wrap64 ((r:Int)+k)=((r+k:Nat):Int):=by unfold wrap64;omega
   have hin:((r+k:Nat):Int)<4096:=by omega
   have HS:=hide (hmk.out.set (r+k) true);go_wp2
   go_region
   go_wp2;go_roundw
   case rel=>
    refine ⟨k+1,by omega,rfl,hide (HS.out.same fun n=>?_),qfk (qc7 hg (qai _ _ _)), ?_⟩
    ·exact qabk f r k n
    ·exact (qai _ _ _).cell hc (by simp;omega)
   case measure=>simp only [intOf];omega
  ·have hd:decide ((k:Int)<m)=false:=by simpa using (by omega:¬(k:Int)<m)
   obtain rfl:k=m:=by omega
   go_wp2
   refine bodyPost_end (v:=.tuple #[]) ?_ rfl ⟨rfl,hmk.out,hg⟩
   simp [results,Tryz.results266,go_sem]
theorem qafp {f:Nat→Bool} {r k m:Nat} (h:∀n:Nat,f n=true→inX ((r:Int),(k:Int)) n=false) (h1:f (r+k)=false):∀n:Nat,f n=true→inX ((r:Int),((k+1:Nat):Int)) n=false:=by
 intro n hn;have h0:=h n hn
 have hne:n≠r+k:=by rintro rfl;rw [h1] at hn;cases hn
 simp only [inX,Bool.and_eq_false_iff,decide_eq_false_iff_not] at h0 ⊢
 omega
theorem qui (b:Nat) (f:Nat→Bool) (x:Ex) (hx:mayX x=true) (w:World) (hm:Mk w b f):
  Calls Tryz.prog 239 #[.pointer (some ⟨b,0,none⟩),.agg #[.int .i64 x.1,.int .i64 x.2]] w fun e w'=>w.grownBy w' (some b)∧
   ((e=.returned (.bool true)∧Mk w' b (fun n=>f n || inX x n)∧∀n:Nat,f n=true→inX x n=false)∨(e=.returned (.bool false)∧∃n:Nat,n<4096∧f n=true∧inX x n=true)):=by
 rw [qbp] at hx;obtain ⟨p,q⟩:=x;obtain ⟨a1,a2,a3⟩:=hx
 simp only at a1 a2 a3 ⊢
 obtain ⟨m,rfl⟩:∃m:Nat,q=m:=⟨q.toNat,by omega⟩;obtain ⟨r,rfl⟩:∃r:Nat,p=r:=⟨p.toNat,by omega⟩;have hlt:=hm.lt;have HM:=hide (hm.carry ((Below.refl w.heap.size w).alloc (Nat.le_refl _) (.cells #[.int .i64 r,.int .i64 m] 237)));clear hm
 have hbw:(w.alloc (.cells #[.int .i64 r,.int .i64 m] 237)).cell? ⟨w.heap.size,0,none⟩=some (.int .i64 r):=by simp
 have hbw1:(w.alloc (.cells #[.int .i64 r,.int .i64 m] 237)).cell? ⟨w.heap.size,1,none⟩=some (.int .i64 m):=by simp
 have hg0:w.grownBy (w.alloc (.cells #[.int .i64 r,.int .i64 m] 237)) (some b):=World.grownBy_alloc _ _ _
 go_enter Tryz.func239,Tryz.ntmps239
 go_wp2
 go_loopw [8] (fun i wr=>∃k:Nat,k≤m∧i=.int .i64 k∧Hid (Mk wr b (fun n=>f n || inX ((r:Int),(k:Int)) n))∧Hid (∀n:Nat,f n=true→inX ((r:Int),(k:Int)) n=false)∧w.grownBy wr (some b)∧wr.cell? ⟨w.heap.size,0,none⟩=some (.int .i64 r)) (fun i _=>m - (intOf i).toNat)
 case atStart=>exact ⟨0,Nat.zero_le _,rfl,hide (HM.out.same fun n=>by simp [inX];omega),hide (fun n _=>by simp only [inX,Bool.and_eq_false_iff,decide_eq_false_iff_not];omega),hg0,hbw⟩
 case round=>
  obtain ⟨k,hk,rfl,hmk,hhit,hg,hc⟩:=hrel
  by_cases hlt2:k<m
  ·have hlt':(k:Int)<m:=by omega
   have hcell:=hmk.out.cell (r+k) (by omega);have hfr:=hmk.out.frozen (r+k)
   have hwr:wrap64 ((r:Int)+k)=((r+k:Nat):Int):=by unfold wrap64;omega
   have hin:((r+k:Nat):Int)<4096:=by omega
   have HS:=hide (hmk.out.set (r+k) true)
   have hnx:inX ((r:Int),(k:Int)) ((r+k:Nat):Int)=false:=by simp only [inX,Bool.and_eq_false_iff,decide_eq_false_iff_not];omega
   rw [hnx,Bool.or_false] at hcell;clear hnx
   cases hf:f (r+k) with
   | false=>
    rw [hf] at hcell;have HH:=hide (qafp (m:=m) hhit.out hf);clear hf;go_wp2
    go_region
    go_wp2
    go_region
    go_wp2;go_roundw
    case rel=>
     refine ⟨k+1,by omega,rfl,hide (HS.out.same fun n=>?_),HH,qfk (qfk (qc7 hg (qai _ _ _))), ?_⟩
     ·exact qabk f r k n
     ·exact (qai _ _ _).cell hc (by simp;omega)
    case measure=>simp only [intOf];omega
   | true=>
    rw [hf] at hcell;have HF:=hide (show ∃n:Nat,n<4096∧f n=true∧inX ((r:Int),(m:Int)) n=true from ⟨r+k,by omega,hf,by simp [inX];omega⟩);clear hf;go_wp2
    go_region
    go_wp2;go_ret;exact ⟨qfk hg,.inr ⟨rfl,HF.out⟩⟩
  ·have hd:decide ((k:Int)<m)=false:=by simpa using (by omega:¬(k:Int)<m)
   obtain rfl:k=m:=by omega
   go_wp2;go_ret;exact ⟨hg,.inl ⟨rfl,hmk.out,hhit.out⟩⟩
theorem qr0 {l:List Ex} {k:Nat} {N:Int} (hkl:k<l.length) (hk:k+1=l.length) (h:l[k].1+l[k].2=N):l.set k (l[k].1,l[k].2+1)=qi3 l N:=by
 rcases List.eq_nil_or_concat l with rfl | ⟨l',x,rfl⟩
 ·simp at hk
 ·have e:k=l'.length:=by simp at hk;omega
  subst e
  simp only [List.concat_eq_append,List.getElem_append_right (Nat.le_refl _),Nat.sub_self,List.getElem_cons_zero] at h ⊢
  rw [qew,if_pos h]
  simp
theorem qr1 {l:List Ex} {k:Nat} {N:Int} (hkl:k<l.length) (hk:k+1=l.length) (h:¬l[k].1+l[k].2=N):l++[(N,1)]=qi3 l N:=by
 rcases List.eq_nil_or_concat l with rfl | ⟨l',x,rfl⟩
 ·simp at hk
 ·have e:k=l'.length:=by simp at hk;omega
  subst e
  simp only [List.concat_eq_append,List.getElem_append_right (Nat.le_refl _),Nat.sub_self,List.getElem_cons_zero] at h ⊢
  rw [qew,if_neg h]
theorem qwo {w:World} {base:Nat} {v:Value} {l:List Ex} (h:OwE w base v l) (hb:base≤w.heap.size) (hl:l.length≤1000000) (x y:Int) (nq:Nat):
  ∃g c w',(Builtin.append_ #[96,96] 96 #[v,.slice (some ⟨w.heap.size,0,none⟩) 1 1]).run Tryz.prog ((w.drewN nq).alloc (.cells #[.int .i64 x,.int .i64 y] 237))=.ok (.slice (some ⟨g,0,none⟩) (l.length+1) c) w'∧
   OwE w' base (.slice (some ⟨g,0,none⟩) (l.length+1) c) (l++[(x,y)])∧Below base w w':=by
 obtain ⟨g,c,w',h1,h2,h3⟩:=qug (w:=w.drewN nq) h hb hl x y;exact ⟨g,c,w',h1,h2,⟨h3.os,h3.tape,h3.output,h3.size,h3.block⟩⟩
theorem qafq (base:Nat) (a:Option Addr) (n c:Nat) (l:List Ex) (N:Int) (w:World) (h:OwE w base (.slice a n c) l) (hb:base≤w.heap.size) (hn:n=l.length) (hl:l.length≤4096) (hmay:∀x∈l,mayX x=true):
  Calls Tryz.prog 288 #[.slice a n c,.int .i64 N] w fun e w'=>∃v,e=.returned v∧OwE w' base v (qi3 l N)∧Below base w w':=by
 have HR:=hide (qwo h hb (by omega) N 1)
 cases hz:l.length with
 | zero=>
  obtain rfl:l=[]:=List.length_eq_zero_iff.1 hz
  have hn0:n=0:=by simpa using hn
  subst hn0;clear h hn hmay
  go_enter Tryz.func288,Tryz.ntmps288
  go_wp2
  go_quiet (fail)
  obtain ⟨g9,c9,w9,hrun,hown9,hbel9⟩:=HR.out nq;have HO:=hide hown9;clear hown9
  go_wp2_with (at_builtin;refine qaf rfl (.tmp 35) (.tmp 38) 96 rfl rfl rfl rfl hrun ?_)
  go_ret;exact ⟨_,rfl,HO.out,hbel9⟩
 | succ k=>
  obtain ⟨g,rfl,hbg, -,hnc,hcm⟩:=h.lies (by intro e;rw [e] at hz;simp at hz)
  have hn1:n=k+1:=by omega
  subst hn1
  have hkl:k<l.length:=by omega
  have hx:=(qbp _).1 (hmay _ (List.getElem_mem hkl));obtain ⟨e1,e2⟩:=qgx l k hkl
  have c1:w.cell? ⟨g,k*2,none⟩=some (.int .i64 (l[k]).1):=by have:=h.cells (g:=g) rfl _ _ e1;rw [Addr.add_lit] at this;simpa using this
  have c2:w.cell? ⟨g,k*2+1,none⟩=some (.int .i64 (l[k]).2):=by have:=h.cells (g:=g) rfl _ _ e2;rw [Addr.add_lit] at this;simpa [Nat.add_assoc] using this
  have fr:=fun j=>World.ownsRow.frozenAt (hn ▸ h:w.ownsRow base 237 2 (.slice (some ⟨g,0,none⟩) (k+1) c) (k+1) (cellsE l)) j
  obtain ⟨s1,g1⟩:=h.stored hn k hkl ((l[k]).2+1);have HW:=hide (fun hN=>qr0 (N:=N) hkl hz.symm hN);have HW2:=hide (fun hN=>qr1 (N:=N) hkl hz.symm hN);have HS:=hide s1;have HG:=hide g1;have HBG:=hide hbg
  have hw1:wrap64 ((k:Int)+1 - 1)=k:=by unfold wrap64;unfold maxLen at hcm;omega
  have hww:=hn;clear hww e1 e2 s1 g1 h hn hmay hz hbg;generalize hp:(l[k]).1=p at *;generalize hq:(l[k]).2=q at *
  have hw2:wrap64 (p+q)=p+q:=by unfold wrap64;omega
  have hw3:wrap64 (q+1)=q+1:=by unfold wrap64;omega
  have hkc:(k:Int)<((k+1:Nat):Int):=by omega
  clear hp hq
  by_cases hN:p+q=N
  ·have HE:=hide (HW.out hN)
   clear HW HW2
   go_enter Tryz.func288,Tryz.ntmps288
   go_wp2
   go_quiet (fail)
   go_wp2;go_ret;refine ⟨_,rfl, ?_, ?_⟩
   ·rw [←HE.out];exact HS.out
   ·exact Below.setCell (below_drewN (Below.refl base w) nq) HBG.out _
  ·have HE:=hide (HW2.out hN)
   have hN':(p+q==N)=false:=by simpa using hN
   clear HW HW2
   go_enter Tryz.func288,Tryz.ntmps288
   go_wp2
   go_quiet (fail)
   obtain ⟨g9,c9,w9,hrun,hown9,hbel9⟩:=HR.out nq;have HO:=hide hown9;clear hown9
   go_wp2_with (at_builtin;refine qaf rfl (.tmp 35) (.tmp 38) 96 rfl rfl rfl rfl hrun ?_)
   go_ret;refine ⟨_,rfl, ?_, ?_⟩
   ·rw [←HE.out];exact HO.out
   ·exact hbel9
theorem qr2 {u:Int→Bool} {a:Int} {k:Nat} (ha:0≤a) (hk:a+k≤4096):∀x∈qcc u a k,mayX x=true:=by
 intro x hx
 have:=(qi6 u a k).1.1 x hx
 rw [qbp];omega
theorem qr3 (b:Nat) (f:Nat→Bool) (p m:Nat) (T:Int) (w:World) (hm:Mk w b f) (hto:p+m≤4096) (hT:T=p+m):
  Calls Tryz.prog 267 #[.pointer (some ⟨b,0,none⟩),.int .i64 p,.int .i64 T] w fun e w'=>∃v,e=.returned v∧OwE w' w.heap.size v (qcc (fun n=>f n.toNat) p m)∧Below w.heap.size w w':=by
 have hlt:=hm.lt;have HM:=hide hm;have HT:=hide hT;clear hm hT
 go_enter Tryz.func267,Tryz.ntmps267
 go_wp2
 go_loopw [7,8] (fun v i wr=>∃k:Nat,k≤m∧i=.int .i64 ((p:Int)+(k:Int))∧Hid (OwE wr w.heap.size v (qcc (fun n=>f n.toNat) p k))∧Below w.heap.size w wr) (fun _ i _=>p+m - (intOf i).toNat)
 case atStart=>exact ⟨0,Nat.zero_le _,by simp,hide (OwE.nil _ _),Below.refl _ _⟩
 case round=>
  obtain ⟨k,hk,rfl,ho,hbel⟩:=hrel
  by_cases hlt2:k<m
  ·have hlt':(p:Int)+(k:Int)<T:=by have:=HT.out;omega
   have hmk:Mk wr b f:=(hbel.block b hlt).trans HM.out;have hcell:=hmk.cell (p+k) (by omega)
   have hin:(p:Int)+(k:Int)<4096:=by omega
   have hin0:0≤(p:Int)+(k:Int):=by omega
   have hin1:((p:Int)+(k:Int)).toNat=p+k:=by omega
   have hwr:wrap64 ((p:Int)+(k:Int)+1)=(p:Int)+(k:Int)+1:=by unfold wrap64;omega
   clear hmk
   cases hf:f (p+k) with
   | true=>
    rw [hf] at hcell
    have HE:=hide (show qcc (fun n=>f n.toNat) p (k+1)=qcc (fun n=>f n.toNat) p k by
     rw [qcc,if_pos]
     show f ((p:Int)+k).toNat=true
     rw [hin1];exact hf)
    clear hf;go_wp2;go_roundw
    case rel=>exact ⟨k+1,by omega,congrArg (Value.int .i64) (by omega),hide (by rw [HE.out];exact ho.out),hbel⟩
    case measure=>simp only [intOf];omega
   | false=>
    rw [hf] at hcell
    have HE:=hide (show qcc (fun n=>f n.toNat) p (k+1)=qi3 (qcc (fun n=>f n.toNat) p k) ((p:Int)+(k:Int)) by
     rw [qcc,if_neg]
     show ¬f ((p:Int)+k).toNat=true
     rw [hin1,hf];simp)
    clear hf;obtain ⟨a7,c7,rfl⟩:=ho.out.form;have hl:=qh0 (fun n=>f n.toNat) p k;have HMay:=hide (qr2 (u:=fun n=>f n.toNat) (a:=p) (k:=k) (by omega) (by omega))
    go_wp2_with fail
    refine (qafq w.heap.size a7 _ c7 _ ((p:Int)+(k:Int)) wr ho.out hbel.size rfl (by omega) HMay.out).mono ?_
    rintro e wc ⟨v,rfl,hown,hbc⟩;have HO:=hide (show OwE wc w.heap.size v (qcc (fun n=>f n.toNat) p (k+1)) by rw [HE.out];exact hown);have hbc':=hbel.trans hbc;clear hbc hown HMay hl;go_wp2;go_roundw
    case rel=>exact ⟨k+1,by omega,congrArg (Value.int .i64) (by omega),HO,hbc'⟩
    case measure=>simp only [intOf];omega
  ·have hd:decide ((p:Int)+(k:Int)<T)=false:=by simpa using (by have:=HT.out;omega:¬(p:Int)+(k:Int)<T)
   obtain rfl:k=m:=by omega
   go_wp2;go_ret;exact ⟨_,rfl,ho.out,hbel⟩
theorem qafr {l:List Ex} {k:Nat} (h:k<l.length) (y:Ex):(l.set k y).take (k+1)=l.take k++[y]:=by
 rw [qbc _ _ (by simpa using h)]
 simp [List.take_set_of_le]
theorem qafs {l:List Ex} {k:Nat} {Z W:Int} (hkl:k<l.length) (hz:Z=W - qbj (l.take k)) (hz1:1≤Z) (h1:∀x∈l,1≤x.2) (hle:Z≤(l[k]).2):cutX l W=some ((l.set k ((l[k]).1,Z)).take (k+1)):=by
 rw [qq6 (w:=W) hkl (by omega) h1 (by omega),qafr hkl,hz]
theorem qaft {l:List Ex} {k:Nat} {Z W:Int} (hkl:k<l.length) (hz:Z=W - qbj (l.take k)):Z - (l[k]).2=W - qbj (l.take (k+1)):=by
 rw [qbc l k hkl,qgp];omega
theorem qakd (base:Nat) (a:Option Addr) (n c:Nat) (l:List Ex) (W:Int) (w:World) (h:OwE w base (.slice a n c) l) (hb:base≤w.heap.size) (hn:n=l.length) (hl:l.length≤4096) (hmay:∀x∈l,0≤x.1∧1≤x.2∧x.1+x.2≤4096) (hW:1≤W) (hW':W≤4096):
  Calls Tryz.prog 233 #[.slice a n c,.int .i64 W] w fun e w'=>∃v,e=.returned (.tuple #[v,.int .i64 (cutE l W)])∧OwE w' base v ((cutX l W).getD [])∧Below base w w':=by
 have HM:=hide hmay;have H1:=hide (fun x hx=>(hmay x hx).2.1:∀x∈l,1≤x.2);have HO:=hide h;have HN:=hide hn
 have hn4:n≤4096:=by omega
 clear h hmay hn hl
 go_enter Tryz.func233,Tryz.ntmps233
 go_wp2
 go_loopw [1,10] (fun z i wr=>∃(k:Nat) (Z:Int),k≤n∧z=.int .i64 Z∧i=.int .i64 k∧Hid (Z=W - qbj (l.take k))∧1≤Z∧Z≤4096∧Below w.heap.size w wr) (fun _ i _=>n - (intOf i).toNat)
 case atStart=>exact ⟨0,W,Nat.zero_le _,rfl,rfl,hide (by simp [qbj]),hW,hW',Below.refl _ _⟩
 case round=>
  obtain ⟨k,Z,hk,rfl,rfl,hz,hz1,hz2,hbel⟩:=hrel
  by_cases hlt:k<n
  ·have hlt':(k:Int)<n:=by omega
   have hkl:k<l.length:=by have:=HN.out;omega
   obtain ⟨g,rfl,hbg, -,hnc, -⟩:=HO.out.lies (by intro e;rw [e] at hkl;simp at hkl);have hor:=HO.out.carry hbel;obtain ⟨b,off,e,q0,q1⟩:=hor.rd.at k hkl;cases e;rw [Nat.zero_add] at q0 q1
   by_cases hle:Z≤(l[k]).2
   ·have HC:=hide (qafs hkl hz.out hz1 H1.out hle)
    have hor2:=hor.carry ((Below.refl _ _).alloc (Nat.le_refl _) (.cells #[.int .i64 (l[k]).1,.int .i64 (l[k]).2] 237));obtain ⟨s1,g1⟩:=hor2.stored HN.out k hkl Z;have HS:=hide (s1.take (by simpa using HN.out) (k+1) (by simp;omega));have hfr:=hor2.frozen HN.out (k*2+1);have hbb:Below base w (wr.alloc (.cells #[.int .i64 (l[k]).1,.int .i64 (l[k]).2] 237)):=(hbel.mono hb).alloc (Nat.le_trans hb hbel.size) _;obtain ⟨b',off',e',q0',q1'⟩:=hor2.rd.at k hkl;cases e';rw [Nat.zero_add] at q1';clear q0';have HBB:=hide hbb;have HBG:=hide hbg;have hw1:wrap64 ((k:Int)+1)=(k:Int)+1:=qha (by omega)
    have hkc:(k:Int)+1≤c:=by have h1:k+1≤c:=Nat.le_trans hlt hnc;exact Int.ofNat_le.2 h1
    clear s1 g1 hor hor2 hbb HM H1 HO HN hz hbel hb hbg;generalize (l[k]).1=P at *;generalize (l[k]).2=R at *;go_wp2;go_ret2;exact ⟨_,by unfold cutE;rw [HC.out];rfl,by rw [HC.out];exact HS.out,HBB.out.setCell HBG.out _⟩
   ·have hle':decide (Z≤(l[k]).2)=false:=by simpa using hle
    have hx:=HM.out _ (List.getElem_mem hkl);have HZ:=hide (qaft hkl hz.out)
    have hw1:wrap64 (Z - (l[k]).2)=Z - (l[k]).2:=by unfold wrap64;omega
    have hbb:=hbel.alloc hbel.size (.cells #[.int .i64 (l[k]).1,.int .i64 (l[k]).2] 237);clear hor;go_wp2;go_roundw
    case rel=>exact ⟨k+1,_,by omega,rfl,rfl,HZ,by omega,by omega,hbb⟩
    case measure=>simp only [intOf];omega
  ·have hd:decide ((k:Int)<n)=false:=by simpa using (by omega:¬(k:Int)<n)
   have HC:=hide (show cutX l W=none from qv0 (by have h1:=hz.out;have:=HN.out;rw [List.take_of_length_le (by omega)] at h1;omega) H1.out);go_wp2;go_ret2;exact ⟨_,by unfold cutE;rw [HC.out];rfl,by rw [HC.out];exact OwE.nil _ _,hbel.mono hb⟩
end Go.Proofs.YtmeaiocohalphaaGreatDoor
