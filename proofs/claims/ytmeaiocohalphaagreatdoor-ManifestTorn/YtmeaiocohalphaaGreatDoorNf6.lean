/-
  What manifest's blocks does: bytes as a file's blocks.
-/
import Derived.Test.YtmeaiocohalphaaGreatDoorMathMf2
import Derived.Test.YtmeaiocohalphaaGreatDoorDMay
import Derived.Laws.OwnMore
import Derived.Test.YtmeaiocohalphaaGreatDoorMathMf
import Derived.Test.YtmeaiocohalphaaGreatDoorFiKit
import Derived.Laws.StructEq
import Derived.Test.YtmeaiocohalphaaGreatDoorFsFn6
import Derived.Test.YtmeaiocohalphaaGreatDoorMathW2
set_option maxHeartbeats 2000000
set_option maxRecDepth 100000
namespace Go.Proofs.YtmeaiocohalphaaGreatDoor
open Go.RowKit
set_option linter.all false
theorem qvy {f:Fsd} {s:List UInt8} {at0:Int} {l:List (List UInt8)}:∀k,(qcw f s at0 l k).2≠0→(qcw f s at0 l k).1=fz
 | 0,h=>absurd rfl h
 | k+1,h=>by
  rw [qcw] at h ⊢
  split at h
  ·rename_i h0;rw [if_pos h0];exact qvy k h0
  ·rename_i h0;rw [if_neg h0];exact qaky h
def stoN (f:Fsd) (s b:List UInt8) (k:Nat):Fsd × Int:=
 if (qaz f s (whN b.length:Nat)).2≠0 then qaz f s (whN b.length:Nat) else qcw (qaz f s (whN b.length:Nat)).1 s 0 (blkM b) k
theorem qabp (f:Fsd) (s b:List UInt8):stoN f s b 0=qaz f s (whN b.length:Nat):=by
 unfold stoN
 split
 ·rfl
 ·rename_i h
  rw [qcw];exact Prod.ext rfl (Decidable.not_not.1 h).symm
theorem qabq {f:Fsd} {s b:List UInt8} {k:Nat} (h:(stoN f s b k).2=0) (hk:k<(blkM b).length):stoN f s b (k+1)=qdh (stoN f s b k).1 s k (blkM b)[k]:=by
 by_cases h0:(qaz f s (whN b.length:Nat)).2≠0
 ·unfold stoN at h
  rw [if_pos h0] at h;exact absurd h h0
 ·have e:∀j,stoN f s b j=qcw (qaz f s (whN b.length:Nat)).1 s 0 (blkM b) j:=fun j=>by unfold stoN;rw [if_neg h0]
  rw [e] at h;rw [e,e,qcw,if_neg (fun h9=>h9 h),List.getD_eq_getElem?_getD,List.getElem?_eq_getElem hk,Int.zero_add];rfl
theorem qagf {f:Fsd} {s b:List UInt8} {k:Nat} (h0:fsE f=0) (h1:b.length≤16384) (hk:k≤whN b.length) (he:k=whN b.length∨(stoN f s b k).2≠0):qd5 f s b=stoN f s b k:=by
 have hT:stoN f s b k=stoN f s b (whN b.length):=by
  rcases he with rfl | he
  ·rfl
  ·unfold stoN at he ⊢
   by_cases c:(qaz f s (whN b.length:Nat)).2≠0
   ·rw [if_pos c,if_pos c]
   ·rw [if_neg c] at he
    rw [if_neg c,if_neg c]
    have:=qr0 he (whN b.length - k)
    rw [←this];congr 1;omega
 rw [hT];unfold qd5 stoN;rw [if_neg (by rw [h0];simp),if_neg (by omega)]
 by_cases c:(qaz f s (whN b.length:Nat)).2≠0
 ·rw [if_pos c,if_pos c]
  exact Prod.ext (qaf3 c).symm rfl
 ·rw [if_neg c,if_neg c]
  unfold qhc;rw [qdz]
  by_cases p:(qcw (qaz f s (whN b.length:Nat)).1 s 0 (blkM b) (whN b.length)).2≠0
  ·rw [if_pos p]
   exact Prod.ext (qvy _ p).symm rfl
  ·rw [if_neg p]
   exact Prod.ext rfl (Decidable.not_not.1 p).symm
theorem qalf {f:Fsd} {s b:List UInt8} (h:¬fsE f=0):qd5 f s b=(fz,fsE f):=by unfold qd5;rw [if_pos h]
theorem qalg {f:Fsd} {s b:List UInt8} (h0:fsE f=0) (h:16384<b.length):qd5 f s b=(fz,3):=by unfold qd5;rw [if_neg (by rw [h0];simp),if_pos h]
def fetN (L:List UInt8) (n k:Nat):List UInt8:=(L.take n).take (128*k)++List.replicate (n - 128*k) 0
theorem qabr (L:List UInt8) (n:Nat):fetN L n 0=List.replicate n 0:=by unfold fetN;simp
theorem qagg {L:List UInt8} {n:Nat} (h:n≤L.length) (k:Nat):(fetN L n k).length=n:=by
 unfold fetN;rw [List.length_append,List.length_take,List.length_take,List.length_replicate];omega
theorem qagh {L:List UInt8} {n k:Nat} (h:n≤128*k):fetN L n k=L.take n:=by
 unfold fetN;rw [List.take_of_length_le (by rw [List.length_take];omega),show n - 128*k=0 by omega]
 simp
theorem qabs {L:List UInt8} {n k:Nat} (hn:n≤L.length) (hk:128*k<n) (hb:128*k+128≤L.length):splice (fetN L n k) (128*k) (((L.drop (128*k)).take 128).take (n - 128*k))=fetN L n (k+1):=by
 have hl1:((L.take n).take (128*k)).length=128*k:=by rw [List.length_take,List.length_take];omega
 have e1:((L.drop (128*k)).take 128).take (n - 128*k)=((L.take n).drop (128*k)).take 128:=by rw [List.drop_take,List.take_take,List.take_take,Nat.min_comm]
 have hl2:(((L.take n).drop (128*k)).take 128).length=min (n - 128*k) 128:=by rw [List.length_take,List.length_drop,List.length_take];omega
 rw [e1];unfold splice fetN;rw [hl2,List.take_left' hl1]
 have e3:((L.take n).take (128*k)++List.replicate (n - 128*k) (0:UInt8)).drop (128*k+min (n - 128*k) 128)=List.replicate (n - 128*(k+1)) 0:=by
  rw [List.drop_append,List.drop_eq_nil_of_le (by rw [hl1];omega),List.nil_append,hl1,List.drop_replicate]
  have e4:n - 128*k - (128*k+min (n - 128*k) 128 - 128*k)=n - 128*(k+1):=by omega
  rw [e4]
 rw [e3,←List.append_assoc,show 128*(k+1)=128*k+128 by omega,List.take_add]
theorem qn0:∀{l:List (List UInt8)} (h:∀b∈l,b.length=128) {k:Nat} (hk:k<l.length),l[k]=(l.flatten.drop (128*k)).take 128
 | x::l,h,0,_=>by
  have hx:=h x List.mem_cons_self;rw [List.getElem_cons_zero,List.flatten_cons,Nat.mul_zero,List.drop_zero,←hx,List.take_left]
 | x::l,h,k+1,hk=>by
  have hx:=h x List.mem_cons_self;rw [List.getElem_cons_succ,List.flatten_cons,List.drop_append,List.drop_eq_nil_of_le (by omega),List.nil_append,hx,show 128*(k+1) - 128=128*k by omega];exact qn0 (fun b hb=>h b (List.mem_cons_of_mem _ hb)) (by simpa using hk)
theorem qxu {f:Fsd} {s:List UInt8} {k:Nat} (hk:k<(qa8 f s).length):(qa8 f s)[k]=((qa8 f s).flatten.drop (128*k)).take 128:=qn0 qg6 hk
theorem fet_e1 {f:Fsd} {s:List UInt8} {n:Int} (h:¬qat f s=0):fetE f s n=qat f s∧fetB f s n=[]:=by
 have e:fetE f s n=qat f s:=by unfold fetE;rw [if_pos h]
 exact ⟨e,by unfold fetB;rw [e,if_neg h]⟩
theorem fet_e2 {f:Fsd} {s:List UInt8} {n:Int} (h0:qat f s=0) (h:n<0∨(128*(qa8 f s).length:Int)<n):fetE f s n=2∧fetB f s n=[]:=by
 have e:fetE f s n=2:=by unfold fetE;rw [if_neg (by rw [h0];simp),if_pos (by rw [qiw];push_cast;exact h)]
 exact ⟨e,by unfold fetB;rw [e,if_neg (by decide)]⟩
theorem qaii {f:Fsd} {s:List UInt8} {n:Nat} (h0:qat f s=0) (h:n≤128*(qa8 f s).length):fetE f s n=0∧fetB f s n=(qa8 f s).flatten.take n:=by
 have e:fetE f s n=0:=by
  unfold fetE;rw [if_neg (by rw [h0];simp),if_neg]
  rw [qiw];push_cast;omega
 exact ⟨e,by unfold fetB;rw [e,if_pos rfl,Int.toNat_natCast]⟩
section
variable {α:Type}
def LieG (sz:Nat) (ec:α→List Value) (w:World) (b off:Nat) (l:List α):Prop:=∀j,(h:j<l.length)→∀i u,(ec l[j])[i]? =some u→w.cell? ⟨b,off+j*sz+i,none⟩=some u
def RdG (sz:Nat) (ec:α→List Value) (w:World) (v:Value) (l:List α):Prop:=
 (l=[]∧(v=.slice none 0 0∨∃a c,v=.slice (some a) 0 c))∨
 ∃b off c,v=.slice (some ⟨b,off,none⟩) l.length c∧l.length≤c∧c≤maxLen∧LieG sz ec w b off l
def OwG (sz:Nat) (ec:α→List Value) (t:TypeId) (w:World) (base:Nat) (v:Value) (l:List α):Prop:=w.ownsRow base t sz v l.length (l.flatMap ec)
variable {sz:Nat} {ec:α→List Value} {t:TypeId}
theorem LieG.carry {w w':World} {b off:Nat} {l:List α} (h:LieG sz ec w b off l) (hb:Below w.heap.size w w'):LieG sz ec w' b off l:=by
 intro j hj i u hu;have h0:=h j hj i u hu
 rw [hb.cell (World.block_lt_of_cell? w _ h0)];exact h0
theorem RdG.carry {w w':World} {v:Value} {l:List α} (h:RdG sz ec w v l) (hb:Below w.heap.size w w'):RdG sz ec w' v l:=by
 rcases h with h | ⟨b,off,c,rfl,hc,hm,hl⟩
 ·exact .inl h
 ·exact .inr ⟨b,off,c,rfl,hc,hm,hl.carry hb⟩
theorem RdG.form {w:World} {v:Value} {l:List α} (h:RdG sz ec w v l):∃a c,v=.slice a l.length c:=by
 rcases h with ⟨rfl,rfl | ⟨a,c,rfl⟩⟩ | ⟨b,off,c,rfl,_⟩<;>exact ⟨_,_,rfl⟩
theorem RdG.len {w:World} {a:Option Addr} {n c:Nat} {l:List α} (h:RdG sz ec w (.slice a n c) l):n=l.length:=by
 obtain ⟨_,_,e⟩:=h.form;cases e;rfl
theorem RdG.atB {w w':World} {a:Option Addr} {n c:Nat} {l:List α} (h:RdG sz ec w (.slice a n c) l) (hb:Below w.heap.size w w') (j:Nat) (hj:j<l.length):
  ∃b off,a=some ⟨b,off,none⟩∧∀i u,(ec l[j])[i]? =some u→w'.cell? ⟨b,off+j*sz+i,none⟩=some u:=by
 rcases h.carry hb with ⟨rfl,_⟩ | ⟨b,off,c',e,_,_,hc⟩
 ·exact absurd hj (by simp)
 ·cases e
  exact ⟨b,off,rfl,hc j hj⟩
theorem qr6 (hsz:∀x,(ec x).length=sz):∀l:List α,(l.flatMap ec).length=l.length*sz
 | []=>by simp
 | x::l=>by rw [List.flatMap_cons,List.length_append,hsz,qr6 hsz l,List.length_cons,Nat.add_mul];omega
theorem qmd (hsz:∀x,(ec x).length=sz):∀(l:List α) (j:Nat) (h:j<l.length) (i:Nat),i<sz→(l.flatMap ec)[j*sz+i]? =(ec l[j])[i]?
 | x::l,0,h,i,hi=>by
  rw [List.flatMap_cons,List.getElem?_append_left (by rw [hsz];omega)];simp
 | x::l,j+1,h,i,hi=>by
  have h0:=hsz x;rw [List.flatMap_cons,List.getElem?_append_right (by rw [hsz,Nat.add_mul];omega),hsz,show (j+1)*sz+i - sz=j*sz+i by rw [Nat.add_mul];omega]
  simpa using qmd hsz l j (by simpa using h) i hi
theorem qagi (hsz:∀x,(ec x).length=sz) {l:List α} {j:Nat} (h:j<l.length) {i:Nat} {u:Value} (hu:(ec l[j])[i]? =some u):(l.flatMap ec)[j*sz+i]? =some u:=by
 have hi:i<sz:=by rw [←hsz l[j]];exact (List.getElem?_eq_some_iff.1 hu).1
 rw [qmd hsz l j h i hi];exact hu
theorem OwG.rd (hsz:∀x,(ec x).length=sz) {w:World} {base:Nat} {v:Value} {l:List α} (h:OwG sz ec t w base v l):RdG sz ec w v l:=by
 rcases h.2 with ⟨rfl,hn⟩ | ⟨g,cap,cur,rfl,_,hg,hn,hm,hs,htake⟩
 ·exact .inl ⟨List.length_eq_zero_iff.1 hn,.inl rfl⟩
 ·refine .inr ⟨g,0,cap,rfl,hn,hm,fun j hj i u hu=>?_⟩
  have:=World.ownsRow.cells h (g:=g) rfl (j*sz+i) u (qagi hsz hj hu)
  simpa [Addr.add_lit,Nat.add_assoc] using this
theorem OwG.form {w:World} {base:Nat} {v:Value} {l:List α} (h:OwG sz ec t w base v l):∃a c,v=.slice a l.length c:=by
 rcases h.2 with ⟨rfl,hn⟩ | ⟨g,cap,cur,rfl,_⟩
 ·rw [hn];exact ⟨_,_,rfl⟩
 ·exact ⟨_,_,rfl⟩
theorem OwG.carry {w w':World} {base:Nat} {v:Value} {l:List α} (h:OwG sz ec t w base v l) (hb:Below w.heap.size w w'):OwG sz ec t w' base v l:=qa5 h hb
theorem OwG.mono {w:World} {base base':Nat} {v:Value} {l:List α} (h:OwG sz ec t w base v l) (hb:base'≤base):OwG sz ec t w base' v l:=by
 refine ⟨h.1, ?_⟩
 rcases h.2 with h | ⟨g,cap,cur,e,h1,h2⟩
 ·exact .inl h
 ·exact .inr ⟨g,cap,cur,e,Nat.le_trans hb h1,h2⟩
theorem OwG.nil (w:World) (base:Nat):OwG sz ec t w base (.slice none 0 0) ([]:List α):=World.ownsRow_nil w base _ _
def KeepG (t0:TypeId) (w w':World):Prop:=∀(k:Nat) (cs:Array Value) (t:TypeId) (fr:Nat × Nat),t≠t0→w.heap[k]? =some (Obj.cells cs t fr)→w'.heap[k]? =some (Obj.cells cs t fr)
theorem KeepG.trans {t0:TypeId} {w w1 w2:World} (h:KeepG t0 w w1) (k:KeepG t0 w1 w2):KeepG t0 w w2:=fun j cs t fr ht hj=>k j cs t fr ht (h j cs t fr ht hj)
theorem KeepG.below {t0:TypeId} {w w':World} (h:Below w.heap.size w w'):KeepG t0 w w':=fun j cs t fr _ hj=>(h.block j (Array.getElem?_eq_some_iff.1 hj).1).trans hj
theorem qpv {w w':World} {base:Nat} {v:Value} {l:List α} (h:OwG sz ec t w base v l) (hg:w.grownBy w' v.ownBlock):KeepG t w w':=by
 intro j cs t' fr ht hj;rw [hg.block j (Array.getElem?_eq_some_iff.1 hj).1 ?_]
 ·exact hj
 ·intro e
  rcases h.2 with ⟨rfl,hn⟩ | ⟨g,cap,cur,rfl,_,hg2,_⟩
  ·cases e
  ·cases e
   rw [hj] at hg2;cases hg2;exact ht rfl
section
variable {P:Program} {ts:TypeId} {z:Value} {by_:Nat}
theorem qagj (hsz:∀x,(ec x).length=sz) (h0:0<sz) (hone:∀x,∀u∈ec x,u.oneCell'=true) (hts:P.underlying ts=some (.slice t)) (hinfo:(P.info? t).map (fun i=>(i.zero,i.size,i.bytes))=some (some z,sz,by_)) (hz:z.cells.size=sz)
  {w:World} {base:Nat} {v:Value} {l:List α} (h:OwG sz ec t w base v l) (hb:base≤w.heap.size) (hl:(l.length+1)*by_≤140737488355328) (hl2:l.length+1≤maxLen) (x:α) (cs:Array Value) (hcs:cs.toList=ec x):
  ∃g c w',(Builtin.append_ #[ts,ts] ts #[v,.slice (some ⟨w.heap.size,0,none⟩) 1 1]).run P (w.alloc (.cells cs t))=.ok (.slice (some ⟨g,0,none⟩) (l.length+1) c) w'∧
   OwG sz ec t w' base (.slice (some ⟨g,0,none⟩) (l.length+1) c) (l++[x])∧Below base w w'∧KeepG t w w':=by
 obtain ⟨w8,ew8⟩:∃w8,w8=w.alloc (.cells cs t):=⟨_,rfl⟩
 have hn8:∀j u,(ec x)[j]? =some u→w8.cell? ((⟨w.heap.size,0,none⟩:Addr).add j)=some u:=by
  intro j u hj
  have:=World.news_of_block (w:=w.alloc (.cells cs t)) (heap_alloc_new w _) j u (by rw [←hcs] at hj;simpa using hj)
  rw [ew8];simpa using this
 rw [←ew8]
 have hb8:Below w.heap.size w w8:=by rw [ew8];exact (Below.refl _ _).alloc (Nat.le_refl _) _
 obtain ⟨i0,hi,hz0,hz1,hz2⟩:=info_parts hinfo;have q2:w8.ownsRow base t sz v l.length (l.flatMap ec):=qa5 h hb8;obtain ⟨v9,w9,hrun9,hown9,hg9,_⟩:=run_append_own (P:=P) w8 base ts ts t i0 z sz by_ hts hi hz0 hz1 hz2 hz h0 _ _ _ q2 ⟨w.heap.size,0,none⟩ 1 1 (ec x) (by rw [hsz];omega) hn8 (hone x) hl2 hl (Nat.le_trans hb hb8.size)
 have hb9:Below base w w9:=(hb8.mono hb).grown hg9 (Nat.le_trans hb hb8.size) fun k hk=>(q2.lt k hk).1
 rcases hown9.2 with ⟨_,h1⟩ | ⟨g,cap,cur,h1,_⟩
 ·exact absurd h1 (by omega)
 ·subst h1
  refine ⟨g,cap,w9,hrun9, ?_,hb9,(KeepG.below hb8).trans (qpv (l:=l) (ec:=ec) q2 hg9)⟩
  have e:(l++[x]).flatMap ec=l.flatMap ec++ec x:=by simp
  unfold OwG;rw [e,List.length_append];exact hown9
end
end
theorem qad {a b:Bool} (h:a=b):Ending.returned (.bool a)=.returned (.bool b):=by rw [h]
theorem qpw {a b:Int} (h:a=b):Ending.returned (.int .i64 a)=.returned (.int .i64 b):=by rw [h]
def OwY (w:World) (base:Nat) (v:Value) (l:List UInt8):Prop:=w.ownsRow base 5 1 v l.length (u8v l)
theorem OwY.rd {w:World} {base:Nat} {v:Value} {l:List UInt8} (h:OwY w base v l):Rd w v l:=qjh h
theorem OwY.form {w:World} {base:Nat} {v:Value} {l:List UInt8} (h:OwY w base v l):∃a c,v=.slice a l.length c:=by
 rcases h.2 with ⟨rfl,hn⟩ | ⟨g,cap,cur,rfl,_⟩
 ·rw [hn];exact ⟨_,_,rfl⟩
 ·exact ⟨_,_,rfl⟩
theorem OwY.mono {w:World} {base base':Nat} {v:Value} {l:List UInt8} (h:OwY w base v l) (hb:base'≤base):OwY w base' v l:=by
 refine ⟨h.1, ?_⟩
 rcases h.2 with h | ⟨g,cap,cur,e,h1,h2⟩
 ·exact .inl h
 ·exact .inr ⟨g,cap,cur,e,Nat.le_trans hb h1,h2⟩
theorem OwY.nil (w:World) (base:Nat):OwY w base (.slice none 0 0) []:=World.ownsRow_nil w base _ _
theorem qabt {w:World} {v:Value} {l:List UInt8} (h:Rd w v l):(convert 23 9 v).run Tryz.prog w=.ok (.string (bs l)) w:=qiz _ _ _ Tryz.underlying23 Tryz.underlying5 Tryz.underlying9 h
theorem qmt {P:Program} {w w':World} {ops:Array Oper} {rest:List Oper} {o:Oper} {a:Act} {Q:Exit→Act→World→Prop} (hgd:o.guard=none) (s x:Operand) (t:TypeId)
  (ho:o.op=.call {callee:=.builtin .append,args:=#[s,x],argTypes:=#[t,t]}) (hty:o.type=t) {v vx v':Value} (hs:a.eval s=v) (hx:a.eval x=vx)
  (hrun:(Builtin.append_ #[t,t] t #[v,vx]).run P w=.ok v' w') (h:wpList P ops Q rest (a.put o.dst v') w'):wpList P ops Q (o::rest) a w:=by
 refine wpList_plain hgd fun K hK=>?_
 unfold Oper.wp execOp
 simp only [ho,hty,resolve,invoke,builtin,Sem.run_bind,Sem.run_pure,Result.andThen_ok,List.map_toArray,List.map_cons,List.map_nil,hs,hx,hrun]
 exact hK _ _ h
theorem qalh (n:Nat) (w:World) (hn:n<18446744073709551616):Calls Tryz.prog 86 #[.int .u64 n] w fun e w'=>∃v,e=.returned v∧OwY w' w.heap.size v (sm n)∧Below w.heap.size w w':=qle n w hn
theorem qabu (s:List UInt8) (w:World) (hs:s.length≤1000000):Calls Tryz.prog 60 #[.string (bs s)] w fun e w'=>∃v,e=.returned v∧OwY w' w.heap.size v (tx s)∧Below w.heap.size w w':=by
 have:=qu1 (bs s) w (by rw [qdl];omega)
 rwa [qb0] at this
theorem qge {B:Nat} {w w':World} (h:Below B w w') (n:Nat):Below B w (w'.drewN n):=⟨h.os,h.tape,h.output,h.size,h.block⟩
def Bx (w:World) (p:Nat) (t:TypeId) (cs:Array Value):Prop:=w.heap[p]? =some (.cells cs t (0,0))
theorem Bx.lt {w:World} {p:Nat} {t:TypeId} {cs:Array Value} (h:Bx w p t cs):p<w.heap.size:=(Array.getElem?_eq_some_iff.1 h).1
theorem Bx.carry {w w':World} {p:Nat} {t:TypeId} {cs:Array Value} (h:Bx w p t cs) (hb:Below w.heap.size w w'):Bx w' p t cs:=(hb.block _ h.lt).trans h
theorem Bx.keep {w w':World} {p:Nat} {t t0:TypeId} {cs:Array Value} (h:Bx w p t cs) (hk:KeepG t0 w w') (ht:t≠t0):Bx w' p t cs:=hk p _ _ _ ht h
theorem Bx.cell {w:World} {p:Nat} {t:TypeId} {cs:Array Value} (h:Bx w p t cs) (j:Nat):w.cell? ⟨p,j,none⟩=cs[j]?:=cell_of_row w p j cs t (0,0) h
theorem Bx.at {w:World} {p:Nat} {t:TypeId} {cs:Array Value} (h:Bx w p t cs) (j:Nat) {u:Value} (hu:cs[j]? =some u):w.cell? ⟨p,j,none⟩=some u:=(h.cell j).trans hu
theorem Bx.fz {w:World} {p:Nat} {t:TypeId} {cs:Array Value} (h:Bx w p t cs) (j:Nat):w.frozen? ⟨p,j,none⟩=false:=frozen_of_row w p j _ _ h
theorem Bx.new (w:World) (t:TypeId) (cs:Array Value):Bx (w.alloc (.cells cs t)) w.heap.size t cs:=heap_alloc_new w _
theorem Bx.put {w:World} {p:Nat} {t:TypeId} {cs:Array Value} (h:Bx w p t cs) (j:Nat) (v:Value):Bx (w.setCell ⟨p,j,none⟩ v) p t (cs.setIfInBounds j v):=heap_setCell_same w p j cs t v h
theorem qcf {w:World} {p:Nat} {t:TypeId} {cs:Array Value} (h:Bx w p t cs) (j:Nat) (v:Value):KeepG t w (w.setCell ⟨p,j,none⟩ v):=by
 intro k cs' t' fr ht hk
 have hne:k≠p:=by
  rintro rfl;unfold Bx at h;rw [h] at hk;cases hk;exact ht rfl
 exact (heap_setCell_other w ⟨p,j,none⟩ k v (fun e:k=p=>hne e)).trans hk
theorem qcz {B:Nat} {W w:World} (h:Below B W w) {p:Nat} (hp:B≤p) (j:Nat) (v:Value):Below B W (w.setCell ⟨p,j,none⟩ v):=
 ⟨h.os,h.tape,h.output,by simpa using h.size,fun k hk=>(heap_setCell_other w ⟨p,j,none⟩ k v (fun e:k=p=>by omega)).trans (h.block k hk)⟩
theorem OwG.keep {α:Type} {sz:Nat} {ec:α→List Value} {t t0:TypeId} {w w':World} {base:Nat} {v:Value} {l:List α} (h:OwG sz ec t w base v l) (hk:KeepG t0 w w') (ht:t≠t0):OwG sz ec t w' base v l:=by
 refine ⟨h.1, ?_⟩
 rcases h.2 with h | ⟨g,cap,cur,e,h1,h2,h3⟩
 ·exact .inl h
 ·exact .inr ⟨g,cap,cur,e,h1,hk g _ _ _ ht h2,h3⟩
theorem qagk {w:World} {v:Value} {l:List UInt8} (h:Rd w v l):∃a c,v=.slice a l.length c:=by
 rcases h with ⟨rfl,rfl | ⟨a,c,rfl⟩⟩ | ⟨b,off,c,rfl,_⟩<;>exact ⟨_,_,rfl⟩
theorem qabv {b off n c k:Nat} {l:List UInt8} (hn:n=l.length) (hc:n≤c) (hm:c≤maxLen) (hk:k≤n) (hkc:k≠c):∀wx,Rd wx (.slice (some ⟨b,off,none⟩) n c) l→Rd wx (.slice (some ⟨b,off+k,none⟩) (l.drop k).length (c - k)) (l.drop k):=by
 subst hn;have hl:(l.drop k).length=l.length - k:=List.length_drop;intro wx h
 rcases h with ⟨h,_⟩ | ⟨b',off',c',e,h1,h2,h3⟩
 ·have:l.drop k=[]:=by rw [h];simp
  rw [this];exact .inl ⟨rfl,.inr ⟨_,_,rfl⟩⟩
 ·cases e
  refine .inr ⟨b,off+k,c - k,rfl,by omega,by omega,fun j hj=>?_⟩;rw [List.getElem_drop,Nat.add_assoc];exact h3 (k+j) (by omega)
theorem sizeY (wx:World):(sizeOf (Tryz.prog.elem 23)).run Tryz.prog wx=.ok 1 wx:=by
 rw [show Tryz.prog.elem 23=5 by kernel_rfl];obtain ⟨i0,hi,hz0,hz1,hz2⟩:=info_parts Tryz.infoB
 simp [sizeOf,typeInfo,hi,hz1]
theorem qaij {w:World} {a:Option Addr} {n c:Nat} {l:List UInt8} (h:Rd w (.slice a n c) l) (k:Nat) (hk:k≤l.length):
  ∃a2 c2,(∀wx,(Instr.slice 23 (.slice a n c) (some (.int .i64 k)) none none).run Tryz.prog wx=.ok (.slice a2 (n - k) c2) wx)∧∀wx,Rd wx (.slice a n c) l→Rd wx (.slice a2 (n - k) c2) (l.drop k):=by
 obtain ⟨a',c',e⟩:=qagk h;cases e
 have run:∀wx,(Instr.slice 23 (.slice a l.length c) (some (.int .i64 k)) none none).run Tryz.prog wx=.ok (sliced a k l.length c 1) wx:=by
  intro wx;rw [run_slice_l wx 23 a l.length c (by kernel_rfl) .i64 k (by omega) (by omega),sizeY wx]
  simp [Result.andThen]
 unfold sliced at run
 rcases h with ⟨rfl,e | ⟨x,d,e⟩⟩ | ⟨b,off,c',e,h1,h2,h3⟩
 ·cases e
  obtain rfl:k=0:=by simpa using hk
  exact ⟨none,0,by simpa using run,fun wx _=>by simpa using (show Rd wx (.slice none 0 0) [] from .inl ⟨rfl,.inl rfl⟩)⟩
 ·cases e
  obtain rfl:k=0:=by simpa using hk
  by_cases hc:c=0
  ·exact ⟨some x,c,by simpa [hc] using run,fun wx _=>by simpa using (show Rd wx (.slice (some x) 0 c) [] from .inl ⟨rfl,.inr ⟨_,_,rfl⟩⟩)⟩
  ·exact ⟨some (x.add 0),c,by simpa [hc] using run,fun wx _=>by simpa using (show Rd wx (.slice (some (x.add 0)) 0 c) [] from .inl ⟨rfl,.inr ⟨_,_,rfl⟩⟩)⟩
 ·cases e
  by_cases hck:c=k
  ·refine ⟨some ⟨b,off,none⟩,c - k,by simpa [hck] using run,fun wx _=>?_⟩
   have e1:l.drop k=[]:=List.drop_of_length_le (by omega);rw [e1,show l.length - k=0 by omega];exact .inl ⟨rfl,.inr ⟨_,_,rfl⟩⟩
  ·refine ⟨some ⟨b,off+k,none⟩,c - k,by simpa [hck,Addr.add_lit] using run,fun wx hx=>?_⟩
   have:=qabv rfl h1 h2 hk (Ne.symm hck) wx hx
   rwa [List.length_drop] at this
theorem qn3 {P:Program} {w:World} {ops:Array Oper} {rest:List Oper} {o:Oper} {a:Act} {Q:Exit→Act→World→Prop} (hgd:o.guard=none) (x lo:Operand) (t:TypeId) (ht:P.underlying t=some (.slice (P.elem t)))
  (ho:o.op=.slice t x (some lo) none none) {v vl v':Value} (hx:a.eval x=v) (hlo:a.eval lo=vl) (hrun:∀wx,(Instr.slice t v (some vl) none none).run P wx=.ok v' wx) (h:wpList P ops Q rest (a.put o.dst v') w):wpList P ops Q (o::rest) a w:=by
 refine wpList_plain hgd fun K hK=>?_
 unfold Oper.wp execOp
 simp only [ho,Option.map_some,Option.map_none,hx,hlo,run_sliceAt_slice w t _ _ _ _ ht,Sem.run_bind,hrun w,Result.andThen_ok,Sem.run_pure]
 exact hK _ _ h
def qali:Value→Nat
 | .slice _ n _=>n
 | _=>0
theorem qtn (l:List UInt8):splice (List.replicate 128 0) 0 (l.take 128)=padM (l.take 128):=by
 rw [qnv];unfold padB padM;rw [List.length_take]
 congr 2
 omega
theorem qaik (n k:Nat):k<whN n↔k=0∨128*k<n:=by unfold whN;omega
theorem qr7 (a:Option Addr) (n c:Nat) (b:List UInt8) (w:World) (hrd:Rd w (.slice a n c) b) (hn:n=b.length) (hl:b.length≤1000000):
  Calls Tryz.prog 43 #[.slice a n c] w fun e w'=>∃v,e=.returned v∧OwBB w' w.heap.size v (blkM b)∧Below w.heap.size w w':=by
 have hm:n≤1000000:=by omega
 have HR:=hide hrd;have HN:=hide hn;have HWT:=hide (show whN n≤1000000 by unfold whN;omega);clear hrd hn hl
 go_enter Tryz.func43,Tryz.ntmps43
 go_wp2
 go_loopw [0,3] (fun bv v wr=>∃(k m:Nat) (ab av:Option Addr) (cb cv:Nat),k≤whN n∧m=n - 128*k∧bv=.slice ab m cb∧v=.slice av k cv∧Hid (Rd w (.slice ab m cb) (b.drop (128*k)))∧Hid (OwBB wr w.heap.size (.slice av k cv) ((blkM b).take k))∧Hid (Below w.heap.size w wr)) (fun _ v _=>whN n - qali v)
 case atStart=>exact ⟨0,n,a,none,c,0,Nat.zero_le _,by omega,rfl,rfl,hide (by rw [Nat.mul_zero,List.drop_zero];exact HR.out),hide (by rw [List.take_zero];exact OwBB.nil _ _),hide (Below.refl _ _)⟩
 case round=>
  obtain ⟨k,m,ab,av,cb,cv,hk,hmk,rfl,rfl,hrd,hown,hbel⟩:=hrel
  by_cases hgo:k<whN n
  ·have hkl:k<(blkM b).length:=by rw [qdz,←HN.out];exact hgo
   have HT:=hide (show (blkM b).take (k+1)=(blkM b).take k++[padM ((b.drop (128*k)).take 128)] by
    rw [List.take_succ_eq_append_getElem hkl,qagb])
   have HTL:=hide (show ((blkM b).take k).length=k by rw [List.length_take];omega)
   have hdl:(b.drop (128*k)).length=m:=by rw [List.length_drop,←HN.out];omega
   obtain ⟨p,hp⟩:∃p,p=((b.drop (128*k)).take 128).length:=⟨_,rfl⟩
   have hpm:p=min 128 m:=by rw [hp,List.length_take,hdl]
   have HP:=hide hp.symm;obtain ⟨a2,c2,hsl,hsr⟩:=qaij hrd.out p (by omega)
   have HS2:=hide (show Rd w (.slice a2 (m - p) c2) (b.drop (128*(k+1))) by
    have h9:=hsr w hrd.out;rw [List.drop_drop] at h9
    rcases Nat.lt_or_ge m 128 with h8 | h8
    ·have e1:b.drop (128*k+p)=[]:=List.drop_eq_nil_of_le (by rw [List.length_drop] at hdl;omega)
     have e2:b.drop (128*(k+1))=[]:=List.drop_eq_nil_of_le (by rw [List.length_drop] at hdl;omega)
     rw [e2];rw [e1] at h9;exact h9
    ·rw [show 128*(k+1)=128*k+p by omega]
     exact h9)
   have HPM:=hide hpm;have HMK:=hide hmk;obtain ⟨w2,hmk2,hO2,hb2⟩:=qaar wr;have hbsz:=hbel.out.size;have HB2:=hide (show Below w.heap.size w w2 from hbel.out.trans (hb2.mono hbsz));have HO2:=hide hO2;have HRS2:=hide (hrd.out.carry HB2.out);have HBs:=hide hb2
   have HAPP:=hide (fun (w3:World) (hg3:w2.grownBy w3 (some wr.heap.size)) (hO3:OwB w3 wr.heap.size (.slice (some ⟨wr.heap.size,0,none⟩) 128 128) (splice (List.replicate 128 0) 0 ((b.drop (128*k)).take 128)))=>by
    have hb3:Below wr.heap.size wr w3:=HBs.out.grown hg3 HBs.out.size (by intro k hk;cases hk;omega);rw [qtn] at hO3;have hpl:(padM ((b.drop (128*k)).take 128)).length=128:=qpt (by rw [HP.out];omega);obtain ⟨g9,c9,w9,hrun,ho9,hb9⟩:=qaat (hown.out.carry hb3) (Nat.le_trans hbsz hb3.size) (by rw [HTL.out];have:=HWT.out;omega) (some ⟨wr.heap.size,0,none⟩) 128 128 _ (hO3.mono hbsz);rw [HTL.out] at hrun ho9;rw [←HT.out] at ho9
    exact (⟨g9,c9,w9,hrun,ho9,(hbel.out.trans (hb3.mono hbel.out.size)).trans hb9⟩:∃g9 c9 w9,(Builtin.append_ #[89,89] 89 #[.slice av k cv,.slice (some ⟨w3.heap.size,0,none⟩) 1 1]).run Tryz.prog (w3.alloc (.cells #[.slice (some ⟨wr.heap.size,0,none⟩) 128 128] 23))=.ok (.slice (some ⟨g9,0,none⟩) (k+1) c9) w9∧OwBB w9 w.heap.size (.slice (some ⟨g9,0,none⟩) (k+1) c9) ((blkM b).take (k+1))∧Below w.heap.size w w9))
   have hmd:n - 128*(k+1)=m - p:=by omega
   have HMD:=hide hmd.symm
   have hcase:k=0∨(((k:Int)==0)=false∧(k==0)=false∧0<m∧(0:Int)<m):=by
    rcases (qaik n k).1 hgo with h | h
    ·exact .inl h
    ·by_cases h0:k=0
     ·exact .inl h0
     ·exact .inr ⟨by simpa using h0,by simpa using h0,by omega,by omega⟩
   clear hO2 hb2 hsr hp hpm hmk hdl hkl hmd hbsz hm
   rcases hcase with hk0 | ⟨hk1,hk2,hm0,hm1⟩
   ·subst hk0
    go_wp2_with (first | (refine qgd w2 rfl (.tmp 15) (.tmp 16) 23 rfl Tryz.underlying23 Tryz.sizeB wr.heap.size wr.heap.size 128 128 0 128 128 rfl _ _ rfl HRS2.out _ HO2.out (by simp) ?_;intro w3 hg3 hO3;obtain ⟨g9,c9,w9,hrun,ho9,hb9⟩:=HAPP.out w3 hg3 hO3;have HO9:=hide ho9;have HB9:=hide hb9;clear hg3 hO3 ho9 hb9;rw [HP.out]) | (refine qn3 rfl (.tmp 14) (.tmp 17) 23 (by kernel_rfl) rfl rfl rfl hsl ?_) | (at_builtin;refine qak rfl (.tmp 19) (.tmp 21) 89 rfl rfl rfl rfl hrun ?_))
    go_roundw
    case rel=>exact ⟨0+1,m - p,a2,_,c2,c9,hgo,HMD.out,rfl,rfl,HS2,HO9,HB9⟩
    case measure=>simp only [qali];omega
   ·go_wp2_with (first | (refine qgd w2 rfl (.tmp 15) (.tmp 16) 23 rfl Tryz.underlying23 Tryz.sizeB wr.heap.size wr.heap.size 128 128 0 128 128 rfl _ _ rfl HRS2.out _ HO2.out (by simp) ?_;intro w3 hg3 hO3;obtain ⟨g9,c9,w9,hrun,ho9,hb9⟩:=HAPP.out w3 hg3 hO3;have HO9:=hide ho9;have HB9:=hide hb9;clear hg3 hO3 ho9 hb9;rw [HP.out]) | (refine qn3 rfl (.tmp 14) (.tmp 17) 23 (by kernel_rfl) rfl rfl rfl hsl ?_) | (at_builtin;refine qak rfl (.tmp 19) (.tmp 21) 89 rfl rfl rfl rfl hrun ?_))
    go_roundw
    case rel=>exact ⟨k+1,m - p,a2,_,c2,c9,hgo,HMD.out,rfl,rfl,HS2,HO9,HB9⟩
    case measure=>simp only [qali];omega
  ·obtain rfl:k=whN n:=by omega
   have hno:=fun h=>hgo ((qaik n (whN n)).2 h)
   have h9:¬128*whN n<n:=fun h=>hno (.inr h)
   obtain rfl:m=0:=by omega
   have hk1:((whN n:Int)==0)=false:=by
    have:whN n≠0:=fun h=>hno (.inl h)
    simpa using this
   have hk2:(whN n==0)=false:=by
    have:whN n≠0:=fun h=>hno (.inl h)
    simpa using this
   have HO:=hide (show OwBB wr w.heap.size (.slice av (whN n) cv) (blkM b) by
    have:=hown.out
    rwa [List.take_of_length_le (by rw [qdz,←HN.out];exact Nat.le_refl _)] at this)
   generalize whN n=kk at *;clear hown hno hgo;go_wp2;go_ret;exact ⟨_,rfl,HO.out,hbel.out⟩
end Go.Proofs.YtmeaiocohalphaaGreatDoor
