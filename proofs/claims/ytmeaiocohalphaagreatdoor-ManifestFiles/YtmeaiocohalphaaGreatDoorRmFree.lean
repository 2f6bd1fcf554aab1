/-
  What room's grow, unmarked, cut, Free, Take do.
-/
import Derived.Test.YtmeaiocohalphaaGreatDoorDMay
import Derived.BigQuiet
set_option maxHeartbeats 1000000
namespace Go.Proofs.YtmeaiocohalphaaGreatDoor
open Go.RowKit
set_option linter.all false
variable {w w':World}{b base c g k n:Nat}{v:Value}{r:Option Nat}{l:List Ex}{f:Nat->Bool}{x:Ex}{N W Z:Int}
theorem Tryz.infoEx:(Tryz.prog.info? 237).map (fun i=>(i.zero,i.size,i.bytes))=some (some (.agg #[.int .i64 0,.int .i64 0]),2,16):=by kernel_rfl
theorem Tryz.infoInt:(Tryz.prog.info? 3).map (fun i=>(i.zero,i.size,i.bytes))=some (some (.int .i64 0),1,8):=by kernel_rfl
theorem EY{a:Nat}{e:TypeId}{size:Nat}{xs:List Value}(h:w.ownsRow base e size v n xs)(hb:a<=base):w.ownsRow a e size v n xs:=by
 refine⟨h.1, ?_⟩;rcases h.2 with h|⟨g,cap,b,rfl,c,d⟩
 ·exact .inl h
 exact .inr ⟨g,cap,b,rfl,aG hb c,d⟩
theorem nO(w:World)(a:Addr)(u:Value):w.grownBy (w.setCell a u) (some a.block):=
 ⟨rfl,rfl,rfl,by simp,fun k _ b=>heap_setCell_other w a k u (fun e=>b (by simp[e]))⟩
theorem qf4(h:ah w w'):w.grownBy w' none:=⟨h.os,h.tape,h.output,h.size,fun k a _=>h.block k a⟩
theorem Qi{a b:World}(h:w.grownBy a r)(k:a.grownBy b r):w.grownBy b r:=
 ⟨k.os.trans h.os,k.tape.trans h.tape,k.output.trans h.output,aG h.size k.size,fun i hi c=>(k.block i (Xb8 hi h.size) c).trans (h.block i hi c)⟩
theorem qys{a:World}(h:w.grownBy a none):w.grownBy a r:=⟨h.os,h.tape,h.output,h.size,fun k b _=>h.block k b (by simp)⟩
theorem xA{a:World}(h:w.grownBy a r):w.grownBy a.drew r:=⟨h.os,h.tape,h.output,h.size,h.block⟩
theorem wQ(h:k<1000000000):wrap64 ((k:Int)+1)=(k:Int)+1:=by unfold wrap64;omega
theorem kS{P:Program}{b:Array Oper}{rest:List Oper}{o:Oper}{a:Act}{Q:Exit->Act->World->Prop}(d:o.guard=none)(s x:Operand)(t:TypeId)
  (g:o.op=.call {callee:=.builtin .append,args:=#[s,x],argTypes:=#[t,t]}) (e:o.type=t) {v f v':Value} (i:a.eval s=v) (j:a.eval x=f)
  (c:(Builtin.append_ #[t,t] t #[v,f]).run P w=.ok v' w') (h:wpList P b Q rest (a.put o.dst v') w'):wpList P b Q (o::rest) a w:=by
 refine wpList_plain d fun K k=>?_
 unfold Oper.wp execOp;simp only[g,e,resolve,invoke,builtin,Sem.run_bind,Sem.run_pure,Result.andThen_ok,List.map_toArray,List.map_cons,List.map_nil,i,j,c];exact k _ _ h
/-! ### zm -/
def cellsE (l:List Ex):List Value:=(l.map fun x=>[Value.int .i64 x.1,.int .i64 x.2]).flatten
theorem Sq(x:Ex)(l:List Ex):cellsE (x::l)=.int .i64 x.1::.int .i64 x.2::cellsE l:=rfl
theorem yJ(l m:List Ex):cellsE (l++m)=cellsE l++cellsE m:=by simp[cellsE]
theorem Sr:∀l:List Ex,(cellsE l).length=l.length*2
 |[]=>rfl
 |x::l=>by rw[Sq,Xb0,Xb0,Xb0,Sr l];omega
theorem yn:∀(l:List Ex) (j:Nat) (h:j<l.length),(cellsE l)[j*2]? =some (.int .i64 (l[j]).1)∧(cellsE l)[j*2+1]? =some (.int .i64 (l[j]).2)
 |x::l,0,h=>by simp[cellsE]
 |x::l,j+1,h=>by
  have:=yn l j (by simpa using h)
  rw[Sq,show(j+1)*2=j*2+1+1 by omega];simpa using this
theorem qnv:∀(l:List Ex) (j:Nat) (h:j<l.length) (m:Int),(cellsE l).set (j*2+1) (.int .i64 m)=cellsE (l.set j ((l[j]).1,m))
 |x::l,0,h,m=>by simp[cellsE]
 |x::l,j+1,h,m=>by
  have:=qnv l j (by simpa using h) m
  rw[Sq,show(j+1)*2+1=j*2+1+1+1 by omega];simp only[List.set_cons_succ,List.getElem_cons_succ];rw[this,Sq]
theorem quf(l:List Ex)(k:Nat)(h:k<=l.length):(cellsE l).take (k*2)=cellsE (l.take k):=by
 have e:cellsE l=cellsE (l.take k)++cellsE (l.drop k):=by rw[<-yJ,Xc0]
 have a:(cellsE (l.take k)).length=k*2:=by rw[Sr,Xa4,Xc3 h]
 rw[e,<-a,List.take_left]
theorem qyt(l:List Ex):∀u∈cellsE l,u.oneCell'=true:=by
 induction l with
 |nil=>intro u a;simp[cellsE]at a
 |cons x l ih=>
  intro u a;rw[Sq]at a;rcases List.mem_cons.1 a with rfl|a
  ·rfl
  rcases List.mem_cons.1 a with rfl|a
  ·rfl
  exact ih u a
def iB (w:World) (v:Value) (l:List Ex):Prop:=
 (l=[]∧(v=.slice none 0 0∨∃a c,v=.slice (some a) 0 c))∨
 ∃b off c,v=.slice (some ⟨b,off,none⟩) l.length c∧l.length<=c∧c<=maxLen∧∀j,(h:j<l.length)->
  w.cell? ⟨b,off+j*2,none⟩=some (.int .i64 (l[j]).1)∧w.cell? ⟨b,off+j*2+1,none⟩=some (.int .i64 (l[j]).2)
theorem iB.a(h:iB w v l)(hb:ah w w'):iB w' v l:=by
 rcases h with h|⟨b,d,c,rfl,g,i,a⟩
 ·exact .inl h
 refine .inr ⟨b,d,c,rfl,g,i,fun j k=>?_⟩;obtain⟨e,f⟩:=a j k;refine⟨?_, ?_⟩
 ·rw[hb.cell (Xa6 w _ e)];exact e
 rw[hb.cell (Xa6 w _ f)];exact f
theorem iB.form(h:iB w v l):∃a c,v=.slice a l.length c:=by
 rcases h with⟨rfl,rfl|⟨a,c,rfl⟩⟩|⟨b,d,c,rfl,_⟩<;>exact⟨_,_,rfl⟩
theorem iB.len_le(h:iB w v l):l.length<=maxLen:=by
 rcases h with⟨rfl,_⟩|⟨b,a,c,rfl,d,e,_⟩
 ·simp[maxLen]
 omega
theorem iB.at{a:aA}(h:iB w (.slice a n c) l)(j:Nat)(f:j<l.length):
  ∃b d,a=some ⟨b,d,none⟩∧w.cell? ⟨b,d+j*2,none⟩=some (.int .i64 (l[j]).1)∧w.cell? ⟨b,d+j*2+1,none⟩=some (.int .i64 (l[j]).2):=by
 rcases h with⟨rfl,_⟩|⟨b,d,i,e,_,_,g⟩
 ·exact absurd f (by simp)
 cases e;exact⟨b,d,rfl,g j f⟩
def bA (w:World) (base:Nat) (v:Value) (l:List Ex):Prop:=w.ownsRow base 237 2 v l.length (cellsE l)
theorem bA.rd(h:bA w base v l):iB w v l:=by
 rcases h.2 with⟨rfl,a⟩|⟨g,cap,c,rfl,_,k,a,d,e,b⟩
 ·exact .inl ⟨Xb6.1 a,.inl rfl⟩
 refine .inr ⟨g,0,cap,rfl,a,d,fun j f=>?_⟩;obtain⟨e1,i⟩:=yn l j f;have c1:=h.cells (g:=g) rfl _ _ e1;have c2:=h.cells (g:=g) rfl _ _ i;rw[Addr.add_lit]at c1 c2;exact⟨by simpa using c1,by simpa [Nat.add_assoc]using c2⟩
theorem bA.form(h:bA w base v l):∃a c,v=.slice a l.length c:=h.rd.form
theorem bA.a(h:bA w base v l)(hb:ah w w'):bA w' base v l:=pI h hb
theorem bA.mono{a:Nat}(h:bA w base v l)(hb:a<=base):bA w a v l:=EY h hb
theorem bA.nil(w:World)(base:Nat):bA w base (.slice none 0 0) []:=Xa7 w base _ _
theorem bA.lies{a:aA}(h:bA w base (.slice a n c) l)(hl:l≠[]):∃g,a=some ⟨g,0,none⟩∧base<=g∧n=l.length∧n<=c∧c<=maxLen:=by
 rcases h.2 with⟨_,b⟩|⟨g,cap,f,e,i,m,b,j,k,d⟩
 ·exact absurd (Xb6.1 b) hl
 cases e;exact⟨g,rfl,i,rfl,b,j⟩
theorem bA.stored(h:bA w base (.slice (some ⟨g,0,none⟩) n c) l)(a:n=l.length)(k:Nat)(b:k<l.length)(m:Int):
  bA (w.setCell ⟨g,k*2+1,none⟩ (.int .i64 m)) base (.slice (some ⟨g,0,none⟩) n c) (l.set k ((l[k]).1,m))∧w.grownBy (w.setCell ⟨g,k*2+1,none⟩ (.int .i64 m)) (some g):=by
 subst a;have:=World.ownsRow.stored h (k*2+1) (.int .i64 m)
 refine⟨?_,this.2⟩;have d:=this.1;rw[qnv l k b m]at d;unfold bA;rwa [List.length_set]
theorem bA.frozen(h:bA w base (.slice (some ⟨g,0,none⟩) n c) l)(a:n=l.length)(j:Nat):w.frozen? ⟨g,j,none⟩=false:=by
 subst a;exact World.ownsRow.frozenAt h j
theorem bA.take(h:bA w base (.slice (some ⟨g,0,none⟩) n c) l)(i:n=l.length)(k:Nat)(b:k<=l.length):bA w base (.slice (some ⟨g,0,none⟩) k c) (l.take k):=by
 subst i;rcases h.2 with⟨e,_⟩|⟨p,cap,d,e,j,m,i,o,f,a⟩
 ·cases e
 cases e;refine⟨by rw[Sr],.inr ⟨g,c,d,by simp[Xc3 b],j,m,by simp;omega,o,f, ?_⟩⟩;rw[<-quf l k b,<-a,List.take_take,Xa4,Xc3 b,Xc3 (by omega)]
theorem Ma(h:bA w base v l)(hb:base<=w.heap.size)(hl:l.length<=1000000)(x y:Int):
  ∃g c w',(Builtin.append_ #[96,96] 96 #[v,.slice (some ⟨w.heap.size,0,none⟩) 1 1]).run Tryz.prog (w.alloc (.cells #[.int .i64 x,.int .i64 y] 237))=.ok (.slice (some ⟨g,0,none⟩) (l.length+1) c) w'∧
   bA w' base (.slice (some ⟨g,0,none⟩) (l.length+1) c) (l++[(x,y)])∧Below base w w':=by
 obtain⟨a,d⟩:=ak (w.alloc (.cells #[.int .i64 x,.int .i64 y] 237));rw[<-d];have b:ah w a:=by rw[d];exact ae
 have t:∀j u,([Value.int .i64 x,.int .i64 y]:List Value)[j]? =some u->a.cell? ((⟨w.heap.size,0,none⟩:Addr).add j)=some u:=by
  intro j u z;rw[d];have:=World.news_of_block (w:=w.alloc (.cells #[.int .i64 x,.int .i64 y] 237)) (heap_alloc_new w _) j u (by simpa using z)
  simpa using this
 obtain⟨A,hi,f,i,m⟩:=info_parts Tryz.infoEx;have p:a.ownsRow base 237 2 v l.length (cellsE l):=pI h b;obtain⟨G,q,B,r,C,_⟩:=run_append_own (P:=Tryz.prog) a base 96 96 237 A _ 2 16 Tryz.underlying96 hi f i m rfl (by decide) _ _ _ p ⟨w.heap.size,0,none⟩ 1 1 [.int .i64 x,.int .i64 y] rfl t (by intro u s;simp at s;rcases s with rfl|rfl<;>rfl) (by unfold maxLen;omega) (by omega) (aG hb b.size);have D:Below base w q:=(b.mono hb).grown C (aG hb b.size) fun k E=>(p.lt k E).1
 have e:cellsE (l++[(x,y)])=cellsE l++[.int .i64 x,.int .i64 y]:=by rw[yJ];rfl
 have n:(l++[(x,y)]).length=l.length+1:=by simp
 rcases r.2 with⟨_,o⟩|⟨g,cap,F,o,_⟩
 ·exact absurd o (by omega)
 subst o;exact⟨g,cap,q,B,by unfold bA;rw[n,e];exact r,D⟩
/-! ### numbers -/
def Qj (l:List Int):List Value:=l.map fun z=>Value.int .i64 z
def lZ (w:World) (base:Nat) (v:Value) (l:List Int):Prop:=w.ownsRow base 3 1 v l.length (Qj l)
def Qk (w:World) (v:Value) (l:List Int):Prop:=
 (l=[]∧(v=.slice none 0 0∨∃a c,v=.slice (some a) 0 c))∨
 ∃b off c,v=.slice (some ⟨b,off,none⟩) l.length c∧l.length<=c∧c<=maxLen∧∀j,(h:j<l.length)->w.cell? ⟨b,off+j,none⟩=some (.int .i64 l[j])
theorem Qk.form{l:List Int}(h:Qk w v l):∃a c,v=.slice a l.length c:=by
 rcases h with⟨rfl,rfl|⟨a,c,rfl⟩⟩|⟨b,d,c,rfl,_⟩<;>exact⟨_,_,rfl⟩
theorem lZ.rd{l:List Int}(h:lZ w base v l):Qk w v l:=by
 rcases h.2 with⟨rfl,a⟩|⟨g,cap,c,rfl,_,i,a,d,e,b⟩
 ·exact .inl ⟨Xb6.1 a,.inl rfl⟩
 refine .inr ⟨g,0,cap,rfl,a,d,fun j f=>?_⟩;have:=h.cells (g:=g) rfl j (.int .i64 l[j]) (by simp[Qj,List.getElem?_eq_getElem f])
 simpa [Addr.add_lit]using this
theorem lZ.a{l:List Int}(h:lZ w base v l)(hb:ah w w'):lZ w' base v l:=pI h hb
theorem lZ.mono{a:Nat}{l:List Int}(h:lZ w base v l)(hb:a<=base):lZ w a v l:=EY h hb
theorem lZ.nil(w:World)(base:Nat):lZ w base (.slice none 0 0) []:=Xa7 w base _ _
theorem Su{l:List Int}(h:lZ w base v l)(hb:base<=w.heap.size)(hl:l.length<=100000000)(x:Int):
  ∃g c w',(Builtin.append_ #[93,93] 93 #[v,.slice (some ⟨w.heap.size,0,none⟩) 1 1]).run Tryz.prog (w.alloc (.cells #[.int .i64 x] 3))=.ok (.slice (some ⟨g,0,none⟩) (l.length+1) c) w'∧
   lZ w' base (.slice (some ⟨g,0,none⟩) (l.length+1) c) (l++[x])∧Below base w w'∧w.grownBy w' v.ownBlock:=by
 obtain⟨b,d⟩:=ak (w.alloc (.cells #[.int .i64 x] 3));rw[<-d];have a:ah w b:=by rw[d];exact ae
 have y:∀j u,([Value.int .i64 x]:List Value)[j]? =some u->b.cell? ((⟨w.heap.size,0,none⟩:Addr).add j)=some u:=by
  intro j u z;rw[d];have:=World.news_of_block (w:=w.alloc (.cells #[.int .i64 x] 3)) (heap_alloc_new w _) j u (by simpa using z)
  simpa using this
 obtain⟨A,hi,f,i,m⟩:=info_parts Tryz.infoInt;have p:b.ownsRow base 3 1 v l.length (Qj l):=pI h a;obtain⟨F,q,B,r,s,_⟩:=run_append_own (P:=Tryz.prog) b base 93 93 3 A _ 1 8 Tryz.underlying93 hi f i m rfl (by decide) _ _ _ p ⟨w.heap.size,0,none⟩ 1 1 [.int .i64 x] rfl y (by intro u t;simp at t;subst t;rfl) (by unfold maxLen;omega) (by omega) (aG hb a.size);have C:Below base w q:=(a.mono hb).grown s (aG hb a.size) fun k D=>(p.lt k D).1
 have e:Qj (l++[x])=Qj l++[.int .i64 x]:=by simp[Qj]
 have n:(l++[x]).length=l.length+1:=by simp
 rcases r.2 with⟨_,o⟩|⟨g,cap,E,o,_⟩
 ·exact absurd o (by omega)
 subst o;exact⟨g,cap,q,B,by unfold lZ;rw[n,e];exact r,C,Qi (qys (qf4 a)) s⟩
theorem lZ.apart{l:List Int}(h:lZ w base v l){cs:Array Value}{b:Nat×Nat}(c:w.heap[k]? =some (.cells cs 237 b)):some k≠v.ownBlock:=by
 intro e;rcases h.2 with⟨rfl,f⟩|⟨g,cap,d,rfl,_,a,_⟩
 ·cases e
 cases e;rw[c]at a;cases a
/-! ### marks -/
def wR (f:Nat->Bool):Array Value:=((List.range 4096).map fun n=>Value.bool (f n)).toArray
theorem Sv(f:Nat->Bool):(wR f).size=4096:=by simp[wR]
theorem Sw(f:Nat->Bool):wR f≠#[]:=by intro e;have:=Sv f;rw[e]at this;simp at this
theorem rW(f:Nat->Bool)(i:Nat)(h:i<4096):(wR f)[i]? =some (.bool (f i)):=by simp[wR,h]
theorem qakb(f:Nat->Bool)(i:Nat)(b:Bool):(wR f).setIfInBounds i (.bool b)=wR (fun n=>if n=i then b else f n):=by
 apply Array.ext_getElem?;intro j;rw[Array.getElem?_setIfInBounds];by_cases a:j<4096
 ·by_cases e:i=j
  ·subst e
   rw[if_pos rfl,if_pos (by rw[Sv];exact a),rW _ _ a];simp
  rw[if_neg e,rW _ _ a,rW _ _ a,if_neg (Ne.symm e)]
 have c:(wR f)[j]? =none:=Array.getElem?_eq_none (by rw[Sv];omega)
 have d:(wR (fun n=>if n=i then b else f n))[j]? =none:=Array.getElem?_eq_none (by rw[Sv];omega)
 rw[c,d];split
 ·rw[if_neg (by rw[Sv];omega)]
 rfl
theorem Tryz.infoMk:(Tryz.prog.info? 293).map (fun i=>(i.zero,i.size,i.bytes))=some (some (.agg (Array.replicate 4096 (.bool false))),4096,4096):=by kernel_rfl
theorem Tryz.zeroMk(w:World):(zeroValue 293).run Tryz.prog w=.ok (.agg (wR fun _=>false)) w:=by
 obtain⟨d,hi,a,b,c⟩:=info_parts Tryz.infoMk;have e:wR (fun _=>false)=Array.replicate 4096 (.bool false):=by
  unfold wR;rw[List.map_const',List.length_range,List.toArray_replicate]
 rw[e];simp[zeroValue,typeInfo,hi,a]
def Mk (w:World) (b:Nat) (f:Nat->Bool):Prop:=w.heap[b]? =some (.cells (wR f) 293 (0,0))
theorem Mk.cell(h:Mk w b f)(i:Nat)(hi:i<4096):w.cell? ⟨b,i,none⟩=some (.bool (f i)):=by
 rw[cell_of_row w b i (wR f) _ (0,0) h,rW f i hi]
theorem Mk.frozen(h:Mk w b f)(i:Nat):w.frozen? ⟨b,i,none⟩=false:=frozen_of_row w b i _ _ h
theorem Mk.set(h:Mk w b f)(i:Nat)(c:Bool):Mk (w.setCell ⟨b,i,none⟩ (.bool c)) b (fun n=>if n=i then c else f n):=by
 have:=heap_setCell_same w b i (wR f) 293 (.bool c) h
 rw[qakb]at this;exact this
theorem Mk.kept(h:Mk w b f)(c:w.grownBy w' r)(a:some b≠r):Mk w' b f:=(c.block b (Xd6.1 h).1 a).trans h
theorem Mk.a(h:Mk w b f)(hb:ah w w'):Mk w' b f:=h.kept (qf4 hb) (by simp)
theorem Mk.lt(h:Mk w b f):b<w.heap.size:=(Xd6.1 h).1
theorem Mk.new(w:World)(f:Nat->Bool):Mk (w.alloc (.cells (wR f) 293)) w.heap.size f:=heap_alloc_new w _
theorem Mk.same{g:Nat->Bool}(h:Mk w b f)(e:∀n,f n=g n):Mk w b g:=by rw[<-(funext e:f=g)];exact h
theorem He(a:0<=x.1)(b:1<=x.2)(c:x.1+x.2<=4096):eP x=true:=(sF x).2 ⟨a,b,c⟩
theorem Ky(h:¬(0<=x.1∧1<=x.2∧x.1+x.2<=4096)):eP x=false:=by rw[<-Xd4,sF];exact h
theorem qyu(x:Ex)(f:jg x)(w:World):Calls Tryz.prog 269 #[.agg #[.int .i64 x.1,.int .i64 x.2]] w fun e w'=>e=.returned (.bool (eP x))∧ah w w':=by
 obtain⟨p,q⟩:=x;obtain⟨a1,a2,a3,a4⟩:=f;simp only at a1 a2 a3 a4⊢
 have b:∀o,ah w (World.alloc w o):=fun o=>ae
 by_cases c:0<=p
 ·by_cases d:1<=q
  ·have k:wrap64 (4096-p)=4096-p:=by unfold wrap64;omega
   by_cases g:q<=4096-p
   ·have a:=ag (He (x:=(p,q)) c d (by simp;omega))
    go_enter Tryz.func269,Tryz.ntmps269;go_wp2;go_ret;exact⟨by rw[a.o];rfl,b _⟩
   have a:=ag (Ky (x:=(p,q)) (by simp;omega));have h:decide (q<=4096-p)=false:=by simpa using g
   go_enter Tryz.func269,Tryz.ntmps269;go_wp2;go_ret;exact⟨by rw[a.o];rfl,b _⟩
  have a:=ag (Ky (x:=(p,q)) (by simp;omega));have i:decide (1<=q)=false:=by simpa using d
  go_enter Tryz.func269,Tryz.ntmps269;go_wp2;go_ret;exact⟨by rw[a.o];rfl,b _⟩
 have a:=ag (Ky (x:=(p,q)) (by simp;omega));have j:decide (0<=p)=false:=by simpa using c
 go_enter Tryz.func269,Tryz.ntmps269;go_wp2;go_ret;exact⟨by rw[a.o];rfl,b _⟩
theorem qwn(x:Ex)(f:jg x)(w:World):Calls Tryz.prog 243 #[.agg #[.int .i64 x.1,.int .i64 x.2]] w fun e w'=>e=.returned (.bool (eP x))∧ah w w':=by
 obtain⟨p,q⟩:=x;obtain⟨a1,a2,a3,a4⟩:=f;simp only at a1 a2 a3 a4⊢
 have b:∀o,ah w (World.alloc w o):=fun o=>ae
 by_cases c:0<=p
 ·by_cases g:p<=4096
  ·by_cases d:1<=q
   ·have m:wrap64 (4096-p)=4096-p:=by unfold wrap64;omega
    by_cases h:q<=4096-p
    ·have a:=ag (He (x:=(p,q)) c d (by simp;omega))
     go_enter Tryz.func243,Tryz.ntmps243;go_wp2;go_ret;exact⟨by rw[a.o];rfl,b _⟩
    have a:=ag (Ky (x:=(p,q)) (by simp;omega));have i:decide (q<=4096-p)=false:=by simpa using h
    go_enter Tryz.func243,Tryz.ntmps243;go_wp2;go_ret;exact⟨by rw[a.o];rfl,b _⟩
   have a:=ag (Ky (x:=(p,q)) (by simp;omega));have j:decide (1<=q)=false:=by simpa using d
   go_enter Tryz.func243,Tryz.ntmps243;go_wp2;go_ret;exact⟨by rw[a.o];rfl,b _⟩
  have a:=ag (Ky (x:=(p,q)) (by simp;omega));have k:decide (p<=4096)=false:=by simpa using g
  go_enter Tryz.func243,Tryz.ntmps243;go_wp2;go_ret;exact⟨by rw[a.o];rfl,b _⟩
 have a:=ag (Ky (x:=(p,q)) (by simp;omega));have l:decide (0<=p)=false:=by simpa using c
 go_enter Tryz.func243,Tryz.ntmps243;go_wp2;go_ret;exact⟨by rw[a.o];rfl,b _⟩
theorem I5(x:Ex)(f:eP x=true)(n:Int)(w:World):Calls Tryz.prog 244 #[.agg #[.int .i64 x.1,.int .i64 x.2],.int .i64 n] w fun e w'=>e=.returned (.bool (iQ x n))∧ah w w':=by
 rw[sF]at f;obtain⟨p,q⟩:=x;obtain⟨a1,a2,a3⟩:=f;simp only at a1 a2 a3⊢
 have c:∀o,ah w (World.alloc w o):=fun o=>ae
 have i:wrap64 (p+q)=p+q:=by unfold wrap64;omega
 by_cases b:p<=n
 ·by_cases d:n<p+q
  ·have a:=ag (show iQ (p,q) n=true by simp[iQ,b,d])
   go_enter Tryz.func244,Tryz.ntmps244;go_wp2;go_ret;exact⟨by rw[a.o];rfl,c _⟩
  have a:=ag (show iQ (p,q) n=false by simp[iQ,b,d]);have g:decide (n<p+q)=false:=by simpa using d
  go_enter Tryz.func244,Tryz.ntmps244;go_wp2;go_ret;exact⟨by rw[a.o];rfl,c _⟩
 have a:=ag (show iQ (p,q) n=false by simp[iQ,b]);have h:decide (p<=n)=false:=by simpa using b
 go_enter Tryz.func244,Tryz.ntmps244;go_wp2;go_ret;exact⟨by rw[a.o];rfl,c _⟩
theorem qabj(x y:Ex)(f:eP x=true)(g:eP y=true)(w:World):Calls Tryz.prog 270 #[.agg #[.int .i64 x.1,.int .i64 x.2],.agg #[.int .i64 y.1,.int .i64 y.2]] w fun e w'=>e=.returned (.bool (pG x y))∧ah w w':=by
 rw[sF]at f g;obtain⟨p,q⟩:=x;obtain⟨r,s⟩:=y;obtain⟨a1,a2,a3⟩:=f;obtain⟨i,j,k⟩:=g;simp only at a1 a2 a3 i j k⊢
 have c:∀o h,ah w (World.alloc (World.alloc w o) h):=fun o h=>(ae).alloc (by simp) _
 have t:wrap64 (p+q)=p+q:=by unfold wrap64;omega
 have l:wrap64 (r+s)=r+s:=by unfold wrap64;omega
 by_cases b:p<r+s
 ·by_cases d:r<p+q
  ·have a:=ag (show pG (p,q) (r,s)=true by simp[pG,b,d])
   go_enter Tryz.func270,Tryz.ntmps270;go_wp2;go_ret;exact⟨by rw[a.o];rfl,c _ _⟩
  have a:=ag (show pG (p,q) (r,s)=false by simp[pG,b,d]);have m:decide (r<p+q)=false:=by simpa using d
  go_enter Tryz.func270,Tryz.ntmps270;go_wp2;go_ret;exact⟨by rw[a.o];rfl,c _ _⟩
 have a:=ag (show pG (p,q) (r,s)=false by simp[pG,b]);have n:decide (p<r+s)=false:=by simpa using b
 go_enter Tryz.func270,Tryz.ntmps270;go_wp2;go_ret;exact⟨by rw[a.o];rfl,c _ _⟩
theorem qjz(a:aA)(n c:Nat)(l:List Ex)(w:World)(h:iB w (.slice a n c) l)(s:n=l.length)(m:∀x∈l,jg x):
  Calls Tryz.prog 238 #[.slice a n c] w fun e w'=>e=.returned (.int .i64 (dE l))∧ah w w':=by
 have y:n<=maxLen:=s▸h.len_le;unfold maxLen at y;have z:=ag h;have p:=ag s;have A:=ag m;clear h s m;by_cases E:n > 4096
 ·have q:=ag (show dE l=4 by have:=p.o;unfold dE;rw[if_pos (by omega)])
  have t:(4096:Int)<n:=by omega
  go_enter Tryz.func238,Tryz.ntmps238;go_wp2;go_ret;exact⟨by rw[q.o];rfl,aF⟩
 have t:decide ((4096:Int)<n)=false:=aC (by omega);go_enter Tryz.func238,Tryz.ntmps238;go_wp2;go_loopw [10] (fun i wr=>∃k:Nat,k<=n∧i=.int .i64 k∧af (∀x∈l.take k,eP x=true)∧ah w wr) (fun i _=>n-(intOf i).toNat)
 case atStart=>exact⟨0,Xd5 _,rfl,ag (by simp),aF⟩
 obtain⟨k,F,rfl,g,d⟩:=hrel;by_cases B:k<n
 ·have u:(k:Int)<n:=by omega
  have f:k<l.length:=by have:=p.o;omega
  obtain⟨b,C,rfl,G,H⟩:=(z.o.a d).at k f;go_wp2_with fail
  refine(qyu (l[k]) (A.o _ (Xa3 f)) _).mono ?_
  rintro e wc⟨rfl,r⟩;have v:ah w wc:=(d.alloc d.size _).trans (r.mono (aG d.size (by simp)));clear r;cases hp:eP l[k]with
  |true=>
   have D:=ag (show ∀x∈l.take (k+1),eP x=true by
    intro x j;rw[qw l k f]at j;rcases Xa5.1 j with j|j
    ·exact g.o x j
    rw[Xb3.1 j];exact hp)
   clear hp;go_wp2;go_roundw
   case rel=>exact⟨k+1,by omega,rfl,D,v⟩
   simp only[intOf];omega
  |false=>
   have q:=ag (show dE l=8 from qoz f (by have:=p.o;omega) hp);clear hp;go_wp2;go_ret;exact⟨by rw[q.o];rfl,v⟩
 have I:decide ((k:Int)<n)=false:=aC (by omega);have e:k=l.length:=by have:=p.o;omega
 have q:=ag (show dE l=0 from qk2 (by have:=p.o;omega) (by rw[<-e];exact g.o));clear e;go_wp2;go_ret;exact⟨by rw[q.o];rfl,d⟩
theorem Sy(f:Nat->Bool)(r k n:Nat):(if n=r+k then true else(f n ||iQ ((r:Int),(k:Int)) n))=(f n ||iQ ((r:Int),((k+1:Nat):Int)) n):=by
 rw[Bool.eq_iff_iff];by_cases e:n=r+k
 ·rw[if_pos e];simp only[Bool.or_eq_true,iQ,Xe0,decide_eq_true_eq]
  exact⟨fun _=>.inr (by omega),fun _=>trivial⟩
 rw[if_neg e];simp only[Bool.or_eq_true,iQ,Xe0,decide_eq_true_eq]
 constructor
 ·rintro(h|h)
  ·exact .inl h
  right;omega
 rintro(h|h)
 ·exact .inl h
 right;omega
theorem Wq(b:Nat)(f:Nat->Bool)(x:Ex)(j:eP x=true)(w:World)(c:Mk w b f):
  Calls Tryz.prog 266 #[.pointer (some ⟨b,0,none⟩),.agg #[.int .i64 x.1,.int .i64 x.2]] w fun e w'=>e=.returned (.tuple #[])∧Mk w' b (fun n=>f n ||iQ x n)∧w.grownBy w' (some b):=by
 rw[sF]at j;obtain⟨p,q⟩:=x;obtain⟨a1,a2,a3⟩:=j;simp only at a1 a2 a3⊢
 obtain⟨m,rfl⟩:∃m:Nat,q=m:=⟨q.toNat,by omega⟩;obtain⟨r,rfl⟩:∃r:Nat,p=r:=⟨p.toNat,by omega⟩;have u:=c.lt;have y:=ag (c.a ((Below.refl w.heap.size w).alloc aL (.cells #[.int .i64 r,.int .i64 m] 237)));clear c
 have d:(w.alloc (.cells #[.int .i64 r,.int .i64 m] 237)).cell? ⟨w.heap.size,0,none⟩=some (.int .i64 r):=by simp
 have E:(w.alloc (.cells #[.int .i64 r,.int .i64 m] 237)).cell? ⟨w.heap.size,1,none⟩=some (.int .i64 m):=by simp
 have g:w.grownBy (w.alloc (.cells #[.int .i64 r,.int .i64 m] 237)) (some b):=World.grownBy_alloc _ _ _;go_enter Tryz.func266,Tryz.ntmps266;go_wp2;go_loopw [7] (fun i wr=>∃k:Nat,k<=m∧i=.int .i64 k∧af (Mk wr b (fun n=>f n ||iQ ((r:Int),(k:Int)) n))∧w.grownBy wr (some b)∧wr.cell? ⟨w.heap.size,0,none⟩=some (.int .i64 r)) (fun i _=>m-(intOf i).toNat)
 case atStart=>exact⟨0,Xd5 _,rfl,ag (y.o.same fun n=>by simp[iQ];omega),g,d⟩
 obtain⟨k,F,rfl,a,l,z⟩:=hrel;by_cases s:k<m
 ·have t:(k:Int)<m:=by omega
  have h:=a.o.cell (r+k) (by omega);have A:=a.o.frozen (r+k);have B:wrap64 ((r:Int)+k)=((r+k:Nat):Int):=by unfold wrap64;omega
  have C:((r+k:Nat):Int)<4096:=by omega
  have D:=ag (a.o.set (r+k) true);go_wp2;go_region
  go_wp2;go_roundw
  case rel=>
   refine⟨k+1,by omega,rfl,ag (D.o.same fun n=>?_),xA (Qi l (nO _ _ _)), ?_⟩
   ·exact Sy f r k n
   exact(nO _ _ _).cell z (by simp;omega)
  simp only[intOf];omega
 have G:decide ((k:Int)<m)=false:=aC (by omega);obtain rfl:k=m:=by omega
 go_wp2;refine bodyPost_end (v:=.tuple #[]) ?_ rfl ⟨rfl,a.o,l⟩
 simp[results,Tryz.results266,go_sem]
theorem qafp{r m:Nat}(h:∀n:Nat,f n=true->iQ ((r:Int),(k:Int)) n=false)(b:f (r+k)=false):∀n:Nat,f n=true->iQ ((r:Int),((k+1:Nat):Int)) n=false:=by
 intro n a;have c:=h n a;have d:n≠r+k:=by rintro rfl;rw[b]at a;cases a
 simp only[iQ,Bool.and_eq_false_iff,Xd9]at c⊢;omega
theorem qui(b:Nat)(f:Nat->Bool)(x:Ex)(t:eP x=true)(w:World)(h:Mk w b f):
  Calls Tryz.prog 239 #[.pointer (some ⟨b,0,none⟩),.agg #[.int .i64 x.1,.int .i64 x.2]] w fun e w'=>w.grownBy w' (some b)∧
   ((e=.returned (.bool true)∧Mk w' b (fun n=>f n ||iQ x n)∧∀n:Nat,f n=true->iQ x n=false)∨(e=.returned (.bool false)∧∃n:Nat,n<4096∧f n=true∧iQ x n=true)):=by
 rw[sF]at t;obtain⟨p,q⟩:=x;obtain⟨a1,a2,a3⟩:=t;simp only at a1 a2 a3⊢
 obtain⟨m,rfl⟩:∃m:Nat,q=m:=⟨q.toNat,by omega⟩;obtain⟨r,rfl⟩:∃r:Nat,p=r:=⟨p.toNat,by omega⟩;have y:=h.lt;have z:=ag (h.a ((Below.refl w.heap.size w).alloc aL (.cells #[.int .i64 r,.int .i64 m] 237)));clear h
 have j:(w.alloc (.cells #[.int .i64 r,.int .i64 m] 237)).cell? ⟨w.heap.size,0,none⟩=some (.int .i64 r):=by simp
 have H:(w.alloc (.cells #[.int .i64 r,.int .i64 m] 237)).cell? ⟨w.heap.size,1,none⟩=some (.int .i64 m):=by simp
 have l:w.grownBy (w.alloc (.cells #[.int .i64 r,.int .i64 m] 237)) (some b):=World.grownBy_alloc _ _ _;go_enter Tryz.func239,Tryz.ntmps239;go_wp2;go_loopw [8] (fun i wr=>∃k:Nat,k<=m∧i=.int .i64 k∧af (Mk wr b (fun n=>f n ||iQ ((r:Int),(k:Int)) n))∧af (∀n:Nat,f n=true->iQ ((r:Int),(k:Int)) n=false)∧w.grownBy wr (some b)∧wr.cell? ⟨w.heap.size,0,none⟩=some (.int .i64 r)) (fun i _=>m-(intOf i).toNat)
 case atStart=>exact⟨0,Xd5 _,rfl,ag (z.o.same fun n=>by simp[iQ];omega),ag (fun n _=>by simp only[iQ,Bool.and_eq_false_iff,Xd9];omega),l,j⟩
 obtain⟨k,I,rfl,c,d,s,A⟩:=hrel;by_cases u:k<m
 ·have v:(k:Int)<m:=by omega
  have a:=c.o.cell (r+k) (by omega);have B:=c.o.frozen (r+k);have C:wrap64 ((r:Int)+k)=((r+k:Nat):Int):=by unfold wrap64;omega
  have D:((r+k:Nat):Int)<4096:=by omega
  have E:=ag (c.o.set (r+k) true);have g:iQ ((r:Int),(k:Int)) ((r+k:Nat):Int)=false:=by simp only[iQ,Bool.and_eq_false_iff,Xd9];omega
  rw[g,Bool.or_false]at a;clear g;cases hf:f (r+k)with
  |false=>
   rw[hf]at a;have F:=ag (qafp (m:=m) d.o hf);clear hf;go_wp2;go_region
   go_wp2;go_region
   go_wp2;go_roundw
   case rel=>
    refine⟨k+1,by omega,rfl,ag (E.o.same fun n=>?_),F,xA (xA (Qi s (nO _ _ _))), ?_⟩
    ·exact Sy f r k n
    exact(nO _ _ _).cell A (by simp;omega)
   simp only[intOf];omega
  |true=>
   rw[hf]at a;have G:=ag (show ∃n:Nat,n<4096∧f n=true∧iQ ((r:Int),(m:Int)) n=true from⟨r+k,by omega,hf,by simp[iQ];omega⟩);clear hf;go_wp2;go_region
   go_wp2;go_ret;exact⟨xA s,.inr ⟨rfl,G.o⟩⟩
 have J:decide ((k:Int)<m)=false:=aC (by omega);obtain rfl:k=m:=by omega
 go_wp2;go_ret;exact⟨s,.inl ⟨rfl,c.o,d.o⟩⟩
theorem qr0(b:k<l.length)(a:k+1=l.length)(h:l[k].1+l[k].2=N):l.set k (l[k].1,l[k].2+1)=Ad l N:=by
 rcases List.eq_nil_or_concat l with rfl|⟨c,x,rfl⟩
 ·simp at a
 have e:k=c.length:=by simp at a;omega
 subst e;simp only[Xc7,List.getElem_append_right aL,Nat.sub_self,List.getElem_cons_zero]at h⊢;rw[Ra,if_pos h];simp
theorem qr1(b:k<l.length)(a:k+1=l.length)(h:¬l[k].1+l[k].2=N):l++[(N,1)]=Ad l N:=by
 rcases List.eq_nil_or_concat l with rfl|⟨c,x,rfl⟩
 ·simp at a
 have e:k=c.length:=by simp at a;omega
 subst e;simp only[Xc7,List.getElem_append_right aL,Nat.sub_self,List.getElem_cons_zero]at h⊢;rw[Ra,if_neg h]
theorem qwo(h:bA w base v l)(hb:base<=w.heap.size)(hl:l.length<=1000000)(x y:Int)(nq:Nat):
  ∃g c w',(Builtin.append_ #[96,96] 96 #[v,.slice (some ⟨w.heap.size,0,none⟩) 1 1]).run Tryz.prog ((w.drewN nq).alloc (.cells #[.int .i64 x,.int .i64 y] 237))=.ok (.slice (some ⟨g,0,none⟩) (l.length+1) c) w'∧
   bA w' base (.slice (some ⟨g,0,none⟩) (l.length+1) c) (l++[(x,y)])∧Below base w w':=by
 obtain⟨g,c,w',b,d,a⟩:=Ma (w:=w.drewN nq) h hb hl x y;exact⟨g,c,w',b,d,⟨a.os,a.tape,a.output,a.size,a.block⟩⟩
theorem qafq(base:Nat)(a:aA)(n c:Nat)(l:List Ex)(N:Int)(w:World)(h:bA w base (.slice a n c) l)(hb:base<=w.heap.size)(m:n=l.length)(hl:l.length<=4096)(t:∀x∈l,eP x=true):
  Calls Tryz.prog 288 #[.slice a n c,.int .i64 N] w fun e w'=>∃v,e=.returned v∧bA w' base v (Ad l N)∧Below base w w':=by
 have F:=ag (qwo h hb (by omega) N 1);cases hz:l.length with
 |zero=>
  obtain rfl:l=[]:=Xb6.1 hz;have u:n=0:=by simpa using m
  subst u;clear h m t;go_enter Tryz.func288,Tryz.ntmps288;go_wp2;go_quiet (fail)
  obtain⟨J,K,L,b,r,y⟩:=F.o nq;have z:=ag r;clear r;go_wp2_with (at_builtin;refine kS rfl (.tmp 35) (.tmp 38) 96 rfl rfl rfl rfl b ?_)
  go_ret;exact⟨_,rfl,z.o,y⟩
 |succ k=>
  obtain⟨g,rfl,s, -,M,A⟩:=h.lies (by intro e;rw[e]at hz;simp at hz);have B:n=k+1:=by omega
  subst B;have d:k<l.length:=by omega
  have X:=(sF _).1 (t _ (Xa3 d));obtain⟨e1,G⟩:=yn l k d;have c1:w.cell? ⟨g,k*2,none⟩=some (.int .i64 (l[k]).1):=by have:=h.cells (g:=g) rfl _ _ e1;rw[Addr.add_lit]at this;simpa using this
  have c2:w.cell? ⟨g,k*2+1,none⟩=some (.int .i64 (l[k]).2):=by have:=h.cells (g:=g) rfl _ _ G;rw[Addr.add_lit]at this;simpa [Nat.add_assoc]using this
  have Y:=fun j=>World.ownsRow.frozenAt (m▸h:w.ownsRow base 237 2 (.slice (some ⟨g,0,none⟩) (k+1) c) (k+1) (cellsE l)) j
  obtain⟨H,I⟩:=h.stored m k d ((l[k]).2+1);have C:=ag (fun f=>qr0 (N:=N) d hz.symm f);have i:=ag (fun f=>qr1 (N:=N) d hz.symm f);have O:=ag H;have Z:=ag I;have P:=ag s;have Q:wrap64 ((k:Int)+1-1)=k:=by unfold wrap64;unfold maxLen at A;omega
  have D:=m;clear D e1 G H I h m t hz s;generalize R:(l[k]).1=p at *;generalize S:(l[k]).2=q at *;have T:wrap64 (p+q)=p+q:=by unfold wrap64;omega
  have U:wrap64 (q+1)=q+1:=by unfold wrap64;omega
  have V:(k:Int)<((k+1:Nat):Int):=by omega
  clear R S;by_cases f:p+q=N
  ·have E:=ag (C.o f)
   clear C i;go_enter Tryz.func288,Tryz.ntmps288;go_wp2;go_quiet (fail)
   go_wp2;go_ret;refine⟨_,rfl, ?_, ?_⟩
   ·rw[<-E.o];exact O.o
   exact Below.setCell (below_drewN (Below.refl base w) nq) P.o _
  have E:=ag (i.o f);have W:(p+q==N)=false:=by simpa using f
  clear C i;go_enter Tryz.func288,Tryz.ntmps288;go_wp2;go_quiet (fail)
  obtain⟨J,K,L,b,r,y⟩:=F.o nq;have z:=ag r;clear r;go_wp2_with (at_builtin;refine kS rfl (.tmp 35) (.tmp 38) 96 rfl rfl rfl rfl b ?_)
  go_ret;refine⟨_,rfl, ?_, ?_⟩
  ·rw[<-E.o];exact z.o
  exact y
theorem qr2{u:Int->Bool}{a:Int}(c:0<=a)(d:a+k<=4096):∀x∈kG u a k,eP x=true:=by
 intro x b;have:=(qi6 u a k).1.1 x b
 rw[sF];omega
theorem qr3(b:Nat)(f:Nat->Bool)(p m:Nat)(T:Int)(w:World)(r:Mk w b f)(D:p+m<=4096)(x:T=p+m):
  Calls Tryz.prog 267 #[.pointer (some ⟨b,0,none⟩),.int .i64 p,.int .i64 T] w fun e w'=>∃v,e=.returned v∧bA w' w.heap.size v (kG (fun n=>f n.toNat) p m)∧ah w w':=by
 have s:=r.lt;have E:=ag r;have y:=ag x;clear r x;go_enter Tryz.func267,Tryz.ntmps267;go_wp2;go_loopw [7,8] (fun v i wr=>∃k:Nat,k<=m∧i=.int .i64 ((p:Int)+(k:Int))∧af (bA wr w.heap.size v (kG (fun n=>f n.toNat) p k))∧ah w wr) (fun _ i _=>p+m-(intOf i).toNat)
 case atStart=>exact⟨0,Xd5 _,by simp,ag (bA.nil _ _),aF⟩
 obtain⟨k,L,rfl,q,c⟩:=hrel;by_cases z:k<m
 ·have A:(p:Int)+(k:Int)<T:=by have:=y.o;omega
  have j:Mk wr b f:=(c.block b s).trans E.o;have d:=j.cell (p+k) (by omega);have F:(p:Int)+(k:Int)<4096:=by omega
  have B:0<=(p:Int)+(k:Int):=by omega
  have g:((p:Int)+(k:Int)).toNat=p+k:=by omega
  have G:wrap64 ((p:Int)+(k:Int)+1)=(p:Int)+(k:Int)+1:=by unfold wrap64;omega
  clear j;cases hf:f (p+k)with
  |true=>
   rw[hf]at d;have t:=ag (show kG (fun n=>f n.toNat) p (k+1)=kG (fun n=>f n.toNat) p k by
    rw[kG,if_pos];show f ((p:Int)+k).toNat=true
    rw[g];exact hf)
   clear hf;go_wp2;go_roundw
   case rel=>exact⟨k+1,by omega,congrArg (Value.int .i64) (by omega),ag (by rw[t.o];exact q.o),c⟩
   simp only[intOf];omega
  |false=>
   rw[hf]at d;have t:=ag (show kG (fun n=>f n.toNat) p (k+1)=Ad (kG (fun n=>f n.toNat) p k) ((p:Int)+(k:Int))by
    rw[kG,if_neg];show ¬f ((p:Int)+k).toNat=true
    rw[g,hf];simp)
   clear hf;obtain⟨H,I,rfl⟩:=q.o.form;have hl:=ZH (fun n=>f n.toNat) p k;have C:=ag (qr2 (u:=fun n=>f n.toNat) (a:=p) (k:=k) (by omega) (by omega));go_wp2_with fail
   refine(qafq w.heap.size H _ I _ ((p:Int)+(k:Int)) wr q.o c.size rfl (by omega) C.o).mono ?_
   rintro e wc⟨v,rfl,h,l⟩;have J:=ag (show bA wc w.heap.size v (kG (fun n=>f n.toNat) p (k+1))by rw[t.o];exact h);have K:=c.trans l;clear l h C hl;go_wp2;go_roundw
   case rel=>exact⟨k+1,by omega,congrArg (Value.int .i64) (by omega),J,K⟩
   simp only[intOf];omega
 have M:decide ((p:Int)+(k:Int)<T)=false:=by simpa using(by have:=y.o;omega:¬(p:Int)+(k:Int)<T)
 obtain rfl:k=m:=by omega
 go_wp2;go_ret;exact⟨_,rfl,q.o,c⟩
theorem qafr(h:k<l.length)(y:Ex):(l.set k y).take (k+1)=l.take k++[y]:=by
 rw[qw _ _ (by simpa using h)];simp[List.take_set_of_le]
theorem qafs(a:k<l.length)(b:Z=W-gJ (l.take k))(c:1<=Z)(d:∀x∈l,1<=x.2)(e:Z<=(l[k]).2):fE l W=some ((l.set k ((l[k]).1,Z)).take (k+1)):=by
 rw[qq6 (w:=W) a (by omega) d (by omega),qafr a,b]
theorem qaft(a:k<l.length)(b:Z=W-gJ (l.take k)):Z-(l[k]).2=W-gJ (l.take (k+1)):=by
 rw[qw l k a,ZG];omega
theorem KL(base:Nat)(a:aA)(n c:Nat)(l:List Ex)(W:Int)(w:World)(h:bA w base (.slice a n c) l)(hb:base<=w.heap.size)(J:n=l.length)(hl:l.length<=4096)(y:∀x∈l,0<=x.1∧1<=x.2∧x.1+x.2<=4096)(S:1<=W)(A:W<=4096):
  Calls Tryz.prog 233 #[.slice a n c,.int .i64 W] w fun e w'=>∃v,e=.returned (.tuple #[v,.int .i64 (sG l W)])∧bA w' base v ((fE l W).getD [])∧Below base w w':=by
 have K:=ag y;have B:=ag (fun x L=>(y x L).2.1:∀x∈l,1<=x.2);have C:=ag h;have q:=ag J;have qN:n<=4096:=by omega
 clear h y J hl;go_enter Tryz.func233,Tryz.ntmps233;go_wp2;go_loopw [1,10] (fun z i wr=>∃(k:Nat) (Z:Int),k<=n∧z=.int .i64 Z∧i=.int .i64 k∧af (Z=W-gJ (l.take k))∧1<=Z∧Z<=4096∧ah w wr) (fun _ i _=>n-(intOf i).toNat)
 case atStart=>exact⟨0,W,Xd5 _,rfl,rfl,ag (by simp[gJ]),S,A,aF⟩
 obtain⟨k,Z,hk,rfl,rfl,u,D,T,d⟩:=hrel;by_cases E:k<n
 ·have M:(k:Int)<n:=by omega
  have f:k<l.length:=by have:=q.o;omega
  obtain⟨g,rfl,r, -,F, -⟩:=C.o.lies (by intro e;rw[e]at f;simp at f);have m:=C.o.a d;obtain⟨b,U,e,V,X⟩:=m.rd.at k f;cases e;rw[Nat.zero_add]at V X;by_cases s:Z<=(l[k]).2
  ·have t:=ag (qafs f u.o D B.o s)
   have j:=m.a (aF.alloc aL (.cells #[.int .i64 (l[k]).1,.int .i64 (l[k]).2] 237));obtain⟨N,Y⟩:=j.stored q.o k f Z;have HS:=ag (N.take (by simpa using q.o) (k+1) (by simp;omega));have aa:=j.frozen q.o (k*2+1);have p:Below base w (wr.alloc (.cells #[.int .i64 (l[k]).1,.int .i64 (l[k]).2] 237)):=(d.mono hb).alloc (aG hb d.size) _;obtain⟨b',O,e',pU,G⟩:=j.rd.at k f;cases e';rw[Nat.zero_add]at G;clear pU;have fu:=ag p;have Sz:=ag r;have H:wrap64 ((k:Int)+1)=(k:Int)+1:=wQ (by omega);have ab:(k:Int)+1<=c:=by have I:k+1<=c:=aG E F;exact Int.ofNat_le.2 I
   clear N Y m j p K B C q u d hb r;generalize (l[k]).1=P at *;generalize (l[k]).2=R at *;go_wp2;go_ret2;exact⟨_,by unfold sG;rw[t.o];rfl,by rw[t.o];exact HS.o,fu.o.setCell Sz.o _⟩
  have Q:decide (Z<=(l[k]).2)=false:=by simpa using s
  have L:=K.o _ (Xa3 f);have HZ:=ag (qaft f u.o);have H:wrap64 (Z-(l[k]).2)=Z-(l[k]).2:=by unfold wrap64;omega
  have p:=d.alloc d.size (.cells #[.int .i64 (l[k]).1,.int .i64 (l[k]).2] 237);clear m;go_wp2;go_roundw
  case rel=>exact⟨k+1,_,by omega,rfl,rfl,HZ,by omega,by omega,p⟩
  simp only[intOf];omega
 have hd:decide ((k:Int)<n)=false:=aC (by omega);have t:=ag (show fE l W=none from qv0 (by have I:=u.o;have:=q.o;rw[Xa1 (by omega)]at I;omega) B.o);go_wp2;go_ret2;exact⟨_,by unfold sG;rw[t.o];rfl,by rw[t.o];exact bA.nil _ _,d.mono hb⟩
end Go.Proofs.YtmeaiocohalphaaGreatDoor
