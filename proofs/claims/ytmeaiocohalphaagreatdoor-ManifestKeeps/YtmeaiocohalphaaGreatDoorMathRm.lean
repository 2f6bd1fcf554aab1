/-
  Plain mathematics of extents: which may be, which are apart, their blocks, what is free, what is taken. No program is named here.
-/
import Derived.WalkKit
import Derived.Laws.BitsAllLaws
import Derived.WalkSmall
import Derived.Lib.AppendStr
import Derived.Laws.AppendOwnNone
import Derived.Laws.OwnMore
import Derived.Laws.BytesArg
import Derived.OpenShut
namespace Go.Proofs.YtmeaiocohalphaaGreatDoor
open Go.RowKit
def smF:Nat→Nat→List UInt8
 | 0,n=>[UInt8.ofNat n]
 | f+1,n=>if n<128 then [UInt8.ofNat n] else UInt8.ofNat (n % 128+128)::smF f (n / 128)
theorem qkh {n:Nat} (h:n<128):∀f,smF f n=[UInt8.ofNat n]
 | 0=>rfl
 | f+1=>by simp [smF,h]
theorem qwa:∀f g n:Nat,n≤f→n≤g→smF f n=smF g n
 | 0,g,n,h,_=>by
  obtain rfl:n=0:=by omega
  rw [qkh (by omega),qkh (by omega)]
 | f+1,0,n,_,h=>by
  obtain rfl:n=0:=by omega
  rw [qkh (by omega),qkh (by omega)]
 | f+1,g+1,n,h,k=>by
  by_cases hl:n<128
  ·rw [qkh hl,qkh hl]
  ·simp only [smF,hl,if_false]
   rw [qwa f g (n / 128) (by omega) (by omega)]
def sm (n:Nat):List UInt8:=smF n n
theorem qo5 {n:Nat} (h:n<128):sm n=[UInt8.ofNat n]:=qkh h n
theorem qz6 {n:Nat} (h:128≤n):sm n=UInt8.ofNat (n % 128+128)::sm (n / 128):=by
 unfold sm;obtain ⟨m,rfl⟩:∃m,n=m+1:=⟨n - 1,by omega⟩;rw [smF,if_neg (by omega),qwa m ((m+1) / 128) _ (by omega) (by omega)]
theorem qwb (n:Nat):1≤(sm n).length:=by
 by_cases h:n<128
 ·rw [qo5 h];simp
 ·rw [qz6 (by omega)];simp
theorem qhk:∀(k n:Nat),n<128 ^ k→(sm n).length≤max 1 k
 | 0,n,h=>by simp at h;subst h;rw [qo5 (by omega)];simp
 | k+1,n,h=>by
  by_cases h1:n<128
  ·rw [qo5 h1];simp
  ·rw [qz6 (by omega)]
   have:=qhk k (n / 128) (by rw [Nat.pow_succ] at h;omega)
   have hk:1≤k:=by
    rcases k with _ | k
    ·simp at h;omega
    ·omega
   simp only [List.length_cons];omega
theorem qaf {n:Nat} (h:n<18446744073709551616):(sm n).length≤10:=by
 have:=qhk 10 n (by omega);omega
theorem u8_mod (m:Nat):(m:Int) % 256=((UInt8.ofNat m).toNat:Int):=by
 rw [UInt8.toNat_ofNat'];omega
theorem u8_id (m:Nat) (h:m<256):(m:Int)=((UInt8.ofNat m).toNat:Int):=by
 rw [UInt8.toNat_ofNat'];omega
theorem qz7:∀x:Fin 256,x.val ||| 128=x.val % 128+128:=by decide+kernel
theorem or128 (m:Nat):bits BinOp.or IntKind.u8 ((m:Int) % 256) 128=((UInt8.ofNat (m % 128+128)).toNat:Int):=by
 have h:=u8_or_nat (m % 256) 128 (by omega) (by omega)
 have e:(((m % 256:Nat):Int))=(m:Int) % 256:=by omega
 rw [e] at h;have h2:=qz7 ⟨m % 256,by omega⟩
 simp only at h2
 rw [h2] at h;rw [UInt8.toNat_ofNat'];rw [show (128:Int)=((128:Nat):Int) from rfl,h];omega
def u8v (l:List UInt8):List Value:=l.map fun b=>Value.int .u8 b.toNat
@[simp] theorem u8v_length (l:List UInt8):(u8v l).length=l.length:=by simp [u8v]
theorem qf7 (a b:List UInt8):u8v (a++b)=u8v a++u8v b:=by simp [u8v]
def rdGo:List UInt8→Nat→Nat→Option (Nat × Nat)
 | [],_,_=>none
 | c::r,i,acc=>
  if i=9∧1<c.toNat then none
  else if 128≤c.toNat then rdGo r (i+1) (acc+(c.toNat % 128)*128 ^ i)
  else if c.toNat=0∧0<i then none
  else some (acc+c.toNat*128 ^ i,i+1)
def rd (l:List UInt8):Option (Nat × Nat):=rdGo l 0 0
def rdV:Option (Nat × Nat)→Value
 | none=>.tuple #[.int .u64 0,.int .i64 0,.int .i64 8]
 | some (n,k)=>.tuple #[.int .u64 n,.int .i64 k,.int .i64 0]
theorem qae3 {c:UInt8} {r:List UInt8} {acc:Nat} (h:1<c.toNat):rdGo (c::r) 9 acc=none:=by simp [rdGo,h]
theorem qq4 {c:UInt8} {r:List UInt8} {i acc:Nat} (h9:i≠9) (h:128≤c.toNat):rdGo (c::r) i acc=rdGo r (i+1) (acc+(c.toNat % 128)*128 ^ i):=by
 simp [rdGo,h9,h]
theorem qq5 {c:UInt8} {r:List UInt8} {i acc:Nat} (h0:c.toNat=0) (hi:0<i):rdGo (c::r) i acc=none:=by
 simp [rdGo,h0,hi]
theorem qhl {c:UInt8} {r:List UInt8} {i acc:Nat} (h9:¬(i=9∧1<c.toNat)) (h:c.toNat<128) (h0:¬(c.toNat=0∧0<i)):rdGo (c::r) i acc=some (acc+c.toNat*128 ^ i,i+1):=by
 rw [rdGo,if_neg h9,if_neg (by omega),if_neg h0]
theorem qz8 (k:Nat):2 ^ (7*k)=128 ^ k:=by rw [Nat.pow_mul]
theorem qz9 (acc k x:Nat) (hacc:acc<128 ^ k) (hk:k≤8):
  bits BinOp.or IntKind.u64 (acc:Int) (IntKind.u64.wrap ((x:Int) % 128*2 ^ (7*k)))=((acc+x % 128*128 ^ k:Nat):Int):=by
 have h8:128 ^ k≤72057594037927936:=Nat.le_trans (Nat.pow_le_pow_right (by decide) hk) (by decide)
 have e:((x:Int) % 128*2 ^ (7*k))=((x % 128*128 ^ k:Nat):Int):=by
  rw [←qz8];push_cast;rfl
 have hm:x % 128*128 ^ k≤127*72057594037927936:=Nat.mul_le_mul (by omega) h8;rw [e,IntKind.wrap_u64,show ((x % 128*128 ^ k:Nat):Int) % 18446744073709551616=((x % 128*128 ^ k:Nat):Int) by omega];rw [u64_or_nat _ _ (by omega) (by omega)]
 congr 1
 have h:=Nat.two_pow_add_eq_or_of_lt (i:=7*k) (b:=acc) (by rw [qz8];exact hacc) (x % 128);rw [qz8,Nat.mul_comm] at h;rw [Nat.or_comm,←h,Nat.add_comm]
theorem qai9 (acc x:Nat) (hacc:acc<128 ^ 9) (hx:x≤1):
  bits BinOp.or IntKind.u64 (acc:Int) ((x:Int) % 128*9223372036854775808)=((acc+x*128 ^ 9:Nat):Int):=by
 have e:((x:Int) % 128*9223372036854775808)=((x*9223372036854775808:Nat):Int):=by omega
 rw [e,u64_or_nat _ _ (by omega) (by omega)]
 congr 1
 have h:=Nat.two_pow_add_eq_or_of_lt (i:=63) (b:=acc) (by omega) x;rw [Nat.or_comm,show x*9223372036854775808=2 ^ 63*x by omega,←h];omega
theorem qwc {acc k x:Nat} (h:acc<128 ^ k):acc+x % 128*128 ^ k<128 ^ (k+1):=by
 rw [Nat.pow_succ]
 have:x % 128*128 ^ k≤127*128 ^ k:=Nat.mul_le_mul_right _ (by omega)
 omega
end Go.Proofs.YtmeaiocohalphaaGreatDoor
namespace Go.Proofs.YtmeaiocohalphaaGreatDoor
open Go.RowKit
theorem qc8 (l:List UInt8):∀u∈u8v l,u.oneCell'=true:=by
 intro u hu
 simp only [u8v,List.mem_map] at hu
 obtain ⟨b,_,rfl⟩:=hu;rfl
theorem qcs (l:List UInt8) (j:Nat) (u:Value) (h:(u8v l)[j]? =some u):∃hj:j<l.length,u=.int .u8 (l[j]).toNat:=by
 simp only [u8v,List.getElem?_map,Option.map_eq_some_iff] at h
 obtain ⟨b,hb,rfl⟩:=h;obtain ⟨hj,rfl⟩:=List.getElem?_eq_some_iff.1 hb;exact ⟨hj,rfl⟩
def Rd (w:World) (v:Value) (l:List UInt8):Prop:=
 (l=[]∧(v=.slice none 0 0∨∃a c,v=.slice (some a) 0 c))∨
 ∃b off c,v=.slice (some ⟨b,off,none⟩) l.length c∧l.length≤c∧c≤maxLen∧∀j,(h:j<l.length)→w.cell? ⟨b,off+j,none⟩=some (.int .u8 (l[j]).toNat)
theorem Rd.carry {w w':World} {v:Value} {l:List UInt8} (h:Rd w v l) (hb:Below w.heap.size w w'):Rd w' v l:=by
 rcases h with h | ⟨b,off,c,rfl,hc,hm,hcell⟩
 ·exact .inl h
 ·refine .inr ⟨b,off,c,rfl,hc,hm,fun j hj=>?_⟩
  rw [hb.cell (World.block_lt_of_cell? w _ (hcell j hj))];exact hcell j hj
theorem Rd.alloc {w:World} {v:Value} {l:List UInt8} (h:Rd w v l) (o:Obj):Rd (w.alloc o) v l:=
 h.carry ((Below.refl _ _).alloc (Nat.le_refl _) o)
theorem qjg {w:World} {base:Nat} {e:TypeId} {v:Value} {l:List UInt8} (h:w.ownsRow base e 1 v l.length (u8v l)):Rd w v l:=by
 rcases h.2 with ⟨rfl,hn⟩ | ⟨g,cap,cur,rfl,_,hg,hn,hm,hsz,htake⟩
 ·exact .inl ⟨List.length_eq_zero_iff.1 hn,.inl rfl⟩
 ·refine .inr ⟨g,0,cap,rfl,hn,hm,fun j hj=>?_⟩
  have:=h.cells (g:=g) rfl j (.int .u8 (l[j]).toNat) (by simp [u8v,List.getElem?_eq_getElem hj])
  simpa [Addr.add_lit] using this
section
variable {P:Program}
theorem qki {ops:Array Oper} {rest:List Oper} {o:Oper} {a:Act} {Q:Exit→Act→World→Prop} (W wr:World) (hgd:o.guard=none) (s x:Operand) (t:TypeId)
  (ho:o.op=.call {callee:=.builtin .append,args:=#[s,x],argTypes:=#[t,t]})
  (base:Nat) (e:TypeId) (ht:P.underlying t=some (.slice e)) (hi:(P.info? e).map (fun i=>(i.zero,i.size,i.bytes))=some (some (.int .u8 0),1,1))
  (v:Value) (l:List UInt8) (hown:wr.ownsRow base e 1 v l.length (u8v l)) (hs:a.eval s=v) (hbel:Below base W wr) (hb:base≤W.heap.size)
  (z:Int) (c:UInt8) (hz:z=c.toNat) (hx:a.eval x=.slice (some ⟨wr.heap.size,0,none⟩) 1 1) (hlen:l.length+1≤1000000000000)
  (h:∀v' w',w'.ownsRow base e 1 v' (l++[c]).length (u8v (l++[c]))→Below base W w'→wpList P ops Q rest (a.put o.dst v') w'):
  wpList P ops Q (o::rest) a (wr.alloc (.cells #[.int .u8 z] e)):=by
 obtain ⟨i0,hi,hz0,hz1,hz2⟩:=info_parts hi;subst hz
 have hbw:base≤wr.heap.size:=by have:=hbel.size;omega
 refine wpList_append_own _ hgd s x t ho base e i0 (.int .u8 0) 1 1 ht hi hz0 hz1 hz2 rfl (by decide) v l.length (u8v l) hs (hown.alloc _) ⟨wr.heap.size,0,none⟩ 1 1 [.int .u8 c.toNat] hx rfl ?_ ?_ ?_ ?_ ?_ ?_
 ·intro j u hj
  match j,hj with
  | 0,hj=>simp at hj;subst hj;simp [Addr.add]
 ·intro u hu;simp at hu;subst hu;rfl
 ·unfold maxLen;omega
 ·omega
 ·simp;omega
 ·intro v' w' hown' hg _
  refine h v' w' (by simpa [u8v] using hown') ((hbel.alloc hbw _).grown hg (by simp;omega) fun k hk=>(hown.lt k hk).1)
theorem qkj {ops:Array Oper} {rest:List Oper} {o:Oper} {a:Act} {Q:Exit→Act→World→Prop} (W wr:World) (hgd:o.guard=none) (s x:Operand) (t:TypeId)
  (ho:o.op=.call {callee:=.builtin .append,args:=#[s,x],argTypes:=#[t,t]})
  (base:Nat) (e:TypeId) (ht:P.underlying t=some (.slice e)) (hi:(P.info? e).map (fun i=>(i.zero,i.size,i.bytes))=some (some (.int .u8 0),1,1))
  (v:Value) (l:List UInt8) (hown:wr.ownsRow base e 1 v l.length (u8v l)) (hs:a.eval s=v) (hbel:Below base W wr) (hb:base≤W.heap.size)
  (b off c m:Nat) (l2:List UInt8) (hm:l2.length=m) (hx:a.eval x=.slice (some ⟨b,off,none⟩) m c) (hcell:∀j,(h:j<l2.length)→wr.cell? ⟨b,off+j,none⟩=some (.int .u8 (l2[j]).toNat)) (hlen:l.length+l2.length≤1000000000000)
  (h:∀v' w',w'.ownsRow base e 1 v' (l++l2).length (u8v (l++l2))→Below base W w'→(v'=.slice none 0 0↔v=.slice none 0 0∧l2.length=0)→wpList P ops Q rest (a.put o.dst v') w'):
  wpList P ops Q (o::rest) a wr:=by
 obtain ⟨i0,hi,hz0,hz1,hz2⟩:=info_parts hi;subst hm
 have hbw:base≤wr.heap.size:=by have:=hbel.size;omega
 refine wpList_append_own _ hgd s x t ho base e i0 (.int .u8 0) 1 1 ht hi hz0 hz1 hz2 rfl (by decide) v l.length (u8v l) hs hown ⟨b,off,none⟩ l2.length c (u8v l2) hx (by simp) ?_ (qc8 l2) ?_ ?_ ?_ ?_
 ·intro j u hj
  obtain ⟨hj',rfl⟩:=qcs l2 j u hj
  simpa [Addr.add_lit] using hcell j hj'
 ·unfold maxLen;omega
 ·omega
 ·omega
 ·intro v' w' hown' hg hnil
  refine h v' w' (by simpa [qf7] using hown') (hbel.grown hg (by omega) fun k hk=>(hown.lt k hk).1) hnil
theorem qjh {ops:Array Oper} {rest:List Oper} {o:Oper} {a:Act} {Q:Exit→Act→World→Prop} (W wr:World) (hgd:o.guard=none) (s x:Operand) (t:TypeId)
  (ho:o.op=.call {callee:=.builtin .append,args:=#[s,x],argTypes:=#[t,t]})
  (base:Nat) (e:TypeId) (ht:P.underlying t=some (.slice e)) (hi:(P.info? e).map (fun i=>(i.zero,i.size,i.bytes))=some (some (.int .u8 0),1,1))
  (v:Value) (l:List UInt8) (hown:wr.ownsRow base e 1 v l.length (u8v l)) (hs:a.eval s=v) (hbel:Below base W wr) (hb:base≤W.heap.size)
  (vx:Value) (l2:List UInt8) (hrd:Rd wr vx l2) (hx:a.eval x=vx) (hlen:l.length+l2.length≤1000000000000)
  (h:∀v' w',w'.ownsRow base e 1 v' (l++l2).length (u8v (l++l2))→Below base W w'→wpList P ops Q rest (a.put o.dst v') w'):
  wpList P ops Q (o::rest) a wr:=by
 rcases hrd with ⟨rfl,rfl | ⟨ad,c,rfl⟩⟩ | ⟨b,off,c,rfl,hc,hm,hcell⟩
 ·obtain ⟨i0,hi,hz0,hz1,hz2⟩:=info_parts hi
  refine wpList_append_own_none hgd s x t ho base e i0 1 ht hi v l.length (u8v l) hs hown hx (h _ _ ?_ hbel)
  simpa using hown
 ·obtain ⟨i0,hi,hz0,hz1,hz2⟩:=info_parts hi
  have hbw:base≤wr.heap.size:=by have:=hbel.size;omega
  refine wpList_append_own _ hgd s x t ho base e i0 (.int .u8 0) 1 1 ht hi hz0 hz1 hz2 rfl (by decide) v l.length (u8v l) hs hown ad 0 c [] hx rfl ?_ ?_ ?_ ?_ ?_ ?_
  ·intro j u hj;simp at hj
  ·intro u hu;simp at hu
  ·unfold maxLen;simp at hlen;omega
  ·simp at hlen;omega
  ·omega
  ·intro v' w' hown' hg _
   exact h v' w' (by simpa using hown') (hbel.grown hg (by omega) fun k hk=>(hown.lt k hk).1)
 ·exact qkj W wr hgd s x t ho base e ht hi v l hown hs hbel hb b off c l2.length l2 rfl hx hcell hlen fun v' w' h1 h2 _=>h v' w' h1 h2
theorem qo6 {ops:Array Oper} {rest:List Oper} {o:Oper} {a:Act} {Q:Exit→Act→World→Prop} (W wr:World) (hgd:o.guard=none) (s x:Operand) (t u:TypeId)
  (ho:o.op=.call {callee:=.builtin .append,args:=#[s,x],argTypes:=#[t,u]})
  (base:Nat) (e:TypeId) (ht:P.underlying t=some (.slice e)) (hu:P.underlying u=some .string) (hi:(P.info? e).map (fun i=>(i.zero,i.size,i.bytes))=some (some (.int .u8 0),1,1))
  (v:Value) (l:List UInt8) (hown:wr.ownsRow base e 1 v l.length (u8v l)) (hs:a.eval s=v) (hbel:Below base W wr) (hb:base≤W.heap.size)
  (st:ByteArray) (hx:a.eval x=.string st) (hlen:l.length+st.size≤1000000000000)
  (h:∀v' w',w'.ownsRow base e 1 v' (l++st.data.toList).length (u8v (l++st.data.toList))→Below base W w'→wpList P ops Q rest (a.put o.dst v') w'):
  wpList P ops Q (o::rest) a wr:=by
 obtain ⟨i0,hi,hz0,hz1,hz2⟩:=info_parts hi
 have hbw:base≤wr.heap.size:=by have:=hbel.size;omega
 have hsz:st.data.toList.length=st.size:=by rw [Array.length_toList];rfl
 refine Lib.wpList_append_own_string _ hgd s x t u ho base e i0 ht hu hi hz0 hz1 hz2 v l.length (u8v l) hs hown st hx ?_ ?_ ?_ ?_
 ·unfold maxLen;omega
 ·omega
 ·omega
 ·intro v' w' hown' hg _
  refine h v' w' ?_ (hbel.grown hg (by omega) fun k hk=>(hown.lt k hk).1)
  rw [List.length_append,hsz,qf7];exact hown'
def bs (l:List UInt8):ByteArray:=⟨l.toArray⟩
@[simp] theorem qbw (l:List UInt8):(bs l).data.toList=l:=by simp [bs]
theorem qcl (l:List UInt8):(bs l).size=l.length:=by show l.toArray.size=l.length;exact List.size_toArray
theorem qtb (s:ByteArray):bs s.data.toList=s:=by cases s;simp [bs]
theorem qq6 (l:List UInt8):strOfNums (l.map fun x=>(x.toNat:Int))=bs l:=by
 have h:=strOfNums_data (l.map fun x=>(x.toNat:Int));rw [←qtb (strOfNums _),h]
 congr 1
 rw [List.map_map]
 have:((fun n:Int=>UInt8.ofNat n.toNat) ∘ fun x:UInt8=>(x.toNat:Int))=id:=by
  funext x;simp
 rw [this,List.map_id]
theorem qio {w:World} {v:Value} {l:List UInt8} (t e d:TypeId) (ht:P.underlying t=some (.slice e)) (he:P.underlying e=some (.int .u8)) (hd:P.underlying d=some .string) (h:Rd w v l):
  (convert t d v).run P w=.ok (.string (bs l)) w:=by
 rcases h with ⟨rfl,rfl | ⟨a,c,rfl⟩⟩ | ⟨b,off,c,rfl,hc,hm,hcell⟩
 ·rw [run_convert_bytes_string w t d e none 0 0 ht he hd]
  simp [Conv.bytesToString];rfl
 ·rw [run_convert_bytes_string w t d e (some a) 0 c ht he hd,run_bytesToString w a 0 c [] (by simp [loadCells];rfl)]
  rfl
 ·rw [run_convert_bytes_arg w t e ht he b off l.length c (l.map fun x=>(x.toNat:Int)) (by simp) (fun i hi=>by
   rw [hcell i hi];simp [List.getD,List.getElem?_eq_getElem hi]) d hd,qq6]
end
end Go.Proofs.YtmeaiocohalphaaGreatDoor
namespace Go.Proofs.YtmeaiocohalphaaGreatDoor
open Go.RowKit
set_option linter.unusedVariables false
set_option linter.unusedSimpArgs false
abbrev Ex:=Int × Int
def wfX (x:Ex):Prop:=-9223372036854775808≤x.1∧x.1≤9223372036854775807∧-9223372036854775808≤x.2∧x.2≤9223372036854775807
def mayX (x:Ex):Bool:=decide (0≤x.1) && decide (1≤x.2) && decide (x.1+x.2≤4096)
theorem qbs (x:Ex):mayX x=true↔0≤x.1∧1≤x.2∧x.1+x.2≤4096:=by simp [mayX,and_assoc]
def allX (l:List Ex):Int:=if 4096<l.length then 4 else if l.all mayX then 0 else 8
def inX (x:Ex) (n:Int):Bool:=decide (x.1≤n) && decide (n<x.1+x.2)
def inL (l:List Ex) (n:Int):Bool:=l.any fun x=>inX x n
def qjt (a b:Ex):Bool:=decide (a.1<b.1+b.2) && decide (b.1<a.1+a.2)
def apX:List Ex→Bool
 | []=>true
 | x::r=>r.all (fun y=>!qjt y x) && apX r
def chkX (l:List Ex):Int:=if allX l≠0 then allX l else if apX l then 0 else 8
def qa9 (l:List Ex):Int:=(l.map (·.2)).sum
def blkX (x:Ex) (k:Nat):List Int:=(List.range k).map fun (i:Nat)=>x.1+(i:Int)
def qal (l:List Ex):List Int:=l.flatMap fun x=>blkX x x.2.toNat
def qkk (l:List Ex) (n:Int):List Ex:=
 match l.getLast? with
 | none=>[(n,1)]
 | some x=>if x.1+x.2=n then l.dropLast++[(x.1,x.2+1)] else l++[(n,1)]
def qc9 (u:Int→Bool) (a:Int):Nat→List Ex
 | 0=>[]
 | k+1=>if u (a+k) then qc9 u a k else qkk (qc9 u a k) (a+k)
def qcc (a b:Int) (l:List Ex):Int:=if a<0∨b<a∨4096<b then 2 else allX l
def qcu (a b:Int) (l:List Ex):List Ex:=if qcc a b l=0 then qc9 (inL l) a (b - a).toNat else []
def cutX:List Ex→Int→Option (List Ex)
 | [],_=>none
 | x::r,w=>if w≤x.2 then some [(x.1,w)] else (cutX r (w - x.2)).map (x::·)
def cutE (l:List Ex) (w:Int):Int:=if (cutX l w).isSome then 0 else 40
def qdm (a b:Int) (l:List Ex) (w:Int):Int:=
 if qcc a b l≠0 then qcc a b l else if w<1∨4096<w then 2 else cutE (qcu a b l) w
def qb1 (a b:Int) (l:List Ex) (w:Int):List Ex:=
 if qcc a b l≠0 then [] else if w<1∨4096<w then [] else (cutX (qcu a b l) w).getD []
theorem qd0 {l:List Ex} (h:allX l=0):l.length≤4096∧∀x∈l,0≤x.1∧1≤x.2∧x.1+x.2≤4096:=by
 unfold allX at h
 split at h
 ·cases h
 ·split at h
  ·rename_i h1 h2
   rw [List.all_eq_true] at h2;exact ⟨by omega,fun x hx=>(qbs x).1 (h2 x hx)⟩
  ·cases h
theorem qkl {l:List Ex} (h:l.length≤4096) (h':∀x∈l,0≤x.1∧1≤x.2∧x.1+x.2≤4096):allX l=0:=by
 unfold allX;rw [if_neg (by omega),if_pos];rw [List.all_eq_true]
 exact fun x hx=>(qbs x).2 (h' x hx)
theorem qyf (l:List Ex):(allX l=4∧4096<l.length)∨(allX l=8∧l.length≤4096∧∃x∈l,mayX x=false)∨(allX l=0∧l.length≤4096∧∀x∈l,mayX x=true):=by
 unfold allX
 by_cases h:4096<l.length
 ·exact .inl ⟨if_pos h,h⟩
 ·rw [if_neg h]
  cases h2:l.all mayX with
  | true=>exact .inr (.inr ⟨if_pos rfl,by omega,by rwa [List.all_eq_true] at h2⟩)
  | false=>
   refine .inr (.inl ⟨if_neg (by simp),by omega, ?_⟩);rw [List.all_eq_false] at h2;obtain ⟨x,hx,e⟩:=h2;exact ⟨x,hx,by simpa using e⟩
theorem qae4 {l:List Ex} {k:Nat} (hk:k<l.length) (hl:l.length≤4096) (h:mayX l[k]=false):allX l=8:=by
 rcases qyf l with ⟨_,h1⟩ | ⟨h1,_⟩ | ⟨_,_,h1⟩
 ·omega
 ·exact h1
 ·rw [h1 _ (List.getElem_mem hk)] at h;cases h
theorem qaaa {l:List Ex} (hl:l.length≤4096) (h:∀x∈l.take l.length,mayX x=true):allX l=0:=
 qkl hl fun x hx=>(qbs x).1 (h x (by simpa using hx))
theorem qnk (a b:Ex):qjt a b=qjt b a:=by unfold qjt;rw [Bool.and_comm]
theorem qo7 {a b:Ex} (ha:1≤a.2) (hb:1≤b.2):qjt a b=true↔∃n,inX a n=true∧inX b n=true:=by
 simp only [qjt,inX,Bool.and_eq_true,decide_eq_true_eq]
 constructor
 ·intro h
  exact ⟨max a.1 b.1,⟨by omega,by omega⟩,by omega,by omega⟩
 ·rintro ⟨n,h1,h2⟩
  omega
theorem qnl (l m:List Ex):apX (l++m)=(apX l && apX m && m.all fun y=>l.all fun x=>!qjt y x):=by
 induction l with
 | nil=>simp [apX]
 | cons x r ih=>
  rw [List.cons_append,apX,ih,apX];rw [Bool.eq_iff_iff]
  simp only [List.all_append,Bool.and_eq_true,List.all_eq_true,List.all_cons,Bool.not_eq_true']
  constructor
  ·rintro ⟨⟨h1,h2⟩,⟨h3,h4⟩,h5⟩
   exact ⟨⟨⟨h1,h3⟩,h4⟩,fun y hy=>⟨h2 y hy,h5 y hy⟩⟩
  ·rintro ⟨⟨⟨h1,h3⟩,h4⟩,h5⟩
   exact ⟨⟨h1,fun y hy=>(h5 y hy).1⟩,⟨h3,h4⟩,fun y hy=>(h5 y hy).2⟩
theorem qjz (l:List Ex) (x:Ex):apX (l++[x])=(apX l && l.all fun y=>!qjt x y):=by
 rw [qnl];simp [apX]
theorem qbr {α:Type} (l:List α) (k:Nat) (h:k<l.length):l.take (k+1)=l.take k++[l[k]]:=by
 rw [List.take_add_one,List.getElem?_eq_getElem h];rfl
theorem qyg {l:List Ex} {k:Nat} (hk:k≤l.length) (ha:allX l=0) (h:apX (l.take k)=false):chkX l=8:=by
 have:apX l=false:=by
  rw [←List.take_append_drop k l,qnl,h];simp
 unfold chkX
 rw [if_neg (by simp [ha]),this];rfl
theorem qae5 {l:List Ex} (ha:allX l≠0):chkX l=allX l:=by unfold chkX;rw [if_pos ha]
theorem qkm {l:List Ex} (ha:allX l=0) (h:apX l=true):chkX l=0:=by
 unfold chkX;rw [if_neg (by simp [ha]),if_pos h]
theorem qo8 {l:List Ex} (h:chkX l=0):allX l=0∧apX l=true:=by
 unfold chkX at h
 split at h
 ·contradiction
 ·rename_i h1
  split at h
  ·rename_i h2;exact ⟨by simpa using h1,h2⟩
  ·cases h
theorem qf8 (l:List Ex) (x:Ex) (n:Int):inL (l++[x]) n=(inL l n || inX x n):=by simp [inL]
theorem qo9 (l:List Ex) (n:Int):inL l n=true↔∃x∈l,x.1≤n∧n<x.1+x.2:=by simp [inL,inX]
theorem qip (l:List Ex) (x:Ex):qa9 (l++[x])=qa9 l+x.2:=by simp [qa9]
theorem qtc {l:List Ex} (h:∀x∈l,0≤x.1∧1≤x.2∧x.1+x.2≤4096):0≤qa9 l∧qa9 l≤4096*l.length:=by
 induction l with
 | nil=>simp [qa9]
 | cons x r ih=>
  have:=ih fun y hy=>h y (List.mem_cons_of_mem _ hy)
  have h0:=h x (List.mem_cons_self ..);have e:qa9 (x::r)=x.2+qa9 r:=rfl;rw [e,List.length_cons];omega
theorem qaab (x:Ex) (k:Nat):blkX x (k+1)=blkX x k++[x.1+(k:Int)]:=by simp [blkX,List.range_succ]
theorem qwd (x:Ex) (k:Nat):(blkX x k).length=k:=by simp [blkX]
theorem qq7 (l:List Ex) (x:Ex):qal (l++[x])=qal l++blkX x x.2.toNat:=by simp [qal]
theorem qtd {l:List Ex} (h:∀x∈l,1≤x.2):((qal l).length:Int)=qa9 l:=by
 induction l with
 | nil=>rfl
 | cons x r ih=>
  have:=ih fun y hy=>h y (List.mem_cons_of_mem _ hy)
  have h0:=h x (List.mem_cons_self ..);have e:qa9 (x::r)=x.2+qa9 r:=rfl;have e2:qal (x::r)=blkX x x.2.toNat++qal r:=rfl;rw [e,e2,List.length_append,qwd];omega
/-! ### what is free -/
theorem qiq (n:Int):qkk [] n=[(n,1)]:=rfl
theorem qek (l:List Ex) (x:Ex) (n:Int):qkk (l++[x]) n=if x.1+x.2=n then l++[(x.1,x.2+1)] else l++[x]++[(n,1)]:=by
 unfold qkk;simp
theorem qaac (l:List Ex) (n:Int):(qkk l n).length≤l.length+1:=by
 rcases List.eq_nil_or_concat l with rfl | ⟨l',x,rfl⟩
 ·simp [qiq]
 ·rw [List.concat_eq_append,qek];split<;>simp
theorem qkn (u:Int→Bool) (a:Int):∀k,(qc9 u a k).length≤k
 | 0=>by simp [qc9]
 | k+1=>by
  have:=qkn u a k
  unfold qc9
  split
  ·omega
  ·have:=qaac (qc9 u a k) (a+k);omega
def qju (a b:Int) (l:List Ex):Prop:=(∀x∈l,a≤x.1∧1≤x.2∧x.1+x.2≤b)∧l.Pairwise fun x y=>x.1+x.2<y.1
theorem qyh {a b:Int} {l:List Ex} (h:qju a b l) (hab:a≤b):qju a (b+1) (qkk l b):=by
 rcases List.eq_nil_or_concat l with rfl | ⟨l',x,rfl⟩
 ·rw [qiq]
  refine ⟨fun x hx=>?_,by simp⟩
  obtain rfl:x=(b,1):=by simpa using hx
  simp;omega
 ·rw [List.concat_eq_append] at h ⊢
  obtain ⟨h1,h2⟩:=h;rw [List.pairwise_append] at h2;obtain ⟨h3, -,h4⟩:=h2;have hx:=h1 x (by simp);rw [qek]
  split
  ·rename_i e
   refine ⟨fun y hy=>?_, ?_⟩
   ·rcases List.mem_append.1 hy with hy | hy
    ·have:=h1 y (List.mem_append_left _ hy);omega
    ·obtain rfl:y=(x.1,x.2+1):=by simpa using hy
     simp;omega
   ·rw [List.pairwise_append]
    refine ⟨h3,by simp,fun y hy z hz=>?_⟩
    obtain rfl:z=(x.1,x.2+1):=by simpa using hz
    exact h4 y hy x (by simp)
  ·rename_i e
   refine ⟨fun y hy=>?_, ?_⟩
   ·rcases List.mem_append.1 hy with hy | hy
    ·have:=h1 y hy;omega
    ·obtain rfl:y=(b,1):=by simpa using hy
     simp;omega
   ·rw [List.pairwise_append]
    refine ⟨by rw [List.pairwise_append];exact ⟨h3,by simp,h4⟩,by simp,fun y hy z hz=>?_⟩
    obtain rfl:z=(b,1):=by simpa using hz
    show y.1+y.2<b
    rcases List.mem_append.1 hy with hy | hy
    ·have:=h4 y hy x (by simp)
     have:=h1 y (List.mem_append_left _ hy);omega
    ·obtain rfl:y=x:=by simpa using hy
     omega
theorem qae6 {a b:Int} {l:List Ex} (h:qju a b l) (n:Int):inL (qkk l b) n=(inL l n || decide (n=b)):=by
 rcases List.eq_nil_or_concat l with rfl | ⟨l',x,rfl⟩
 ·rw [qiq,Bool.eq_iff_iff];simp [inL,inX];omega
 ·rw [List.concat_eq_append] at h ⊢
  have hx:=h.1 x (by simp);rw [qek]
  split
  ·rename_i e
   rw [qf8,qf8,Bool.or_assoc]
   congr 1
   rw [Bool.eq_iff_iff];simp [inX];omega
  ·rw [qf8]
   congr 1
   rw [Bool.eq_iff_iff];simp [inX];omega
theorem qyi {a b b':Int} {l:List Ex} (h:qju a b l) (hb:b≤b'):qju a b' l:=⟨fun x hx=>by have:=h.1 x hx;omega,h.2⟩
theorem qir (u:Int→Bool) (a:Int):∀k:Nat,qju a (a+k) (qc9 u a k)∧∀n,inL (qc9 u a k) n=(decide (a≤n) && decide (n<a+k) && !u n)
 | 0=>by
  refine ⟨⟨by simp [qc9],by simp [qc9]⟩,fun n=>?_⟩
  rw [Bool.eq_iff_iff];simp [qc9,inL];omega
 | k+1=>by
  obtain ⟨h1,h2⟩:=qir u a k
  have e:a+((k+1:Nat):Int)=a+k+1:=by omega
  rw [e];unfold qc9
  split
  ·rename_i hu
   refine ⟨qyi h1 (by omega),fun n=>?_⟩;rw [h2,Bool.eq_iff_iff]
   simp only [Bool.and_eq_true,decide_eq_true_eq,Bool.not_eq_true']
   constructor
   ·rintro ⟨⟨q1,q2⟩,q3⟩;exact ⟨⟨q1,by omega⟩,q3⟩
   ·rintro ⟨⟨q1,q2⟩,q3⟩
    refine ⟨⟨q1, ?_⟩,q3⟩
    have:n≠a+k:=by rintro rfl;rw [hu] at q3;cases q3
    omega
  ·rename_i hu
   refine ⟨qyh h1 (by omega),fun n=>?_⟩;rw [qae6 h1,h2,Bool.eq_iff_iff]
   simp only [Bool.and_eq_true,decide_eq_true_eq,Bool.not_eq_true',Bool.or_eq_true]
   constructor
   ·rintro (⟨⟨q1,q2⟩,q3⟩ | rfl)
    ·exact ⟨⟨q1,by omega⟩,q3⟩
    ·exact ⟨⟨by omega,by omega⟩,by simpa using hu⟩
   ·rintro ⟨⟨q1,q2⟩,q3⟩
    by_cases e:n=a+k
    ·exact .inr e
    ·exact .inl ⟨⟨q1,by omega⟩,q3⟩
theorem qpa {a b:Int} {l:List Ex} (h:qcc a b l=0):0≤a∧a≤b∧b≤4096∧allX l=0:=by
 unfold qcc at h
 split at h
 ·cases h
 ·rename_i h1
  exact ⟨by omega,by omega,by omega,h⟩
theorem qel {a b:Int} {l:List Ex} (h:qcc a b l=0):qju a b (qcu a b l)∧(∀n,inL (qcu a b l) n=(decide (a≤n) && decide (n<b) && !inL l n))∧(qcu a b l).length≤4096:=by
 obtain ⟨h1,h2,h3,_⟩:=qpa h
 have:=qir (inL l) a (b - a).toNat
 have e:a+((b - a).toNat:Int)=b:=by omega
 rw [e] at this;unfold qcu;rw [if_pos h];exact ⟨this.1,this.2,by have:=qkn (inL l) a (b - a).toNat;omega⟩
theorem qaad {a b:Int} {l:List Ex} (h:qju a b l) (ha:0≤a) (hb:b≤4096) (hl:l.length≤4096):chkX l=0:=by
 refine qkm (qkl hl fun x hx=>by have:=h.1 x hx;omega) ?_
 obtain ⟨h0,h1⟩:=h;clear hl
 induction l with
 | nil=>rfl
 | cons x r ih=>
  rw [List.pairwise_cons] at h1;rw [apX,ih (fun y hy=>h0 y (List.mem_cons_of_mem _ hy)) h1.2,Bool.and_true,List.all_eq_true];intro y hy
  have:=h1.1 y hy
  simp [qjt];omega
/-! ### what is taken -/
theorem qko:∀(l:List Ex) (w:Int),1≤w→(∀x∈l,1≤x.2)→
  (cutX l w=none∧qa9 l<w)∨∃p x q c,l=p++x::q∧cutX l w=some (p++[(x.1,c)])∧1≤c∧c≤x.2∧qa9 p+c=w
 | [],w,hw,_=>.inl ⟨rfl,by simp [qa9];omega⟩
 | x::r,w,hw,h=>by
  have hx:=h x (List.mem_cons_self ..);have e:qa9 (x::r)=x.2+qa9 r:=rfl;unfold cutX
  split
  ·rename_i h1
   exact .inr ⟨[],x,r,w,rfl,rfl,hw,h1,by simp [qa9]⟩
  ·rename_i h1
   rcases qko r (w - x.2) (by omega) (fun y hy=>h y (List.mem_cons_of_mem _ hy)) with ⟨h2,h3⟩ | ⟨p,y,q,c,rfl,h3,h4,h5,h6⟩
   ·exact .inl ⟨by rw [h2];rfl,by rw [e];omega⟩
   ·refine .inr ⟨x::p,y,q,c,rfl,by rw [h3];rfl,h4,h5, ?_⟩
    have e2:qa9 (x::p)=x.2+qa9 p:=rfl
    rw [e2];omega
theorem qte:∀(l:List Ex) (w:Int) (k:Nat),k≤l.length→qa9 (l.take k)<w→(∀x∈l,1≤x.2)→cutX l w=(cutX (l.drop k) (w - qa9 (l.take k))).map (l.take k++·)
 | l,w,0,_,_,_=>by simp [qa9]
 | [],w,k+1,h,_,_=>by simp at h
 | x::r,w,k+1,h,h1,h2=>by
  have e:qa9 ((x::r).take (k+1))=x.2+qa9 (r.take k):=rfl;rw [e] at h1 ⊢
  have h0:0≤qa9 (r.take k):=by
   have:∀(l:List Ex),(∀x∈l,1≤x.2)→0≤qa9 l:=by
    intro l
    induction l with
    | nil=>intro _;simp [qa9]
    | cons y l ih=>
     intro hh
     have:=ih fun z hz=>hh z (List.mem_cons_of_mem _ hz)
     have:=hh y (List.mem_cons_self ..)
     have e:qa9 (y::l)=y.2+qa9 l:=rfl;omega
   exact this _ fun y hy=>h2 y (List.mem_cons_of_mem _ (List.mem_of_mem_take hy))
  have ih:=qte r (w - x.2) k (by simpa using h) (by omega) (fun y hy=>h2 y (List.mem_cons_of_mem _ hy));rw [cutX,if_neg (by omega),ih,List.drop_succ_cons,List.take_succ_cons];rw [show w - x.2 - qa9 (r.take k)=w - (x.2+qa9 (r.take k)) by omega,Option.map_map];rfl
theorem qq8 (x:Ex) (r:List Ex) (w:Int):cutX (x::r) w=if w≤x.2 then some [(x.1,w)] else (cutX r (w - x.2)).map (x::·):=rfl
theorem qaae {l:List Ex} {w:Int} {k:Nat} (hk:k<l.length) (h:qa9 (l.take k)<w) (h1:∀x∈l,1≤x.2) (h2:w - qa9 (l.take k)≤(l[k]).2):cutX l w=some (l.take k++[((l[k]).1,w - qa9 (l.take k))]):=by
 rw [qte l w k (by omega) h h1,List.drop_eq_getElem_cons hk,qq8,if_pos h2];rfl
theorem qae7 {l:List Ex} {w:Int} (h:qa9 l<w) (h1:∀x∈l,1≤x.2):cutX l w=none:=by
 have:=qte l w l.length (Nat.le_refl _) (by simpa using h) h1
 rw [this];simp [cutX]
theorem qnm {a b:Int} {l:List Ex} {w:Int} (h:qcc a b l≠0):qdm a b l w=qcc a b l∧qb1 a b l w=[]:=by
 unfold qdm qb1;rw [if_pos h,if_pos h];exact ⟨rfl,rfl⟩
theorem qhm {a b:Int} {l:List Ex} {w:Int} (h:qcc a b l=0) (hw:w<1∨4096<w):qdm a b l w=2∧qb1 a b l w=[]:=by
 have hn:¬(qcc a b l≠0):=by simp [h]
 unfold qdm qb1;rw [if_neg hn,if_neg hn,if_pos hw,if_pos hw];exact ⟨rfl,rfl⟩
theorem qyj {a b:Int} {l:List Ex} {w:Int} {r:List Ex} (h:qcc a b l=0) (hw:1≤w) (hw':w≤4096) (hc:cutX (qcu a b l) w=some r):qdm a b l w=0∧qb1 a b l w=r:=by
 have hn:¬(qcc a b l≠0):=by simp [h]
 have hm:¬(w<1∨4096<w):=by omega
 unfold qdm qb1 cutE;rw [if_neg hn,if_neg hn,if_neg hm,if_neg hm,hc];exact ⟨rfl,rfl⟩
theorem qyk {a b:Int} {l:List Ex} {w:Int} (h:qcc a b l=0) (hw:1≤w) (hw':w≤4096) (hc:cutX (qcu a b l) w=none):qdm a b l w=40∧qb1 a b l w=[]:=by
 have hn:¬(qcc a b l≠0):=by simp [h]
 have hm:¬(w<1∨4096<w):=by omega
 unfold qdm qb1 cutE;rw [if_neg hn,if_neg hn,if_neg hm,if_neg hm,hc];exact ⟨rfl,rfl⟩
theorem qnn {p q:List Ex} {x y:Ex} {a b:Int} (h:qju a b (p++x::q)) (e:y.1=x.1) (h1:1≤y.2) (h2:y.2≤x.2):qju a b (p++[y]):=by
 obtain ⟨h3,h4⟩:=h;rw [List.pairwise_append] at h4;obtain ⟨h5,_,h6⟩:=h4;refine ⟨fun z hz=>?_, ?_⟩
 ·rcases List.mem_append.1 hz with hz | hz
  ·exact h3 z (List.mem_append_left _ hz)
  ·obtain rfl:z=y:=by simpa using hz
   have:=h3 x (by simp);omega
 ·rw [List.pairwise_append]
  refine ⟨h5,by simp,fun z hz u hu=>?_⟩
  obtain rfl:u=y:=by simpa using hu
  rw [e];exact h6 z hz x (List.mem_cons_self ..)
end Go.Proofs.YtmeaiocohalphaaGreatDoor
