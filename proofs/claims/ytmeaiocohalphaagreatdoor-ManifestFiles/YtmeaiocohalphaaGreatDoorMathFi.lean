/-
  Layer 5 in plain words: names, files, directories; lists of them.
-/
import Derived.WalkKit
import Derived.Laws.BitsAllLaws
import Derived.WalkSmall
import Derived.Lib.AppendStr
import Derived.Laws.AppendOwnNone
import Derived.Laws.OwnMore
import Derived.Laws.BytesArg
import Derived.OpenShut
import Derived.Lib.Bytealg
namespace Go.Proofs.YtmeaiocohalphaaGreatDoor
open Go.RowKit
def smF:Nat→Nat→List UInt8
 | 0,n=>[UInt8.ofNat n]
 | f+1,n=>if n<128 then [UInt8.ofNat n] else UInt8.ofNat (n % 128+128)::smF f (n / 128)
theorem qky {n:Nat} (h:n<128):∀f,smF f n=[UInt8.ofNat n]
 | 0=>rfl
 | f+1=>by simp [smF,h]
theorem qvw:∀f g n:Nat,n≤f→n≤g→smF f n=smF g n
 | 0,g,n,h,_=>by
  obtain rfl:n=0:=by omega
  rw [qky (by omega),qky (by omega)]
 | f+1,0,n,_,h=>by
  obtain rfl:n=0:=by omega
  rw [qky (by omega),qky (by omega)]
 | f+1,g+1,n,h,k=>by
  by_cases hl:n<128
  ·rw [qky hl,qky hl]
  ·simp only [smF,hl,if_false]
   rw [qvw f g (n / 128) (by omega) (by omega)]
def sm (n:Nat):List UInt8:=smF n n
theorem qmz {n:Nat} (h:n<128):sm n=[UInt8.ofNat n]:=qky h n
theorem qyi {n:Nat} (h:128≤n):sm n=UInt8.ofNat (n % 128+128)::sm (n / 128):=by
 unfold sm;obtain ⟨m,rfl⟩:∃m,n=m+1:=⟨n - 1,by omega⟩;rw [smF,if_neg (by omega),qvw m ((m+1) / 128) _ (by omega) (by omega)]
theorem qvx (n:Nat):1≤(sm n).length:=by
 by_cases h:n<128
 ·rw [qmz h];simp
 ·rw [qyi (by omega)];simp
theorem qhx:∀(k n:Nat),n<128 ^ k→(sm n).length≤max 1 k
 | 0,n,h=>by simp at h;subst h;rw [qmz (by omega)];simp
 | k+1,n,h=>by
  by_cases h1:n<128
  ·rw [qmz h1];simp
  ·rw [qyi (by omega)]
   have:=qhx k (n / 128) (by rw [Nat.pow_succ] at h;omega)
   have hk:1≤k:=by
    rcases k with _ | k
    ·simp at h;omega
    ·omega
   simp only [List.length_cons];omega
theorem qag {n:Nat} (h:n<18446744073709551616):(sm n).length≤10:=by
 have:=qhx 10 n (by omega);omega
theorem qain (m:Nat):(m:Int) % 256=((UInt8.ofNat m).toNat:Int):=by
 rw [UInt8.toNat_ofNat'];omega
theorem u8_id (m:Nat) (h:m<256):(m:Int)=((UInt8.ofNat m).toNat:Int):=by
 rw [UInt8.toNat_ofNat'];omega
theorem qz9:∀x:Fin 256,x.val ||| 128=x.val % 128+128:=by decide+kernel
theorem or128 (m:Nat):bits BinOp.or IntKind.u8 ((m:Int) % 256) 128=((UInt8.ofNat (m % 128+128)).toNat:Int):=by
 have h:=u8_or_nat (m % 256) 128 (by omega) (by omega)
 have e:(((m % 256:Nat):Int))=(m:Int) % 256:=by omega
 rw [e] at h;have h2:=qz9 ⟨m % 256,by omega⟩
 simp only at h2
 rw [h2] at h;rw [UInt8.toNat_ofNat'];rw [show (128:Int)=((128:Nat):Int) from rfl,h];omega
def u8v (l:List UInt8):List Value:=l.map fun b=>Value.int .u8 b.toNat
@[simp] theorem u8v_length (l:List UInt8):(u8v l).length=l.length:=by simp [u8v]
theorem qd6 (a b:List UInt8):u8v (a++b)=u8v a++u8v b:=by simp [u8v]
def rdGo:List UInt8→Nat→Nat→Option (Nat × Nat)
 | [],_,_=>none
 | c::r,i,acc=>
  if i=9∧1<c.toNat then none
  else if 128≤c.toNat then rdGo r (i+1) (acc+(c.toNat % 128)*128 ^ i)
  else if c.toNat=0∧0<i then none
  else some (acc+c.toNat*128 ^ i,i+1)
def rd (l:List UInt8):Option (Nat × Nat):=rdGo l 0 0
def rdV:Option (Nat × Nat)→Value
 | none=>.tuple #[.int .u64 0,.int .i64 0,.int .i64 8]
 | some (n,k)=>.tuple #[.int .u64 n,.int .i64 k,.int .i64 0]
theorem qkc {c:UInt8} {r:List UInt8} {acc:Nat} (h:1<c.toNat):rdGo (c::r) 9 acc=none:=by simp [rdGo,h]
theorem qkz {c:UInt8} {r:List UInt8} {i acc:Nat} (h9:i≠9) (h:128≤c.toNat):rdGo (c::r) i acc=rdGo r (i+1) (acc+(c.toNat % 128)*128 ^ i):=by
 simp [rdGo,h9,h]
theorem qk0 {c:UInt8} {r:List UInt8} {i acc:Nat} (h0:c.toNat=0) (hi:0<i):rdGo (c::r) i acc=none:=by
 simp [rdGo,h0,hi]
theorem qfx {c:UInt8} {r:List UInt8} {i acc:Nat} (h9:¬(i=9∧1<c.toNat)) (h:c.toNat<128) (h0:¬(c.toNat=0∧0<i)):rdGo (c::r) i acc=some (acc+c.toNat*128 ^ i,i+1):=by
 rw [rdGo,if_neg h9,if_neg (by omega),if_neg h0]
theorem qaaa (k:Nat):2 ^ (7*k)=128 ^ k:=by rw [Nat.pow_mul]
theorem qaab (acc k x:Nat) (hacc:acc<128 ^ k) (hk:k≤8):
  bits BinOp.or IntKind.u64 (acc:Int) (IntKind.u64.wrap ((x:Int) % 128*2 ^ (7*k)))=((acc+x % 128*128 ^ k:Nat):Int):=by
 have h8:128 ^ k≤72057594037927936:=Nat.le_trans (Nat.pow_le_pow_right (by decide) hk) (by decide)
 have e:((x:Int) % 128*2 ^ (7*k))=((x % 128*128 ^ k:Nat):Int):=by
  rw [←qaaa];push_cast;rfl
 have hm:x % 128*128 ^ k≤127*72057594037927936:=Nat.mul_le_mul (by omega) h8;rw [e,IntKind.wrap_u64,show ((x % 128*128 ^ k:Nat):Int) % 18446744073709551616=((x % 128*128 ^ k:Nat):Int) by omega];rw [u64_or_nat _ _ (by omega) (by omega)]
 congr 1
 have h:=Nat.two_pow_add_eq_or_of_lt (i:=7*k) (b:=acc) (by rw [qaaa];exact hacc) (x % 128);rw [qaaa,Nat.mul_comm] at h;rw [Nat.or_comm,←h,Nat.add_comm]
theorem qajv (acc x:Nat) (hacc:acc<128 ^ 9) (hx:x≤1):
  bits BinOp.or IntKind.u64 (acc:Int) ((x:Int) % 128*9223372036854775808)=((acc+x*128 ^ 9:Nat):Int):=by
 have e:((x:Int) % 128*9223372036854775808)=((x*9223372036854775808:Nat):Int):=by omega
 rw [e,u64_or_nat _ _ (by omega) (by omega)]
 congr 1
 have h:=Nat.two_pow_add_eq_or_of_lt (i:=63) (b:=acc) (by omega) x;rw [Nat.or_comm,show x*9223372036854775808=2 ^ 63*x by omega,←h];omega
theorem qvy {acc k x:Nat} (h:acc<128 ^ k):acc+x % 128*128 ^ k<128 ^ (k+1):=by
 rw [Nat.pow_succ]
 have:x % 128*128 ^ k≤127*128 ^ k:=Nat.mul_le_mul_right _ (by omega)
 omega
end Go.Proofs.YtmeaiocohalphaaGreatDoor
namespace Go.Proofs.YtmeaiocohalphaaGreatDoor
open Go.RowKit
theorem qcx (l:List UInt8):∀u∈u8v l,u.oneCell'=true:=by
 intro u hu
 simp only [u8v,List.mem_map] at hu
 obtain ⟨b,_,rfl⟩:=hu;rfl
theorem qce (l:List UInt8) (j:Nat) (u:Value) (h:(u8v l)[j]? =some u):∃hj:j<l.length,u=.int .u8 (l[j]).toNat:=by
 simp only [u8v,List.getElem?_map,Option.map_eq_some_iff] at h
 obtain ⟨b,hb,rfl⟩:=h;obtain ⟨hj,rfl⟩:=List.getElem?_eq_some_iff.1 hb;exact ⟨hj,rfl⟩
def Rd (w:World) (v:Value) (l:List UInt8):Prop:=
 (l=[]∧(v=.slice none 0 0∨∃a c,v=.slice (some a) 0 c))∨
 ∃b off c,v=.slice (some ⟨b,off,none⟩) l.length c∧l.length≤c∧c≤maxLen∧∀j,(h:j<l.length)→w.cell? ⟨b,off+j,none⟩=some (.int .u8 (l[j]).toNat)
theorem Rd.carry {w w':World} {v:Value} {l:List UInt8} (h:Rd w v l) (hb:Below w.heap.size w w'):Rd w' v l:=by
 rcases h with h | ⟨b,off,c,rfl,hc,hm,hcell⟩
 ·exact .inl h
 ·refine .inr ⟨b,off,c,rfl,hc,hm,fun j hj=>?_⟩
  rw [hb.cell (World.block_lt_of_cell? w _ (hcell j hj))];exact hcell j hj
theorem Rd.alloc {w:World} {v:Value} {l:List UInt8} (h:Rd w v l) (o:Obj):Rd (w.alloc o) v l:=
 h.carry ((Below.refl _ _).alloc (Nat.le_refl _) o)
theorem qfy {w:World} {base:Nat} {e:TypeId} {v:Value} {l:List UInt8} (h:w.ownsRow base e 1 v l.length (u8v l)):Rd w v l:=by
 rcases h.2 with ⟨rfl,hn⟩ | ⟨g,cap,cur,rfl,_,hg,hn,hm,hsz,htake⟩
 ·exact .inl ⟨List.length_eq_zero_iff.1 hn,.inl rfl⟩
 ·refine .inr ⟨g,0,cap,rfl,hn,hm,fun j hj=>?_⟩
  have:=h.cells (g:=g) rfl j (.int .u8 (l[j]).toNat) (by simp [u8v,List.getElem?_eq_getElem hj])
  simpa [Addr.add_lit] using this
section
variable {P:Program}
theorem qd9 {ops:Array Oper} {rest:List Oper} {o:Oper} {a:Act} {Q:Exit→Act→World→Prop} (W wr:World) (hgd:o.guard=none) (s x:Operand) (t:TypeId)
  (ho:o.op=.call {callee:=.builtin .append,args:=#[s,x],argTypes:=#[t,t]})
  (base:Nat) (e:TypeId) (ht:P.underlying t=some (.slice e)) (hi:(P.info? e).map (fun i=>(i.zero,i.size,i.bytes))=some (some (.int .u8 0),1,1))
  (v:Value) (l:List UInt8) (hown:wr.ownsRow base e 1 v l.length (u8v l)) (hs:a.eval s=v) (hbel:Below base W wr) (hb:base≤W.heap.size)
  (z:Int) (c:UInt8) (hz:z=c.toNat) (hx:a.eval x=.slice (some ⟨wr.heap.size,0,none⟩) 1 1) (hlen:l.length+1≤1000000000000)
  (h:∀v' w',w'.ownsRow base e 1 v' (l++[c]).length (u8v (l++[c]))→Below base W w'→wpList P ops Q rest (a.put o.dst v') w'):
  wpList P ops Q (o::rest) a (wr.alloc (.cells #[.int .u8 z] e)):=by
 obtain ⟨i0,hi,hz0,hz1,hz2⟩:=info_parts hi;subst hz
 have hbw:base≤wr.heap.size:=by have:=hbel.size;omega
 refine wpList_append_own _ hgd s x t ho base e i0 (.int .u8 0) 1 1 ht hi hz0 hz1 hz2 rfl (by decide) v l.length (u8v l) hs (hown.alloc _) ⟨wr.heap.size,0,none⟩ 1 1 [.int .u8 c.toNat] hx rfl ?_ ?_ ?_ ?_ ?_ ?_
 ·intro j u hj
  match j,hj with
  | 0,hj=>simp at hj;subst hj;simp [Addr.add]
 ·intro u hu;simp at hu;subst hu;rfl
 ·unfold maxLen;omega
 ·omega
 ·simp;omega
 ·intro v' w' hown' hg _
  refine h v' w' (by simpa [u8v] using hown') ((hbel.alloc hbw _).grown hg (by simp;omega) fun k hk=>(hown.lt k hk).1)
theorem qea {ops:Array Oper} {rest:List Oper} {o:Oper} {a:Act} {Q:Exit→Act→World→Prop} (W wr:World) (hgd:o.guard=none) (s x:Operand) (t:TypeId)
  (ho:o.op=.call {callee:=.builtin .append,args:=#[s,x],argTypes:=#[t,t]})
  (base:Nat) (e:TypeId) (ht:P.underlying t=some (.slice e)) (hi:(P.info? e).map (fun i=>(i.zero,i.size,i.bytes))=some (some (.int .u8 0),1,1))
  (v:Value) (l:List UInt8) (hown:wr.ownsRow base e 1 v l.length (u8v l)) (hs:a.eval s=v) (hbel:Below base W wr) (hb:base≤W.heap.size)
  (b off c m:Nat) (l2:List UInt8) (hm:l2.length=m) (hx:a.eval x=.slice (some ⟨b,off,none⟩) m c) (hcell:∀j,(h:j<l2.length)→wr.cell? ⟨b,off+j,none⟩=some (.int .u8 (l2[j]).toNat)) (hlen:l.length+l2.length≤1000000000000)
  (h:∀v' w',w'.ownsRow base e 1 v' (l++l2).length (u8v (l++l2))→Below base W w'→(v'=.slice none 0 0↔v=.slice none 0 0∧l2.length=0)→wpList P ops Q rest (a.put o.dst v') w'):
  wpList P ops Q (o::rest) a wr:=by
 obtain ⟨i0,hi,hz0,hz1,hz2⟩:=info_parts hi;subst hm
 have hbw:base≤wr.heap.size:=by have:=hbel.size;omega
 refine wpList_append_own _ hgd s x t ho base e i0 (.int .u8 0) 1 1 ht hi hz0 hz1 hz2 rfl (by decide) v l.length (u8v l) hs hown ⟨b,off,none⟩ l2.length c (u8v l2) hx (by simp) ?_ (qcx l2) ?_ ?_ ?_ ?_
 ·intro j u hj
  obtain ⟨hj',rfl⟩:=qce l2 j u hj
  simpa [Addr.add_lit] using hcell j hj'
 ·unfold maxLen;omega
 ·omega
 ·omega
 ·intro v' w' hown' hg hnil
  refine h v' w' (by simpa [qd6] using hown') (hbel.grown hg (by omega) fun k hk=>(hown.lt k hk).1) hnil
theorem qfz {ops:Array Oper} {rest:List Oper} {o:Oper} {a:Act} {Q:Exit→Act→World→Prop} (W wr:World) (hgd:o.guard=none) (s x:Operand) (t:TypeId)
  (ho:o.op=.call {callee:=.builtin .append,args:=#[s,x],argTypes:=#[t,t]})
  (base:Nat) (e:TypeId) (ht:P.underlying t=some (.slice e)) (hi:(P.info? e).map (fun i=>(i.zero,i.size,i.bytes))=some (some (.int .u8 0),1,1))
  (v:Value) (l:List UInt8) (hown:wr.ownsRow base e 1 v l.length (u8v l)) (hs:a.eval s=v) (hbel:Below base W wr) (hb:base≤W.heap.size)
  (vx:Value) (l2:List UInt8) (hrd:Rd wr vx l2) (hx:a.eval x=vx) (hlen:l.length+l2.length≤1000000000000)
  (h:∀v' w',w'.ownsRow base e 1 v' (l++l2).length (u8v (l++l2))→Below base W w'→wpList P ops Q rest (a.put o.dst v') w'):
  wpList P ops Q (o::rest) a wr:=by
 rcases hrd with ⟨rfl,rfl | ⟨ad,c,rfl⟩⟩ | ⟨b,off,c,rfl,hc,hm,hcell⟩
 ·obtain ⟨i0,hi,hz0,hz1,hz2⟩:=info_parts hi
  refine wpList_append_own_none hgd s x t ho base e i0 1 ht hi v l.length (u8v l) hs hown hx (h _ _ ?_ hbel)
  simpa using hown
 ·obtain ⟨i0,hi,hz0,hz1,hz2⟩:=info_parts hi
  have hbw:base≤wr.heap.size:=by have:=hbel.size;omega
  refine wpList_append_own _ hgd s x t ho base e i0 (.int .u8 0) 1 1 ht hi hz0 hz1 hz2 rfl (by decide) v l.length (u8v l) hs hown ad 0 c [] hx rfl ?_ ?_ ?_ ?_ ?_ ?_
  ·intro j u hj;simp at hj
  ·intro u hu;simp at hu
  ·unfold maxLen;simp at hlen;omega
  ·simp at hlen;omega
  ·omega
  ·intro v' w' hown' hg _
   exact h v' w' (by simpa using hown') (hbel.grown hg (by omega) fun k hk=>(hown.lt k hk).1)
 ·exact qea W wr hgd s x t ho base e ht hi v l hown hs hbel hb b off c l2.length l2 rfl hx hcell hlen fun v' w' h1 h2 _=>h v' w' h1 h2
theorem qhy {ops:Array Oper} {rest:List Oper} {o:Oper} {a:Act} {Q:Exit→Act→World→Prop} (W wr:World) (hgd:o.guard=none) (s x:Operand) (t u:TypeId)
  (ho:o.op=.call {callee:=.builtin .append,args:=#[s,x],argTypes:=#[t,u]})
  (base:Nat) (e:TypeId) (ht:P.underlying t=some (.slice e)) (hu:P.underlying u=some .string) (hi:(P.info? e).map (fun i=>(i.zero,i.size,i.bytes))=some (some (.int .u8 0),1,1))
  (v:Value) (l:List UInt8) (hown:wr.ownsRow base e 1 v l.length (u8v l)) (hs:a.eval s=v) (hbel:Below base W wr) (hb:base≤W.heap.size)
  (st:ByteArray) (hx:a.eval x=.string st) (hlen:l.length+st.size≤1000000000000)
  (h:∀v' w',w'.ownsRow base e 1 v' (l++st.data.toList).length (u8v (l++st.data.toList))→Below base W w'→wpList P ops Q rest (a.put o.dst v') w'):
  wpList P ops Q (o::rest) a wr:=by
 obtain ⟨i0,hi,hz0,hz1,hz2⟩:=info_parts hi
 have hbw:base≤wr.heap.size:=by have:=hbel.size;omega
 have hsz:st.data.toList.length=st.size:=by rw [Array.length_toList];rfl
 refine Lib.wpList_append_own_string _ hgd s x t u ho base e i0 ht hu hi hz0 hz1 hz2 v l.length (u8v l) hs hown st hx ?_ ?_ ?_ ?_
 ·unfold maxLen;omega
 ·omega
 ·omega
 ·intro v' w' hown' hg _
  refine h v' w' ?_ (hbel.grown hg (by omega) fun k hk=>(hown.lt k hk).1)
  rw [List.length_append,hsz,qd6];exact hown'
def bs (l:List UInt8):ByteArray:=⟨l.toArray⟩
@[simp] theorem qbu (l:List UInt8):(bs l).data.toList=l:=by simp [bs]
theorem qbz (l:List UInt8):(bs l).size=l.length:=by show l.toArray.size=l.length;exact List.size_toArray
theorem qt2 (s:ByteArray):bs s.data.toList=s:=by cases s;simp [bs]
theorem qq3 (l:List UInt8):strOfNums (l.map fun x=>(x.toNat:Int))=bs l:=by
 have h:=strOfNums_data (l.map fun x=>(x.toNat:Int));rw [←qt2 (strOfNums _),h]
 congr 1
 rw [List.map_map]
 have:((fun n:Int=>UInt8.ofNat n.toNat) ∘ fun x:UInt8=>(x.toNat:Int))=id:=by
  funext x;simp
 rw [this,List.map_id]
theorem qb1 {w:World} {v:Value} {l:List UInt8} (t e d:TypeId) (ht:P.underlying t=some (.slice e)) (he:P.underlying e=some (.int .u8)) (hd:P.underlying d=some .string) (h:Rd w v l):
  (convert t d v).run P w=.ok (.string (bs l)) w:=by
 rcases h with ⟨rfl,rfl | ⟨a,c,rfl⟩⟩ | ⟨b,off,c,rfl,hc,hm,hcell⟩
 ·rw [run_convert_bytes_string w t d e none 0 0 ht he hd]
  simp [Conv.bytesToString];rfl
 ·rw [run_convert_bytes_string w t d e (some a) 0 c ht he hd,run_bytesToString w a 0 c [] (by simp [loadCells];rfl)]
  rfl
 ·rw [run_convert_bytes_arg w t e ht he b off l.length c (l.map fun x=>(x.toNat:Int)) (by simp) (fun i hi=>by
   rw [hcell i hi];simp [List.getD,List.getElem?_eq_getElem hi]) d hd,qq3]
end
end Go.Proofs.YtmeaiocohalphaaGreatDoor
namespace Go.Proofs.YtmeaiocohalphaaGreatDoor
open Go.RowKit
set_option linter.all false
abbrev Ex:=Int × Int
def wfX (x:Ex):Prop:=-9223372036854775808≤x.1∧x.1≤9223372036854775807∧-9223372036854775808≤x.2∧x.2≤9223372036854775807
def mayX (x:Ex):Bool:=decide (0≤x.1) && decide (1≤x.2) && decide (x.1+x.2≤4096)
theorem qbp (x:Ex):mayX x=true↔0≤x.1∧1≤x.2∧x.1+x.2≤4096:=by simp [mayX,and_assoc]
def allX (l:List Ex):Int:=if 4096<l.length then 4 else if l.all mayX then 0 else 8
def inX (x:Ex) (n:Int):Bool:=decide (x.1≤n) && decide (n<x.1+x.2)
def inL (l:List Ex) (n:Int):Bool:=l.any fun x=>inX x n
def qdx (a b:Ex):Bool:=decide (a.1<b.1+b.2) && decide (b.1<a.1+a.2)
def apX:List Ex→Bool
 | []=>true
 | x::r=>r.all (fun y=>!qdx y x) && apX r
def chkX (l:List Ex):Int:=if allX l≠0 then allX l else if apX l then 0 else 8
def qbj (l:List Ex):Int:=(l.map (·.2)).sum
def blkX (x:Ex) (k:Nat):List Int:=(List.range k).map fun (i:Nat)=>x.1+(i:Int)
def qam (l:List Ex):List Int:=l.flatMap fun x=>blkX x x.2.toNat
def qi3 (l:List Ex) (n:Int):List Ex:=
 match l.getLast? with
 | none=>[(n,1)]
 | some x=>if x.1+x.2=n then l.dropLast++[(x.1,x.2+1)] else l++[(n,1)]
def qcc (u:Int→Bool) (a:Int):Nat→List Ex
 | 0=>[]
 | k+1=>if u (a+k) then qcc u a k else qi3 (qcc u a k) (a+k)
def qcd (a b:Int) (l:List Ex):Int:=if a<0∨b<a∨4096<b then 2 else allX l
def qb2 (a b:Int) (l:List Ex):List Ex:=if qcd a b l=0 then qcc (inL l) a (b - a).toNat else []
def cutX:List Ex→Int→Option (List Ex)
 | [],_=>none
 | x::r,w=>if w≤x.2 then some [(x.1,w)] else (cutX r (w - x.2)).map (x::·)
def cutE (l:List Ex) (w:Int):Int:=if (cutX l w).isSome then 0 else 40
def qco (a b:Int) (l:List Ex) (w:Int):Int:=
 if qcd a b l≠0 then qcd a b l else if w<1∨4096<w then 2 else cutE (qb2 a b l) w
def qcb (a b:Int) (l:List Ex) (w:Int):List Ex:=
 if qcd a b l≠0 then [] else if w<1∨4096<w then [] else (cutX (qb2 a b l) w).getD []
theorem qcp {l:List Ex} (h:allX l=0):l.length≤4096∧∀x∈l,0≤x.1∧1≤x.2∧x.1+x.2≤4096:=by
 unfold allX at h
 split at h
 ·cases h
 ·split at h
  ·rename_i h1 h2
   rw [List.all_eq_true] at h2;exact ⟨by omega,fun x hx=>(qbp x).1 (h2 x hx)⟩
  ·cases h
theorem qk1 {l:List Ex} (h:l.length≤4096) (h':∀x∈l,0≤x.1∧1≤x.2∧x.1+x.2≤4096):allX l=0:=by
 unfold allX;rw [if_neg (by omega),if_pos];rw [List.all_eq_true]
 exact fun x hx=>(qbp x).2 (h' x hx)
theorem qm3 (l:List Ex):(allX l=4∧4096<l.length)∨(allX l=8∧l.length≤4096∧∃x∈l,mayX x=false)∨(allX l=0∧l.length≤4096∧∀x∈l,mayX x=true):=by
 unfold allX
 by_cases h:4096<l.length
 ·exact .inl ⟨if_pos h,h⟩
 ·rw [if_neg h]
  cases h2:l.all mayX with
  | true=>exact .inr (.inr ⟨if_pos rfl,by omega,by rwa [List.all_eq_true] at h2⟩)
  | false=>
   refine .inr (.inl ⟨if_neg (by simp),by omega, ?_⟩);rw [List.all_eq_false] at h2;obtain ⟨x,hx,e⟩:=h2;exact ⟨x,hx,by simpa using e⟩
theorem qoz {l:List Ex} {k:Nat} (hk:k<l.length) (hl:l.length≤4096) (h:mayX l[k]=false):allX l=8:=by
 rcases qm3 l with ⟨_,h1⟩ | ⟨h1,_⟩ | ⟨_,_,h1⟩
 ·omega
 ·exact h1
 ·rw [h1 _ (List.getElem_mem hk)] at h;cases h
theorem qk2 {l:List Ex} (hl:l.length≤4096) (h:∀x∈l.take l.length,mayX x=true):allX l=0:=
 qk1 hl fun x hx=>(qbp x).1 (h x (by simpa using hx))
theorem qm4 (a b:Ex):qdx a b=qdx b a:=by unfold qdx;rw [Bool.and_comm]
theorem qo0 {a b:Ex} (ha:1≤a.2) (hb:1≤b.2):qdx a b=true↔∃n,inX a n=true∧inX b n=true:=by
 simp only [qdx,inX,Bool.and_eq_true,decide_eq_true_eq]
 constructor
 ·intro h
  exact ⟨max a.1 b.1,⟨by omega,by omega⟩,by omega,by omega⟩
 ·rintro ⟨n,h1,h2⟩
  omega
theorem qm5 (l m:List Ex):apX (l++m)=(apX l && apX m && m.all fun y=>l.all fun x=>!qdx y x):=by
 induction l with
 | nil=>simp [apX]
 | cons x r ih=>
  rw [List.cons_append,apX,ih,apX];rw [Bool.eq_iff_iff]
  simp only [List.all_append,Bool.and_eq_true,List.all_eq_true,List.all_cons,Bool.not_eq_true']
  constructor
  ·rintro ⟨⟨h1,h2⟩,⟨h3,h4⟩,h5⟩
   exact ⟨⟨⟨h1,h3⟩,h4⟩,fun y hy=>⟨h2 y hy,h5 y hy⟩⟩
  ·rintro ⟨⟨⟨h1,h3⟩,h4⟩,h5⟩
   exact ⟨⟨h1,fun y hy=>(h5 y hy).1⟩,⟨h3,h4⟩,fun y hy=>(h5 y hy).2⟩
theorem qgo (l:List Ex) (x:Ex):apX (l++[x])=(apX l && l.all fun y=>!qdx x y):=by
 rw [qm5];simp [apX]
theorem qbc {α:Type} (l:List α) (k:Nat) (h:k<l.length):l.take (k+1)=l.take k++[l[k]]:=by
 rw [List.take_add_one,List.getElem?_eq_getElem h];rfl
theorem qm6 {l:List Ex} {k:Nat} (hk:k≤l.length) (ha:allX l=0) (h:apX (l.take k)=false):chkX l=8:=by
 have:apX l=false:=by
  rw [←List.take_append_drop k l,qm5,h];simp
 unfold chkX
 rw [if_neg (by simp [ha]),this];rfl
theorem qkd {l:List Ex} (ha:allX l≠0):chkX l=allX l:=by unfold chkX;rw [if_pos ha]
theorem qhz {l:List Ex} (ha:allX l=0) (h:apX l=true):chkX l=0:=by
 unfold chkX;rw [if_neg (by simp [ha]),if_pos h]
theorem qi4 {l:List Ex} (h:chkX l=0):allX l=0∧apX l=true:=by
 unfold chkX at h
 split at h
 ·contradiction
 ·rename_i h1
  split at h
  ·rename_i h2;exact ⟨by simpa using h1,h2⟩
  ·cases h
theorem qfd (l:List Ex) (x:Ex) (n:Int):inL (l++[x]) n=(inL l n || inX x n):=by simp [inL]
theorem qo1 (l:List Ex) (n:Int):inL l n=true↔∃x∈l,x.1≤n∧n<x.1+x.2:=by simp [inL,inX]
theorem qgp (l:List Ex) (x:Ex):qbj (l++[x])=qbj l+x.2:=by simp [qbj]
theorem qt3 {l:List Ex} (h:∀x∈l,0≤x.1∧1≤x.2∧x.1+x.2≤4096):0≤qbj l∧qbj l≤4096*l.length:=by
 induction l with
 | nil=>simp [qbj]
 | cons x r ih=>
  have:=ih fun y hy=>h y (List.mem_cons_of_mem _ hy)
  have h0:=h x (List.mem_cons_self ..);have e:qbj (x::r)=x.2+qbj r:=rfl;rw [e,List.length_cons];omega
theorem qq4 (x:Ex) (k:Nat):blkX x (k+1)=blkX x k++[x.1+(k:Int)]:=by simp [blkX,List.range_succ]
theorem qvz (x:Ex) (k:Nat):(blkX x k).length=k:=by simp [blkX]
theorem qjt (l:List Ex) (x:Ex):qam (l++[x])=qam l++blkX x x.2.toNat:=by simp [qam]
theorem qt4 {l:List Ex} (h:∀x∈l,1≤x.2):((qam l).length:Int)=qbj l:=by
 induction l with
 | nil=>rfl
 | cons x r ih=>
  have:=ih fun y hy=>h y (List.mem_cons_of_mem _ hy)
  have h0:=h x (List.mem_cons_self ..);have e:qbj (x::r)=x.2+qbj r:=rfl;have e2:qam (x::r)=blkX x x.2.toNat++qam r:=rfl;rw [e,e2,List.length_append,qvz];omega
/-! ### what is free -/
theorem qi5 (n:Int):qi3 [] n=[(n,1)]:=rfl
theorem qew (l:List Ex) (x:Ex) (n:Int):qi3 (l++[x]) n=if x.1+x.2=n then l++[(x.1,x.2+1)] else l++[x]++[(n,1)]:=by
 unfold qi3;simp
theorem qaac (l:List Ex) (n:Int):(qi3 l n).length≤l.length+1:=by
 rcases List.eq_nil_or_concat l with rfl | ⟨l',x,rfl⟩
 ·simp [qi5]
 ·rw [List.concat_eq_append,qew];split<;>simp
theorem qh0 (u:Int→Bool) (a:Int):∀k,(qcc u a k).length≤k
 | 0=>by simp [qcc]
 | k+1=>by
  have:=qh0 u a k
  unfold qcc
  split
  ·omega
  ·have:=qaac (qcc u a k) (a+k);omega
def qj9 (a b:Int) (l:List Ex):Prop:=(∀x∈l,a≤x.1∧1≤x.2∧x.1+x.2≤b)∧l.Pairwise fun x y=>x.1+x.2<y.1
theorem qyj {a b:Int} {l:List Ex} (h:qj9 a b l) (hab:a≤b):qj9 a (b+1) (qi3 l b):=by
 rcases List.eq_nil_or_concat l with rfl | ⟨l',x,rfl⟩
 ·rw [qi5]
  refine ⟨fun x hx=>?_,by simp⟩
  obtain rfl:x=(b,1):=by simpa using hx
  simp;omega
 ·rw [List.concat_eq_append] at h ⊢
  obtain ⟨h1,h2⟩:=h;rw [List.pairwise_append] at h2;obtain ⟨h3, -,h4⟩:=h2;have hx:=h1 x (by simp);rw [qew]
  split
  ·rename_i e
   refine ⟨fun y hy=>?_, ?_⟩
   ·rcases List.mem_append.1 hy with hy | hy
    ·have:=h1 y (List.mem_append_left _ hy);omega
    ·obtain rfl:y=(x.1,x.2+1):=by simpa using hy
     simp;omega
   ·rw [List.pairwise_append]
    refine ⟨h3,by simp,fun y hy z hz=>?_⟩
    obtain rfl:z=(x.1,x.2+1):=by simpa using hz
    exact h4 y hy x (by simp)
  ·rename_i e
   refine ⟨fun y hy=>?_, ?_⟩
   ·rcases List.mem_append.1 hy with hy | hy
    ·have:=h1 y hy;omega
    ·obtain rfl:y=(b,1):=by simpa using hy
     simp;omega
   ·rw [List.pairwise_append]
    refine ⟨by rw [List.pairwise_append];exact ⟨h3,by simp,h4⟩,by simp,fun y hy z hz=>?_⟩
    obtain rfl:z=(b,1):=by simpa using hz
    show y.1+y.2<b
    rcases List.mem_append.1 hy with hy | hy
    ·have:=h4 y hy x (by simp)
     have:=h1 y (List.mem_append_left _ hy);omega
    ·obtain rfl:y=x:=by simpa using hy
     omega
theorem qae8 {a b:Int} {l:List Ex} (h:qj9 a b l) (n:Int):inL (qi3 l b) n=(inL l n || decide (n=b)):=by
 rcases List.eq_nil_or_concat l with rfl | ⟨l',x,rfl⟩
 ·rw [qi5,Bool.eq_iff_iff];simp [inL,inX];omega
 ·rw [List.concat_eq_append] at h ⊢
  have hx:=h.1 x (by simp);rw [qew]
  split
  ·rename_i e
   rw [qfd,qfd,Bool.or_assoc]
   congr 1
   rw [Bool.eq_iff_iff];simp [inX];omega
  ·rw [qfd]
   congr 1
   rw [Bool.eq_iff_iff];simp [inX];omega
theorem qyk {a b b':Int} {l:List Ex} (h:qj9 a b l) (hb:b≤b'):qj9 a b' l:=⟨fun x hx=>by have:=h.1 x hx;omega,h.2⟩
theorem qi6 (u:Int→Bool) (a:Int):∀k:Nat,qj9 a (a+k) (qcc u a k)∧∀n,inL (qcc u a k) n=(decide (a≤n) && decide (n<a+k) && !u n)
 | 0=>by
  refine ⟨⟨by simp [qcc],by simp [qcc]⟩,fun n=>?_⟩
  rw [Bool.eq_iff_iff];simp [qcc,inL];omega
 | k+1=>by
  obtain ⟨h1,h2⟩:=qi6 u a k
  have e:a+((k+1:Nat):Int)=a+k+1:=by omega
  rw [e];unfold qcc
  split
  ·rename_i hu
   refine ⟨qyk h1 (by omega),fun n=>?_⟩;rw [h2,Bool.eq_iff_iff]
   simp only [Bool.and_eq_true,decide_eq_true_eq,Bool.not_eq_true']
   constructor
   ·rintro ⟨⟨q1,q2⟩,q3⟩;exact ⟨⟨q1,by omega⟩,q3⟩
   ·rintro ⟨⟨q1,q2⟩,q3⟩
    refine ⟨⟨q1, ?_⟩,q3⟩
    have:n≠a+k:=by rintro rfl;rw [hu] at q3;cases q3
    omega
  ·rename_i hu
   refine ⟨qyj h1 (by omega),fun n=>?_⟩;rw [qae8 h1,h2,Bool.eq_iff_iff]
   simp only [Bool.and_eq_true,decide_eq_true_eq,Bool.not_eq_true',Bool.or_eq_true]
   constructor
   ·rintro (⟨⟨q1,q2⟩,q3⟩ | rfl)
    ·exact ⟨⟨q1,by omega⟩,q3⟩
    ·exact ⟨⟨by omega,by omega⟩,by simpa using hu⟩
   ·rintro ⟨⟨q1,q2⟩,q3⟩
    by_cases e:n=a+k
    ·exact .inr e
    ·exact .inl ⟨⟨q1,by omega⟩,q3⟩
theorem qke {a b:Int} {l:List Ex} (h:qcd a b l=0):0≤a∧a≤b∧b≤4096∧allX l=0:=by
 unfold qcd at h
 split at h
 ·cases h
 ·rename_i h1
  exact ⟨by omega,by omega,by omega,h⟩
theorem qd7 {a b:Int} {l:List Ex} (h:qcd a b l=0):qj9 a b (qb2 a b l)∧(∀n,inL (qb2 a b l) n=(decide (a≤n) && decide (n<b) && !inL l n))∧(qb2 a b l).length≤4096:=by
 obtain ⟨h1,h2,h3,_⟩:=qke h
 have:=qi6 (inL l) a (b - a).toNat
 have e:a+((b - a).toNat:Int)=b:=by omega
 rw [e] at this;unfold qb2;rw [if_pos h];exact ⟨this.1,this.2,by have:=qh0 (inL l) a (b - a).toNat;omega⟩
theorem qaad {a b:Int} {l:List Ex} (h:qj9 a b l) (ha:0≤a) (hb:b≤4096) (hl:l.length≤4096):chkX l=0:=by
 refine qhz (qk1 hl fun x hx=>by have:=h.1 x hx;omega) ?_
 obtain ⟨h0,h1⟩:=h;clear hl
 induction l with
 | nil=>rfl
 | cons x r ih=>
  rw [List.pairwise_cons] at h1;rw [apX,ih (fun y hy=>h0 y (List.mem_cons_of_mem _ hy)) h1.2,Bool.and_true,List.all_eq_true];intro y hy
  have:=h1.1 y hy
  simp [qdx];omega
/-! ### what is taken -/
theorem qk3:∀(l:List Ex) (w:Int),1≤w→(∀x∈l,1≤x.2)→
  (cutX l w=none∧qbj l<w)∨∃p x q c,l=p++x::q∧cutX l w=some (p++[(x.1,c)])∧1≤c∧c≤x.2∧qbj p+c=w
 | [],w,hw,_=>.inl ⟨rfl,by simp [qbj];omega⟩
 | x::r,w,hw,h=>by
  have hx:=h x (List.mem_cons_self ..);have e:qbj (x::r)=x.2+qbj r:=rfl;unfold cutX
  split
  ·rename_i h1
   exact .inr ⟨[],x,r,w,rfl,rfl,hw,h1,by simp [qbj]⟩
  ·rename_i h1
   rcases qk3 r (w - x.2) (by omega) (fun y hy=>h y (List.mem_cons_of_mem _ hy)) with ⟨h2,h3⟩ | ⟨p,y,q,c,rfl,h3,h4,h5,h6⟩
   ·exact .inl ⟨by rw [h2];rfl,by rw [e];omega⟩
   ·refine .inr ⟨x::p,y,q,c,rfl,by rw [h3];rfl,h4,h5, ?_⟩
    have e2:qbj (x::p)=x.2+qbj p:=rfl
    rw [e2];omega
theorem qt5:∀(l:List Ex) (w:Int) (k:Nat),k≤l.length→qbj (l.take k)<w→(∀x∈l,1≤x.2)→cutX l w=(cutX (l.drop k) (w - qbj (l.take k))).map (l.take k++·)
 | l,w,0,_,_,_=>by simp [qbj]
 | [],w,k+1,h,_,_=>by simp at h
 | x::r,w,k+1,h,h1,h2=>by
  have e:qbj ((x::r).take (k+1))=x.2+qbj (r.take k):=rfl;rw [e] at h1 ⊢
  have h0:0≤qbj (r.take k):=by
   have:∀(l:List Ex),(∀x∈l,1≤x.2)→0≤qbj l:=by
    intro l
    induction l with
    | nil=>intro _;simp [qbj]
    | cons y l ih=>
     intro hh
     have:=ih fun z hz=>hh z (List.mem_cons_of_mem _ hz)
     have:=hh y (List.mem_cons_self ..)
     have e:qbj (y::l)=y.2+qbj l:=rfl;omega
   exact this _ fun y hy=>h2 y (List.mem_cons_of_mem _ (List.mem_of_mem_take hy))
  have ih:=qt5 r (w - x.2) k (by simpa using h) (by omega) (fun y hy=>h2 y (List.mem_cons_of_mem _ hy));rw [cutX,if_neg (by omega),ih,List.drop_succ_cons,List.take_succ_cons];rw [show w - x.2 - qbj (r.take k)=w - (x.2+qbj (r.take k)) by omega,Option.map_map];rfl
theorem qq5 (x:Ex) (r:List Ex) (w:Int):cutX (x::r) w=if w≤x.2 then some [(x.1,w)] else (cutX r (w - x.2)).map (x::·):=rfl
theorem qq6 {l:List Ex} {w:Int} {k:Nat} (hk:k<l.length) (h:qbj (l.take k)<w) (h1:∀x∈l,1≤x.2) (h2:w - qbj (l.take k)≤(l[k]).2):cutX l w=some (l.take k++[((l[k]).1,w - qbj (l.take k))]):=by
 rw [qt5 l w k (by omega) h h1,List.drop_eq_getElem_cons hk,qq5,if_pos h2];rfl
theorem qv0 {l:List Ex} {w:Int} (h:qbj l<w) (h1:∀x∈l,1≤x.2):cutX l w=none:=by
 have:=qt5 l w l.length (Nat.le_refl _) (by simpa using h) h1
 rw [this];simp [cutX]
theorem qi7 {a b:Int} {l:List Ex} {w:Int} (h:qcd a b l≠0):qco a b l w=qcd a b l∧qcb a b l w=[]:=by
 unfold qco qcb;rw [if_pos h,if_pos h];exact ⟨rfl,rfl⟩
theorem qeb {a b:Int} {l:List Ex} {w:Int} (h:qcd a b l=0) (hw:w<1∨4096<w):qco a b l w=2∧qcb a b l w=[]:=by
 have hn:¬(qcd a b l≠0):=by simp [h]
 unfold qco qcb;rw [if_neg hn,if_neg hn,if_pos hw,if_pos hw];exact ⟨rfl,rfl⟩
theorem qm7 {a b:Int} {l:List Ex} {w:Int} {r:List Ex} (h:qcd a b l=0) (hw:1≤w) (hw':w≤4096) (hc:cutX (qb2 a b l) w=some r):qco a b l w=0∧qcb a b l w=r:=by
 have hn:¬(qcd a b l≠0):=by simp [h]
 have hm:¬(w<1∨4096<w):=by omega
 unfold qco qcb cutE;rw [if_neg hn,if_neg hn,if_neg hm,if_neg hm,hc];exact ⟨rfl,rfl⟩
theorem qm8 {a b:Int} {l:List Ex} {w:Int} (h:qcd a b l=0) (hw:1≤w) (hw':w≤4096) (hc:cutX (qb2 a b l) w=none):qco a b l w=40∧qcb a b l w=[]:=by
 have hn:¬(qcd a b l≠0):=by simp [h]
 have hm:¬(w<1∨4096<w):=by omega
 unfold qco qcb cutE;rw [if_neg hn,if_neg hn,if_neg hm,if_neg hm,hc];exact ⟨rfl,rfl⟩
theorem qm9 {p q:List Ex} {x y:Ex} {a b:Int} (h:qj9 a b (p++x::q)) (e:y.1=x.1) (h1:1≤y.2) (h2:y.2≤x.2):qj9 a b (p++[y]):=by
 obtain ⟨h3,h4⟩:=h;rw [List.pairwise_append] at h4;obtain ⟨h5,_,h6⟩:=h4;refine ⟨fun z hz=>?_, ?_⟩
 ·rcases List.mem_append.1 hz with hz | hz
  ·exact h3 z (List.mem_append_left _ hz)
  ·obtain rfl:z=y:=by simpa using hz
   have:=h3 x (by simp);omega
 ·rw [List.pairwise_append]
  refine ⟨h5,by simp,fun z hz u hu=>?_⟩
  obtain rfl:u=y:=by simpa using hu
  rw [e];exact h6 z hz x (List.mem_cons_self ..)
end Go.Proofs.YtmeaiocohalphaaGreatDoor
namespace Go.Proofs.YtmeaiocohalphaaGreatDoor
def hv:List UInt8→Nat
 | []=>0
 | c::r=>c.toNat % 128+128*hv r
theorem qaae:∀(p:List UInt8) (c:UInt8),hv (p++[c])=hv p+c.toNat % 128*128 ^ p.length
 | [],c=>by simp [hv]
 | x::p,c=>by
  simp only [List.cons_append,hv,qaae p c,List.length_cons,Nat.pow_succ,Nat.mul_add]
  rw [show c.toNat % 128*(128 ^ p.length*128)=128*(c.toNat % 128*128 ^ p.length) by rw [←Nat.mul_assoc,Nat.mul_comm]];omega
theorem hv_lt:∀p:List UInt8,hv p<128 ^ p.length
 | []=>by simp [hv]
 | x::p=>by
  have:=hv_lt p
  simp only [hv,List.length_cons,Nat.pow_succ];omega
theorem qv1:∀(p r:List UInt8) (i acc:Nat),(∀x∈p,128≤x.toNat)→i+p.length≤9→rdGo (p++r) i acc=rdGo r (i+p.length) (acc+hv p*128 ^ i)
 | [],r,i,acc,_,_=>by simp [hv]
 | x::p,r,i,acc,h,hl=>by
  simp only [List.length_cons] at hl
  rw [List.cons_append,qkz (by omega) (h x (by simp)),qv1 p r (i+1) _ (fun y hy=>h y (by simp [hy])) (by omega)]
  congr 1
  ·simp only [List.length_cons];omega
  ·simp only [hv,Nat.pow_succ,Nat.add_mul]
   rw [show 128*hv p*128 ^ i=hv p*(128 ^ i*128) by rw [Nat.mul_comm 128 (hv p),Nat.mul_assoc,Nat.mul_comm 128]];omega
theorem qgq (l:List UInt8) (k:Nat) (h9:k≤9) (hk:k≤l.length) (hp:∀j,(h:j<l.length)→j<k→128≤(l[j]).toNat):rd l=rdGo (l.drop k) k (hv (l.take k)):=by
 have e:l=l.take k++l.drop k:=(List.take_append_drop k l).symm
 have hlen:(l.take k).length=k:=by simp;omega
 unfold rd
 rw [e,qv1 _ _ _ _ (by
  intro x hx;obtain ⟨j,hj,rfl⟩:=List.mem_iff_getElem.1 hx;rw [hlen] at hj
  simp only [List.getElem_take]
  exact hp j (by omega) hj) (by omega)]
 rw [hlen]
 simp
theorem rd_end (l:List UInt8) (h10:l.length≤10) (hp:∀j,(h:j<l.length)→128≤(l[j]).toNat):rd l=none:=by
 by_cases h9:l.length≤9
 ·rw [qgq l l.length h9 (Nat.le_refl _) (fun j h _=>hp j h)];simp [rdGo]
 ·rw [qgq l 9 (by omega) (by omega) (fun j h _=>hp j h),List.drop_eq_getElem_cons (by omega),qkc (by have:=hp 9 (by omega);omega)]
theorem rd_ten (l:List UInt8) (h10:10≤l.length) (hp:∀j,(h:j<l.length)→j<10→128≤(l[j]).toNat):rd l=none:=by
 rw [qgq l 9 (by omega) (by omega) (fun j h _=>hp j h (by omega)),List.drop_eq_getElem_cons (by omega),qkc (by have:=hp 9 (by omega) (by omega);omega)]
theorem rd_big (l:List UInt8) (h10:9<l.length) (hp:∀j,(h:j<l.length)→j<9→128≤(l[j]).toNat) (hb:1<(l[9]).toNat):rd l=none:=by
 rw [qgq l 9 (by omega) (by omega) (fun j h _=>hp j h (by omega)),List.drop_eq_getElem_cons (by omega),qkc hb]
theorem qaaf (l:List UInt8) (k:Nat) (hk:k<l.length) (h9:k≤9) (h0:0<k) (hp:∀j,(h:j<l.length)→j<k→128≤(l[j]).toNat) (hb:(l[k]).toNat=0):rd l=none:=by
 rw [qgq l k h9 (by omega) hp,List.drop_eq_getElem_cons hk,qk0 hb h0]
def hvd (l:List UInt8) (k j:Nat):Nat:=hv ((l.take (k+1)).drop j)
theorem qt6 (l:List UInt8) (k:Nat):hvd l k (k+1)=0:=by
 unfold hvd;rw [List.drop_eq_nil_of_le (by simp;omega)];rfl
theorem qkf (l:List UInt8) (k j:Nat) (hj:j≤k) (hk:k<l.length):hvd l k j=(l[j]).toNat % 128+128*hvd l k (j+1):=by
 unfold hvd;rw [List.drop_eq_getElem_cons (by simp;omega)];simp [hv]
theorem qv2 (l:List UInt8) (k:Nat) (hk:k<l.length):∀j,j≤k+1→hvd l k j≤hvd l k 0
 | 0,_=>Nat.le_refl _
 | j+1,h=>by
  have:=qv2 l k hk j (by omega)
  have:=qkf l k j (by omega) hk
  omega
theorem qv3 (l:List UInt8) (k:Nat) (hk:k<l.length):hvd l k 0=hv (l.take k)+(l[k]).toNat % 128*128 ^ k:=by
 unfold hvd;rw [List.drop_zero,List.take_succ_eq_append_getElem hk,qaae]
 simp [Nat.min_eq_left (show k≤l.length by omega)]
theorem qk4 (l:List UInt8) (k:Nat) (hk:k<l.length) (h9:k≤9) (hb:k=9→(l[k]).toNat≤1):hvd l k 0<18446744073709551616:=by
 rw [qv3 l k hk];have h1:=hv_lt (l.take k)
 have e:(l.take k).length=k:=by simp;omega
 rw [e] at h1
 by_cases h:k=9
 ·have:=hb h
  subst h;have h2:(l[9]).toNat % 128*128 ^ 9≤1*128 ^ 9:=Nat.mul_le_mul_right _ (by omega);omega
 ·have h3:128 ^ k≤128 ^ 8:=Nat.pow_le_pow_right (by decide) (by omega)
  have h2:(l[k]).toNat % 128*128 ^ k≤127*128 ^ 8:=Nat.mul_le_mul (by omega) h3;omega
theorem rd_some (l:List UInt8) (k:Nat) (hk:k<l.length) (h9:k≤9) (hp:∀j,(h:j<l.length)→j<k→128≤(l[j]).toNat) (hlt:(l[k]).toNat<128)
  (hb:k=9→(l[k]).toNat≤1) (hz:¬(0<k∧(l[k]).toNat=0)):rd l=some (hvd l k 0,k+1):=by
 rw [qgq l k h9 (by omega) hp,List.drop_eq_getElem_cons hk,qfx (by intro h;have:=hb h.1;omega) hlt (by omega),qv3 l k hk,Nat.mod_eq_of_lt hlt]
theorem qq7:∀(l:List UInt8) (i acc n k:Nat),i≤9→acc<128 ^ i→rdGo l i acc=some (n,k)→i<k∧k≤i+l.length∧k≤10∧n<18446744073709551616
 | [],i,acc,n,k,_,_,h=>by simp [rdGo] at h
 | c::r,i,acc,n,k,hi,ha,h=>by
  rw [rdGo] at h
  split at h
  ·simp at h
  ·rename_i h9
   split at h
   ·rename_i hge
    have hi9:i≠9:=by intro e;exact h9 ⟨e,by omega⟩
    have:=qq7 r (i+1) _ n k (by omega) (qvy ha) h
    simp only [List.length_cons];omega
   ·rename_i hlt
    split at h
    ·simp at h
    ·simp only [Option.some.injEq,Prod.mk.injEq] at h
     obtain ⟨rfl,rfl⟩:=h;refine ⟨by omega,by simp only [List.length_cons];omega,by omega, ?_⟩
     by_cases e:i=9
     ·subst e
      have h2:c.toNat*128 ^ 9≤1*128 ^ 9:=Nat.mul_le_mul_right _ (by omega);omega
     ·have h3:128 ^ i≤128 ^ 8:=Nat.pow_le_pow_right (by decide) (by omega)
      have h2:c.toNat*128 ^ i≤127*128 ^ 8:=Nat.mul_le_mul (by omega) h3;omega
theorem qhj {l:List UInt8} {n k:Nat} (h:rd l=some (n,k)):0<k∧k≤l.length∧k≤10∧n<18446744073709551616:=by
 have:=qq7 l 0 0 n k (by omega) (by decide) h
 omega
theorem qajw:∀(m:Nat) (r:List UInt8) (i acc:Nat),i≤9→m*128 ^ i<18446744073709551616→(0<i→0<m)→rdGo (sm m++r) i acc=some (acc+m*128 ^ i,i+(sm m).length):=by
 intro m
 induction m using Nat.strongRecOn with
 | ind m ih=>
  intro r i acc hi hm h0
  by_cases hlt:m<128
  ·have e:(UInt8.ofNat m).toNat=m:=by rw [UInt8.toNat_ofNat'];omega
   rw [qmz hlt]
   simp only [List.cons_append,List.nil_append,List.length_cons,List.length_nil]
   rw [qfx (by
    rw [e];rintro ⟨rfl,h1⟩
    have:2*128 ^ 9≤m*128 ^ 9:=Nat.mul_le_mul_right _ (by omega)
    omega) (by omega) (by rw [e];intro h;have:=h0 h.2;omega),e]
  ·have e:(UInt8.ofNat (m % 128+128)).toNat=m % 128+128:=by rw [UInt8.toNat_ofNat'];omega
   have hi9:i≠9:=by
    rintro rfl
    have:128*128 ^ 9≤m*128 ^ 9:=Nat.mul_le_mul_right _ (by omega)
    omega
   have hp:m / 128*128 ^ (i+1)+m % 128*128 ^ i=m*128 ^ i:=by
    rw [Nat.pow_succ,Nat.mul_comm (128 ^ i) 128,←Nat.mul_assoc,←Nat.add_mul]
    congr 1;omega
   rw [qyi (by omega),List.cons_append,qkz hi9 (by omega),e,ih (m / 128) (by omega) r (i+1) _ (by omega) (by omega) (by omega)];rw [show (m % 128+128) % 128=m % 128 by omega]
   simp only [List.length_cons,Option.some.injEq,Prod.mk.injEq]
   omega
theorem qajx (n:Nat) (hn:n<18446744073709551616) (r:List UInt8):rd (sm n++r)=some (n,(sm n).length):=by
 unfold rd;rw [qajw n r 0 0 (by omega) (by omega) (by omega)];simp
def ct (l:List UInt8):Option (List UInt8 × List UInt8):=
 match rd l with
 | none=>none
 | some (n,k)=>if n≤l.length - k then some ((l.drop k).take n,l.drop (k+n)) else none
theorem qo2 {l:List UInt8} (h:rd l=none):ct l=none:=by simp [ct,h]
theorem qo3 {l:List UInt8} {n k:Nat} (h:rd l=some (n,k)) (hn:¬n≤l.length - k):ct l=none:=by simp [ct,h,hn]
theorem qi8 {l:List UInt8} {n k:Nat} (h:rd l=some (n,k)) (hn:n≤l.length - k):ct l=some ((l.drop k).take n,l.drop (k+n)):=by simp [ct,h,hn]
def tx (s:List UInt8):List UInt8:=sm s.length++s
theorem ct_tx (s r:List UInt8) (hs:s.length<18446744073709551616):ct (tx s++r)=some (s,r):=by
 have h:=qajx s.length hs (s++r);unfold tx;rw [List.append_assoc];rw [qi8 h (by simp)]
 simp [List.drop_append]
end Go.Proofs.YtmeaiocohalphaaGreatDoor
namespace Go.Proofs.YtmeaiocohalphaaGreatDoor
open Go.RowKit
set_option linter.all false
abbrev Fl:=List UInt8 × List Ex
/-! ### names -/
def ltN:List UInt8→List UInt8→Bool
 | [],[]=>false
 | [],_::_=>true
 | _::_,[]=>false
 | a::s,b::t=>decide (a<b) || ((a==b) && ltN s t)
theorem qaio:∀a b:List UInt8,Op.bytesLess a b=ltN a b
 | [],[]=>by simp [Op.bytesLess,ltN]
 | [],_::_=>by simp [Op.bytesLess,ltN]
 | _::_,[]=>by simp [Op.bytesLess,ltN]
 | a::s,b::t=>by simp [Op.bytesLess,ltN,qaio s t]
theorem qd8:∀a:List UInt8,ltN a a=false
 | []=>rfl
 | a::s=>by simp [ltN,qd8 s,UInt8.lt_irrefl]
theorem qec:∀a b c:List UInt8,ltN a b=true→ltN b c=true→ltN a c=true
 | [],[],_,h,_=>by simp [ltN] at h
 | [],_::_,[],_,h=>by simp [ltN] at h
 | [],_::_,_::_,_,_=>rfl
 | _::_,[],_,h,_=>by simp [ltN] at h
 | _::_,_::_,[],_,h=>by simp [ltN] at h
 | a::s,b::t,c::u,h,k=>by
  simp only [ltN,Bool.or_eq_true,Bool.and_eq_true,decide_eq_true_eq,beq_iff_eq] at h k ⊢
  rcases h with h | ⟨rfl,h⟩
  ·rcases k with k | ⟨rfl,k⟩
   ·exact .inl (UInt8.lt_trans h k)
   ·exact .inl h
  ·rcases k with k | ⟨rfl,k⟩
   ·exact .inl k
   ·exact .inr ⟨rfl,qec s t u h k⟩
theorem qf0:∀a b:List UInt8,ltN a b=false→a≠b→ltN b a=true
 | [],[],_,h=>absurd rfl h
 | [],_::_,h,_=>by simp [ltN] at h
 | _::_,[],_,_=>rfl
 | a::s,b::t,h,hne=>by
  simp only [ltN,Bool.or_eq_false_iff,Bool.and_eq_false_iff,decide_eq_false_iff_not,Bool.or_eq_true,Bool.and_eq_true,decide_eq_true_eq,beq_iff_eq] at h ⊢
  obtain ⟨h1,h2⟩:=h
  by_cases e:a=b
  ·subst e
   refine .inr ⟨rfl,qf0 s t ?_ (fun e=>hne (by rw [e]))⟩
   rcases h2 with h2 | h2
   ·simp at h2
   ·exact h2
  ·left
   have h3:¬a.toNat<b.toNat:=fun h=>h1 (UInt8.lt_iff_toNat_lt.2 h)
   have h4:a.toNat≠b.toNat:=fun h=>e (UInt8.toNat_inj.1 h)
   exact UInt8.lt_iff_toNat_lt.2 (by omega)
theorem qh1 {a b:List UInt8} (h:ltN a b=true):ltN b a=false:=by
 cases k:ltN b a with
 | false=>rfl
 | true=>have:=qec a b a h k;rw [qd8] at this;cases this
theorem qv4 {a b:List UInt8} (h:ltN a b=true):a≠b:=by rintro rfl;rw [qd8] at h;cases h
theorem qt7:∀a b:List UInt8,(Lib.compareBytes a b<0↔ltN a b=true)∧(Lib.compareBytes a b=0↔a=b)
 | [],[]=>by simp [Lib.compareBytes,ltN]
 | [],_::_=>by simp [Lib.compareBytes,ltN]
 | _::_,[]=>by simp [Lib.compareBytes,ltN]
 | a::s,b::t=>by
  have ih:=qt7 s t
  by_cases h1:a<b
  ·have hne:a≠b:=by rintro rfl;exact UInt8.lt_irrefl _ h1
   simp [Lib.compareBytes,ltN,h1,hne]
  ·by_cases h2:b<a
   ·have hne:a≠b:=by rintro rfl;exact UInt8.lt_irrefl _ h2
    simp [Lib.compareBytes,ltN,h1,h2,hne]
   ·have e:a=b:=by
     have h3:¬a.toNat<b.toNat:=fun h=>h1 (UInt8.lt_iff_toNat_lt.2 h)
     have h4:¬b.toNat<a.toNat:=fun h=>h2 (UInt8.lt_iff_toNat_lt.2 h)
     exact UInt8.toNat_inj.1 (by omega)
    subst e
    simp [Lib.compareBytes,ltN,UInt8.lt_irrefl,ih.1,ih.2]
def qbm (s:List UInt8):Bool:=decide (1≤s.length) && decide (s.length≤16)
/-! ### files -/
def qan (fs:List Fl):List Ex:=fs.flatMap (·.2)
def bytX (x:Ex):List UInt8:=sm x.1.toNat++sm x.2.toNat
def bytE (l:List Ex):List UInt8:=l.flatMap bytX
def qcf (f:Fl):List UInt8:=tx f.1++(sm f.2.length++bytE f.2)
def bytF (fs:List Fl):List UInt8:=sm fs.length++fs.flatMap qcf
def oneF (f:Fl):Bool:=qbm f.1 && decide (1≤f.2.length) && decide (f.2.length≤64)
def qcg (fs:List Fl):Prop:=fs.Pairwise fun f g=>ltN f.1 g.1=true
instance (fs:List Fl):Decidable (qcg fs):=inferInstanceAs (Decidable (fs.Pairwise _))
def qen (fs:List Fl):Prop:=(∀f∈fs,oneF f=true)∧qcg fs
instance (fs:List Fl):Decidable (qen fs):=inferInstanceAs (Decidable (_∧_))
def extP (l:List Ex) (b:Int):Prop:=chkX l=0∧∀x∈l,34≤x.1∧x.1+x.2≤b
instance (l:List Ex) (b:Int):Decidable (extP l b):=inferInstanceAs (Decidable (_∧_))
def mayF (fs:List Fl) (b:Int):Prop:=fs.length≤40∧qen fs∧extP (qan fs) b∧(bytF fs).length≤2048
instance (fs:List Fl) (b:Int):Decidable (mayF fs b):=inferInstanceAs (Decidable (_∧_))
def blkP (b:Int):Prop:=34<b∧b≤4096
instance (b:Int):Decidable (blkP b):=inferInstanceAs (Decidable (_∧_))
def chkF (fs:List Fl) (b:Int):Int:=if ¬blkP b then 2 else if mayF fs b then 0 else 8
def posF (fs:List Fl) (s:List UInt8):Nat:=fs.countP fun f=>ltN f.1 s
def isF (fs:List Fl) (s:List UInt8):Bool:=fs.any fun f=>f.1==s
def getF (fs:List Fl) (s:List UInt8):List Ex:=((fs.find? fun f=>f.1==s).map (·.2)).getD []
def insF (fs:List Fl) (f:Fl):List Fl:=fs.take (posF fs f.1)++f::fs.drop (posF fs f.1)
def delF (fs:List Fl) (s:List UInt8):List Fl:=fs.filter fun f=>!(f.1==s)
def qaw (fs:List Fl) (s:List UInt8):Int:=if chkF fs 4096≠0 then chkF fs 4096 else if qbm s=false then 50 else if isF fs s then 0 else 6
def qdq (fs:List Fl) (s:List UInt8):Fl:=if qaw fs s=0 then (s,getF fs s) else ([],[])
def fitE (fs:List Fl):Int:=if (bytF fs).length≤2048 then 0 else 40
def qao (fs:List Fl) (s:List UInt8) (l:List Ex) (b:Int):Int:=
 if chkF fs b≠0 then chkF fs b else if qbm s=false then 50 else if isF fs s then 51 else if l=[]∨¬extP (qan fs++l) b then 8
 else if fs.length=40∨64<l.length then 40 else fitE (insF fs (s,l))
def qbd (fs:List Fl) (s:List UInt8) (l:List Ex) (b:Int):List Fl:=if qao fs s l b=0 then insF fs (s,l) else []
def renF (fs:List Fl) (s t:List UInt8):List Fl:=insF (delF (delF fs s) t) (t,getF fs s)
def qa0 (fs:List Fl) (s t:List UInt8):Int:=
 if chkF fs 4096≠0 then chkF fs 4096 else if qbm s=false∨qbm t=false then 50 else if isF fs s then fitE (renF fs s t) else 6
def qbs (fs:List Fl) (s t:List UInt8):List Fl:=if qa0 fs s t=0 then renF fs s t else []
def qde (fs:List Fl):List Ex:=if chkF fs 4096=0 then qan fs else []
theorem qi9 (fs:List Fl) (k:Nat) (h:k<fs.length):qan (fs.take (k+1))=qan (fs.take k)++(fs[k]).2:=by
 unfold qan;rw [List.take_succ_eq_append_getElem h,List.flatMap_append]
 simp
theorem qq8 (fs:List Fl) (k:Nat) (h:k<fs.length):(fs.take (k+1)).flatMap qcf=(fs.take k).flatMap qcf++qcf fs[k]:=by
 rw [List.take_succ_eq_append_getElem h,List.flatMap_append]
 simp
theorem qq9 (l:List Ex) (k:Nat) (h:k<l.length):bytE (l.take (k+1))=bytE (l.take k)++bytX l[k]:=by
 unfold bytE;rw [List.take_succ_eq_append_getElem h,List.flatMap_append]
 simp
theorem qyl {fs:List Fl} {f:Fl} (h:qcg (fs++[f])):qcg fs∧∀g∈fs,ltN g.1 f.1=true:=by
 unfold qcg at h;rw [List.pairwise_append] at h;exact ⟨h.1,fun g hg=>h.2.2 g hg f (by simp)⟩
theorem qaag {fs:List Fl} {f:Fl} (h:qcg fs) (hk:fs=[]∨∃p g,fs=p++[g]∧ltN g.1 f.1=true):qcg (fs++[f]):=by
 unfold qcg;rw [List.pairwise_append];refine ⟨h,by simp, ?_⟩;intro g hg x hx
 obtain rfl:x=f:=by simpa using hx
 rcases hk with rfl | ⟨p,y,rfl,hy⟩
 ·simp at hg
 ·rcases List.mem_append.1 hg with hg | hg
  ·exact qec _ _ _ ((qyl h).2 g hg) hy
  ·obtain rfl:g=y:=by simpa using hg
   exact hy
theorem qra:qen []:=⟨by simp,List.Pairwise.nil⟩
theorem qay {α:Type} (l:List α) (k:Nat) (h:k<l.length):l.take (k+1)=l.take k++[l[k]]:=List.take_succ_eq_append_getElem h
theorem qgr {fs:List Fl} {k:Nat} (h:k<fs.length) (hb:oneF fs[k]=false):¬qen fs:=fun e=>by
 have:=e.1 fs[k] (List.getElem_mem h);rw [hb] at this;cases this
theorem qna {fs:List Fl} {k:Nat} (h:k+1<fs.length) (hb:ltN (fs[k]).1 (fs[k+1]).1=false):¬qen fs:=fun e=>by
 have:=List.pairwise_iff_getElem.1 e.2 k (k+1) (by omega) h (by omega);rw [hb] at this;cases this
theorem qja {fs:List Fl} {k:Nat} (h:k<fs.length) (he:qen (fs.take k)) (ho:oneF fs[k]=true) (hl:∀j,(hj:j+1=k)→ltN (fs[j]).1 (fs[k]).1=true):qen (fs.take (k+1)):=by
 rw [qay fs k h];refine ⟨?_,qaag he.2 ?_⟩
 ·intro f hf
  rcases List.mem_append.1 hf with hf | hf
  ·exact he.1 f hf
  ·obtain rfl:f=fs[k]:=by simpa using hf
   exact ho
 ·cases k with
  | zero=>left;simp
  | succ j=>
   right
   exact ⟨fs.take j,fs[j],qay fs j (by omega),hl j rfl⟩
theorem qdg {f:Fl} (h:oneF f=true):1≤f.1.length∧f.1.length≤16∧1≤f.2.length∧f.2.length≤64:=by
 simp only [oneF,qbm,Bool.and_eq_true,decide_eq_true_eq] at h
 omega
theorem qajy {fs:List Fl} {s:List UInt8} {i:Nat} (hi:i≤fs.length) (h1:∀t,(h:t<fs.length)→t<i→ltN (fs[t]).1 s=true) (h2:∀t,(h:t<fs.length)→i≤t→ltN (fs[t]).1 s=false):posF fs s=i:=by
 have e:fs=fs.take i++fs.drop i:=(List.take_append_drop i fs).symm;unfold posF;rw [e,List.countP_append]
 have a1:(fs.take i).countP (fun f=>ltN f.1 s)=i:=by
  have:(fs.take i).countP (fun f=>ltN f.1 s)=(fs.take i).length:=by
   rw [List.countP_eq_length];intro f hf;obtain ⟨t,ht,rfl⟩:=List.mem_iff_getElem.1 hf;rw [List.length_take] at ht;rw [List.getElem_take];exact h1 t (by omega) (by omega)
  rw [this,List.length_take];omega
 have a2:(fs.drop i).countP (fun f=>ltN f.1 s)=0:=by
  rw [List.countP_eq_zero];intro f hf;obtain ⟨t,ht,rfl⟩:=List.mem_iff_getElem.1 hf;rw [List.length_drop] at ht;rw [List.getElem_drop]
  simp [h2 (i+t) (by omega) (by omega)]
 omega
theorem qaah (fs:List Fl) (s:List UInt8):posF fs s≤fs.length:=List.countP_le_length
theorem qkg {fs:List Fl} (h:qcg fs) {i j:Nat} (hij:i<j) (hj:j<fs.length):ltN (fs[i]).1 (fs[j]).1=true:=List.pairwise_iff_getElem.1 h i j (by omega) hj hij
theorem qo4 {fs:List Fl} (hr:qcg fs) (s:List UInt8):∀t,(h:t<fs.length)→(t<posF fs s→ltN (fs[t]).1 s=true)∧(posF fs s≤t→ltN (fs[t]).1 s=false):=by
 induction fs with
 | nil=>intro t h;simp at h
 | cons f r ih=>
  have hr':qcg r:=(List.pairwise_cons.1 hr).2;have hf:=(List.pairwise_cons.1 hr).1;intro t h
  cases hl:ltN f.1 s with
  | true=>
   have e:posF (f::r) s=posF r s+1:=by unfold posF;rw [List.countP_cons];simp [hl]
   rw [e]
   cases t with
   | zero=>exact ⟨fun _=>hl,fun h=>by omega⟩
   | succ t=>
    have:=ih hr' t (by simpa using h)
    simp only [List.getElem_cons_succ]
    exact ⟨fun h=>this.1 (by omega),fun h=>this.2 (by omega)⟩
  | false=>
   have z:∀g∈f::r,ltN g.1 s=false:=by
    intro g hg
    rcases List.mem_cons.1 hg with rfl | hg
    ·exact hl
    ·cases k:ltN g.1 s with
     | false=>rfl
     | true=>have:=qec _ _ _ (hf g hg) k;rw [hl] at this;cases this
   have e:posF (f::r) s=0:=by
    unfold posF;rw [List.countP_eq_zero];intro g hg
    simp [z g hg]
   rw [e];exact ⟨fun h=>by omega,fun _=>z _ (List.getElem_mem h)⟩
theorem qaip {fs:List Fl} (hr:qcg fs) (s:List UInt8):isF fs s=(if h:posF fs s<fs.length then (fs[posF fs s]).1==s else false):=by
 by_cases h:posF fs s<fs.length
 ·rw [dif_pos h]
  cases hq:(fs[posF fs s]).1==s with
  | true=>unfold isF;rw [List.any_eq_true];exact ⟨_,List.getElem_mem h,hq⟩
  | false=>
   unfold isF;rw [List.any_eq_false];intro g hg;obtain ⟨t,ht,rfl⟩:=List.mem_iff_getElem.1 hg;intro e
   have e:(fs[t]).1=s:=by simpa using e
   have p:=qo4 hr s t ht
   have h1:ltN (fs[t]).1 s=false:=by rw [e];exact qd8 s
   have h2:posF fs s≤t:=by
    rcases Nat.lt_or_ge t (posF fs s) with h | h
    ·rw [p.1 h] at h1;cases h1
    ·exact h
   rcases Nat.lt_or_eq_of_le h2 with h3 | h3
   ·have:=qkg hr h3 ht
    rw [e] at this
    have:=(qo4 hr s _ h).2 (Nat.le_refl _)
    simp_all
   ·subst h3;rw [e] at hq;simp at hq
 ·rw [dif_neg h]
  unfold isF;rw [List.any_eq_false];intro g hg;obtain ⟨t,ht,rfl⟩:=List.mem_iff_getElem.1 hg;intro e
  have e:(fs[t]).1=s:=by simpa using e
  have:=(qo4 hr s t ht).1 (by omega)
  rw [e,qd8] at this;cases this
theorem qo5 {fs:List Fl} (hr:qcg fs) {s:List UInt8} {t:Nat} (ht:t<fs.length) (e:(fs[t]).1=s):getF fs s=(fs[t]).2:=by
 have:fs.find? (fun f=>f.1==s)=some fs[t]:=by
  rw [List.find?_eq_some_iff_getElem];refine ⟨by simp [e],t,ht,rfl, ?_⟩;intro j hj
  have:=qkg hr hj ht
  rw [e] at this
  have:=qv4 this
  simp [this]
 simp [getF,this]
theorem qv5 {fs:List Fl} (hr:qcg fs) {s:List UInt8} (h:isF fs s=true):∃hp:posF fs s<fs.length,(fs[posF fs s]).1=s∧getF fs s=(fs[posF fs s]).2:=by
 rw [qaip hr] at h
 by_cases hp:posF fs s<fs.length
 ·rw [dif_pos hp] at h
  have e:(fs[posF fs s]).1=s:=by simpa using h
  exact ⟨hp,e,qo5 hr hp e⟩
 ·rw [dif_neg hp] at h;cases h
theorem qex {fs:List Fl} (h:qcg fs) (s:List UInt8):qcg (delF fs s):=List.Pairwise.sublist List.filter_sublist h
theorem sA (l:List Value) (i:Nat) (v:Value):l.toArray.setIfInBounds i v=(l.set i v).toArray:=by simp
theorem sB (x y:Value) (l:List Value):(x::l).set 0 y=y::l:=rfl
theorem sC (x y:Value) (l:List Value) (i:Nat):(x::l).set (i+1) y=x::l.set i y:=rfl
theorem bT {w a c:World} (A:Hid (Below w.heap.size w a)) (b:Below a.heap.size a c):Hid (Below w.heap.size w c):=A.out.trans (b.mono A.out.size)
end Go.Proofs.YtmeaiocohalphaaGreatDoor
